/- The law of order: ways. -/
import Derived.Test.YthbnhplkoomdhaaDoorOrdH
namespace Go.Proofs.YthbnhplkoomdhaaDoor
open Go Go.RowKit

set_option maxRecDepth 10000 in
set_option maxHeartbeats 8000000 in
theorem vpath_cmp_100_n (k n k' n' : Int) (t t' : Array UInt8) (w : World) (HLT : OpC #[60] (.agg #[.int .i64 k, .int .i64 n, .string { data := t }]) (.agg #[.int .i64 k', .int .i64 n', .string { data := t' }]) (.agg #[.int .i64 1, .int .i64 1, .string { data := #[] }]) #[]) (HEQ : OpC #[61, 61] (.agg #[.int .i64 k, .int .i64 n, .string { data := t }]) (.agg #[.int .i64 k', .int .i64 n', .string { data := t' }]) (.agg #[.int .i64 1, .int .i64 0, .string { data := #[] }]) #[]) (HGT : OpC #[62] (.agg #[.int .i64 k, .int .i64 n, .string { data := t }]) (.agg #[.int .i64 k', .int .i64 n', .string { data := t' }]) (.agg #[.int .i64 1, .int .i64 0, .string { data := #[] }]) #[]) (HCX : ∀ W, Calls Tryd.prog 15 #[.agg #[.int .i64 k, .int .i64 n, .string { data := t }]] W fun e w' => e = .returned (.bool true) ∧ Below W.heap.size W w') (HCY : ∀ W, Calls Tryd.prog 15 #[.agg #[.int .i64 k', .int .i64 n', .string { data := t' }]] W fun e w' => e = .returned (.bool true) ∧ Below W.heap.size W w') (HLONG : ∀ b W, W.heap[b]? = some (.cells #[.int .i64 k, .int .i64 n, .string { data := t }, .int .i64 k', .int .i64 n', .string { data := t' }] 24 (0, 0)) → Calls Tryd.prog 6 #[.slice (some ⟨b, 0, none⟩) 2 2] W fun e w' => e = .returned (.bool false) ∧ w' = W) (HLE : OpC #[60, 61] (.agg #[.int .i64 k, .int .i64 n, .string { data := t }]) (.agg #[.int .i64 k', .int .i64 n', .string { data := t' }]) (.agg #[.int .i64 1, .int .i64 1, .string { data := #[] }]) #[]) (HGE : OpC #[62, 61] (.agg #[.int .i64 k, .int .i64 n, .string { data := t }]) (.agg #[.int .i64 k', .int .i64 n', .string { data := t' }]) (.agg #[.int .i64 1, .int .i64 0, .string { data := #[] }]) #[]) (h1 : (k != k') = false) (h2 : (k != 2) = false) :
    Calls Tryd.prog 5 #[.agg #[.int .i64 k, .int .i64 n, .string { data := t }], .agg #[.int .i64 k', .int .i64 n', .string { data := t' }]] w fun e w' => e = .returned (.bool true) ∧ Below w.heap.size w w' := by
  have HLTX := Lib.hid HLT
  clear HLT
  have HEQX := Lib.hid HEQ
  clear HEQ
  have HGTX := Lib.hid HGT
  clear HGT
  have HCXX := Lib.hid HCX
  clear HCX
  have HCYX := Lib.hid HCY
  clear HCY
  have HLONGX := Lib.hid HLONG
  clear HLONG
  have HLEX := Lib.hid HLE
  clear HLE
  have HGEX := Lib.hid HGE
  clear HGE
  have hl3 : (((w.alloc (.cells #[.int .i64 k, .int .i64 n, .string { data := t }] 24)).alloc (.cells #[.int .i64 k', .int .i64 n', .string { data := t' }] 24)).alloc (.cells #[.int .i64 k, .int .i64 n, .string { data := t }, .int .i64 k', .int .i64 n', .string { data := t' }] 24)).heap[w.heap.size + 1 + 1]? = some (.cells #[.int .i64 k, .int .i64 n, .string { data := t }, .int .i64 k', .int .i64 n', .string { data := t' }] 24 (0, 0)) := newd w _ _ _
  have hx3 : (((w.alloc (.cells #[.int .i64 k, .int .i64 n, .string { data := t }] 24)).alloc (.cells #[.int .i64 k', .int .i64 n', .string { data := t' }] 24)).alloc (.cells #[.int .i64 k, .int .i64 n, .string { data := t }, .int .i64 k', .int .i64 n', .string { data := t' }] 24)).heap[w.heap.size]? = some (.cells #[.int .i64 k, .int .i64 n, .string { data := t }] 24 (0, 0)) := alloc_at (alloc_at (new_at w _))
  have hy3 : (((w.alloc (.cells #[.int .i64 k, .int .i64 n, .string { data := t }] 24)).alloc (.cells #[.int .i64 k', .int .i64 n', .string { data := t' }] 24)).alloc (.cells #[.int .i64 k, .int .i64 n, .string { data := t }, .int .i64 k', .int .i64 n', .string { data := t' }] 24)).heap[w.heap.size + 1]? = some (.cells #[.int .i64 k', .int .i64 n', .string { data := t' }] 24 (0, 0)) := alloc_at (by have := new_at (w.alloc (.cells #[.int .i64 k, .int .i64 n, .string { data := t }] 24)) (.cells #[.int .i64 k', .int .i64 n', .string { data := t' }] 24); simpa using this)
  have HL3 := Lib.hid hl3
  have HX3 := Lib.hid hx3
  have HY3 := Lib.hid hy3
  have HB3 : Hid (Below w.heap.size w (((w.alloc (.cells #[.int .i64 k, .int .i64 n, .string { data := t }] 24)).alloc (.cells #[.int .i64 k', .int .i64 n', .string { data := t' }] 24)).alloc (.cells #[.int .i64 k, .int .i64 n, .string { data := t }, .int .i64 k', .int .i64 n', .string { data := t' }] 24))) := Lib.hid (belowd w _ _ _)
  clear hl3 hx3 hy3
  go_enter Tryd.func5, Tryd.ntmps5
  go_wp2_with fail
  refine (HLONGX.out _ _ HL3.out).mono ?_
  rintro e w3 ⟨rfl, rfl⟩
  go_wp2_with fail
  generalize (((w.alloc (.cells #[.int .i64 k, .int .i64 n, .string { data := t }] 24)).alloc (.cells #[.int .i64 k', .int .i64 n', .string { data := t' }] 24)).alloc (.cells #[.int .i64 k, .int .i64 n, .string { data := t }, .int .i64 k', .int .i64 n', .string { data := t' }] 24)) = w3 at *
  refine (new_any 0 w3 (by omega)).mono ?_
  rintro e w4 ⟨H, ob, rfl, hH, hb4, _⟩
  have S4 : HasV w w4 H ob w.heap.size #[.int .i64 k, .int .i64 n, .string { data := t }] #[.int .i64 k', .int .i64 n', .string { data := t' }] := ⟨hH, (hb4.block _ (hlt HX3.out)).trans HX3.out, (hb4.block _ (hlt HY3.out)).trans HY3.out, HB3.out.trans (hb4.mono HB3.out.size)⟩
  have HS4 := Lib.hid S4
  clear S4 hH hb4 HL3 HX3 HY3 HB3
  obtain ⟨cx0, cx1, cx2⟩ := box3 HS4.out.x
  obtain ⟨cy0, cy1, cy2⟩ := box3 HS4.out.y
  go_wp2_with fail
  clear cx0 cx1 cx2 cy0 cy1 cy2
  refine (HLTX.out w4 H ob _ 0 0 HS4.out.heap).mono ?_
  rintro e w5o ⟨rfl, hb5⟩
  have S5 : HasV w (w5o.alloc (.cells #[.int .i64 1, .int .i64 1, .string { data := #[] }] 24)) H ob w.heap.size #[.int .i64 k, .int .i64 n, .string { data := t }] #[.int .i64 k', .int .i64 n', .string { data := t' }] := (HS4.out.grow hb5).alloc _
  have BL5 : (w5o.alloc (.cells #[.int .i64 1, .int .i64 1, .string { data := #[] }] 24)).heap[w5o.heap.size]? = some (.cells #[.int .i64 1, .int .i64 1, .string { data := #[] }] 24) := new_at _ _
  have HS5 := Lib.hid S5
  have HBL := Lib.hid BL5
  clear S5 hb5 BL5
  obtain ⟨cx0, cx1, cx2⟩ := box3 HS5.out.x
  obtain ⟨cy0, cy1, cy2⟩ := box3 HS5.out.y
  go_wp2_with fail
  generalize (w5o.alloc (.cells #[.int .i64 1, .int .i64 1, .string { data := #[] }] 24)) = w5 at *
  generalize w5o.heap.size = PL at *
  clear cx0 cx1 cx2 cy0 cy1 cy2
  refine (HEQX.out w5 H ob _ 0 0 HS5.out.heap).mono ?_
  rintro e w6o ⟨rfl, hb6⟩
  have S6 : HasV w (w6o.alloc (.cells #[.int .i64 1, .int .i64 0, .string { data := #[] }] 24)) H ob w.heap.size #[.int .i64 k, .int .i64 n, .string { data := t }] #[.int .i64 k', .int .i64 n', .string { data := t' }] := (HS5.out.grow hb6).alloc _
  have BL6 : (w6o.alloc (.cells #[.int .i64 1, .int .i64 0, .string { data := #[] }] 24)).heap[PL]? = some (.cells #[.int .i64 1, .int .i64 1, .string { data := #[] }] 24 (0, 0)) := alloc_at ((hb6.block _ (hlt HBL.out)).trans HBL.out)
  have BE6 : (w6o.alloc (.cells #[.int .i64 1, .int .i64 0, .string { data := #[] }] 24)).heap[w6o.heap.size]? = some (.cells #[.int .i64 1, .int .i64 0, .string { data := #[] }] 24) := new_at _ _
  have HS6 := Lib.hid S6
  clear HBL
  have HBL := Lib.hid BL6
  have HBE := Lib.hid BE6
  clear S6 hb6 BL6 BE6
  obtain ⟨cx0, cx1, cx2⟩ := box3 HS6.out.x
  obtain ⟨cy0, cy1, cy2⟩ := box3 HS6.out.y
  go_wp2_with fail
  generalize (w6o.alloc (.cells #[.int .i64 1, .int .i64 0, .string { data := #[] }] 24)) = w6 at *
  generalize w6o.heap.size = PE at *
  clear cx0 cx1 cx2 cy0 cy1 cy2
  refine (HGTX.out w6 H ob _ 0 0 HS6.out.heap).mono ?_
  rintro e w7o ⟨rfl, hb7⟩
  have S7 : HasV w (w7o.alloc (.cells #[.int .i64 1, .int .i64 0, .string { data := #[] }] 24)) H ob w.heap.size #[.int .i64 k, .int .i64 n, .string { data := t }] #[.int .i64 k', .int .i64 n', .string { data := t' }] := (HS6.out.grow hb7).alloc _
  have BL7 : (w7o.alloc (.cells #[.int .i64 1, .int .i64 0, .string { data := #[] }] 24)).heap[PL]? = some (.cells #[.int .i64 1, .int .i64 1, .string { data := #[] }] 24 (0, 0)) := alloc_at ((hb7.block _ (hlt HBL.out)).trans HBL.out)
  have BE7 : (w7o.alloc (.cells #[.int .i64 1, .int .i64 0, .string { data := #[] }] 24)).heap[PE]? = some (.cells #[.int .i64 1, .int .i64 0, .string { data := #[] }] 24 (0, 0)) := alloc_at ((hb7.block _ (hlt HBE.out)).trans HBE.out)
  have BG7 : (w7o.alloc (.cells #[.int .i64 1, .int .i64 0, .string { data := #[] }] 24)).heap[w7o.heap.size]? = some (.cells #[.int .i64 1, .int .i64 0, .string { data := #[] }] 24) := new_at _ _
  have HS7 := Lib.hid S7
  clear HBL
  clear HBE
  have HBL := Lib.hid BL7
  have HBE := Lib.hid BE7
  have HBG := Lib.hid BG7
  clear S7 hb7 BL7 BE7 BG7
  obtain ⟨cx0, cx1, cx2⟩ := box3 HS7.out.x
  obtain ⟨cy0, cy1, cy2⟩ := box3 HS7.out.y
  go_wp2_with fail
  generalize (w7o.alloc (.cells #[.int .i64 1, .int .i64 0, .string { data := #[] }] 24)) = w7 at *
  generalize w7o.heap.size = PG at *
  clear cx0 cx1 cx2 cy0 cy1 cy2
  refine (HCXX.out _).mono ?_
  rintro e w8 ⟨rfl, hb8⟩
  have HS8 := Lib.hid (HS7.out.grow hb8)
  have HBL := Lib.hid ((hb8.block _ (hlt HBL.out)).trans HBL.out)
  have HBE := Lib.hid ((hb8.block _ (hlt HBE.out)).trans HBE.out)
  have HBG := Lib.hid ((hb8.block _ (hlt HBG.out)).trans HBG.out)
  clear hb8
  obtain ⟨cy0, cy1, cy2⟩ := box3 HS8.out.y
  go_wp2_with fail
  clear cy0 cy1 cy2
  refine (HCYX.out _).mono ?_
  rintro e w9 ⟨rfl, hb9⟩
  have HS9 := Lib.hid (HS8.out.grow hb9)
  have HBL := Lib.hid ((hb9.block _ (hlt HBL.out)).trans HBL.out)
  have HBE := Lib.hid ((hb9.block _ (hlt HBE.out)).trans HBE.out)
  have HBG := Lib.hid ((hb9.block _ (hlt HBG.out)).trans HBG.out)
  clear hb9
  obtain ⟨cx0, cx1, cx2⟩ := box3 HS9.out.x
  obtain ⟨cy0, cy1, cy2⟩ := box3 HS9.out.y
  obtain ⟨cL0, cL1, cL2⟩ := box3 HBL.out
  go_wp2_with fail
  clear cx0 cx1 cx2 cy0 cy1 cy2 cL0 cL1 cL2
  refine (so_one _).mono ?_
  rintro e w10 ⟨rfl, hb10⟩
  have HS10 := Lib.hid (HS9.out.grow hb10)
  have HBL := Lib.hid ((hb10.block _ (hlt HBL.out)).trans HBL.out)
  have HBE := Lib.hid ((hb10.block _ (hlt HBE.out)).trans HBE.out)
  have HBG := Lib.hid ((hb10.block _ (hlt HBG.out)).trans HBG.out)
  clear hb10
  obtain ⟨cE0, cE1, cE2⟩ := box3 HBE.out
  go_wp2_with fail
  clear cE0 cE1 cE2
  refine (so_zero _).mono ?_
  rintro e w11 ⟨rfl, hb11⟩
  have HS11 := Lib.hid (HS10.out.grow hb11)
  have HBL := Lib.hid ((hb11.block _ (hlt HBL.out)).trans HBL.out)
  have HBE := Lib.hid ((hb11.block _ (hlt HBE.out)).trans HBE.out)
  have HBG := Lib.hid ((hb11.block _ (hlt HBG.out)).trans HBG.out)
  clear hb11
  obtain ⟨cG0, cG1, cG2⟩ := box3 HBG.out
  go_wp2_with fail
  clear cG0 cG1 cG2
  refine (so_zero _).mono ?_
  rintro e w12 ⟨rfl, hb12⟩
  have HS12 := Lib.hid (HS11.out.grow hb12)
  have HBL := Lib.hid ((hb12.block _ (hlt HBL.out)).trans HBL.out)
  have HBE := Lib.hid ((hb12.block _ (hlt HBE.out)).trans HBE.out)
  have HBG := Lib.hid ((hb12.block _ (hlt HBG.out)).trans HBG.out)
  clear hb12
  obtain ⟨cx0, cx1, cx2⟩ := box3 HS12.out.x
  obtain ⟨cy0, cy1, cy2⟩ := box3 HS12.out.y
  go_wp2_with fail
  clear cx0 cx1 cx2 cy0 cy1 cy2
  refine (HLEX.out w12 H ob _ 0 0 HS12.out.heap).mono ?_
  rintro e w13o ⟨rfl, hb13⟩
  have S13 : HasV w (w13o.alloc (.cells #[.int .i64 1, .int .i64 1, .string { data := #[] }] 24)) H ob w.heap.size #[.int .i64 k, .int .i64 n, .string { data := t }] #[.int .i64 k', .int .i64 n', .string { data := t' }] := (HS12.out.grow hb13).alloc _
  have BL13 : (w13o.alloc (.cells #[.int .i64 1, .int .i64 1, .string { data := #[] }] 24)).heap[PL]? = some (.cells #[.int .i64 1, .int .i64 1, .string { data := #[] }] 24 (0, 0)) := alloc_at ((hb13.block _ (hlt HBL.out)).trans HBL.out)
  have BE13 : (w13o.alloc (.cells #[.int .i64 1, .int .i64 1, .string { data := #[] }] 24)).heap[PE]? = some (.cells #[.int .i64 1, .int .i64 0, .string { data := #[] }] 24 (0, 0)) := alloc_at ((hb13.block _ (hlt HBE.out)).trans HBE.out)
  have BG13 : (w13o.alloc (.cells #[.int .i64 1, .int .i64 1, .string { data := #[] }] 24)).heap[PG]? = some (.cells #[.int .i64 1, .int .i64 0, .string { data := #[] }] 24 (0, 0)) := alloc_at ((hb13.block _ (hlt HBG.out)).trans HBG.out)
  have BU13 : (w13o.alloc (.cells #[.int .i64 1, .int .i64 1, .string { data := #[] }] 24)).heap[w13o.heap.size]? = some (.cells #[.int .i64 1, .int .i64 1, .string { data := #[] }] 24) := new_at _ _
  have HS13 := Lib.hid S13
  clear HBL
  clear HBE
  clear HBG
  have HBL := Lib.hid BL13
  have HBE := Lib.hid BE13
  have HBG := Lib.hid BG13
  have HBU := Lib.hid BU13
  clear S13 hb13 BL13 BE13 BG13 BU13
  obtain ⟨cx0, cx1, cx2⟩ := box3 HS13.out.x
  obtain ⟨cy0, cy1, cy2⟩ := box3 HS13.out.y
  go_wp2_with fail
  generalize (w13o.alloc (.cells #[.int .i64 1, .int .i64 1, .string { data := #[] }] 24)) = w13 at *
  generalize w13o.heap.size = PU at *
  clear cx0 cx1 cx2 cy0 cy1 cy2
  refine (HGEX.out w13 H ob _ 0 0 HS13.out.heap).mono ?_
  rintro e w14o ⟨rfl, hb14⟩
  have S14 : HasV w (w14o.alloc (.cells #[.int .i64 1, .int .i64 0, .string { data := #[] }] 24)) H ob w.heap.size #[.int .i64 k, .int .i64 n, .string { data := t }] #[.int .i64 k', .int .i64 n', .string { data := t' }] := (HS13.out.grow hb14).alloc _
  have BL14 : (w14o.alloc (.cells #[.int .i64 1, .int .i64 0, .string { data := #[] }] 24)).heap[PL]? = some (.cells #[.int .i64 1, .int .i64 1, .string { data := #[] }] 24 (0, 0)) := alloc_at ((hb14.block _ (hlt HBL.out)).trans HBL.out)
  have BE14 : (w14o.alloc (.cells #[.int .i64 1, .int .i64 0, .string { data := #[] }] 24)).heap[PE]? = some (.cells #[.int .i64 1, .int .i64 0, .string { data := #[] }] 24 (0, 0)) := alloc_at ((hb14.block _ (hlt HBE.out)).trans HBE.out)
  have BG14 : (w14o.alloc (.cells #[.int .i64 1, .int .i64 0, .string { data := #[] }] 24)).heap[PG]? = some (.cells #[.int .i64 1, .int .i64 0, .string { data := #[] }] 24 (0, 0)) := alloc_at ((hb14.block _ (hlt HBG.out)).trans HBG.out)
  have BU14 : (w14o.alloc (.cells #[.int .i64 1, .int .i64 0, .string { data := #[] }] 24)).heap[PU]? = some (.cells #[.int .i64 1, .int .i64 1, .string { data := #[] }] 24 (0, 0)) := alloc_at ((hb14.block _ (hlt HBU.out)).trans HBU.out)
  have BV14 : (w14o.alloc (.cells #[.int .i64 1, .int .i64 0, .string { data := #[] }] 24)).heap[w14o.heap.size]? = some (.cells #[.int .i64 1, .int .i64 0, .string { data := #[] }] 24) := new_at _ _
  have HS14 := Lib.hid S14
  clear HBL
  clear HBE
  clear HBG
  clear HBU
  have HBL := Lib.hid BL14
  have HBE := Lib.hid BE14
  have HBG := Lib.hid BG14
  have HBU := Lib.hid BU14
  have HBV := Lib.hid BV14
  clear S14 hb14 BL14 BE14 BG14 BU14 BV14
  go_wp2_with fail
  generalize (w14o.alloc (.cells #[.int .i64 1, .int .i64 0, .string { data := #[] }] 24)) = wq at *
  generalize w14o.heap.size = PV at *
  have zU : ∀ x : InW (Grown wq), x.w.heap[PU]? = some (.cells #[.int .i64 1, .int .i64 1, .string { data := #[] }] 24 (0, 0)) := fun x => (x.h.block _ (hlt HBU.out)).trans HBU.out
  have zU0 : ∀ x : InW (Grown wq), x.w.cell? ⟨PU, 0, none⟩ = some (.int .i64 1) := fun x => (box3 (zU x)).1
  have zU1 : ∀ x : InW (Grown wq), x.w.cell? ⟨PU, 1, none⟩ = some (.int .i64 1) := fun x => (box3 (zU x)).2.1
  have zU2 : ∀ x : InW (Grown wq), x.w.cell? ⟨PU, 2, none⟩ = some (.string { data := #[] }) := fun x => (box3 (zU x)).2.2
  clear zU
  have zG : ∀ x : InW (Grown wq), x.w.heap[PG]? = some (.cells #[.int .i64 1, .int .i64 0, .string { data := #[] }] 24 (0, 0)) := fun x => (x.h.block _ (hlt HBG.out)).trans HBG.out
  have zG0 : ∀ x : InW (Grown wq), x.w.cell? ⟨PG, 0, none⟩ = some (.int .i64 1) := fun x => (box3 (zG x)).1
  have zG1 : ∀ x : InW (Grown wq), x.w.cell? ⟨PG, 1, none⟩ = some (.int .i64 0) := fun x => (box3 (zG x)).2.1
  have zG2 : ∀ x : InW (Grown wq), x.w.cell? ⟨PG, 2, none⟩ = some (.string { data := #[] }) := fun x => (box3 (zG x)).2.2
  clear zG
  have zV : ∀ x : InW (Grown wq), x.w.heap[PV]? = some (.cells #[.int .i64 1, .int .i64 0, .string { data := #[] }] 24 (0, 0)) := fun x => (x.h.block _ (hlt HBV.out)).trans HBV.out
  have zV0 : ∀ x : InW (Grown wq), x.w.cell? ⟨PV, 0, none⟩ = some (.int .i64 1) := fun x => (box3 (zV x)).1
  have zV1 : ∀ x : InW (Grown wq), x.w.cell? ⟨PV, 1, none⟩ = some (.int .i64 0) := fun x => (box3 (zV x)).2.1
  have zV2 : ∀ x : InW (Grown wq), x.w.cell? ⟨PV, 2, none⟩ = some (.string { data := #[] }) := fun x => (box3 (zV x)).2.2
  clear zV
  have zL : ∀ x : InW (Grown wq), x.w.heap[PL]? = some (.cells #[.int .i64 1, .int .i64 1, .string { data := #[] }] 24 (0, 0)) := fun x => (x.h.block _ (hlt HBL.out)).trans HBL.out
  have zL0 : ∀ x : InW (Grown wq), x.w.cell? ⟨PL, 0, none⟩ = some (.int .i64 1) := fun x => (box3 (zL x)).1
  have zL1 : ∀ x : InW (Grown wq), x.w.cell? ⟨PL, 1, none⟩ = some (.int .i64 1) := fun x => (box3 (zL x)).2.1
  have zL2 : ∀ x : InW (Grown wq), x.w.cell? ⟨PL, 2, none⟩ = some (.string { data := #[] }) := fun x => (box3 (zL x)).2.2
  clear zL
  have H1 : Hid (∀ x : InW (Grown wq), Calls Tryd.prog 16 #[.agg #[.int .i64 1, .int .i64 1, .string { data := #[] }]] x.w (RetIn (Grown wq) (.bool true))) := fun x => ret_below (so_one x.w)
  have H0 : Hid (∀ x : InW (Grown wq), Calls Tryd.prog 16 #[.agg #[.int .i64 1, .int .i64 0, .string { data := #[] }]] x.w (RetIn (Grown wq) (.bool false))) := fun x => ret_below (so_zero x.w)
  have H7 : Hid (∀ x : InW (Grown wq), Calls Tryd.prog 7 #[] x.w (RetIn (Grown wq) (.bool true))) := fun x => ret_below (known_any x.w)
  have HIN : Nonempty (InW (Grown wq)) := ⟨⟨wq, Below.refl _ _⟩⟩
  refine region_in (Grown wq) (by kernel_rfl) (by kernel_rfl) (Below.refl _ _).drew ?_
  repeat (go_big_quiet_step ((rename_i x; with_reducible (first | exact H1.out x | exact H0.out x | exact H7.out x))))
  refine wpQuiet_nil ?_
  rintro _ ⟨x, rfl⟩
  have hbx := HS14.out.bel.trans (x.h.mono HS14.out.bel.size)
  go_wp2
  all_goals go_ret
  all_goals exact ⟨rfl, hbx⟩

set_option maxRecDepth 10000 in
set_option maxHeartbeats 8000000 in
theorem vpath_cmp_010_n (k n k' n' : Int) (t t' : Array UInt8) (w : World) (HLT : OpC #[60] (.agg #[.int .i64 k, .int .i64 n, .string { data := t }]) (.agg #[.int .i64 k', .int .i64 n', .string { data := t' }]) (.agg #[.int .i64 1, .int .i64 0, .string { data := #[] }]) #[]) (HEQ : OpC #[61, 61] (.agg #[.int .i64 k, .int .i64 n, .string { data := t }]) (.agg #[.int .i64 k', .int .i64 n', .string { data := t' }]) (.agg #[.int .i64 1, .int .i64 1, .string { data := #[] }]) #[]) (HGT : OpC #[62] (.agg #[.int .i64 k, .int .i64 n, .string { data := t }]) (.agg #[.int .i64 k', .int .i64 n', .string { data := t' }]) (.agg #[.int .i64 1, .int .i64 0, .string { data := #[] }]) #[]) (HCX : ∀ W, Calls Tryd.prog 15 #[.agg #[.int .i64 k, .int .i64 n, .string { data := t }]] W fun e w' => e = .returned (.bool true) ∧ Below W.heap.size W w') (HCY : ∀ W, Calls Tryd.prog 15 #[.agg #[.int .i64 k', .int .i64 n', .string { data := t' }]] W fun e w' => e = .returned (.bool true) ∧ Below W.heap.size W w') (HLONG : ∀ b W, W.heap[b]? = some (.cells #[.int .i64 k, .int .i64 n, .string { data := t }, .int .i64 k', .int .i64 n', .string { data := t' }] 24 (0, 0)) → Calls Tryd.prog 6 #[.slice (some ⟨b, 0, none⟩) 2 2] W fun e w' => e = .returned (.bool false) ∧ w' = W) (HLE : OpC #[60, 61] (.agg #[.int .i64 k, .int .i64 n, .string { data := t }]) (.agg #[.int .i64 k', .int .i64 n', .string { data := t' }]) (.agg #[.int .i64 1, .int .i64 1, .string { data := #[] }]) #[]) (HGE : OpC #[62, 61] (.agg #[.int .i64 k, .int .i64 n, .string { data := t }]) (.agg #[.int .i64 k', .int .i64 n', .string { data := t' }]) (.agg #[.int .i64 1, .int .i64 1, .string { data := #[] }]) #[]) (h1 : (k != k') = false) (h2 : (k != 2) = false) :
    Calls Tryd.prog 5 #[.agg #[.int .i64 k, .int .i64 n, .string { data := t }], .agg #[.int .i64 k', .int .i64 n', .string { data := t' }]] w fun e w' => e = .returned (.bool true) ∧ Below w.heap.size w w' := by
  have HLTX := Lib.hid HLT
  clear HLT
  have HEQX := Lib.hid HEQ
  clear HEQ
  have HGTX := Lib.hid HGT
  clear HGT
  have HCXX := Lib.hid HCX
  clear HCX
  have HCYX := Lib.hid HCY
  clear HCY
  have HLONGX := Lib.hid HLONG
  clear HLONG
  have HLEX := Lib.hid HLE
  clear HLE
  have HGEX := Lib.hid HGE
  clear HGE
  have hl3 : (((w.alloc (.cells #[.int .i64 k, .int .i64 n, .string { data := t }] 24)).alloc (.cells #[.int .i64 k', .int .i64 n', .string { data := t' }] 24)).alloc (.cells #[.int .i64 k, .int .i64 n, .string { data := t }, .int .i64 k', .int .i64 n', .string { data := t' }] 24)).heap[w.heap.size + 1 + 1]? = some (.cells #[.int .i64 k, .int .i64 n, .string { data := t }, .int .i64 k', .int .i64 n', .string { data := t' }] 24 (0, 0)) := newd w _ _ _
  have hx3 : (((w.alloc (.cells #[.int .i64 k, .int .i64 n, .string { data := t }] 24)).alloc (.cells #[.int .i64 k', .int .i64 n', .string { data := t' }] 24)).alloc (.cells #[.int .i64 k, .int .i64 n, .string { data := t }, .int .i64 k', .int .i64 n', .string { data := t' }] 24)).heap[w.heap.size]? = some (.cells #[.int .i64 k, .int .i64 n, .string { data := t }] 24 (0, 0)) := alloc_at (alloc_at (new_at w _))
  have hy3 : (((w.alloc (.cells #[.int .i64 k, .int .i64 n, .string { data := t }] 24)).alloc (.cells #[.int .i64 k', .int .i64 n', .string { data := t' }] 24)).alloc (.cells #[.int .i64 k, .int .i64 n, .string { data := t }, .int .i64 k', .int .i64 n', .string { data := t' }] 24)).heap[w.heap.size + 1]? = some (.cells #[.int .i64 k', .int .i64 n', .string { data := t' }] 24 (0, 0)) := alloc_at (by have := new_at (w.alloc (.cells #[.int .i64 k, .int .i64 n, .string { data := t }] 24)) (.cells #[.int .i64 k', .int .i64 n', .string { data := t' }] 24); simpa using this)
  have HL3 := Lib.hid hl3
  have HX3 := Lib.hid hx3
  have HY3 := Lib.hid hy3
  have HB3 : Hid (Below w.heap.size w (((w.alloc (.cells #[.int .i64 k, .int .i64 n, .string { data := t }] 24)).alloc (.cells #[.int .i64 k', .int .i64 n', .string { data := t' }] 24)).alloc (.cells #[.int .i64 k, .int .i64 n, .string { data := t }, .int .i64 k', .int .i64 n', .string { data := t' }] 24))) := Lib.hid (belowd w _ _ _)
  clear hl3 hx3 hy3
  go_enter Tryd.func5, Tryd.ntmps5
  go_wp2_with fail
  refine (HLONGX.out _ _ HL3.out).mono ?_
  rintro e w3 ⟨rfl, rfl⟩
  go_wp2_with fail
  generalize (((w.alloc (.cells #[.int .i64 k, .int .i64 n, .string { data := t }] 24)).alloc (.cells #[.int .i64 k', .int .i64 n', .string { data := t' }] 24)).alloc (.cells #[.int .i64 k, .int .i64 n, .string { data := t }, .int .i64 k', .int .i64 n', .string { data := t' }] 24)) = w3 at *
  refine (new_any 0 w3 (by omega)).mono ?_
  rintro e w4 ⟨H, ob, rfl, hH, hb4, _⟩
  have S4 : HasV w w4 H ob w.heap.size #[.int .i64 k, .int .i64 n, .string { data := t }] #[.int .i64 k', .int .i64 n', .string { data := t' }] := ⟨hH, (hb4.block _ (hlt HX3.out)).trans HX3.out, (hb4.block _ (hlt HY3.out)).trans HY3.out, HB3.out.trans (hb4.mono HB3.out.size)⟩
  have HS4 := Lib.hid S4
  clear S4 hH hb4 HL3 HX3 HY3 HB3
  obtain ⟨cx0, cx1, cx2⟩ := box3 HS4.out.x
  obtain ⟨cy0, cy1, cy2⟩ := box3 HS4.out.y
  go_wp2_with fail
  clear cx0 cx1 cx2 cy0 cy1 cy2
  refine (HLTX.out w4 H ob _ 0 0 HS4.out.heap).mono ?_
  rintro e w5o ⟨rfl, hb5⟩
  have S5 : HasV w (w5o.alloc (.cells #[.int .i64 1, .int .i64 0, .string { data := #[] }] 24)) H ob w.heap.size #[.int .i64 k, .int .i64 n, .string { data := t }] #[.int .i64 k', .int .i64 n', .string { data := t' }] := (HS4.out.grow hb5).alloc _
  have BL5 : (w5o.alloc (.cells #[.int .i64 1, .int .i64 0, .string { data := #[] }] 24)).heap[w5o.heap.size]? = some (.cells #[.int .i64 1, .int .i64 0, .string { data := #[] }] 24) := new_at _ _
  have HS5 := Lib.hid S5
  have HBL := Lib.hid BL5
  clear S5 hb5 BL5
  obtain ⟨cx0, cx1, cx2⟩ := box3 HS5.out.x
  obtain ⟨cy0, cy1, cy2⟩ := box3 HS5.out.y
  go_wp2_with fail
  generalize (w5o.alloc (.cells #[.int .i64 1, .int .i64 0, .string { data := #[] }] 24)) = w5 at *
  generalize w5o.heap.size = PL at *
  clear cx0 cx1 cx2 cy0 cy1 cy2
  refine (HEQX.out w5 H ob _ 0 0 HS5.out.heap).mono ?_
  rintro e w6o ⟨rfl, hb6⟩
  have S6 : HasV w (w6o.alloc (.cells #[.int .i64 1, .int .i64 1, .string { data := #[] }] 24)) H ob w.heap.size #[.int .i64 k, .int .i64 n, .string { data := t }] #[.int .i64 k', .int .i64 n', .string { data := t' }] := (HS5.out.grow hb6).alloc _
  have BL6 : (w6o.alloc (.cells #[.int .i64 1, .int .i64 1, .string { data := #[] }] 24)).heap[PL]? = some (.cells #[.int .i64 1, .int .i64 0, .string { data := #[] }] 24 (0, 0)) := alloc_at ((hb6.block _ (hlt HBL.out)).trans HBL.out)
  have BE6 : (w6o.alloc (.cells #[.int .i64 1, .int .i64 1, .string { data := #[] }] 24)).heap[w6o.heap.size]? = some (.cells #[.int .i64 1, .int .i64 1, .string { data := #[] }] 24) := new_at _ _
  have HS6 := Lib.hid S6
  clear HBL
  have HBL := Lib.hid BL6
  have HBE := Lib.hid BE6
  clear S6 hb6 BL6 BE6
  obtain ⟨cx0, cx1, cx2⟩ := box3 HS6.out.x
  obtain ⟨cy0, cy1, cy2⟩ := box3 HS6.out.y
  go_wp2_with fail
  generalize (w6o.alloc (.cells #[.int .i64 1, .int .i64 1, .string { data := #[] }] 24)) = w6 at *
  generalize w6o.heap.size = PE at *
  clear cx0 cx1 cx2 cy0 cy1 cy2
  refine (HGTX.out w6 H ob _ 0 0 HS6.out.heap).mono ?_
  rintro e w7o ⟨rfl, hb7⟩
  have S7 : HasV w (w7o.alloc (.cells #[.int .i64 1, .int .i64 0, .string { data := #[] }] 24)) H ob w.heap.size #[.int .i64 k, .int .i64 n, .string { data := t }] #[.int .i64 k', .int .i64 n', .string { data := t' }] := (HS6.out.grow hb7).alloc _
  have BL7 : (w7o.alloc (.cells #[.int .i64 1, .int .i64 0, .string { data := #[] }] 24)).heap[PL]? = some (.cells #[.int .i64 1, .int .i64 0, .string { data := #[] }] 24 (0, 0)) := alloc_at ((hb7.block _ (hlt HBL.out)).trans HBL.out)
  have BE7 : (w7o.alloc (.cells #[.int .i64 1, .int .i64 0, .string { data := #[] }] 24)).heap[PE]? = some (.cells #[.int .i64 1, .int .i64 1, .string { data := #[] }] 24 (0, 0)) := alloc_at ((hb7.block _ (hlt HBE.out)).trans HBE.out)
  have BG7 : (w7o.alloc (.cells #[.int .i64 1, .int .i64 0, .string { data := #[] }] 24)).heap[w7o.heap.size]? = some (.cells #[.int .i64 1, .int .i64 0, .string { data := #[] }] 24) := new_at _ _
  have HS7 := Lib.hid S7
  clear HBL
  clear HBE
  have HBL := Lib.hid BL7
  have HBE := Lib.hid BE7
  have HBG := Lib.hid BG7
  clear S7 hb7 BL7 BE7 BG7
  obtain ⟨cx0, cx1, cx2⟩ := box3 HS7.out.x
  obtain ⟨cy0, cy1, cy2⟩ := box3 HS7.out.y
  go_wp2_with fail
  generalize (w7o.alloc (.cells #[.int .i64 1, .int .i64 0, .string { data := #[] }] 24)) = w7 at *
  generalize w7o.heap.size = PG at *
  clear cx0 cx1 cx2 cy0 cy1 cy2
  refine (HCXX.out _).mono ?_
  rintro e w8 ⟨rfl, hb8⟩
  have HS8 := Lib.hid (HS7.out.grow hb8)
  have HBL := Lib.hid ((hb8.block _ (hlt HBL.out)).trans HBL.out)
  have HBE := Lib.hid ((hb8.block _ (hlt HBE.out)).trans HBE.out)
  have HBG := Lib.hid ((hb8.block _ (hlt HBG.out)).trans HBG.out)
  clear hb8
  obtain ⟨cy0, cy1, cy2⟩ := box3 HS8.out.y
  go_wp2_with fail
  clear cy0 cy1 cy2
  refine (HCYX.out _).mono ?_
  rintro e w9 ⟨rfl, hb9⟩
  have HS9 := Lib.hid (HS8.out.grow hb9)
  have HBL := Lib.hid ((hb9.block _ (hlt HBL.out)).trans HBL.out)
  have HBE := Lib.hid ((hb9.block _ (hlt HBE.out)).trans HBE.out)
  have HBG := Lib.hid ((hb9.block _ (hlt HBG.out)).trans HBG.out)
  clear hb9
  obtain ⟨cx0, cx1, cx2⟩ := box3 HS9.out.x
  obtain ⟨cy0, cy1, cy2⟩ := box3 HS9.out.y
  obtain ⟨cL0, cL1, cL2⟩ := box3 HBL.out
  go_wp2_with fail
  clear cx0 cx1 cx2 cy0 cy1 cy2 cL0 cL1 cL2
  refine (so_zero _).mono ?_
  rintro e w10 ⟨rfl, hb10⟩
  have HS10 := Lib.hid (HS9.out.grow hb10)
  have HBL := Lib.hid ((hb10.block _ (hlt HBL.out)).trans HBL.out)
  have HBE := Lib.hid ((hb10.block _ (hlt HBE.out)).trans HBE.out)
  have HBG := Lib.hid ((hb10.block _ (hlt HBG.out)).trans HBG.out)
  clear hb10
  obtain ⟨cE0, cE1, cE2⟩ := box3 HBE.out
  go_wp2_with fail
  clear cE0 cE1 cE2
  refine (so_one _).mono ?_
  rintro e w11 ⟨rfl, hb11⟩
  have HS11 := Lib.hid (HS10.out.grow hb11)
  have HBL := Lib.hid ((hb11.block _ (hlt HBL.out)).trans HBL.out)
  have HBE := Lib.hid ((hb11.block _ (hlt HBE.out)).trans HBE.out)
  have HBG := Lib.hid ((hb11.block _ (hlt HBG.out)).trans HBG.out)
  clear hb11
  obtain ⟨cG0, cG1, cG2⟩ := box3 HBG.out
  go_wp2_with fail
  clear cG0 cG1 cG2
  refine (so_zero _).mono ?_
  rintro e w12 ⟨rfl, hb12⟩
  have HS12 := Lib.hid (HS11.out.grow hb12)
  have HBL := Lib.hid ((hb12.block _ (hlt HBL.out)).trans HBL.out)
  have HBE := Lib.hid ((hb12.block _ (hlt HBE.out)).trans HBE.out)
  have HBG := Lib.hid ((hb12.block _ (hlt HBG.out)).trans HBG.out)
  clear hb12
  obtain ⟨cx0, cx1, cx2⟩ := box3 HS12.out.x
  obtain ⟨cy0, cy1, cy2⟩ := box3 HS12.out.y
  go_wp2_with fail
  clear cx0 cx1 cx2 cy0 cy1 cy2
  refine (HLEX.out w12 H ob _ 0 0 HS12.out.heap).mono ?_
  rintro e w13o ⟨rfl, hb13⟩
  have S13 : HasV w (w13o.alloc (.cells #[.int .i64 1, .int .i64 1, .string { data := #[] }] 24)) H ob w.heap.size #[.int .i64 k, .int .i64 n, .string { data := t }] #[.int .i64 k', .int .i64 n', .string { data := t' }] := (HS12.out.grow hb13).alloc _
  have BL13 : (w13o.alloc (.cells #[.int .i64 1, .int .i64 1, .string { data := #[] }] 24)).heap[PL]? = some (.cells #[.int .i64 1, .int .i64 0, .string { data := #[] }] 24 (0, 0)) := alloc_at ((hb13.block _ (hlt HBL.out)).trans HBL.out)
  have BE13 : (w13o.alloc (.cells #[.int .i64 1, .int .i64 1, .string { data := #[] }] 24)).heap[PE]? = some (.cells #[.int .i64 1, .int .i64 1, .string { data := #[] }] 24 (0, 0)) := alloc_at ((hb13.block _ (hlt HBE.out)).trans HBE.out)
  have BG13 : (w13o.alloc (.cells #[.int .i64 1, .int .i64 1, .string { data := #[] }] 24)).heap[PG]? = some (.cells #[.int .i64 1, .int .i64 0, .string { data := #[] }] 24 (0, 0)) := alloc_at ((hb13.block _ (hlt HBG.out)).trans HBG.out)
  have BU13 : (w13o.alloc (.cells #[.int .i64 1, .int .i64 1, .string { data := #[] }] 24)).heap[w13o.heap.size]? = some (.cells #[.int .i64 1, .int .i64 1, .string { data := #[] }] 24) := new_at _ _
  have HS13 := Lib.hid S13
  clear HBL
  clear HBE
  clear HBG
  have HBL := Lib.hid BL13
  have HBE := Lib.hid BE13
  have HBG := Lib.hid BG13
  have HBU := Lib.hid BU13
  clear S13 hb13 BL13 BE13 BG13 BU13
  obtain ⟨cx0, cx1, cx2⟩ := box3 HS13.out.x
  obtain ⟨cy0, cy1, cy2⟩ := box3 HS13.out.y
  go_wp2_with fail
  generalize (w13o.alloc (.cells #[.int .i64 1, .int .i64 1, .string { data := #[] }] 24)) = w13 at *
  generalize w13o.heap.size = PU at *
  clear cx0 cx1 cx2 cy0 cy1 cy2
  refine (HGEX.out w13 H ob _ 0 0 HS13.out.heap).mono ?_
  rintro e w14o ⟨rfl, hb14⟩
  have S14 : HasV w (w14o.alloc (.cells #[.int .i64 1, .int .i64 1, .string { data := #[] }] 24)) H ob w.heap.size #[.int .i64 k, .int .i64 n, .string { data := t }] #[.int .i64 k', .int .i64 n', .string { data := t' }] := (HS13.out.grow hb14).alloc _
  have BL14 : (w14o.alloc (.cells #[.int .i64 1, .int .i64 1, .string { data := #[] }] 24)).heap[PL]? = some (.cells #[.int .i64 1, .int .i64 0, .string { data := #[] }] 24 (0, 0)) := alloc_at ((hb14.block _ (hlt HBL.out)).trans HBL.out)
  have BE14 : (w14o.alloc (.cells #[.int .i64 1, .int .i64 1, .string { data := #[] }] 24)).heap[PE]? = some (.cells #[.int .i64 1, .int .i64 1, .string { data := #[] }] 24 (0, 0)) := alloc_at ((hb14.block _ (hlt HBE.out)).trans HBE.out)
  have BG14 : (w14o.alloc (.cells #[.int .i64 1, .int .i64 1, .string { data := #[] }] 24)).heap[PG]? = some (.cells #[.int .i64 1, .int .i64 0, .string { data := #[] }] 24 (0, 0)) := alloc_at ((hb14.block _ (hlt HBG.out)).trans HBG.out)
  have BU14 : (w14o.alloc (.cells #[.int .i64 1, .int .i64 1, .string { data := #[] }] 24)).heap[PU]? = some (.cells #[.int .i64 1, .int .i64 1, .string { data := #[] }] 24 (0, 0)) := alloc_at ((hb14.block _ (hlt HBU.out)).trans HBU.out)
  have BV14 : (w14o.alloc (.cells #[.int .i64 1, .int .i64 1, .string { data := #[] }] 24)).heap[w14o.heap.size]? = some (.cells #[.int .i64 1, .int .i64 1, .string { data := #[] }] 24) := new_at _ _
  have HS14 := Lib.hid S14
  clear HBL
  clear HBE
  clear HBG
  clear HBU
  have HBL := Lib.hid BL14
  have HBE := Lib.hid BE14
  have HBG := Lib.hid BG14
  have HBU := Lib.hid BU14
  have HBV := Lib.hid BV14
  clear S14 hb14 BL14 BE14 BG14 BU14 BV14
  go_wp2_with fail
  generalize (w14o.alloc (.cells #[.int .i64 1, .int .i64 1, .string { data := #[] }] 24)) = wq at *
  generalize w14o.heap.size = PV at *
  have zU : ∀ x : InW (Grown wq), x.w.heap[PU]? = some (.cells #[.int .i64 1, .int .i64 1, .string { data := #[] }] 24 (0, 0)) := fun x => (x.h.block _ (hlt HBU.out)).trans HBU.out
  have zU0 : ∀ x : InW (Grown wq), x.w.cell? ⟨PU, 0, none⟩ = some (.int .i64 1) := fun x => (box3 (zU x)).1
  have zU1 : ∀ x : InW (Grown wq), x.w.cell? ⟨PU, 1, none⟩ = some (.int .i64 1) := fun x => (box3 (zU x)).2.1
  have zU2 : ∀ x : InW (Grown wq), x.w.cell? ⟨PU, 2, none⟩ = some (.string { data := #[] }) := fun x => (box3 (zU x)).2.2
  clear zU
  have zG : ∀ x : InW (Grown wq), x.w.heap[PG]? = some (.cells #[.int .i64 1, .int .i64 0, .string { data := #[] }] 24 (0, 0)) := fun x => (x.h.block _ (hlt HBG.out)).trans HBG.out
  have zG0 : ∀ x : InW (Grown wq), x.w.cell? ⟨PG, 0, none⟩ = some (.int .i64 1) := fun x => (box3 (zG x)).1
  have zG1 : ∀ x : InW (Grown wq), x.w.cell? ⟨PG, 1, none⟩ = some (.int .i64 0) := fun x => (box3 (zG x)).2.1
  have zG2 : ∀ x : InW (Grown wq), x.w.cell? ⟨PG, 2, none⟩ = some (.string { data := #[] }) := fun x => (box3 (zG x)).2.2
  clear zG
  have zV : ∀ x : InW (Grown wq), x.w.heap[PV]? = some (.cells #[.int .i64 1, .int .i64 1, .string { data := #[] }] 24 (0, 0)) := fun x => (x.h.block _ (hlt HBV.out)).trans HBV.out
  have zV0 : ∀ x : InW (Grown wq), x.w.cell? ⟨PV, 0, none⟩ = some (.int .i64 1) := fun x => (box3 (zV x)).1
  have zV1 : ∀ x : InW (Grown wq), x.w.cell? ⟨PV, 1, none⟩ = some (.int .i64 1) := fun x => (box3 (zV x)).2.1
  have zV2 : ∀ x : InW (Grown wq), x.w.cell? ⟨PV, 2, none⟩ = some (.string { data := #[] }) := fun x => (box3 (zV x)).2.2
  clear zV
  have zL : ∀ x : InW (Grown wq), x.w.heap[PL]? = some (.cells #[.int .i64 1, .int .i64 0, .string { data := #[] }] 24 (0, 0)) := fun x => (x.h.block _ (hlt HBL.out)).trans HBL.out
  have zL0 : ∀ x : InW (Grown wq), x.w.cell? ⟨PL, 0, none⟩ = some (.int .i64 1) := fun x => (box3 (zL x)).1
  have zL1 : ∀ x : InW (Grown wq), x.w.cell? ⟨PL, 1, none⟩ = some (.int .i64 0) := fun x => (box3 (zL x)).2.1
  have zL2 : ∀ x : InW (Grown wq), x.w.cell? ⟨PL, 2, none⟩ = some (.string { data := #[] }) := fun x => (box3 (zL x)).2.2
  clear zL
  have H1 : Hid (∀ x : InW (Grown wq), Calls Tryd.prog 16 #[.agg #[.int .i64 1, .int .i64 1, .string { data := #[] }]] x.w (RetIn (Grown wq) (.bool true))) := fun x => ret_below (so_one x.w)
  have H0 : Hid (∀ x : InW (Grown wq), Calls Tryd.prog 16 #[.agg #[.int .i64 1, .int .i64 0, .string { data := #[] }]] x.w (RetIn (Grown wq) (.bool false))) := fun x => ret_below (so_zero x.w)
  have H7 : Hid (∀ x : InW (Grown wq), Calls Tryd.prog 7 #[] x.w (RetIn (Grown wq) (.bool true))) := fun x => ret_below (known_any x.w)
  have HIN : Nonempty (InW (Grown wq)) := ⟨⟨wq, Below.refl _ _⟩⟩
  refine region_in (Grown wq) (by kernel_rfl) (by kernel_rfl) (Below.refl _ _).drew ?_
  repeat (go_big_quiet_step ((rename_i x; with_reducible (first | exact H1.out x | exact H0.out x | exact H7.out x))))
  refine wpQuiet_nil ?_
  rintro _ ⟨x, rfl⟩
  have hbx := HS14.out.bel.trans (x.h.mono HS14.out.bel.size)
  go_wp2
  all_goals go_ret
  all_goals exact ⟨rfl, hbx⟩

set_option maxRecDepth 10000 in
set_option maxHeartbeats 8000000 in
theorem vpath_cmp_001_n (k n k' n' : Int) (t t' : Array UInt8) (w : World) (HLT : OpC #[60] (.agg #[.int .i64 k, .int .i64 n, .string { data := t }]) (.agg #[.int .i64 k', .int .i64 n', .string { data := t' }]) (.agg #[.int .i64 1, .int .i64 0, .string { data := #[] }]) #[]) (HEQ : OpC #[61, 61] (.agg #[.int .i64 k, .int .i64 n, .string { data := t }]) (.agg #[.int .i64 k', .int .i64 n', .string { data := t' }]) (.agg #[.int .i64 1, .int .i64 0, .string { data := #[] }]) #[]) (HGT : OpC #[62] (.agg #[.int .i64 k, .int .i64 n, .string { data := t }]) (.agg #[.int .i64 k', .int .i64 n', .string { data := t' }]) (.agg #[.int .i64 1, .int .i64 1, .string { data := #[] }]) #[]) (HCX : ∀ W, Calls Tryd.prog 15 #[.agg #[.int .i64 k, .int .i64 n, .string { data := t }]] W fun e w' => e = .returned (.bool true) ∧ Below W.heap.size W w') (HCY : ∀ W, Calls Tryd.prog 15 #[.agg #[.int .i64 k', .int .i64 n', .string { data := t' }]] W fun e w' => e = .returned (.bool true) ∧ Below W.heap.size W w') (HLONG : ∀ b W, W.heap[b]? = some (.cells #[.int .i64 k, .int .i64 n, .string { data := t }, .int .i64 k', .int .i64 n', .string { data := t' }] 24 (0, 0)) → Calls Tryd.prog 6 #[.slice (some ⟨b, 0, none⟩) 2 2] W fun e w' => e = .returned (.bool false) ∧ w' = W) (HLE : OpC #[60, 61] (.agg #[.int .i64 k, .int .i64 n, .string { data := t }]) (.agg #[.int .i64 k', .int .i64 n', .string { data := t' }]) (.agg #[.int .i64 1, .int .i64 0, .string { data := #[] }]) #[]) (HGE : OpC #[62, 61] (.agg #[.int .i64 k, .int .i64 n, .string { data := t }]) (.agg #[.int .i64 k', .int .i64 n', .string { data := t' }]) (.agg #[.int .i64 1, .int .i64 1, .string { data := #[] }]) #[]) (h1 : (k != k') = false) (h2 : (k != 2) = false) :
    Calls Tryd.prog 5 #[.agg #[.int .i64 k, .int .i64 n, .string { data := t }], .agg #[.int .i64 k', .int .i64 n', .string { data := t' }]] w fun e w' => e = .returned (.bool true) ∧ Below w.heap.size w w' := by
  have HLTX := Lib.hid HLT
  clear HLT
  have HEQX := Lib.hid HEQ
  clear HEQ
  have HGTX := Lib.hid HGT
  clear HGT
  have HCXX := Lib.hid HCX
  clear HCX
  have HCYX := Lib.hid HCY
  clear HCY
  have HLONGX := Lib.hid HLONG
  clear HLONG
  have HLEX := Lib.hid HLE
  clear HLE
  have HGEX := Lib.hid HGE
  clear HGE
  have hl3 : (((w.alloc (.cells #[.int .i64 k, .int .i64 n, .string { data := t }] 24)).alloc (.cells #[.int .i64 k', .int .i64 n', .string { data := t' }] 24)).alloc (.cells #[.int .i64 k, .int .i64 n, .string { data := t }, .int .i64 k', .int .i64 n', .string { data := t' }] 24)).heap[w.heap.size + 1 + 1]? = some (.cells #[.int .i64 k, .int .i64 n, .string { data := t }, .int .i64 k', .int .i64 n', .string { data := t' }] 24 (0, 0)) := newd w _ _ _
  have hx3 : (((w.alloc (.cells #[.int .i64 k, .int .i64 n, .string { data := t }] 24)).alloc (.cells #[.int .i64 k', .int .i64 n', .string { data := t' }] 24)).alloc (.cells #[.int .i64 k, .int .i64 n, .string { data := t }, .int .i64 k', .int .i64 n', .string { data := t' }] 24)).heap[w.heap.size]? = some (.cells #[.int .i64 k, .int .i64 n, .string { data := t }] 24 (0, 0)) := alloc_at (alloc_at (new_at w _))
  have hy3 : (((w.alloc (.cells #[.int .i64 k, .int .i64 n, .string { data := t }] 24)).alloc (.cells #[.int .i64 k', .int .i64 n', .string { data := t' }] 24)).alloc (.cells #[.int .i64 k, .int .i64 n, .string { data := t }, .int .i64 k', .int .i64 n', .string { data := t' }] 24)).heap[w.heap.size + 1]? = some (.cells #[.int .i64 k', .int .i64 n', .string { data := t' }] 24 (0, 0)) := alloc_at (by have := new_at (w.alloc (.cells #[.int .i64 k, .int .i64 n, .string { data := t }] 24)) (.cells #[.int .i64 k', .int .i64 n', .string { data := t' }] 24); simpa using this)
  have HL3 := Lib.hid hl3
  have HX3 := Lib.hid hx3
  have HY3 := Lib.hid hy3
  have HB3 : Hid (Below w.heap.size w (((w.alloc (.cells #[.int .i64 k, .int .i64 n, .string { data := t }] 24)).alloc (.cells #[.int .i64 k', .int .i64 n', .string { data := t' }] 24)).alloc (.cells #[.int .i64 k, .int .i64 n, .string { data := t }, .int .i64 k', .int .i64 n', .string { data := t' }] 24))) := Lib.hid (belowd w _ _ _)
  clear hl3 hx3 hy3
  go_enter Tryd.func5, Tryd.ntmps5
  go_wp2_with fail
  refine (HLONGX.out _ _ HL3.out).mono ?_
  rintro e w3 ⟨rfl, rfl⟩
  go_wp2_with fail
  generalize (((w.alloc (.cells #[.int .i64 k, .int .i64 n, .string { data := t }] 24)).alloc (.cells #[.int .i64 k', .int .i64 n', .string { data := t' }] 24)).alloc (.cells #[.int .i64 k, .int .i64 n, .string { data := t }, .int .i64 k', .int .i64 n', .string { data := t' }] 24)) = w3 at *
  refine (new_any 0 w3 (by omega)).mono ?_
  rintro e w4 ⟨H, ob, rfl, hH, hb4, _⟩
  have S4 : HasV w w4 H ob w.heap.size #[.int .i64 k, .int .i64 n, .string { data := t }] #[.int .i64 k', .int .i64 n', .string { data := t' }] := ⟨hH, (hb4.block _ (hlt HX3.out)).trans HX3.out, (hb4.block _ (hlt HY3.out)).trans HY3.out, HB3.out.trans (hb4.mono HB3.out.size)⟩
  have HS4 := Lib.hid S4
  clear S4 hH hb4 HL3 HX3 HY3 HB3
  obtain ⟨cx0, cx1, cx2⟩ := box3 HS4.out.x
  obtain ⟨cy0, cy1, cy2⟩ := box3 HS4.out.y
  go_wp2_with fail
  clear cx0 cx1 cx2 cy0 cy1 cy2
  refine (HLTX.out w4 H ob _ 0 0 HS4.out.heap).mono ?_
  rintro e w5o ⟨rfl, hb5⟩
  have S5 : HasV w (w5o.alloc (.cells #[.int .i64 1, .int .i64 0, .string { data := #[] }] 24)) H ob w.heap.size #[.int .i64 k, .int .i64 n, .string { data := t }] #[.int .i64 k', .int .i64 n', .string { data := t' }] := (HS4.out.grow hb5).alloc _
  have BL5 : (w5o.alloc (.cells #[.int .i64 1, .int .i64 0, .string { data := #[] }] 24)).heap[w5o.heap.size]? = some (.cells #[.int .i64 1, .int .i64 0, .string { data := #[] }] 24) := new_at _ _
  have HS5 := Lib.hid S5
  have HBL := Lib.hid BL5
  clear S5 hb5 BL5
  obtain ⟨cx0, cx1, cx2⟩ := box3 HS5.out.x
  obtain ⟨cy0, cy1, cy2⟩ := box3 HS5.out.y
  go_wp2_with fail
  generalize (w5o.alloc (.cells #[.int .i64 1, .int .i64 0, .string { data := #[] }] 24)) = w5 at *
  generalize w5o.heap.size = PL at *
  clear cx0 cx1 cx2 cy0 cy1 cy2
  refine (HEQX.out w5 H ob _ 0 0 HS5.out.heap).mono ?_
  rintro e w6o ⟨rfl, hb6⟩
  have S6 : HasV w (w6o.alloc (.cells #[.int .i64 1, .int .i64 0, .string { data := #[] }] 24)) H ob w.heap.size #[.int .i64 k, .int .i64 n, .string { data := t }] #[.int .i64 k', .int .i64 n', .string { data := t' }] := (HS5.out.grow hb6).alloc _
  have BL6 : (w6o.alloc (.cells #[.int .i64 1, .int .i64 0, .string { data := #[] }] 24)).heap[PL]? = some (.cells #[.int .i64 1, .int .i64 0, .string { data := #[] }] 24 (0, 0)) := alloc_at ((hb6.block _ (hlt HBL.out)).trans HBL.out)
  have BE6 : (w6o.alloc (.cells #[.int .i64 1, .int .i64 0, .string { data := #[] }] 24)).heap[w6o.heap.size]? = some (.cells #[.int .i64 1, .int .i64 0, .string { data := #[] }] 24) := new_at _ _
  have HS6 := Lib.hid S6
  clear HBL
  have HBL := Lib.hid BL6
  have HBE := Lib.hid BE6
  clear S6 hb6 BL6 BE6
  obtain ⟨cx0, cx1, cx2⟩ := box3 HS6.out.x
  obtain ⟨cy0, cy1, cy2⟩ := box3 HS6.out.y
  go_wp2_with fail
  generalize (w6o.alloc (.cells #[.int .i64 1, .int .i64 0, .string { data := #[] }] 24)) = w6 at *
  generalize w6o.heap.size = PE at *
  clear cx0 cx1 cx2 cy0 cy1 cy2
  refine (HGTX.out w6 H ob _ 0 0 HS6.out.heap).mono ?_
  rintro e w7o ⟨rfl, hb7⟩
  have S7 : HasV w (w7o.alloc (.cells #[.int .i64 1, .int .i64 1, .string { data := #[] }] 24)) H ob w.heap.size #[.int .i64 k, .int .i64 n, .string { data := t }] #[.int .i64 k', .int .i64 n', .string { data := t' }] := (HS6.out.grow hb7).alloc _
  have BL7 : (w7o.alloc (.cells #[.int .i64 1, .int .i64 1, .string { data := #[] }] 24)).heap[PL]? = some (.cells #[.int .i64 1, .int .i64 0, .string { data := #[] }] 24 (0, 0)) := alloc_at ((hb7.block _ (hlt HBL.out)).trans HBL.out)
  have BE7 : (w7o.alloc (.cells #[.int .i64 1, .int .i64 1, .string { data := #[] }] 24)).heap[PE]? = some (.cells #[.int .i64 1, .int .i64 0, .string { data := #[] }] 24 (0, 0)) := alloc_at ((hb7.block _ (hlt HBE.out)).trans HBE.out)
  have BG7 : (w7o.alloc (.cells #[.int .i64 1, .int .i64 1, .string { data := #[] }] 24)).heap[w7o.heap.size]? = some (.cells #[.int .i64 1, .int .i64 1, .string { data := #[] }] 24) := new_at _ _
  have HS7 := Lib.hid S7
  clear HBL
  clear HBE
  have HBL := Lib.hid BL7
  have HBE := Lib.hid BE7
  have HBG := Lib.hid BG7
  clear S7 hb7 BL7 BE7 BG7
  obtain ⟨cx0, cx1, cx2⟩ := box3 HS7.out.x
  obtain ⟨cy0, cy1, cy2⟩ := box3 HS7.out.y
  go_wp2_with fail
  generalize (w7o.alloc (.cells #[.int .i64 1, .int .i64 1, .string { data := #[] }] 24)) = w7 at *
  generalize w7o.heap.size = PG at *
  clear cx0 cx1 cx2 cy0 cy1 cy2
  refine (HCXX.out _).mono ?_
  rintro e w8 ⟨rfl, hb8⟩
  have HS8 := Lib.hid (HS7.out.grow hb8)
  have HBL := Lib.hid ((hb8.block _ (hlt HBL.out)).trans HBL.out)
  have HBE := Lib.hid ((hb8.block _ (hlt HBE.out)).trans HBE.out)
  have HBG := Lib.hid ((hb8.block _ (hlt HBG.out)).trans HBG.out)
  clear hb8
  obtain ⟨cy0, cy1, cy2⟩ := box3 HS8.out.y
  go_wp2_with fail
  clear cy0 cy1 cy2
  refine (HCYX.out _).mono ?_
  rintro e w9 ⟨rfl, hb9⟩
  have HS9 := Lib.hid (HS8.out.grow hb9)
  have HBL := Lib.hid ((hb9.block _ (hlt HBL.out)).trans HBL.out)
  have HBE := Lib.hid ((hb9.block _ (hlt HBE.out)).trans HBE.out)
  have HBG := Lib.hid ((hb9.block _ (hlt HBG.out)).trans HBG.out)
  clear hb9
  obtain ⟨cx0, cx1, cx2⟩ := box3 HS9.out.x
  obtain ⟨cy0, cy1, cy2⟩ := box3 HS9.out.y
  obtain ⟨cL0, cL1, cL2⟩ := box3 HBL.out
  go_wp2_with fail
  clear cx0 cx1 cx2 cy0 cy1 cy2 cL0 cL1 cL2
  refine (so_zero _).mono ?_
  rintro e w10 ⟨rfl, hb10⟩
  have HS10 := Lib.hid (HS9.out.grow hb10)
  have HBL := Lib.hid ((hb10.block _ (hlt HBL.out)).trans HBL.out)
  have HBE := Lib.hid ((hb10.block _ (hlt HBE.out)).trans HBE.out)
  have HBG := Lib.hid ((hb10.block _ (hlt HBG.out)).trans HBG.out)
  clear hb10
  obtain ⟨cE0, cE1, cE2⟩ := box3 HBE.out
  go_wp2_with fail
  clear cE0 cE1 cE2
  refine (so_zero _).mono ?_
  rintro e w11 ⟨rfl, hb11⟩
  have HS11 := Lib.hid (HS10.out.grow hb11)
  have HBL := Lib.hid ((hb11.block _ (hlt HBL.out)).trans HBL.out)
  have HBE := Lib.hid ((hb11.block _ (hlt HBE.out)).trans HBE.out)
  have HBG := Lib.hid ((hb11.block _ (hlt HBG.out)).trans HBG.out)
  clear hb11
  obtain ⟨cG0, cG1, cG2⟩ := box3 HBG.out
  go_wp2_with fail
  clear cG0 cG1 cG2
  refine (so_one _).mono ?_
  rintro e w12 ⟨rfl, hb12⟩
  have HS12 := Lib.hid (HS11.out.grow hb12)
  have HBL := Lib.hid ((hb12.block _ (hlt HBL.out)).trans HBL.out)
  have HBE := Lib.hid ((hb12.block _ (hlt HBE.out)).trans HBE.out)
  have HBG := Lib.hid ((hb12.block _ (hlt HBG.out)).trans HBG.out)
  clear hb12
  obtain ⟨cx0, cx1, cx2⟩ := box3 HS12.out.x
  obtain ⟨cy0, cy1, cy2⟩ := box3 HS12.out.y
  go_wp2_with fail
  clear cx0 cx1 cx2 cy0 cy1 cy2
  refine (HLEX.out w12 H ob _ 0 0 HS12.out.heap).mono ?_
  rintro e w13o ⟨rfl, hb13⟩
  have S13 : HasV w (w13o.alloc (.cells #[.int .i64 1, .int .i64 0, .string { data := #[] }] 24)) H ob w.heap.size #[.int .i64 k, .int .i64 n, .string { data := t }] #[.int .i64 k', .int .i64 n', .string { data := t' }] := (HS12.out.grow hb13).alloc _
  have BL13 : (w13o.alloc (.cells #[.int .i64 1, .int .i64 0, .string { data := #[] }] 24)).heap[PL]? = some (.cells #[.int .i64 1, .int .i64 0, .string { data := #[] }] 24 (0, 0)) := alloc_at ((hb13.block _ (hlt HBL.out)).trans HBL.out)
  have BE13 : (w13o.alloc (.cells #[.int .i64 1, .int .i64 0, .string { data := #[] }] 24)).heap[PE]? = some (.cells #[.int .i64 1, .int .i64 0, .string { data := #[] }] 24 (0, 0)) := alloc_at ((hb13.block _ (hlt HBE.out)).trans HBE.out)
  have BG13 : (w13o.alloc (.cells #[.int .i64 1, .int .i64 0, .string { data := #[] }] 24)).heap[PG]? = some (.cells #[.int .i64 1, .int .i64 1, .string { data := #[] }] 24 (0, 0)) := alloc_at ((hb13.block _ (hlt HBG.out)).trans HBG.out)
  have BU13 : (w13o.alloc (.cells #[.int .i64 1, .int .i64 0, .string { data := #[] }] 24)).heap[w13o.heap.size]? = some (.cells #[.int .i64 1, .int .i64 0, .string { data := #[] }] 24) := new_at _ _
  have HS13 := Lib.hid S13
  clear HBL
  clear HBE
  clear HBG
  have HBL := Lib.hid BL13
  have HBE := Lib.hid BE13
  have HBG := Lib.hid BG13
  have HBU := Lib.hid BU13
  clear S13 hb13 BL13 BE13 BG13 BU13
  obtain ⟨cx0, cx1, cx2⟩ := box3 HS13.out.x
  obtain ⟨cy0, cy1, cy2⟩ := box3 HS13.out.y
  go_wp2_with fail
  generalize (w13o.alloc (.cells #[.int .i64 1, .int .i64 0, .string { data := #[] }] 24)) = w13 at *
  generalize w13o.heap.size = PU at *
  clear cx0 cx1 cx2 cy0 cy1 cy2
  refine (HGEX.out w13 H ob _ 0 0 HS13.out.heap).mono ?_
  rintro e w14o ⟨rfl, hb14⟩
  have S14 : HasV w (w14o.alloc (.cells #[.int .i64 1, .int .i64 1, .string { data := #[] }] 24)) H ob w.heap.size #[.int .i64 k, .int .i64 n, .string { data := t }] #[.int .i64 k', .int .i64 n', .string { data := t' }] := (HS13.out.grow hb14).alloc _
  have BL14 : (w14o.alloc (.cells #[.int .i64 1, .int .i64 1, .string { data := #[] }] 24)).heap[PL]? = some (.cells #[.int .i64 1, .int .i64 0, .string { data := #[] }] 24 (0, 0)) := alloc_at ((hb14.block _ (hlt HBL.out)).trans HBL.out)
  have BE14 : (w14o.alloc (.cells #[.int .i64 1, .int .i64 1, .string { data := #[] }] 24)).heap[PE]? = some (.cells #[.int .i64 1, .int .i64 0, .string { data := #[] }] 24 (0, 0)) := alloc_at ((hb14.block _ (hlt HBE.out)).trans HBE.out)
  have BG14 : (w14o.alloc (.cells #[.int .i64 1, .int .i64 1, .string { data := #[] }] 24)).heap[PG]? = some (.cells #[.int .i64 1, .int .i64 1, .string { data := #[] }] 24 (0, 0)) := alloc_at ((hb14.block _ (hlt HBG.out)).trans HBG.out)
  have BU14 : (w14o.alloc (.cells #[.int .i64 1, .int .i64 1, .string { data := #[] }] 24)).heap[PU]? = some (.cells #[.int .i64 1, .int .i64 0, .string { data := #[] }] 24 (0, 0)) := alloc_at ((hb14.block _ (hlt HBU.out)).trans HBU.out)
  have BV14 : (w14o.alloc (.cells #[.int .i64 1, .int .i64 1, .string { data := #[] }] 24)).heap[w14o.heap.size]? = some (.cells #[.int .i64 1, .int .i64 1, .string { data := #[] }] 24) := new_at _ _
  have HS14 := Lib.hid S14
  clear HBL
  clear HBE
  clear HBG
  clear HBU
  have HBL := Lib.hid BL14
  have HBE := Lib.hid BE14
  have HBG := Lib.hid BG14
  have HBU := Lib.hid BU14
  have HBV := Lib.hid BV14
  clear S14 hb14 BL14 BE14 BG14 BU14 BV14
  go_wp2_with fail
  generalize (w14o.alloc (.cells #[.int .i64 1, .int .i64 1, .string { data := #[] }] 24)) = wq at *
  generalize w14o.heap.size = PV at *
  have zU : ∀ x : InW (Grown wq), x.w.heap[PU]? = some (.cells #[.int .i64 1, .int .i64 0, .string { data := #[] }] 24 (0, 0)) := fun x => (x.h.block _ (hlt HBU.out)).trans HBU.out
  have zU0 : ∀ x : InW (Grown wq), x.w.cell? ⟨PU, 0, none⟩ = some (.int .i64 1) := fun x => (box3 (zU x)).1
  have zU1 : ∀ x : InW (Grown wq), x.w.cell? ⟨PU, 1, none⟩ = some (.int .i64 0) := fun x => (box3 (zU x)).2.1
  have zU2 : ∀ x : InW (Grown wq), x.w.cell? ⟨PU, 2, none⟩ = some (.string { data := #[] }) := fun x => (box3 (zU x)).2.2
  clear zU
  have zG : ∀ x : InW (Grown wq), x.w.heap[PG]? = some (.cells #[.int .i64 1, .int .i64 1, .string { data := #[] }] 24 (0, 0)) := fun x => (x.h.block _ (hlt HBG.out)).trans HBG.out
  have zG0 : ∀ x : InW (Grown wq), x.w.cell? ⟨PG, 0, none⟩ = some (.int .i64 1) := fun x => (box3 (zG x)).1
  have zG1 : ∀ x : InW (Grown wq), x.w.cell? ⟨PG, 1, none⟩ = some (.int .i64 1) := fun x => (box3 (zG x)).2.1
  have zG2 : ∀ x : InW (Grown wq), x.w.cell? ⟨PG, 2, none⟩ = some (.string { data := #[] }) := fun x => (box3 (zG x)).2.2
  clear zG
  have zV : ∀ x : InW (Grown wq), x.w.heap[PV]? = some (.cells #[.int .i64 1, .int .i64 1, .string { data := #[] }] 24 (0, 0)) := fun x => (x.h.block _ (hlt HBV.out)).trans HBV.out
  have zV0 : ∀ x : InW (Grown wq), x.w.cell? ⟨PV, 0, none⟩ = some (.int .i64 1) := fun x => (box3 (zV x)).1
  have zV1 : ∀ x : InW (Grown wq), x.w.cell? ⟨PV, 1, none⟩ = some (.int .i64 1) := fun x => (box3 (zV x)).2.1
  have zV2 : ∀ x : InW (Grown wq), x.w.cell? ⟨PV, 2, none⟩ = some (.string { data := #[] }) := fun x => (box3 (zV x)).2.2
  clear zV
  have zL : ∀ x : InW (Grown wq), x.w.heap[PL]? = some (.cells #[.int .i64 1, .int .i64 0, .string { data := #[] }] 24 (0, 0)) := fun x => (x.h.block _ (hlt HBL.out)).trans HBL.out
  have zL0 : ∀ x : InW (Grown wq), x.w.cell? ⟨PL, 0, none⟩ = some (.int .i64 1) := fun x => (box3 (zL x)).1
  have zL1 : ∀ x : InW (Grown wq), x.w.cell? ⟨PL, 1, none⟩ = some (.int .i64 0) := fun x => (box3 (zL x)).2.1
  have zL2 : ∀ x : InW (Grown wq), x.w.cell? ⟨PL, 2, none⟩ = some (.string { data := #[] }) := fun x => (box3 (zL x)).2.2
  clear zL
  have H1 : Hid (∀ x : InW (Grown wq), Calls Tryd.prog 16 #[.agg #[.int .i64 1, .int .i64 1, .string { data := #[] }]] x.w (RetIn (Grown wq) (.bool true))) := fun x => ret_below (so_one x.w)
  have H0 : Hid (∀ x : InW (Grown wq), Calls Tryd.prog 16 #[.agg #[.int .i64 1, .int .i64 0, .string { data := #[] }]] x.w (RetIn (Grown wq) (.bool false))) := fun x => ret_below (so_zero x.w)
  have H7 : Hid (∀ x : InW (Grown wq), Calls Tryd.prog 7 #[] x.w (RetIn (Grown wq) (.bool true))) := fun x => ret_below (known_any x.w)
  have HIN : Nonempty (InW (Grown wq)) := ⟨⟨wq, Below.refl _ _⟩⟩
  refine region_in (Grown wq) (by kernel_rfl) (by kernel_rfl) (Below.refl _ _).drew ?_
  repeat (go_big_quiet_step ((rename_i x; with_reducible (first | exact H1.out x | exact H0.out x | exact H7.out x))))
  refine wpQuiet_nil ?_
  rintro _ ⟨x, rfl⟩
  have hbx := HS14.out.bel.trans (x.h.mono HS14.out.bel.size)
  go_wp2
  all_goals go_ret
  all_goals exact ⟨rfl, hbx⟩
end Go.Proofs.YthbnhplkoomdhaaDoor
