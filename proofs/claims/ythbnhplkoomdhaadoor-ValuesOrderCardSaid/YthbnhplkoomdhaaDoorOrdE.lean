/- The law of order: ways. -/
import Derived.Test.YthbnhplkoomdhaaDoorOrdH
namespace Go.Proofs.YthbnhplkoomdhaaDoor
open Go Go.RowKit

set_option maxHeartbeats 1000000 in
theorem vpath_long (k n k' n' : Int) (t t' : Array UInt8) (w : World) (HLONG : ∀ b W, W.heap[b]? = some (.cells #[.int .i64 k, .int .i64 n, .string { data := t }, .int .i64 k', .int .i64 n', .string { data := t' }] 24 (0, 0)) → Calls Tryd.prog 6 #[.slice (some ⟨b, 0, none⟩) 2 2] W fun e w' => e = .returned (.bool true) ∧ w' = W) :
    Calls Tryd.prog 5 #[.agg #[.int .i64 k, .int .i64 n, .string { data := t }], .agg #[.int .i64 k', .int .i64 n', .string { data := t' }]] w fun e w' => e = .returned (.bool true) ∧ Below w.heap.size w w' := by
  have HLONGX := Lib.hid HLONG
  clear HLONG
  have HL3 := Lib.hid (newd w (.cells #[.int .i64 k, .int .i64 n, .string { data := t }] 24) (.cells #[.int .i64 k', .int .i64 n', .string { data := t' }] 24) (.cells #[.int .i64 k, .int .i64 n, .string { data := t }, .int .i64 k', .int .i64 n', .string { data := t' }] 24))
  have HB3 := Lib.hid (belowd w (.cells #[.int .i64 k, .int .i64 n, .string { data := t }] 24) (.cells #[.int .i64 k', .int .i64 n', .string { data := t' }] 24) (.cells #[.int .i64 k, .int .i64 n, .string { data := t }, .int .i64 k', .int .i64 n', .string { data := t' }] 24))
  go_enter Tryd.func5, Tryd.ntmps5
  go_wp2_with fail
  refine (HLONGX.out _ _ HL3.out).mono ?_
  rintro e w3 ⟨rfl, rfl⟩
  go_wp2_with fail
  generalize (((w.alloc (.cells #[.int .i64 k, .int .i64 n, .string { data := t }] 24)).alloc (.cells #[.int .i64 k', .int .i64 n', .string { data := t' }] 24)).alloc (.cells #[.int .i64 k, .int .i64 n, .string { data := t }, .int .i64 k', .int .i64 n', .string { data := t' }] 24)) = w3 at *
  refine (known_any _).mono ?_
  rintro e wz ⟨rfl, hbz⟩
  have hfin := HB3.out.trans (hbz.mono HB3.out.size)
  go_wp2
  go_ret
  exact ⟨rfl, hfin⟩

set_option maxRecDepth 10000 in
set_option maxHeartbeats 8000000 in
theorem vpath_diff_same (k n k' n' : Int) (t t' : Array UInt8) (w : World) (HLT : OpC #[60] (.agg #[.int .i64 k, .int .i64 n, .string { data := t }]) (.agg #[.int .i64 k', .int .i64 n', .string { data := t' }]) (.agg #[.int .i64 0, .int .i64 0, .string { data := #[] }]) #[116, 121, 112, 101]) (HEQ : OpC #[61, 61] (.agg #[.int .i64 k, .int .i64 n, .string { data := t }]) (.agg #[.int .i64 k', .int .i64 n', .string { data := t' }]) (.agg #[.int .i64 1, .int .i64 1, .string { data := #[] }]) #[]) (HGT : OpC #[62] (.agg #[.int .i64 k, .int .i64 n, .string { data := t }]) (.agg #[.int .i64 k', .int .i64 n', .string { data := t' }]) (.agg #[.int .i64 0, .int .i64 0, .string { data := #[] }]) #[116, 121, 112, 101]) (HCX : ∀ W, Calls Tryd.prog 15 #[.agg #[.int .i64 k, .int .i64 n, .string { data := t }]] W fun e w' => e = .returned (.bool true) ∧ Below W.heap.size W w') (HCY : ∀ W, Calls Tryd.prog 15 #[.agg #[.int .i64 k', .int .i64 n', .string { data := t' }]] W fun e w' => e = .returned (.bool true) ∧ Below W.heap.size W w') (HLONG : ∀ b W, W.heap[b]? = some (.cells #[.int .i64 k, .int .i64 n, .string { data := t }, .int .i64 k', .int .i64 n', .string { data := t' }] 24 (0, 0)) → Calls Tryd.prog 6 #[.slice (some ⟨b, 0, none⟩) 2 2] W fun e w' => e = .returned (.bool false) ∧ w' = W) (h1 : (k != k') = false) (h2 : (k != 2) = true) (h3 : (k != 3) = true) :
    Calls Tryd.prog 5 #[.agg #[.int .i64 k, .int .i64 n, .string { data := t }], .agg #[.int .i64 k', .int .i64 n', .string { data := t' }]] w fun e w' => e = .returned (.bool true) ∧ Below w.heap.size w w' := by
  have HLTX := Lib.hid HLT
  clear HLT
  have HEQX := Lib.hid HEQ
  clear HEQ
  have HGTX := Lib.hid HGT
  clear HGT
  have HCXX := Lib.hid HCX
  clear HCX
  have HCYX := Lib.hid HCY
  clear HCY
  have HLONGX := Lib.hid HLONG
  clear HLONG
  have hl3 : (((w.alloc (.cells #[.int .i64 k, .int .i64 n, .string { data := t }] 24)).alloc (.cells #[.int .i64 k', .int .i64 n', .string { data := t' }] 24)).alloc (.cells #[.int .i64 k, .int .i64 n, .string { data := t }, .int .i64 k', .int .i64 n', .string { data := t' }] 24)).heap[w.heap.size + 1 + 1]? = some (.cells #[.int .i64 k, .int .i64 n, .string { data := t }, .int .i64 k', .int .i64 n', .string { data := t' }] 24 (0, 0)) := newd w _ _ _
  have hx3 : (((w.alloc (.cells #[.int .i64 k, .int .i64 n, .string { data := t }] 24)).alloc (.cells #[.int .i64 k', .int .i64 n', .string { data := t' }] 24)).alloc (.cells #[.int .i64 k, .int .i64 n, .string { data := t }, .int .i64 k', .int .i64 n', .string { data := t' }] 24)).heap[w.heap.size]? = some (.cells #[.int .i64 k, .int .i64 n, .string { data := t }] 24 (0, 0)) := alloc_at (alloc_at (new_at w _))
  have hy3 : (((w.alloc (.cells #[.int .i64 k, .int .i64 n, .string { data := t }] 24)).alloc (.cells #[.int .i64 k', .int .i64 n', .string { data := t' }] 24)).alloc (.cells #[.int .i64 k, .int .i64 n, .string { data := t }, .int .i64 k', .int .i64 n', .string { data := t' }] 24)).heap[w.heap.size + 1]? = some (.cells #[.int .i64 k', .int .i64 n', .string { data := t' }] 24 (0, 0)) := alloc_at (by have := new_at (w.alloc (.cells #[.int .i64 k, .int .i64 n, .string { data := t }] 24)) (.cells #[.int .i64 k', .int .i64 n', .string { data := t' }] 24); simpa using this)
  have HL3 := Lib.hid hl3
  have HX3 := Lib.hid hx3
  have HY3 := Lib.hid hy3
  have HB3 : Hid (Below w.heap.size w (((w.alloc (.cells #[.int .i64 k, .int .i64 n, .string { data := t }] 24)).alloc (.cells #[.int .i64 k', .int .i64 n', .string { data := t' }] 24)).alloc (.cells #[.int .i64 k, .int .i64 n, .string { data := t }, .int .i64 k', .int .i64 n', .string { data := t' }] 24))) := Lib.hid (belowd w _ _ _)
  clear hl3 hx3 hy3
  go_enter Tryd.func5, Tryd.ntmps5
  go_wp2_with fail
  refine (HLONGX.out _ _ HL3.out).mono ?_
  rintro e w3 ⟨rfl, rfl⟩
  go_wp2_with fail
  generalize (((w.alloc (.cells #[.int .i64 k, .int .i64 n, .string { data := t }] 24)).alloc (.cells #[.int .i64 k', .int .i64 n', .string { data := t' }] 24)).alloc (.cells #[.int .i64 k, .int .i64 n, .string { data := t }, .int .i64 k', .int .i64 n', .string { data := t' }] 24)) = w3 at *
  refine (new_any 0 w3 (by omega)).mono ?_
  rintro e w4 ⟨H, ob, rfl, hH, hb4, _⟩
  have S4 : HasV w w4 H ob w.heap.size #[.int .i64 k, .int .i64 n, .string { data := t }] #[.int .i64 k', .int .i64 n', .string { data := t' }] := ⟨hH, (hb4.block _ (hlt HX3.out)).trans HX3.out, (hb4.block _ (hlt HY3.out)).trans HY3.out, HB3.out.trans (hb4.mono HB3.out.size)⟩
  have HS4 := Lib.hid S4
  clear S4 hH hb4 HL3 HX3 HY3 HB3
  obtain ⟨cx0, cx1, cx2⟩ := box3 HS4.out.x
  obtain ⟨cy0, cy1, cy2⟩ := box3 HS4.out.y
  go_wp2_with fail
  clear cx0 cx1 cx2 cy0 cy1 cy2
  refine (HLTX.out w4 H ob _ 0 0 HS4.out.heap).mono ?_
  rintro e w5o ⟨rfl, hb5⟩
  have S5 : HasV w (w5o.alloc (.cells #[.int .i64 0, .int .i64 0, .string { data := #[] }] 24)) H ob w.heap.size #[.int .i64 k, .int .i64 n, .string { data := t }] #[.int .i64 k', .int .i64 n', .string { data := t' }] := (HS4.out.grow hb5).alloc _
  have BL5 : (w5o.alloc (.cells #[.int .i64 0, .int .i64 0, .string { data := #[] }] 24)).heap[w5o.heap.size]? = some (.cells #[.int .i64 0, .int .i64 0, .string { data := #[] }] 24) := new_at _ _
  have HS5 := Lib.hid S5
  have HBL := Lib.hid BL5
  clear S5 hb5 BL5
  obtain ⟨cx0, cx1, cx2⟩ := box3 HS5.out.x
  obtain ⟨cy0, cy1, cy2⟩ := box3 HS5.out.y
  go_wp2_with fail
  generalize (w5o.alloc (.cells #[.int .i64 0, .int .i64 0, .string { data := #[] }] 24)) = w5 at *
  generalize w5o.heap.size = PL at *
  clear cx0 cx1 cx2 cy0 cy1 cy2
  refine (HEQX.out w5 H ob _ 0 0 HS5.out.heap).mono ?_
  rintro e w6o ⟨rfl, hb6⟩
  have S6 : HasV w (w6o.alloc (.cells #[.int .i64 1, .int .i64 1, .string { data := #[] }] 24)) H ob w.heap.size #[.int .i64 k, .int .i64 n, .string { data := t }] #[.int .i64 k', .int .i64 n', .string { data := t' }] := (HS5.out.grow hb6).alloc _
  have BL6 : (w6o.alloc (.cells #[.int .i64 1, .int .i64 1, .string { data := #[] }] 24)).heap[PL]? = some (.cells #[.int .i64 0, .int .i64 0, .string { data := #[] }] 24 (0, 0)) := alloc_at ((hb6.block _ (hlt HBL.out)).trans HBL.out)
  have BE6 : (w6o.alloc (.cells #[.int .i64 1, .int .i64 1, .string { data := #[] }] 24)).heap[w6o.heap.size]? = some (.cells #[.int .i64 1, .int .i64 1, .string { data := #[] }] 24) := new_at _ _
  have HS6 := Lib.hid S6
  clear HBL
  have HBL := Lib.hid BL6
  have HBE := Lib.hid BE6
  clear S6 hb6 BL6 BE6
  obtain ⟨cx0, cx1, cx2⟩ := box3 HS6.out.x
  obtain ⟨cy0, cy1, cy2⟩ := box3 HS6.out.y
  go_wp2_with fail
  generalize (w6o.alloc (.cells #[.int .i64 1, .int .i64 1, .string { data := #[] }] 24)) = w6 at *
  generalize w6o.heap.size = PE at *
  clear cx0 cx1 cx2 cy0 cy1 cy2
  refine (HGTX.out w6 H ob _ 0 0 HS6.out.heap).mono ?_
  rintro e w7o ⟨rfl, hb7⟩
  have S7 : HasV w (w7o.alloc (.cells #[.int .i64 0, .int .i64 0, .string { data := #[] }] 24)) H ob w.heap.size #[.int .i64 k, .int .i64 n, .string { data := t }] #[.int .i64 k', .int .i64 n', .string { data := t' }] := (HS6.out.grow hb7).alloc _
  have BL7 : (w7o.alloc (.cells #[.int .i64 0, .int .i64 0, .string { data := #[] }] 24)).heap[PL]? = some (.cells #[.int .i64 0, .int .i64 0, .string { data := #[] }] 24 (0, 0)) := alloc_at ((hb7.block _ (hlt HBL.out)).trans HBL.out)
  have BE7 : (w7o.alloc (.cells #[.int .i64 0, .int .i64 0, .string { data := #[] }] 24)).heap[PE]? = some (.cells #[.int .i64 1, .int .i64 1, .string { data := #[] }] 24 (0, 0)) := alloc_at ((hb7.block _ (hlt HBE.out)).trans HBE.out)
  have BG7 : (w7o.alloc (.cells #[.int .i64 0, .int .i64 0, .string { data := #[] }] 24)).heap[w7o.heap.size]? = some (.cells #[.int .i64 0, .int .i64 0, .string { data := #[] }] 24) := new_at _ _
  have HS7 := Lib.hid S7
  clear HBL
  clear HBE
  have HBL := Lib.hid BL7
  have HBE := Lib.hid BE7
  have HBG := Lib.hid BG7
  clear S7 hb7 BL7 BE7 BG7
  obtain ⟨cx0, cx1, cx2⟩ := box3 HS7.out.x
  obtain ⟨cy0, cy1, cy2⟩ := box3 HS7.out.y
  go_wp2_with fail
  generalize (w7o.alloc (.cells #[.int .i64 0, .int .i64 0, .string { data := #[] }] 24)) = w7 at *
  generalize w7o.heap.size = PG at *
  clear cx0 cx1 cx2 cy0 cy1 cy2
  refine (HCXX.out _).mono ?_
  rintro e w8 ⟨rfl, hb8⟩
  have HS8 := Lib.hid (HS7.out.grow hb8)
  have HBL := Lib.hid ((hb8.block _ (hlt HBL.out)).trans HBL.out)
  have HBE := Lib.hid ((hb8.block _ (hlt HBE.out)).trans HBE.out)
  have HBG := Lib.hid ((hb8.block _ (hlt HBG.out)).trans HBG.out)
  clear hb8
  obtain ⟨cy0, cy1, cy2⟩ := box3 HS8.out.y
  go_wp2_with fail
  clear cy0 cy1 cy2
  refine (HCYX.out _).mono ?_
  rintro e w9 ⟨rfl, hb9⟩
  have HS9 := Lib.hid (HS8.out.grow hb9)
  have HBL := Lib.hid ((hb9.block _ (hlt HBL.out)).trans HBL.out)
  have HBE := Lib.hid ((hb9.block _ (hlt HBE.out)).trans HBE.out)
  have HBG := Lib.hid ((hb9.block _ (hlt HBG.out)).trans HBG.out)
  clear hb9
  obtain ⟨cx0, cx1, cx2⟩ := box3 HS9.out.x
  obtain ⟨cy0, cy1, cy2⟩ := box3 HS9.out.y
  go_wp2_with fail
  clear cx0 cx1 cx2 cy0 cy1 cy2
  refine (known_any _).mono ?_
  rintro e wz ⟨rfl, hbz⟩
  have hfin := HS9.out.bel.trans (hbz.mono HS9.out.bel.size)
  go_wp2
  go_ret
  exact ⟨rfl, hfin⟩
end Go.Proofs.YthbnhplkoomdhaaDoor
