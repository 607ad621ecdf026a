/- The law of numbers: ways. -/
import Derived.Test.YthbnhplkoomdhaaDoorNumH
namespace Go.Proofs.YthbnhplkoomdhaaDoor
open Go Go.RowKit

set_option maxRecDepth 10000 in
set_option maxHeartbeats 8000000 in
theorem path_mfine_sf_no_z (a b q r p d n : Int) (v : Bool) (w : World) (HDIV : OpC #[47] (valI a) (valI b) (.agg #[.int .i64 2, .int .i64 q, .string { data := #[] }]) #[]) (HREST : OpC #[37] (valI a) (valI b) (.agg #[.int .i64 2, .int .i64 r, .string { data := #[] }]) #[]) (hb0 : b ≠ 0) (HMUL : OpC #[42] (valI q) (valI b) (.agg #[.int .i64 2, .int .i64 p, .string { data := #[] }]) #[]) (HADD : OpC #[43] (.agg #[.int .i64 2, .int .i64 p, .string { data := #[] }]) (valI r) (.agg #[.int .i64 2, .int .i64 a, .string { data := #[] }]) #[]) (hr : r = 0) (HSUB : OpC #[45] (valI a) (valI b) (.agg #[.int .i64 2, .int .i64 d, .string { data := #[] }]) #[]) (HADDB : OpC #[43] (valI d) (valI b) (.agg #[.int .i64 2, .int .i64 a, .string { data := #[] }]) #[]) (HNEG : ∀ W, Calls Tryd.prog 14 #[valI a] W fun e w' => e = .returned (.tuple #[.agg #[.int .i64 0, .int .i64 0, .string { data := #[] }], .string { data := #[111, 118, 101, 114] }]) ∧ Below W.heap.size W w') (HSUBO : OpC #[45] (valI 0) (valI a) (.agg #[.int .i64 0, .int .i64 0, .string { data := #[] }]) #[111, 118, 101, 114]) :
    Calls Tryd.prog 4 #[.int .i64 a, .int .i64 b] w fun e w' => e = .returned (.bool true) ∧ Below w.heap.size w w' := by
  have HDIVX := Lib.hid HDIV
  clear HDIV
  have HRESTX := Lib.hid HREST
  clear HREST
  have HMULX := Lib.hid HMUL
  clear HMUL
  have HADDX := Lib.hid HADD
  clear HADD
  have HSUBX := Lib.hid HSUB
  clear HSUB
  have HADDBX := Lib.hid HADDB
  clear HADDB
  have HNEGX := Lib.hid HNEG
  clear HNEG
  have HSUBOX := Lib.hid HSUBO
  clear HSUBO
  have hbz := beq_no b 0 hb0
  have hrb := bne_no r 0 hr
  clear hr
  clear hb0
  go_enter Tryd.func4, Tryd.ntmps4
  go_wp2_with fail
  refine (new_any 0 w (by omega)).mono ?_
  rintro e w1 ⟨H, ob, rfl, hH, hb1, _⟩
  have HH := Lib.hid hH
  clear hH
  go_wp2_with fail
  refine (int_any a w1).mono ?_
  rintro e w2 ⟨rfl, hb2⟩
  go_wp2_with fail
  refine (int_any b w2).mono ?_
  rintro e w3 ⟨rfl, hb3⟩
  have hb123 := (hb1.trans (hb2.mono hb1.size)).trans (hb3.mono (hb1.trans (hb2.mono hb1.size)).size)
  have hh3 := (HH.out.below hb2).below hb3
  have S5 : Has w ((w3.alloc (.cells #[.int .i64 2, .int .i64 a, .string { data := #[] }] 24)).alloc (.cells #[.int .i64 2, .int .i64 b, .string { data := #[] }] 24)) H ob w3.heap.size (w3.heap.size + 1) a b := ⟨(hh3.below (below_alloc _ _)).below (below_alloc _ _), alloc_at (new_at w3 _), (by have := new_at (w3.alloc (.cells #[.int .i64 2, .int .i64 a, .string { data := #[] }] 24)) (.cells #[.int .i64 2, .int .i64 b, .string { data := #[] }] 24); simpa using this), (hb123.alloc hb123.size _).alloc (by have := hb123.size; simp; omega) _⟩
  clear hb1 hb2 hb3 hb123 hh3
  have HS5 := Lib.hid S5
  clear S5
  go_wp2_with fail
  generalize ((w3.alloc (.cells #[.int .i64 2, .int .i64 a, .string { data := #[] }] 24)).alloc (.cells #[.int .i64 2, .int .i64 b, .string { data := #[] }] 24)) = w5 at *
  generalize w3.heap.size = X at *
  refine (HDIVX.out w5 H ob _ 0 0 HS5.out.heap).mono ?_
  rintro e w6o ⟨rfl, hb6⟩
  have S6 : Has w (w6o.alloc (.cells #[.int .i64 2, .int .i64 q, .string { data := #[] }] 24)) H ob X (X + 1) a b := (HS5.out.grow hb6).alloc _
  have BQ6 : (w6o.alloc (.cells #[.int .i64 2, .int .i64 q, .string { data := #[] }] 24)).heap[w6o.heap.size]? = some (.cells #[.int .i64 2, .int .i64 q, .string { data := #[] }] 24) := new_at _ _
  obtain ⟨cx0, cx1, cx2⟩ := box3 S6.x
  obtain ⟨cy0, cy1, cy2⟩ := box3 S6.y
  have HS6 := Lib.hid S6
  have HBQ := Lib.hid BQ6
  clear S6 hb6 BQ6
  go_wp2_with fail
  generalize (w6o.alloc (.cells #[.int .i64 2, .int .i64 q, .string { data := #[] }] 24)) = w6 at *
  generalize w6o.heap.size = PQ at *
  clear cx0 cx1 cx2 cy0 cy1 cy2
  refine (HRESTX.out w6 H ob _ 0 0 HS6.out.heap).mono ?_
  rintro e w7o ⟨rfl, hb7⟩
  have S7 : Has w (w7o.alloc (.cells #[.int .i64 2, .int .i64 r, .string { data := #[] }] 24)) H ob X (X + 1) a b := (HS6.out.grow hb7).alloc _
  have BQ7 : (w7o.alloc (.cells #[.int .i64 2, .int .i64 r, .string { data := #[] }] 24)).heap[PQ]? = some (.cells #[.int .i64 2, .int .i64 q, .string { data := #[] }] 24 (0, 0)) := alloc_at ((hb7.block _ (hlt HBQ.out)).trans HBQ.out)
  have BR7 : (w7o.alloc (.cells #[.int .i64 2, .int .i64 r, .string { data := #[] }] 24)).heap[w7o.heap.size]? = some (.cells #[.int .i64 2, .int .i64 r, .string { data := #[] }] 24) := new_at _ _
  obtain ⟨cQ0, cQ1, cQ2⟩ := box3 BQ7
  obtain ⟨cy0, cy1, cy2⟩ := box3 S7.y
  have HS7 := Lib.hid S7
  clear HBQ
  have HBQ := Lib.hid BQ7
  have HBR := Lib.hid BR7
  clear S7 hb7 BQ7 BR7
  go_wp2_with fail
  generalize (w7o.alloc (.cells #[.int .i64 2, .int .i64 r, .string { data := #[] }] 24)) = w7 at *
  generalize w7o.heap.size = PR at *
  clear cQ0 cQ1 cQ2 cy0 cy1 cy2
  refine (HMULX.out w7 H ob _ 0 0 HS7.out.heap).mono ?_
  rintro e w8o ⟨rfl, hb8⟩
  have S8 : Has w (w8o.alloc (.cells #[.int .i64 2, .int .i64 p, .string { data := #[] }] 24)) H ob X (X + 1) a b := (HS7.out.grow hb8).alloc _
  have BQ8 : (w8o.alloc (.cells #[.int .i64 2, .int .i64 p, .string { data := #[] }] 24)).heap[PQ]? = some (.cells #[.int .i64 2, .int .i64 q, .string { data := #[] }] 24 (0, 0)) := alloc_at ((hb8.block _ (hlt HBQ.out)).trans HBQ.out)
  have BR8 : (w8o.alloc (.cells #[.int .i64 2, .int .i64 p, .string { data := #[] }] 24)).heap[PR]? = some (.cells #[.int .i64 2, .int .i64 r, .string { data := #[] }] 24 (0, 0)) := alloc_at ((hb8.block _ (hlt HBR.out)).trans HBR.out)
  have BP8 : (w8o.alloc (.cells #[.int .i64 2, .int .i64 p, .string { data := #[] }] 24)).heap[w8o.heap.size]? = some (.cells #[.int .i64 2, .int .i64 p, .string { data := #[] }] 24) := new_at _ _
  obtain ⟨cP0, cP1, cP2⟩ := box3 BP8
  obtain ⟨cR0, cR1, cR2⟩ := box3 BR8
  have HS8 := Lib.hid S8
  clear HBQ
  clear HBR
  have HBQ := Lib.hid BQ8
  have HBR := Lib.hid BR8
  have HBP := Lib.hid BP8
  clear S8 hb8 BQ8 BR8 BP8
  go_wp2_with fail
  generalize (w8o.alloc (.cells #[.int .i64 2, .int .i64 p, .string { data := #[] }] 24)) = w8 at *
  generalize w8o.heap.size = PP at *
  clear cP0 cP1 cP2 cR0 cR1 cR2
  clear HBQ
  refine (HADDX.out w8 H ob _ 0 0 HS8.out.heap).mono ?_
  rintro e w9o ⟨rfl, hb9⟩
  have S9 : Has w (w9o.alloc (.cells #[.int .i64 2, .int .i64 a, .string { data := #[] }] 24)) H ob X (X + 1) a b := (HS8.out.grow hb9).alloc _
  have BR9 : (w9o.alloc (.cells #[.int .i64 2, .int .i64 a, .string { data := #[] }] 24)).heap[PR]? = some (.cells #[.int .i64 2, .int .i64 r, .string { data := #[] }] 24 (0, 0)) := alloc_at ((hb9.block _ (hlt HBR.out)).trans HBR.out)
  have BP9 : (w9o.alloc (.cells #[.int .i64 2, .int .i64 a, .string { data := #[] }] 24)).heap[PP]? = some (.cells #[.int .i64 2, .int .i64 p, .string { data := #[] }] 24 (0, 0)) := alloc_at ((hb9.block _ (hlt HBP.out)).trans HBP.out)
  have BS9 : (w9o.alloc (.cells #[.int .i64 2, .int .i64 a, .string { data := #[] }] 24)).heap[w9o.heap.size]? = some (.cells #[.int .i64 2, .int .i64 a, .string { data := #[] }] 24) := new_at _ _
  obtain ⟨cS0, cS1, cS2⟩ := box3 BS9
  obtain ⟨cx0, cx1, cx2⟩ := box3 S9.x
  obtain ⟨cR0, cR1, cR2⟩ := box3 BR9
  obtain ⟨cy0, cy1, cy2⟩ := box3 S9.y
  have HS9 := Lib.hid S9
  clear HBR
  clear HBP
  have HBR := Lib.hid BR9
  have HBP := Lib.hid BP9
  have HBS := Lib.hid BS9
  clear S9 hb9 BR9 BP9 BS9
  have heq := eq24 a (w9o.alloc (.cells #[.int .i64 2, .int .i64 a, .string { data := #[] }] 24))
  go_wp2_with fail
  generalize (w9o.alloc (.cells #[.int .i64 2, .int .i64 a, .string { data := #[] }] 24)) = w9 at *
  generalize w9o.heap.size = PS at *
  clear cS0 cS1 cS2 cx0 cx1 cx2 cR0 cR1 cR2 cy0 cy1 cy2
  clear HBP
  clear HBR
  clear HBS
  refine (HSUBX.out w9 H ob _ 0 0 HS9.out.heap).mono ?_
  rintro e w10o ⟨rfl, hb10⟩
  have S10 : Has w (w10o.alloc (.cells #[.int .i64 2, .int .i64 d, .string { data := #[] }] 24)) H ob X (X + 1) a b := (HS9.out.grow hb10).alloc _
  have BD10 : (w10o.alloc (.cells #[.int .i64 2, .int .i64 d, .string { data := #[] }] 24)).heap[w10o.heap.size]? = some (.cells #[.int .i64 2, .int .i64 d, .string { data := #[] }] 24) := new_at _ _
  obtain ⟨cD0, cD1, cD2⟩ := box3 BD10
  obtain ⟨cy0, cy1, cy2⟩ := box3 S10.y
  have HS10 := Lib.hid S10
  have HBD := Lib.hid BD10
  clear S10 hb10 BD10
  go_wp2_with fail
  generalize (w10o.alloc (.cells #[.int .i64 2, .int .i64 d, .string { data := #[] }] 24)) = w10 at *
  generalize w10o.heap.size = PD at *
  clear cD0 cD1 cD2 cy0 cy1 cy2
  refine (HADDBX.out w10 H ob _ 0 0 HS10.out.heap).mono ?_
  rintro e w11o ⟨rfl, hb11⟩
  have S11 : Has w (w11o.alloc (.cells #[.int .i64 2, .int .i64 a, .string { data := #[] }] 24)) H ob X (X + 1) a b := (HS10.out.grow hb11).alloc _
  have BD11 : (w11o.alloc (.cells #[.int .i64 2, .int .i64 a, .string { data := #[] }] 24)).heap[PD]? = some (.cells #[.int .i64 2, .int .i64 d, .string { data := #[] }] 24 (0, 0)) := alloc_at ((hb11.block _ (hlt HBD.out)).trans HBD.out)
  have BT11 : (w11o.alloc (.cells #[.int .i64 2, .int .i64 a, .string { data := #[] }] 24)).heap[w11o.heap.size]? = some (.cells #[.int .i64 2, .int .i64 a, .string { data := #[] }] 24) := new_at _ _
  obtain ⟨cT0, cT1, cT2⟩ := box3 BT11
  obtain ⟨cx0, cx1, cx2⟩ := box3 S11.x
  have HS11 := Lib.hid S11
  clear HBD
  have HBD := Lib.hid BD11
  have HBT := Lib.hid BT11
  clear S11 hb11 BD11 BT11
  have heq := eq24 a (w11o.alloc (.cells #[.int .i64 2, .int .i64 a, .string { data := #[] }] 24))
  go_wp2_with fail
  generalize (w11o.alloc (.cells #[.int .i64 2, .int .i64 a, .string { data := #[] }] 24)) = w11 at *
  generalize w11o.heap.size = PT at *
  clear cT0 cT1 cT2 cx0 cx1 cx2
  clear HBD
  clear HBT
  refine (HNEGX.out w11).mono ?_
  rintro e w12o ⟨rfl, hb12⟩
  have S12 : Has w (w12o.alloc (.cells #[.int .i64 0, .int .i64 0, .string { data := #[] }] 24)) H ob X (X + 1) a b := (HS11.out.grow hb12).alloc _
  have BN12 : (w12o.alloc (.cells #[.int .i64 0, .int .i64 0, .string { data := #[] }] 24)).heap[w12o.heap.size]? = some (.cells #[.int .i64 0, .int .i64 0, .string { data := #[] }] 24) := new_at _ _
  obtain ⟨cx0, cx1, cx2⟩ := box3 S12.x
  have HS12 := Lib.hid S12
  have HBN := Lib.hid BN12
  clear S12 hb12 BN12
  go_wp2_with fail
  generalize (w12o.alloc (.cells #[.int .i64 0, .int .i64 0, .string { data := #[] }] 24)) = w12 at *
  generalize w12o.heap.size = PN at *
  clear cx0 cx1 cx2
  obtain ⟨cx0, cx1, cx2⟩ := box3 HS12.out.x
  have hXl := hlt HS12.out.x
  have CIA := Lib.hid (callI_a HS12.out HBN.out)
  have CIB := Lib.hid (callI_b HS12.out HBN.out)
  have CM0 := Lib.hid (fun wi (h : I0 w wi H ob X PN a b (#[.int .i64 0, .int .i64 0, .string { data := #[] }])) => callM_0 HSUBOX.out h)
  have CM1 := Lib.hid (fun wi G (h : I1 w wi H ob X PN a b (#[.int .i64 0, .int .i64 0, .string { data := #[] }]) G) => callM_1 HSUBOX.out h)
  have CM2 := Lib.hid (fun wi (h : I0 w wi H ob X PN a b (#[.int .i64 0, .int .i64 0, .string { data := #[] }])) => callM_2 HSUBOX.out h)
  go_region_held3 (fun W => W.cell? ⟨X, 0, none⟩ = some (.int .i64 2) ∧ W.cell? ⟨X, 1, none⟩ = some (.int .i64 a) ∧ W.cell? ⟨X, 2, none⟩ = some (.string { data := #[] }))
    (first | go_keep | assumption | (dsimp only; assumption))
    (first
      | (go_at_call 13
         with_reducible (refine CIA.out.mono ?_)
         rintro e wi ⟨rfl, Hi⟩
         have HI := Lib.hid Hi
         obtain ⟨ci0, ci1, ci2⟩ := box3 Hi.has.x
         have hXi := hlt Hi.has.x
         clear Hi)
      | (go_at_call 13
         with_reducible (refine CIB.out.mono ?_)
         rintro e wi ⟨rfl, Hi⟩
         have HI := Lib.hid Hi
         obtain ⟨ci0, ci1, ci2⟩ := box3 Hi.has.x
         have hXi := hlt Hi.has.x
         clear Hi)
      | (go_at_call 10
         with_reducible (refine (CM0.out _ HI.out).mono ?_)
         rintro e wm ⟨rfl, Hm⟩
         obtain ⟨cm0, cm1, cm2⟩ := box3 Hm.has.x
         have hXm := hlt Hm.has.x
         have HM := Lib.hid (fin_0 Hm)
         clear Hm)
      | (go_at_call 10
         with_reducible (refine (CM1.out _ _ HI.out).mono ?_)
         rintro e wm ⟨rfl, Hm⟩
         obtain ⟨cm0, cm1, cm2⟩ := box3 Hm.has.x
         have hXm := hlt Hm.has.x
         obtain ⟨z0, z1, z2⟩ := box3 Hm.z
         have hfz : ∀ q, wm.frozen? ⟨_, q, none⟩ = false := fun q => frozen_of_row wm _ q _ 24 Hm.z
         have hne := Hm.ne
         have HM := Lib.hid (fin_1 (x := .int .i64 0) (y := .int .i64 0) (z := .string { data := #[] }) Hm)
         have hk := box3 HM.out.x
         unfold store3W at hk
         clear Hm)
      | (go_at_call 10
         with_reducible (refine (CM2.out _ HI.out).mono ?_)
         rintro e wm ⟨rfl, Hm⟩
         obtain ⟨cm0, cm1, cm2⟩ := box3 Hm.has.x
         have hXm := hlt Hm.has.x
         obtain ⟨z0, z1, z2⟩ := box3 Hm.z
         have hfz : ∀ q, wm.frozen? ⟨_, q, none⟩ = false := fun q => frozen_of_row wm _ q _ 24 Hm.z
         have hne := Hm.ne
         have HM := Lib.hid (fin_1 (x := .int .i64 0) (y := .int .i64 0) (z := .string { data := #[] }) Hm)
         have hk := box3 HM.out.x
         unfold store3W at hk
         clear Hm)
    )
  all_goals have hcn := box3 HM.out.n
  all_goals have hcm := box3 HM.out.m
  all_goals have HE := eqFin0 HM.out
  all_goals (try unfold store3W at HM hcn hcm HE)
  all_goals obtain ⟨hcn0, hcn1, hcn2⟩ := hcn
  all_goals obtain ⟨hcm0, hcm1, hcm2⟩ := hcm
  all_goals go_wp2_with fail
  all_goals refine (known_any _).mono ?_
  all_goals rintro e wz ⟨rfl, hbz2⟩
  all_goals have hfin := HM.out.bel.trans (hbz2.mono HM.out.bel.size)
  all_goals go_wp2
  all_goals go_ret
  all_goals exact ⟨rfl, hfin⟩

set_option maxRecDepth 10000 in
set_option maxHeartbeats 8000000 in
theorem path_mfine_sf_no_s (a b q r p d n : Int) (v : Bool) (w : World) (HDIV : OpC #[47] (valI a) (valI b) (.agg #[.int .i64 2, .int .i64 q, .string { data := #[] }]) #[]) (HREST : OpC #[37] (valI a) (valI b) (.agg #[.int .i64 2, .int .i64 r, .string { data := #[] }]) #[]) (hb0 : b ≠ 0) (HMUL : OpC #[42] (valI q) (valI b) (.agg #[.int .i64 2, .int .i64 p, .string { data := #[] }]) #[]) (HADD : OpC #[43] (.agg #[.int .i64 2, .int .i64 p, .string { data := #[] }]) (valI r) (.agg #[.int .i64 2, .int .i64 a, .string { data := #[] }]) #[]) (hr : r ≠ 0) (hrv : decide (r < 0) = v) (hbv : decide (b < 0) = v) (HSUB : OpC #[45] (valI a) (valI b) (.agg #[.int .i64 2, .int .i64 d, .string { data := #[] }]) #[]) (HADDB : OpC #[43] (valI d) (valI b) (.agg #[.int .i64 2, .int .i64 a, .string { data := #[] }]) #[]) (HNEG : ∀ W, Calls Tryd.prog 14 #[valI a] W fun e w' => e = .returned (.tuple #[.agg #[.int .i64 0, .int .i64 0, .string { data := #[] }], .string { data := #[111, 118, 101, 114] }]) ∧ Below W.heap.size W w') (HSUBO : OpC #[45] (valI 0) (valI a) (.agg #[.int .i64 0, .int .i64 0, .string { data := #[] }]) #[111, 118, 101, 114]) :
    Calls Tryd.prog 4 #[.int .i64 a, .int .i64 b] w fun e w' => e = .returned (.bool true) ∧ Below w.heap.size w w' := by
  have HDIVX := Lib.hid HDIV
  clear HDIV
  have HRESTX := Lib.hid HREST
  clear HREST
  have HMULX := Lib.hid HMUL
  clear HMUL
  have HADDX := Lib.hid HADD
  clear HADD
  have HSUBX := Lib.hid HSUB
  clear HSUB
  have HADDBX := Lib.hid HADDB
  clear HADDB
  have HNEGX := Lib.hid HNEG
  clear HNEG
  have HSUBOX := Lib.hid HSUBO
  clear HSUBO
  have hbz := beq_no b 0 hb0
  have hrb := bne_of r 0 hr
  clear hr
  clear hb0
  go_enter Tryd.func4, Tryd.ntmps4
  go_wp2_with fail
  refine (new_any 0 w (by omega)).mono ?_
  rintro e w1 ⟨H, ob, rfl, hH, hb1, _⟩
  have HH := Lib.hid hH
  clear hH
  go_wp2_with fail
  refine (int_any a w1).mono ?_
  rintro e w2 ⟨rfl, hb2⟩
  go_wp2_with fail
  refine (int_any b w2).mono ?_
  rintro e w3 ⟨rfl, hb3⟩
  have hb123 := (hb1.trans (hb2.mono hb1.size)).trans (hb3.mono (hb1.trans (hb2.mono hb1.size)).size)
  have hh3 := (HH.out.below hb2).below hb3
  have S5 : Has w ((w3.alloc (.cells #[.int .i64 2, .int .i64 a, .string { data := #[] }] 24)).alloc (.cells #[.int .i64 2, .int .i64 b, .string { data := #[] }] 24)) H ob w3.heap.size (w3.heap.size + 1) a b := ⟨(hh3.below (below_alloc _ _)).below (below_alloc _ _), alloc_at (new_at w3 _), (by have := new_at (w3.alloc (.cells #[.int .i64 2, .int .i64 a, .string { data := #[] }] 24)) (.cells #[.int .i64 2, .int .i64 b, .string { data := #[] }] 24); simpa using this), (hb123.alloc hb123.size _).alloc (by have := hb123.size; simp; omega) _⟩
  clear hb1 hb2 hb3 hb123 hh3
  have HS5 := Lib.hid S5
  clear S5
  go_wp2_with fail
  generalize ((w3.alloc (.cells #[.int .i64 2, .int .i64 a, .string { data := #[] }] 24)).alloc (.cells #[.int .i64 2, .int .i64 b, .string { data := #[] }] 24)) = w5 at *
  generalize w3.heap.size = X at *
  refine (HDIVX.out w5 H ob _ 0 0 HS5.out.heap).mono ?_
  rintro e w6o ⟨rfl, hb6⟩
  have S6 : Has w (w6o.alloc (.cells #[.int .i64 2, .int .i64 q, .string { data := #[] }] 24)) H ob X (X + 1) a b := (HS5.out.grow hb6).alloc _
  have BQ6 : (w6o.alloc (.cells #[.int .i64 2, .int .i64 q, .string { data := #[] }] 24)).heap[w6o.heap.size]? = some (.cells #[.int .i64 2, .int .i64 q, .string { data := #[] }] 24) := new_at _ _
  obtain ⟨cx0, cx1, cx2⟩ := box3 S6.x
  obtain ⟨cy0, cy1, cy2⟩ := box3 S6.y
  have HS6 := Lib.hid S6
  have HBQ := Lib.hid BQ6
  clear S6 hb6 BQ6
  go_wp2_with fail
  generalize (w6o.alloc (.cells #[.int .i64 2, .int .i64 q, .string { data := #[] }] 24)) = w6 at *
  generalize w6o.heap.size = PQ at *
  clear cx0 cx1 cx2 cy0 cy1 cy2
  refine (HRESTX.out w6 H ob _ 0 0 HS6.out.heap).mono ?_
  rintro e w7o ⟨rfl, hb7⟩
  have S7 : Has w (w7o.alloc (.cells #[.int .i64 2, .int .i64 r, .string { data := #[] }] 24)) H ob X (X + 1) a b := (HS6.out.grow hb7).alloc _
  have BQ7 : (w7o.alloc (.cells #[.int .i64 2, .int .i64 r, .string { data := #[] }] 24)).heap[PQ]? = some (.cells #[.int .i64 2, .int .i64 q, .string { data := #[] }] 24 (0, 0)) := alloc_at ((hb7.block _ (hlt HBQ.out)).trans HBQ.out)
  have BR7 : (w7o.alloc (.cells #[.int .i64 2, .int .i64 r, .string { data := #[] }] 24)).heap[w7o.heap.size]? = some (.cells #[.int .i64 2, .int .i64 r, .string { data := #[] }] 24) := new_at _ _
  obtain ⟨cQ0, cQ1, cQ2⟩ := box3 BQ7
  obtain ⟨cy0, cy1, cy2⟩ := box3 S7.y
  have HS7 := Lib.hid S7
  clear HBQ
  have HBQ := Lib.hid BQ7
  have HBR := Lib.hid BR7
  clear S7 hb7 BQ7 BR7
  go_wp2_with fail
  generalize (w7o.alloc (.cells #[.int .i64 2, .int .i64 r, .string { data := #[] }] 24)) = w7 at *
  generalize w7o.heap.size = PR at *
  clear cQ0 cQ1 cQ2 cy0 cy1 cy2
  refine (HMULX.out w7 H ob _ 0 0 HS7.out.heap).mono ?_
  rintro e w8o ⟨rfl, hb8⟩
  have S8 : Has w (w8o.alloc (.cells #[.int .i64 2, .int .i64 p, .string { data := #[] }] 24)) H ob X (X + 1) a b := (HS7.out.grow hb8).alloc _
  have BQ8 : (w8o.alloc (.cells #[.int .i64 2, .int .i64 p, .string { data := #[] }] 24)).heap[PQ]? = some (.cells #[.int .i64 2, .int .i64 q, .string { data := #[] }] 24 (0, 0)) := alloc_at ((hb8.block _ (hlt HBQ.out)).trans HBQ.out)
  have BR8 : (w8o.alloc (.cells #[.int .i64 2, .int .i64 p, .string { data := #[] }] 24)).heap[PR]? = some (.cells #[.int .i64 2, .int .i64 r, .string { data := #[] }] 24 (0, 0)) := alloc_at ((hb8.block _ (hlt HBR.out)).trans HBR.out)
  have BP8 : (w8o.alloc (.cells #[.int .i64 2, .int .i64 p, .string { data := #[] }] 24)).heap[w8o.heap.size]? = some (.cells #[.int .i64 2, .int .i64 p, .string { data := #[] }] 24) := new_at _ _
  obtain ⟨cP0, cP1, cP2⟩ := box3 BP8
  obtain ⟨cR0, cR1, cR2⟩ := box3 BR8
  have HS8 := Lib.hid S8
  clear HBQ
  clear HBR
  have HBQ := Lib.hid BQ8
  have HBR := Lib.hid BR8
  have HBP := Lib.hid BP8
  clear S8 hb8 BQ8 BR8 BP8
  go_wp2_with fail
  generalize (w8o.alloc (.cells #[.int .i64 2, .int .i64 p, .string { data := #[] }] 24)) = w8 at *
  generalize w8o.heap.size = PP at *
  clear cP0 cP1 cP2 cR0 cR1 cR2
  clear HBQ
  refine (HADDX.out w8 H ob _ 0 0 HS8.out.heap).mono ?_
  rintro e w9o ⟨rfl, hb9⟩
  have S9 : Has w (w9o.alloc (.cells #[.int .i64 2, .int .i64 a, .string { data := #[] }] 24)) H ob X (X + 1) a b := (HS8.out.grow hb9).alloc _
  have BR9 : (w9o.alloc (.cells #[.int .i64 2, .int .i64 a, .string { data := #[] }] 24)).heap[PR]? = some (.cells #[.int .i64 2, .int .i64 r, .string { data := #[] }] 24 (0, 0)) := alloc_at ((hb9.block _ (hlt HBR.out)).trans HBR.out)
  have BP9 : (w9o.alloc (.cells #[.int .i64 2, .int .i64 a, .string { data := #[] }] 24)).heap[PP]? = some (.cells #[.int .i64 2, .int .i64 p, .string { data := #[] }] 24 (0, 0)) := alloc_at ((hb9.block _ (hlt HBP.out)).trans HBP.out)
  have BS9 : (w9o.alloc (.cells #[.int .i64 2, .int .i64 a, .string { data := #[] }] 24)).heap[w9o.heap.size]? = some (.cells #[.int .i64 2, .int .i64 a, .string { data := #[] }] 24) := new_at _ _
  obtain ⟨cS0, cS1, cS2⟩ := box3 BS9
  obtain ⟨cx0, cx1, cx2⟩ := box3 S9.x
  obtain ⟨cR0, cR1, cR2⟩ := box3 BR9
  obtain ⟨cy0, cy1, cy2⟩ := box3 S9.y
  have HS9 := Lib.hid S9
  clear HBR
  clear HBP
  have HBR := Lib.hid BR9
  have HBP := Lib.hid BP9
  have HBS := Lib.hid BS9
  clear S9 hb9 BR9 BP9 BS9
  have heq := eq24 a (w9o.alloc (.cells #[.int .i64 2, .int .i64 a, .string { data := #[] }] 24))
  go_wp2_with fail
  generalize (w9o.alloc (.cells #[.int .i64 2, .int .i64 a, .string { data := #[] }] 24)) = w9 at *
  generalize w9o.heap.size = PS at *
  clear cS0 cS1 cS2 cx0 cx1 cx2 cR0 cR1 cR2 cy0 cy1 cy2
  clear HBP
  clear HBR
  clear HBS
  refine (HSUBX.out w9 H ob _ 0 0 HS9.out.heap).mono ?_
  rintro e w10o ⟨rfl, hb10⟩
  have S10 : Has w (w10o.alloc (.cells #[.int .i64 2, .int .i64 d, .string { data := #[] }] 24)) H ob X (X + 1) a b := (HS9.out.grow hb10).alloc _
  have BD10 : (w10o.alloc (.cells #[.int .i64 2, .int .i64 d, .string { data := #[] }] 24)).heap[w10o.heap.size]? = some (.cells #[.int .i64 2, .int .i64 d, .string { data := #[] }] 24) := new_at _ _
  obtain ⟨cD0, cD1, cD2⟩ := box3 BD10
  obtain ⟨cy0, cy1, cy2⟩ := box3 S10.y
  have HS10 := Lib.hid S10
  have HBD := Lib.hid BD10
  clear S10 hb10 BD10
  go_wp2_with fail
  generalize (w10o.alloc (.cells #[.int .i64 2, .int .i64 d, .string { data := #[] }] 24)) = w10 at *
  generalize w10o.heap.size = PD at *
  clear cD0 cD1 cD2 cy0 cy1 cy2
  refine (HADDBX.out w10 H ob _ 0 0 HS10.out.heap).mono ?_
  rintro e w11o ⟨rfl, hb11⟩
  have S11 : Has w (w11o.alloc (.cells #[.int .i64 2, .int .i64 a, .string { data := #[] }] 24)) H ob X (X + 1) a b := (HS10.out.grow hb11).alloc _
  have BD11 : (w11o.alloc (.cells #[.int .i64 2, .int .i64 a, .string { data := #[] }] 24)).heap[PD]? = some (.cells #[.int .i64 2, .int .i64 d, .string { data := #[] }] 24 (0, 0)) := alloc_at ((hb11.block _ (hlt HBD.out)).trans HBD.out)
  have BT11 : (w11o.alloc (.cells #[.int .i64 2, .int .i64 a, .string { data := #[] }] 24)).heap[w11o.heap.size]? = some (.cells #[.int .i64 2, .int .i64 a, .string { data := #[] }] 24) := new_at _ _
  obtain ⟨cT0, cT1, cT2⟩ := box3 BT11
  obtain ⟨cx0, cx1, cx2⟩ := box3 S11.x
  have HS11 := Lib.hid S11
  clear HBD
  have HBD := Lib.hid BD11
  have HBT := Lib.hid BT11
  clear S11 hb11 BD11 BT11
  have heq := eq24 a (w11o.alloc (.cells #[.int .i64 2, .int .i64 a, .string { data := #[] }] 24))
  go_wp2_with fail
  generalize (w11o.alloc (.cells #[.int .i64 2, .int .i64 a, .string { data := #[] }] 24)) = w11 at *
  generalize w11o.heap.size = PT at *
  clear cT0 cT1 cT2 cx0 cx1 cx2
  clear HBD
  clear HBT
  refine (HNEGX.out w11).mono ?_
  rintro e w12o ⟨rfl, hb12⟩
  have S12 : Has w (w12o.alloc (.cells #[.int .i64 0, .int .i64 0, .string { data := #[] }] 24)) H ob X (X + 1) a b := (HS11.out.grow hb12).alloc _
  have BN12 : (w12o.alloc (.cells #[.int .i64 0, .int .i64 0, .string { data := #[] }] 24)).heap[w12o.heap.size]? = some (.cells #[.int .i64 0, .int .i64 0, .string { data := #[] }] 24) := new_at _ _
  obtain ⟨cx0, cx1, cx2⟩ := box3 S12.x
  have HS12 := Lib.hid S12
  have HBN := Lib.hid BN12
  clear S12 hb12 BN12
  go_wp2_with fail
  generalize (w12o.alloc (.cells #[.int .i64 0, .int .i64 0, .string { data := #[] }] 24)) = w12 at *
  generalize w12o.heap.size = PN at *
  clear cx0 cx1 cx2
  obtain ⟨cx0, cx1, cx2⟩ := box3 HS12.out.x
  have hXl := hlt HS12.out.x
  have CIA := Lib.hid (callI_a HS12.out HBN.out)
  have CIB := Lib.hid (callI_b HS12.out HBN.out)
  have CM0 := Lib.hid (fun wi (h : I0 w wi H ob X PN a b (#[.int .i64 0, .int .i64 0, .string { data := #[] }])) => callM_0 HSUBOX.out h)
  have CM1 := Lib.hid (fun wi G (h : I1 w wi H ob X PN a b (#[.int .i64 0, .int .i64 0, .string { data := #[] }]) G) => callM_1 HSUBOX.out h)
  have CM2 := Lib.hid (fun wi (h : I0 w wi H ob X PN a b (#[.int .i64 0, .int .i64 0, .string { data := #[] }])) => callM_2 HSUBOX.out h)
  go_region_held3 (fun W => W.cell? ⟨X, 0, none⟩ = some (.int .i64 2) ∧ W.cell? ⟨X, 1, none⟩ = some (.int .i64 a) ∧ W.cell? ⟨X, 2, none⟩ = some (.string { data := #[] }))
    (first | go_keep | assumption | (dsimp only; assumption))
    (first
      | (go_at_call 13
         with_reducible (refine CIA.out.mono ?_)
         rintro e wi ⟨rfl, Hi⟩
         have HI := Lib.hid Hi
         obtain ⟨ci0, ci1, ci2⟩ := box3 Hi.has.x
         have hXi := hlt Hi.has.x
         clear Hi)
      | (go_at_call 13
         with_reducible (refine CIB.out.mono ?_)
         rintro e wi ⟨rfl, Hi⟩
         have HI := Lib.hid Hi
         obtain ⟨ci0, ci1, ci2⟩ := box3 Hi.has.x
         have hXi := hlt Hi.has.x
         clear Hi)
      | (go_at_call 10
         with_reducible (refine (CM0.out _ HI.out).mono ?_)
         rintro e wm ⟨rfl, Hm⟩
         obtain ⟨cm0, cm1, cm2⟩ := box3 Hm.has.x
         have hXm := hlt Hm.has.x
         have HM := Lib.hid (fin_0 Hm)
         clear Hm)
      | (go_at_call 10
         with_reducible (refine (CM1.out _ _ HI.out).mono ?_)
         rintro e wm ⟨rfl, Hm⟩
         obtain ⟨cm0, cm1, cm2⟩ := box3 Hm.has.x
         have hXm := hlt Hm.has.x
         obtain ⟨z0, z1, z2⟩ := box3 Hm.z
         have hfz : ∀ q, wm.frozen? ⟨_, q, none⟩ = false := fun q => frozen_of_row wm _ q _ 24 Hm.z
         have hne := Hm.ne
         have HM := Lib.hid (fin_1 (x := .int .i64 0) (y := .int .i64 0) (z := .string { data := #[] }) Hm)
         have hk := box3 HM.out.x
         unfold store3W at hk
         clear Hm)
      | (go_at_call 10
         with_reducible (refine (CM2.out _ HI.out).mono ?_)
         rintro e wm ⟨rfl, Hm⟩
         obtain ⟨cm0, cm1, cm2⟩ := box3 Hm.has.x
         have hXm := hlt Hm.has.x
         obtain ⟨z0, z1, z2⟩ := box3 Hm.z
         have hfz : ∀ q, wm.frozen? ⟨_, q, none⟩ = false := fun q => frozen_of_row wm _ q _ 24 Hm.z
         have hne := Hm.ne
         have HM := Lib.hid (fin_1 (x := .int .i64 0) (y := .int .i64 0) (z := .string { data := #[] }) Hm)
         have hk := box3 HM.out.x
         unfold store3W at hk
         clear Hm)
    )
  all_goals have hcn := box3 HM.out.n
  all_goals have hcm := box3 HM.out.m
  all_goals have HE := eqFin0 HM.out
  all_goals (try unfold store3W at HM hcn hcm HE)
  all_goals obtain ⟨hcn0, hcn1, hcn2⟩ := hcn
  all_goals obtain ⟨hcm0, hcm1, hcm2⟩ := hcm
  all_goals go_wp2_with fail
  all_goals refine (known_any _).mono ?_
  all_goals rintro e wz ⟨rfl, hbz2⟩
  all_goals have hfin := HM.out.bel.trans (hbz2.mono HM.out.bel.size)
  all_goals go_wp2
  all_goals go_ret
  all_goals exact ⟨rfl, hfin⟩

set_option maxRecDepth 10000 in
set_option maxHeartbeats 8000000 in
theorem path_mfine_so_nf_z (a b q r p d n : Int) (v : Bool) (w : World) (HDIV : OpC #[47] (valI a) (valI b) (.agg #[.int .i64 2, .int .i64 q, .string { data := #[] }]) #[]) (HREST : OpC #[37] (valI a) (valI b) (.agg #[.int .i64 2, .int .i64 r, .string { data := #[] }]) #[]) (hb0 : b ≠ 0) (HMUL : OpC #[42] (valI q) (valI b) (.agg #[.int .i64 2, .int .i64 p, .string { data := #[] }]) #[]) (HADD : OpC #[43] (.agg #[.int .i64 2, .int .i64 p, .string { data := #[] }]) (valI r) (.agg #[.int .i64 2, .int .i64 a, .string { data := #[] }]) #[]) (hr : r = 0) (HSUB : OpC #[45] (valI a) (valI b) (.agg #[.int .i64 0, .int .i64 0, .string { data := #[] }]) #[111, 118, 101, 114]) (HNEG : ∀ W, Calls Tryd.prog 14 #[valI a] W fun e w' => e = .returned (.tuple #[.agg #[.int .i64 2, .int .i64 n, .string { data := #[] }], .string { data := #[] }]) ∧ Below W.heap.size W w') (HSUBO : OpC #[45] (valI 0) (valI a) (.agg #[.int .i64 2, .int .i64 n, .string { data := #[] }]) #[]) :
    Calls Tryd.prog 4 #[.int .i64 a, .int .i64 b] w fun e w' => e = .returned (.bool true) ∧ Below w.heap.size w w' := by
  have HDIVX := Lib.hid HDIV
  clear HDIV
  have HRESTX := Lib.hid HREST
  clear HREST
  have HMULX := Lib.hid HMUL
  clear HMUL
  have HADDX := Lib.hid HADD
  clear HADD
  have HSUBX := Lib.hid HSUB
  clear HSUB
  have HNEGX := Lib.hid HNEG
  clear HNEG
  have HSUBOX := Lib.hid HSUBO
  clear HSUBO
  have hbz := beq_no b 0 hb0
  have hrb := bne_no r 0 hr
  clear hr
  clear hb0
  go_enter Tryd.func4, Tryd.ntmps4
  go_wp2_with fail
  refine (new_any 0 w (by omega)).mono ?_
  rintro e w1 ⟨H, ob, rfl, hH, hb1, _⟩
  have HH := Lib.hid hH
  clear hH
  go_wp2_with fail
  refine (int_any a w1).mono ?_
  rintro e w2 ⟨rfl, hb2⟩
  go_wp2_with fail
  refine (int_any b w2).mono ?_
  rintro e w3 ⟨rfl, hb3⟩
  have hb123 := (hb1.trans (hb2.mono hb1.size)).trans (hb3.mono (hb1.trans (hb2.mono hb1.size)).size)
  have hh3 := (HH.out.below hb2).below hb3
  have S5 : Has w ((w3.alloc (.cells #[.int .i64 2, .int .i64 a, .string { data := #[] }] 24)).alloc (.cells #[.int .i64 2, .int .i64 b, .string { data := #[] }] 24)) H ob w3.heap.size (w3.heap.size + 1) a b := ⟨(hh3.below (below_alloc _ _)).below (below_alloc _ _), alloc_at (new_at w3 _), (by have := new_at (w3.alloc (.cells #[.int .i64 2, .int .i64 a, .string { data := #[] }] 24)) (.cells #[.int .i64 2, .int .i64 b, .string { data := #[] }] 24); simpa using this), (hb123.alloc hb123.size _).alloc (by have := hb123.size; simp; omega) _⟩
  clear hb1 hb2 hb3 hb123 hh3
  have HS5 := Lib.hid S5
  clear S5
  go_wp2_with fail
  generalize ((w3.alloc (.cells #[.int .i64 2, .int .i64 a, .string { data := #[] }] 24)).alloc (.cells #[.int .i64 2, .int .i64 b, .string { data := #[] }] 24)) = w5 at *
  generalize w3.heap.size = X at *
  refine (HDIVX.out w5 H ob _ 0 0 HS5.out.heap).mono ?_
  rintro e w6o ⟨rfl, hb6⟩
  have S6 : Has w (w6o.alloc (.cells #[.int .i64 2, .int .i64 q, .string { data := #[] }] 24)) H ob X (X + 1) a b := (HS5.out.grow hb6).alloc _
  have BQ6 : (w6o.alloc (.cells #[.int .i64 2, .int .i64 q, .string { data := #[] }] 24)).heap[w6o.heap.size]? = some (.cells #[.int .i64 2, .int .i64 q, .string { data := #[] }] 24) := new_at _ _
  obtain ⟨cx0, cx1, cx2⟩ := box3 S6.x
  obtain ⟨cy0, cy1, cy2⟩ := box3 S6.y
  have HS6 := Lib.hid S6
  have HBQ := Lib.hid BQ6
  clear S6 hb6 BQ6
  go_wp2_with fail
  generalize (w6o.alloc (.cells #[.int .i64 2, .int .i64 q, .string { data := #[] }] 24)) = w6 at *
  generalize w6o.heap.size = PQ at *
  clear cx0 cx1 cx2 cy0 cy1 cy2
  refine (HRESTX.out w6 H ob _ 0 0 HS6.out.heap).mono ?_
  rintro e w7o ⟨rfl, hb7⟩
  have S7 : Has w (w7o.alloc (.cells #[.int .i64 2, .int .i64 r, .string { data := #[] }] 24)) H ob X (X + 1) a b := (HS6.out.grow hb7).alloc _
  have BQ7 : (w7o.alloc (.cells #[.int .i64 2, .int .i64 r, .string { data := #[] }] 24)).heap[PQ]? = some (.cells #[.int .i64 2, .int .i64 q, .string { data := #[] }] 24 (0, 0)) := alloc_at ((hb7.block _ (hlt HBQ.out)).trans HBQ.out)
  have BR7 : (w7o.alloc (.cells #[.int .i64 2, .int .i64 r, .string { data := #[] }] 24)).heap[w7o.heap.size]? = some (.cells #[.int .i64 2, .int .i64 r, .string { data := #[] }] 24) := new_at _ _
  obtain ⟨cQ0, cQ1, cQ2⟩ := box3 BQ7
  obtain ⟨cy0, cy1, cy2⟩ := box3 S7.y
  have HS7 := Lib.hid S7
  clear HBQ
  have HBQ := Lib.hid BQ7
  have HBR := Lib.hid BR7
  clear S7 hb7 BQ7 BR7
  go_wp2_with fail
  generalize (w7o.alloc (.cells #[.int .i64 2, .int .i64 r, .string { data := #[] }] 24)) = w7 at *
  generalize w7o.heap.size = PR at *
  clear cQ0 cQ1 cQ2 cy0 cy1 cy2
  refine (HMULX.out w7 H ob _ 0 0 HS7.out.heap).mono ?_
  rintro e w8o ⟨rfl, hb8⟩
  have S8 : Has w (w8o.alloc (.cells #[.int .i64 2, .int .i64 p, .string { data := #[] }] 24)) H ob X (X + 1) a b := (HS7.out.grow hb8).alloc _
  have BQ8 : (w8o.alloc (.cells #[.int .i64 2, .int .i64 p, .string { data := #[] }] 24)).heap[PQ]? = some (.cells #[.int .i64 2, .int .i64 q, .string { data := #[] }] 24 (0, 0)) := alloc_at ((hb8.block _ (hlt HBQ.out)).trans HBQ.out)
  have BR8 : (w8o.alloc (.cells #[.int .i64 2, .int .i64 p, .string { data := #[] }] 24)).heap[PR]? = some (.cells #[.int .i64 2, .int .i64 r, .string { data := #[] }] 24 (0, 0)) := alloc_at ((hb8.block _ (hlt HBR.out)).trans HBR.out)
  have BP8 : (w8o.alloc (.cells #[.int .i64 2, .int .i64 p, .string { data := #[] }] 24)).heap[w8o.heap.size]? = some (.cells #[.int .i64 2, .int .i64 p, .string { data := #[] }] 24) := new_at _ _
  obtain ⟨cP0, cP1, cP2⟩ := box3 BP8
  obtain ⟨cR0, cR1, cR2⟩ := box3 BR8
  have HS8 := Lib.hid S8
  clear HBQ
  clear HBR
  have HBQ := Lib.hid BQ8
  have HBR := Lib.hid BR8
  have HBP := Lib.hid BP8
  clear S8 hb8 BQ8 BR8 BP8
  go_wp2_with fail
  generalize (w8o.alloc (.cells #[.int .i64 2, .int .i64 p, .string { data := #[] }] 24)) = w8 at *
  generalize w8o.heap.size = PP at *
  clear cP0 cP1 cP2 cR0 cR1 cR2
  clear HBQ
  refine (HADDX.out w8 H ob _ 0 0 HS8.out.heap).mono ?_
  rintro e w9o ⟨rfl, hb9⟩
  have S9 : Has w (w9o.alloc (.cells #[.int .i64 2, .int .i64 a, .string { data := #[] }] 24)) H ob X (X + 1) a b := (HS8.out.grow hb9).alloc _
  have BR9 : (w9o.alloc (.cells #[.int .i64 2, .int .i64 a, .string { data := #[] }] 24)).heap[PR]? = some (.cells #[.int .i64 2, .int .i64 r, .string { data := #[] }] 24 (0, 0)) := alloc_at ((hb9.block _ (hlt HBR.out)).trans HBR.out)
  have BP9 : (w9o.alloc (.cells #[.int .i64 2, .int .i64 a, .string { data := #[] }] 24)).heap[PP]? = some (.cells #[.int .i64 2, .int .i64 p, .string { data := #[] }] 24 (0, 0)) := alloc_at ((hb9.block _ (hlt HBP.out)).trans HBP.out)
  have BS9 : (w9o.alloc (.cells #[.int .i64 2, .int .i64 a, .string { data := #[] }] 24)).heap[w9o.heap.size]? = some (.cells #[.int .i64 2, .int .i64 a, .string { data := #[] }] 24) := new_at _ _
  obtain ⟨cS0, cS1, cS2⟩ := box3 BS9
  obtain ⟨cx0, cx1, cx2⟩ := box3 S9.x
  obtain ⟨cR0, cR1, cR2⟩ := box3 BR9
  obtain ⟨cy0, cy1, cy2⟩ := box3 S9.y
  have HS9 := Lib.hid S9
  clear HBR
  clear HBP
  have HBR := Lib.hid BR9
  have HBP := Lib.hid BP9
  have HBS := Lib.hid BS9
  clear S9 hb9 BR9 BP9 BS9
  have heq := eq24 a (w9o.alloc (.cells #[.int .i64 2, .int .i64 a, .string { data := #[] }] 24))
  go_wp2_with fail
  generalize (w9o.alloc (.cells #[.int .i64 2, .int .i64 a, .string { data := #[] }] 24)) = w9 at *
  generalize w9o.heap.size = PS at *
  clear cS0 cS1 cS2 cx0 cx1 cx2 cR0 cR1 cR2 cy0 cy1 cy2
  clear HBP
  clear HBR
  clear HBS
  refine (HSUBX.out w9 H ob _ 0 0 HS9.out.heap).mono ?_
  rintro e w10o ⟨rfl, hb10⟩
  have S10 : Has w (w10o.alloc (.cells #[.int .i64 0, .int .i64 0, .string { data := #[] }] 24)) H ob X (X + 1) a b := (HS9.out.grow hb10).alloc _
  have BD10 : (w10o.alloc (.cells #[.int .i64 0, .int .i64 0, .string { data := #[] }] 24)).heap[w10o.heap.size]? = some (.cells #[.int .i64 0, .int .i64 0, .string { data := #[] }] 24) := new_at _ _
  obtain ⟨cx0, cx1, cx2⟩ := box3 S10.x
  have HS10 := Lib.hid S10
  have HBD := Lib.hid BD10
  clear S10 hb10 BD10
  go_wp2_with fail
  generalize (w10o.alloc (.cells #[.int .i64 0, .int .i64 0, .string { data := #[] }] 24)) = w10 at *
  generalize w10o.heap.size = PD at *
  clear cx0 cx1 cx2
  clear HBD
  refine (HNEGX.out w10).mono ?_
  rintro e w11o ⟨rfl, hb11⟩
  have S11 : Has w (w11o.alloc (.cells #[.int .i64 2, .int .i64 n, .string { data := #[] }] 24)) H ob X (X + 1) a b := (HS10.out.grow hb11).alloc _
  have BN11 : (w11o.alloc (.cells #[.int .i64 2, .int .i64 n, .string { data := #[] }] 24)).heap[w11o.heap.size]? = some (.cells #[.int .i64 2, .int .i64 n, .string { data := #[] }] 24) := new_at _ _
  obtain ⟨cx0, cx1, cx2⟩ := box3 S11.x
  have HS11 := Lib.hid S11
  have HBN := Lib.hid BN11
  clear S11 hb11 BN11
  go_wp2_with fail
  generalize (w11o.alloc (.cells #[.int .i64 2, .int .i64 n, .string { data := #[] }] 24)) = w11 at *
  generalize w11o.heap.size = PN at *
  clear cx0 cx1 cx2
  obtain ⟨cx0, cx1, cx2⟩ := box3 HS11.out.x
  have hXl := hlt HS11.out.x
  have CIA := Lib.hid (callI_a HS11.out HBN.out)
  have CIB := Lib.hid (callI_b HS11.out HBN.out)
  have CM0 := Lib.hid (fun wi (h : I0 w wi H ob X PN a b (#[.int .i64 2, .int .i64 n, .string { data := #[] }])) => callM_0 HSUBOX.out h)
  have CM1 := Lib.hid (fun wi G (h : I1 w wi H ob X PN a b (#[.int .i64 2, .int .i64 n, .string { data := #[] }]) G) => callM_1 HSUBOX.out h)
  have CM2 := Lib.hid (fun wi (h : I0 w wi H ob X PN a b (#[.int .i64 2, .int .i64 n, .string { data := #[] }])) => callM_2 HSUBOX.out h)
  go_region_held3 (fun W => W.cell? ⟨X, 0, none⟩ = some (.int .i64 2) ∧ W.cell? ⟨X, 1, none⟩ = some (.int .i64 a) ∧ W.cell? ⟨X, 2, none⟩ = some (.string { data := #[] }))
    (first | go_keep | assumption | (dsimp only; assumption))
    (first
      | (go_at_call 13
         with_reducible (refine CIA.out.mono ?_)
         rintro e wi ⟨rfl, Hi⟩
         have HI := Lib.hid Hi
         obtain ⟨ci0, ci1, ci2⟩ := box3 Hi.has.x
         have hXi := hlt Hi.has.x
         clear Hi)
      | (go_at_call 13
         with_reducible (refine CIB.out.mono ?_)
         rintro e wi ⟨rfl, Hi⟩
         have HI := Lib.hid Hi
         obtain ⟨ci0, ci1, ci2⟩ := box3 Hi.has.x
         have hXi := hlt Hi.has.x
         clear Hi)
      | (go_at_call 10
         with_reducible (refine (CM0.out _ HI.out).mono ?_)
         rintro e wm ⟨rfl, Hm⟩
         obtain ⟨cm0, cm1, cm2⟩ := box3 Hm.has.x
         have hXm := hlt Hm.has.x
         have HM := Lib.hid (fin_0 Hm)
         clear Hm)
      | (go_at_call 10
         with_reducible (refine (CM1.out _ _ HI.out).mono ?_)
         rintro e wm ⟨rfl, Hm⟩
         obtain ⟨cm0, cm1, cm2⟩ := box3 Hm.has.x
         have hXm := hlt Hm.has.x
         obtain ⟨z0, z1, z2⟩ := box3 Hm.z
         have hfz : ∀ q, wm.frozen? ⟨_, q, none⟩ = false := fun q => frozen_of_row wm _ q _ 24 Hm.z
         have hne := Hm.ne
         have HM := Lib.hid (fin_1 (x := .int .i64 2) (y := .int .i64 n) (z := .string { data := #[] }) Hm)
         have hk := box3 HM.out.x
         unfold store3W at hk
         clear Hm)
      | (go_at_call 10
         with_reducible (refine (CM2.out _ HI.out).mono ?_)
         rintro e wm ⟨rfl, Hm⟩
         obtain ⟨cm0, cm1, cm2⟩ := box3 Hm.has.x
         have hXm := hlt Hm.has.x
         obtain ⟨z0, z1, z2⟩ := box3 Hm.z
         have hfz : ∀ q, wm.frozen? ⟨_, q, none⟩ = false := fun q => frozen_of_row wm _ q _ 24 Hm.z
         have hne := Hm.ne
         have HM := Lib.hid (fin_1 (x := .int .i64 2) (y := .int .i64 n) (z := .string { data := #[] }) Hm)
         have hk := box3 HM.out.x
         unfold store3W at hk
         clear Hm)
    )
  all_goals have hcn := box3 HM.out.n
  all_goals have hcm := box3 HM.out.m
  all_goals have HE := eqFin n HM.out
  all_goals (try unfold store3W at HM hcn hcm HE)
  all_goals obtain ⟨hcn0, hcn1, hcn2⟩ := hcn
  all_goals obtain ⟨hcm0, hcm1, hcm2⟩ := hcm
  all_goals go_wp2_with fail
  all_goals refine (known_any _).mono ?_
  all_goals rintro e wz ⟨rfl, hbz2⟩
  all_goals have hfin := HM.out.bel.trans (hbz2.mono HM.out.bel.size)
  all_goals go_wp2
  all_goals go_ret
  all_goals exact ⟨rfl, hfin⟩
end Go.Proofs.YthbnhplkoomdhaaDoor
