/- The law's own trial. -/
import Derived.Test.YtcfglgejjmapdaaOn
import Derived.Lib.SlBytesConst
namespace Go.Proofs.Ytcfglgejjmapdaa
open Go Go.RowKit Go.Shelf
def aN : ByteArray := ⟨#[97]⟩
def f0 : F := ⟨aN, ⟨#[120, 121]⟩, 0⟩
def f1 : F := ⟨aN, ⟨#[120, 121]⟩, 2⟩
def f2 : F := ⟨aN, ⟨#[120, 121, 122]⟩, 2⟩
def f3 : F := ⟨aN, ⟨#[120, 121, 122]⟩, 3⟩
theorem w_append0 : appendF [] aN [120, 121] = [f0] := by rfl
theorem w_sync : syncF [f0] aN = [f1] := by rfl
theorem w_append1 : appendF [f1] aN [122] = [f2] := by rfl
theorem w_crash0 : crashL [] [f2] = [f1] := by rfl
theorem w_crash1 : crashL [1] [f2] = [f3] := by rfl
theorem w_err0 : stepErr [aN] (longF [] aN 2) false 0 = 0 := by rfl
theorem w_err1 : stepErr [aN] (thereF [f0] aN) false 0 = 0 := by rfl
theorem w_err2 : stepErr [aN] (longF [f1] aN 1) false 0 = 0 := by rfl
theorem w_name : nameB ⟨#[97, 46, 49, 45, 98]⟩ = true := by rfl

theorem Went.zero {T : Nat → Prop} {B D M steps : Nat} {fs fs' : List F} {rm : Int} {w w' : World} (h : Went B T D M fs fs' steps false rm 0 w w') : ∃ T', On B T' D M fs' (steps + 1) false rm w' ∧ KeepT T w w' ∧ ∀ b, T' b → T b ∨ w.heap.size ≤ b := h
theorem On.low {T : Nat → Prop} {B D M steps : Nat} {fs : List F} {hb : Bool} {rm : Int} {w : World} (h : On B T D M fs steps hb rm w) : ∀ b, T b → B ≤ b := by
  obtain ⟨gs, h1, h2, h3⟩ := h
  exact h3
theorem rd_b2 (w : World) (x y : UInt8) : Rd (w.alloc (.cells #[.int .u8 x.toNat, .int .u8 y.toNat] 5 (2, 3))) (some ⟨w.heap.size, 0, none⟩) [x, y] := fun _ => by
  have := heap_alloc_new w (.cells #[.int .u8 x.toNat, .int .u8 y.toNat] 5 (2, 3))
  refine ⟨w.heap.size, 0, rfl, (Array.getElem?_eq_some_iff.1 this).1, fun j hj => ?_⟩
  have hj0 : j = 0 ∨ j = 1 := by simp at hj; omega
  rcases hj0 with rfl | rfl
  · simp only [World.cell?, this]
    rfl
  · simp only [World.cell?, this]
    rfl
theorem rd_b1 (w : World) (x : UInt8) : Rd (w.alloc (.cells #[.int .u8 x.toNat] 5 (1, 2))) (some ⟨w.heap.size, 0, none⟩) [x] := fun _ => by
  have := heap_alloc_new w (.cells #[.int .u8 x.toNat] 5 (1, 2))
  refine ⟨w.heap.size, 0, rfl, (Array.getElem?_eq_some_iff.1 this).1, fun j hj => ?_⟩
  have hj0 : j = 0 := by simp at hj; omega
  subst hj0
  simp only [World.cell?, this]
  rfl
theorem rd_i1 (w : World) : RdV (w.alloc (.cells #[.int .i64 1] 3)) (some ⟨w.heap.size, 0, none⟩) (intsV [1]) := fun _ => by
  have := heap_alloc_new w (.cells #[.int .i64 1] 3)
  refine ⟨w.heap.size, 0, rfl, (Array.getElem?_eq_some_iff.1 this).1, fun j hj => ?_⟩
  have hj0 : j = 0 := by simp [intsV] at hj; omega
  subst hj0
  simp only [World.cell?, this]
  rfl
theorem conv_xy (W : World) : (convert 35 35 (.slice (some ⟨W.heap.size, 0, none⟩) 2 2)).run Try.prog (W.alloc (.cells #[.int .u8 120, .int .u8 121] 5)) = .ok (.slice (some ⟨W.heap.size, 0, none⟩) 2 2) (W.alloc (.cells #[.int .u8 120, .int .u8 121] 5 (2, 3))) :=
  Go.Lib.run_convert_bytes_const W 35 5 #[.int .u8 120, .int .u8 121] 2 2 Try.underlying35 Try.underlying5
theorem conv_z (W : World) : (convert 35 35 (.slice (some ⟨W.heap.size, 0, none⟩) 1 1)).run Try.prog (W.alloc (.cells #[.int .u8 122] 5)) = .ok (.slice (some ⟨W.heap.size, 0, none⟩) 1 1) (W.alloc (.cells #[.int .u8 122] 5 (1, 2))) :=
  Go.Lib.run_convert_bytes_const W 35 5 #[.int .u8 122] 1 1 Try.underlying35 Try.underlying5
set_option maxRecDepth 100000 in
set_option maxHeartbeats 8000000 in
theorem works_any (w : World) : Calls Try.prog 12 #[] w fun e w' => e = .returned (.bool true) ∧ Below w.heap.size w w' := by
  have hcv1 := conv_xy
  have hcv2 := conv_z
  go_enter Try.func12, Try.ntmps12
  go_wp2_with fail
  refine Calls.mono (new_on _) ?_
  rintro e W1 ⟨T1, D, M, rfl, HO, HB⟩
  have HO := Lib.hid HO
  have HB := Lib.hid HB
  go_wp2_with fail
  have HC : Hid (Calls Try.prog 30 #[.pointer (some ⟨D, 0, none⟩), .string aN, .slice (some ⟨W1.heap.size, 0, none⟩) 2 2] (W1.alloc (.cells #[.int .u8 120, .int .u8 121] 5 (2, 3))) fun e w' => e = .returned (.int .i64 0) ∧ Went w.heap.size T1 D M [] [f0] 0 false 0 0 (W1.alloc (.cells #[.int .u8 120, .int .u8 121] 5 (2, 3))) w') := Lib.hid (by
    have := append_on _ (HO.out.below (below_new W1 (.cells #[.int .u8 120, .int .u8 121] 5 (2, 3)))) (by have := HB.out.size; have := (below_new W1 (.cells #[.int .u8 120, .int .u8 121] 5 (2, 3))).size; omega) aN (by decide) (some ⟨W1.heap.size, 0, none⟩) 2 2 [120, 121] rfl (by simp) (by omega) (rd_b2 W1 120 121) (fun _ ad had hT => by cases had; have := HO.out.lt _ hT; simp at this) (by omega) (by simp)
    rw [w_err0, w_append0] at this
    exact this)
  refine Calls.mono HC.out ?_
  clear HC
  rintro e W2 ⟨rfl, HW⟩
  obtain ⟨T2, HO2, HK, HT2⟩ := HW.zero
  have HB2 : Below w.heap.size w W2 := (HB.out.alloc HB.out.size _).trans (HK.below HO.out.low (by have := HB.out.size; simp; omega))
  clear HW HK HT2 HB HO
  have HO := Lib.hid HO2
  have HB := Lib.hid HB2
  clear HO2 HB2
  go_wp2_with fail
  have HC : Hid (Calls Try.prog 32 #[.pointer (some ⟨D, 0, none⟩), .string aN] W2 fun e w' => e = .returned (.int .i64 0) ∧ Went w.heap.size T2 D M [f0] [f1] 1 false 0 0 W2 w') := Lib.hid (by
    have := sync_on _ HO.out (by have := HB.out.size; omega) aN (by decide) (by omega) (by simp)
    rw [w_err1, w_sync] at this
    exact this)
  refine Calls.mono HC.out ?_
  clear HC
  rintro e W3 ⟨rfl, HW⟩
  obtain ⟨T3, HO2, HK, HT2⟩ := HW.zero
  have HB2 : Below w.heap.size w W3 := (HB.out).trans (HK.below HO.out.low (by have := HB.out.size; omega))
  clear HW HK HT2 HB HO
  have HO := Lib.hid HO2
  have HB := Lib.hid HB2
  clear HO2 HB2
  go_wp2_with fail
  have HC : Hid (Calls Try.prog 30 #[.pointer (some ⟨D, 0, none⟩), .string aN, .slice (some ⟨W3.heap.size, 0, none⟩) 1 1] (W3.alloc (.cells #[.int .u8 122] 5 (1, 2))) fun e w' => e = .returned (.int .i64 0) ∧ Went w.heap.size T3 D M [f1] [f2] 2 false 0 0 (W3.alloc (.cells #[.int .u8 122] 5 (1, 2))) w') := Lib.hid (by
    have := append_on _ (HO.out.below (below_new W3 (.cells #[.int .u8 122] 5 (1, 2)))) (by have := HB.out.size; have := (below_new W3 (.cells #[.int .u8 122] 5 (1, 2))).size; omega) aN (by decide) (some ⟨W3.heap.size, 0, none⟩) 1 1 [122] rfl (by simp) (by omega) (rd_b1 W3 122) (fun _ ad had hT => by cases had; have := HO.out.lt _ hT; simp at this) (by omega) (by simp)
    rw [w_err2, w_append1] at this
    exact this)
  refine Calls.mono HC.out ?_
  clear HC
  rintro e W4 ⟨rfl, HW⟩
  obtain ⟨T4, HO2, HK, HT2⟩ := HW.zero
  have HB2 : Below w.heap.size w W4 := (HB.out.alloc HB.out.size _).trans (HK.below HO.out.low (by have := HB.out.size; simp; omega))
  clear HW HK HT2 HB HO
  have HO := Lib.hid HO2
  have HB := Lib.hid HB2
  clear HO2 HB2
  go_wp2_with fail
  have HC := Lib.hid (crash_on W4 none 0 0 [] HO.out (by simp) rfl (RdV.nil _ _) (by omega))
  rw [w_crash0] at HC
  refine Calls.mono HC.out ?_
  clear HC
  rintro e W5 ⟨T5, D5, M5, rfl, HO5, HB5⟩
  have HO5 := Lib.hid HO5
  have HO4 := Lib.hid (HO.out.below HB5)
  have HB4 := Lib.hid (HB.out.trans (HB5.mono HB.out.size))
  clear HO HB HB5
  go_wp2_with fail
  refine Calls.mono (files_on W5 HO5.out (by simp)) ?_
  rintro e W6 ⟨v, rfl, hown, hB6⟩
  obtain ⟨A, cA, rfl, hc, hnil, hcm, hrdf, hA⟩ := own_rdF hown rfl
  have HL := Lib.hid hrdf
  have HO := Lib.hid (HO4.out.below hB6)
  have HB := Lib.hid (HB4.out.trans (hB6.mono HB4.out.size))
  clear hrdf hB6 HO4 HB4 hown HO5 hA hnil
  go_wp2_with fail
  have hbn := below_new W6 (.cells #[.int .i64 1] 3)
  have HC := Lib.hid (crash_on (W6.alloc (.cells #[.int .i64 1] 3)) (some ⟨W6.heap.size, 0, none⟩) 1 1 [1] (HO.out.below hbn) (by simp) rfl (rd_i1 W6) (by omega))
  rw [w_crash1] at HC
  refine Calls.mono HC.out ?_
  clear HC
  rintro e W7 ⟨T7, D7, M7, rfl, HO7, HB7⟩
  have hb67 : Below W6.heap.size W6 W7 := hbn.trans (HB7.mono hbn.size)
  have HO7 := Lib.hid HO7
  have HO4 := Lib.hid (HO.out.below hb67)
  have HB4 := Lib.hid (HB.out.trans (hb67.mono HB.out.size))
  have HL4 := Lib.hid (HL.out.below hb67)
  clear HO HB HB7 HL hb67 hbn
  go_wp2_with fail
  refine Calls.mono (files_on W7 HO7.out (by simp)) ?_
  rintro e W8 ⟨v, rfl, hown, hB8⟩
  obtain ⟨A2, cA2, rfl, hc2, hnil, hcm2, hrdf, hA⟩ := own_rdF hown rfl
  obtain ⟨bl2, o2, rfl, hlt2, k20, k21, k22⟩ := hrdf.at (k := 0) (by simp)
  obtain ⟨bl1, o1, rfl, hlt1, k10, k11, k12⟩ := (HL4.out.below hB8).at (k := 0) (by simp)
  have HO := Lib.hid (HO4.out.below hB8)
  have HB := Lib.hid (HB4.out.trans (hB8.mono HB4.out.size))
  have HS := Lib.hid (steps_on W8 HO.out)
  have HNM := Lib.hid (name_any ⟨#[97, 46, 49, 45, 98]⟩ W8 (by decide))
  rw [w_name] at HNM
  simp only [List.getElem_cons_zero, Nat.zero_mul, Nat.add_zero] at k20 k21 k22 k10 k11 k12
  rw [show f3.name = ⟨#[97]⟩ from rfl] at k20
  rw [show f3.bytes = ⟨#[120, 121, 122]⟩ from rfl] at k21
  rw [show f3.sync = 3 from rfl] at k22
  rw [show f1.name = ⟨#[97]⟩ from rfl] at k10
  rw [show f1.bytes = ⟨#[120, 121]⟩ from rfl] at k11
  rw [show f1.sync = 2 from rfl] at k12
  clear hrdf hB8 HO4 HB4 hown HO7 hA hnil HL4 HO
  go_wp2_with fail
  refine Calls.mono (num_any 0 _) ?_
  rintro e w' ⟨rfl, rfl⟩
  go_wp2_with fail
  refine Calls.mono (num_any 0 _) ?_
  rintro e w' ⟨rfl, rfl⟩
  go_wp2_with fail
  refine Calls.mono (num_any 0 _) ?_
  rintro e w' ⟨rfl, rfl⟩
  go_wp2_with fail
  refine Calls.mono HS.out ?_
  rintro e w' ⟨rfl, rfl⟩
  go_wp2_with fail
  refine Calls.mono HNM.out ?_
  rintro e w' ⟨rfl, rfl⟩
  go_wp2_with fail
  go_ret
  exact ⟨rfl, HB.out⟩
end Go.Proofs.Ytcfglgejjmapdaa
