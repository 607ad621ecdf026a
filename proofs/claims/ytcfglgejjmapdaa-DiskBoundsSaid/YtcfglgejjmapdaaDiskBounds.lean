/- Proved here: 'taborlaw02.DiskBounds' returns true for every input. Conditions: none. -/
import Derived.LaidLaws
import Derived.Test.YtcfglgejjmapdaaFrame
import Derived.Test.YtcfglgejjmapdaaNils
import Derived.Test.YtcfglgejjmapdaaFrameF
namespace Go.Proofs.Ytcfglgejjmapdaa.diskBounds
open Go Go.RowKit Go.ChangeShapes Go.WideShapes Go.ChangeAt
open Go.Shelf

theorem u8_info : (Try.prog.info? 5).map (fun i => (i.zero, i.size, i.bytes)) = some (some (.int .u8 0), 1, 1) := by kernel_rfl
theorem made_at (z : Value) (S : Nat) {j : Nat} (hj : j < S) : (madeCells #[z] S)[j]? = some z := by
  rw [← Array.getElem?_toList, toList_madeCells_one, List.getElem?_replicate, if_pos hj]
theorem big_make : ∃ (O : Obj) (Zs : List UInt8), Zs.length = 1048577 ∧ (∀ W : World, (Instr.makeSlice 35 (.int .i64 1048577) (.int .i64 1048577)).run Try.prog W = .ok (.slice (some ⟨W.heap.size, 0, none⟩) 1048577 1048577) (W.alloc O)) ∧ ∀ W : World, Rd (W.alloc O) (some ⟨W.heap.size, 0, none⟩) Zs := by
  obtain ⟨S, hS⟩ : ∃ S : Nat, S = 1048577 := ⟨_, rfl⟩
  refine ⟨.cells (madeCells #[.int .u8 0] S) 5, List.replicate S (0 : UInt8), by rw [List.length_replicate, hS], fun W => ?_, fun W => ?_⟩
  · obtain ⟨i0, hi, hz0, hz1, hz2⟩ := info_parts u8_info
    have h := run_make (P := Try.prog) W 35 5 i0 _ Try.underlying35 hi hz0 .i64 .i64 (S : Int) (S : Int) (by omega) (by omega) (by rw [hz2]; omega) (by omega)
    rw [hz1, Nat.mul_one] at h
    have e : (S : Int) = 1048577 := by omega
    rw [e] at h
    have e2 : (1048577 : Int).toNat = 1048577 := rfl
    rw [hS]
    rw [e2] at h
    exact h
  · intro h0
    have h := heap_alloc_new W (.cells (madeCells #[.int .u8 0] S) 5)
    refine ⟨W.heap.size, 0, rfl, lt_of_block h, fun j hj => ?_⟩
    have hj' : j < S := by simpa using hj
    have h2 : (madeCells #[.int .u8 0] S)[j]? = some (.int .u8 0) := made_at _ _ hj'
    simp only [World.cell?, h, Nat.zero_add]
    rw [List.getElem_replicate]
    simpa using h2
def bN : ByteArray := ⟨#[98]⟩
theorem b_err0 : stepErr [aN] (longF [] aN 1048576) false 0 = 0 := by
  have h1 : nameB aN = true := by decide
  have h2 : longF [] aN 1048576 = 0 := by unfold longF hadF fnd; rw [List.find?_nil]; simp
  rw [h2]
  simp [stepErr, h1]
theorem b_err1 (f : F) (hn : f.name = aN) (hs : f.bytes.size = 1048576) : stepErr [aN] (longF [f] aN 1) false 0 = 3 := by
  have h1 : nameB aN = true := by decide
  have h2 : longF [f] aN 1 = 3 := by
    unfold longF hadF fnd
    rw [List.find?_cons, hn]
    simp only [beq_self_eq_true, hs]
    simp
  rw [h2]
  simp [stepErr, h1]
theorem b_err2 (f : F) (hn : f.name = aN) : stepErr [bN] (longF [f] bN 1048577) false 0 = 3 := by
  have h1 : nameB bN = true := by decide
  have h3 : (bl aN == bl bN) = false := by decide
  have h2 : longF [f] bN 1048577 = 3 := by
    unfold longF hadF fnd
    rw [List.find?_cons, hn, h3]
    simp
  rw [h2]
  simp [stepErr, h1]
theorem b_app (l : List UInt8) : appendF [] aN l = [⟨aN, ⟨l.toArray⟩, 0⟩] := rfl
theorem b_check (s : ByteArray) (hs : s.size = 1048577) : checkF [⟨aN, s, 0⟩] = 3 := by
  have h1 : nameB aN = true := by decide
  have h4 : ltB ⟨#[]⟩ aN = true := by decide
  unfold checkF
  simp [fineF, goodF, longL, h1, h4, hs]
set_option maxRecDepth 100000 in
set_option maxHeartbeats 16000000 in
theorem walk (w : World) : Calls Try.prog 8 #[] w fun e w' => e = .returned (.bool true) ∧ Below w.heap.size w w' := by
  obtain ⟨O, Zs, hZ, hmk, hrz⟩ := big_make
  have HZ := Lib.hid hZ
  have HRZ := Lib.hid (hrz w)
  have hmk0 := hmk w
  have HB1 := Lib.hid (below_new w O)
  have HV : Hid (w.heap.size < (w.alloc O).heap.size) := Lib.hid (by simp)
  clear hmk hrz hZ
  go_enter Try.func8, Try.ntmps8
  go_wp2_with fail
  clear hmk0
  generalize w.alloc O = V at HRZ HB1 HV ⊢
  have HNW := Lib.hid (new_on V)
  refine Calls.mono HNW.out ?_
  rintro e W1 ⟨T, D, M, rfl, hon, hb1⟩
  have HO := Lib.hid hon
  have HB2 := Lib.hid (HB1.out.trans (hb1.mono HB1.out.size))
  have HR1 := Lib.hid (HRZ.out.below hb1)
  have HS1 : Hid (V.heap.size ≤ W1.heap.size) := Lib.hid hb1.size
  have HAP := Lib.hid (append_on W1 HO.out HS1.out aN (by decide) (some ⟨w.heap.size, 0, none⟩) 1048576 1048577 (Zs.take 1048576) (by rw [List.length_take, HZ.out]; rfl) (fun e => by cases e) (by omega) (HR1.out.take 1048576) (fun _ ad e hT => by cases e; have h1 := HO.out.low _ hT; have h2 := HV.out; simp only at h1; omega) (by omega) (by simp))
  clear hon hb1 HNW
  rw [show stepErr [aN] (longF [] aN 1048576) false 0 = 0 from b_err0, b_app] at HAP
  obtain ⟨l1, hl1⟩ : ∃ l1, Zs.take 1048576 = l1 := ⟨_, rfl⟩
  have hl1n : l1.length = 1048576 := by rw [← hl1, List.length_take, HZ.out]; rfl
  rw [hl1] at HAP
  obtain ⟨f, hf⟩ : ∃ f : F, f = ⟨aN, ⟨l1.toArray⟩, 0⟩ := ⟨_, rfl⟩
  rw [← hf] at HAP
  have HFN : Hid (f.name = aN) := Lib.hid (by rw [hf])
  have HFS : Hid (f.bytes.size = 1048576) := Lib.hid (by rw [hf]; exact hl1n)
  clear hl1 hl1n hf
  go_wp2_with fail
  refine Calls.mono HAP.out ?_
  rintro e W2 ⟨rfl, hw⟩
  obtain ⟨T2, ho2, hk2, ht2⟩ := hw.zero
  have HO2 := Lib.hid ho2
  have HB3 := Lib.hid (keep_below HB2.out hk2 (fun b hb => Nat.le_trans (Nat.le_of_lt HV.out) (HO.out.low b hb)) (Nat.le_trans (Nat.le_of_lt HV.out) HS1.out))
  have HR2 := Lib.hid (HR1.out.keepT hk2 (fun _ ad e hT => by cases e; have h1 := HO.out.low _ hT; have h2 := HV.out; simp only at h1; omega))
  have HS2 : Hid (V.heap.size ≤ W2.heap.size) := Lib.hid (Nat.le_trans HS1.out hk2.size)
  clear hw ho2 hk2 ht2 HAP HO HB2 HR1 HS1
  have HAP := Lib.hid (append_on W2 HO2.out HS2.out aN (by decide) (some ⟨w.heap.size, 0, none⟩) 1 1048577 (Zs.take 1) (by rw [List.length_take, HZ.out]; rfl) (fun e => by cases e) (by omega) (HR2.out.take 1) (fun _ ad e hT => by cases e; have h1 := HO2.out.low _ hT; have h2 := HV.out; simp only at h1; omega) (by omega) (by simp))
  rw [b_err1 f HFN.out HFS.out] at HAP
  go_wp2_with fail
  refine Calls.mono HAP.out ?_
  rintro e W3 ⟨rfl, hw⟩
  obtain ⟨T3, ho3, hk3, ht3⟩ := hw.no (by decide)
  have HO3 := Lib.hid ho3
  have HB4 := Lib.hid (keep_below HB3.out hk3 (fun b hb => Nat.le_trans (Nat.le_of_lt HV.out) (HO2.out.low b hb)) (Nat.le_trans (Nat.le_of_lt HV.out) HS2.out))
  have HR3 := Lib.hid (HR2.out.keepT hk3 (fun _ ad e hT => by cases e; have h1 := HO2.out.low _ hT; have h2 := HV.out; simp only at h1; omega))
  have HS3 : Hid (V.heap.size ≤ W3.heap.size) := Lib.hid (Nat.le_trans HS2.out hk3.size)
  clear hw ho3 hk3 ht3 HAP HO2 HB3 HR2 HS2
  have HAP := Lib.hid (append_on W3 HO3.out HS3.out bN (by decide) (some ⟨w.heap.size, 0, none⟩) 1048577 1048577 Zs HZ.out (fun e => by cases e) (by omega) HR3.out (fun _ ad e hT => by cases e; have h1 := HO3.out.low _ hT; have h2 := HV.out; simp only at h1; omega) (by omega) (by simp))
  rw [b_err2 f HFN.out] at HAP
  go_wp2_with fail
  refine Calls.mono HAP.out ?_
  rintro e W4 ⟨rfl, hw⟩
  obtain ⟨T4, ho4, hk4, ht4⟩ := hw.no (by decide)
  have HO4 := Lib.hid ho4
  have HB5 := Lib.hid (keep_below HB4.out hk4 (fun b hb => Nat.le_trans (Nat.le_of_lt HV.out) (HO3.out.low b hb)) (Nat.le_trans (Nat.le_of_lt HV.out) HS3.out))
  have HR4 := Lib.hid (HR3.out.keepT hk4 (fun _ ad e hT => by cases e; have h1 := HO3.out.low _ hT; have h2 := HV.out; simp only at h1; omega))
  clear hw ho4 hk4 ht4 HAP HO3 HB4 HR3 HS3
  have hcv : (convert 35 9 (.slice (some ⟨w.heap.size, 0, none⟩) 1048577 1048577)).run Try.prog W4 = .ok (.string ⟨Zs.toArray⟩) W4 := by
    have h1 := conv_rd (w := W4) (l := Zs) (A := some ⟨w.heap.size, 0, none⟩) (c := 1048577) (fun e => by cases e) (by rw [HZ.out]; omega) HR4.out
    rw [HZ.out] at h1
    exact h1
  obtain ⟨sB, hsB⟩ : ∃ sB : ByteArray, sB = ⟨Zs.toArray⟩ := ⟨_, rfl⟩
  rw [← hsB] at hcv
  have HSB : Hid (sB.size = 1048577) := Lib.hid (by rw [hsB]; exact HZ.out)
  clear hsB
  have HFR := Lib.hid (from_any (some ⟨W4.heap.size, 0, none⟩) 1 1 [⟨aN, sB, 0⟩] (W4.alloc (.cells #[.string aN, .string sB, .int .i64 0] 27)) rfl (by omega) (by
    intro f hf
    rw [List.mem_singleton] at hf
    rw [hf]
    exact ⟨show aN.size ≤ 140737488351232 by decide, by show sB.size ≤ _; rw [HSB.out]; omega⟩) (file_new W4 ⟨aN, sB, 0⟩))
  have HC3 := Lib.hid (b_check sB HSB.out)
  go_wp2_with fail
  refine Calls.mono HFR.out ?_
  rintro e W5 ⟨hb5, hq⟩
  have HB6 : Hid (Below W4.heap.size W4 W5) := Lib.hid ((below_new W4 _).trans (hb5.mono (by simp)))
  have hq2 : e = .returned (.tuple #[.pointer none, .int .i64 3]) := by
    rcases hq with ⟨_, h⟩ | ⟨h, _⟩
    · rw [h, HC3.out]
    · rw [HC3.out] at h
      omega
  subst hq2
  have HO5 := Lib.hid (HO4.out.below HB6.out)
  have HX0 := Lib.hid (HB5.out.trans (HB6.out.mono HB5.out.size))
  clear hb5 hq HFR HC3 HO4 HB5 HB6 HR4 hcv
  go_wp2_with fail
  refine Calls.mono (read_nil _ _) ?_
  rintro e wr ⟨rfl, rfl⟩
  go_wp2_with fail
  refine Calls.mono (halt_nil _ _) ?_
  rintro e wh ⟨rfl, rfl⟩
  go_wp2_with fail
  refine Calls.mono (num_any _ _) ?_
  rintro e wn ⟨rfl, rfl⟩
  go_wp2_with fail
  refine Calls.mono (num_any _ _) ?_
  rintro e wn ⟨rfl, rfl⟩
  go_wp2_with fail
  refine Calls.mono (num_any _ _) ?_
  rintro e wn ⟨rfl, rfl⟩
  have HFL := Lib.hid (files_on W5 HO5.out (by simp))
  go_wp2_with fail
  refine Calls.mono HFL.out ?_
  rintro e W6 ⟨v, rfl, ho, hb6⟩
  obtain ⟨Af, cf, rfl, _, _, _, _, _⟩ := own_rdF ho rfl
  have HX1 := Lib.hid (HX0.out.trans (hb6.mono HX0.out.size))
  clear ho hb6 HFL HO5 HX0
  rw [show [f].length = 1 from rfl]
  go_wp2_with fail
  refine Calls.mono (num_any _ _) ?_
  rintro e wn ⟨rfl, rfl⟩
  go_wp2_with fail
  refine Calls.mono (num_any _ _) ?_
  rintro e wn ⟨rfl, rfl⟩
  go_wp2_with fail
  refine Calls.mono (append_nil _ _ _ _ _) ?_
  rintro e wn2 ⟨rfl, hbn⟩
  have HX2 := Lib.hid (HX1.out.trans (hbn.mono HX1.out.size))
  clear hbn HX1
  go_wp2_with fail
  refine Calls.mono (num_any _ _) ?_
  rintro e wn ⟨rfl, rfl⟩
  go_wp2_with fail
  refine Calls.mono (cut_nil _ _ _) ?_
  rintro e wn3 ⟨rfl, hbn⟩
  have HX3 := Lib.hid (HX2.out.trans (hbn.mono HX2.out.size))
  clear hbn HX2
  go_wp2_with fail
  refine Calls.mono (num_any _ _) ?_
  rintro e wn ⟨rfl, rfl⟩
  go_wp2_with fail
  refine Calls.mono (sync_nil _ _) ?_
  rintro e wn4 ⟨rfl, hbn⟩
  have HX4 := Lib.hid (HX3.out.trans (hbn.mono HX3.out.size))
  clear hbn HX3
  go_wp2_with fail
  refine Calls.mono (num_any _ _) ?_
  rintro e wn ⟨rfl, rfl⟩
  go_wp2_with fail
  refine Calls.mono (rename_nil _ _ _) ?_
  rintro e wn5 ⟨rfl, hbn⟩
  have HX5 := Lib.hid (HX4.out.trans (hbn.mono HX4.out.size))
  clear hbn HX4
  go_wp2_with fail
  refine Calls.mono (num_any _ _) ?_
  rintro e wn ⟨rfl, rfl⟩
  go_wp2_with fail
  refine Calls.mono (remove_nil _ _) ?_
  rintro e wn6 ⟨rfl, hbn⟩
  have HX6 := Lib.hid (HX5.out.trans (hbn.mono HX5.out.size))
  clear hbn HX5
  go_wp2_with fail
  refine Calls.mono (num_any _ _) ?_
  rintro e wn ⟨rfl, rfl⟩
  go_wp2_with fail
  refine Calls.mono (crash_nil _ _ _ _) ?_
  rintro e wn7 ⟨rfl, hbn⟩
  have HX7 := Lib.hid (HX6.out.trans (hbn.mono HX6.out.size))
  clear hbn HX6
  go_wp2_with fail
  refine Calls.mono (files_nil  _) ?_
  rintro e wn8 ⟨rfl, hbn⟩
  have HX8 := Lib.hid (HX7.out.trans (hbn.mono HX7.out.size))
  clear hbn HX7
  go_wp2_with fail
  refine Calls.mono (steps_nil _) ?_
  rintro e wt ⟨rfl, rfl⟩
  go_wp2_with fail
  refine Calls.mono (works_any _) ?_
  rintro e wi ⟨rfl, hbi⟩
  have HBI := Lib.hid (HX8.out.trans (hbi.mono HX8.out.size))
  go_wp2_with fail
  go_ret
  exact ⟨rfl, HBI.out⟩


set_option maxHeartbeats 4000000 in
theorem reads (os : Os) {H : Type} (enc : TypeId × Value → H) : ∃ places, DataW.whole enc Try.prog ((World.holding Try.prog os ⟨#[], #[], []⟩).forCall (fun _ _ => 0) ⟨#[], #[], []⟩).memory Try.f8.params.toList Rows.diskBoundsSpec.vars false (#[] : Array Value).toList 8 = some ([], [], places) :=
  ⟨[], by kernel_rfl⟩
theorem laidNone (w : World) : laidMet Try.prog [] w := laidMet_of_run' 8 (by kernel_rfl) (by kernel_rfl)
set_option maxRecDepth 100000 in
theorem lifted (os : Os) (started : os.Started) (H : Type) (enc : TypeId × Value → H) (F : Stop.Interp) :
    ReturnsInHanded {} Try.checked os 8 .any ((OpenSpec.ofChange Rows.diskBoundsSpec).preRow enc Try.prog Try.f8 Rows.diskBoundsRow.domain false Rows.diskBoundsRow.laid) (((OpenSpec.ofChange Rows.diskBoundsSpec).at F).post enc Try.prog Try.f8 false true false false) := by
  obtain ⟨places, hx⟩ := reads os enc
  refine returnsInHanded_of_row (C := Try.checked) (s := OpenSpec.ofChange Rows.diskBoundsSpec) own started (by kernel_rfl) Try.func8
    (witness_row_at (enc := enc) (C := Try.checked) false (World.holding Try.prog os ⟨#[], #[], []⟩) #[] rfl (by kernel_rfl) (by kernel_rfl) (by kernel_rfl)
      (OpenSpec.preRow_of_cond 8 hx (by kernel_rfl) (fun k hk => by cases hk) (by kernel_rfl) (laidNone _))) ?_
  intro W base args ds gs before hval0 hW _ _ hZ _ _ _
  show Calls Try.prog 8 args W fun e W' => ∃ v, e = .returned v ∧ Rows.diskBoundsSpec.post enc Try.prog Try.f8 false true false false W args v W'
  have hval : ∀ (j : Nat) t v, Try.f8.params[j]? = some t → args[j]? = some v → Value.okWide Try.prog W .any base t v := hval0
  have hW' := hW
  obtain ⟨p, q, hA0, hV, rfl, hfz, hnd⟩ := hW
  have hA : DataW.TrodAll enc Try.prog W 0 (fun _ => true) true Try.f8.params.toList args.toList ds p := hA0
  have hZ1 : (DataW.weightsEach Try.prog (Try.f8.params.toList ++ (OpenSpec.ofChange Rows.diskBoundsSpec).bare.plain.varTypes Try.prog) (ds ++ gs)).all (· ≤ reachBytes) = true := hZ
  rw [Try.params8] at hZ1
  rw [Try.params8] at hA hval
  obtain ⟨hargs, rfl, rfl⟩ := trodAll_nil hA
  obtain rfl : args = #[] := by cases args; simp_all
  obtain ⟨rfl, rfl⟩ := trodVars_none hV
  clear hA0 hval0
  refine (walk W).mono fun e W' ⟨he, bel⟩ => ?_
  subst he
  exact ⟨_, rfl, _, _, _, [], _, [], hW', trodAll_mk1 (shut_bool Try.underlying4 _), trodAll_mk0, rfl, bel.frame _, fun h => by cases h⟩

/-- The statement. -/
theorem proved : Rows.DiskBoundsSaid :=
  OpenClaim.holds_of_cond 8 Try.f8 rfl rfl rfl rfl rfl rfl rfl ⟨rfl, rfl, rfl, rfl, rfl⟩ rfl rfl rfl rfl rfl (by kernel_rfl) Try.func8 (by kernel_rfl)
    (of_decide_eq_true (by kernel_rfl)) (by unfold Func.isWrapper; first | (rw [if_pos (by decide +kernel)]; kernel_rfl) | (rw [if_neg (by decide +kernel)]; exact ⟨rfl, rfl⟩))
    (fun os started H enc _ F => by rw [OpenClaim.pre_eq_preRow]; exact lifted os started H enc F)
#print axioms proved
end Go.Proofs.Ytcfglgejjmapdaa.diskBounds
