/- Proved here: 'taborlaw06.DequeBounds' returns true . Conditions: none. -/
import Derived.Test.YtnnlfhdjakabmaaFrame
import Derived.Test.YtnnlfhdjakabmaaBig
import Derived.Deep.Cut
namespace Go.Proofs.Ytnnlfhdjakabmaa.dequeBounds
open Go Go.RowKit Go.ChangeShapes Go.WideShapes Go.ChangeAt
open Go.Shelf

open Go.Shelf
set_option maxHeartbeats 8000000 in
set_option maxRecDepth 100000 in
theorem walk (w : World) :
    Calls Try.prog 10 #[] w fun e w' => e = .returned (.bool true) ∧ Below w.heap.size w w' := by
  obtain ⟨OL, l, hl, hsz, hmk, hrd⟩ := big_any 65536 (by omega)
  have hmk' : ∀ W : World, (Instr.makeSlice 29 (.int .i64 65537) (.int .i64 65537)).run Try.prog W = .ok (.slice (some ⟨W.heap.size, 0, none⟩) 65537 65537) (W.alloc OL) := hmk
  obtain ⟨OB, s, hs, hmb, hcv⟩ := bytes_of 1048577 (by omega)
  have hmb' : ∀ W : World, (Instr.makeSlice 56 (.int .i64 1048577) (.int .i64 1048577)).run Try.prog W = .ok (.slice (some ⟨W.heap.size, 0, none⟩) 1048577 1048577) (W.alloc OB) := hmb
  have hcv' := hcv (w.alloc OL)
  rw [show (w.alloc OL).heap.size = w.heap.size + 1 by simp] at hcv'
  have HRD := Lib.hid (RdV.below (hrd w) (below_new (w.alloc OL) OB))
  have HB2 := Lib.hid ((below_new w OL).trans ((below_new (w.alloc OL) OB).mono (by simp)))
  have HL := Lib.hid hl
  have HSZ := Lib.hid hsz
  have HS := Lib.hid hs
  have hs1 : (1048576 : Int) ≤ (s.size : Int) := by omega
  have hs2 : 1048576 < s.size := by omega
  have hs3 : s.size ≤ 1048577 := by omega
  clear hl hsz hmk hrd hs hmb hcv
  go_enter Try.func10, Try.ntmps10
  go_upto_region 3 with fail
  clear hmk' hmb' hcv'
  generalize (w.alloc OL).alloc OB = w2 at *
  generalize hg : w.heap.size = g at *
  go_wp2_with (refine wpList_slice_hi rfl (.tmp 28) (.const (.int .i64 65536)) 29 9 rfl Try.underlying29 (sz9 _) (some ⟨g, 0, none⟩) 65537 65537 rfl .i64 65536 rfl (by omega) ?_)
  refine (new_ds w2 (some ⟨g, 0, none⟩) 65536 65537 l w2 (Below.refl _ _) HL.out (RdV.front' HRD.out) (longB_no.2 (fun s hs => by rw [HSZ.out s hs]; omega)) (by omega)).mono ?_
  rintro e w3 ⟨D, rfl, hd⟩
  have HD3 := Lib.hid hd
  clear hd
  go_wp2_with fail
  refine (new_no (some ⟨g, 0, none⟩) 65537 65537 (l ++ [⟨#[]⟩]) w3 (by rw [List.length_append, HL.out]; rfl) (by omega) (fun s hs => by
    rcases List.mem_append.1 hs with h | h
    · rw [HSZ.out s h]; omega
    · rw [List.mem_singleton.1 h]; show 0 ≤ _; omega) (HRD.out.below HD3.out.2) (.inr (by omega))).mono ?_
  rintro e w4 ⟨rfl, hb4⟩
  have HD4 := Lib.hid (HD3.out.below hb4)
  clear hb4 HD3 HRD
  go_wp2_with fail
  have HD5 := Lib.hid (HD4.out.below (below_new w4 (.cells #[.string ⟨#[111, 110, 101, 32, 109, 111, 114, 101]⟩] 9)))
  refine (back_ds_no w2 D l _ 1 1 [⟨#[111, 110, 101, 32, 109, 111, 114, 101]⟩] _ HD5.out rfl (by omega) (fun s hs => by rw [List.mem_singleton.1 hs]; show 8 ≤ _; omega) (new_rdS w4 [⟨#[111, 110, 101, 32, 109, 111, 114, 101]⟩]) (.inr (by rw [HL.out]; omega))).mono ?_
  rintro e w5 ⟨rfl, rfl⟩
  generalize (w4.alloc (.cells #[.string ⟨#[111, 110, 101, 32, 109, 111, 114, 101]⟩] 9)) = w5 at *
  clear HD4
  go_wp2_with fail
  refine (front_ds w2 D 0 0 l none [] w5 HD5.out rfl (RdV.nil _ _) rfl (by rw [HL.out]; omega)).mono ?_
  rintro e w6 ⟨rfl, hd⟩
  have HD6 := Lib.hid hd
  clear hd HD5
  go_wp2_with fail
  obtain ⟨x1, hx1⟩ : ∃ x1, s.extract 0 1048576 = x1 := ⟨_, rfl⟩
  have hx2 : x1.size ≤ 1048576 := by rw [← hx1, ByteArray.size_extract]; omega
  rw [hx1]
  clear hx1
  have HD7 := Lib.hid (HD6.out.below (below_new w6 (.cells #[.string x1] 9)))
  have hr7 := new_rdS w6 [x1]
  have HR7 : Hid (RdV (w6.alloc (.cells #[.string x1] 9)) (some ⟨w6.heap.size, 0, none⟩) (cellsS [x1])) := Lib.hid hr7
  generalize (w6.alloc (.cells #[.string x1] 9)) = w7 at *
  generalize w6.heap.size = g7 at *
  clear hr7 HD6
  refine (new_ds w7 (some ⟨g7, 0, none⟩) 1 1 [x1] w7 (Below.refl _ _) rfl HR7.out (longB_no.2 (fun s hs => by rw [List.mem_singleton.1 hs]; exact hx2)) (by omega)).mono ?_
  rintro e w8 ⟨E, rfl, hd⟩
  have HE8 := Lib.hid hd
  have HD8 := Lib.hid (HD7.out.below hd.2)
  clear hd HD7 HR7
  go_wp2_with fail
  have HE9 := Lib.hid (HE8.out.below (below_new w8 (.cells #[.string ⟨#[97]⟩, .string s] 9)))
  have HD9 := Lib.hid (HD8.out.below (below_new w8 (.cells #[.string ⟨#[97]⟩, .string s] 9)))
  refine (front_ds_no w7 E [x1] _ 2 2 [⟨#[97]⟩, s] _ HE9.out rfl (by omega) (fun s' hs => by
    rcases List.mem_cons.1 hs with h | h
    · rw [h]; show 1 ≤ _; omega
    · rw [List.mem_singleton.1 h]; omega) (new_rdS w8 [⟨#[97]⟩, s]) (.inl (long_of hs2 (by simp)))).mono ?_
  rintro e w9 ⟨rfl, rfl⟩
  generalize (w8.alloc (.cells #[.string ⟨#[97]⟩, .string s] 9)) = w9 at *
  clear HE8 HD8
  go_wp2_with fail
  refine (put_ds_long w7 E [x1] 5 s w9 HE9.out hs2 (by omega)).mono ?_
  rintro e w10 ⟨rfl, rfl⟩
  go_wp2_with fail
  refine (new_no _ 1 1 [s] _ rfl (by omega) (fun s' hs => by rw [List.mem_singleton.1 hs]; omega) (new_rdS w10 [s]) (.inl (long_of hs2 (by simp)))).mono ?_
  rintro e w11 ⟨rfl, hb11⟩
  have HD11 := Lib.hid ((HD9.out.below (below_new w10 (.cells #[.string s] 9))).below hb11)
  have HE11 := Lib.hid ((HE9.out.below (below_new w10 (.cells #[.string s] 9))).below hb11)
  clear hb11 HD9 HE9
  go_wp2_with fail
  refine (back_nil _ _).mono ?_
  rintro e w12 ⟨rfl, rfl⟩
  have HD12 := Lib.hid (HD11.out.below (below_new w11 (.cells #[.string ⟨#[97]⟩] 9)))
  have HE12 := Lib.hid (HE11.out.below (below_new w11 (.cells #[.string ⟨#[97]⟩] 9)))
  generalize (w11.alloc (.cells #[.string ⟨#[97]⟩] 9)) = w12 at *
  clear HD11 HE11
  go_wp2_with fail
  refine (put_nil 0 ⟨#[97]⟩ w12).mono ?_
  rintro e w13 ⟨rfl, rfl⟩
  go_wp2_with fail
  refine (popf_nil _).mono ?_
  rintro e w13 ⟨rfl, rfl⟩
  go_wp2_with fail
  refine (at_nil 0 _ (by omega) (by omega)).mono ?_
  rintro e w13 ⟨rfl, rfl⟩
  go_wp2_with fail
  refine (keep_nil 0 1 _).mono ?_
  rintro e w13 ⟨rfl, rfl⟩
  go_wp2_with fail
  refine (gone_nil _).mono ?_
  rintro e w14 ⟨v14, rfl, ho14, hb14⟩
  obtain ⟨A14, c14, rfl, -, -, -, -⟩ := own_rdV ho14
  have HD14 := Lib.hid (HD12.out.below hb14)
  have HE14 := Lib.hid (HE12.out.below hb14)
  clear ho14 hb14 HD12 HE12
  go_wp2_with fail
  refine (num_any 0 _).mono ?_
  rintro e w15 ⟨rfl, rfl⟩
  go_wp2_with fail
  refine (len_ds w2 D 65536 _ _ HD14.out (by simp [HL.out])).mono ?_
  rintro e w15 ⟨rfl, rfl⟩
  go_wp2_with fail
  refine (num_any 3 _).mono ?_
  rintro e w16 ⟨rfl, rfl⟩
  go_wp2_with fail
  refine (num_any 3 _).mono ?_
  rintro e w16 ⟨rfl, rfl⟩
  go_wp2_with fail
  refine (num_any 0 _).mono ?_
  rintro e w16 ⟨rfl, rfl⟩
  go_wp2_with fail
  refine (num_any 0 _).mono ?_
  rintro e w16 ⟨rfl, rfl⟩
  go_wp2_with fail
  refine (num_any 3 _).mono ?_
  rintro e w16 ⟨rfl, rfl⟩
  go_wp2_with fail
  refine (len_ds w7 E 1 [x1] _ HE14.out rfl).mono ?_
  rintro e w16 ⟨rfl, rfl⟩
  go_wp2_with fail
  refine (num_any 3 _).mono ?_
  rintro e w17 ⟨rfl, rfl⟩
  go_wp2_with fail
  refine (num_any 3 _).mono ?_
  rintro e w17 ⟨rfl, rfl⟩
  go_wp2_with fail
  refine (num_any 1 _).mono ?_
  rintro e w17 ⟨rfl, rfl⟩
  go_wp2_with fail
  refine (num_any 1 _).mono ?_
  rintro e w17 ⟨rfl, rfl⟩
  go_wp2_with fail
  refine (len_nil _).mono ?_
  rintro e w17 ⟨rfl, rfl⟩
  go_wp2_with fail
  refine (drop_nil 0 ⟨#[]⟩ _).mono ?_
  rintro e w18 ⟨rfl, hb18⟩
  have HD18 := Lib.hid (HD14.out.below hb18)
  clear HD14 HE14 hb18
  go_wp2_with fail
  refine (range_nil 0 (-1) _).mono ?_
  rintro e w19 ⟨rfl, rfl⟩
  go_wp2_with fail
  refine (works_any _).mono ?_
  rintro e w20 ⟨rfl, hb20⟩
  go_wp2_with fail
  try go_ret
  subst hg
  have hb := HD18.out.2
  exact ⟨rfl, HB2.out.trans ((hb.trans (hb20.mono hb.size)).mono HB2.out.size)⟩


set_option maxRecDepth 100000 in
theorem lifted (os : Os) (started : os.Started) (H : Type) (enc : TypeId × Value → H) :
    ReturnsInHanded {} Try.checked os 10 .any (Rows.dequeBoundsSpec.pre6 enc Try.prog Try.f10 Rows.dequeBoundsRow.domain false) (Rows.dequeBoundsSpec.post enc Try.prog Try.f10 false true false false) := by
  refine returnsInHanded_of_change (C := Try.checked) own started (by kernel_rfl) Try.func10
    (ChangeSpec.witness6 (enc := enc) (C := Try.checked) false ⟨#[], #[], []⟩ 8 (by kernel_rfl) (by kernel_rfl) (by kernel_rfl) (by kernel_rfl)) ?_
  intro W base args ds gs before hval0 hW hcnd hZ
  have hval : ∀ (j : Nat) t v, Try.f10.params[j]? = some t → args[j]? = some v → Value.okWide Try.prog W .any base t v := hval0
  have hW' := hW
  obtain ⟨p, q, hA0, hV, rfl, hfz, hnd⟩ := hW
  have hA : DataW.TrodAll enc Try.prog W 0 (fun _ => true) true Try.f10.params.toList args.toList ds p := hA0
  rw [Try.params10] at hA hval
  obtain ⟨hargs, rfl, rfl⟩ := trodAll_nil hA
  obtain rfl : args = #[] := by cases args; simp_all
  obtain ⟨rfl, rfl⟩ := trodVars_none hV
  clear hA0 hval0
  refine (walk W).mono fun e W' ⟨he, bel⟩ => ?_
  subst he
  exact ⟨_, rfl, _, _, _, [], _, [], hW', trodAll_mk1 (shut_bool Try.underlying4 _), trodAll_mk0, rfl, bel.frame _, fun h => by cases h⟩

/-- The statement. -/
theorem proved : Rows.DequeBoundsSaid :=
  OpenClaim.holds_of_wide 10 Try.f10 rfl rfl rfl rfl rfl rfl rfl ⟨rfl, rfl, rfl, rfl, rfl⟩ rfl rfl rfl rfl rfl (by kernel_rfl) Try.func10 (by kernel_rfl)
    (of_decide_eq_true (by kernel_rfl)) (by unfold Func.isWrapper; first | (rw [if_pos (by decide +kernel)]; kernel_rfl) | (rw [if_neg (by decide +kernel)]; exact ⟨rfl, rfl⟩))
    (fun os started H enc _ => lifted os started H enc)
#print axioms proved
end Go.Proofs.Ytnnlfhdjakabmaa.dequeBounds
