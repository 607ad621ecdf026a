/- Proved here: 'taborlaw03.FramesBounds' returns true (it has no parameters). Conditions: those of the given card (the listed table holds what the program's text lays; nothing else). -/
import Derived.Test.YthbhbjfmlmgeeaaDoorFrame
import Derived.Test.YthbhbjfmlmgeeaaDoorFull
namespace Go.Proofs.YthbhbjfmlmgeeaaDoor.framesBounds
open Go Go.RowKit Go.ChangeShapes Go.WideShapes Go.ChangeAt
open Go.ChangeMaps (open_string shut_string)

set_option maxHeartbeats 8000000 in
set_option maxRecDepth 100000 in
theorem walk (w : World) (hg : Tabs w) (h0 : 0 < w.heap.size) :
    Calls Tryd.prog 7 #[] w fun e w' => e = .returned (.bool true) ∧ Below w.heap.size w w' := by
  have HG := Lib.hid hg
  clear hg
  obtain ⟨N, hN⟩ : ∃ N : Nat, N = 65537 := ⟨_, rfl⟩
  obtain ⟨M, hM⟩ : ∃ M : Nat, M = 65536 := ⟨_, rfl⟩
  obtain ⟨R, hR⟩ : ∃ R : Nat, R = 1048569 := ⟨_, rfl⟩
  obtain ⟨S, hS⟩ : ∃ S : Nat, S = 1048568 := ⟨_, rfl⟩
  have HN := Lib.hid hN
  have HM := Lib.hid hM
  have HR := Lib.hid hR
  have HS := Lib.hid hS
  have HNc := Lib.hid (show (65537 : Int) = (N : Int) by rw [hN]; rfl)
  have HRc := Lib.hid (show (1048569 : Int) = (R : Int) by rw [hR]; rfl)
  have HMc := Lib.hid (show (65536 : Int) = (M : Int) by rw [hM]; rfl)
  have hNM : (65536 : Int) ≤ (N : Int) := by omega
  have hRS : (1048568 : Int) ≤ (R : Int) := by omega
  have HT : Hid ((List.replicate N em).take 65536 = List.replicate M em) := Lib.hid (by rw [List.take_replicate, hN, hM]; rfl)
  have HMay1 : Hid (mayL (bl (List.replicate M em)) = true) := Lib.hid (by rw [may_iff, szS_rep, List.length_replicate, hM]; rfl)
  have HMay2 : Hid (mayL (bl (List.replicate N em)) = false) := Lib.hid (by rw [may_iff, szS_rep, List.length_replicate, hN]; rfl)
  have HL1 : Hid ((frameL (bl (List.replicate M em))).length = 262156) := Lib.hid (by rw [frameL_len, body_size, szS_rep, hM])
  have sz1 : szS [zs S] = 1048572 := by rw [szS, szS, zs_size, hS]
  have sz2 : szS [zs R] = 1048573 := by rw [szS, szS, zs_size, hR]
  have HMay3 : Hid (mayL (bl [zs S]) = true) := Lib.hid (by rw [may_iff, sz1]; rfl)
  have HMay4 : Hid (mayL (bl [zs R]) = false) := Lib.hid (by rw [may_iff, sz2]; rfl)
  have HL3 : Hid ((frameL (bl [zs S])).length = 1048584) := Lib.hid (by rw [frameL_len, body_size, sz1])
  have HF1 : Hid ((fsz (List.replicate N em) : Int) = 0) := Lib.hid (by rw [fsz_no (.inl (by rw [List.length_replicate, hN]; omega))]; rfl)
  have HF2 : Hid ((fsz [zs R] : Int) = 0) := Lib.hid (by rw [fsz_no (.inr (by rw [sz2]; omega))]; rfl)
  have HZ1 : Hid (szS (List.replicate N em) ≤ 2000000000) := Lib.hid (by rw [szS_rep, hN]; omega)
  have HZ2 : Hid (szS [zs R] ≤ 2000000000) := Lib.hid (by rw [sz2]; omega)
  have HCut : Hid ((zs R).extract 0 1048568 = zs S) := Lib.hid (by rw [zs_cut _ _ (by omega), hS])
  have hzs : (zs R).size = R := zs_size R
  have HLN : Hid ((List.replicate N em).length = N) := Lib.hid (by rw [List.length_replicate])
  have HLM : Hid ((List.replicate M em).length = 65536) := Lib.hid (by rw [List.length_replicate, hM])
  have HZL : Hid ((List.replicate R (0 : UInt8)).length = R) := Lib.hid (by rw [List.length_replicate])
  obtain ⟨lN, hlN⟩ : ∃ x, x = List.replicate N em := ⟨_, rfl⟩
  obtain ⟨lM, hlM⟩ : ∃ x, x = List.replicate M em := ⟨_, rfl⟩
  obtain ⟨zR, hzR⟩ : ∃ x, x = zs R := ⟨_, rfl⟩
  obtain ⟨zS, hzS⟩ : ∃ x, x = zs S := ⟨_, rfl⟩
  rw [← hlN, ← hlM] at HT
  rw [← hlM] at HMay1 HL1 HLM
  rw [← hlN] at HMay2 HF1 HZ1 HLN
  rw [← hzR, ← hzS] at HCut
  rw [← hzS] at HMay3 HL3
  rw [← hzR] at HMay4 HF2 HZ2 hzs
  have HlN := Lib.hid hlN
  have HzR := Lib.hid hzR
  have HZS := Lib.hid hzs
  have hRS' : (1048568 : Int) ≤ (zR.size : Int) := by rw [hzs]; exact hRS
  clear hN hM hR hS sz1 sz2 hlN hlM hzR hzS hzs
  go_enter Tryd.func7, Tryd.ntmps7
  go_wp2_with (refine wpList_manyS rfl _ rfl N HNc.out (by rw [HN.out]; omega) ?_; intro w1 hr1 hb1 hs1; rw [← HlN.out] at hr1)
  have HR1 := Lib.hid hr1
  have HB1 := Lib.hid hb1
  have HR1t : Hid (RdV w1 (some ⟨w.heap.size, 0, none⟩) (cellsS lM)) := Lib.hid (by have h := hr1.take 65536; rwa [cellsS, ← List.map_take, HT.out] at h)
  clear hr1 hb1
  refine (put_yes (some ⟨w.heap.size, 0, none⟩) 65536 N lM w1 HLM.out HR1t.out (HG.out.below h0 HB1.out) (by omega) HMay1.out).mono ?_
  intro e w2 hput
  obtain ⟨A2, c2, rfl, k2, n2, ho2, hr2, hb2, hb2'⟩ := hput.back HB1.out HL1.out
  have HB2 := Lib.hid hb2
  have HA := Lib.hid hr2
  have HNA := Lib.hid n2
  have HR2 := Lib.hid (HR1.out.below hb2')
  clear hput hr2 ho2 n2 hb2 hb2' HR1 HR1t HB1 hs1
  go_wp2_with fail
  refine (put_no (some ⟨w.heap.size, 0, none⟩) N N lN w2 HLN.out HZ1.out HR2.out HMay2.out).mono ?_
  rintro e w3 ⟨rfl, hb3⟩
  have HB3 := Lib.hid (HB2.out.trans (hb3.mono HB2.out.size))
  have HA3 := Lib.hid (HA.out.below hb3)
  have HR3 := Lib.hid (HR2.out.below hb3)
  clear hb3 HB2 HA HR2
  go_wp2_with (refine wpList_manyB rfl _ rfl R HRc.out (by rw [HR.out]; omega) ?_; intro w4 hr4 hb4 hs4; have hconv := conv_n HZL.out (fun h => by cases h) (Nat.le_refl _) hr4; rw [show (⟨(List.replicate R (0 : UInt8)).toArray⟩ : ByteArray) = zR from HzR.out.symm] at hconv; have HB4 := Lib.hid (HB3.out.trans (hb4.mono HB3.out.size)); have HA4 := Lib.hid (HA3.out.below hb4); have HR4 := Lib.hid (HR3.out.below hb4); clear hr4 hb4 hs4)
  rw [HCut.out]
  clear hconv
  have hb5 := below_new w4 (.cells (cellsS [zS]).toArray 9)
  have hb5w := HB4.out.trans (hb5.mono HB4.out.size)
  refine (put_yes _ 1 1 [zS] _ rfl (new_rdS w4 [zS]) (HG.out.below h0 hb5w) (Nat.lt_of_lt_of_le h0 hb5w.size) HMay3.out).mono ?_
  intro e w5 hput
  obtain ⟨A5, c5, rfl, k5, n5, -, hr5, hb5a, hb5b⟩ := hput.back hb5w HL3.out
  have hb45 : Below w4.heap.size w4 w5 := hb5.trans (hb5b.mono hb5.size)
  have HB5 := Lib.hid hb5a
  have HA5 := Lib.hid (HA4.out.below hb45)
  have HR5 := Lib.hid (HR4.out.below hb45)
  have HC5 := Lib.hid hr5
  have HN5 := Lib.hid n5
  clear hput hr5 hb5a hb5b hb5 hb5w hb45 HB4 HA4 HR4 n5
  go_wp2_with fail
  have hb6 := below_new w5 (.cells (cellsS [zR]).toArray 9)
  refine (put_no _ 1 1 [zR] _ rfl HZ2.out (new_rdS w5 [zR]) HMay4.out).mono ?_
  rintro e w6 ⟨rfl, hb6b⟩
  have hb56 : Below w5.heap.size w5 w6 := hb6.trans (hb6b.mono hb6.size)
  have HB6 := Lib.hid (HB5.out.trans (hb56.mono HB5.out.size))
  have HA6 := Lib.hid (HA5.out.below hb56)
  have HR6 := Lib.hid (HR5.out.below hb56)
  have HC6 := Lib.hid (HC5.out.below hb56)
  clear hb6 hb6b hb56 HB5 HA5 HR5 HC5
  go_wp2_with fail
  refine (fread_any A5 1048584 c5 _ w6 HL3.out k5 (by omega) HN5.out HC6.out (HG.out.below h0 HB6.out) (Nat.lt_of_lt_of_le h0 HB6.out.size)).mono ?_
  intro e w7 hread
  obtain ⟨A7, c7, n7, rfl, hn7, -, hb7⟩ := hread.back0 HMay3.out HL3.out
  obtain rfl : n7 = 1 := hn7.symm
  have HB7 := Lib.hid (HB6.out.trans (hb7.mono HB6.out.size))
  have HA7 := Lib.hid (HA6.out.below hb7)
  have HR7 := Lib.hid (HR6.out.below hb7)
  clear hread hn7 hb7 HB6 HA6 HR6 HC6
  go_wp2_with fail
  refine (fread_any A2 262156 c2 _ w7 HL1.out k2 (by omega) HNA.out HA7.out (HG.out.below h0 HB7.out) (Nat.lt_of_lt_of_le h0 HB7.out.size)).mono ?_
  intro e w8 hread
  obtain ⟨A8, c8, n8, rfl, hn8, -, hb8⟩ := hread.back0 HMay1.out HL1.out
  obtain rfl : n8 = 65536 := hn8.symm.trans HLM.out
  have HB8 := Lib.hid (HB7.out.trans (hb8.mono HB7.out.size))
  have HR8 := Lib.hid (HR7.out.below hb8)
  clear hread hn8 hb8 HB7 HA7 HR7
  go_wp2_with fail
  have hb9 := below_new w8 (.cells (cellsB nine).toArray 5)
  have hb9w := HB8.out.trans (hb9.mono HB8.out.size)
  refine (fread_any _ 9 9 nine _ rfl (Nat.le_refl _) (by omega) (fun h => by cases h) (new_rdB w8 nine) (HG.out.below h0 hb9w) (Nat.lt_of_lt_of_le h0 hb9w.size)).mono ?_
  intro e w9 hread
  obtain ⟨v9, m9, rfl, hb9b⟩ := hread.err read_nine
  have HB9 := Lib.hid (hb9w.trans (hb9b.mono hb9w.size))
  have HR9 := Lib.hid ((HR8.out.below hb9).below hb9b)
  clear hread hb9 hb9w hb9b HB8 HR8
  go_wp2_with (go_at_call 14; refine (num_any _ _).mono ?_; rintro e w' ⟨rfl, rfl⟩)
  refine (fsize_any (some ⟨w.heap.size, 0, none⟩) N N lN w9 HLN.out HZ1.out HR9.out).mono ?_
  rintro e w10 ⟨rfl, hb10⟩
  rw [HF1.out]
  have HB10 := Lib.hid (HB9.out.trans (hb10.mono HB9.out.size))
  clear hb10 HB9 HR9
  go_wp2_with fail
  have hb11 := below_new w10 (.cells (cellsS [zR]).toArray 9)
  refine (fsize_any _ 1 1 [zR] _ rfl HZ2.out (new_rdS w10 [zR])).mono ?_
  rintro e w11 ⟨rfl, hb11b⟩
  rw [HF2.out]
  have HB11 := Lib.hid (HB10.out.trans ((hb11.trans (hb11b.mono hb11.size)).mono HB10.out.size))
  clear hb11 hb11b HB10
  go_wp2_with fail
  refine (works_any w11 (HG.out.below h0 HB11.out) (Nat.lt_of_lt_of_le h0 HB11.out.size)).mono ?_
  rintro e w12 ⟨rfl, hb12⟩
  go_wp2
  go_ret
  exact ⟨rfl, HB11.out.trans (hb12.mono HB11.out.size)⟩



set_option maxRecDepth 20000 in
theorem contract (H : Type) (enc : TypeId × Value → H) (W : World) (base : Nat) (args : Array Value) (ds gs : List (DataW H)) (before : List MemPlace)
    (hval : ∀ (j : Nat) t v, Tryd.f7.params[j]? = some t → args[j]? = some v → Value.okWide Tryd.prog W .any base t v)
    (hW : DataW.Whole enc Tryd.prog Tryd.f7.params.toList Rows.framesBoundsSpec.vars false W args.toList ds gs before) 
    (hZ : (DataW.weightsEach Tryd.prog (Tryd.f7.params.toList ++ (OpenSpec.ofChange Rows.framesBoundsSpec).bare.plain.varTypes Tryd.prog) (ds ++ gs)).all (· ≤ reachBytes) = true) (hL : laidMetH Tryd.prog Rows.framesBoundsRow.laid W) :
    Calls Tryd.prog 7 args W fun e W' => ∃ v, e = .returned v ∧ Rows.framesBoundsSpec.post enc Tryd.prog Tryd.f7 false true false false W args v W' := by
  have hW' := hW
  obtain ⟨p, q, hA0, hV, rfl, hfz, hnd⟩ := hW
  have hA : DataW.TrodAll enc Tryd.prog W 0 (fun _ => true) true Tryd.f7.params.toList args.toList ds p := hA0
  rw [Tryd.params7] at hA hval hZ
  obtain ⟨hargs, rfl, rfl⟩ := trodAll_nil hA
  obtain rfl : args = #[] := by cases args; simp_all
  obtain ⟨rfl, rfl⟩ := trodVars_none hV
  clear hA0
  refine (walk W (tabs_of hL) (pos_of hL)).mono fun e W' ⟨he, bel⟩ => ?_
  subst he
  exact ⟨_, rfl, _, _, _, [], _, [], hW', trodAll_mk1 (shut_bool Tryd.underlying4 _), trodAll_mk0, rfl, bel.frame _, fun h => by cases h⟩

theorem reads (os : Os) {H : Type} (enc : TypeId × Value → H) : ∃ places, DataW.whole enc Tryd.prog ((laidWorld os).forCall (fun _ _ => 0) ⟨#[], #[], []⟩).memory Tryd.f7.params.toList Rows.framesBoundsSpec.vars false (#[] : Array Value).toList 8 = some ([], [], places) :=
  ⟨[], by kernel_rfl⟩

set_option maxRecDepth 100000 in
theorem lifted (os : Os) (started : os.Started) (H : Type) (enc : TypeId × Value → H) (F : Stop.Interp) :
    ReturnsInHanded {} Tryd.checked os 7 .any ((OpenSpec.ofChange Rows.framesBoundsSpec).preRow enc Tryd.prog Tryd.f7 Rows.framesBoundsRow.domain false Rows.framesBoundsRow.laid) (((OpenSpec.ofChange Rows.framesBoundsSpec).at F).post enc Tryd.prog Tryd.f7 false true false false) := by
  obtain ⟨places, hx⟩ := reads os enc
  refine returnsInHanded_of_row (C := Tryd.checked) (s := OpenSpec.ofChange Rows.framesBoundsSpec) own started (by kernel_rfl) Tryd.func7
    (witness_row_at (enc := enc) (C := Tryd.checked) false (laidWorld os) #[] rfl (by kernel_rfl) (by kernel_rfl) (by kernel_rfl)
      (OpenSpec.preRow_of_cond 8 hx (by kernel_rfl) (fun k hk => by cases hk) (by kernel_rfl) (laid_met os _))) ?_
  intro W base args ds gs before hval hW _ _ hZ hL _ _
  exact contract H enc W base args ds gs before hval hW hZ hL

theorem said : Rows.FramesBoundsSaid :=
  OpenClaim.holds_of_cond 7 Tryd.f7 rfl rfl rfl rfl rfl rfl rfl ⟨rfl, rfl, rfl, rfl, rfl⟩ rfl rfl rfl rfl rfl (by kernel_rfl) Tryd.func7 (by kernel_rfl)
    (of_decide_eq_true (by kernel_rfl)) (by unfold Func.isWrapper; first | (rw [if_pos (by decide +kernel)]; kernel_rfl) | (rw [if_neg (by decide +kernel)]; exact ⟨rfl, rfl⟩))
    (fun os started H enc _ F => by rw [OpenClaim.pre_eq_preRow]; exact lifted os started H enc F)

theorem plain (f : FuncId) (fn : Func) (hf : Tryd.pinned.checked.prog.funcNamed "tabor/taborlaw03.FramesBounds" = some f) (hfn : Tryd.pinned.checked.prog.funcs[f]? = some fn) :
    true = Tryd.pinned.checked.prog.looks [] ∧ ∀ (j : Nat) t, fn.params[j]? = some t → Tryd.pinned.checked.prog.wantsStandIn t = false := by
  obtain rfl : f = 7 := Option.some.inj ((show Tryd.prog.funcNamed "tabor/taborlaw03.FramesBounds" = some 7 by kernel_rfl).symm.trans hf) |>.symm
  obtain rfl : fn = Tryd.f7 := (Option.some.inj (Tryd.func7.symm.trans hfn)).symm
  refine ⟨by kernel_rfl, fun j t ht => ?_⟩
  rw [Tryd.params7] at ht
  simp at ht

/-- The card. -/
theorem card : Rows.FramesBoundsCardSaid :=
  Claim7.holds_tied_plain_at .later [] _ _ _ _ said (fun _ h => by cases h) (by kernel_rfl) (fun _ h => by cases h) framesBounds_row_tie rfl ⟨rfl, rfl⟩ (by kernel_rfl) rfl plain (by kernel_rfl)
#print axioms card
end Go.Proofs.YthbhbjfmlmgeeaaDoor.framesBounds
