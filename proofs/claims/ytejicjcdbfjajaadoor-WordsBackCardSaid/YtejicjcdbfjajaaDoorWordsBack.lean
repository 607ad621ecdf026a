/- Proved here: 'taborlaw11.WordsBack' returns true for every text. Conditions: those of the given card (the five listed tables hold what the program's text lays; nothing else). -/
import Derived.Test.YtejicjcdbfjajaaDoorFrp
import Derived.Test.YtejicjcdbfjajaaDoorKnown
import Derived.Test.YtejicjcdbfjajaaDoorSam
import Derived.Test.YtejicjcdbfjajaaDoorPn
import Derived.Test.YtejicjcdbfjajaaDoorWrs
import Derived.Test.YtejicjcdbfjajaaDoorFrp
namespace Go.Proofs.YtejicjcdbfjajaaDoor.wordsBack
open Go Go.RowKit Go.ChangeShapes Go.WideShapes Go.ChangeAt
open Go.ChangeMaps (open_string shut_string)

theorem sameL_symm : ∀ (a b : List Wr), sameL a b = true → sameL b a = true
  | [], [], _ => rfl
  | [], _ :: _, h => by simp [sameL] at h
  | _ :: _, [], h => by simp [sameL] at h
  | x :: a, y :: b, h => by
    rw [sameL, Bool.and_eq_true] at h
    rw [sameL, sameL_symm a b h.2, Bool.and_true]
    have h1 := h.1
    simp only [sameW, Bool.and_eq_true, decide_eq_true_eq] at h1 ⊢
    exact ⟨⟨h1.1.1.symm, h1.1.2.symm⟩, h1.2.symm⟩
set_option maxHeartbeats 4000000 in
set_option maxRecDepth 100000 in
theorem walk (s : ByteArray) (w : World) (hs : s.size ≤ 9223372036854775807) (hg : SPC w) (ht : TAB w) :
    Calls Tryd.prog 5 #[.string s] w fun e w' => e = .returned (.bool true) ∧ Below w.heap.size w w' := by
  have HG := Lib.hid hg
  have HT := Lib.hid ht
  by_cases h3 : 3000 < s.size
  · have hd : decide (3000 < s.size) = true := decide_eq_true h3
    have HK := Lib.hid (known_any w hg)
    clear hg ht
    go_enter Tryd.func5, Tryd.ntmps5
    go_wp2_with fail
    refine HK.out.mono ?_
    rintro e w1 ⟨rfl, hb1⟩
    go_wp2_with fail
    go_ret
    exact ⟨rfl, hb1⟩
  · have hd : decide (3000 < s.size) = false := decide_eq_false h3
    have HL := Lib.hid (lex_any s w hg (by omega))
    clear hg ht
    go_enter Tryd.func5, Tryd.ntmps5
    go_wp2_with fail
    refine HL.out.mono ?_
    rintro e w1 ⟨hb1, ⟨h1, -⟩ | ⟨-, hok, v, rfl, hrow⟩ | ⟨-, pre, b, hbad, -, rfl⟩⟩
    · omega
    rotate_left
    · have HB1 := Lib.hid hb1
      have HK := Lib.hid (known_any w1 (spc_below HG.out hb1))
      clear hb1 hbad HL
      go_wp2_with fail
      refine HK.out.mono ?_
      rintro e w4 ⟨rfl, hb4⟩
      have HB4 := Lib.hid (HB1.out.trans (hb4.mono HB1.out.size))
      clear hb4
      go_wp2_with fail
      go_ret
      exact ⟨rfl, HB4.out⟩
    obtain ⟨hmo, hwg⟩ := lex_may (l := bl s) (by rw [bl_len]; omega) hok
    rw [bl_len] at hwg
    obtain ⟨L, hL⟩ : ∃ L, (lexT (bl s)).map wrI = L := ⟨_, rfl⟩
    have hr0 := own_rdA hrow
    rw [hL] at hr0 hmo hwg
    obtain ⟨A, c, rfl, hcc, hnc, hcm, hrd⟩ := hr0
    have hwg2 : wgt L ≤ 78000 := by omega
    have HLm : Hid (L.length ≤ 9223372036854775807) := Lib.hid (by simp only [maxLen] at hcm; omega)
    have hall : L.all mayW = true := List.all_eq_true.2 (fun p hp => (hmo p hp).1)
    have hp : prO L = .tuple #[.string (ofL (prL L)), .int .i64 0] := by unfold prO; rw [hall]; rfl
    have HP := Lib.hid (print_any A c L w1 hrd HLm.out (fun p hp => (hmo p hp).2) (by omega) (spc_below HG.out hb1) (tab_below HT.out hb1))
    rw [hp] at HP
    have HLX := Lib.hid (lex_prL hmo)
    have hqs : (ofL (prL L)).size ≤ 78000 := by rw [← bl_len, bl_ofL]; exact Nat.le_trans (prL_len L (fun p hp => (hmo p hp).2)) hwg2
    have HXQ : Hid (bl (ofL (prL L)) = prL L) := Lib.hid (bl_ofL _)
    have HB1 := Lib.hid hb1
    have HRD := Lib.hid hrd
    clear hp hall hmo hb1 hrd hrow hok HL hL hwg hwg2
    generalize prL L = X at *
    generalize ofL X = q at *
    have HQS := Lib.hid hqs
    clear hqs
    go_wp2_with fail
    refine HP.out.mono ?_
    rintro e w2 ⟨rfl, hb2⟩
    have HB2 := Lib.hid (HB1.out.trans (hb2.mono HB1.out.size))
    have HRD2 := Lib.hid (HRD.out.below hb2)
    have HL := Lib.hid (lex_any q w2 (spc_below HG.out HB2.out) (by have := HQS.out; omega))
    clear hb2 HP HB1 HRD
    go_wp2_with fail
    refine HL.out.mono ?_
    rintro e w4 ⟨hb4, ⟨h1, -⟩ | ⟨-, hok, v, rfl, hrow⟩ | ⟨-, pre, b, hbad, -, rfl⟩⟩
    · have := HQS.out; omega
    rotate_left
    · exfalso
      rw [HXQ.out] at hbad
      exact HLX.out.2 ⟨b, none⟩ (by rw [hbad]; simp) rfl
    rw [HXQ.out] at hrow
    obtain ⟨M, hM⟩ : ∃ M, (lexT X).map wrI = M := ⟨_, rfl⟩
    have hr0 := own_rdA hrow
    rw [hM] at hr0
    obtain ⟨A2, c2, rfl, hcc2, hnc2, hcm2, hrd2⟩ := hr0
    have HS : Hid (sameL L M = true) := Lib.hid (by rw [← hM]; exact sameL_symm _ _ HLX.out.1)
    have HB4 := Lib.hid (HB2.out.trans (hb4.mono HB2.out.size))
    have HSM := Lib.hid (same_any A A2 c c2 L M w4 (HRD2.out.below hb4) hrd2 HLm.out (by simp only [maxLen] at hcm2; omega))
    rw [HS.out] at HSM
    clear hrow hM hb4 hrd2 HLX HL HB2 hok HRD2
    go_wp2_with fail
    refine HSM.out.mono ?_
    rintro e w5 ⟨rfl, hb5⟩
    have HB5 := Lib.hid (HB4.out.trans (hb5.mono HB4.out.size))
    have HK := Lib.hid (known_any w5 (spc_below HG.out HB5.out))
    clear hb5 HSM
    go_wp2_with fail
    refine HK.out.mono ?_
    rintro e w6 ⟨rfl, hb6⟩
    have HB6 := Lib.hid (HB5.out.trans (hb6.mono HB5.out.size))
    clear hb6
    go_wp2_with fail
    go_ret
    exact ⟨rfl, HB6.out⟩


set_option maxRecDepth 20000 in
theorem contract (H : Type) (enc : TypeId × Value → H) (W : World) (base : Nat) (args : Array Value) (ds gs : List (DataW H)) (before : List MemPlace)
    (hval : ∀ (j : Nat) t v, Tryd.f5.params[j]? = some t → args[j]? = some v → Value.okWide Tryd.prog W .any base t v)
    (hW : DataW.Whole enc Tryd.prog Tryd.f5.params.toList Rows.wordsBackSpec.vars false W args.toList ds gs before) 
    (hZ : (DataW.weightsEach Tryd.prog (Tryd.f5.params.toList ++ (OpenSpec.ofChange Rows.wordsBackSpec).bare.plain.varTypes Tryd.prog) (ds ++ gs)).all (· ≤ reachBytes) = true) (hL : laidMetH Tryd.prog Rows.wordsBackRow.laid W) :
    Calls Tryd.prog 5 args W fun e W' => ∃ v, e = .returned v ∧ Rows.wordsBackSpec.post enc Tryd.prog Tryd.f5 false true false false W args v W' := by
  have hW' := hW
  obtain ⟨p, q, hA0, hV, rfl, hfz, hnd⟩ := hW
  have hA : DataW.TrodAll enc Tryd.prog W 0 (fun _ => true) true Tryd.f5.params.toList args.toList ds p := hA0
  rw [Tryd.params5] at hA hval hZ
  obtain ⟨v0, vs0, d0, ds0, p0, q0, hargs, rfl, rfl, h0, r0⟩ := trodAll_cons hA
  obtain ⟨rfl, rfl, rfl⟩ := trodAll_nil r0
  obtain rfl : args = #[v0] := by cases args; simp_all
  obtain ⟨rfl, rfl⟩ := trodVars_none hV
  obtain ⟨s0, rfl, rfl, rfl, hs0⟩ := open_string Tryd.underlying9 (hval 0 9 v0 rfl rfl) h0
  clear hA0
  refine (walk s0 W (by have := hs0; simp only [maxLen] at this; omega) (laid_spcP hL) (laid_powP hL)).mono fun e W' ⟨he, bel⟩ => ?_
  subst he
  exact ⟨_, rfl, _, _, _, [], _, [], hW', trodAll_mk1 (shut_bool Tryd.underlying4 _), (trodAll_cons_mk (shut_string Tryd.underlying9 hs0) trodAll_mk0), rfl, bel.frame _, fun h => by cases h⟩

theorem reads (os : Os) {H : Type} (enc : TypeId × Value → H) : ∃ places, DataW.whole enc Tryd.prog ((laidWorldP os).forCall (fun _ _ => 0) ⟨#[], #[.string ⟨#[]⟩], []⟩).memory Tryd.f5.params.toList Rows.wordsBackSpec.vars false (#[.string ⟨#[]⟩] : Array Value).toList 8 = some ([.lit (.string [])], [], places) :=
  ⟨[], by kernel_rfl⟩

set_option maxRecDepth 100000 in
theorem lifted (os : Os) (started : os.Started) (H : Type) (enc : TypeId × Value → H) (F : Stop.Interp) :
    ReturnsInHanded {} Tryd.checked os 5 .any ((OpenSpec.ofChange Rows.wordsBackSpec).preRow enc Tryd.prog Tryd.f5 Rows.wordsBackRow.domain false Rows.wordsBackRow.laid) (((OpenSpec.ofChange Rows.wordsBackSpec).at F).post enc Tryd.prog Tryd.f5 false true false false) := by
  obtain ⟨places, hx⟩ := reads os enc
  refine returnsInHanded_of_row (C := Tryd.checked) (s := OpenSpec.ofChange Rows.wordsBackSpec) own started (by kernel_rfl) Tryd.func5
    (witness_row_atRef (enc := enc) (C := Tryd.checked) false (laidWorldP os) #[.string ⟨#[]⟩] rfl (by kernel_rfl) (by kernel_rfl) (by kernel_rfl)
      (OpenSpec.preRow_of_cond 8 hx (by kernel_rfl) (fun k hk => by cases hk) (by kernel_rfl) (laid_metP os _))) ?_
  intro W base args ds gs before hval hW _ _ hZ hL _ _
  exact contract H enc W base args ds gs before hval hW hZ hL

theorem said : Rows.WordsBackSaid :=
  OpenClaim.holds_of_cond 5 Tryd.f5 rfl rfl rfl rfl rfl rfl rfl ⟨rfl, rfl, rfl, rfl, rfl⟩ rfl rfl rfl rfl rfl (by kernel_rfl) Tryd.func5 (by kernel_rfl)
    (of_decide_eq_true (by kernel_rfl)) (by unfold Func.isWrapper; first | (rw [if_pos (by decide +kernel)]; kernel_rfl) | (rw [if_neg (by decide +kernel)]; exact ⟨rfl, rfl⟩))
    (fun os started H enc _ F => by rw [OpenClaim.pre_eq_preRow]; exact lifted os started H enc F)

theorem plain (f : FuncId) (fn : Func) (hf : Tryd.pinned.checked.prog.funcNamed "tabor/taborlaw11.WordsBack" = some f) (hfn : Tryd.pinned.checked.prog.funcs[f]? = some fn) :
    false = Tryd.pinned.checked.prog.looks [] ∧ ∀ (j : Nat) t, fn.params[j]? = some t → Tryd.pinned.checked.prog.wantsStandIn t = false := by
  obtain rfl : f = 5 := Option.some.inj ((show Tryd.prog.funcNamed "tabor/taborlaw11.WordsBack" = some 5 by kernel_rfl).symm.trans hf) |>.symm
  obtain rfl : fn = Tryd.f5 := (Option.some.inj (Tryd.func5.symm.trans hfn)).symm
  refine ⟨by kernel_rfl, fun j t ht => ?_⟩
  rw [Tryd.params5] at ht
  obtain rfl : t = 9 := by simpa using Array.mem_of_getElem? ht
  exact (show Tryd.prog.wantsStandIn 9 = false by kernel_rfl)

/-- The card. -/
theorem card : Rows.WordsBackCardSaid :=
  Claim7.holds_tied_plain_at .later [] _ _ _ _ said (fun _ h => by cases h) (by kernel_rfl) (fun _ h => by cases h) wordsBack_row_tie rfl ⟨rfl, rfl⟩ (by kernel_rfl) rfl plain (by kernel_rfl)
#print axioms card
end Go.Proofs.YtejicjcdbfjajaaDoor.wordsBack
