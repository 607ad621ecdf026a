/- Proved here: 'taborlaw11.WordsLex' returns true for every text. Conditions: those of the given card (the two listed tables hold what the program's text lays; nothing else). -/
import Derived.Test.YtejicjcdbfjajaaDoorFrame
import Derived.Test.YtejicjcdbfjajaaDoorKnown
import Derived.Test.YtejicjcdbfjajaaDoorRlx
import Derived.Test.YtejicjcdbfjajaaDoorWrs
namespace Go.Proofs.YtejicjcdbfjajaaDoor.wordsLex
open Go Go.RowKit Go.ChangeShapes Go.WideShapes Go.ChangeAt
open Go.ChangeMaps (open_string shut_string)

theorem lexT_bad {l : List UInt8} {pre : List Itm} {b : Nat} (h : lexT l = pre ++ [⟨b, none⟩]) (hok : ∀ x ∈ lexT l, x.o ≠ none) : False := hok ⟨b, none⟩ (by rw [h]; simp) rfl
set_option maxHeartbeats 4000000 in
set_option maxRecDepth 100000 in
theorem walk (s : ByteArray) (w : World) (hs : s.size ≤ 9223372036854775807) (hg : SPC w) :
    Calls Tryd.prog 3 #[.string s] w fun e w' => e = .returned (.bool true) ∧ Below w.heap.size w w' := by
  have HG := Lib.hid hg
  by_cases h3 : 3000 < s.size
  · have hd : decide (3000 < s.size) = true := decide_eq_true h3
    have HK := Lib.hid (known_any w hg)
    clear hg
    go_enter Tryd.func3, Tryd.ntmps3
    go_wp2_with fail
    refine HK.out.mono ?_
    rintro e w1 ⟨rfl, hb1⟩
    go_wp2_with fail
    go_ret
    exact ⟨rfl, hb1⟩
  · have hd : decide (3000 < s.size) = false := decide_eq_false h3
    have HL := Lib.hid (lex_any s w hg (by omega))
    have HR := Lib.hid (fun W => rlex_any s W (by omega))
    clear hg
    go_enter Tryd.func3, Tryd.ntmps3
    go_wp2_with fail
    refine HL.out.mono ?_
    rintro e w1 ⟨hb1, ⟨h1, -⟩ | ⟨-, hok, v, rfl, hrow⟩ | ⟨-, pre, b, hbad, -, rfl⟩⟩
    · omega
    · obtain ⟨L, hL⟩ : ∃ L, (lexT (bl s)).map wrI = L := ⟨_, rfl⟩
      have HLL := Lib.hid hL
      have hr0 := own_rdA hrow
      rw [hL] at hr0
      obtain ⟨A, c, rfl, hcc, hnc, hcm, hrd⟩ := hr0
      clear hL
      have HB1 := Lib.hid hb1
      have HRD := Lib.hid hrd
      have HOK := Lib.hid hok
      clear hb1 hrd hok hrow HL
      go_wp2_with fail
      refine (HR.out w1).mono ?_
      rintro e w2 ⟨hb2, ⟨-, v2, rfl, hrow2⟩ | ⟨pre, b, hbad, rfl⟩⟩
      rotate_left
      · exact (lexT_bad hbad HOK.out).elim
      have hr2 := own_rdA hrow2
      rw [HLL.out] at hr2
      obtain ⟨A2, c2, rfl, hcc2, hnc2, hcm2, hrd2⟩ := hr2
      have HB2 := Lib.hid (HB1.out.trans (hb2.mono HB1.out.size))
      have HR1 := Lib.hid (HRD.out.below hb2)
      have HR2 := Lib.hid hrd2
      clear hb2 hrow2 hrd2 HRD HR HOK HB1
      have hLm : L.length ≤ 9223372036854775807 := by simp only [maxLen] at hcm; omega
      go_wp2_with fail
      go_loopw [9] (fun i wr => ∃ k : Nat, k ≤ L.length ∧ i = .int .i64 k ∧ Hid (Below w2.heap.size w2 wr)) (fun i _ => L.length - (intOf i).toNat)
      case atStart => exact ⟨0, Nat.zero_le _, rfl, Lib.hid (Below.refl _ _)⟩
      case round =>
        rename_i hrel
        obtain ⟨k, hk, rfl, HB⟩ := hrel
        by_cases hlt : k < L.length
        · obtain ⟨bA, oA, hA, hbA, x0, x1, x2, x3⟩ := (HR1.out.below HB.out).at hlt
          obtain ⟨bB, oB, hB, hbB, y0, y1, y2, y3⟩ := (HR2.out.below HB.out).at hlt
          subst hA
          subst hB
          have hk0 : (0 : Int) ≤ (k : Int) := by omega
          have hka : (k : Int) < (L.length : Int) := by omega
          generalize L[k] = p at *
          have e5 := bytes_eq p.text
          clear hbA hbB
          go_wp2_with fail
          go_quiet (fail)
          generalize nq = nq at *
          have HB1 := Lib.hid (below_any nq HB.out)
          go_wp2_with fail
          go_roundw
          case rel => exact ⟨k + 1, by omega, by go_num, HB1⟩
          case measure => simp [intOf]; omega
        · obtain rfl : k = L.length := by omega
          have HB3 := Lib.hid (HB2.out.trans (HB.out.mono HB2.out.size))
          have HK := Lib.hid (known_any wr (spc_below HG.out HB3.out))
          go_wp2_with fail
          refine HK.out.mono ?_
          rintro e w4 ⟨rfl, hb4⟩
          have HB4 := Lib.hid (HB3.out.trans (hb4.mono HB3.out.size))
          clear hb4
          go_wp2_with fail
          go_ret
          exact ⟨rfl, HB4.out⟩
    · have HB1 := Lib.hid hb1
      have HBAD := Lib.hid hbad
      clear hb1 hbad HL
      go_wp2_with fail
      refine (HR.out w1).mono ?_
      rintro e w2 ⟨hb2, ⟨hok, v2, rfl, hrow2⟩ | ⟨pre2, b2, hbad2, rfl⟩⟩
      · exact (lexT_bad HBAD.out hok).elim
      have hbb : b2 = b := by
        have h1 := hbad2.symm.trans HBAD.out
        have h2 := congrArg (fun l => l.getLast?.map (·.at_)) h1
        simpa using h2
      subst hbb
      have HB2 := Lib.hid (HB1.out.trans (hb2.mono HB1.out.size))
      have HK := Lib.hid (known_any w2 (spc_below HG.out HB2.out))
      clear hb2 hbad2 HR HB1 HBAD
      go_wp2_with fail
      go_loopw [9] (fun i wr => ∃ k : Nat, k = 0 ∧ i = .int .i64 k ∧ wr = w2) (fun i _ => 0 - (intOf i).toNat)
      case atStart => exact ⟨0, rfl, rfl, rfl⟩
      case round =>
        rename_i hrel
        obtain ⟨k, rfl, rfl, rfl⟩ := hrel
        go_wp2_with fail
        refine HK.out.mono ?_
        rintro e w4 ⟨rfl, hb4⟩
        have HB4 := Lib.hid (HB2.out.trans (hb4.mono HB2.out.size))
        clear hb4
        go_wp2_with fail
        go_ret
        exact ⟨rfl, HB4.out⟩


set_option maxRecDepth 20000 in
theorem contract (H : Type) (enc : TypeId × Value → H) (W : World) (base : Nat) (args : Array Value) (ds gs : List (DataW H)) (before : List MemPlace)
    (hval : ∀ (j : Nat) t v, Tryd.f3.params[j]? = some t → args[j]? = some v → Value.okWide Tryd.prog W .any base t v)
    (hW : DataW.Whole enc Tryd.prog Tryd.f3.params.toList Rows.wordsLexSpec.vars false W args.toList ds gs before) 
    (hZ : (DataW.weightsEach Tryd.prog (Tryd.f3.params.toList ++ (OpenSpec.ofChange Rows.wordsLexSpec).bare.plain.varTypes Tryd.prog) (ds ++ gs)).all (· ≤ reachBytes) = true) (hL : laidMetH Tryd.prog Rows.wordsLexRow.laid W) :
    Calls Tryd.prog 3 args W fun e W' => ∃ v, e = .returned v ∧ Rows.wordsLexSpec.post enc Tryd.prog Tryd.f3 false true false false W args v W' := by
  have hW' := hW
  obtain ⟨p, q, hA0, hV, rfl, hfz, hnd⟩ := hW
  have hA : DataW.TrodAll enc Tryd.prog W 0 (fun _ => true) true Tryd.f3.params.toList args.toList ds p := hA0
  rw [Tryd.params3] at hA hval hZ
  obtain ⟨v0, vs0, d0, ds0, p0, q0, hargs, rfl, rfl, h0, r0⟩ := trodAll_cons hA
  obtain ⟨rfl, rfl, rfl⟩ := trodAll_nil r0
  obtain rfl : args = #[v0] := by cases args; simp_all
  obtain ⟨rfl, rfl⟩ := trodVars_none hV
  obtain ⟨s0, rfl, rfl, rfl, hs0⟩ := open_string Tryd.underlying9 (hval 0 9 v0 rfl rfl) h0
  clear hA0
  refine (walk s0 W (by have := hs0; simp only [maxLen] at this; omega) (laid_spc hL)).mono fun e W' ⟨he, bel⟩ => ?_
  subst he
  exact ⟨_, rfl, _, _, _, [], _, [], hW', trodAll_mk1 (shut_bool Tryd.underlying4 _), (trodAll_cons_mk (shut_string Tryd.underlying9 hs0) trodAll_mk0), rfl, bel.frame _, fun h => by cases h⟩

theorem reads (os : Os) {H : Type} (enc : TypeId × Value → H) : ∃ places, DataW.whole enc Tryd.prog ((laidWorld os).forCall (fun _ _ => 0) ⟨#[], #[.string ⟨#[]⟩], []⟩).memory Tryd.f3.params.toList Rows.wordsLexSpec.vars false (#[.string ⟨#[]⟩] : Array Value).toList 8 = some ([.lit (.string [])], [], places) :=
  ⟨[], by kernel_rfl⟩

set_option maxRecDepth 100000 in
theorem lifted (os : Os) (started : os.Started) (H : Type) (enc : TypeId × Value → H) (F : Stop.Interp) :
    ReturnsInHanded {} Tryd.checked os 3 .any ((OpenSpec.ofChange Rows.wordsLexSpec).preRow enc Tryd.prog Tryd.f3 Rows.wordsLexRow.domain false Rows.wordsLexRow.laid) (((OpenSpec.ofChange Rows.wordsLexSpec).at F).post enc Tryd.prog Tryd.f3 false true false false) := by
  obtain ⟨places, hx⟩ := reads os enc
  refine returnsInHanded_of_row (C := Tryd.checked) (s := OpenSpec.ofChange Rows.wordsLexSpec) own started (by kernel_rfl) Tryd.func3
    (witness_row_atRef (enc := enc) (C := Tryd.checked) false (laidWorld os) #[.string ⟨#[]⟩] rfl (by kernel_rfl) (by kernel_rfl) (by kernel_rfl)
      (OpenSpec.preRow_of_cond 8 hx (by kernel_rfl) (fun k hk => by cases hk) (by kernel_rfl) (laid_met os _))) ?_
  intro W base args ds gs before hval hW _ _ hZ hL _ _
  exact contract H enc W base args ds gs before hval hW hZ hL

theorem said : Rows.WordsLexSaid :=
  OpenClaim.holds_of_cond 3 Tryd.f3 rfl rfl rfl rfl rfl rfl rfl ⟨rfl, rfl, rfl, rfl, rfl⟩ rfl rfl rfl rfl rfl (by kernel_rfl) Tryd.func3 (by kernel_rfl)
    (of_decide_eq_true (by kernel_rfl)) (by unfold Func.isWrapper; first | (rw [if_pos (by decide +kernel)]; kernel_rfl) | (rw [if_neg (by decide +kernel)]; exact ⟨rfl, rfl⟩))
    (fun os started H enc _ F => by rw [OpenClaim.pre_eq_preRow]; exact lifted os started H enc F)

theorem plain (f : FuncId) (fn : Func) (hf : Tryd.pinned.checked.prog.funcNamed "tabor/taborlaw11.WordsLex" = some f) (hfn : Tryd.pinned.checked.prog.funcs[f]? = some fn) :
    false = Tryd.pinned.checked.prog.looks [] ∧ ∀ (j : Nat) t, fn.params[j]? = some t → Tryd.pinned.checked.prog.wantsStandIn t = false := by
  obtain rfl : f = 3 := Option.some.inj ((show Tryd.prog.funcNamed "tabor/taborlaw11.WordsLex" = some 3 by kernel_rfl).symm.trans hf) |>.symm
  obtain rfl : fn = Tryd.f3 := (Option.some.inj (Tryd.func3.symm.trans hfn)).symm
  refine ⟨by kernel_rfl, fun j t ht => ?_⟩
  rw [Tryd.params3] at ht
  obtain rfl : t = 9 := by simpa using Array.mem_of_getElem? ht
  exact (show Tryd.prog.wantsStandIn 9 = false by kernel_rfl)

/-- The card. -/
theorem card : Rows.WordsLexCardSaid :=
  Claim7.holds_tied_plain_at .later [] _ _ _ _ said (fun _ h => by cases h) (by kernel_rfl) (fun _ h => by cases h) wordsLex_row_tie rfl ⟨rfl, rfl⟩ (by kernel_rfl) rfl plain (by kernel_rfl)
#print axioms card
end Go.Proofs.YtejicjcdbfjajaaDoor.wordsLex
