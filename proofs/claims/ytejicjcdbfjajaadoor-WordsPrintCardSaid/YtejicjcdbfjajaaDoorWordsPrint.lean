/- Proved here: 'taborlaw11.WordsPrint' returns true for every list of words. Conditions: those of the given card (the five listed tables hold what the program's text lays; nothing else). -/
import Derived.Test.YtejicjcdbfjajaaDoorFrp
import Derived.Test.YtejicjcdbfjajaaDoorKnown
import Derived.Test.YtejicjcdbfjajaaDoorRsm
import Derived.Test.YtejicjcdbfjajaaDoorRo
import Derived.Test.YtejicjcdbfjajaaDoorWrs
import Derived.Test.YtejicjcdbfjajaaDoorFrp
namespace Go.Proofs.YtejicjcdbfjajaaDoor.wordsPrint
open Go Go.RowKit Go.ChangeShapes Go.WideShapes Go.ChangeAt
open Go.ChangeMaps (open_string shut_string)

def szs (l : List Wr) : Nat := (l.map (·.text.size)).sum
theorem wgt_szs : ∀ l : List Wr, wgt l = 4 * szs l + 22 * l.length
  | [] => rfl
  | p :: l => by
    have h := wgt_szs l
    rw [wgt_cons, h]
    have e : szs (p :: l) = p.text.size + szs l := rfl
    rw [e, List.length_cons]
    omega
theorem szs_take {l : List Wr} {k : Nat} (h : k < l.length) : szs (l.take (k + 1)) = szs (l.take k) + l[k].text.size := by
  rw [List.take_succ_eq_append_getElem h]
  unfold szs
  generalize l.take k = m
  simp
set_option maxRecDepth 100000 in
set_option maxHeartbeats 8000000 in
theorem heavy2_any (A : Option Addr) (c : Nat) (a : List Wr) (w : World) (ha : RdA w A a) (la : a.length ≤ 9223372036854775807) (hs : ∀ x ∈ a, x.ok) :
    Calls Tryd.prog 12 #[.slice A a.length c] w fun e w' => (∃ b, e = .returned (.bool b) ∧ (b = false → wgt a ≤ 12400)) ∧ w' = w := by
  have HKA := Lib.hid ha
  have HS := Lib.hid hs
  clear ha hs
  go_enter Tryd.func12, Tryd.ntmps12
  go_wp2_with fail
  go_loopw [3, 4] (fun n i wr => ∃ k z : Nat, k ≤ a.length ∧ i = .int .i64 k ∧ n = .int .i64 z ∧ z ≤ 2000 ∧ Hid (z = szs (a.take k)) ∧ wr = w) (fun _ i _ => a.length - (intOf i).toNat)
  case atStart => exact ⟨0, 0, Nat.zero_le _, rfl, rfl, by omega, Lib.hid rfl, by trivial⟩
  case round =>
    obtain ⟨k, z, hk, rfl, rfl, hz, HZ, rfl⟩ := hrel
    by_cases hlt : k < a.length
    · obtain ⟨bA, oA, hA, hbA, x0, x1, x2, x3⟩ := HKA.out.at hlt
      have hsz : a[k].text.size ≤ 140737488351232 := (HS.out _ (List.getElem_mem hlt)).2.1
      subst hA
      have hk0 : (0 : Int) ≤ (k : Int) := by omega
      have hka : (k : Int) < (a.length : Int) := by omega
      have d1 : decide (k < a.length) = true := decide_eq_true hlt
      have HZ2 : Hid (z + a[k].text.size = szs (a.take (k + 1))) := Lib.hid (by rw [szs_take hlt, HZ.out])
      generalize a[k] = p at *
      by_cases h2 : k < 200
      · have d2 : decide (k < 200) = true := decide_eq_true h2
        by_cases h3 : 2000 < z + p.text.size
        · have d3 : decide (2000 < z + p.text.size) = true := decide_eq_true h3
          have d4 : decide ((2000 : Int) < (z : Int) + (p.text.size : Int)) = true := decide_eq_true (by omega)
          go_wp2_with fail
          go_ret
          exact ⟨⟨_, rfl, fun h => by cases h⟩, by trivial⟩
        · have d3 : decide (2000 < z + p.text.size) = false := decide_eq_false h3
          have d4 : decide ((2000 : Int) < (z : Int) + (p.text.size : Int)) = false := decide_eq_false (by omega)
          go_wp2_with fail
          go_roundw
          case rel => exact ⟨k + 1, z + p.text.size, by omega, by go_num, by go_num, by omega, HZ2, by trivial⟩
          case measure => simp [intOf]; omega
      · have d2 : decide (k < 200) = false := decide_eq_false h2
        have d5 : decide (200 < a.length) = true := decide_eq_true (by omega)
        have d6 : decide ((200 : Int) < (a.length : Int)) = true := decide_eq_true (by omega)
        go_wp2_with fail
        go_ret
        exact ⟨⟨_, rfl, fun h => by cases h⟩, by trivial⟩
    · have d1 : decide (k < a.length) = false := decide_eq_false hlt
      have HL : Hid (a.length ≤ 200 → wgt a ≤ 12400) := Lib.hid (fun h => by
        have h1 := HZ.out
        rw [List.take_of_length_le (by omega)] at h1
        rw [wgt_szs]
        omega)
      by_cases h200 : a.length ≤ 200
      · have d5 : decide (200 < a.length) = false := decide_eq_false (by omega)
        have d6 : decide ((200 : Int) < (a.length : Int)) = false := decide_eq_false (by omega)
        go_wp2_with fail
        go_ret
        exact ⟨⟨_, rfl, fun _ => HL.out h200⟩, by trivial⟩
      · have d5 : decide (200 < a.length) = true := decide_eq_true (by omega)
        have d6 : decide ((200 : Int) < (a.length : Int)) = true := decide_eq_true (by omega)
        go_wp2_with fail
        go_ret
        exact ⟨⟨_, rfl, fun h => by cases h⟩, by trivial⟩
set_option maxHeartbeats 4000000 in
set_option maxRecDepth 100000 in
theorem walk (A : Option Addr) (n c : Nat) (a : List Wr) (w : World) (hn : a.length = n) (ha : RdA w A a) (la : n ≤ 9223372036854775807) (sa : ∀ x ∈ a, x.ok) (hg : SPC w) (ht : TAB w) :
    Calls Tryd.prog 4 #[.slice A n c] w fun e w' => e = .returned (.bool true) ∧ Below w.heap.size w w' := by
  subst hn
  have HG := Lib.hid hg
  have HT := Lib.hid ht
  have HA := Lib.hid ha
  have HO := Lib.hid sa
  have HV := Lib.hid (heavy2_any A c a w ha la sa)
  have HK := Lib.hid (known_any w hg)
  clear hg ht ha sa
  go_enter Tryd.func4, Tryd.ntmps4
  go_wp2_with fail
  refine HV.out.mono ?_
  rintro e w1 ⟨⟨v1, rfl, hv1⟩, rfl⟩
  clear HV
  cases v1 with
  | true =>
    go_wp2_with fail
    refine HK.out.mono ?_
    rintro e w2 ⟨rfl, hb2⟩
    go_wp2_with fail
    go_ret
    exact ⟨rfl, hb2⟩
  | false =>
    have hw := hv1 rfl
    have HP := Lib.hid (print_any A c a w1 HA.out la HO.out (by omega) HG.out HT.out)
    have HR := Lib.hid (fun W (h : RdA W A a) (h2 : TAB W) => rprint_any A c a W h la HO.out (by omega) h2)
    have HW := Lib.hid hw
    clear HK hv1 hw
    cases hall : a.all mayW with
    | false =>
      have hp : prO a = .tuple #[.string ⟨#[]⟩, .int .i64 2] := by unfold prO; rw [hall]; rfl
      rw [hp] at HP HR
      clear hp hall
      go_wp2_with fail
      refine HP.out.mono ?_
      rintro e w2 ⟨rfl, hb2⟩
      have HB2 := Lib.hid hb2
      have HR2 := Lib.hid (HR.out w2 (HA.out.below hb2) (tab_below HT.out hb2))
      clear hb2 HP HR
      go_wp2_with fail
      refine HR2.out.mono ?_
      rintro e w3 ⟨rfl, hb3⟩
      have HB3 := Lib.hid (HB2.out.trans (hb3.mono HB2.out.size))
      have HK := Lib.hid (known_any w3 (spc_below HG.out HB3.out))
      clear hb3 HR2
      go_wp2_with fail
      refine HK.out.mono ?_
      rintro e w4 ⟨rfl, hb4⟩
      have HB4 := Lib.hid (HB3.out.trans (hb4.mono HB3.out.size))
      clear hb4
      go_wp2_with fail
      go_ret
      exact ⟨rfl, HB4.out⟩
    | true =>
      have hp : prO a = .tuple #[.string (ofL (prL a)), .int .i64 0] := by unfold prO; rw [hall]; rfl
      have hmo : ∀ p ∈ a, mayW p = true ∧ p.ok := fun p hp => ⟨List.all_eq_true.1 hall p hp, HO.out p hp⟩
      have HLX := Lib.hid (lex_prL hmo)
      have hlen : (prL a).length ≤ 12400 := Nat.le_trans (prL_len a HO.out) HW.out
      have hqs : (ofL (prL a)).size ≤ 12400 := by rw [← bl_len, bl_ofL]; exact hlen
      have HXQ : Hid (bl (ofL (prL a)) = prL a) := Lib.hid (bl_ofL _)
      rw [hp] at HP HR
      clear hp hall hmo hlen
      generalize prL a = X at *
      generalize ofL X = q at *
      have HQS := Lib.hid hqs
      have e1 := bytes_eq q
      have e2 : (q.toList != q.toList) = false := by simp
      clear hqs
      go_wp2_with fail
      refine HP.out.mono ?_
      rintro e w2 ⟨rfl, hb2⟩
      have HB2 := Lib.hid hb2
      have HR2 := Lib.hid (HR.out w2 (HA.out.below hb2) (tab_below HT.out hb2))
      clear hb2 HP HR
      go_wp2_with fail
      refine HR2.out.mono ?_
      rintro e w3 ⟨rfl, hb3⟩
      have HB3 := Lib.hid (HB2.out.trans (hb3.mono HB2.out.size))
      have HL := Lib.hid (lex_any q w3 (spc_below HG.out HB3.out) (by have := HQS.out; omega))
      clear hb3 HR2 HB2
      go_wp2_with fail
      refine HL.out.mono ?_
      rintro e w4 ⟨hb4, ⟨h1, -⟩ | ⟨-, hok, v, rfl, hrow⟩ | ⟨-, pre, b, hbad, -, rfl⟩⟩
      · have := HQS.out; omega
      rotate_left
      · exfalso
        rw [HXQ.out] at hbad
        exact HLX.out.2 ⟨b, none⟩ (by rw [hbad]; simp) rfl
      rw [HXQ.out] at hrow
      obtain ⟨M, hM⟩ : ∃ M, (lexT X).map wrI = M := ⟨_, rfl⟩
      have hr0 := own_rdA hrow
      rw [hM] at hr0
      obtain ⟨A2, c2, rfl, hcc, hnc, hcm, hrd⟩ := hr0
      have HS : Hid (sameL M a = true) := Lib.hid (by rw [← hM]; exact HLX.out.1)
      have HB4 := Lib.hid (HB3.out.trans (hb4.mono HB3.out.size))
      have HSM := Lib.hid (rsame_any A2 A c2 c M a w4 hrd (HA.out.below HB4.out) (by simp only [maxLen] at hcm; omega) la)
      rw [HS.out] at HSM
      clear hrow hM hb4 hrd HLX HL HB3 hok
      go_wp2_with fail
      refine HSM.out.mono ?_
      rintro e w5 ⟨rfl, hb5⟩
      have HB5 := Lib.hid (HB4.out.trans (hb5.mono HB4.out.size))
      have HK := Lib.hid (known_any w5 (spc_below HG.out HB5.out))
      clear hb5 HSM
      go_wp2_with fail
      refine HK.out.mono ?_
      rintro e w6 ⟨rfl, hb6⟩
      have HB6 := Lib.hid (HB5.out.trans (hb6.mono HB5.out.size))
      clear hb6
      go_wp2_with fail
      go_ret
      exact ⟨rfl, HB6.out⟩


set_option maxRecDepth 20000 in
theorem contract (H : Type) (enc : TypeId × Value → H) (W : World) (base : Nat) (args : Array Value) (ds gs : List (DataW H)) (before : List MemPlace)
    (hval : ∀ (j : Nat) t v, Tryd.f4.params[j]? = some t → args[j]? = some v → Value.okWide Tryd.prog W .any base t v)
    (hW : DataW.Whole enc Tryd.prog Tryd.f4.params.toList Rows.wordsPrintSpec.vars false W args.toList ds gs before) 
    (hZ : (DataW.weightsEach Tryd.prog (Tryd.f4.params.toList ++ (OpenSpec.ofChange Rows.wordsPrintSpec).bare.plain.varTypes Tryd.prog) (ds ++ gs)).all (· ≤ reachBytes) = true) (hL : laidMetH Tryd.prog Rows.wordsPrintRow.laid W) :
    Calls Tryd.prog 4 args W fun e W' => ∃ v, e = .returned v ∧ Rows.wordsPrintSpec.post enc Tryd.prog Tryd.f4 false true false false W args v W' := by
  have hW' := hW
  obtain ⟨p, q, hA0, hV, rfl, hfz, hnd⟩ := hW
  have hA : DataW.TrodAll enc Tryd.prog W 0 (fun _ => true) true Tryd.f4.params.toList args.toList ds p := hA0
  rw [Tryd.params4] at hA hval hZ
  obtain ⟨v0, vs0, d0, ds0, p0, q0, hargs, rfl, rfl, h0, r0⟩ := trodAll_cons hA
  obtain ⟨rfl, rfl, rfl⟩ := trodAll_nil r0
  obtain rfl : args = #[v0] := by cases args; simp_all
  obtain ⟨rfl, rfl⟩ := trodVars_none hV
  have k0 := h0
  have lt0 : ∀ x ∈ p0, x.block < W.heap.size := by obtain ⟨m, hm⟩ := k0; exact DataW.trod_lt m _ _ _ hm
  obtain ⟨ca0, na0, ea0, rfl⟩ := okWide_slice Tryd.underlying23 (hval 0 23 v0 rfl rfl)
  obtain ⟨fu0, hf0⟩ := h0
  obtain ⟨A0, n0, c0, l0, hv0, hn0, hnc0, hcm0, hO0, hr0, hs0⟩ := words_of hf0 (weight_at hZ (j := 0) rfl rfl)
  cases hv0
  simp only [maxLen] at hcm0
  clear hA0
  refine (walk _ _ _ l0 W hn0 hr0 (by omega) hs0 (laid_spcP hL) (laid_powP hL)).mono fun e W' ⟨he, bel⟩ => ?_
  subst he
  exact ⟨_, rfl, _, _, _, [], _, [], hW', trodAll_mk1 (shut_bool Tryd.underlying4 _), (trodAll_cons_mk (Below.trod laidOut (by kernel_rfl) (of_decide_eq_true (by kernel_rfl)) k0 bel lt0) trodAll_mk0), rfl, bel.frame _, fun h => by cases h⟩

theorem reads (os : Os) {H : Type} (enc : TypeId × Value → H) : ∃ places, DataW.whole enc Tryd.prog ((laidWorldP os).forCall (fun _ _ => 0) ⟨#[], #[.slice none 0 0], []⟩).memory Tryd.f4.params.toList Rows.wordsPrintSpec.vars false (#[.slice none 0 0] : Array Value).toList 8 = some ([.nil], [], places) :=
  ⟨[], by kernel_rfl⟩

set_option maxRecDepth 100000 in
theorem lifted (os : Os) (started : os.Started) (H : Type) (enc : TypeId × Value → H) (F : Stop.Interp) :
    ReturnsInHanded {} Tryd.checked os 4 .any ((OpenSpec.ofChange Rows.wordsPrintSpec).preRow enc Tryd.prog Tryd.f4 Rows.wordsPrintRow.domain false Rows.wordsPrintRow.laid) (((OpenSpec.ofChange Rows.wordsPrintSpec).at F).post enc Tryd.prog Tryd.f4 false true false false) := by
  obtain ⟨places, hx⟩ := reads os enc
  refine returnsInHanded_of_row (C := Tryd.checked) (s := OpenSpec.ofChange Rows.wordsPrintSpec) own started (by kernel_rfl) Tryd.func4
    (witness_row_atRef (enc := enc) (C := Tryd.checked) false (laidWorldP os) #[.slice none 0 0] rfl (by kernel_rfl) (by kernel_rfl) (by kernel_rfl)
      (OpenSpec.preRow_of_cond 8 hx (by kernel_rfl) (fun k hk => by cases hk) (by kernel_rfl) (laid_metP os _))) ?_
  intro W base args ds gs before hval hW _ _ hZ hL _ _
  exact contract H enc W base args ds gs before hval hW hZ hL

theorem said : Rows.WordsPrintSaid :=
  OpenClaim.holds_of_cond 4 Tryd.f4 rfl rfl rfl rfl rfl rfl rfl ⟨rfl, rfl, rfl, rfl, rfl⟩ rfl rfl rfl rfl rfl (by kernel_rfl) Tryd.func4 (by kernel_rfl)
    (of_decide_eq_true (by kernel_rfl)) (by unfold Func.isWrapper; first | (rw [if_pos (by decide +kernel)]; kernel_rfl) | (rw [if_neg (by decide +kernel)]; exact ⟨rfl, rfl⟩))
    (fun os started H enc _ F => by rw [OpenClaim.pre_eq_preRow]; exact lifted os started H enc F)

theorem plain (f : FuncId) (fn : Func) (hf : Tryd.pinned.checked.prog.funcNamed "tabor/taborlaw11.WordsPrint" = some f) (hfn : Tryd.pinned.checked.prog.funcs[f]? = some fn) :
    false = Tryd.pinned.checked.prog.looks [] ∧ ∀ (j : Nat) t, fn.params[j]? = some t → Tryd.pinned.checked.prog.wantsStandIn t = false := by
  obtain rfl : f = 4 := Option.some.inj ((show Tryd.prog.funcNamed "tabor/taborlaw11.WordsPrint" = some 4 by kernel_rfl).symm.trans hf) |>.symm
  obtain rfl : fn = Tryd.f4 := (Option.some.inj (Tryd.func4.symm.trans hfn)).symm
  refine ⟨by kernel_rfl, fun j t ht => ?_⟩
  rw [Tryd.params4] at ht
  obtain rfl : t = 23 := by simpa using Array.mem_of_getElem? ht
  exact (show Tryd.prog.wantsStandIn 23 = false by kernel_rfl)

/-- The card. -/
theorem card : Rows.WordsPrintCardSaid :=
  Claim7.holds_tied_plain_at .later [] _ _ _ _ said (fun _ h => by cases h) (by kernel_rfl) (fun _ h => by cases h) wordsPrint_row_tie rfl ⟨rfl, rfl⟩ (by kernel_rfl) rfl plain (by kernel_rfl)
#print axioms card
end Go.Proofs.YtejicjcdbfjajaaDoor.wordsPrint
