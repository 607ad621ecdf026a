/- Proved here: 'taborlaw06.DequeEnds' returns true for any two lists of texts and any place. Conditions: none. -/
import Derived.LaidLaws
import Derived.Test.YtnnlfhdjakabmaaFrame
import Derived.Test.YtnnlfhdjakabmaaDs
namespace Go.Proofs.Ytnnlfhdjakabmaa.dequeEnds
open Go Go.RowKit Go.ChangeShapes Go.WideShapes Go.ChangeAt
open Go.Shelf

theorem drop_at {ls : List ByteArray} {k : Nat} (hk : k < ls.length) : ∃ x, ls[k] = x ∧ ls.drop k = x :: ls.drop (k + 1) := ⟨_, rfl, List.drop_eq_getElem_cons hk⟩
set_option maxHeartbeats 8000000 in
set_option maxRecDepth 100000 in
theorem walk (A B : Option Addr) (n c m d : Nat) (l ls : List ByteArray) (at_ : Int) (w : World) (hn : l.length = n) (bn : n ≤ 9223372036854775807) (hs : ∀ s ∈ l, s.size ≤ 140737488351232) (ha : RdV w A (cellsS l))
    (hm : ls.length = m) (bm : m ≤ 9223372036854775807) (hs2 : ∀ s ∈ ls, s.size ≤ 140737488351232) (hb : RdV w B (cellsS ls)) (f1 : -9223372036854775808 ≤ at_) (f2 : at_ ≤ 9223372036854775807) :
    Calls Try.prog 11 #[.slice A n c, .slice B m d, .int .i64 at_] w fun e w' => e = .returned (.bool true) ∧ Below w.heap.size w w' := by
  have H1 := few_any A n c l w hn bn hs ha
  have H2 := few_any B m d ls w hm bm hs2 hb
  have HW := Lib.hid (works_any w)
  have HN := Lib.hid hn
  have HM := Lib.hid hm
  have HA := Lib.hid ha
  have HB := Lib.hid hb
  by_cases q1 : szT l ≤ 3000
  rotate_left
  · rw [decide_eq_false q1] at H1
    have H1' := Lib.hid H1
    clear hn hs ha hm hs2 hb H1 H2 q1
    go_enter Try.func11, Try.ntmps11
    go_wp2_with fail
    refine H1'.out.mono ?_
    rintro e w' ⟨rfl, rfl⟩
    go_wp2_with fail
    refine HW.out.mono ?_
    rintro e w2 ⟨rfl, hb2⟩
    go_wp2
    go_ret
    exact ⟨rfl, hb2⟩
  rw [decide_eq_true q1] at H1
  have H1' := Lib.hid H1
  by_cases q2 : szT ls ≤ 3000
  rotate_left
  · rw [decide_eq_false q2] at H2
    have H2' := Lib.hid H2
    clear hn hs ha hm hs2 hb H1 H2 q1 q2
    go_enter Try.func11, Try.ntmps11
    go_wp2_with fail
    refine H1'.out.mono ?_
    rintro e w' ⟨rfl, rfl⟩
    go_wp2_with fail
    refine H2'.out.mono ?_
    rintro e w' ⟨rfl, rfl⟩
    go_wp2_with fail
    refine HW.out.mono ?_
    rintro e w2 ⟨rfl, hb2⟩
    go_wp2
    go_ret
    exact ⟨rfl, hb2⟩
  rw [decide_eq_true q2] at H2
  have H2' := Lib.hid H2
  have L1 := Lib.hid (long_few q1)
  have L2 := Lib.hid (long_few q2)
  have z1 := szT_len l
  have z2 := szT_len ls
  have bn' : n ≤ 300 := by omega
  have bm' : m ≤ 300 := by omega
  clear hn hs ha hm hs2 hb H1 H2 q1 q2 z1 z2 bn bm
  go_enter Try.func11, Try.ntmps11
  go_wp2_with fail
  refine H1'.out.mono ?_
  rintro e w' ⟨rfl, rfl⟩
  go_wp2_with fail
  refine H2'.out.mono ?_
  rintro e w0 ⟨rfl, rfl⟩
  go_wp2_with fail
  refine (new_ds w0 A n c l w0 (Below.refl _ _) HN.out HA.out L1.out (by omega)).mono ?_
  rintro e w1 ⟨D, rfl, hd⟩
  have HD1 := Lib.hid hd
  clear hd
  go_wp2_with fail
  refine (front_ds w0 D m d l B ls w1 HD1.out HM.out HB.out L2.out (by rw [HN.out]; omega)).mono ?_
  rintro e w2 ⟨rfl, hd⟩
  have HD2 := Lib.hid hd
  clear hd HD1
  go_wp2_with fail
  refine (len_ds w0 D (n + m) _ w2 HD2.out (by simp; have := HN.out; have := HM.out; omega)).mono ?_
  rintro e w' ⟨rfl, rfl⟩
  go_wp2_with fail
  refine (num_any 0 w').mono ?_
  rintro e w3 ⟨rfl, rfl⟩
  go_wp2_with fail
  refine (num_any 0 w').mono ?_
  rintro e w3 ⟨rfl, rfl⟩
  have hpl := place_any ((n + m : Nat) : Int) at_ w' (by omega) (by omega) f1 f2
  have hsp := span_any ((n + m : Nat) : Int) at_ at_ w' (by omega) (by omega) f1 f2 f1 f2
  obtain ⟨i, ok, hp⟩ : ∃ i ok, placeF ((n + m : Nat) : Int) at_ = (i, ok) := ⟨_, _, rfl⟩
  rw [hp] at hpl
  have hpi : ok = true → 0 ≤ i ∧ i < ((n + m : Nat) : Int) ∧ spanF ((n + m : Nat) : Int) at_ at_ = (i, i + 1) := by
    rintro rfl
    have h1 := placeF_lt hp
    exact ⟨h1.1, h1.2, place_span (by omega) hp⟩
  have hsb := spanF_le ((n + m : Nat) : Int) at_ at_ (by omega)
  obtain ⟨sa, sb, hab⟩ : ∃ a b, spanF ((n + m : Nat) : Int) at_ at_ = (a, b) := ⟨_, _, rfl⟩
  rw [hab] at hsp hpi
  have HPL := Lib.hid hpl
  have HSP := Lib.hid hsp
  have HPI := Lib.hid hpi
  clear hpl hsp hp hpi hab hsb
  go_wp2_with fail
  refine HPL.out.mono ?_
  rintro e w3 ⟨rfl, rfl⟩
  go_wp2_with fail
  refine HSP.out.mono ?_
  rintro e w4 ⟨rfl, rfl⟩
  cases ok
  all_goals try (obtain ⟨hi0, hi1, hsi⟩ := HPI.out rfl; obtain ⟨rfl, rfl⟩ : sa = i ∧ sb = i + 1 := by simpa using hsi)
  all_goals try clear hsi
  all_goals clear HPI HPL HSP
  all_goals go_wp2_with fail
  all_goals
    go_loopw [15] (fun i W => ∃ k : Nat, k ≤ m ∧ i = .int .i64 ((k : Int) - 1) ∧ Hid (DS w0 D ((ls.take k).reverse ++ l) W)) (fun i _ => (intOf i + 1).toNat)
    case atStart => exact ⟨m, Nat.le_refl _, by go_num, Lib.hid (by have h1 := HD2.out; rw [List.take_of_length_le (by have := HM.out; omega)]; exact h1)⟩
    case round =>
    obtain ⟨k, hk, rfl, HDr⟩ := hrel
    rcases k with _ | k
    rotate_left
    · rw [show ((k + 1 : Nat) : Int) - 1 = (k : Int) by omega]
      obtain ⟨x, hx, hxt⟩ := list_at (ls := ls) (k := k) (by have := HM.out; omega)
      have HD := Lib.hid (show DS w0 D (x :: ((ls.take k).reverse ++ l)) wr from by have h1 := HDr.out; rw [hxt] at h1; simpa using h1)
      clear HDr HD2
      go_wp2_with fail
      refine (popf_ds w0 D ((ls.take k).reverse ++ l) x wr HD.out).mono ?_
      rintro e w5 ⟨rfl, hd5⟩
      have HD5 := Lib.hid hd5
      obtain ⟨b, off, rfl, hbb, hca⟩ := rdS_at (HB.out.below hd5.2) (k := k) (by have := HM.out; omega)
      rw [hx] at hca
      clear hx hxt hd5 HD
      go_wp2_with fail
      go_roundw
      case rel => exact ⟨k, by omega, by go_num, HD5⟩
      case measure => simp [intOf]
    rw [show ((0 : Nat) : Int) - 1 = -1 by rfl]
    have HE := Lib.hid (show DS w0 D l wr from by have h1 := HDr.out; simpa using h1)
    clear HDr HD2
    go_wp2_with fail
    refine (front_ds w0 D m d l B ls wr HE.out HM.out HB.out L2.out (by rw [HN.out]; omega)).mono ?_
    rintro e w4 ⟨rfl, hd⟩
    have HD3 := Lib.hid hd
    clear hd HE
    go_wp2_with fail
    go_loopw [19] (fun i W => ∃ k : Nat, k ≤ n ∧ i = .int .i64 ((k : Int) - 1) ∧ Hid (DS w0 D (ls.reverse ++ l.take k) W)) (fun i _ => (intOf i + 1).toNat)
    case atStart => exact ⟨n, Nat.le_refl _, by go_num, Lib.hid (by have h1 := HD3.out; rw [List.take_of_length_le (by have := HN.out; omega)]; exact h1)⟩
    case round =>
    obtain ⟨k, hk, rfl, HDr⟩ := hrel
    rcases k with _ | k
    rotate_left
    · rw [show ((k + 1 : Nat) : Int) - 1 = (k : Int) by omega]
      obtain ⟨x, hx, hxt⟩ := list_at (ls := l) (k := k) (by have := HN.out; omega)
      have HD := Lib.hid (show DS w0 D ((ls.reverse ++ l.take k) ++ [x]) wr from by have h1 := HDr.out; rw [hxt] at h1; simpa using h1)
      clear HDr HD3
      go_wp2_with fail
      refine (popb_ds w0 D (ls.reverse ++ l.take k) x wr HD.out).mono ?_
      rintro e w5 ⟨rfl, hd5⟩
      have HD5 := Lib.hid hd5
      obtain ⟨b, off, rfl, hbb, hca⟩ := rdS_at (HA.out.below hd5.2) (k := k) (by have := HN.out; omega)
      rw [hx] at hca
      clear hx hxt hd5 HD
      go_wp2_with fail
      go_roundw
      case rel => exact ⟨k, by omega, by go_num, HD5⟩
      case measure => simp [intOf]
    · rw [show ((0 : Nat) : Int) - 1 = -1 by rfl]
      have HE2 := Lib.hid (show DS w0 D (ls.drop 0).reverse wr from by have h1 := HDr.out; simpa using h1)
      clear HDr HD3
      go_wp2_with fail
      go_loopw [22] (fun i W => ∃ k : Nat, k ≤ m ∧ i = .int .i64 k ∧ Hid (DS w0 D (ls.drop k).reverse W)) (fun i _ => m - (intOf i).toNat)
      case atStart => exact ⟨0, by omega, rfl, HE2⟩
      case round =>
      obtain ⟨k, hk, rfl, HDr⟩ := hrel
      by_cases hlt : k < m
      · obtain ⟨x, hx, hxt⟩ := drop_at (ls := ls) (k := k) (by have := HM.out; omega)
        have HD := Lib.hid (show DS w0 D ((ls.drop (k + 1)).reverse ++ [x]) wr from by have h1 := HDr.out; rw [hxt] at h1; simpa using h1)
        clear HDr HE2
        go_wp2_with fail
        refine (popb_ds w0 D ((ls.drop (k + 1)).reverse) x wr HD.out).mono ?_
        rintro e w5 ⟨rfl, hd5⟩
        have HD5 := Lib.hid hd5
        obtain ⟨b, off, rfl, hbb, hca⟩ := rdS_at (HB.out.below hd5.2) (k := k) (by have := HM.out; omega)
        rw [hx] at hca
        clear hx hxt hd5 HD
        go_wp2_with fail
        go_roundw
        case rel => exact ⟨k + 1, by omega, by go_num, HD5⟩
        case measure => simp [intOf]; omega
      · obtain rfl : k = m := by omega
        have HE3 := Lib.hid (show DS w0 D [] wr from by have h1 := HDr.out; rw [List.drop_eq_nil_of_le (by have := HM.out; omega)] at h1; simpa using h1)
        clear HDr HE2
        go_wp2_with fail
        refine (num_any 0 wr).mono ?_
        rintro e w6 ⟨rfl, rfl⟩
        go_wp2_with fail
        refine (len_ds w0 D 0 [] _ HE3.out rfl).mono ?_
        rintro e w7 ⟨rfl, rfl⟩
        go_wp2_with fail
        refine (works_any _).mono ?_
        rintro e w8 ⟨rfl, hb8⟩
        go_wp2_with fail
        try go_ret
        exact ⟨rfl, HE3.out.2.trans (hb8.mono HE3.out.2.size)⟩


theorem reads (os : Os) {H : Type} (enc : TypeId × Value → H) : ∃ places, DataW.whole enc Try.prog ((World.holding Try.prog os ⟨#[], #[.slice none 0 0, .slice none 0 0, .int .i64 0], []⟩).forCall (fun _ _ => 0) ⟨#[], #[.slice none 0 0, .slice none 0 0, .int .i64 0], []⟩).memory Try.f11.params.toList Rows.dequeEndsSpec.vars false (#[.slice none 0 0, .slice none 0 0, .int .i64 0] : Array Value).toList 8 = some ([.nil, .nil, .lit (.int .i64 0)], [], places) :=
  ⟨[], by kernel_rfl⟩
theorem laidNone (w : World) : laidMet Try.prog [] w := laidMet_of_run' 8 (by kernel_rfl) (by kernel_rfl)
set_option maxRecDepth 100000 in
theorem lifted (os : Os) (started : os.Started) (H : Type) (enc : TypeId × Value → H) (F : Stop.Interp) :
    ReturnsInHanded {} Try.checked os 11 .any ((OpenSpec.ofChange Rows.dequeEndsSpec).preRow enc Try.prog Try.f11 Rows.dequeEndsRow.domain false Rows.dequeEndsRow.laid) (((OpenSpec.ofChange Rows.dequeEndsSpec).at F).post enc Try.prog Try.f11 false true false false) := by
  obtain ⟨places, hx⟩ := reads os enc
  refine returnsInHanded_of_row (C := Try.checked) (s := OpenSpec.ofChange Rows.dequeEndsSpec) own started (by kernel_rfl) Try.func11
    (witness_row_at (enc := enc) (C := Try.checked) false (World.holding Try.prog os ⟨#[], #[.slice none 0 0, .slice none 0 0, .int .i64 0], []⟩) #[.slice none 0 0, .slice none 0 0, .int .i64 0] rfl (by kernel_rfl) (by kernel_rfl) (by kernel_rfl)
      (OpenSpec.preRow_of_cond 8 hx (by kernel_rfl) (fun k hk => by cases hk) (by kernel_rfl) (laidNone _))) ?_
  intro W base args ds gs before hval0 hW _ _ hZ _ _ _
  show Calls Try.prog 11 args W fun e W' => ∃ v, e = .returned v ∧ Rows.dequeEndsSpec.post enc Try.prog Try.f11 false true false false W args v W'
  have hval : ∀ (j : Nat) t v, Try.f11.params[j]? = some t → args[j]? = some v → Value.okWide Try.prog W .any base t v := hval0
  have hW' := hW
  obtain ⟨p, q, hA0, hV, rfl, hfz, hnd⟩ := hW
  have hA : DataW.TrodAll enc Try.prog W 0 (fun _ => true) true Try.f11.params.toList args.toList ds p := hA0
  have hZ1 : (DataW.weightsEach Try.prog (Try.f11.params.toList ++ (OpenSpec.ofChange Rows.dequeEndsSpec).bare.plain.varTypes Try.prog) (ds ++ gs)).all (· ≤ reachBytes) = true := hZ
  rw [Try.params11] at hZ1
  rw [Try.params11] at hA hval
  obtain ⟨v0, vs0, d0, ds0, p0, q0, hargs, rfl, rfl, h0, r0⟩ := trodAll_cons hA
  obtain ⟨v1, vs1, d1, ds1, p1, q1, rfl, rfl, rfl, h1, r1⟩ := trodAll_cons r0
  obtain ⟨v2, vs2, d2, ds2, p2, q2, rfl, rfl, rfl, h2, r2⟩ := trodAll_cons r1
  obtain ⟨rfl, rfl, rfl⟩ := trodAll_nil r2
  obtain rfl : args = #[v0, v1, v2] := by cases args; simp_all
  obtain ⟨rfl, rfl⟩ := trodVars_none hV
  have k0 := h0
  have lt0 : ∀ x ∈ p0, x.block < W.heap.size := by obtain ⟨m, hm⟩ := k0; exact DataW.trod_lt m _ _ _ hm
  obtain ⟨ca0, na0, ea0, rfl⟩ := okWide_slice Try.underlying29 (hval 0 29 v0 rfl rfl)
  obtain ⟨fu0, hf0⟩ := h0
  obtain ⟨A0, n0, c0, l0, hv0, hn0, hnc0, hcm0, hO0, hr0, hs0⟩ := strs_of hf0 (weight_at hZ1 (j := 0) rfl rfl)
  cases hv0
  simp only [maxLen] at hcm0
  have k1 := h1
  have lt1 : ∀ x ∈ p1, x.block < W.heap.size := by obtain ⟨m, hm⟩ := k1; exact DataW.trod_lt m _ _ _ hm
  obtain ⟨ca1, na1, ea1, rfl⟩ := okWide_slice Try.underlying29 (hval 1 29 v1 rfl rfl)
  obtain ⟨fu1, hf1⟩ := h1
  obtain ⟨A1, n1, c1, l1, hv1, hn1, hnc1, hcm1, hO1, hr1, hs1⟩ := strs_of hf1 (weight_at hZ1 (j := 1) rfl rfl)
  cases hv1
  simp only [maxLen] at hcm1
  obtain ⟨a2, rfl, rfl, rfl, w2⟩ := open_int Try.underlying2 (hval 2 2 v2 rfl rfl) h2
  have b2 := wf_i64 w2
  clear hA0 hval0
  refine (walk _ _ _ _ _ _ l0 l1 _ W hn0 (by omega) hs0 hr0 hn1 (by omega) hs1 hr1 b2.1 b2.2).mono fun e W' ⟨he, bel⟩ => ?_
  subst he
  exact ⟨_, rfl, _, _, _, [], _, [], hW', trodAll_mk1 (shut_bool Try.underlying4 _), (trodAll_cons_mk (Below.trod laidOut (by kernel_rfl) (of_decide_eq_true (by kernel_rfl)) k0 bel lt0) (trodAll_cons_mk (Below.trod laidOut (by kernel_rfl) (of_decide_eq_true (by kernel_rfl)) k1 bel lt1) (trodAll_cons_mk (shut_int Try.underlying2 w2) trodAll_mk0))), rfl, bel.frame _, fun h => by cases h⟩

/-- The statement. -/
theorem proved : Rows.DequeEndsSaid :=
  OpenClaim.holds_of_cond 11 Try.f11 rfl rfl rfl rfl rfl rfl rfl ⟨rfl, rfl, rfl, rfl, rfl⟩ rfl rfl rfl rfl rfl (by kernel_rfl) Try.func11 (by kernel_rfl)
    (of_decide_eq_true (by kernel_rfl)) (by unfold Func.isWrapper; first | (rw [if_pos (by decide +kernel)]; kernel_rfl) | (rw [if_neg (by decide +kernel)]; exact ⟨rfl, rfl⟩))
    (fun os started H enc _ F => by rw [OpenClaim.pre_eq_preRow]; exact lifted os started H enc F)
#print axioms proved
end Go.Proofs.Ytnnlfhdjakabmaa.dequeEnds
