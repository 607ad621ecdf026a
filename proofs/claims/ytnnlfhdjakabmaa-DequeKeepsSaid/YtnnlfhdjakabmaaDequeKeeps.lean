/- Proved here: 'taborlaw06.DequeKeeps' returns true for any list of texts, any two places and any text. Conditions: none. -/
import Derived.LaidLaws
import Derived.Test.YtnnlfhdjakabmaaFrame
import Derived.Test.YtnnlfhdjakabmaaDd
import Derived.Test.YtnnlfhdjakabmaaRDrop
namespace Go.Proofs.Ytnnlfhdjakabmaa.dequeKeeps
open Go Go.RowKit Go.ChangeShapes Go.WideShapes Go.ChangeAt
open Go.Shelf

set_option maxHeartbeats 8000000 in
set_option maxRecDepth 100000 in
theorem walk (A : Option Addr) (n c : Nat) (l : List ByteArray) (f u : Int) (t : ByteArray) (w : World) (hn : l.length = n) (bn : n ≤ 9223372036854775807) (hnc : n ≤ c) (hO : A = none → c = 0) (hs : ∀ s ∈ l, s.size ≤ 140737488351232) (ha : RdV w A (cellsS l))
    (f1 : -9223372036854775808 ≤ f) (f2 : f ≤ 9223372036854775807) (u1 : -9223372036854775808 ≤ u) (u2 : u ≤ 9223372036854775807) :
    Calls Try.prog 8 #[.slice A n c, .int .i64 f, .int .i64 u, .string t] w fun e w' => e = .returned (.bool true) ∧ Below w.heap.size w w' := by
  have H1 := few_any A n c l w hn bn hs ha
  have HW := Lib.hid (works_any w)
  have HN := Lib.hid hn
  have HA := Lib.hid ha
  have HO := Lib.hid hO
  by_cases q1 : szT l ≤ 3000
  rotate_left
  · rw [decide_eq_false q1] at H1
    have H1' := Lib.hid H1
    clear hn hs ha H1 q1 hO
    go_enter Try.func8, Try.ntmps8
    go_wp2_with fail
    refine H1'.out.mono ?_
    rintro e w' ⟨rfl, rfl⟩
    go_wp2_with fail
    refine HW.out.mono ?_
    rintro e w2 ⟨rfl, hb2⟩
    go_wp2
    go_ret
    exact ⟨rfl, hb2⟩
  rw [decide_eq_true q1] at H1
  have H1' := Lib.hid H1
  have L1 := Lib.hid (long_few q1)
  have z1 := szT_len l
  have bn' : n ≤ 300 := by omega
  clear hn hs ha H1 q1 z1 bn hO
  by_cases q3 : (t.size : Int) > 3000
  · have d3 : decide ((t.size : Int) > 3000) = true := by simp; omega
    go_enter Try.func8, Try.ntmps8
    go_wp2_with fail
    refine H1'.out.mono ?_
    rintro e w' ⟨rfl, rfl⟩
    go_wp2_with fail
    refine HW.out.mono ?_
    rintro e w2 ⟨rfl, hb2⟩
    go_wp2
    go_ret
    exact ⟨rfl, hb2⟩
  have d3 : decide ((t.size : Int) > 3000) = false := by simp; omega
  obtain ⟨q, hq⟩ : ∃ q, dropN f t l = q := ⟨_, rfl⟩
  have HQ := Lib.hid hq
  clear hq
  go_enter Try.func8, Try.ntmps8
  go_wp2_with fail
  refine H1'.out.mono ?_
  rintro e w0 ⟨rfl, rfl⟩
  go_wp2_with fail
  refine (new_ds w0 A n c l w0 (Below.refl _ _) HN.out HA.out L1.out (by omega)).mono ?_
  rintro e w1 ⟨D, rfl, hd⟩
  have HD1 := Lib.hid hd
  clear hd
  go_wp2_with fail
  refine (new_dd w0 D l A n c l w1 HD1.out HN.out (HA.out.below HD1.out.2) L1.out (by omega)).mono ?_
  rintro e w2 ⟨C, rfl, hd⟩
  have HD2 := Lib.hid hd
  clear hd HD1
  go_wp2_with fail
  refine (keep_dd w0 D C l l f u w2 HD2.out f1 f2 u1 u2).mono ?_
  rintro e w3 ⟨rfl, hd⟩
  have HD3 := Lib.hid hd
  clear hd HD2
  go_wp2_with fail
  refine (drop_dd w0 D C (rangeL l f u) l f t w3 HD3.out f1 f2).mono ?_
  rintro e w4 ⟨rfl, hd⟩
  rw [HQ.out]
  have HD4 := Lib.hid hd
  clear hd HD3
  go_wp2_with fail
  refine (rdrop_any A n c l f t w4 HN.out (by omega) (HA.out.below HD4.out.one.2) f1 f2).mono ?_
  rintro e w5 ⟨A5, n5, c5, rfl, hl5, hnc5, hA5, hr5, hb5⟩
  have HD5 := Lib.hid (HD4.out.below hb5)
  have HR5 := Lib.hid hr5
  have HL5 := Lib.hid hl5
  have h5 := dropL_len f t l
  rw [hl5, HQ.out, HN.out] at h5
  have dq : decide ((q : Int) = (n : Int) - (n5 : Int)) = true := by simp; omega
  have dq' : (q : Int) = (n : Int) - (n5 : Int) := by omega
  clear HD4 hr5 hl5 hA5 hb5
  go_wp2_with fail
  refine (num_any 0 _).mono ?_
  rintro e w6 ⟨rfl, rfl⟩
  go_wp2_with fail
  refine (num_any 0 _).mono ?_
  rintro e w6 ⟨rfl, rfl⟩
  go_wp2_with fail
  refine (rrange_any A n c l f u _ HN.out hnc HO.out (HA.out.below HD5.out.one.2) (by omega) f1 f2 u1 u2).mono ?_
  rintro e w7 ⟨A7, n7, c7, rfl, hl7, hnc7, hA7, hr7, hb7⟩
  have HD7 := Lib.hid (HD5.out.below hb7)
  have HR57 := Lib.hid (HR5.out.below hb7)
  have HR7 := Lib.hid hr7
  have HL7 := Lib.hid hl7
  clear HD5 HR5 hl7 hA7 hr7 hb7
  go_wp2_with fail
  refine (is_ds w0 D (rangeL l f u) A7 n7 c7 w7 HD7.out.one HL7.out HR7.out).mono ?_
  rintro e w8 ⟨rfl, -, hb8⟩
  have HD8 := Lib.hid (HD7.out.below hb8)
  have HR58 := Lib.hid (HR57.out.below hb8)
  clear HD7 HR57 HR7 HL7 hb8
  go_wp2_with fail
  refine (is_ds w0 C (dropL f t l) A5 n5 c5 w8 HD8.out.two HL5.out HR58.out).mono ?_
  rintro e w9 ⟨rfl, hd9, -⟩
  have HD9 := Lib.hid hd9.2
  clear hd9 HD8 HR58
  go_wp2_with fail
  refine (works_any _).mono ?_
  rintro e w10 ⟨rfl, hb10⟩
  go_wp2_with fail
  try go_ret
  exact ⟨rfl, HD9.out.trans (hb10.mono HD9.out.size)⟩


theorem reads (os : Os) {H : Type} (enc : TypeId × Value → H) : ∃ places, DataW.whole enc Try.prog ((World.holding Try.prog os ⟨#[], #[.slice none 0 0, .int .i64 0, .int .i64 0, .string ⟨#[]⟩], []⟩).forCall (fun _ _ => 0) ⟨#[], #[.slice none 0 0, .int .i64 0, .int .i64 0, .string ⟨#[]⟩], []⟩).memory Try.f8.params.toList Rows.dequeKeepsSpec.vars false (#[.slice none 0 0, .int .i64 0, .int .i64 0, .string ⟨#[]⟩] : Array Value).toList 8 = some ([.nil, .lit (.int .i64 0), .lit (.int .i64 0), .lit (.string [])], [], places) :=
  ⟨[], by kernel_rfl⟩
theorem laidNone (w : World) : laidMet Try.prog [] w := laidMet_of_run' 8 (by kernel_rfl) (by kernel_rfl)
set_option maxRecDepth 100000 in
theorem lifted (os : Os) (started : os.Started) (H : Type) (enc : TypeId × Value → H) (F : Stop.Interp) :
    ReturnsInHanded {} Try.checked os 8 .any ((OpenSpec.ofChange Rows.dequeKeepsSpec).preRow enc Try.prog Try.f8 Rows.dequeKeepsRow.domain false Rows.dequeKeepsRow.laid) (((OpenSpec.ofChange Rows.dequeKeepsSpec).at F).post enc Try.prog Try.f8 false true false false) := by
  obtain ⟨places, hx⟩ := reads os enc
  refine returnsInHanded_of_row (C := Try.checked) (s := OpenSpec.ofChange Rows.dequeKeepsSpec) own started (by kernel_rfl) Try.func8
    (witness_row_at (enc := enc) (C := Try.checked) false (World.holding Try.prog os ⟨#[], #[.slice none 0 0, .int .i64 0, .int .i64 0, .string ⟨#[]⟩], []⟩) #[.slice none 0 0, .int .i64 0, .int .i64 0, .string ⟨#[]⟩] rfl (by kernel_rfl) (by kernel_rfl) (by kernel_rfl)
      (OpenSpec.preRow_of_cond 8 hx (by kernel_rfl) (fun k hk => by cases hk) (by kernel_rfl) (laidNone _))) ?_
  intro W base args ds gs before hval0 hW _ _ hZ _ _ _
  show Calls Try.prog 8 args W fun e W' => ∃ v, e = .returned v ∧ Rows.dequeKeepsSpec.post enc Try.prog Try.f8 false true false false W args v W'
  have hval : ∀ (j : Nat) t v, Try.f8.params[j]? = some t → args[j]? = some v → Value.okWide Try.prog W .any base t v := hval0
  have hW' := hW
  obtain ⟨p, q, hA0, hV, rfl, hfz, hnd⟩ := hW
  have hA : DataW.TrodAll enc Try.prog W 0 (fun _ => true) true Try.f8.params.toList args.toList ds p := hA0
  have hZ1 : (DataW.weightsEach Try.prog (Try.f8.params.toList ++ (OpenSpec.ofChange Rows.dequeKeepsSpec).bare.plain.varTypes Try.prog) (ds ++ gs)).all (· ≤ reachBytes) = true := hZ
  rw [Try.params8] at hZ1
  rw [Try.params8] at hA hval
  obtain ⟨v0, vs0, d0, ds0, p0, q0, hargs, rfl, rfl, h0, r0⟩ := trodAll_cons hA
  obtain ⟨v1, vs1, d1, ds1, p1, q1, rfl, rfl, rfl, h1, r1⟩ := trodAll_cons r0
  obtain ⟨v2, vs2, d2, ds2, p2, q2, rfl, rfl, rfl, h2, r2⟩ := trodAll_cons r1
  obtain ⟨v3, vs3, d3, ds3, p3, q3, rfl, rfl, rfl, h3, r3⟩ := trodAll_cons r2
  obtain ⟨rfl, rfl, rfl⟩ := trodAll_nil r3
  obtain rfl : args = #[v0, v1, v2, v3] := by cases args; simp_all
  obtain ⟨rfl, rfl⟩ := trodVars_none hV
  have k0 := h0
  have lt0 : ∀ x ∈ p0, x.block < W.heap.size := by obtain ⟨m, hm⟩ := k0; exact DataW.trod_lt m _ _ _ hm
  obtain ⟨ca0, na0, ea0, rfl⟩ := okWide_slice Try.underlying29 (hval 0 29 v0 rfl rfl)
  obtain ⟨fu0, hf0⟩ := h0
  obtain ⟨A0, n0, c0, l0, hv0, hn0, hnc0, hcm0, hO0, hr0, hs0⟩ := strs_of hf0 (weight_at hZ1 (j := 0) rfl rfl)
  cases hv0
  simp only [maxLen] at hcm0
  obtain ⟨a1, rfl, rfl, rfl, w1⟩ := open_int Try.underlying2 (hval 1 2 v1 rfl rfl) h1
  have b1 := wf_i64 w1
  obtain ⟨a2, rfl, rfl, rfl, w2⟩ := open_int Try.underlying2 (hval 2 2 v2 rfl rfl) h2
  have b2 := wf_i64 w2
  obtain ⟨s3, rfl, rfl, rfl, hs3⟩ := Go.ChangeMaps.open_string Try.underlying9 (hval 3 9 v3 rfl rfl) h3
  clear hA0 hval0
  refine (walk _ _ _ l0 _ _ _ W hn0 (by omega) hnc0 hO0 hs0 hr0 b1.1 b1.2 b2.1 b2.2).mono fun e W' ⟨he, bel⟩ => ?_
  subst he
  exact ⟨_, rfl, _, _, _, [], _, [], hW', trodAll_mk1 (shut_bool Try.underlying4 _), (trodAll_cons_mk (Below.trod laidOut (by kernel_rfl) (of_decide_eq_true (by kernel_rfl)) k0 bel lt0) (trodAll_cons_mk (shut_int Try.underlying2 w1) (trodAll_cons_mk (shut_int Try.underlying2 w2) (trodAll_cons_mk (Go.ChangeMaps.shut_string Try.underlying9 hs3) trodAll_mk0)))), rfl, bel.frame _, fun h => by cases h⟩

/-- The statement. -/
theorem proved : Rows.DequeKeepsSaid :=
  OpenClaim.holds_of_cond 8 Try.f8 rfl rfl rfl rfl rfl rfl rfl ⟨rfl, rfl, rfl, rfl, rfl⟩ rfl rfl rfl rfl rfl (by kernel_rfl) Try.func8 (by kernel_rfl)
    (of_decide_eq_true (by kernel_rfl)) (by unfold Func.isWrapper; first | (rw [if_pos (by decide +kernel)]; kernel_rfl) | (rw [if_neg (by decide +kernel)]; exact ⟨rfl, rfl⟩))
    (fun os started H enc _ F => by rw [OpenClaim.pre_eq_preRow]; exact lifted os started H enc F)
#print axioms proved
end Go.Proofs.Ytnnlfhdjakabmaa.dequeKeeps
