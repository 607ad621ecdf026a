/- Proved here: 'taborlaw06.DequePops' returns true for any list of texts and any two numbers. Conditions: none. -/
import Derived.LaidLaws
import Derived.Test.YtnnlfhdjakabmaaFrame
import Derived.Test.YtnnlfhdjakabmaaDs
namespace Go.Proofs.Ytnnlfhdjakabmaa.dequePops
open Go Go.RowKit Go.ChangeShapes Go.WideShapes Go.ChangeAt
open Go.Shelf

theorem RdV.tail {W : World} {b off : Nat} {t : ByteArray} {L : List ByteArray} (h : RdV W (some ⟨b, off, none⟩) (cellsS (t :: L))) : RdV W (some ⟨b, off + 1, none⟩) (cellsS L) := by
  intro h0
  obtain ⟨b', off', e, hlt, hc⟩ := h (by rw [cellsS_len]; simp)
  cases e
  refine ⟨b, off + 1, rfl, hlt, fun j hj => ?_⟩
  have h1 := hc (j + 1) (by rw [cellsS_len] at hj ⊢; simp; omega)
  rw [show off + 1 + j = off + (j + 1) by omega, h1]
  simp [cellsS]
theorem RdV.front {W : World} {A : Option Addr} {t : ByteArray} {L : List ByteArray} (h : RdV W A (cellsS (L ++ [t]))) : RdV W A (cellsS L) := by
  intro h0
  obtain ⟨b, off, e, hlt, hc⟩ := h (by rw [cellsS_len]; simp)
  refine ⟨b, off, e, hlt, fun j hj => ?_⟩
  rw [cellsS_len] at hj
  rw [hc j (by rw [cellsS_len]; simp; omega)]
  simp [cellsS, List.getElem?_append_left, hj, List.getElem_append_left]
set_option maxHeartbeats 8000000 in
set_option maxRecDepth 100000 in
theorem walk (A : Option Addr) (n c : Nat) (l : List ByteArray) (x y : Int) (w : World) (hn : l.length = n) (bn : n ≤ 9223372036854775807) (hnc : n ≤ c) (hcm : c ≤ 9223372036854775807) (hO : A = none → c = 0) (hs : ∀ s ∈ l, s.size ≤ 140737488351232) (ha : RdV w A (cellsS l))
    (f1 : -9223372036854775808 ≤ x) (f2 : x ≤ 9223372036854775807) (g1 : -9223372036854775808 ≤ y) (g2 : y ≤ 9223372036854775807) :
    Calls Try.prog 6 #[.slice A n c, .int .i64 x, .int .i64 y] w fun e w' => e = .returned (.bool true) ∧ Below w.heap.size w w' := by
  have H1 := few_any A n c l w hn bn hs ha
  have HW := Lib.hid (works_any w)
  have HN := Lib.hid hn
  have HA := Lib.hid ha
  have HO := Lib.hid hO
  by_cases q1 : szT l ≤ 3000
  rotate_left
  · rw [decide_eq_false q1] at H1
    have H1' := Lib.hid H1
    clear hn hs ha H1 q1 hO
    go_enter Try.func6, Try.ntmps6
    go_wp2_with fail
    refine H1'.out.mono ?_
    rintro e w' ⟨rfl, rfl⟩
    go_wp2_with fail
    refine HW.out.mono ?_
    rintro e w2 ⟨rfl, hb2⟩
    go_wp2
    go_ret
    exact ⟨rfl, hb2⟩
  rw [decide_eq_true q1] at H1
  have H1' := Lib.hid H1
  have L1 := Lib.hid (long_few q1)
  have z1 := szT_len l
  have bn' : n ≤ 300 := by omega
  clear hn hs ha H1 q1 z1 bn hO
  by_cases q3 : x > 400
  · have d3 : decide (x > 400) = true := by simp [q3]
    go_enter Try.func6, Try.ntmps6
    go_wp2_with fail
    refine H1'.out.mono ?_
    rintro e w' ⟨rfl, rfl⟩
    go_wp2_with fail
    refine HW.out.mono ?_
    rintro e w2 ⟨rfl, hb2⟩
    go_wp2
    go_ret
    exact ⟨rfl, hb2⟩
  have d3 : decide (x > 400) = false := by simp; omega
  by_cases q4 : y > 400
  · have d4 : decide (y > 400) = true := by simp [q4]
    go_enter Try.func6, Try.ntmps6
    go_wp2_with fail
    refine H1'.out.mono ?_
    rintro e w' ⟨rfl, rfl⟩
    go_wp2_with fail
    refine HW.out.mono ?_
    rintro e w2 ⟨rfl, hb2⟩
    go_wp2
    go_ret
    exact ⟨rfl, hb2⟩
  have d4 : decide (y > 400) = false := by simp; omega
  go_enter Try.func6, Try.ntmps6
  go_wp2_with fail
  refine H1'.out.mono ?_
  rintro e w0 ⟨rfl, rfl⟩
  go_wp2_with fail
  refine (new_ds w0 A n c l w0 (Below.refl _ _) HN.out HA.out L1.out (by omega)).mono ?_
  rintro e w1 ⟨D, rfl, hd⟩
  have HD1 := Lib.hid hd
  clear hd
  go_wp2_with fail
  go_loopw [9, 10] (fun v i W => ∃ (k : Nat) (A : Option Addr) (n c : Nat) (L : List ByteArray), v = .slice A n c ∧ i = .int .i64 k ∧ k ≤ 400 ∧ n ≤ 300 ∧ n ≤ c ∧ c ≤ 9223372036854775807 ∧ Hid (A = none → c = 0) ∧ Hid (L.length = n) ∧ Hid (RdV w0 A (cellsS L)) ∧ Hid (DS w0 D L W)) (fun _ i _ => (x - intOf i).toNat)
  case atStart => exact ⟨0, A, n, c, l, rfl, rfl, by omega, bn', hnc, hcm, HO, HN, HA, HD1⟩
  case round =>
  obtain ⟨k, A', n', c', L, rfl, rfl, hk, hn', hnc', hcm', HO', HN', HA', HD'⟩ := hrel
  clear HD1 HN HA HO L1
  by_cases hlt : (k : Int) < x
  · rcases L with _ | ⟨t, L⟩
    · obtain rfl : n' = 0 := by have := HN'.out; simp at this; omega
      go_wp2_with fail
      refine (popf_ds0 w0 D wr HD'.out).mono ?_
      rintro e w5 ⟨rfl, rfl⟩
      go_wp2_with (refine wpList_slice_lo rfl (.tmp 67) (.tmp 70) 29 9 rfl Try.underlying29 (sz9 _) A' 0 c' rfl .i64 0 rfl (Nat.le_refl _) ?_)
      go_roundw
      case rel => exact ⟨k + 1, _, _, _, [], rfl, by go_num, by omega, by omega, by omega, by omega, Lib.hid (subA_none HO'.out), Lib.hid (by simp), Lib.hid (RdV.nil _ _), HD'⟩
      case measure => simp [intOf]; omega
    · go_wp2_with fail
      refine (popf_ds w0 D L t wr HD'.out).mono ?_
      rintro e w5 ⟨rfl, hd5⟩
      have HD5 := Lib.hid hd5
      obtain ⟨b, off, rfl, hbb, hca⟩ := rdS_at (HA'.out.below hd5.2) (k := 0) (by simp)
      simp only [List.getElem_cons_zero, Nat.add_zero] at hca
      obtain ⟨m, rfl⟩ : ∃ m, n' = m + 1 := ⟨L.length, by have := HN'.out; simp at this; omega⟩
      have HR := Lib.hid (show RdV w0 (subA (some ⟨b, off, none⟩) 1 c') (cellsS L) from HA'.out.drop 1 c' (by rw [cellsS_len, HN'.out]; exact hnc'))
      have HN2 := Lib.hid (show L.length = m + 1 - 1 by have := HN'.out; simp at this; omega)
      have h1m : (1 : Int) ≤ ((m + 1 : Nat) : Int) := by omega
      clear hd5 HA' HN'
      go_wp2_with (refine wpList_slice_lo rfl (.tmp 67) (.tmp 70) 29 9 rfl Try.underlying29 (sz9 _) (some ⟨b, off, none⟩) (m + 1) c' rfl .i64 1 rfl (by omega) ?_)
      go_roundw
      case rel => exact ⟨k + 1, _, _, _, L, rfl, by go_num, by omega, by omega, by omega, by omega, Lib.hid (subA_none HO'.out), HN2, HR, HD5⟩
      case measure => simp [intOf]; omega
  · go_wp2_with fail
    go_loopw [9, 13] (fun v i W => ∃ (k : Nat) (A : Option Addr) (n c : Nat) (L : List ByteArray), v = .slice A n c ∧ i = .int .i64 k ∧ k ≤ 400 ∧ n ≤ 300 ∧ n ≤ c ∧ c ≤ 9223372036854775807 ∧ Hid (A = none → c = 0) ∧ Hid (L.length = n) ∧ Hid (RdV w0 A (cellsS L)) ∧ Hid (DS w0 D L W)) (fun _ i _ => (y - intOf i).toNat)
    case atStart => exact ⟨0, A', n', c', L, rfl, rfl, by omega, hn', hnc', hcm', HO', HN', HA', HD'⟩
    case round =>
    clear HD' HA' HN' HO' hlt hn' hnc' hcm' hk
    obtain ⟨k, A', n', c', L, rfl, rfl, hk, hn', hnc', hcm', HO', HN', HA', HD'⟩ := hrel
    by_cases hlt : (k : Int) < y
    · rcases List.eq_nil_or_concat L with rfl | ⟨L, t, rfl⟩
      · obtain rfl : n' = 0 := by have := HN'.out; simp at this; omega
        go_wp2_with fail
        refine (popb_ds0 w0 D wr HD'.out).mono ?_
        rintro e w5 ⟨rfl, rfl⟩
        go_wp2_with (refine wpList_slice_hi rfl (.tmp 108) (.tmp 112) 29 9 rfl Try.underlying29 (sz9 _) A' 0 c' rfl .i64 0 rfl (by omega) ?_)
        go_roundw
        case rel => exact ⟨k + 1, _, _, _, [], rfl, by go_num, by omega, by omega, by omega, by omega, HO', Lib.hid (by simp), Lib.hid (RdV.nil _ _), HD'⟩
        case measure => simp [intOf]; omega
      · rw [List.concat_eq_append] at HN' HA' HD'
        go_wp2_with fail
        refine (popb_ds w0 D L t wr HD'.out).mono ?_
        rintro e w5 ⟨rfl, hd5⟩
        have HD5 := Lib.hid hd5
        obtain ⟨m, rfl⟩ : ∃ m, n' = m + 1 := ⟨L.length, by have := HN'.out; simp at this; omega⟩
        have hLm : L.length = m := by have := HN'.out; simp at this; omega
        obtain ⟨b, off, rfl, hbb, hca⟩ := rdS_at (HA'.out.below hd5.2) (k := m) (by simp [hLm])
        rw [List.getElem_append_right (by omega)] at hca
        simp only [hLm, Nat.sub_self, List.getElem_cons_zero] at hca
        have HR := Lib.hid (RdV.front HA'.out)
        have HN2 := Lib.hid hLm
        have h1m : (0 : Int) ≤ (m : Int) := by omega
        have h2m : ((m + 1 : Nat) : Int) - 1 = (m : Int) := by omega
        clear hd5 HA' HN' hLm
        go_wp2_with (refine wpList_slice_hi rfl (.tmp 108) (.tmp 112) 29 9 rfl Try.underlying29 (sz9 _) (some ⟨b, off, none⟩) (m + 1) c' rfl .i64 m rfl (by omega) ?_)
        go_roundw
        case rel => exact ⟨k + 1, _, _, _, L, rfl, by go_num, by omega, by first | omega | (split <;> omega), by first | omega | (split <;> omega), by omega, HO', Lib.hid (by have := HN2.out; first | omega | (split <;> omega)), HR, HD5⟩
        case measure => simp [intOf]; omega
    · go_wp2_with fail
      refine (num_any 0 wr).mono ?_
      rintro e w6 ⟨rfl, rfl⟩
      go_wp2_with fail
      refine (is_ds w0 D L A' n' c' _ HD'.out HN'.out (HA'.out.below HD'.out.2)).mono ?_
      rintro e w7 ⟨rfl, hd7, -⟩
      have HD7 := Lib.hid hd7
      clear hd7
      go_wp2_with fail
      refine (works_any _).mono ?_
      rintro e w8 ⟨rfl, hb8⟩
      go_wp2_with fail
      try go_ret
      exact ⟨rfl, HD7.out.2.trans (hb8.mono HD7.out.2.size)⟩


theorem reads (os : Os) {H : Type} (enc : TypeId × Value → H) : ∃ places, DataW.whole enc Try.prog ((World.holding Try.prog os ⟨#[], #[.slice none 0 0, .int .i64 0, .int .i64 0], []⟩).forCall (fun _ _ => 0) ⟨#[], #[.slice none 0 0, .int .i64 0, .int .i64 0], []⟩).memory Try.f6.params.toList Rows.dequePopsSpec.vars false (#[.slice none 0 0, .int .i64 0, .int .i64 0] : Array Value).toList 8 = some ([.nil, .lit (.int .i64 0), .lit (.int .i64 0)], [], places) :=
  ⟨[], by kernel_rfl⟩
theorem laidNone (w : World) : laidMet Try.prog [] w := laidMet_of_run' 8 (by kernel_rfl) (by kernel_rfl)
set_option maxRecDepth 100000 in
theorem lifted (os : Os) (started : os.Started) (H : Type) (enc : TypeId × Value → H) (F : Stop.Interp) :
    ReturnsInHanded {} Try.checked os 6 .any ((OpenSpec.ofChange Rows.dequePopsSpec).preRow enc Try.prog Try.f6 Rows.dequePopsRow.domain false Rows.dequePopsRow.laid) (((OpenSpec.ofChange Rows.dequePopsSpec).at F).post enc Try.prog Try.f6 false true false false) := by
  obtain ⟨places, hx⟩ := reads os enc
  refine returnsInHanded_of_row (C := Try.checked) (s := OpenSpec.ofChange Rows.dequePopsSpec) own started (by kernel_rfl) Try.func6
    (witness_row_at (enc := enc) (C := Try.checked) false (World.holding Try.prog os ⟨#[], #[.slice none 0 0, .int .i64 0, .int .i64 0], []⟩) #[.slice none 0 0, .int .i64 0, .int .i64 0] rfl (by kernel_rfl) (by kernel_rfl) (by kernel_rfl)
      (OpenSpec.preRow_of_cond 8 hx (by kernel_rfl) (fun k hk => by cases hk) (by kernel_rfl) (laidNone _))) ?_
  intro W base args ds gs before hval0 hW _ _ hZ _ _ _
  show Calls Try.prog 6 args W fun e W' => ∃ v, e = .returned v ∧ Rows.dequePopsSpec.post enc Try.prog Try.f6 false true false false W args v W'
  have hval : ∀ (j : Nat) t v, Try.f6.params[j]? = some t → args[j]? = some v → Value.okWide Try.prog W .any base t v := hval0
  have hW' := hW
  obtain ⟨p, q, hA0, hV, rfl, hfz, hnd⟩ := hW
  have hA : DataW.TrodAll enc Try.prog W 0 (fun _ => true) true Try.f6.params.toList args.toList ds p := hA0
  have hZ1 : (DataW.weightsEach Try.prog (Try.f6.params.toList ++ (OpenSpec.ofChange Rows.dequePopsSpec).bare.plain.varTypes Try.prog) (ds ++ gs)).all (· ≤ reachBytes) = true := hZ
  rw [Try.params6] at hZ1
  rw [Try.params6] at hA hval
  obtain ⟨v0, vs0, d0, ds0, p0, q0, hargs, rfl, rfl, h0, r0⟩ := trodAll_cons hA
  obtain ⟨v1, vs1, d1, ds1, p1, q1, rfl, rfl, rfl, h1, r1⟩ := trodAll_cons r0
  obtain ⟨v2, vs2, d2, ds2, p2, q2, rfl, rfl, rfl, h2, r2⟩ := trodAll_cons r1
  obtain ⟨rfl, rfl, rfl⟩ := trodAll_nil r2
  obtain rfl : args = #[v0, v1, v2] := by cases args; simp_all
  obtain ⟨rfl, rfl⟩ := trodVars_none hV
  have k0 := h0
  have lt0 : ∀ x ∈ p0, x.block < W.heap.size := by obtain ⟨m, hm⟩ := k0; exact DataW.trod_lt m _ _ _ hm
  obtain ⟨ca0, na0, ea0, rfl⟩ := okWide_slice Try.underlying29 (hval 0 29 v0 rfl rfl)
  obtain ⟨fu0, hf0⟩ := h0
  obtain ⟨A0, n0, c0, l0, hv0, hn0, hnc0, hcm0, hO0, hr0, hs0⟩ := strs_of hf0 (weight_at hZ1 (j := 0) rfl rfl)
  cases hv0
  simp only [maxLen] at hcm0
  obtain ⟨a1, rfl, rfl, rfl, w1⟩ := open_int Try.underlying3 (hval 1 3 v1 rfl rfl) h1
  have b1 := wf_i64 w1
  obtain ⟨a2, rfl, rfl, rfl, w2⟩ := open_int Try.underlying3 (hval 2 3 v2 rfl rfl) h2
  have b2 := wf_i64 w2
  clear hA0 hval0
  refine (walk _ _ _ l0 _ _ W hn0 (by omega) hnc0 hcm0 hO0 hs0 hr0 b1.1 b1.2 b2.1 b2.2).mono fun e W' ⟨he, bel⟩ => ?_
  subst he
  exact ⟨_, rfl, _, _, _, [], _, [], hW', trodAll_mk1 (shut_bool Try.underlying4 _), (trodAll_cons_mk (Below.trod laidOut (by kernel_rfl) (of_decide_eq_true (by kernel_rfl)) k0 bel lt0) (trodAll_cons_mk (shut_int Try.underlying3 w1) (trodAll_cons_mk (shut_int Try.underlying3 w2) trodAll_mk0))), rfl, bel.frame _, fun h => by cases h⟩

/-- The statement. -/
theorem proved : Rows.DequePopsSaid :=
  OpenClaim.holds_of_cond 6 Try.f6 rfl rfl rfl rfl rfl rfl rfl ⟨rfl, rfl, rfl, rfl, rfl⟩ rfl rfl rfl rfl rfl (by kernel_rfl) Try.func6 (by kernel_rfl)
    (of_decide_eq_true (by kernel_rfl)) (by unfold Func.isWrapper; first | (rw [if_pos (by decide +kernel)]; kernel_rfl) | (rw [if_neg (by decide +kernel)]; exact ⟨rfl, rfl⟩))
    (fun os started H enc _ F => by rw [OpenClaim.pre_eq_preRow]; exact lifted os started H enc F)
#print axioms proved
end Go.Proofs.Ytnnlfhdjakabmaa.dequePops
