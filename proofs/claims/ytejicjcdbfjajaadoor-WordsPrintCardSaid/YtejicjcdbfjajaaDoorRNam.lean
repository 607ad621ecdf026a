/- Whether a text is a word of the language, a name: the reference's. -/
import Derived.Test.YtejicjcdbfjajaaDoorKw
namespace Go.Proofs.YtejicjcdbfjajaaDoor
open Go Go.RowKit
theorem take_has {s : ByteArray} {k : Nat} (hk : k < kws.length) (h : s ∉ kws.take k) (hn : kws[k] ≠ s) : s ∉ kws.take (k + 1) := by
  rw [List.take_succ_eq_append_getElem hk]
  simp only [List.mem_append, List.mem_singleton]
  rintro (h1 | h1)
  · exact h h1
  · exact hn h1.symm
theorem rdV_new (w : World) (xs : List Value) (t : TypeId) : RdV (w.alloc (.cells xs.toArray t)) (some ⟨w.heap.size, 0, none⟩) xs := fun _ => ⟨_, 0, rfl, by simp, fun j hj => by
  rw [Nat.zero_add]
  have := World.cell?_alloc_new w xs.toArray t j
  rw [this]
  simp [hj]⟩
set_option maxRecDepth 100000 in
set_option maxHeartbeats 4000000 in
theorem rkey_any (s : ByteArray) (w : World) : Calls Tryd.prog 39 #[.string s] w fun e w' => e = .returned (.bool (keyB s)) ∧ Below w.heap.size w w' := by
  obtain ⟨w1, hw1⟩ : ∃ w1, w.alloc (.cells #[.string { data := #[97, 110, 100] }, .string { data := #[98, 114, 101, 97, 107] }, .string { data := #[100, 111] }, .string { data := #[101, 108, 115, 101] }, .string { data := #[101, 108, 115, 101, 105, 102] }, .string { data := #[101, 110, 100] }, .string { data := #[102, 97, 108, 115, 101] }, .string { data := #[102, 111, 114] }, .string { data := #[102, 117, 110, 99, 116, 105, 111, 110] }, .string { data := #[105, 102] }, .string { data := #[105, 110] }, .string { data := #[108, 111, 99, 97, 108] }, .string { data := #[110, 105, 108] }, .string { data := #[110, 111, 116] }, .string { data := #[111, 114] }, .string { data := #[114, 101, 116, 117, 114, 110] }, .string { data := #[116, 104, 101, 110] }, .string { data := #[116, 114, 117, 101] }, .string { data := #[119, 104, 105, 108, 101] }] 9) = w1 := ⟨_, rfl⟩
  have HR : Hid (RdV w1 (some ⟨w.heap.size, 0, none⟩) (cellsS kws)) := Lib.hid (by rw [← hw1]; exact rdV_new w (cellsS kws) 9)
  have HB : Hid (Below w.heap.size w w1) := Lib.hid (by rw [← hw1]; exact below_new _ _)
  go_enter Tryd.func39, Tryd.ntmps39
  go_wp2_with fail
  clear hw1
  go_loop [4] (fun i => ∃ k : Nat, k ≤ 19 ∧ i = .int .i64 k ∧ Hid (s ∉ kws.take k)) (fun i => 19 - (intOf i).toNat)
  case atStart => exact ⟨0, Nat.zero_le _, rfl, by simp [Hid]⟩
  case round =>
    obtain ⟨k, hk, rfl, HN⟩ := hrel
    by_cases hlt : k < 19
    · have hl : k < kws.length := hlt
      obtain ⟨b, off, hA, hbb, hca⟩ := rdS_at HR.out (k := k) hl
      cases hA
      rw [Nat.zero_add] at hca
      by_cases hs : kws[k] = s
      · have HY : Hid (keyB s = true) := Lib.hid (by unfold keyB; rw [← hs]; simp)
        rw [hs] at hca
        have he := bytes_eq s
        clear hs
        go_wp2_with fail
        go_ret
        exact ⟨ret_bool HY.out.symm, HB.out⟩
      · have he := bytes_ne hs
        have HY := Lib.hid (take_has hl HN.out hs)
        generalize kws[k] = t at *
        clear hs
        go_wp2_with fail
        go_round
        case rel => exact ⟨k + 1, by omega, by go_num, HY⟩
        case measure => simp [intOf]; omega
    · obtain rfl : k = 19 := by omega
      go_wp2_with fail
      go_ret
      exact ⟨ret_bool (by have h1 : s ∉ kws := HN.out; unfold keyB; simp [h1]), HB.out⟩
/-- Is a text a name, by the reference's order of questions? -/
theorem nameR {s : ByteArray} : nameB s = (decide (0 < s.size) && decide (s.size ≤ 64) && (match bl s with | [] => false | c :: _ => !isD c.toNat) && !keyB s && (bl s).all okB) := by
  unfold nameB formB
  cases h : bl s with
  | nil => simp
  | cons c r =>
    have h1 : (isL c.toNat && (c :: r).all okB) = (!isD c.toNat && (c :: r).all okB) := by
      simp only [List.all_cons, okB]
      cases h2 : isL c.toNat <;> cases h3 : isD c.toNat <;> simp
      unfold isL at h2
      unfold isD at h3
      simp at h2 h3
      omega
    simp only
    cases decide (0 < s.size) <;> cases decide (s.size ≤ 64) <;> cases keyB s <;> simp only [Bool.true_and, Bool.false_and, Bool.and_true, Bool.and_false, Bool.not_true, Bool.not_false]
    exact h1
set_option maxRecDepth 100000 in
set_option maxHeartbeats 4000000 in
theorem rname_any (s : ByteArray) (w : World) (hm : s.size ≤ 9223372036854775807) : Calls Tryd.prog 20 #[.string s] w fun e w' => e = .returned (.bool (nameB s)) ∧ Below w.heap.size w w' := by
  obtain ⟨nm, hnm⟩ : ∃ nm, nameB s = nm := ⟨_, rfl⟩
  rw [hnm]
  have HNM := Lib.hid hnm
  rw [nameR] at HNM
  clear hnm
  rcases empty_or s with rfl | h0
  · go_enter Tryd.func20, Tryd.ntmps20
    go_wp2_with fail
    go_ret
    exact ⟨ret_bool (by rw [← HNM.out]; rfl), Below.refl _ _⟩
  have he := ne_empty h0
  obtain ⟨r, hr⟩ := bl_head h0
  by_cases hl : 64 < s.size
  · have d1 : decide ((64 : Int) < (s.size : Int)) = true := decide_eq_true (by omega)
    have HF : Hid (nm = false) := Lib.hid (by rw [← HNM.out, show decide (s.size ≤ 64) = false from decide_eq_false (by omega)]; simp)
    clear hr
    go_enter Tryd.func20, Tryd.ntmps20
    go_wp2_with fail
    go_ret
    exact ⟨ret_bool HF.out.symm, Below.refl _ _⟩
  have d1 : decide ((64 : Int) < (s.size : Int)) = false := decide_eq_false (by omega)
  have HD := Lib.hid (fun k (h : k < s.size) (W : World) => digit_any s[k].toNat W)
  have HL := Lib.hid (fun k (h : k < s.size) (W : World) => letter_any s[k].toNat W)
  have HK := Lib.hid (rkey_any s w)
  have h64 : decide (0 < s.size) = true := decide_eq_true h0
  have h65 : decide (s.size ≤ 64) = true := decide_eq_true (by omega)
  rw [h64, h65] at HNM
  simp only [hr, Bool.true_and] at HNM
  clear h64 h65
  cases h1 : isD s[0].toNat with
  | true =>
    have HF : Hid (nm = false) := Lib.hid (by rw [← HNM.out, h1]; simp)
    have H1 := Lib.hid h1
    clear hr h1
    go_enter Tryd.func20, Tryd.ntmps20
    go_wp2_with fail
    refine (HD.out 0 h0 _).mono ?_
    rintro e w' ⟨rfl, rfl⟩
    rw [H1.out]
    go_wp2_with fail
    go_ret
    exact ⟨ret_bool HF.out.symm, Below.refl _ _⟩
  | false =>
    rw [h1] at HNM
    cases h2 : keyB s with
    | true =>
      have HF : Hid (nm = false) := Lib.hid (by rw [← HNM.out, h2]; simp)
      rw [h2] at HK
      have H1 := Lib.hid h1
      clear hr h1 h2
      go_enter Tryd.func20, Tryd.ntmps20
      go_wp2_with fail
      refine (HD.out 0 h0 _).mono ?_
      rintro e w' ⟨rfl, rfl⟩
      rw [H1.out]
      go_wp2_with fail
      refine HK.out.mono ?_
      rintro e w1 ⟨rfl, hb⟩
      go_wp2_with fail
      go_ret
      exact ⟨ret_bool HF.out.symm, hb⟩
    | false =>
      have HF : Hid (nm = (bl s).all okB) := Lib.hid (by rw [← HNM.out, h2, hr]; simp)
      rw [h2] at HK
      have H1 := Lib.hid h1
      clear hr h1 h2 HNM
      go_enter Tryd.func20, Tryd.ntmps20
      go_wp2_with fail
      refine (HD.out 0 h0 _).mono ?_
      rintro e w' ⟨rfl, rfl⟩
      rw [H1.out]
      go_wp2_with fail
      refine HK.out.mono ?_
      rintro e w1 ⟨rfl, hb⟩
      have HB := Lib.hid hb
      clear hb
      go_wp2_with fail
      go_loop [3] (fun i => ∃ k : Nat, k ≤ s.size ∧ i = .int .i64 k ∧ Hid (((bl s).take k).all okB = true)) (fun i => s.size - (intOf i).toNat)
      case atStart => exact ⟨0, Nat.zero_le _, rfl, by simp [Hid]⟩
      case round =>
        obtain ⟨k, hk, rfl, HA⟩ := hrel
        by_cases hlt : k < s.size
        · cases h3 : isL s[k].toNat with
          | true =>
            have HY := Lib.hid (all_snoc (p := okB) s k hlt (by unfold okB; rw [h3]; rfl) HA.out)
            have H3 := Lib.hid h3
            clear h3
            go_wp2_with fail
            refine (HL.out k hlt _).mono ?_
            rintro e w' ⟨rfl, rfl⟩
            rw [H3.out]
            go_wp2_with fail
            go_round
            case rel => exact ⟨k + 1, by omega, by go_num, HY⟩
            case measure => simp [intOf]; omega
          | false =>
            cases h4 : isD s[k].toNat with
            | true =>
              have HY := Lib.hid (all_snoc (p := okB) s k hlt (by unfold okB; rw [h4]; simp) HA.out)
              have H3 := Lib.hid h3
              have H4 := Lib.hid h4
              clear h3 h4
              go_wp2_with fail
              refine (HL.out k hlt _).mono ?_
              rintro e w' ⟨rfl, rfl⟩
              rw [H3.out]
              go_wp2_with fail
              refine (HD.out k hlt _).mono ?_
              rintro e w' ⟨rfl, rfl⟩
              rw [H4.out]
              go_wp2_with fail
              go_round
              case rel => exact ⟨k + 1, by omega, by go_num, HY⟩
              case measure => simp [intOf]; omega
            | false =>
              have HY := Lib.hid (all_no (p := okB) s k hlt (by unfold okB; rw [h3, h4]; rfl))
              have H3 := Lib.hid h3
              have H4 := Lib.hid h4
              clear h3 h4
              go_wp2_with fail
              refine (HL.out k hlt _).mono ?_
              rintro e w' ⟨rfl, rfl⟩
              rw [H3.out]
              go_wp2_with fail
              refine (HD.out k hlt _).mono ?_
              rintro e w' ⟨rfl, rfl⟩
              rw [H4.out]
              go_wp2_with fail
              go_ret
              exact ⟨ret_bool (by rw [HF.out, HY.out]), HB.out⟩
        · have h5 : (bl s).all okB = true := by
            have := HA.out
            rwa [List.take_of_length_le (by rw [bl_len]; omega)] at this
          have HY := Lib.hid h5
          clear h5
          go_wp2_with fail
          go_ret
          exact ⟨ret_bool (by rw [HF.out, HY.out]), HB.out⟩
end Go.Proofs.YtejicjcdbfjajaaDoor
