/- A text between quotes: the document's. -/
import Derived.Test.YtejicjcdbfjajaaDoorRqo
namespace Go.Proofs.YtejicjcdbfjajaaDoor
open Go Go.RowKit
theorem esc_none : escR [] = none := rfl
theorem esc_other {x : UInt8} {l : List UInt8} (h : x.toNat ≠ 110 ∧ x.toNat ≠ 116 ∧ x.toNat ≠ 114 ∧ x.toNat ≠ 92 ∧ x.toNat ≠ 39 ∧ x.toNat ≠ 34) : escR (x :: l) = if (x :: l).length < 3 then none else match numF 0 ((x :: l).take 3) with
      | none => none
      | some n => if n ≤ 255 then some (UInt8.ofNat n, 3) else none := by
  obtain ⟨h1, h2, h3, h4, h5, h6⟩ := h
  unfold escR
  simp only
  rw [if_neg h1, if_neg h2, if_neg h3, if_neg (by omega)]
  rfl
theorem numF_bad {n : Nat} {x : UInt8} {l : List UInt8} (h : isD x.toNat = false) : numF n (x :: l) = none := by rw [numF, if_neg (by simp [h])]
theorem numF_ok {n : Nat} {x : UInt8} {l : List UInt8} (h : isD x.toNat = true) (hn : n ≤ 1000) : numF n (x :: l) = numF (n * 10 + (x.toNat - 48)) l := by
  have := isD_rng h
  rw [numF, if_pos ⟨h, by omega⟩]
theorem quo_drop (l : List UInt8) (k j : Nat) : l.drop (k + (1 + j)) = (l.drop (k + 1)).drop j := by
  rw [List.drop_drop]
  congr 1
  omega
set_option maxRecDepth 100000 in
set_option maxHeartbeats 16000000 in
theorem rtext_any (s : ByteArray) (a : Nat) (w : World) (hs : s.size ≤ 100000000) (ha : a < s.size) (hq : s[a].toNat = 39 ∨ s[a].toNat = 34) : Calls Tryd.prog 46 #[.string s, .int .i64 a] w fun e w' => e = .returned (quoV (a + 1) (quoT s[a] ((bl s).drop (a + 1)))) ∧ Below w.heap.size w w' := by
  obtain ⟨i0, hi, hz0, hz1, hz2⟩ := info_parts u8_info
  obtain ⟨R, hR⟩ : ∃ R, quoT s[a] ((bl s).drop (a + 1)) = R := ⟨_, rfl⟩
  rw [hR]
  have HI0 : Hid (QuoI s[a] (bl s) (a + 1) (a + 1) [] R) := Lib.hid ⟨Nat.le_refl _, by rw [← hR]; simp⟩
  have HR0 : Hid (RQ w w (.slice none 0 0) []) := Lib.hid ⟨World.ownsRow_nil _ _ _ _, Below.refl _ _⟩
  obtain ⟨q, hqq⟩ : ∃ q, s[a].toNat = q := ⟨_, rfl⟩
  have HEQ : Hid (∀ k (h : k < s.size), s[k] = s[a] ↔ s[k].toNat = q) := Lib.hid (fun k h => by rw [← hqq]; exact UInt8.toNat_inj.symm)
  rw [hqq] at hq
  have hqa : (a : Int) < (s.size : Int) := by omega
  have hqa0 : (0 : Int) ≤ (a : Int) := by omega
  clear hR
  go_enter Tryd.func46, Tryd.ntmps46
  go_wp2_with fail
  go_loopw [6, 7] (fun v i wr => ∃ (k : Nat) (acc : List UInt8), k ≤ s.size ∧ a + 1 ≤ k ∧ i = .int .i64 k ∧ acc.length ≤ k ∧ (∃ A c, v = .slice A acc.length c) ∧ Hid (RQ w wr v acc) ∧ Hid (QuoI s[a] (bl s) (a + 1) k acc R)) (fun _ i _ => s.size - (intOf i).toNat)
  case atStart => exact ⟨a + 1, [], by omega, by omega, by go_num, by simp, ⟨none, 0, rfl⟩, HR0, HI0⟩
  case round =>
    clear HI0 HR0
    obtain ⟨k, acc, hk, hak, rfl, hacc, ⟨A, cap, rfl⟩, HRQ, HI⟩ := hrel
    have HLE : Hid (acc.length ≤ 400000001) := Lib.hid (by omega)
    by_cases hlt : k < s.size
    · have HD := Lib.hid (drop_at s k hlt)
      obtain ⟨c, hc⟩ : ∃ c, s[k].toNat = c := ⟨_, rfl⟩
      have HC := Lib.hid hc
      have h256 : c < 256 := by rw [← hc]; exact s[k].toNat_lt
      have hk0 : (0 : Int) ≤ (k : Int) := by omega
      have hks : (k : Int) < (s.size : Int) := by omega
      have hdl : decide (k < s.size) = true := decide_eq_true hlt
      by_cases hcq : c = q
      · subst hcq
        have HY : Hid (R = some (acc, k - (a + 1) + 1)) := Lib.hid (by
          have h1 := HI.out.2
          rw [HD.out, quoT_last (by rw [HC.out]; omega) ((HEQ.out k hlt).2 HC.out)] at h1
          rw [h1]
          simp)
        obtain ⟨A3, c3, hv3, hn3, hc3, hm3, hr3⟩ := own_rdV HRQ.out.own
        cases hv3
        have hconv := conv_rd hc3 hn3 hr3.rd
        have e1 : ((c : Int) == (c : Int)) = true := by simp
        clear hr3 HD HI
        go_wp2_with fail
        go_ret2
        refine ⟨?_, HRQ.out.bel⟩
        rw [HY.out, quoV_some, show (a + 1 + (k - (a + 1) + 1) : Nat) = k + 1 by omega]
        rfl
      have ncq : ((c : Int) == (q : Int)) = false := by simp; omega
      have mcq : (c == q) = false := by simpa using hcq
      have HNQ : Hid (s[k] ≠ s[a]) := Lib.hid (fun h => hcq (HC.out.symm.trans ((HEQ.out k hlt).1 h)))
      by_cases h10 : c = 10
      · have HY : Hid (R = none) := Lib.hid (by
          have h1 := HI.out.2
          rw [HD.out, quoT_end (by rw [HC.out]; exact h10)] at h1
          exact h1)
        subst h10
        clear HD HI
        go_wp2_with fail
        go_ret2
        exact ⟨by rw [HY.out]; rfl, HRQ.out.bel⟩

      have n10 : ((c : Int) == 10) = false := by simp; omega
      have m10 : (c == 10) = false := by simpa using h10
      by_cases h92 : c = 92
      rotate_left
      · have n92 : ((c : Int) != 92) = true := by simp; omega
        have m92 : (c != 92) = true := by simpa using h92
        have HIN : Hid (QuoI s[a] (bl s) (a + 1) (k + 1) (acc ++ [s[k]]) R) := Lib.hid (quoI_step (k := 1) HI.out (by rw [HD.out]; exact quoT_one (by rw [HC.out]; exact h10) HNQ.out (by rw [HC.out]; exact h92)))
        have HUB : Hid (s[k].toNat = c) := HC
        clear HD HI
        have HCE : Hid (cellsB acc ++ [.int .u8 c] = cellsB (acc ++ [s[k]])) := Lib.hid (by rw [cellsB_app]; all_goals (first | rfl | (congr 1; simp only [cellsB, cellB, List.map_cons, List.map_nil]; first | rfl | (rw [HUB.out]))))
        go_wp2_with (at_builtin; refine wpList_append_own _ rfl (.tmp 34) (.tmp 36) 52 rfl w.heap.size 5 i0 _ 1 1 Tryd.underlying52 hi hz0 hz1 hz2 rfl (by omega) (.slice A acc.length cap) acc.length (cellsB acc) rfl (HRQ.out.own.alloc _) ⟨wr.heap.size, 0, none⟩ 1 1 [.int .u8 c] rfl rfl (World.news_of_block (cs := #[.int .u8 c]) (t := 5) (fr := (0, 0)) (heap_alloc_new wr _)) (by simp [Value.oneCell']) (by have := HLE.out; simp only [maxLen]; omega) (by have := HLE.out; omega) (by have := HRQ.out.bel.size; simp; omega) ?_; intro v3 w3 ho3 hg3 _; have HN := Lib.hid (RQ.next (m := [s[k]]) HRQ.out ho3 (by simp [List.length_append]) (HCE.out) hg3); clear ho3 hg3)
        obtain ⟨A3, c3, hv3, hn3, hc3, hm3, -⟩ := own_rdV HN.out.own
        subst hv3
        go_wp2_with fail
        go_roundw
        case rel => exact ⟨k + 1, acc ++ [s[k]], by omega, by omega, by go_num, by rw [List.length_append, List.length_singleton]; omega, ⟨A3, c3, rfl⟩, HN, HIN⟩
        case measure => simp [intOf]; omega

      subst h92
      by_cases hlt2 : k + 1 < s.size
      rotate_left
      · have g1 : decide (s.size ≤ k + 1) = true := decide_eq_true (by omega)
        have g2 : decide ((s.size : Int) ≤ (k : Int) + 1) = true := decide_eq_true (by omega)
        have HY : Hid (R = none) := Lib.hid (by
          have h1 := HI.out.2
          rw [HD.out, quoT_bad (by rw [HC.out]; decide) HNQ.out HC.out (by rw [List.drop_of_length_le (by rw [bl_len]; omega)]; rfl)] at h1
          exact h1)
        clear HD HI
        go_wp2_with fail
        go_ret2
        exact ⟨by rw [HY.out]; rfl, HRQ.out.bel⟩

      have g1 : decide (s.size ≤ k + 1) = false := decide_eq_false (by omega)
      have g2 : decide ((s.size : Int) ≤ (k : Int) + 1) = false := decide_eq_false (by omega)
      have hk1 : (0 : Int) ≤ (k : Int) + 1 := by omega
      have hks1 : (k : Int) + 1 < (s.size : Int) := by omega
      have HD2 := Lib.hid (drop_at s (k + 1) hlt2)
      obtain ⟨e, he⟩ : ∃ e, s[k + 1].toNat = e := ⟨_, rfl⟩
      have HEE := Lib.hid he
      have HST : Hid (∀ (b : UInt8) (j : Nat), escR ((bl s).drop (k + 1)) = some (b, j) → QuoI s[a] (bl s) (a + 1) (k + (1 + j)) (acc ++ [b]) R) := Lib.hid (fun b j h => quoI_step (k := 1 + j) HI.out (by rw [quo_drop, HD.out]; exact quoT_esc (by rw [HC.out]; decide) HNQ.out HC.out h))
      have HBD : Hid (escR ((bl s).drop (k + 1)) = none → R = none) := Lib.hid (fun h => by
        have h1 := HI.out.2
        rw [HD.out, quoT_bad (by rw [HC.out]; decide) HNQ.out HC.out h] at h1
        exact h1)
      clear HD HI
      by_cases h110 : e = 110
      · subst h110
        have HIN : Hid (QuoI s[a] (bl s) (a + 1) (k + 2) (acc ++ [10]) R) := Lib.hid (HST.out _ 1 (by rw [HD2.out]; unfold escR; simp only [HEE.out]; rfl))
        have HUB : Hid (True) := Lib.hid trivial
        clear HD2 HST HBD
        have HCE : Hid (cellsB acc ++ [.int .u8 10] = cellsB (acc ++ [10])) := Lib.hid (by rw [cellsB_app]; all_goals (first | rfl | (congr 1; simp only [cellsB, cellB, List.map_cons, List.map_nil]; first | rfl | (rw [HUB.out]))))
        go_wp2_with (at_builtin; refine wpList_append_own _ rfl (.tmp 107) (.tmp 108) 52 rfl w.heap.size 5 i0 _ 1 1 Tryd.underlying52 hi hz0 hz1 hz2 rfl (by omega) (.slice A acc.length cap) acc.length (cellsB acc) rfl (HRQ.out.own.alloc _) ⟨wr.heap.size, 0, none⟩ 1 1 [.int .u8 10] rfl rfl (World.news_of_block (cs := #[.int .u8 10]) (t := 5) (fr := (0, 0)) (heap_alloc_new wr _)) (by simp [Value.oneCell']) (by have := HLE.out; simp only [maxLen]; omega) (by have := HLE.out; omega) (by have := HRQ.out.bel.size; simp; omega) ?_; intro v3 w3 ho3 hg3 _; have HN := Lib.hid (RQ.next (m := [10]) HRQ.out ho3 (by simp [List.length_append]) (HCE.out) hg3); clear ho3 hg3)
        obtain ⟨A3, c3, hv3, hn3, hc3, hm3, -⟩ := own_rdV HN.out.own
        subst hv3
        go_wp2_with fail
        go_roundw
        case rel => exact ⟨k + 2, acc ++ [10], by omega, by omega, by go_num, by rw [List.length_append, List.length_singleton]; omega, ⟨A3, c3, rfl⟩, HN, HIN⟩
        case measure => simp [intOf]; omega
      by_cases h116 : e = 116
      · subst h116
        have HIN : Hid (QuoI s[a] (bl s) (a + 1) (k + 2) (acc ++ [9]) R) := Lib.hid (HST.out _ 1 (by rw [HD2.out]; unfold escR; simp only [HEE.out]; rfl))
        have HUB : Hid (True) := Lib.hid trivial
        clear HD2 HST HBD
        have HCE : Hid (cellsB acc ++ [.int .u8 9] = cellsB (acc ++ [9])) := Lib.hid (by rw [cellsB_app]; all_goals (first | rfl | (congr 1; simp only [cellsB, cellB, List.map_cons, List.map_nil]; first | rfl | (rw [HUB.out]))))
        go_wp2_with (at_builtin; refine wpList_append_own _ rfl (.tmp 112) (.tmp 113) 52 rfl w.heap.size 5 i0 _ 1 1 Tryd.underlying52 hi hz0 hz1 hz2 rfl (by omega) (.slice A acc.length cap) acc.length (cellsB acc) rfl (HRQ.out.own.alloc _) ⟨wr.heap.size, 0, none⟩ 1 1 [.int .u8 9] rfl rfl (World.news_of_block (cs := #[.int .u8 9]) (t := 5) (fr := (0, 0)) (heap_alloc_new wr _)) (by simp [Value.oneCell']) (by have := HLE.out; simp only [maxLen]; omega) (by have := HLE.out; omega) (by have := HRQ.out.bel.size; simp; omega) ?_; intro v3 w3 ho3 hg3 _; have HN := Lib.hid (RQ.next (m := [9]) HRQ.out ho3 (by simp [List.length_append]) (HCE.out) hg3); clear ho3 hg3)
        obtain ⟨A3, c3, hv3, hn3, hc3, hm3, -⟩ := own_rdV HN.out.own
        subst hv3
        go_wp2_with fail
        go_roundw
        case rel => exact ⟨k + 2, acc ++ [9], by omega, by omega, by go_num, by rw [List.length_append, List.length_singleton]; omega, ⟨A3, c3, rfl⟩, HN, HIN⟩
        case measure => simp [intOf]; omega
      by_cases h114 : e = 114
      · subst h114
        have HIN : Hid (QuoI s[a] (bl s) (a + 1) (k + 2) (acc ++ [13]) R) := Lib.hid (HST.out _ 1 (by rw [HD2.out]; unfold escR; simp only [HEE.out]; rfl))
        have HUB : Hid (True) := Lib.hid trivial
        clear HD2 HST HBD
        have HCE : Hid (cellsB acc ++ [.int .u8 13] = cellsB (acc ++ [13])) := Lib.hid (by rw [cellsB_app]; all_goals (first | rfl | (congr 1; simp only [cellsB, cellB, List.map_cons, List.map_nil]; first | rfl | (rw [HUB.out]))))
        go_wp2_with (at_builtin; refine wpList_append_own _ rfl (.tmp 117) (.tmp 118) 52 rfl w.heap.size 5 i0 _ 1 1 Tryd.underlying52 hi hz0 hz1 hz2 rfl (by omega) (.slice A acc.length cap) acc.length (cellsB acc) rfl (HRQ.out.own.alloc _) ⟨wr.heap.size, 0, none⟩ 1 1 [.int .u8 13] rfl rfl (World.news_of_block (cs := #[.int .u8 13]) (t := 5) (fr := (0, 0)) (heap_alloc_new wr _)) (by simp [Value.oneCell']) (by have := HLE.out; simp only [maxLen]; omega) (by have := HLE.out; omega) (by have := HRQ.out.bel.size; simp; omega) ?_; intro v3 w3 ho3 hg3 _; have HN := Lib.hid (RQ.next (m := [13]) HRQ.out ho3 (by simp [List.length_append]) (HCE.out) hg3); clear ho3 hg3)
        obtain ⟨A3, c3, hv3, hn3, hc3, hm3, -⟩ := own_rdV HN.out.own
        subst hv3
        go_wp2_with fail
        go_roundw
        case rel => exact ⟨k + 2, acc ++ [13], by omega, by omega, by go_num, by rw [List.length_append, List.length_singleton]; omega, ⟨A3, c3, rfl⟩, HN, HIN⟩
        case measure => simp [intOf]; omega
      by_cases h92 : e = 92
      · subst h92
        have hb : s[k + 1] = 92 := UInt8.toNat_inj.1 HEE.out
        have HIN : Hid (QuoI s[a] (bl s) (a + 1) (k + 2) (acc ++ [92]) R) := Lib.hid (HST.out _ 1 (by rw [HD2.out, hb]; rfl))
        have HUB : Hid (True) := Lib.hid trivial
        clear HD2 HST HBD hb
        have HCE : Hid (cellsB acc ++ [.int .u8 92] = cellsB (acc ++ [92])) := Lib.hid (by rw [cellsB_app]; all_goals (first | rfl | (congr 1; simp only [cellsB, cellB, List.map_cons, List.map_nil]; first | rfl | (rw [HUB.out]))))
        go_wp2_with (at_builtin; refine wpList_append_own _ rfl (.tmp 124) (.tmp 128) 52 rfl w.heap.size 5 i0 _ 1 1 Tryd.underlying52 hi hz0 hz1 hz2 rfl (by omega) (.slice A acc.length cap) acc.length (cellsB acc) rfl (HRQ.out.own.alloc _) ⟨wr.heap.size, 0, none⟩ 1 1 [.int .u8 92] rfl rfl (World.news_of_block (cs := #[.int .u8 92]) (t := 5) (fr := (0, 0)) (heap_alloc_new wr _)) (by simp [Value.oneCell']) (by have := HLE.out; simp only [maxLen]; omega) (by have := HLE.out; omega) (by have := HRQ.out.bel.size; simp; omega) ?_; intro v3 w3 ho3 hg3 _; have HN := Lib.hid (RQ.next (m := [92]) HRQ.out ho3 (by simp [List.length_append]) (HCE.out) hg3); clear ho3 hg3)
        obtain ⟨A3, c3, hv3, hn3, hc3, hm3, -⟩ := own_rdV HN.out.own
        subst hv3
        go_wp2_with fail
        go_roundw
        case rel => exact ⟨k + 2, acc ++ [92], by omega, by omega, by go_num, by rw [List.length_append, List.length_singleton]; omega, ⟨A3, c3, rfl⟩, HN, HIN⟩
        case measure => simp [intOf]; omega
      by_cases h39 : e = 39
      · subst h39
        have hb : s[k + 1] = 39 := UInt8.toNat_inj.1 HEE.out
        have HIN : Hid (QuoI s[a] (bl s) (a + 1) (k + 2) (acc ++ [39]) R) := Lib.hid (HST.out _ 1 (by rw [HD2.out, hb]; rfl))
        have HUB : Hid (True) := Lib.hid trivial
        clear HD2 HST HBD hb
        have HCE : Hid (cellsB acc ++ [.int .u8 39] = cellsB (acc ++ [39])) := Lib.hid (by rw [cellsB_app]; all_goals (first | rfl | (congr 1; simp only [cellsB, cellB, List.map_cons, List.map_nil]; first | rfl | (rw [HUB.out]))))
        go_wp2_with (at_builtin; refine wpList_append_own _ rfl (.tmp 124) (.tmp 128) 52 rfl w.heap.size 5 i0 _ 1 1 Tryd.underlying52 hi hz0 hz1 hz2 rfl (by omega) (.slice A acc.length cap) acc.length (cellsB acc) rfl (HRQ.out.own.alloc _) ⟨wr.heap.size, 0, none⟩ 1 1 [.int .u8 39] rfl rfl (World.news_of_block (cs := #[.int .u8 39]) (t := 5) (fr := (0, 0)) (heap_alloc_new wr _)) (by simp [Value.oneCell']) (by have := HLE.out; simp only [maxLen]; omega) (by have := HLE.out; omega) (by have := HRQ.out.bel.size; simp; omega) ?_; intro v3 w3 ho3 hg3 _; have HN := Lib.hid (RQ.next (m := [39]) HRQ.out ho3 (by simp [List.length_append]) (HCE.out) hg3); clear ho3 hg3)
        obtain ⟨A3, c3, hv3, hn3, hc3, hm3, -⟩ := own_rdV HN.out.own
        subst hv3
        go_wp2_with fail
        go_roundw
        case rel => exact ⟨k + 2, acc ++ [39], by omega, by omega, by go_num, by rw [List.length_append, List.length_singleton]; omega, ⟨A3, c3, rfl⟩, HN, HIN⟩
        case measure => simp [intOf]; omega
      by_cases h34 : e = 34
      · subst h34
        have hb : s[k + 1] = 34 := UInt8.toNat_inj.1 HEE.out
        have HIN : Hid (QuoI s[a] (bl s) (a + 1) (k + 2) (acc ++ [34]) R) := Lib.hid (HST.out _ 1 (by rw [HD2.out, hb]; rfl))
        have HUB : Hid (True) := Lib.hid trivial
        clear HD2 HST HBD hb
        have HCE : Hid (cellsB acc ++ [.int .u8 34] = cellsB (acc ++ [34])) := Lib.hid (by rw [cellsB_app]; all_goals (first | rfl | (congr 1; simp only [cellsB, cellB, List.map_cons, List.map_nil]; first | rfl | (rw [HUB.out]))))
        go_wp2_with (at_builtin; refine wpList_append_own _ rfl (.tmp 124) (.tmp 128) 52 rfl w.heap.size 5 i0 _ 1 1 Tryd.underlying52 hi hz0 hz1 hz2 rfl (by omega) (.slice A acc.length cap) acc.length (cellsB acc) rfl (HRQ.out.own.alloc _) ⟨wr.heap.size, 0, none⟩ 1 1 [.int .u8 34] rfl rfl (World.news_of_block (cs := #[.int .u8 34]) (t := 5) (fr := (0, 0)) (heap_alloc_new wr _)) (by simp [Value.oneCell']) (by have := HLE.out; simp only [maxLen]; omega) (by have := HLE.out; omega) (by have := HRQ.out.bel.size; simp; omega) ?_; intro v3 w3 ho3 hg3 _; have HN := Lib.hid (RQ.next (m := [34]) HRQ.out ho3 (by simp [List.length_append]) (HCE.out) hg3); clear ho3 hg3)
        obtain ⟨A3, c3, hv3, hn3, hc3, hm3, -⟩ := own_rdV HN.out.own
        subst hv3
        go_wp2_with fail
        go_roundw
        case rel => exact ⟨k + 2, acc ++ [34], by omega, by omega, by go_num, by rw [List.length_append, List.length_singleton]; omega, ⟨A3, c3, rfl⟩, HN, HIN⟩
        case measure => simp [intOf]; omega
      have ne : ∀ v : Nat, v = 110 ∨ v = 116 ∨ v = 114 ∨ v = 92 ∨ v = 39 ∨ v = 34 → e ≠ v := by omega
      have n110 : ((e : Int) == 110) = false := by simp; omega
      have n116 : ((e : Int) == 116) = false := by simp; omega
      have n114 : ((e : Int) == 114) = false := by simp; omega
      have n92 : ((e : Int) == 92) = false := by simp; omega
      have n39 : ((e : Int) == 39) = false := by simp; omega
      have n34 : ((e : Int) == 34) = false := by simp; omega
      have HO : Hid (escR ((bl s).drop (k + 1)) = if (s[k + 1] :: (bl s).drop (k + 1 + 1)).length < 3 then none else match numF 0 ((s[k + 1] :: (bl s).drop (k + 1 + 1)).take 3) with
            | none => none
            | some n => if n ≤ 255 then some (UInt8.ofNat n, 3) else none) := Lib.hid (by rw [HD2.out]; exact esc_other (by rw [HEE.out]; omega))
      clear ne
      by_cases hl3 : k + 3 < s.size
      rotate_left
      · have HY : Hid (R = none) := Lib.hid (HBD.out (by rw [HO.out, if_pos (by simp [List.length_drop, bl_len]; omega)]))
        have g3 : decide ((s.size : Int) ≤ (k : Int) + 1 + 2) = true := decide_eq_true (by omega)
        have g4 : decide (s.size ≤ k + 1 + 2) = true := decide_eq_true (by omega)
        clear HO HST HBD HD2
        go_wp2_with fail
        go_ret2
        exact ⟨by rw [HY.out]; rfl, HRQ.out.bel⟩

      have g3 : decide ((s.size : Int) ≤ (k : Int) + 1 + 2) = false := decide_eq_false (by omega)
      have g4 : decide (s.size ≤ k + 1 + 2) = false := decide_eq_false (by omega)
      have HD3 := Lib.hid (drop_at s (k + 1 + 1) (by omega))
      have HD4 := Lib.hid (drop_at s (k + 1 + 2) (by omega))
      have HO2 : Hid (escR ((bl s).drop (k + 1)) = match numF 0 [s[k + 1], s[k + 1 + 1], s[k + 1 + 2]] with
            | none => none
            | some n => if n ≤ 255 then some (UInt8.ofNat n, 3) else none) := Lib.hid (by
        rw [HO.out, if_neg (by simp [List.length_drop, bl_len]; omega), HD3.out]
        have h4 := HD4.out
        simp only [List.take_succ_cons, h4, List.take_zero])
      obtain ⟨f, hf⟩ : ∃ f, s[k + 1 + 1].toNat = f := ⟨_, rfl⟩
      obtain ⟨g, hg⟩ : ∃ g, s[k + 1 + 2].toNat = g := ⟨_, rfl⟩
      have HF := Lib.hid hf
      have HGG := Lib.hid hg
      have hk2 : (0 : Int) ≤ (k : Int) + 1 + 1 := by omega
      have hks2 : (k : Int) + 1 + 1 < (s.size : Int) := by omega
      have hk3 : (0 : Int) ≤ (k : Int) + 1 + 2 := by omega
      have hks3 : (k : Int) + 1 + 2 < (s.size : Int) := by omega
      clear HO HD2 HD3 HD4
      have HDE := Lib.hid (fun W => digit_any e W)
      have HDF := Lib.hid (fun W => digit_any f W)
      have HDG := Lib.hid (fun W => digit_any g W)
      cases hie : isD e with
      | false =>
        have HY : Hid (R = none) := Lib.hid (HBD.out (by rw [HO2.out, numF_bad (by rw [HEE.out]; exact hie)]))
        rw [hie] at HDE
        clear HO2 HST HBD
        go_wp2_with fail
        refine (HDE.out _).mono ?_
        rintro r w2 ⟨rfl, rfl⟩
        go_wp2_with fail
        go_ret2
        exact ⟨by rw [HY.out]; rfl, HRQ.out.bel⟩

      | true =>
        rw [hie] at HDE
        cases hif : isD f with
        | false =>
          have HY : Hid (R = none) := Lib.hid (HBD.out (by rw [HO2.out, numF_ok (by rw [HEE.out]; exact hie) (by omega), numF_bad (by rw [HF.out]; exact hif)]))
          rw [hif] at HDF
          clear HO2 HST HBD
          go_wp2_with fail
          refine (HDE.out _).mono ?_
          rintro r w2 ⟨rfl, rfl⟩
          go_wp2_with fail
          refine (HDF.out _).mono ?_
          rintro r w2 ⟨rfl, rfl⟩
          go_wp2_with fail
          go_ret2
          exact ⟨by rw [HY.out]; rfl, HRQ.out.bel⟩

        | true =>
          rw [hif] at HDF
          have hre := isD_rng hie
          have hrf := isD_rng hif
          cases hig : isD g with
          | false =>
            have HY : Hid (R = none) := Lib.hid (HBD.out (by rw [HO2.out, numF_ok (by rw [HEE.out]; exact hie) (by omega), numF_ok (by rw [HF.out]; exact hif) (by rw [HEE.out]; omega), numF_bad (by rw [HGG.out]; exact hig)]))
            rw [hig] at HDG
            clear HO2 HST HBD
            go_wp2_with fail
            refine (HDE.out _).mono ?_
            rintro r w2 ⟨rfl, rfl⟩
            go_wp2_with fail
            refine (HDF.out _).mono ?_
            rintro r w2 ⟨rfl, rfl⟩
            go_wp2_with fail
            refine (HDG.out _).mono ?_
            rintro r w2 ⟨rfl, rfl⟩
            go_wp2_with fail
            go_ret2
            exact ⟨by rw [HY.out]; rfl, HRQ.out.bel⟩

          | true =>
            rw [hig] at HDG
            have hrg := isD_rng hig
            obtain ⟨x, rfl⟩ : ∃ x, e = x + 48 := ⟨e - 48, by omega⟩
            obtain ⟨y, rfl⟩ : ∃ y, f = y + 48 := ⟨f - 48, by omega⟩
            obtain ⟨z, rfl⟩ : ∃ z, g = z + 48 := ⟨g - 48, by omega⟩
            have HO3 : Hid (escR ((bl s).drop (k + 1)) = if 100 * x + 10 * y + z ≤ 255 then some (UInt8.ofNat (100 * x + 10 * y + z), 3) else none) := Lib.hid (by
              rw [HO2.out, numF_ok (by rw [HEE.out]; exact hie) (by omega), numF_ok (by rw [HF.out]; exact hif) (by rw [HEE.out]; omega), numF_ok (by rw [HGG.out]; exact hig) (by rw [HEE.out, HF.out]; omega), numF, HEE.out, HF.out, HGG.out]
              simp only
              rw [show ((0 * 10 + (x + 48 - 48)) * 10 + (y + 48 - 48)) * 10 + (z + 48 - 48) = 100 * x + 10 * y + z by omega])
            have hx9 : x ≤ 9 := by omega
            have hy9 : y ≤ 9 := by omega
            have hz9 : z ≤ 9 := by omega
            clear HO2 hie hif hig hre hrf hrg
            go_wp2_with fail
            refine (HDE.out _).mono ?_
            rintro r w2 ⟨rfl, rfl⟩
            go_wp2_with fail
            refine (HDF.out _).mono ?_
            rintro r w2 ⟨rfl, rfl⟩
            go_wp2_with fail
            refine (HDG.out _).mono ?_
            rintro r w2 ⟨rfl, rfl⟩
            go_wp2_with fail
            go_quiet (fail)
            generalize nq = nq at *
            have HRQ2 : Hid (RQ w (w2.drewN nq) (.slice A acc.length cap) acc) := Lib.hid ⟨own_below HRQ.out.own (below_any nq (Below.refl _ _)), below_any nq HRQ.out.bel⟩
            clear HRQ HDE HDF HDG
            have HRQ := HRQ2
            clear HRQ2
            generalize w2.drewN nq = wr at *
            by_cases h255 : 100 * x + 10 * y + z ≤ 255
            · have HIN : Hid (QuoI s[a] (bl s) (a + 1) (k + 4) (acc ++ [UInt8.ofNat (100 * x + 10 * y + z)]) R) := Lib.hid (HST.out _ 3 (by rw [HO3.out, if_pos h255]))
              have HUB : Hid (((UInt8.ofNat (100 * x + 10 * y + z)).toNat : Int) = 100 * (x : Int) + 10 * (y : Int) + (z : Int)) := Lib.hid (by rw [u8_of _ (by omega)]; omega)
              have d1 : decide (255 < 100 * x + 10 * y + z) = false := decide_eq_false (by omega)
              have d2 : decide ((255 : Int) < 100 * (x : Int) + 10 * (y : Int) + (z : Int)) = false := decide_eq_false (by omega)
              have b0 : (0 : Int) ≤ 100 * (x : Int) + 10 * (y : Int) + (z : Int) := by omega
              have b1 : 100 * (x : Int) + 10 * (y : Int) + (z : Int) ≤ 255 := by omega
              clear HST HBD HO3
              have HCE : Hid (cellsB acc ++ [.int .u8 (100 * (x : Int) + 10 * (y : Int) + (z : Int))] = cellsB (acc ++ [UInt8.ofNat (100 * x + 10 * y + z)])) := Lib.hid (by rw [cellsB_app]; all_goals (first | rfl | (congr 1; simp only [cellsB, cellB, List.map_cons, List.map_nil]; first | rfl | (rw [HUB.out]))))
              go_wp2_with (at_builtin; refine wpList_append_own _ rfl (.tmp 98) (.tmp 101) 52 rfl w.heap.size 5 i0 _ 1 1 Tryd.underlying52 hi hz0 hz1 hz2 rfl (by omega) (.slice A acc.length cap) acc.length (cellsB acc) rfl (HRQ.out.own.alloc _) ⟨wr.heap.size, 0, none⟩ 1 1 [.int .u8 (100 * (x : Int) + 10 * (y : Int) + (z : Int))] rfl rfl (World.news_of_block (cs := #[.int .u8 (100 * (x : Int) + 10 * (y : Int) + (z : Int))]) (t := 5) (fr := (0, 0)) (heap_alloc_new wr _)) (by simp [Value.oneCell']) (by have := HLE.out; simp only [maxLen]; omega) (by have := HLE.out; omega) (by have := HRQ.out.bel.size; simp; omega) ?_; intro v3 w3 ho3 hg3 _; have HN := Lib.hid (RQ.next (m := [UInt8.ofNat (100 * x + 10 * y + z)]) HRQ.out ho3 (by simp [List.length_append]) (HCE.out) hg3); clear ho3 hg3)
              obtain ⟨A3, c3, hv3, hn3, hc3, hm3, -⟩ := own_rdV HN.out.own
              subst hv3
              go_wp2_with fail
              go_roundw
              case rel => exact ⟨k + 4, acc ++ [UInt8.ofNat (100 * x + 10 * y + z)], by omega, by omega, by go_num, by rw [List.length_append, List.length_singleton]; omega, ⟨A3, c3, rfl⟩, HN, HIN⟩
              case measure => simp [intOf]; omega

            · have HY : Hid (R = none) := Lib.hid (HBD.out (by rw [HO3.out, if_neg h255]))
              have d1 : decide (255 < 100 * x + 10 * y + z) = true := decide_eq_true (by omega)
              have d2 : decide ((255 : Int) < 100 * (x : Int) + 10 * (y : Int) + (z : Int)) = true := decide_eq_true (by omega)
              clear HST HBD HO3
              go_wp2_with fail
              go_ret2
              exact ⟨by rw [HY.out]; rfl, HRQ.out.bel⟩

    · obtain rfl : k = s.size := by omega
      have hdl : decide (s.size < s.size) = false := by simp
      have HY : Hid (R = none) := Lib.hid (by
        have h1 := HI.out.2
        rw [List.drop_of_length_le (by rw [bl_len]; omega), quoT_nil] at h1
        exact h1)
      clear HI
      go_wp2_with fail
      go_ret2
      exact ⟨by rw [HY.out]; rfl, HRQ.out.bel⟩

end Go.Proofs.YtejicjcdbfjajaaDoor
