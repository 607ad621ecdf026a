/- The reference's Drop. -/
import Derived.Test.YtnnlfhdjakabmaaFewIs
import Derived.Test.YtnnlfhdjakabmaaDropL
namespace Go.Proofs.Ytnnlfhdjakabmaa
open Go Go.RowKit
theorem drop_next {cnt : Int} {t x : ByteArray} {l : List ByteArray} {k d : Nat} {o : List ByteArray} (h : dropSt cnt t (l.take k) = (o, d)) (hxt : l.take (k + 1) = l.take k ++ [x]) : dropSt cnt t (l.take (k + 1)) = dropStep cnt t (o, d) x := by rw [hxt, dropSt_snoc, h]
theorem drop_back {cnt : Int} {t x : ByteArray} {l : List ByteArray} {k d : Nat} {o : List ByteArray} (h : dropSt cnt t (l.drop (k + 1)).reverse = (o, d)) (hxt : l.drop k = x :: l.drop (k + 1)) : dropSt cnt t (l.drop k).reverse = dropStep cnt t (o, d) x := by rw [hxt, List.reverse_cons, dropSt_snoc, h]
theorem wanted_pos {cnt : Int} {d : Nat} (h : ¬ cnt < 0) : wanted cnt d = true ↔ (0 < cnt - d ∨ cnt = 0) := by
  simp only [wanted, Bool.or_eq_true, Bool.and_eq_true, decide_eq_true_eq]
  omega
theorem wanted_neg {cnt : Int} {d : Nat} (h : cnt < 0) : wanted cnt d = true ↔ cnt + d < 0 := by
  simp only [wanted, Bool.or_eq_true, Bool.and_eq_true, decide_eq_true_eq]
  omega
theorem step_drop {cnt : Int} {t : ByteArray} {o : List ByteArray} {d : Nat} (h : wanted cnt d = true) : dropStep cnt t (o, d) t = (o, d + 1) := by simp [dropStep, h]
theorem step_stay {cnt : Int} {t x : ByteArray} {o : List ByteArray} {d : Nat} (h : x ≠ t ∨ ¬ wanted cnt d = true) : dropStep cnt t (o, d) x = (o ++ [x], d) := by
  unfold dropStep
  rw [if_neg]
  rintro ⟨h1, h2⟩
  rcases h with h | h
  · exact h h1
  · exact h h2
theorem dropSt_le {cnt : Int} {t : ByteArray} {l : List ByteArray} {o : List ByteArray} {d : Nat} (h : dropSt cnt t l = (o, d)) : o.length + d = l.length := by have := dropSt_len cnt t l; rw [h] at this; exact this
theorem drop_at' {ls : List ByteArray} {k : Nat} (hk : k < ls.length) : ∃ x, ls[k] = x ∧ ls.drop k = x :: ls.drop (k + 1) := ⟨_, rfl, List.drop_eq_getElem_cons hk⟩
set_option maxHeartbeats 4000000 in
set_option maxRecDepth 100000 in
theorem rdrop_pos (A : Option Addr) (n c : Nat) (l : List ByteArray) (cnt : Int) (t : ByteArray) (w : World) (hn : l.length = n) (hnb : n ≤ 500000) (ha : RdV w A (cellsS l)) (c1 : ¬ cnt < 0) (c2 : cnt ≤ 9223372036854775807) :
    Calls Try.prog 34 #[.slice A n c, .int .i64 cnt, .string t] w (ListQ (dropL cnt t l) w) := by
  have HN := Lib.hid hn
  have HA := Lib.hid ha
  have d0 : decide (cnt < 0) = false := by simp; omega
  clear hn ha
  go_enter Try.func34, Try.ntmps34
  go_wp2
  go_loopw [7, 8, 10] (fun lf v i W => ∃ (k d N : Nat) (o : List ByteArray), k ≤ n ∧ i = .int .i64 k ∧ lf = .int .i64 (cnt - d) ∧ d ≤ n ∧ N ≤ n ∧ Hid (o.length = N) ∧ Hid (dropSt cnt t (l.take k) = (o, d)) ∧ Hid (W.ownsRow w.heap.size 9 1 v N (cellsS o)) ∧ Hid (Below w.heap.size w W)) (fun _ _ i _ => n - (intOf i).toNat)
  case atStart => exact ⟨0, 0, 0, [], Nat.zero_le _, rfl, by simp, Nat.zero_le _, Nat.zero_le _, Lib.hid rfl, Lib.hid (by simp [dropSt]), Lib.hid (World.ownsRow_nil _ _ _ _), Lib.hid (Below.refl _ _)⟩
  case round =>
    obtain ⟨k, d, N, o, hk, rfl, rfl, hd, hN, HL, HS, HO, HB⟩ := hrel
    by_cases hlt : k < n
    · obtain ⟨b, off, rfl, hbb, hca⟩ := rdS_at (HA.out.below HB.out) (k := k) (by have := HN.out; omega)
      obtain ⟨x, hx, hxt⟩ := list_at (ls := l) (k := k) (by have := HN.out; omega)
      rw [hx] at hca
      have HS2 := Lib.hid (drop_next HS.out hxt)
      have hle := dropSt_le HS.out
      rw [List.length_take, HL.out] at hle
      have hw := wanted_pos (cnt := cnt) (d := d) (by omega)
      have HW := Lib.hid hw
      clear hx hxt hw
      by_cases e : x = t
      · subst e
        by_cases g1 : (d : Int) < cnt
        · have HS3 := Lib.hid (HS2.out.trans (step_drop (HW.out.2 (.inl (by omega)))))
          clear HS2
          go_wp2
          go_roundw
          case rel => exact ⟨k + 1, d + 1, N, o, by omega, by go_num, by go_num, by omega, hN, HL, HS3, HO, HB⟩
          case measure => simp [intOf]; omega
        · by_cases g2 : cnt = 0
          · have zz : (cnt == 0) = true := by simp [g2]
            have z1 : cnt ≤ (d : Int) := by omega
            have z2 : decide ((d : Int) < cnt) = false := by simp; omega
            have HS3 := Lib.hid (HS2.out.trans (step_drop (HW.out.2 (.inr g2))))
            clear HS2 g2
            go_wp2
            go_roundw
            case rel => first | exact ⟨k + 1, d + 1, N, o, by omega, by go_num, by go_num, by omega, hN, HL, HS3, HO, HB⟩ | exact ⟨_, k + 1, d + 1, N, o, by omega, by go_num, by go_num, by omega, hN, HL, HS3, HO, HB⟩ | exact ⟨_, _, k + 1, d + 1, N, o, by omega, by go_num, by go_num, by omega, hN, HL, HS3, HO, HB⟩ | exact ⟨_, _, _, k + 1, d + 1, N, o, by omega, by go_num, by go_num, by omega, hN, HL, HS3, HO, HB⟩ | trace_state
            case measure => simp [intOf]; omega
          · have zz : (cnt == 0) = false := by simp [g2]
            have z1 : cnt ≤ (d : Int) := by omega
            have z2 : decide ((d : Int) < cnt) = false := by simp; omega
            have HS3 := Lib.hid (HS2.out.trans (step_stay (.inr (fun h => (HW.out.1 h).elim (by omega) g2))))
            clear HS2
            go_wp2_with (at_builtin; refine wpList_strs rfl (.tmp 63) (.tmp 68) rfl w.heap.size u8 o N HL.out rfl (own_below HO.out (below_new wr _)) (some ⟨wr.heap.size, 0, none⟩) 1 1 [x] rfl rfl (new_rdS wr [x]) (fun h => by cases h) (Nat.le_refl _) (by omega) (Nat.le_trans HB.out.size (by simp)) ?_; intro v7 w7 ho7 hb7 hs7; have HB7 := Lib.hid (HB.out.trans (((below_new wr _).mono HB.out.size).trans hb7)); have HO7 := Lib.hid ho7; clear ho7 hb7 hs7)
            go_roundw
            case rel => exact ⟨k + 1, d, N + 1, o ++ [x], by omega, by go_num, rfl, hd, by omega, Lib.hid (by rw [List.length_append, HL.out]; rfl), HS3, HO7, HB7⟩
            case measure => simp [intOf]; omega
      · have HS3 := Lib.hid (HS2.out.trans (step_stay (.inl e)))
        have e2 := bytes_ne e
        clear e
        clear HS2
        go_wp2_with (at_builtin; refine wpList_strs rfl (.tmp 63) (.tmp 68) rfl w.heap.size u8 o N HL.out rfl (own_below HO.out (below_new wr _)) (some ⟨wr.heap.size, 0, none⟩) 1 1 [x] rfl rfl (new_rdS wr [x]) (fun h => by cases h) (Nat.le_refl _) (by omega) (Nat.le_trans HB.out.size (by simp)) ?_; intro v7 w7 ho7 hb7 hs7; have HB7 := Lib.hid (HB.out.trans (((below_new wr _).mono HB.out.size).trans hb7)); have HO7 := Lib.hid ho7; clear ho7 hb7 hs7)
        go_roundw
        case rel => exact ⟨k + 1, d, N + 1, o ++ [x], by omega, by go_num, rfl, hd, by omega, Lib.hid (by rw [List.length_append, HL.out]; rfl), HS3, HO7, HB7⟩
        case measure => simp [intOf]; omega
    · obtain rfl : k = n := by omega
      have hs := HS.out
      rw [List.take_of_length_le (by have := HN.out; omega)] at hs
      have HD : Hid (dropL cnt t l = o) := Lib.hid (by unfold dropL; rw [if_neg (by omega), hs])
      obtain ⟨A7, c7, hv7, k7, n7, -, hr7⟩ := own_rdV HO.out
      subst hv7
      have HR7 := Lib.hid hr7
      have HN7 := Lib.hid n7
      clear hs hr7 n7 HS
      go_wp2
      go_ret
      exact ⟨A7, _, c7, rfl, by rw [HD.out]; exact HL.out, by omega, HN7.out, by rw [HD.out]; exact HR7.out, HB.out⟩
set_option maxHeartbeats 4000000 in
set_option maxRecDepth 100000 in
theorem rdrop_neg (A : Option Addr) (n c : Nat) (l : List ByteArray) (cnt : Int) (t : ByteArray) (w : World) (hn : l.length = n) (hnb : n ≤ 500000) (ha : RdV w A (cellsS l)) (c0 : -9223372036854775808 ≤ cnt) (c1 : cnt < 0) :
    Calls Try.prog 34 #[.slice A n c, .int .i64 cnt, .string t] w (ListQ (dropL cnt t l) w) := by
  have HN := Lib.hid hn
  have HA := Lib.hid ha
  have d0 : decide (cnt < 0) = true := by simp; omega
  clear hn ha
  go_enter Try.func34, Try.ntmps34
  go_wp2
  go_loopw [7, 8, 9] (fun lf v i W => ∃ (k d N : Nat) (o : List ByteArray) (A' : Option Addr) (c' : Nat), k ≤ n ∧ i = .int .i64 ((k : Int) - 1) ∧ lf = .int .i64 (cnt + d) ∧ v = .slice A' N c' ∧ N ≤ c' ∧ Hid (A' = none → c' = 0) ∧ N + d + k = n ∧ Hid (o.length = N) ∧ Hid (dropSt cnt t (l.drop k).reverse = (o, d)) ∧ Hid (RdV W A' (cellsS o.reverse)) ∧ Hid (Below w.heap.size w W)) (fun _ _ i _ => (intOf i + 1).toNat)
  case atStart => exact ⟨n, 0, 0, [], none, 0, Nat.le_refl _, by go_num, by simp, rfl, Nat.le_refl _, Lib.hid (fun _ => rfl), by omega, Lib.hid rfl, Lib.hid (by rw [List.drop_eq_nil_of_le (by have := HN.out; omega)]; simp [dropSt]), Lib.hid (RdV.nil _ _), Lib.hid (Below.refl _ _)⟩
  case round =>
    obtain ⟨k, d, N, o, A', c', hk, rfl, rfl, rfl, hNc, HA', hsum, HL, HS, HO, HB⟩ := hrel
    rcases k with _ | k
    rotate_left
    · rw [show ((k + 1 : Nat) : Int) - 1 = (k : Int) by omega]
      obtain ⟨b, off, rfl, hbb, hca⟩ := rdS_at (HA.out.below HB.out) (k := k) (by have := HN.out; omega)
      obtain ⟨x, hx, hxt⟩ := drop_at' (ls := l) (k := k) (by have := HN.out; omega)
      rw [hx] at hca
      have HS2 := Lib.hid (drop_back HS.out hxt)
      have hw := wanted_neg (d := d) c1
      have HW := Lib.hid hw
      have hk0 : (0 : Int) ≤ (k : Int) := by omega
      have hk1 : (k : Int) < (n : Int) := by omega
      clear hx hxt hw
      by_cases e : x = t
      · subst e
        by_cases g1 : cnt + (d : Int) < 0
        · have HS3 := Lib.hid (HS2.out.trans (step_drop (HW.out.2 g1)))
          clear HS2
          go_wp2
          go_roundw
          case rel => exact ⟨k, d + 1, N, o, A', c', by omega, by go_num, by go_num, rfl, hNc, HA', by omega, HL, HS3, HO, HB⟩
          case measure => simp [intOf]
        · have HS3 := Lib.hid (HS2.out.trans (step_stay (.inr (fun h => g1 (HW.out.1 h)))))
          have HX : Hid ((o ++ [x]).reverse = [x] ++ o.reverse) := Lib.hid (by simp)
          have HLr : Hid (o.reverse.length = N) := Lib.hid (by simp [HL.out])
          clear HS2
          go_wp2_with (at_builtin; refine wpList_strs rfl (.tmp 37) (.tmp 38) rfl wr.heap.size _ [x] 1 rfl rfl (own_new wr 9 (cellsS [x]) wr.heap.size (Nat.le_refl _) (by simp [cellsS, maxLen]) (by simp [cellsS])) A' N c' o.reverse HLr.out rfl (HO.out.below (below_new wr _)) HA'.out hNc (by omega) (by simp) ?_; intro v7 w7 ho7 hb7 hs7; have HB7 := Lib.hid (HB.out.trans (((below_new wr (.cells (cellsS [x]).toArray 9)).trans (hb7.mono (by simp))).mono HB.out.size)); obtain ⟨A7, c7, hv7, k7, n7, -, hr7⟩ := own_rdV ho7; subst hv7; have HR7 := Lib.hid hr7; have HN7 := Lib.hid n7; clear ho7 hb7 hs7 hr7 n7)
          go_roundw
          case rel => exact ⟨k, d, N + 1, o ++ [x], A7, c7, by omega, by go_num, rfl, by congr 1; omega, by omega, HN7, by omega, Lib.hid (by rw [List.length_append, HL.out]; rfl), HS3, Lib.hid (by rw [HX.out]; exact HR7.out), HB7⟩
          case measure => simp [intOf]
      · have HS3 := Lib.hid (HS2.out.trans (step_stay (.inl e)))
        have e2 := bytes_ne e
        clear e
        have HX : Hid ((o ++ [x]).reverse = [x] ++ o.reverse) := Lib.hid (by simp)
        have HLr : Hid (o.reverse.length = N) := Lib.hid (by simp [HL.out])
        clear HS2
        go_wp2_with (at_builtin; refine wpList_strs rfl (.tmp 37) (.tmp 38) rfl wr.heap.size _ [x] 1 rfl rfl (own_new wr 9 (cellsS [x]) wr.heap.size (Nat.le_refl _) (by simp [cellsS, maxLen]) (by simp [cellsS])) A' N c' o.reverse HLr.out rfl (HO.out.below (below_new wr _)) HA'.out hNc (by omega) (by simp) ?_; intro v7 w7 ho7 hb7 hs7; have HB7 := Lib.hid (HB.out.trans (((below_new wr (.cells (cellsS [x]).toArray 9)).trans (hb7.mono (by simp))).mono HB.out.size)); obtain ⟨A7, c7, hv7, k7, n7, -, hr7⟩ := own_rdV ho7; subst hv7; have HR7 := Lib.hid hr7; have HN7 := Lib.hid n7; clear ho7 hb7 hs7 hr7 n7)
        go_roundw
        case rel => exact ⟨k, d, N + 1, o ++ [x], A7, c7, by omega, by go_num, rfl, by congr 1; omega, by omega, HN7, by omega, Lib.hid (by rw [List.length_append, HL.out]; rfl), HS3, Lib.hid (by rw [HX.out]; exact HR7.out), HB7⟩
        case measure => simp [intOf]
    · rw [show ((0 : Nat) : Int) - 1 = -1 by rfl]
      have hs := HS.out
      rw [List.drop_zero] at hs
      have HD : Hid (dropL cnt t l = o.reverse) := Lib.hid (by unfold dropL; rw [if_pos c1, hs])
      clear hs HS
      go_wp2
      go_ret
      exact ⟨A', _, c', rfl, by rw [HD.out, List.length_reverse]; exact HL.out, hNc, HA'.out, by rw [HD.out]; exact HO.out, HB.out⟩
theorem rdrop_any (A : Option Addr) (n c : Nat) (l : List ByteArray) (cnt : Int) (t : ByteArray) (w : World) (hn : l.length = n) (hnb : n ≤ 500000) (ha : RdV w A (cellsS l)) (c1 : -9223372036854775808 ≤ cnt) (c2 : cnt ≤ 9223372036854775807) :
    Calls Try.prog 34 #[.slice A n c, .int .i64 cnt, .string t] w (ListQ (dropL cnt t l) w) := by
  by_cases h : cnt < 0
  · exact rdrop_neg A n c l cnt t w hn hnb ha c1 h
  · exact rdrop_pos A n c l cnt t w hn hnb ha h c2
end Go.Proofs.Ytnnlfhdjakabmaa
