/- What the reference tells is new memory. -/
import Derived.Test.YtnnlfhdjakabmaaRDrop
import Derived.Test.YtnnlfhdjakabmaaPop
namespace Go.Proofs.Ytnnlfhdjakabmaa
open Go Go.RowKit
open Go.Shelf
theorem own_fresh {W : World} {B n m c : Nat} {A : Option Addr} {xs : List Value} (h : W.ownsRow B 9 1 (.slice A m c) n xs) : ∀ ad, A = some ad → B ≤ ad.block := by
  intro ad e
  subst e
  rcases h.2 with ⟨h1, _⟩ | ⟨g, cap, cur, h1, hb, _⟩
  · cases h1
  · cases h1; exact hb
/-- A list as it is told, in memory of its own. -/
def ListN (l : List ByteArray) (w : World) (e : Ending) (w' : World) : Prop := ∃ A n c, e = .returned (.slice A n c) ∧ l.length = n ∧ n ≤ c ∧ (A = none → c = 0) ∧ RdV w' A (cellsS l) ∧ Below w.heap.size w w' ∧ ∀ ad, A = some ad → w.heap.size ≤ ad.block
set_option maxHeartbeats 1000000 in
theorem nrange_any (A : Option Addr) (n c : Nat) (l : List ByteArray) (f u : Int) (w : World) (hn : l.length = n) (hnc : n ≤ c) (hA : A = none → c = 0) (ha : RdV w A (cellsS l)) (hnb : n ≤ 500000) (f1 : -9223372036854775808 ≤ f) (f2 : f ≤ 9223372036854775807) (u1 : -9223372036854775808 ≤ u) (u2 : u ≤ 9223372036854775807) :
    Calls Try.prog 30 #[.slice A n c, .int .i64 f, .int .i64 u] w (ListN (rangeL l f u) w) := by
  have hsp := spanF_le n f u (by omega)
  obtain ⟨a, haa⟩ : ∃ a : Nat, (a : Int) = (spanF n f u).1 := ⟨(spanF n f u).1.toNat, by omega⟩
  obtain ⟨b, hbb⟩ : ∃ b : Nat, (b : Int) = (spanF n f u).2 := ⟨(spanF n f u).2.toNat, by omega⟩
  have hSP := rspan_any n f u w (by omega) (by omega) f1 f2 u1 u2
  rw [← haa, ← hbb] at hSP
  have HSP := Lib.hid hSP
  have HR : Hid ((l.drop a).take (b - a) = rangeL l f u) := Lib.hid (by unfold rangeL; rw [hn, ← haa, ← hbb]; simp)
  have hab : a ≤ b := by omega
  have hbn : b ≤ n := by omega
  have HL : Hid (((l.drop a).take (b - a)).length = b - a) := Lib.hid (by rw [List.length_take, List.length_drop]; omega)
  have HN := Lib.hid hn
  have HA0 := Lib.hid hA
  have HA := Lib.hid ha
  have HRD : Hid (RdV w (subA A a c) (cellsS ((l.drop a).take (b - a)))) := Lib.hid (by
    have h := (ha.drop a c (by rw [cellsS_len]; omega)).take (b - a)
    rwa [cellsS, ← List.map_drop, ← List.map_take] at h)
  clear hSP hn hA ha haa hbb hsp
  go_enter Try.func30, Try.ntmps30
  go_wp2_with fail
  refine HSP.out.mono ?_
  rintro e w' ⟨rfl, rfl⟩
  go_wp2_with (first
    | (refine wpList_slice_lh rfl (.tmp 18) (.tmp 19) (.tmp 20) 29 9 rfl Try.underlying29 (sz9 _) A n c rfl .i64 .i64 a b rfl rfl hab (by omega) ?_)
    | (at_builtin; refine wpList_strs rfl (.tmp 17) (.tmp 21) rfl w'.heap.size _ [] 0 rfl rfl (own_empty w' 9 w'.heap.size (Nat.le_refl _)) (subA A a c) (b - a) (c - a) ((l.drop a).take (b - a)) HL.out rfl (HRD.out.below (below_new w' _)) (subA_none HA0.out) (by omega) (by omega) (by simp) ?_; intro v7 w7 ho7 hb7 hs7; have HB7 := Lib.hid ((below_new w' (.cells #[] 9)).trans hb7); obtain ⟨A7, c7, hv7, k7, n7, -, hr7⟩ := own_rdV ho7; subst hv7; have HF7 := Lib.hid (own_fresh ho7); have HR7 := Lib.hid hr7; have HN7 := Lib.hid n7; clear ho7 hb7 hs7 hr7 n7))
  go_ret
  refine ⟨A7, _, c7, rfl, ?_, by omega, HN7.out, ?_, HB7.out, HF7.out⟩
  · rw [← HR.out, HL.out]
  · rw [← HR.out]; exact HR7.out
set_option maxHeartbeats 4000000 in
set_option maxRecDepth 100000 in
theorem ndrop_pos (A : Option Addr) (n c : Nat) (l : List ByteArray) (cnt : Int) (t : ByteArray) (w : World) (hn : l.length = n) (hnb : n ≤ 500000) (ha : RdV w A (cellsS l)) (c1 : ¬ cnt < 0) (c2 : cnt ≤ 9223372036854775807) :
    Calls Try.prog 34 #[.slice A n c, .int .i64 cnt, .string t] w (ListN (dropL cnt t l) w) := by
  have HN := Lib.hid hn
  have HA := Lib.hid ha
  have d0 : decide (cnt < 0) = false := by simp; omega
  clear hn ha
  go_enter Try.func34, Try.ntmps34
  go_wp2
  go_loopw [7, 8, 10] (fun lf v i W => ∃ (k d N : Nat) (o : List ByteArray), k ≤ n ∧ i = .int .i64 k ∧ lf = .int .i64 (cnt - d) ∧ d ≤ n ∧ N ≤ n ∧ Hid (o.length = N) ∧ Hid (dropSt cnt t (l.take k) = (o, d)) ∧ Hid (W.ownsRow w.heap.size 9 1 v N (cellsS o)) ∧ Hid (Below w.heap.size w W)) (fun _ _ i _ => n - (intOf i).toNat)
  case atStart => exact ⟨0, 0, 0, [], Nat.zero_le _, rfl, by simp, Nat.zero_le _, Nat.zero_le _, Lib.hid rfl, Lib.hid (by simp [dropSt]), Lib.hid (World.ownsRow_nil _ _ _ _), Lib.hid (Below.refl _ _)⟩
  case round =>
    obtain ⟨k, d, N, o, hk, rfl, rfl, hd, hN, HL, HS, HO, HB⟩ := hrel
    by_cases hlt : k < n
    · obtain ⟨b, off, rfl, hbb, hca⟩ := rdS_at (HA.out.below HB.out) (k := k) (by have := HN.out; omega)
      obtain ⟨x, hx, hxt⟩ := list_at (ls := l) (k := k) (by have := HN.out; omega)
      rw [hx] at hca
      have HS2 := Lib.hid (drop_next HS.out hxt)
      have hle := dropSt_le HS.out
      rw [List.length_take, HL.out] at hle
      have hw := wanted_pos (cnt := cnt) (d := d) (by omega)
      have HW := Lib.hid hw
      clear hx hxt hw
      by_cases e : x = t
      · subst e
        by_cases g1 : (d : Int) < cnt
        · have HS3 := Lib.hid (HS2.out.trans (step_drop (HW.out.2 (.inl (by omega)))))
          clear HS2
          go_wp2
          go_roundw
          case rel => exact ⟨k + 1, d + 1, N, o, by omega, by go_num, by go_num, by omega, hN, HL, HS3, HO, HB⟩
          case measure => simp [intOf]; omega
        · by_cases g2 : cnt = 0
          · have zz : (cnt == 0) = true := by simp [g2]
            have z1 : cnt ≤ (d : Int) := by omega
            have z2 : decide ((d : Int) < cnt) = false := by simp; omega
            have HS3 := Lib.hid (HS2.out.trans (step_drop (HW.out.2 (.inr g2))))
            clear HS2 g2
            go_wp2
            go_roundw
            case rel => first | exact ⟨k + 1, d + 1, N, o, by omega, by go_num, by go_num, by omega, hN, HL, HS3, HO, HB⟩ | exact ⟨_, k + 1, d + 1, N, o, by omega, by go_num, by go_num, by omega, hN, HL, HS3, HO, HB⟩ | exact ⟨_, _, k + 1, d + 1, N, o, by omega, by go_num, by go_num, by omega, hN, HL, HS3, HO, HB⟩ | exact ⟨_, _, _, k + 1, d + 1, N, o, by omega, by go_num, by go_num, by omega, hN, HL, HS3, HO, HB⟩ | trace_state
            case measure => simp [intOf]; omega
          · have zz : (cnt == 0) = false := by simp [g2]
            have z1 : cnt ≤ (d : Int) := by omega
            have z2 : decide ((d : Int) < cnt) = false := by simp; omega
            have HS3 := Lib.hid (HS2.out.trans (step_stay (.inr (fun h => (HW.out.1 h).elim (by omega) g2))))
            clear HS2
            go_wp2_with (at_builtin; refine wpList_strs rfl (.tmp 63) (.tmp 68) rfl w.heap.size u8 o N HL.out rfl (own_below HO.out (below_new wr _)) (some ⟨wr.heap.size, 0, none⟩) 1 1 [x] rfl rfl (new_rdS wr [x]) (fun h => by cases h) (Nat.le_refl _) (by omega) (Nat.le_trans HB.out.size (by simp)) ?_; intro v7 w7 ho7 hb7 hs7; have HB7 := Lib.hid (HB.out.trans (((below_new wr _).mono HB.out.size).trans hb7)); have HO7 := Lib.hid ho7; clear ho7 hb7 hs7)
            go_roundw
            case rel => exact ⟨k + 1, d, N + 1, o ++ [x], by omega, by go_num, rfl, hd, by omega, Lib.hid (by rw [List.length_append, HL.out]; rfl), HS3, HO7, HB7⟩
            case measure => simp [intOf]; omega
      · have HS3 := Lib.hid (HS2.out.trans (step_stay (.inl e)))
        have e2 := bytes_ne e
        clear e
        clear HS2
        go_wp2_with (at_builtin; refine wpList_strs rfl (.tmp 63) (.tmp 68) rfl w.heap.size u8 o N HL.out rfl (own_below HO.out (below_new wr _)) (some ⟨wr.heap.size, 0, none⟩) 1 1 [x] rfl rfl (new_rdS wr [x]) (fun h => by cases h) (Nat.le_refl _) (by omega) (Nat.le_trans HB.out.size (by simp)) ?_; intro v7 w7 ho7 hb7 hs7; have HB7 := Lib.hid (HB.out.trans (((below_new wr _).mono HB.out.size).trans hb7)); have HO7 := Lib.hid ho7; clear ho7 hb7 hs7)
        go_roundw
        case rel => exact ⟨k + 1, d, N + 1, o ++ [x], by omega, by go_num, rfl, hd, by omega, Lib.hid (by rw [List.length_append, HL.out]; rfl), HS3, HO7, HB7⟩
        case measure => simp [intOf]; omega
    · obtain rfl : k = n := by omega
      have hs := HS.out
      rw [List.take_of_length_le (by have := HN.out; omega)] at hs
      have HD : Hid (dropL cnt t l = o) := Lib.hid (by unfold dropL; rw [if_neg (by omega), hs])
      obtain ⟨A7, c7, hv7, k7, n7, -, hr7⟩ := own_rdV HO.out
      subst hv7
      have HF7 := Lib.hid (own_fresh HO.out)
      have HR7 := Lib.hid hr7
      have HN7 := Lib.hid n7
      clear hs hr7 n7 HS
      go_wp2
      go_ret
      exact ⟨A7, _, c7, rfl, by rw [HD.out]; exact HL.out, by omega, HN7.out, by rw [HD.out]; exact HR7.out, HB.out, HF7.out⟩
set_option maxHeartbeats 4000000 in
set_option maxRecDepth 100000 in
theorem ndrop_neg (A : Option Addr) (n c : Nat) (l : List ByteArray) (cnt : Int) (t : ByteArray) (w : World) (hn : l.length = n) (hnb : n ≤ 500000) (ha : RdV w A (cellsS l)) (c0 : -9223372036854775808 ≤ cnt) (c1 : cnt < 0) :
    Calls Try.prog 34 #[.slice A n c, .int .i64 cnt, .string t] w (ListN (dropL cnt t l) w) := by
  have HN := Lib.hid hn
  have HA := Lib.hid ha
  have d0 : decide (cnt < 0) = true := by simp; omega
  clear hn ha
  go_enter Try.func34, Try.ntmps34
  go_wp2
  go_loopw [7, 8, 9] (fun lf v i W => ∃ (k d N : Nat) (o : List ByteArray) (A' : Option Addr) (c' : Nat), k ≤ n ∧ i = .int .i64 ((k : Int) - 1) ∧ lf = .int .i64 (cnt + d) ∧ v = .slice A' N c' ∧ N ≤ c' ∧ Hid (A' = none → c' = 0) ∧ N + d + k = n ∧ Hid (o.length = N) ∧ Hid (dropSt cnt t (l.drop k).reverse = (o, d)) ∧ Hid (RdV W A' (cellsS o.reverse)) ∧ Hid (∀ ad, A' = some ad → w.heap.size ≤ ad.block) ∧ Hid (Below w.heap.size w W)) (fun _ _ i _ => (intOf i + 1).toNat)
  case atStart => exact ⟨n, 0, 0, [], none, 0, Nat.le_refl _, by go_num, by simp, rfl, Nat.le_refl _, Lib.hid (fun _ => rfl), by omega, Lib.hid rfl, Lib.hid (by rw [List.drop_eq_nil_of_le (by have := HN.out; omega)]; simp [dropSt]), Lib.hid (RdV.nil _ _), Lib.hid (fun ad e => by cases e), Lib.hid (Below.refl _ _)⟩
  case round =>
    obtain ⟨k, d, N, o, A', c', hk, rfl, rfl, rfl, hNc, HA', hsum, HL, HS, HO, HF, HB⟩ := hrel
    rcases k with _ | k
    rotate_left
    · rw [show ((k + 1 : Nat) : Int) - 1 = (k : Int) by omega]
      obtain ⟨b, off, rfl, hbb, hca⟩ := rdS_at (HA.out.below HB.out) (k := k) (by have := HN.out; omega)
      obtain ⟨x, hx, hxt⟩ := drop_at' (ls := l) (k := k) (by have := HN.out; omega)
      rw [hx] at hca
      have HS2 := Lib.hid (drop_back HS.out hxt)
      have hw := wanted_neg (d := d) c1
      have HW := Lib.hid hw
      have hk0 : (0 : Int) ≤ (k : Int) := by omega
      have hk1 : (k : Int) < (n : Int) := by omega
      clear hx hxt hw
      by_cases e : x = t
      · subst e
        by_cases g1 : cnt + (d : Int) < 0
        · have HS3 := Lib.hid (HS2.out.trans (step_drop (HW.out.2 g1)))
          clear HS2
          go_wp2
          go_roundw
          case rel => exact ⟨k, d + 1, N, o, A', c', by omega, by go_num, by go_num, rfl, hNc, HA', by omega, HL, HS3, HO, HF, HB⟩
          case measure => simp [intOf]
        · have HS3 := Lib.hid (HS2.out.trans (step_stay (.inr (fun h => g1 (HW.out.1 h)))))
          have HX : Hid ((o ++ [x]).reverse = [x] ++ o.reverse) := Lib.hid (by simp)
          have HLr : Hid (o.reverse.length = N) := Lib.hid (by simp [HL.out])
          clear HS2
          go_wp2_with (at_builtin; refine wpList_strs rfl (.tmp 37) (.tmp 38) rfl wr.heap.size _ [x] 1 rfl rfl (own_new wr 9 (cellsS [x]) wr.heap.size (Nat.le_refl _) (by simp [cellsS, maxLen]) (by simp [cellsS])) A' N c' o.reverse HLr.out rfl (HO.out.below (below_new wr _)) HA'.out hNc (by omega) (by simp) ?_; intro v7 w7 ho7 hb7 hs7; have HB7 := Lib.hid (HB.out.trans (((below_new wr (.cells (cellsS [x]).toArray 9)).trans (hb7.mono (by simp))).mono HB.out.size)); obtain ⟨A7, c7, hv7, k7, n7, -, hr7⟩ := own_rdV ho7; subst hv7; have HF7 := Lib.hid (show ∀ ad, A7 = some ad → w.heap.size ≤ ad.block from fun ad e => Nat.le_trans HB.out.size (own_fresh ho7 ad e)); have HR7 := Lib.hid hr7; have HN7 := Lib.hid n7; clear ho7 hb7 hs7 hr7 n7)
          go_roundw
          case rel => exact ⟨k, d, N + 1, o ++ [x], A7, c7, by omega, by go_num, rfl, by congr 1; omega, by omega, HN7, by omega, Lib.hid (by rw [List.length_append, HL.out]; rfl), HS3, Lib.hid (by rw [HX.out]; exact HR7.out), HF7, HB7⟩
          case measure => simp [intOf]
      · have HS3 := Lib.hid (HS2.out.trans (step_stay (.inl e)))
        have e2 := bytes_ne e
        clear e
        have HX : Hid ((o ++ [x]).reverse = [x] ++ o.reverse) := Lib.hid (by simp)
        have HLr : Hid (o.reverse.length = N) := Lib.hid (by simp [HL.out])
        clear HS2
        go_wp2_with (at_builtin; refine wpList_strs rfl (.tmp 37) (.tmp 38) rfl wr.heap.size _ [x] 1 rfl rfl (own_new wr 9 (cellsS [x]) wr.heap.size (Nat.le_refl _) (by simp [cellsS, maxLen]) (by simp [cellsS])) A' N c' o.reverse HLr.out rfl (HO.out.below (below_new wr _)) HA'.out hNc (by omega) (by simp) ?_; intro v7 w7 ho7 hb7 hs7; have HB7 := Lib.hid (HB.out.trans (((below_new wr (.cells (cellsS [x]).toArray 9)).trans (hb7.mono (by simp))).mono HB.out.size)); obtain ⟨A7, c7, hv7, k7, n7, -, hr7⟩ := own_rdV ho7; subst hv7; have HF7 := Lib.hid (show ∀ ad, A7 = some ad → w.heap.size ≤ ad.block from fun ad e => Nat.le_trans HB.out.size (own_fresh ho7 ad e)); have HR7 := Lib.hid hr7; have HN7 := Lib.hid n7; clear ho7 hb7 hs7 hr7 n7)
        go_roundw
        case rel => exact ⟨k, d, N + 1, o ++ [x], A7, c7, by omega, by go_num, rfl, by congr 1; omega, by omega, HN7, by omega, Lib.hid (by rw [List.length_append, HL.out]; rfl), HS3, Lib.hid (by rw [HX.out]; exact HR7.out), HF7, HB7⟩
        case measure => simp [intOf]
    · rw [show ((0 : Nat) : Int) - 1 = -1 by rfl]
      have hs := HS.out
      rw [List.drop_zero] at hs
      have HD : Hid (dropL cnt t l = o.reverse) := Lib.hid (by unfold dropL; rw [if_pos c1, hs])
      clear hs HS
      go_wp2
      go_ret
      exact ⟨A', _, c', rfl, by rw [HD.out, List.length_reverse]; exact HL.out, hNc, HA'.out, by rw [HD.out]; exact HO.out, HB.out, HF.out⟩
theorem ndrop_any (A : Option Addr) (n c : Nat) (l : List ByteArray) (cnt : Int) (t : ByteArray) (w : World) (hn : l.length = n) (hnb : n ≤ 500000) (ha : RdV w A (cellsS l)) (c1 : -9223372036854775808 ≤ cnt) (c2 : cnt ≤ 9223372036854775807) :
    Calls Try.prog 34 #[.slice A n c, .int .i64 cnt, .string t] w (ListN (dropL cnt t l) w) := by
  by_cases h : cnt < 0
  · exact ndrop_neg A n c l cnt t w hn hnb ha c1 h
  · exact ndrop_pos A n c l cnt t w hn hnb ha h c2
end Go.Proofs.Ytnnlfhdjakabmaa
