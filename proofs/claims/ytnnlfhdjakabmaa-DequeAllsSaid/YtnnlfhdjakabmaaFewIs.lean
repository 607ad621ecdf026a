/- Whether texts are few; whether a deque has these texts, in all its ways. -/
import Derived.Test.YtnnlfhdjakabmaaAllLaw
namespace Go.Proofs.Ytnnlfhdjakabmaa
open Go Go.RowKit
/-- How many bytes texts have, each with ten ahead. -/
def szT : List ByteArray → Nat
  | [] => 0
  | s :: l => 10 + s.size + szT l
theorem szT_snoc (l : List ByteArray) (s : ByteArray) : szT (l ++ [s]) = szT l + (10 + s.size) := by
  induction l with
  | nil => simp [szT]
  | cons x l ih => simp [szT, ih]; omega
theorem szT_take (l : List ByteArray) (k : Nat) : szT (l.take k) ≤ szT l := by
  induction l generalizing k with
  | nil => simp [szT]
  | cons x l ih =>
    cases k with
    | zero => simp [szT]
    | succ k => have := ih k; simp [szT]; omega
theorem szT_mem {l : List ByteArray} {s : ByteArray} (h : s ∈ l) : 10 + s.size ≤ szT l := by
  induction l with
  | nil => cases h
  | cons x l ih =>
    rcases List.mem_cons.1 h with rfl | h
    · simp [szT] <;> omega
    · have := ih h; simp [szT]; omega
theorem szT_len (l : List ByteArray) : 10 * l.length ≤ szT l := by
  induction l with
  | nil => simp [szT]
  | cons x l ih => simp [szT]; omega
theorem szT_next {ls : List ByteArray} {k m : Nat} {x : ByteArray} (ht : ls.take (k + 1) = ls.take k ++ [x]) (hm : m = szT (ls.take k)) : m + 10 + x.size = szT (ls.take (k + 1)) := by rw [ht, szT_snoc, ← hm]; omega
theorem long_few {ls : List ByteArray} (h : szT ls ≤ 3000) : longB ls = false := longB_no.2 fun s hs => by have := szT_mem hs; omega
set_option maxHeartbeats 1000000 in
theorem few_any (A : Option Addr) (n c : Nat) (ls : List ByteArray) (w : World) (hn : ls.length = n) (bn : n ≤ 9223372036854775807) (hs : ∀ s ∈ ls, s.size ≤ 140737488351232) (ha : RdV w A (cellsS ls)) :
    Calls Try.prog 18 #[.slice A n c] w fun e w' => e = .returned (.bool (decide (szT ls ≤ 3000))) ∧ w' = w := by
  have HN := Lib.hid hn
  have HS := Lib.hid hs
  clear hn hs
  go_enter Try.func18, Try.ntmps18
  go_wp2
  go_loop [3, 4] (fun x i => ∃ k m : Nat, k ≤ n ∧ i = .int .i64 k ∧ x = .int .i64 m ∧ Hid (m = szT (ls.take k)) ∧ m ≤ 140737488370000) (fun _ i => n - (intOf i).toNat)
  case atStart => exact ⟨0, 0, Nat.zero_le _, rfl, rfl, by simp [Hid, szT], by omega⟩
  case round =>
    obtain ⟨k, m, hk, rfl, rfl, HT, hm⟩ := hrel
    by_cases hlt : k < n
    · by_cases hm3 : m ≤ 3000
      · obtain ⟨b, off, rfl, hbb, hca⟩ := rdS_at ha (k := k) (by have := HN.out; omega)
        obtain ⟨x, hx, hxt⟩ := list_at (ls := ls) (k := k) (by have := HN.out; omega)
        have hxs : x.size ≤ 140737488351232 := HS.out x (by rw [← hx]; exact List.getElem_mem _)
        rw [hx] at hca
        have HX := Lib.hid (szT_next hxt HT.out)
        clear hx hxt ha
        go_wp2
        go_round
        case rel => exact ⟨k + 1, m + 10 + x.size, by omega, by go_num, by go_num, HX.out, by omega⟩
        case measure => simp [intOf]; omega
      · have d3 : decide ((m : Int) ≤ 3000) = false := by simp; omega
        go_wp2
        go_ret
        refine ⟨ret_bool ?_, rfl⟩
        have h1 := HT.out
        have h2 := szT_take ls k
        have h3 : ¬ szT ls ≤ 3000 := by omega
        simp [h3]
    · obtain rfl : k = n := by omega
      have h1 := HT.out
      rw [List.take_of_length_le (by have := HN.out; omega)] at h1
      have H1 := Lib.hid h1
      clear h1
      by_cases hm3 : m ≤ 3000
      · go_wp2
        go_ret
        exact ⟨ret_bool (by rw [← H1.out]; simp [hm3]; omega), rfl⟩
      · go_wp2
        go_ret
        exact ⟨ret_bool (by rw [← H1.out]; simp [hm3]; omega), rfl⟩
open Go.Shelf
theorem gone_any (D : Nat) (r : Option Nat) (l : List ByteArray) (w : World) (h : Dq D r l w) : Calls Try.prog 36 #[.pointer (some ⟨D, 0, none⟩)] w (GoneQ l w) :=
  gone_of _ l w (dq_len h) fun W hb => all_any D r l W (h.below hb)
theorem gone_nil (w : World) : Calls Try.prog 36 #[.pointer none] w (GoneQ [] w) := gone_of _ [] w (by simp) fun W _ => all_nil W
set_option maxHeartbeats 1000000 in
theorem is_yes (D : Nat) (r : Option Nat) (l : List ByteArray) (A : Option Addr) (n c : Nat) (w : World) (h : Dq D r l w) (hn : l.length = n) (ha : RdV w A (cellsS l)) :
    Calls Try.prog 22 #[.pointer (some ⟨D, 0, none⟩), .slice A n c] w fun e w' => e = .returned (.bool true) ∧ Below w.heap.size w w' := by
  have hnb := dq_len h
  have HD := Lib.hid h
  have HA := Lib.hid ha
  have HN := Lib.hid hn
  have bn : n ≤ 500000 := by omega
  clear h ha hn
  go_enter Try.func22, Try.ntmps22
  go_wp2_with fail
  refine (gone_any D r l w HD.out).mono ?_
  rintro e w2 ⟨v, rfl, ho, hb⟩
  obtain ⟨A2, c2, rfl, -, -, -, hr⟩ := own_rdV ho
  have HD2 := Lib.hid (HD.out.below hb)
  have HA2 := Lib.hid (HA.out.below hb)
  have HR2 := Lib.hid hr
  have HB2 := Lib.hid hb
  rw [HN.out]
  clear ho hb hr HD HA
  go_wp2_with fail
  refine (one_any A2 A n n c2 c l l w2 HN.out HN.out (by omega) (by omega) HR2.out HA2.out).mono ?_
  rintro e w3 ⟨he, q3, rfl⟩
  rw [eqS_refl] at he
  subst he
  have hb3 := below_any q3 (Below.refl w2.heap.size w2)
  have HD3 := Lib.hid (HD2.out.below hb3)
  have HA3 := Lib.hid (HA2.out.below hb3)
  have HB3 := Lib.hid (HB2.out.trans (hb3.mono HB2.out.size))
  generalize w2.drewN q3 = w3 at *
  clear hb3 HD2 HA2 HR2 HB2
  go_wp2_with fail
  refine (len_any D r l w3 HD3.out).mono ?_
  rintro e w' ⟨rfl, rfl⟩
  rw [HN.out]
  go_wp2_with fail
  refine (range_any D r l 0 (-1) w' HD3.out (by omega) (by omega) (by omega) (by omega)).mono ?_
  rintro e w4 ⟨v4, rfl, ho4, hb4⟩
  rw [rangeL_all] at ho4
  obtain ⟨A4, c4, rfl, -, -, -, hr4⟩ := own_rdV ho4
  have HA4 := Lib.hid (HA3.out.below hb4)
  have HR4 := Lib.hid hr4
  have HB4 := Lib.hid (HB3.out.trans (hb4.mono HB3.out.size))
  rw [HN.out]
  clear ho4 hb4 hr4
  go_wp2_with fail
  refine (one_any A4 A n n c4 c l l w4 HN.out HN.out (by omega) (by omega) HR4.out HA4.out).mono ?_
  rintro e w5 ⟨he, q5, rfl⟩
  rw [eqS_refl] at he
  subst he
  go_wp2
  go_ret
  exact ⟨rfl, below_any q5 HB4.out⟩
/-- A list as it is told: the slice, where it may be read. -/
def ListQ (l : List ByteArray) (w : World) (e : Ending) (w' : World) : Prop := ∃ A n c, e = .returned (.slice A n c) ∧ l.length = n ∧ n ≤ c ∧ (A = none → c = 0) ∧ RdV w' A (cellsS l) ∧ Below w.heap.size w w'
set_option maxHeartbeats 1000000 in
theorem front_list (A B : Option Addr) (n m c d : Nat) (l ls : List ByteArray) (w : World) (hn : l.length = n) (hm : ls.length = m) (hnc : n ≤ c) (hA : A = none → c = 0) (ha : RdV w A (cellsS l)) (hb : RdV w B (cellsS ls)) (hnm : n + m ≤ 500000) :
    Calls Try.prog 23 #[.slice A n c, .slice B m d] w (ListQ (ls.reverse ++ l) w) := by
  have HN := Lib.hid hn
  have HM := Lib.hid hm
  have HA0 := Lib.hid hA
  have HA := Lib.hid ha
  have HBB := Lib.hid hb
  clear hn hm hA ha hb
  go_enter Try.func23, Try.ntmps23
  go_wp2
  go_loopw [5, 6] (fun v i W => ∃ (k : Nat) (A' : Option Addr) (c' : Nat), k ≤ m ∧ i = .int .i64 k ∧ v = .slice A' (n + k) c' ∧ n + k ≤ c' ∧ Hid (A' = none → c' = 0) ∧ Hid (RdV W A' (cellsS ((ls.take k).reverse ++ l))) ∧ Hid (Below w.heap.size w W)) (fun _ i _ => m - (intOf i).toNat)
  case atStart => exact ⟨0, A, c, Nat.zero_le _, rfl, rfl, by omega, HA0, by simpa using HA, Lib.hid (Below.refl _ _)⟩
  case round =>
    obtain ⟨k, A', c', hk, rfl, rfl, hnc', HA1, HR, HB⟩ := hrel
    by_cases hlt : k < m
    · obtain ⟨b, off, rfl, hbb, hca⟩ := rdS_at (HBB.out.below HB.out) (k := k) (by have := HM.out; omega)
      obtain ⟨x, hx, hxt⟩ := list_at (ls := ls) (k := k) (by have := HM.out; omega)
      rw [hx] at hca
      have HX : Hid ((ls.take (k + 1)).reverse ++ l = [x] ++ ((ls.take k).reverse ++ l)) := Lib.hid (by rw [hxt]; simp)
      have HL : Hid (((ls.take k).reverse ++ l).length = n + k) := Lib.hid (by simp; have := HN.out; have := HM.out; omega)
      have hk0 : (0 : Int) ≤ (k : Int) := by omega
      have hk1 : (k : Int) < (m : Int) := by omega
      clear hx hxt
      go_wp2_with (at_builtin; refine wpList_strs rfl (.tmp 18) (.tmp 19) rfl wr.heap.size _ [x] 1 rfl rfl (own_new wr 9 (cellsS [x]) wr.heap.size (Nat.le_refl _) (by simp [cellsS, maxLen]) (by simp [cellsS])) A' (n + k) c' ((ls.take k).reverse ++ l) HL.out rfl (HR.out.below (below_new wr _)) HA1.out hnc' (by omega) (by simp) ?_; intro v7 w7 ho7 hb7 hs7; have HB7 := Lib.hid (HB.out.trans (((below_new wr (.cells (cellsS [x]).toArray 9)).trans (hb7.mono (by simp))).mono HB.out.size)); obtain ⟨A7, c7, hv7, k7, n7, -, hr7⟩ := own_rdV ho7; subst hv7; have HR7 := Lib.hid hr7; have HN7 := Lib.hid n7; clear ho7 hb7 hs7 hr7 n7)
      go_roundw
      case rel => exact ⟨k + 1, A7, c7, by omega, by go_num, by congr 1; omega, by omega, HN7, Lib.hid (by rw [HX.out]; exact HR7.out), HB7⟩
      case measure => simp [intOf]; omega
    · obtain rfl : k = m := by omega
      have HL : Hid ((ls.reverse ++ l).length = n + k) := Lib.hid (by simp; have := HN.out; have := HM.out; omega)
      have HF : Hid (RdV wr A' (cellsS (ls.reverse ++ l))) := Lib.hid (by have h := HR.out; rwa [List.take_of_length_le (by have := HM.out; omega)] at h)
      go_wp2
      go_ret
      exact ⟨A', _, c', rfl, HL.out, hnc', HA1.out, HF.out, HB.out⟩
set_option maxHeartbeats 1000000 in
theorem rrange_any (A : Option Addr) (n c : Nat) (l : List ByteArray) (f u : Int) (w : World) (hn : l.length = n) (hnc : n ≤ c) (hA : A = none → c = 0) (ha : RdV w A (cellsS l)) (hnb : n ≤ 500000) (f1 : -9223372036854775808 ≤ f) (f2 : f ≤ 9223372036854775807) (u1 : -9223372036854775808 ≤ u) (u2 : u ≤ 9223372036854775807) :
    Calls Try.prog 30 #[.slice A n c, .int .i64 f, .int .i64 u] w (ListQ (rangeL l f u) w) := by
  have hsp := spanF_le n f u (by omega)
  obtain ⟨a, haa⟩ : ∃ a : Nat, (a : Int) = (spanF n f u).1 := ⟨(spanF n f u).1.toNat, by omega⟩
  obtain ⟨b, hbb⟩ : ∃ b : Nat, (b : Int) = (spanF n f u).2 := ⟨(spanF n f u).2.toNat, by omega⟩
  have hSP := rspan_any n f u w (by omega) (by omega) f1 f2 u1 u2
  rw [← haa, ← hbb] at hSP
  have HSP := Lib.hid hSP
  have HR : Hid ((l.drop a).take (b - a) = rangeL l f u) := Lib.hid (by unfold rangeL; rw [hn, ← haa, ← hbb]; simp)
  have hab : a ≤ b := by omega
  have hbn : b ≤ n := by omega
  have HL : Hid (((l.drop a).take (b - a)).length = b - a) := Lib.hid (by rw [List.length_take, List.length_drop]; omega)
  have HN := Lib.hid hn
  have HA0 := Lib.hid hA
  have HA := Lib.hid ha
  have HRD : Hid (RdV w (subA A a c) (cellsS ((l.drop a).take (b - a)))) := Lib.hid (by
    have h := (ha.drop a c (by rw [cellsS_len]; omega)).take (b - a)
    rwa [cellsS, ← List.map_drop, ← List.map_take] at h)
  clear hSP hn hA ha haa hbb hsp
  go_enter Try.func30, Try.ntmps30
  go_wp2_with fail
  refine HSP.out.mono ?_
  rintro e w' ⟨rfl, rfl⟩
  go_wp2_with (first
    | (refine wpList_slice_lh rfl (.tmp 18) (.tmp 19) (.tmp 20) 29 9 rfl Try.underlying29 (sz9 _) A n c rfl .i64 .i64 a b rfl rfl hab (by omega) ?_)
    | (at_builtin; refine wpList_strs rfl (.tmp 17) (.tmp 21) rfl w'.heap.size _ [] 0 rfl rfl (own_empty w' 9 w'.heap.size (Nat.le_refl _)) (subA A a c) (b - a) (c - a) ((l.drop a).take (b - a)) HL.out rfl (HRD.out.below (below_new w' _)) (subA_none HA0.out) (by omega) (by omega) (by simp) ?_; intro v7 w7 ho7 hb7 hs7; have HB7 := Lib.hid ((below_new w' (.cells #[] 9)).trans hb7); obtain ⟨A7, c7, hv7, k7, n7, -, hr7⟩ := own_rdV ho7; subst hv7; have HR7 := Lib.hid hr7; have HN7 := Lib.hid n7; clear ho7 hb7 hs7 hr7 n7))
  go_ret
  refine ⟨A7, _, c7, rfl, ?_, by omega, HN7.out, ?_, HB7.out⟩
  · rw [← HR.out, HL.out]
  · rw [← HR.out]; exact HR7.out
end Go.Proofs.Ytnnlfhdjakabmaa
