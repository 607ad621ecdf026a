/- Texts taken away. -/
import Derived.Test.YtnnlfhdjakabmaaRev
import Derived.Test.YtnnlfhdjakabmaaDropL
import Derived.Test.YtnnlfhdjakabmaaAtPut
namespace Go.Proofs.Ytnnlfhdjakabmaa
open Go Go.RowKit
open Go.Shelf
def DropQ (D : Nat) (l' : List ByteArray) (m : Nat) (w : World) (e : Ending) (w' : World) : Prop := e = .returned (.int .i64 m) ∧ ∃ r', Dq D r' l' w' ∧ Keeps D none w w' ∧ ∀ k, r' = some k → w.heap.size ≤ k
theorem number_pos (k : Int) (w : World) : Calls Try.prog 45 #[.int .i64 k] w fun e w' => e = .returned (.int .i64 k) ∧ w' = w := by
  go_enter Try.func45, Try.ntmps45
  go_wp2
  go_ret
  exact ⟨rfl, rfl⟩
theorem number_neg (k n D E : Nat) (w : World) (h0 : w.cell? ⟨E, 0, none⟩ = some (.pointer (some ⟨D, 0, none⟩))) (h3 : w.cell? ⟨D, 3, none⟩ = some (.int .i64 n)) (hk : k < n) (hn : n ≤ 500000) :
    Calls Try.prog 46 #[.int .i64 k, .pointer (some ⟨E, 0, none⟩)] w fun e w' => e = .returned (.int .i64 (n - 1 - k : Nat)) ∧ w' = w := by
  go_enter Try.func46, Try.ntmps46
  go_wp2
  go_ret
  exact ⟨ret_i64 (by omega), rfl⟩
theorem wanted_any (d E : Nat) (cnt : Int) (w : World) (h : w.cell? ⟨E, 0, none⟩ = some (.int .i64 cnt)) (c1 : -9223372036854775808 ≤ cnt) (c2 : cnt ≤ 9223372036854775807) (hd : d ≤ 500000) :
    Calls Try.prog 47 #[.int .i64 d, .pointer (some ⟨E, 0, none⟩)] w fun e w' => e = .returned (.bool (wanted cnt d)) ∧ w' = w := by
  by_cases h0 : cnt = 0
  · subst h0
    go_enter Try.func47, Try.ntmps47
    go_wp2
    go_ret
    exact ⟨ret_bool (by simp [wanted]), rfl⟩
  · have e0 : (cnt == 0) = false := by simpa using h0
    by_cases hp : 0 < cnt
    · have hp2 : ¬ cnt < 0 := by omega
      have dp : decide (0 < cnt) = true := by simpa using hp
      have dp2 : decide (cnt < 0) = false := by simpa using hp2
      have HZ := Lib.hid h0
      clear h0
      by_cases hw : (d : Int) < cnt
      · go_enter Try.func47, Try.ntmps47
        go_wp2
        go_ret
        exact ⟨ret_bool (by have := HZ.out; simp [wanted]; omega), rfl⟩
      · go_enter Try.func47, Try.ntmps47
        go_wp2
        go_ret
        exact ⟨ret_bool (by have := HZ.out; simp [wanted]; omega), rfl⟩
    · have hp2 : cnt < 0 := by omega
      have dp : decide (0 < cnt) = false := by simpa using hp
      have dp2 : decide (cnt < 0) = true := by simpa using hp2
      have HZ := Lib.hid h0
      clear h0
      by_cases hw : cnt < -(d : Int)
      · go_enter Try.func47, Try.ntmps47
        go_wp2
        go_ret
        exact ⟨ret_bool (by have := HZ.out; simp [wanted]; omega), rfl⟩
      · go_enter Try.func47, Try.ntmps47
        go_wp2
        go_ret
        exact ⟨ret_bool (by have := HZ.out; simp [wanted]; omega), rfl⟩

set_option maxHeartbeats 4000000 in
theorem drop_pos (D : Nat) (r : Option Nat) (l : List ByteArray) (cnt : Int) (t : ByteArray) (w : World) (h : Dq D r l w) (c1 : -9223372036854775808 ≤ cnt) (c2 : cnt ≤ 9223372036854775807) (hneg : ¬ cnt < 0) :
    Calls Try.prog 33 #[.pointer (some ⟨D, 0, none⟩), .int .i64 cnt, .string t] w (DropQ D (dropL cnt t l) (dropN cnt t l) w) := by
  have hlen := dq_len h
  have HD := Lib.hid h
  have hDw := h.lt.1
  clear h
  obtain ⟨n, hn⟩ : ∃ n, n = l.length := ⟨_, rfl⟩
  have HN := Lib.hid hn
  have hnb : n ≤ 500000 := by omega
  have HTL : Hid ((l).length = n) := Lib.hid (by simp [hn])
  have HFL : Hid ((dropSt cnt t l).1 = dropL cnt t l) := Lib.hid (by unfold dropL; rw [if_neg hneg])
  have HFN : Hid ((dropSt cnt t l).2 = dropN cnt t l) := Lib.hid (by unfold dropN; rw [if_neg hneg])
  have hb1 : Below w.heap.size w ((w.alloc (.cells #[.pointer (some ⟨D, 0, none⟩)] 31)).alloc (.cells #[.int .i64 cnt] 2)) := ((Below.refl _ w).alloc (Nat.le_refl _) _).alloc (by simp) _
  have e0 : ((w.alloc (.cells #[.pointer (some ⟨D, 0, none⟩)] 31)).alloc (.cells #[.int .i64 cnt] 2)).heap[w.heap.size]? = some (.cells #[.pointer (some ⟨D, 0, none⟩)] 31 (0, 0)) := heap_alloc2_old _ _ _
  have e1 : ((w.alloc (.cells #[.pointer (some ⟨D, 0, none⟩)] 31)).alloc (.cells #[.int .i64 cnt] 2)).heap[w.heap.size + 1]? = some (.cells #[.int .i64 cnt] 2 (0, 0)) := heap_alloc2_new _ _ _
  have hs1 : ((w.alloc (.cells #[.pointer (some ⟨D, 0, none⟩)] 31)).alloc (.cells #[.int .i64 cnt] 2)).heap.size = w.heap.size + 2 := by simp
  have HB1 := Lib.hid hb1
  have HE0 := Lib.hid e0
  have HE1 := Lib.hid e1
  have HS1 := Lib.hid hs1
  have hc0 := cell_of_one e0
  have hc1 := cell_of_one e1
  have HD1 := Lib.hid (HD.out.below hb1)
  have HC0 : Hid (((w.alloc (.cells #[.pointer (some ⟨D, 0, none⟩)] 31)).alloc (.cells #[.int .i64 cnt] 2)).cell? ⟨D, 3, none⟩ = some (.int .i64 n)) := Lib.hid (by obtain ⟨v, N, f, ys, -, hi⟩ := HD1.out; rw [hn]; exact hi.c3)
  have hc3 := HC0.out
  have en : ∀ args w, (callFunc 45 args).run Try.prog w = .ok (.enter 45 args) w := enters_of Try.func45 (by kernel_rfl) rfl
  have ew : ∀ args w, (callFunc 47 args).run Try.prog w = .ok (.enter 47 args) w := enters_of Try.func47 (by kernel_rfl) rfl
  clear hb1 e0 e1 hs1 hn
  go_enter Try.func33, Try.ntmps33
  go_wp2_with fail
  generalize (w.alloc (.cells #[.pointer (some ⟨D, 0, none⟩)] 31)).alloc (.cells #[.int .i64 cnt] 2) = w1 at *
  generalize hE : w.heap.size = E at *
  have HEe := Lib.hid hE
  clear hE
  refine (none_any D r l w1 HD1.out).mono ?_
  rintro e w' ⟨rfl, rfl⟩
  go_wp2_with fail
  have HC0' := HC0
  clear hc0 hc1 hc3
  go_loopw [9, 10, 23] (fun v d i W => ∃ (k dn : Nat) (st : List ByteArray), k ≤ n ∧ i = .int .i64 k ∧ d = .int .i64 dn ∧ dn ≤ k ∧ st.length ≤ k ∧ Hid (dropSt cnt t ((l).take k) = (st, dn)) ∧ Hid (W.ownsRow w'.heap.size 9 1 v st.length (cellsS st)) ∧ Hid (Below w'.heap.size w' W)) (fun _ _ i _ => n - (intOf i).toNat)
  case atStart => exact ⟨0, 0, [], Nat.zero_le _, rfl, rfl, Nat.le_refl _, Nat.le_refl _, Lib.hid rfl, Lib.hid (World.ownsRow_nil _ _ _ _), Lib.hid (Below.refl _ _)⟩
  case round =>
    obtain ⟨k, dn, st, hk, rfl, rfl, hdk, hsk, HST, HO, HB⟩ := hrel
    have hDw' : D < w'.heap.size := by have := HS1.out; omega
    have hc0 := (HB.out.cell (p := ⟨E, 0, none⟩) (by have := HS1.out; show E < _; omega)).trans (cell_of_one HE0.out)
    have hc1 := (HB.out.cell (p := ⟨E + 1, 0, none⟩) (by have := HS1.out; show E + 1 < _; omega)).trans (cell_of_one HE1.out)
    have HDw := Lib.hid (HD1.out.below HB.out)
    by_cases hlt : k < n
    · obtain ⟨x, hx, hxt⟩ := list_at (ls := l) (k := k) (by rw [HTL.out]; exact hlt)
      obtain ⟨p, hp⟩ : ∃ p, p = k := ⟨_, rfl⟩
      have hpn : p < l.length := by rw [← HN.out, hp]; omega
      have hpx : l[p] = x := by subst hp; exact hx
      have HSN := Lib.hid (show dropSt cnt t ((l).take (k + 1)) = dropStep cnt t (st, dn) x by rw [hxt, dropSt_snoc, HST.out])
      obtain ⟨v, N, f, ys, -, hi⟩ := HDw.out
      have hN := hi.len
      have hcap := hi.cap
      have hfst := hi.fst
      obtain ⟨g, c, rfl, -, -, -, -, hrow, -⟩ := row_form hi.row (by omega)
      have h1 := hi.c1
      have h2 := hi.c2
      have h3 : wr.cell? ⟨D, 3, none⟩ = some (.int .i64 n) := by rw [HN.out]; exact hi.c3
      obtain ⟨y, hy⟩ : ∃ y, (f + p) % N = y := ⟨_, rfl⟩
      have hyN : y < N := by rw [← hy]; exact md_lt (by omega)
      have hcs := hrow y _ (by have := hi.item p hpn; rwa [hy, hpx] at this)
      have HY := Lib.hid hy
      have hy0 : (0 : Int) ≤ (y : Int) := by omega
      have hy1 : (y : Int) < (N : Int) := by omega
      have hpb : p ≤ 500000 := by omega
      have HPE := Lib.hid hp
      clear hi hrow hy hx hxt hpx hp
      go_wp2_with fail
      go_quiet ((first
        | (go_at_call 45; exact Calls.quiet_of_same ((number_pos k _).mono (fun e w2 h => by rw [← HPE.out] at h; exact h)))
        | (go_at_call 41; exact Calls.quiet_of (slot_x D f p N c y (some ⟨g, 0, none⟩) _ h1 h2 (by omega) (by omega) (by omega) (by omega) HY.out))))
      have HB2 := Lib.hid (below_any nq HB.out)
      have hc1' := (show (wr.drewN nq).cell? ⟨E + 1, 0, none⟩ = _ from hc1)
      have HO2 := Lib.hid (own_below HO.out (below_any nq (Below.refl wr.heap.size wr)))
      generalize wr.drewN nq = w2 at *
      clear h1 h2 h3 hcs hc0 hc1 HB HO
      by_cases hxt : x = t
      · subst hxt
        by_cases hw : wanted cnt dn = true
        · have HST2 := Lib.hid (show dropStep cnt x (st, dn) x = (st, dn + 1) by unfold dropStep; rw [if_pos ⟨rfl, hw⟩])
          have hcall := wanted_any dn (E + 1) cnt w2 hc1' c1 c2 (by omega)
          rw [hw] at hcall
          clear hw
          go_wp2_with fail
          refine hcall.mono ?_
          rintro e w3 ⟨rfl, rfl⟩
          clear hcall hc1'
          go_wp2_with fail
          go_roundw
          case rel => exact ⟨k + 1, dn + 1, st, by omega, by go_num, by go_num, by omega, by omega, Lib.hid (by rw [HSN.out, HST2.out]), HO2, HB2⟩
          case measure => simp [intOf]; omega
        · have hw' : wanted cnt dn = false := by simpa using hw
          have HST2 := Lib.hid (show dropStep cnt x (st, dn) x = (st ++ [x], dn) by unfold dropStep; rw [if_neg (by rintro ⟨-, h⟩; exact hw h)])
          have hcall := wanted_any dn (E + 1) cnt w2 hc1' c1 c2 (by omega)
          rw [hw'] at hcall
          clear hw hw'
          go_wp2_with fail
          refine hcall.mono ?_
          rintro e w3 ⟨rfl, rfl⟩
          clear hcall hc1'
          go_wp2_with (at_builtin; refine wpList_strs rfl (.tmp 47) (.tmp 49) rfl w'.heap.size u9 st st.length rfl rfl (own_below HO2.out (below_new w3 _)) (some ⟨w3.heap.size, 0, none⟩) 1 1 [x] rfl rfl (new_rdS w3 [x]) (fun h => by cases h) (Nat.le_refl _) (by omega) (by have := HB2.out.size; simp; omega) ?_; intro v7 w7 ho7 hb7 hs7; have HB7 := Lib.hid ((HB2.out.trans ((below_new w3 (.cells (cellsS [x]).toArray 9)).mono HB2.out.size)).trans hb7); have HO7 : Hid (w7.ownsRow w'.heap.size 9 1 v7 (st ++ [x]).length (cellsS (st ++ [x]))) := Lib.hid (by rw [List.length_append]; exact ho7); clear ho7 hb7 hs7)
          go_roundw
          case rel => exact ⟨k + 1, dn, st ++ [x], by omega, by go_num, rfl, by omega, by simp; omega, Lib.hid (by rw [HSN.out, HST2.out]), HO7, HB7⟩
          case measure => simp [intOf]; omega
      · have e1 := bytes_ne hxt
        have e2 : (x.toList != t.toList) = true := by simp only [bne, e1, Bool.not_false]
        have HST2 := Lib.hid (show dropStep cnt t (st, dn) x = (st ++ [x], dn) by unfold dropStep; rw [if_neg (by rintro ⟨h, -⟩; exact hxt h)])
        clear hxt hc1'
        have e3 : True := trivial
        go_wp2_with (at_builtin; refine wpList_strs rfl (.tmp 47) (.tmp 49) rfl w'.heap.size u9 st st.length rfl rfl (own_below HO2.out (below_new w2 _)) (some ⟨w2.heap.size, 0, none⟩) 1 1 [x] rfl rfl (new_rdS w2 [x]) (fun h => by cases h) (Nat.le_refl _) (by omega) (by have := HB2.out.size; simp; omega) ?_; intro v7 w7 ho7 hb7 hs7; have HB7 := Lib.hid ((HB2.out.trans ((below_new w2 (.cells (cellsS [x]).toArray 9)).mono HB2.out.size)).trans hb7); have HO7 : Hid (w7.ownsRow w'.heap.size 9 1 v7 (st ++ [x]).length (cellsS (st ++ [x]))) := Lib.hid (by rw [List.length_append]; exact ho7); clear ho7 hb7 hs7)
        go_roundw
        case rel => exact ⟨k + 1, dn, st ++ [x], by omega, by go_num, rfl, by omega, by simp; omega, Lib.hid (by rw [HSN.out, HST2.out]), HO7, HB7⟩
        case measure => simp [intOf]; omega
    · obtain rfl : k = n := by omega
      have hfull : (l).take k = l := List.take_of_length_le (by have := HTL.out; omega)
      have HF1 : Hid (st = (dropSt cnt t (l)).1) := Lib.hid (by have h := HST.out; rw [hfull] at h; rw [h])
      have HF2 : Hid (dn = (dropSt cnt t (l)).2) := Lib.hid (by have h := HST.out; rw [hfull] at h; rw [h])
      have hszw : w'.heap.size = E + 2 := HS1.out
      clear hfull
      go_wp2_with fail
      refine (set_any D w'.heap.size st.length r l st u9 wr HDw.out rfl (by omega) HO.out).mono ?_
      rintro e w3 ⟨rfl, hd, hk⟩
      have HQ : Hid (∃ r', Dq D r' (dropL cnt t l) w3 ∧ Keeps D none w w3 ∧ ∀ j, r' = some j → w.heap.size ≤ j) := Lib.hid ⟨_, by rw [← HFL.out, ← HF1.out]; exact hd, (Keeps.of_below (by rw [HEe.out]; exact HB1.out.trans (HB.out.mono (by omega)))).trans hk (Next.refl _ _), fun j e => by have := (HO.out.lt j e).1; rw [HEe.out]; omega⟩
      have HDN : Hid (dn = dropN cnt t l) := Lib.hid (by rw [HF2.out]; exact HFN.out)
      clear hd hk
      go_wp2
      go_ret
      exact ⟨ret_i64 (by rw [HDN.out]), HQ.out⟩

set_option maxHeartbeats 4000000 in
theorem drop_neg (D : Nat) (r : Option Nat) (l : List ByteArray) (cnt : Int) (t : ByteArray) (w : World) (h : Dq D r l w) (c1 : -9223372036854775808 ≤ cnt) (c2 : cnt ≤ 9223372036854775807) (hneg : cnt < 0) :
    Calls Try.prog 33 #[.pointer (some ⟨D, 0, none⟩), .int .i64 cnt, .string t] w (DropQ D (dropL cnt t l) (dropN cnt t l) w) := by
  have hlen := dq_len h
  have HD := Lib.hid h
  have hDw := h.lt.1
  clear h
  obtain ⟨n, hn⟩ : ∃ n, n = l.length := ⟨_, rfl⟩
  have HN := Lib.hid hn
  have hnb : n ≤ 500000 := by omega
  have HTL : Hid ((l.reverse).length = n) := Lib.hid (by simp [hn])
  have HFL : Hid ((dropSt cnt t l.reverse).1.reverse = dropL cnt t l) := Lib.hid (by unfold dropL; rw [if_pos hneg])
  have HFN : Hid ((dropSt cnt t l.reverse).2 = dropN cnt t l) := Lib.hid (by unfold dropN; rw [if_pos hneg])
  have hb1 : Below w.heap.size w ((w.alloc (.cells #[.pointer (some ⟨D, 0, none⟩)] 31)).alloc (.cells #[.int .i64 cnt] 2)) := ((Below.refl _ w).alloc (Nat.le_refl _) _).alloc (by simp) _
  have e0 : ((w.alloc (.cells #[.pointer (some ⟨D, 0, none⟩)] 31)).alloc (.cells #[.int .i64 cnt] 2)).heap[w.heap.size]? = some (.cells #[.pointer (some ⟨D, 0, none⟩)] 31 (0, 0)) := heap_alloc2_old _ _ _
  have e1 : ((w.alloc (.cells #[.pointer (some ⟨D, 0, none⟩)] 31)).alloc (.cells #[.int .i64 cnt] 2)).heap[w.heap.size + 1]? = some (.cells #[.int .i64 cnt] 2 (0, 0)) := heap_alloc2_new _ _ _
  have hs1 : ((w.alloc (.cells #[.pointer (some ⟨D, 0, none⟩)] 31)).alloc (.cells #[.int .i64 cnt] 2)).heap.size = w.heap.size + 2 := by simp
  have HB1 := Lib.hid hb1
  have HE0 := Lib.hid e0
  have HE1 := Lib.hid e1
  have HS1 := Lib.hid hs1
  have hc0 := cell_of_one e0
  have hc1 := cell_of_one e1
  have HD1 := Lib.hid (HD.out.below hb1)
  have HC0 : Hid (((w.alloc (.cells #[.pointer (some ⟨D, 0, none⟩)] 31)).alloc (.cells #[.int .i64 cnt] 2)).cell? ⟨D, 3, none⟩ = some (.int .i64 n)) := Lib.hid (by obtain ⟨v, N, f, ys, -, hi⟩ := HD1.out; rw [hn]; exact hi.c3)
  have hc3 := HC0.out
  have en : ∀ args w, (callFunc 46 args).run Try.prog w = .ok (.enter 46 args) w := enters_of Try.func46 (by kernel_rfl) rfl
  have ew : ∀ args w, (callFunc 47 args).run Try.prog w = .ok (.enter 47 args) w := enters_of Try.func47 (by kernel_rfl) rfl
  clear hb1 e0 e1 hs1 hn
  go_enter Try.func33, Try.ntmps33
  go_wp2_with fail
  generalize (w.alloc (.cells #[.pointer (some ⟨D, 0, none⟩)] 31)).alloc (.cells #[.int .i64 cnt] 2) = w1 at *
  generalize hE : w.heap.size = E at *
  have HEe := Lib.hid hE
  clear hE
  refine (none_any D r l w1 HD1.out).mono ?_
  rintro e w' ⟨rfl, rfl⟩
  go_wp2_with fail
  have HC0' := HC0
  clear hc0 hc1 hc3
  go_loopw [9, 10, 23] (fun v d i W => ∃ (k dn : Nat) (st : List ByteArray), k ≤ n ∧ i = .int .i64 k ∧ d = .int .i64 dn ∧ dn ≤ k ∧ st.length ≤ k ∧ Hid (dropSt cnt t ((l.reverse).take k) = (st, dn)) ∧ Hid (W.ownsRow w'.heap.size 9 1 v st.length (cellsS st)) ∧ Hid (Below w'.heap.size w' W)) (fun _ _ i _ => n - (intOf i).toNat)
  case atStart => exact ⟨0, 0, [], Nat.zero_le _, rfl, rfl, Nat.le_refl _, Nat.le_refl _, Lib.hid rfl, Lib.hid (World.ownsRow_nil _ _ _ _), Lib.hid (Below.refl _ _)⟩
  case round =>
    obtain ⟨k, dn, st, hk, rfl, rfl, hdk, hsk, HST, HO, HB⟩ := hrel
    have hDw' : D < w'.heap.size := by have := HS1.out; omega
    have hc0 := (HB.out.cell (p := ⟨E, 0, none⟩) (by have := HS1.out; show E < _; omega)).trans (cell_of_one HE0.out)
    have hc1 := (HB.out.cell (p := ⟨E + 1, 0, none⟩) (by have := HS1.out; show E + 1 < _; omega)).trans (cell_of_one HE1.out)
    have HDw := Lib.hid (HD1.out.below HB.out)
    by_cases hlt : k < n
    · obtain ⟨x, hx, hxt⟩ := list_at (ls := l.reverse) (k := k) (by rw [HTL.out]; exact hlt)
      obtain ⟨p, hp⟩ : ∃ p, p = n - 1 - k := ⟨_, rfl⟩
      have hpn : p < l.length := by rw [← HN.out, hp]; omega
      have hpx : l[p] = x := by subst hp; rw [← hx, List.getElem_reverse]; congr 1; have := HN.out; omega
      have HSN := Lib.hid (show dropSt cnt t ((l.reverse).take (k + 1)) = dropStep cnt t (st, dn) x by rw [hxt, dropSt_snoc, HST.out])
      obtain ⟨v, N, f, ys, -, hi⟩ := HDw.out
      have hN := hi.len
      have hcap := hi.cap
      have hfst := hi.fst
      obtain ⟨g, c, rfl, -, -, -, -, hrow, -⟩ := row_form hi.row (by omega)
      have h1 := hi.c1
      have h2 := hi.c2
      have h3 : wr.cell? ⟨D, 3, none⟩ = some (.int .i64 n) := by rw [HN.out]; exact hi.c3
      obtain ⟨y, hy⟩ : ∃ y, (f + p) % N = y := ⟨_, rfl⟩
      have hyN : y < N := by rw [← hy]; exact md_lt (by omega)
      have hcs := hrow y _ (by have := hi.item p hpn; rwa [hy, hpx] at this)
      have HY := Lib.hid hy
      have hy0 : (0 : Int) ≤ (y : Int) := by omega
      have hy1 : (y : Int) < (N : Int) := by omega
      have hpb : p ≤ 500000 := by omega
      have HPE := Lib.hid hp
      clear hi hrow hy hx hxt hpx hp
      go_wp2_with fail
      go_quiet ((first
        | (go_at_call 46; exact Calls.quiet_of_same ((number_neg k n D E (wr.drewN _) hc0 h3 hlt hnb).mono (fun e w2 h => by rw [← HPE.out] at h; exact h)))
        | (go_at_call 41; exact Calls.quiet_of (slot_x D f p N c y (some ⟨g, 0, none⟩) _ h1 h2 (by omega) (by omega) (by omega) (by omega) HY.out))))
      have HB2 := Lib.hid (below_any nq HB.out)
      have hc1' := (show (wr.drewN nq).cell? ⟨E + 1, 0, none⟩ = _ from hc1)
      have HO2 := Lib.hid (own_below HO.out (below_any nq (Below.refl wr.heap.size wr)))
      generalize wr.drewN nq = w2 at *
      clear h1 h2 h3 hcs hc0 hc1 HB HO
      by_cases hxt : x = t
      · subst hxt
        by_cases hw : wanted cnt dn = true
        · have HST2 := Lib.hid (show dropStep cnt x (st, dn) x = (st, dn + 1) by unfold dropStep; rw [if_pos ⟨rfl, hw⟩])
          have hcall := wanted_any dn (E + 1) cnt w2 hc1' c1 c2 (by omega)
          rw [hw] at hcall
          clear hw
          go_wp2_with fail
          refine hcall.mono ?_
          rintro e w3 ⟨rfl, rfl⟩
          clear hcall hc1'
          go_wp2_with fail
          go_roundw
          case rel => exact ⟨k + 1, dn + 1, st, by omega, by go_num, by go_num, by omega, by omega, Lib.hid (by rw [HSN.out, HST2.out]), HO2, HB2⟩
          case measure => simp [intOf]; omega
        · have hw' : wanted cnt dn = false := by simpa using hw
          have HST2 := Lib.hid (show dropStep cnt x (st, dn) x = (st ++ [x], dn) by unfold dropStep; rw [if_neg (by rintro ⟨-, h⟩; exact hw h)])
          have hcall := wanted_any dn (E + 1) cnt w2 hc1' c1 c2 (by omega)
          rw [hw'] at hcall
          clear hw hw'
          go_wp2_with fail
          refine hcall.mono ?_
          rintro e w3 ⟨rfl, rfl⟩
          clear hcall hc1'
          go_wp2_with (at_builtin; refine wpList_strs rfl (.tmp 47) (.tmp 49) rfl w'.heap.size u9 st st.length rfl rfl (own_below HO2.out (below_new w3 _)) (some ⟨w3.heap.size, 0, none⟩) 1 1 [x] rfl rfl (new_rdS w3 [x]) (fun h => by cases h) (Nat.le_refl _) (by omega) (by have := HB2.out.size; simp; omega) ?_; intro v7 w7 ho7 hb7 hs7; have HB7 := Lib.hid ((HB2.out.trans ((below_new w3 (.cells (cellsS [x]).toArray 9)).mono HB2.out.size)).trans hb7); have HO7 : Hid (w7.ownsRow w'.heap.size 9 1 v7 (st ++ [x]).length (cellsS (st ++ [x]))) := Lib.hid (by rw [List.length_append]; exact ho7); clear ho7 hb7 hs7)
          go_roundw
          case rel => exact ⟨k + 1, dn, st ++ [x], by omega, by go_num, rfl, by omega, by simp; omega, Lib.hid (by rw [HSN.out, HST2.out]), HO7, HB7⟩
          case measure => simp [intOf]; omega
      · have e1 := bytes_ne hxt
        have e2 : (x.toList != t.toList) = true := by simp only [bne, e1, Bool.not_false]
        have HST2 := Lib.hid (show dropStep cnt t (st, dn) x = (st ++ [x], dn) by unfold dropStep; rw [if_neg (by rintro ⟨h, -⟩; exact hxt h)])
        clear hxt hc1'
        have e3 : True := trivial
        go_wp2_with (at_builtin; refine wpList_strs rfl (.tmp 47) (.tmp 49) rfl w'.heap.size u9 st st.length rfl rfl (own_below HO2.out (below_new w2 _)) (some ⟨w2.heap.size, 0, none⟩) 1 1 [x] rfl rfl (new_rdS w2 [x]) (fun h => by cases h) (Nat.le_refl _) (by omega) (by have := HB2.out.size; simp; omega) ?_; intro v7 w7 ho7 hb7 hs7; have HB7 := Lib.hid ((HB2.out.trans ((below_new w2 (.cells (cellsS [x]).toArray 9)).mono HB2.out.size)).trans hb7); have HO7 : Hid (w7.ownsRow w'.heap.size 9 1 v7 (st ++ [x]).length (cellsS (st ++ [x]))) := Lib.hid (by rw [List.length_append]; exact ho7); clear ho7 hb7 hs7)
        go_roundw
        case rel => exact ⟨k + 1, dn, st ++ [x], by omega, by go_num, rfl, by omega, by simp; omega, Lib.hid (by rw [HSN.out, HST2.out]), HO7, HB7⟩
        case measure => simp [intOf]; omega
    · obtain rfl : k = n := by omega
      have hfull : (l.reverse).take k = l.reverse := List.take_of_length_le (by have := HTL.out; omega)
      have HF1 : Hid (st = (dropSt cnt t (l.reverse)).1) := Lib.hid (by have h := HST.out; rw [hfull] at h; rw [h])
      have HF2 : Hid (dn = (dropSt cnt t (l.reverse)).2) := Lib.hid (by have h := HST.out; rw [hfull] at h; rw [h])
      have hszw : w'.heap.size = E + 2 := HS1.out
      clear hfull
      go_wp2_with fail
      refine (rev_any w'.heap.size st.length u9 st wr HO.out (by omega)).mono ?_
      rintro e w2 ⟨rfl, ho2, hg2⟩
      have HO2 := Lib.hid ho2
      have HB2 := Lib.hid (HB.out.grown hg2 HB.out.size (fun j e => (HO.out.lt j e).1))
      have HD2 := Lib.hid (HD1.out.below HB2.out)
      have hc0' := (HB2.out.cell (p := ⟨E, 0, none⟩) (by show E < _; omega)).trans (cell_of_one HE0.out)
      clear ho2 hg2 hc0 hc1
      go_wp2_with fail
      refine (set_any D w'.heap.size st.length r l st.reverse u9 w2 HD2.out (by simp) (by omega) HO2.out).mono ?_
      rintro e w3 ⟨rfl, hd, hk⟩
      have HQ : Hid (∃ r', Dq D r' (dropL cnt t l) w3 ∧ Keeps D none w w3 ∧ ∀ j, r' = some j → w.heap.size ≤ j) := Lib.hid ⟨_, by rw [← HFL.out, ← HF1.out]; exact hd, (Keeps.of_below (by rw [HEe.out]; exact HB1.out.trans (HB2.out.mono (by omega)))).trans hk (Next.refl _ _), fun j e => by have := (HO2.out.lt j e).1; rw [HEe.out]; omega⟩
      have HDN : Hid (dn = dropN cnt t l) := Lib.hid (by rw [HF2.out]; exact HFN.out)
      clear hd hk hc0'
      go_wp2
      go_ret
      exact ⟨ret_i64 (by rw [HDN.out]), HQ.out⟩
end Go.Proofs.Ytnnlfhdjakabmaa
