/- A text as a word: the document's. -/
import Derived.Test.YtejicjcdbfjajaaDoorQot
namespace Go.Proofs.YtejicjcdbfjajaaDoor
open Go Go.RowKit
/-- What was built so far. -/
structure RQ (w W : World) (v : Value) (l : List UInt8) : Prop where
  own : W.ownsRow w.heap.size 5 1 v l.length (cellsB l)
  bel : Below w.heap.size w W
theorem RQ.next {w W W' : World} {v v' : Value} {l : List UInt8} {m : List UInt8} {cs : Array Value} {n : Nat} {xs : List Value} (h : RQ w W v l) (ho : W'.ownsRow w.heap.size 5 1 v' n xs) (hn : n = (l ++ m).length) (hx : xs = cellsB (l ++ m)) (hg : (W.alloc (.cells cs 5)).grownBy W' v.ownBlock) : RQ w W' v' (l ++ m) := by
  subst hn
  subst hx
  refine ⟨ho, ?_⟩
  exact (h.bel.alloc h.bel.size (.cells cs 5)).grown hg (by simp; have := h.bel.size; omega) (fun k hk => (h.own.lt k hk).1)
theorem digs_cells (c : Nat) (h : c < 256) : cellsB [92, UInt8.ofNat (48 + c / 100), UInt8.ofNat (48 + c / 10 % 10), UInt8.ofNat (48 + c % 10)] = [.int .u8 92, .int .u8 (48 + (c : Int) / 100), .int .u8 (48 + (c : Int) / 10 % 10), .int .u8 (48 + (c : Int) % 10)] := by
  obtain ⟨h1, h2, h3⟩ := dig1 ⟨c, h⟩
  simp only at h1 h2 h3
  simp only [cellsB, cellB, List.map_cons, List.map_nil, h1, h2, h3]
  have e0 : (((92 : UInt8).toNat : Nat) : Int) = 92 := rfl
  have e1 : ((48 + c / 100 : Nat) : Int) = 48 + (c : Int) / 100 := by omega
  have e2 : ((48 + c / 10 % 10 : Nat) : Int) = 48 + (c : Int) / 10 % 10 := by omega
  have e3 : ((48 + c % 10 : Nat) : Int) = 48 + (c : Int) % 10 := by omega
  rw [e0, e1, e2, e3]
set_option maxRecDepth 100000 in
set_option maxHeartbeats 16000000 in
theorem rquote_any (s : ByteArray) (w : World) (hs : s.size ≤ 100000000) : Calls Tryd.prog 18 #[.string s] w fun e w' => e = .returned (.string (ofL (quoL (bl s)))) ∧ Below w.heap.size w w' := by
  obtain ⟨i0, hi, hz0, hz1, hz2⟩ := info_parts u8_info
  have HQ0 : Hid (RQ w (w.alloc (.cells #[.int .u8 39] 5)) (.slice (some ⟨w.heap.size, 0, none⟩) 1 1) (39 :: qtL ((bl s).take 0))) := Lib.hid ⟨own_new w 5 [.int .u8 39] w.heap.size (Nat.le_refl _) (by simp [maxLen]) (by simp), below_new w _⟩
  go_enter Tryd.func18, Tryd.ntmps18
  go_wp2_with fail
  generalize w.alloc (.cells #[.int .u8 39] 5) = w1 at *
  go_loopw [3, 4] (fun v i wr => ∃ k : Nat, k ≤ s.size ∧ i = .int .i64 k ∧ (∃ A c, v = .slice A (39 :: qtL ((bl s).take k)).length c) ∧ Hid (RQ w wr v (39 :: qtL ((bl s).take k)))) (fun _ i _ => s.size - (intOf i).toNat)
  case atStart => exact ⟨0, by omega, by go_num, ⟨_, _, rfl⟩, HQ0⟩
  case round =>
    clear HQ0
    obtain ⟨k, hk, rfl, ⟨A, cap, rfl⟩, HRQ⟩ := hrel
    by_cases hlt : k < s.size
    · have hlen := qtL_len ((bl s).take k)
      rw [List.length_take, bl_len] at hlen
      have HLE : Hid ((39 :: qtL ((bl s).take k)).length ≤ 400000001) := Lib.hid (by rw [List.length_cons]; omega)
      have HTK : Hid (∀ c : UInt8, s[k] = c → (39 :: qtL ((bl s).take (k + 1))) = (39 :: qtL ((bl s).take k)) ++ qtB c) := Lib.hid (fun c hc => by
        have h1 : (bl s).take (k + 1) = (bl s).take k ++ [s[k]] := by
          rw [List.take_succ_eq_append_getElem (by rw [bl_len]; exact hlt)]
          rfl
        rw [h1, qtL_snoc, hc]
        rfl)
      clear hlen
      generalize (39 :: qtL ((bl s).take k)) = acc at *
      obtain ⟨c, hc⟩ : ∃ c, s[k].toNat = c := ⟨_, rfl⟩
      have h256 : c < 256 := by rw [← hc]; exact s[k].toNat_lt
      have HC : Hid (s[k] = UInt8.ofNat c) := Lib.hid (by rw [← hc]; simp)
      have HU : Hid (((UInt8.ofNat c).toNat : Nat) = c) := Lib.hid (by simp; omega)
      have HQB := Lib.hid (HTK.out _ HC.out)
      have hk0 : (0 : Int) ≤ (k : Int) := by omega
      have hks : (k : Int) < (s.size : Int) := by omega
      clear HTK
      by_cases h10 : c = 10
      · subst h10
        have HQF : Hid (qtB (UInt8.ofNat 10) = [92, 110]) := Lib.hid (by decide)
        have HQ2 : Hid (39 :: qtL ((bl s).take (k + 1)) = acc ++ [92, 110]) := Lib.hid (by rw [HQB.out, HQF.out])
        have HCE : Hid (cellsB acc ++ [.int .u8 92, .int .u8 110] = cellsB (acc ++ [92, 110])) := Lib.hid (by rw [cellsB_app]; all_goals (first | rfl | (congr 1; rfl)))
        clear HQB HQF
        go_wp2_with (at_builtin; refine wpList_append_own _ rfl (.tmp 23) (.tmp 24) 52 rfl w.heap.size 5 i0 _ 1 1 Tryd.underlying52 hi hz0 hz1 hz2 rfl (by omega) (.slice A acc.length cap) acc.length (cellsB acc) rfl (HRQ.out.own.alloc _) ⟨wr.heap.size, 0, none⟩ 2 2 [.int .u8 92, .int .u8 110] rfl rfl (World.news_of_block (cs := #[.int .u8 92, .int .u8 110]) (t := 5) (fr := (0, 0)) (heap_alloc_new wr _)) (by simp [Value.oneCell']) (by have := HLE.out; simp only [maxLen]; omega) (by have := HLE.out; omega) (by have := HRQ.out.bel.size; simp; omega) ?_; intro v3 w3 ho3 hg3 _; have HN := Lib.hid (RQ.next (m := [92, 110]) HRQ.out ho3 (by simp [List.length_append]) (HCE.out) hg3); clear ho3 hg3)
        obtain ⟨A3, c3, hv3, hn3, hc3, hm3, -⟩ := own_rdV HN.out.own
        subst hv3
        have HR3 : Hid (RQ w w3 (.slice A3 (acc ++ [92, 110]).length c3) (39 :: qtL ((bl s).take (k + 1)))) := Lib.hid (by rw [HQ2.out]; exact HN.out)
        go_wp2_with fail
        go_roundw
        case rel => exact ⟨k + 1, by omega, by go_num, ⟨A3, c3, by rw [HQ2.out]⟩, HR3⟩
        case measure => simp [intOf]; omega
      by_cases h9 : c = 9
      · subst h9
        have HQF : Hid (qtB (UInt8.ofNat 9) = [92, 116]) := Lib.hid (by decide)
        have HQ2 : Hid (39 :: qtL ((bl s).take (k + 1)) = acc ++ [92, 116]) := Lib.hid (by rw [HQB.out, HQF.out])
        have HCE : Hid (cellsB acc ++ [.int .u8 92, .int .u8 116] = cellsB (acc ++ [92, 116])) := Lib.hid (by rw [cellsB_app]; all_goals (first | rfl | (congr 1; rfl)))
        clear HQB HQF
        go_wp2_with (at_builtin; refine wpList_append_own _ rfl (.tmp 29) (.tmp 30) 52 rfl w.heap.size 5 i0 _ 1 1 Tryd.underlying52 hi hz0 hz1 hz2 rfl (by omega) (.slice A acc.length cap) acc.length (cellsB acc) rfl (HRQ.out.own.alloc _) ⟨wr.heap.size, 0, none⟩ 2 2 [.int .u8 92, .int .u8 116] rfl rfl (World.news_of_block (cs := #[.int .u8 92, .int .u8 116]) (t := 5) (fr := (0, 0)) (heap_alloc_new wr _)) (by simp [Value.oneCell']) (by have := HLE.out; simp only [maxLen]; omega) (by have := HLE.out; omega) (by have := HRQ.out.bel.size; simp; omega) ?_; intro v3 w3 ho3 hg3 _; have HN := Lib.hid (RQ.next (m := [92, 116]) HRQ.out ho3 (by simp [List.length_append]) (HCE.out) hg3); clear ho3 hg3)
        obtain ⟨A3, c3, hv3, hn3, hc3, hm3, -⟩ := own_rdV HN.out.own
        subst hv3
        have HR3 : Hid (RQ w w3 (.slice A3 (acc ++ [92, 116]).length c3) (39 :: qtL ((bl s).take (k + 1)))) := Lib.hid (by rw [HQ2.out]; exact HN.out)
        go_wp2_with fail
        go_roundw
        case rel => exact ⟨k + 1, by omega, by go_num, ⟨A3, c3, by rw [HQ2.out]⟩, HR3⟩
        case measure => simp [intOf]; omega
      by_cases h13 : c = 13
      · subst h13
        have HQF : Hid (qtB (UInt8.ofNat 13) = [92, 114]) := Lib.hid (by decide)
        have HQ2 : Hid (39 :: qtL ((bl s).take (k + 1)) = acc ++ [92, 114]) := Lib.hid (by rw [HQB.out, HQF.out])
        have HCE : Hid (cellsB acc ++ [.int .u8 92, .int .u8 114] = cellsB (acc ++ [92, 114])) := Lib.hid (by rw [cellsB_app]; all_goals (first | rfl | (congr 1; rfl)))
        clear HQB HQF
        go_wp2_with (at_builtin; refine wpList_append_own _ rfl (.tmp 35) (.tmp 36) 52 rfl w.heap.size 5 i0 _ 1 1 Tryd.underlying52 hi hz0 hz1 hz2 rfl (by omega) (.slice A acc.length cap) acc.length (cellsB acc) rfl (HRQ.out.own.alloc _) ⟨wr.heap.size, 0, none⟩ 2 2 [.int .u8 92, .int .u8 114] rfl rfl (World.news_of_block (cs := #[.int .u8 92, .int .u8 114]) (t := 5) (fr := (0, 0)) (heap_alloc_new wr _)) (by simp [Value.oneCell']) (by have := HLE.out; simp only [maxLen]; omega) (by have := HLE.out; omega) (by have := HRQ.out.bel.size; simp; omega) ?_; intro v3 w3 ho3 hg3 _; have HN := Lib.hid (RQ.next (m := [92, 114]) HRQ.out ho3 (by simp [List.length_append]) (HCE.out) hg3); clear ho3 hg3)
        obtain ⟨A3, c3, hv3, hn3, hc3, hm3, -⟩ := own_rdV HN.out.own
        subst hv3
        have HR3 : Hid (RQ w w3 (.slice A3 (acc ++ [92, 114]).length c3) (39 :: qtL ((bl s).take (k + 1)))) := Lib.hid (by rw [HQ2.out]; exact HN.out)
        go_wp2_with fail
        go_roundw
        case rel => exact ⟨k + 1, by omega, by go_num, ⟨A3, c3, by rw [HQ2.out]⟩, HR3⟩
        case measure => simp [intOf]; omega
      by_cases h39 : c = 39
      · subst h39
        have HQF : Hid (qtB (UInt8.ofNat 39) = [92, 39]) := Lib.hid (by decide)
        have HQ2 : Hid (39 :: qtL ((bl s).take (k + 1)) = acc ++ [92, 39]) := Lib.hid (by rw [HQB.out, HQF.out])
        have HCE : Hid (cellsB acc ++ [.int .u8 92, .int .u8 39] = cellsB (acc ++ [92, 39])) := Lib.hid (by rw [cellsB_app]; all_goals (first | rfl | (congr 1; rfl)))
        clear HQB HQF
        go_wp2_with (at_builtin; refine wpList_append_own _ rfl (.tmp 45) (.tmp 47) 52 rfl w.heap.size 5 i0 _ 1 1 Tryd.underlying52 hi hz0 hz1 hz2 rfl (by omega) (.slice A acc.length cap) acc.length (cellsB acc) rfl (HRQ.out.own.alloc _) ⟨wr.heap.size, 0, none⟩ 2 2 [.int .u8 92, .int .u8 39] rfl rfl (World.news_of_block (cs := #[.int .u8 92, .int .u8 39]) (t := 5) (fr := (0, 0)) (heap_alloc_new wr _)) (by simp [Value.oneCell']) (by have := HLE.out; simp only [maxLen]; omega) (by have := HLE.out; omega) (by have := HRQ.out.bel.size; simp; omega) ?_; intro v3 w3 ho3 hg3 _; have HN := Lib.hid (RQ.next (m := [92, 39]) HRQ.out ho3 (by simp [List.length_append]) (HCE.out) hg3); clear ho3 hg3)
        obtain ⟨A3, c3, hv3, hn3, hc3, hm3, -⟩ := own_rdV HN.out.own
        subst hv3
        have HR3 : Hid (RQ w w3 (.slice A3 (acc ++ [92, 39]).length c3) (39 :: qtL ((bl s).take (k + 1)))) := Lib.hid (by rw [HQ2.out]; exact HN.out)
        go_wp2_with fail
        go_roundw
        case rel => exact ⟨k + 1, by omega, by go_num, ⟨A3, c3, by rw [HQ2.out]⟩, HR3⟩
        case measure => simp [intOf]; omega
      by_cases h92 : c = 92
      · subst h92
        have HQF : Hid (qtB (UInt8.ofNat 92) = [92, 92]) := Lib.hid (by decide)
        have HQ2 : Hid (39 :: qtL ((bl s).take (k + 1)) = acc ++ [92, 92]) := Lib.hid (by rw [HQB.out, HQF.out])
        have HCE : Hid (cellsB acc ++ [.int .u8 92, .int .u8 92] = cellsB (acc ++ [92, 92])) := Lib.hid (by rw [cellsB_app]; all_goals (first | rfl | (congr 1; rfl)))
        clear HQB HQF
        go_wp2_with (at_builtin; refine wpList_append_own _ rfl (.tmp 45) (.tmp 47) 52 rfl w.heap.size 5 i0 _ 1 1 Tryd.underlying52 hi hz0 hz1 hz2 rfl (by omega) (.slice A acc.length cap) acc.length (cellsB acc) rfl (HRQ.out.own.alloc _) ⟨wr.heap.size, 0, none⟩ 2 2 [.int .u8 92, .int .u8 92] rfl rfl (World.news_of_block (cs := #[.int .u8 92, .int .u8 92]) (t := 5) (fr := (0, 0)) (heap_alloc_new wr _)) (by simp [Value.oneCell']) (by have := HLE.out; simp only [maxLen]; omega) (by have := HLE.out; omega) (by have := HRQ.out.bel.size; simp; omega) ?_; intro v3 w3 ho3 hg3 _; have HN := Lib.hid (RQ.next (m := [92, 92]) HRQ.out ho3 (by simp [List.length_append]) (HCE.out) hg3); clear ho3 hg3)
        obtain ⟨A3, c3, hv3, hn3, hc3, hm3, -⟩ := own_rdV HN.out.own
        subst hv3
        have HR3 : Hid (RQ w w3 (.slice A3 (acc ++ [92, 92]).length c3) (39 :: qtL ((bl s).take (k + 1)))) := Lib.hid (by rw [HQ2.out]; exact HN.out)
        go_wp2_with fail
        go_roundw
        case rel => exact ⟨k + 1, by omega, by go_num, ⟨A3, c3, by rw [HQ2.out]⟩, HR3⟩
        case measure => simp [intOf]; omega
      by_cases hp : 32 ≤ c ∧ c ≤ 126
      · have n10 : ((c : Int) == 10) = false := by simp; omega
        have m10 : (c == 10) = false := by simp; omega
        have n9 : ((c : Int) == 9) = false := by simp; omega
        have m9 : (c == 9) = false := by simp; omega
        have n13 : ((c : Int) == 13) = false := by simp; omega
        have m13 : (c == 13) = false := by simp; omega
        have n39 : ((c : Int) == 39) = false := by simp; omega
        have m39 : (c == 39) = false := by simp; omega
        have n92 : ((c : Int) == 92) = false := by simp; omega
        have m92 : (c == 92) = false := by simp; omega
        have l32 : decide ((c : Int) < 32) = false := decide_eq_false (by omega)
        have k32 : decide (c < 32) = false := decide_eq_false (by omega)
        have l126 : decide ((126 : Int) < (c : Int)) = false := decide_eq_false (by omega)
        have k126 : decide (126 < c) = false := decide_eq_false (by omega)
        have HQF : Hid (qtB (UInt8.ofNat c) = [UInt8.ofNat c]) := Lib.hid (by rw [qtB, HU.out, if_neg (by omega), if_pos (by omega)])
        have HQ2 : Hid (39 :: qtL ((bl s).take (k + 1)) = acc ++ [UInt8.ofNat c]) := Lib.hid (by rw [HQB.out, HQF.out])
        have HCE : Hid (cellsB acc ++ [.int .u8 c] = cellsB (acc ++ [UInt8.ofNat c])) := Lib.hid (by rw [cellsB_app]; all_goals (first | rfl | (congr 1; simp only [cellsB, cellB, List.map_cons, List.map_nil, HU.out])))
        clear HQB HQF
        go_wp2_with (at_builtin; refine wpList_append_own _ rfl (.tmp 16) (.tmp 18) 52 rfl w.heap.size 5 i0 _ 1 1 Tryd.underlying52 hi hz0 hz1 hz2 rfl (by omega) (.slice A acc.length cap) acc.length (cellsB acc) rfl (HRQ.out.own.alloc _) ⟨wr.heap.size, 0, none⟩ 1 1 [.int .u8 c] rfl rfl (World.news_of_block (cs := #[.int .u8 c]) (t := 5) (fr := (0, 0)) (heap_alloc_new wr _)) (by simp [Value.oneCell']) (by have := HLE.out; simp only [maxLen]; omega) (by have := HLE.out; omega) (by have := HRQ.out.bel.size; simp; omega) ?_; intro v3 w3 ho3 hg3 _; have HN := Lib.hid (RQ.next (m := [UInt8.ofNat c]) HRQ.out ho3 (by simp [List.length_append]) (HCE.out) hg3); clear ho3 hg3)
        obtain ⟨A3, c3, hv3, hn3, hc3, hm3, -⟩ := own_rdV HN.out.own
        subst hv3
        have HR3 : Hid (RQ w w3 (.slice A3 (acc ++ [UInt8.ofNat c]).length c3) (39 :: qtL ((bl s).take (k + 1)))) := Lib.hid (by rw [HQ2.out]; exact HN.out)
        go_wp2_with fail
        go_roundw
        case rel => exact ⟨k + 1, by omega, by go_num, ⟨A3, c3, by rw [HQ2.out]⟩, HR3⟩
        case measure => simp [intOf]; omega
      have n10 : ((c : Int) == 10) = false := by simp; omega
      have m10 : (c == 10) = false := by simp; omega
      have n9 : ((c : Int) == 9) = false := by simp; omega
      have m9 : (c == 9) = false := by simp; omega
      have n13 : ((c : Int) == 13) = false := by simp; omega
      have m13 : (c == 13) = false := by simp; omega
      have n39 : ((c : Int) == 39) = false := by simp; omega
      have m39 : (c == 39) = false := by simp; omega
      have n92 : ((c : Int) == 92) = false := by simp; omega
      have m92 : (c == 92) = false := by simp; omega
      by_cases h32 : c < 32
      · have l32 : decide ((c : Int) < 32) = true := decide_eq_true (by omega)
        have k32 : decide (c < 32) = true := decide_eq_true (by omega)
        have HQF : Hid (qtB (UInt8.ofNat c) = [92, UInt8.ofNat (48 + c / 100), UInt8.ofNat (48 + c / 10 % 10), UInt8.ofNat (48 + c % 10)]) := Lib.hid (by rw [qtB, HU.out, if_neg (by omega), if_neg (by omega), if_neg (by omega), if_neg (by omega), if_neg (by omega)])
        have HQ2 : Hid (39 :: qtL ((bl s).take (k + 1)) = acc ++ [92, UInt8.ofNat (48 + c / 100), UInt8.ofNat (48 + c / 10 % 10), UInt8.ofNat (48 + c % 10)]) := Lib.hid (by rw [HQB.out, HQF.out])
        have HCE : Hid (cellsB acc ++ [.int .u8 92, .int .u8 (48 + (c : Int) / 100), .int .u8 (48 + (c : Int) / 10 % 10), .int .u8 (48 + (c : Int) % 10)] = cellsB (acc ++ [92, UInt8.ofNat (48 + c / 100), UInt8.ofNat (48 + c / 10 % 10), UInt8.ofNat (48 + c % 10)])) := Lib.hid (by rw [cellsB_app]; all_goals (first | rfl | (congr 1; exact (digs_cells c h256).symm)))
        clear HQB HQF
        go_wp2_with (at_builtin; refine wpList_append_own _ rfl (.tmp 56) (.tmp 67) 52 rfl w.heap.size 5 i0 _ 1 1 Tryd.underlying52 hi hz0 hz1 hz2 rfl (by omega) (.slice A acc.length cap) acc.length (cellsB acc) rfl (HRQ.out.own.alloc _) ⟨wr.heap.size, 0, none⟩ 4 4 [.int .u8 92, .int .u8 (48 + (c : Int) / 100), .int .u8 (48 + (c : Int) / 10 % 10), .int .u8 (48 + (c : Int) % 10)] rfl rfl (World.news_of_block (cs := #[.int .u8 92, .int .u8 (48 + (c : Int) / 100), .int .u8 (48 + (c : Int) / 10 % 10), .int .u8 (48 + (c : Int) % 10)]) (t := 5) (fr := (0, 0)) (heap_alloc_new wr _)) (by simp [Value.oneCell']) (by have := HLE.out; simp only [maxLen]; omega) (by have := HLE.out; omega) (by have := HRQ.out.bel.size; simp; omega) ?_; intro v3 w3 ho3 hg3 _; have HN := Lib.hid (RQ.next (m := [92, UInt8.ofNat (48 + c / 100), UInt8.ofNat (48 + c / 10 % 10), UInt8.ofNat (48 + c % 10)]) HRQ.out ho3 (by simp [List.length_append]) (HCE.out) hg3); clear ho3 hg3)
        obtain ⟨A3, c3, hv3, hn3, hc3, hm3, -⟩ := own_rdV HN.out.own
        subst hv3
        have HR3 : Hid (RQ w w3 (.slice A3 (acc ++ [92, UInt8.ofNat (48 + c / 100), UInt8.ofNat (48 + c / 10 % 10), UInt8.ofNat (48 + c % 10)]).length c3) (39 :: qtL ((bl s).take (k + 1)))) := Lib.hid (by rw [HQ2.out]; exact HN.out)
        go_wp2_with fail
        go_roundw
        case rel => exact ⟨k + 1, by omega, by go_num, ⟨A3, c3, by rw [HQ2.out]⟩, HR3⟩
        case measure => simp [intOf]; omega
      · have l32 : decide ((c : Int) < 32) = false := decide_eq_false (by omega)
        have k32 : decide (c < 32) = false := decide_eq_false (by omega)
        have l126 : decide ((126 : Int) < (c : Int)) = true := decide_eq_true (by omega)
        have k126 : decide (126 < c) = true := decide_eq_true (by omega)
        have HQF : Hid (qtB (UInt8.ofNat c) = [92, UInt8.ofNat (48 + c / 100), UInt8.ofNat (48 + c / 10 % 10), UInt8.ofNat (48 + c % 10)]) := Lib.hid (by rw [qtB, HU.out, if_neg (by omega), if_neg (by omega), if_neg (by omega), if_neg (by omega), if_neg (by omega)])
        have HQ2 : Hid (39 :: qtL ((bl s).take (k + 1)) = acc ++ [92, UInt8.ofNat (48 + c / 100), UInt8.ofNat (48 + c / 10 % 10), UInt8.ofNat (48 + c % 10)]) := Lib.hid (by rw [HQB.out, HQF.out])
        have HCE : Hid (cellsB acc ++ [.int .u8 92, .int .u8 (48 + (c : Int) / 100), .int .u8 (48 + (c : Int) / 10 % 10), .int .u8 (48 + (c : Int) % 10)] = cellsB (acc ++ [92, UInt8.ofNat (48 + c / 100), UInt8.ofNat (48 + c / 10 % 10), UInt8.ofNat (48 + c % 10)])) := Lib.hid (by rw [cellsB_app]; all_goals (first | rfl | (congr 1; exact (digs_cells c h256).symm)))
        clear HQB HQF
        go_wp2_with (at_builtin; refine wpList_append_own _ rfl (.tmp 56) (.tmp 67) 52 rfl w.heap.size 5 i0 _ 1 1 Tryd.underlying52 hi hz0 hz1 hz2 rfl (by omega) (.slice A acc.length cap) acc.length (cellsB acc) rfl (HRQ.out.own.alloc _) ⟨wr.heap.size, 0, none⟩ 4 4 [.int .u8 92, .int .u8 (48 + (c : Int) / 100), .int .u8 (48 + (c : Int) / 10 % 10), .int .u8 (48 + (c : Int) % 10)] rfl rfl (World.news_of_block (cs := #[.int .u8 92, .int .u8 (48 + (c : Int) / 100), .int .u8 (48 + (c : Int) / 10 % 10), .int .u8 (48 + (c : Int) % 10)]) (t := 5) (fr := (0, 0)) (heap_alloc_new wr _)) (by simp [Value.oneCell']) (by have := HLE.out; simp only [maxLen]; omega) (by have := HLE.out; omega) (by have := HRQ.out.bel.size; simp; omega) ?_; intro v3 w3 ho3 hg3 _; have HN := Lib.hid (RQ.next (m := [92, UInt8.ofNat (48 + c / 100), UInt8.ofNat (48 + c / 10 % 10), UInt8.ofNat (48 + c % 10)]) HRQ.out ho3 (by simp [List.length_append]) (HCE.out) hg3); clear ho3 hg3)
        obtain ⟨A3, c3, hv3, hn3, hc3, hm3, -⟩ := own_rdV HN.out.own
        subst hv3
        have HR3 : Hid (RQ w w3 (.slice A3 (acc ++ [92, UInt8.ofNat (48 + c / 100), UInt8.ofNat (48 + c / 10 % 10), UInt8.ofNat (48 + c % 10)]).length c3) (39 :: qtL ((bl s).take (k + 1)))) := Lib.hid (by rw [HQ2.out]; exact HN.out)
        go_wp2_with fail
        go_roundw
        case rel => exact ⟨k + 1, by omega, by go_num, ⟨A3, c3, by rw [HQ2.out]⟩, HR3⟩
        case measure => simp [intOf]; omega
    · obtain rfl : k = s.size := by omega
      have hlen := qtL_len ((bl s).take s.size)
      rw [List.length_take, bl_len] at hlen
      have HLE : Hid ((39 :: qtL ((bl s).take s.size)).length ≤ 400000001) := Lib.hid (by rw [List.length_cons]; omega)
      have HZ : Hid ((39 :: qtL ((bl s).take s.size)) ++ [39] = quoL (bl s)) := Lib.hid (by rw [List.take_of_length_le (by rw [bl_len]; omega)]; rfl)
      clear hlen
      generalize (39 :: qtL ((bl s).take s.size)) = acc at *
      have HCE : Hid (cellsB acc ++ [.int .u8 39] = cellsB (acc ++ [39])) := Lib.hid (by rw [cellsB_app]; rfl)
      go_wp2_with (at_builtin; refine wpList_append_own _ rfl (.tmp 69) (.tmp 70) 52 rfl w.heap.size 5 i0 _ 1 1 Tryd.underlying52 hi hz0 hz1 hz2 rfl (by omega) (.slice A acc.length cap) acc.length (cellsB acc) rfl (HRQ.out.own.alloc _) ⟨wr.heap.size, 0, none⟩ 1 1 [.int .u8 39] rfl rfl (World.news_of_block (cs := #[.int .u8 39]) (t := 5) (fr := (0, 0)) (heap_alloc_new wr _)) (by simp [Value.oneCell']) (by have := HLE.out; simp only [maxLen]; omega) (by have := HLE.out; omega) (by have := HRQ.out.bel.size; simp; omega) ?_; intro v3 w3 ho3 hg3 _; have HN := Lib.hid (RQ.next (m := [39]) HRQ.out ho3 (by simp [List.length_append]) (HCE.out) hg3); clear ho3 hg3; obtain ⟨A3, c3, hv3, hn3, hc3, hm3, hr3⟩ := own_rdV HN.out.own; subst hv3; have hconv := conv_rd hc3 hn3 hr3.rd; rw [List.length_append, List.length_singleton] at hconv; clear hr3)
      go_ret
      exact ⟨by rw [← HZ.out]; rfl, HN.out.bel⟩
end Go.Proofs.YtejicjcdbfjajaaDoor
