/- A text's words: the document's Lex, where its word is told. -/
import Derived.Test.YtejicjcdbfjajaaDoorLexA
import Derived.Test.YtejicjcdbfjajaaDoorRwd
namespace Go.Proofs.YtejicjcdbfjajaaDoor
open Go Go.RowKit
structure RL (w W : World) (v : Value) (xs : List Itm) : Prop where
  own : W.ownsRow w.heap.size 31 4 v xs.length (wdsC xs)
  bel : Below w.heap.size w W
theorem RL.below {w W W' : World} {v : Value} {xs : List Itm} (h : RL w W v xs) (hb : Below W.heap.size W W') : RL w W' v xs :=
  ⟨h.own.kept (row := none) ⟨hb.os, hb.tape, hb.output, hb.size, fun k hk _ => hb.block k hk⟩ (by cases v.ownBlock <;> simp), h.bel.trans (hb.mono h.bel.size)⟩
theorem RL.next {w W W' : World} {v v' : Value} {xs : List Itm} {x : Itm} {n : Nat} {ys : List Value} {cs : Array Value} (h : RL w W v xs) (ho : W'.ownsRow w.heap.size 31 4 v' n ys) (hn : n = (xs ++ [x]).length) (hy : ys = wdsC (xs ++ [x])) (hg : (W.alloc (.cells cs 31)).grownBy W' v.ownBlock) : RL w W' v' (xs ++ [x]) := by
  subst hn
  subst hy
  refine ⟨ho, ?_⟩
  exact (h.bel.alloc h.bel.size (.cells cs 31)).grown hg (by simp; have := h.bel.size; omega) (fun k hk => (h.own.lt k hk).1)
set_option maxRecDepth 100000 in
set_option maxHeartbeats 8000000 in
theorem rlex_any (s : ByteArray) (w : World) (hs : s.size ≤ 1048576) : Calls Tryd.prog 11 #[.string s] w fun e w' => Below w.heap.size w w' ∧
    (((∀ x ∈ lexT (bl s), x.o ≠ none) ∧ ∃ v, e = .returned (.tuple #[v, .int .i64 0, .int .i64 0]) ∧ w'.ownsRow w.heap.size 31 4 v (lexT (bl s)).length (wdsC (lexT (bl s)))) ∨
     ∃ (pre : List Itm) (b : Nat), lexT (bl s) = pre ++ [⟨b, none⟩] ∧ e = .returned (.tuple #[.slice none 0 0, .int .i64 (b : Nat), .int .i64 210])) := by
  obtain ⟨i0, hi, hz0, hz1, hz2⟩ : ∃ i, Tryd.prog.info? 31 = some i ∧ i.zero = some (.agg #[.int .i64 0, .string ⟨#[]⟩, .int .i64 0, .int .i64 0]) ∧ i.size = 4 ∧ i.bytes = 40 := info_parts w31_info
  have HLN : (bl s).length = s.size := bl_len s
  have hb0 := bkL_le (l := bl s) (a := 0) (Nat.zero_le _)
  rw [HLN] at hb0
  have HWH := Lib.hid (fun (b : Nat) (W : World) (h : b < s.size) => rword_any s b W hs h)
  have hm : ¬ 1048576 < s.size := by omega
  have HB0 : Hid (Calls Tryd.prog 22 #[.string s, .int .i64 0] w fun e w' => e = .returned (.int .i64 ((bkL (bl s) 0 : Nat) : Int)) ∧ w' = w) := Lib.hid (rblank_any s 0 w (by omega) (by omega))
  go_enter Tryd.func11, Tryd.ntmps11
  go_wp2_with fail
  refine HB0.out.mono ?_
  rintro e w1 ⟨rfl, hw1⟩
  have hw2 := hw1.symm
  subst hw2
  clear HB0
  go_wp2_with fail
  go_loopw [5, 6] (fun v i wr => ∃ (xs : List Itm) (b : Nat), i = .int .i64 b ∧ b ≤ s.size ∧ Hid (lexT (bl s) = xs ++ lexB (bl s) (s.size + 1 - xs.length) b) ∧ xs.length ≤ b ∧ Hid (∀ x ∈ xs, x.o ≠ none) ∧ (∃ A c, v = .slice A xs.length c) ∧ Hid (RL w wr v xs)) (fun _ i _ => s.size + 1 - (intOf i).toNat)
  case atStart => exact ⟨[], bkL (bl s) 0, rfl, hb0.2, Lib.hid (by rw [← HLN]; rfl), Nat.zero_le _, Lib.hid (by intro x hx; cases hx), ⟨none, 0, rfl⟩, Lib.hid ⟨World.ownsRow_nil _ _ _ _, Below.refl _ _⟩⟩
  case round =>
    obtain ⟨xs, b, rfl, hbs, HLX, hxb, HNX, ⟨A, cap, rfl⟩, HRL⟩ := hrel
    by_cases hlt : b < s.size
    · have hdl : decide (b < s.size) = true := decide_eq_true hlt
      have HC := HWH.out b wr hlt
      obtain ⟨F, hF⟩ : ∃ F, s.size + 1 - xs.length = F + 1 := ⟨s.size - xs.length, by omega⟩
      rw [hF] at HLX
      rcases hwr : wordR (bl s) b with _ | ⟨k, t, n', e⟩
      · rw [hwr] at HC
        have HLN2 : Hid (lexT (bl s) = xs ++ [⟨b, none⟩]) := Lib.hid (by rw [HLX.out, lexB_none (by rw [HLN]; exact hlt) hwr])
        have HCH : Hid (Calls Tryd.prog 23 #[.string s, .int .i64 b] wr fun e w' => e = .returned (.tuple #[.agg #[.int .i64 0, .string ⟨#[]⟩, .int .i64 0, .int .i64 0], .int .i64 0]) ∧ Below wr.heap.size wr w') := Lib.hid HC
        clear HC hwr HLX hF hlt
        go_wp2_with fail
        refine HCH.out.mono ?_
        rintro e w2 ⟨rfl, hb2⟩
        have HB2 : Hid (Below w.heap.size w (w2.alloc (.cells #[.int .i64 0, .string ⟨#[]⟩, .int .i64 0, .int .i64 0] 31))) := Lib.hid ((HRL.out.bel.trans (hb2.mono HRL.out.bel.size)).alloc (Nat.le_trans HRL.out.bel.size hb2.size) _)
        clear hb2
        go_wp2_with fail
        go_ret3
        exact ⟨HB2.out, Or.inr ⟨xs, b, HLN2.out, rfl⟩⟩
      · rw [hwr] at HC
        obtain ⟨hbe, hes⟩ := wordR_end hwr (by rw [HLN]; exact hbs)
        rw [HLN] at hes
        have HLN2 : Hid (lexT (bl s) = (xs ++ [⟨b, some (k, t, n', e)⟩]) ++ lexB (bl s) F (bkL (bl s) e)) := Lib.hid (by rw [HLX.out, lexB_some (by rw [HLN]; exact hlt) hwr, List.append_assoc]; rfl)
        have HCH : Hid (Calls Tryd.prog 23 #[.string s, .int .i64 b] wr fun r w' => r = .returned (.tuple #[.agg #[.int .i64 k, .string (ofL t), .int .i64 n', .int .i64 b], .int .i64 e]) ∧ Below wr.heap.size wr w') := Lib.hid HC
        have HBE := bkL_le (l := bl s) (a := e) (by rw [HLN]; exact hes)
        rw [HLN] at HBE
        have hd1 : (e == 0) = false := by simp; omega
        have hd2 : ((e : Int) == 0) = false := by simp; omega
        have HF := Lib.hid hF
        have HES := Lib.hid hes
        have hxl : xs.length ≤ 1048577 := by omega
        clear HC hwr HLX hF hlt
        go_upto_region 9 with (fail)
        refine HCH.out.mono ?_
        rintro r w2 ⟨rfl, hb2⟩
        have HR2 : Hid (RL w (w2.alloc (.cells #[.int .i64 k, .string (ofL t), .int .i64 n', .int .i64 b] 31)) (.slice A xs.length cap) xs) := Lib.hid ((HRL.out.below hb2).below (below_new w2 _))
        have hnw : ((w2.alloc (.cells #[.int .i64 k, .string (ofL t), .int .i64 n', .int .i64 b] 31)).alloc (.cells #[.int .i64 k, .string (ofL t), .int .i64 n', .int .i64 b] 31)).heap[w2.heap.size + 1]? = some (.cells #[.int .i64 k, .string (ofL t), .int .i64 n', .int .i64 b] 31 (0, 0)) := by
          have := heap_alloc_new (w2.alloc (.cells #[.int .i64 k, .string (ofL t), .int .i64 n', .int .i64 b] 31)) (.cells #[.int .i64 k, .string (ofL t), .int .i64 n', .int .i64 b] 31)
          simpa using this
        have HNW := Lib.hid hnw
        have HL9 : Hid (lexT (bl s) = (xs ++ [⟨b, some (k, t, n', e)⟩]) ++ lexB (bl s) (s.size + 1 - (xs ++ [(⟨b, some (k, t, n', e)⟩ : Itm)]).length) (bkL (bl s) e)) := Lib.hid (by
          have h1 : s.size + 1 - (xs ++ [(⟨b, some (k, t, n', e)⟩ : Itm)]).length = F := by rw [List.length_append, List.length_singleton]; have := HF.out; omega
          rw [h1]
          exact HLN2.out)
        have HN9 : Hid (∀ x ∈ xs ++ [(⟨b, some (k, t, n', e)⟩ : Itm)], x.o ≠ none) := Lib.hid (by
          intro x hx
          rcases List.mem_append.1 hx with h | h
          · exact HNX.out x h
          · rw [List.mem_singleton.1 h]; simp)
        have HBS := Lib.hid (show w.heap.size ≤ w2.heap.size from Nat.le_trans HRL.out.bel.size hb2.size)
        have HBK := Lib.hid (fun W => rblank_any s e W HES.out (by omega))
        clear hnw hb2 HCH
        go_wp2_with (at_builtin; refine wpList_append_own _ rfl (.tmp 27) (.tmp 29) 23 rfl w.heap.size 31 i0 _ 4 40 Tryd.underlying23 hi hz0 hz1 hz2 rfl (by decide) (.slice A xs.length cap) xs.length (wdsC xs) rfl (HR2.out.own.alloc _) ⟨w2.heap.size + 1, 0, none⟩ 1 1 [.int .i64 k, .string (ofL t), .int .i64 n', .int .i64 b] rfl rfl (World.news_of_block (cs := #[.int .i64 k, .string (ofL t), .int .i64 n', .int .i64 b]) (t := 31) (fr := (0, 0)) HNW.out) (by simp [Value.oneCell']) (by simp only [maxLen]; omega) (by omega) (by have := HBS.out; simp; omega) ?_; intro v3 w3 ho3 hg3 _; have HN := Lib.hid (RL.next (x := ⟨b, some (k, t, n', e)⟩) HR2.out ho3 (by simp) (by rw [wdsC_snoc]; rfl) hg3); clear ho3 hg3)
        obtain ⟨A3, c3, hv3⟩ := own4_slice HN.out.own
        subst hv3
        go_wp2_with fail
        refine (HBK.out _).mono ?_
        rintro r w5 ⟨rfl, rfl⟩
        go_wp2_with fail
        have HN8 : Hid (RL w w5 (.slice A3 (xs.length + 1) c3) (xs ++ [⟨b, some (k, t, n', e)⟩])) := Lib.hid (by have h := HN.out; rwa [List.length_append, List.length_singleton] at h)
        go_roundw
        case rel => exact ⟨xs ++ [⟨b, some (k, t, n', e)⟩], bkL (bl s) e, rfl, HBE.2, HL9, by simp; omega, HN9, ⟨A3, c3, by simp⟩, HN8⟩
        case measure => simp [intOf]; omega
    · have hdl : decide (b < s.size) = false := decide_eq_false hlt
      have HLN2 : Hid (lexT (bl s) = xs) := Lib.hid (by rw [HLX.out, lexB_end (by rw [HLN]; exact hlt), List.append_nil])
      clear hlt HLX
      go_wp2_with fail
      go_ret3
      exact ⟨HRL.out.bel, Or.inl ⟨by rw [HLN2.out]; exact HNX.out, _, rfl, by rw [HLN2.out]; exact HRL.out.own⟩⟩
end Go.Proofs.YtejicjcdbfjajaaDoor
