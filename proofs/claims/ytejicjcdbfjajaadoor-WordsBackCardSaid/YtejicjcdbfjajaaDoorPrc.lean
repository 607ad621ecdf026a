/- Words as a text are read as they were; and what is read of a text may be. -/
import Derived.Test.YtejicjcdbfjajaaDoorPrb
namespace Go.Proofs.YtejicjcdbfjajaaDoor
open Go Go.RowKit
theorem stop_tlP (r : List Wr) : Stop (tlP r) := by
  cases r with
  | nil => exact Or.inl rfl
  | cons q r => exact Or.inr ⟨_, rfl⟩
theorem blk_prL {ws : List Wr} (h : ∀ p ∈ ws, mayW p = true ∧ p.ok) : blk false (prL ws) = 0 := by
  cases ws with
  | nil => rfl
  | cons p r => exact (word_told (a := 0) (h p (by simp)).1 (h p (by simp)).2 (stop_tlP r)).2.1
theorem prL_long : ∀ {ws : List Wr}, (∀ p ∈ ws, mayW p = true ∧ p.ok) → ws.length ≤ (prL ws).length
  | [], _ => Nat.zero_le _
  | [p], h => by
    have := (word_told (a := 0) (h p (by simp)).1 (h p (by simp)).2 (stop_tlP [])).2.2
    simp only [prL, List.length_append, List.length_cons, List.length_nil]
    omega
  | p :: q :: r, h => by
    have h1 := (word_told (a := 0) (h p (by simp)).1 (h p (by simp)).2 (stop_tlP [])).2.2
    have h2 := prL_long (ws := q :: r) (fun x hx => h x (by simp at hx ⊢; exact Or.inr hx))
    rw [prL, tlP_cons, List.length_append]
    simp only [List.length_cons] at h2 ⊢
    omega
theorem lexB_print (l : List UInt8) : ∀ (ws : List Wr) (f b : Nat), l.drop b = prL ws → b ≤ l.length → (∀ p ∈ ws, mayW p = true ∧ p.ok) → ws.length < f → sameL ((lexB l f b).map wrI) ws = true ∧ ∀ x ∈ lexB l f b, x.o ≠ none
  | [], f, b, hd, _, _, _ => by
    have h1 : ¬ b < l.length := by
      intro h
      have := congrArg List.length hd
      rw [List.length_drop] at this
      simp [prL] at this
      omega
    rw [lexB_end h1]
    exact ⟨rfl, fun x hx => by cases hx⟩
  | p :: r, 0, b, _, _, _, hf => absurd hf (by omega)
  | p :: r, f + 1, b, hd, hb, hm, hf => by
    obtain ⟨h1, h2, h3⟩ := word_told (a := b) (hm p (by simp)).1 (hm p (by simp)).2 (stop_tlP r)
    have hd' : l.drop b = toldW p ++ tlP r := hd
    have hlt : b < l.length := by
      have := congrArg List.length hd'
      rw [List.length_drop, List.length_append] at this
      omega
    have hw : wordR l b = some (p.kind, bl p.text, p.num, b + (toldW p).length) := by
      unfold wordR
      rw [hd', h1]
    obtain ⟨e, he⟩ : ∃ e, b + (toldW p).length = e := ⟨_, rfl⟩
    rw [he] at hw
    have hde : l.drop e = tlP r := by
      rw [← he, ← List.drop_drop, hd', List.drop_left]
    have hle : e ≤ l.length := by
      have := congrArg List.length hd'
      rw [List.length_drop, List.length_append] at this
      omega
    rw [lexB_some hlt hw]
    have key : sameL ((lexB l f (bkL l e)).map wrI) r = true ∧ ∀ x ∈ lexB l f (bkL l e), x.o ≠ none := by
      have hmr : ∀ q ∈ r, mayW q = true ∧ q.ok := fun q hq => hm q (by simp [hq])
      have hfr : r.length < f := by simp at hf; omega
      cases r with
      | nil =>
        have hbk : bkL l e = e := by unfold bkL; rw [hde]; rfl
        rw [hbk]
        exact lexB_print l [] f e hde hle hmr hfr
      | cons q r =>
        have hb0 := blk_prL hmr
        have hbk : bkL l e = e + 1 := by
          unfold bkL
          rw [hde, tlP_cons, blk_white (by decide), hb0]
        rw [hbk]
        refine lexB_print l (q :: r) f (e + 1) ?_ ?_ hmr hfr
        · rw [← List.drop_drop, hde, tlP_cons]
          rfl
        · have := congrArg List.length hde
          rw [List.length_drop, tlP_cons, List.length_cons] at this
          omega
    refine ⟨?_, ?_⟩
    · rw [List.map_cons, sameL, key.1]
      simp [sameW, wrI, ofL_bl]
    · intro x hx
      rcases List.mem_cons.1 hx with rfl | hx
      · simp
      · exact key.2 x hx
/-- Words that may be, as a text, are read as they were. -/
theorem lex_prL {ws : List Wr} (h : ∀ p ∈ ws, mayW p = true ∧ p.ok) : sameL ((lexT (prL ws)).map wrI) ws = true ∧ ∀ x ∈ lexT (prL ws), x.o ≠ none := by
  have h0 : bkL (prL ws) 0 = 0 := by
    unfold bkL
    rw [List.drop_zero, blk_prL h]
  unfold lexT
  rw [h0]
  exact lexB_print _ ws _ 0 (List.drop_zero) (Nat.zero_le _) h (by have := prL_long h; omega)
theorem runF_len {x : List UInt8} : (x.take (runF x)).length = runF x := by
  rw [List.length_take]
  have := runF_le x
  omega
/-- What is read at a place may be. -/
theorem wordX_may {a : Nat} {x : List UInt8} {k : Int} {t : List UInt8} {n : Int} {e : Nat} (h : wordX a x = some (k, t, n, e)) :
    mayW ⟨k, ofL t, n, a⟩ = true ∧ (0 ≤ k ∧ k ≤ 4) ∧ (0 ≤ n ∧ n ≤ 9223372036854775807) ∧ a + t.length ≤ e := by
  cases x with
  | nil => cases h
  | cons c r =>
    by_cases h1 : isL c.toNat = true
    · have hrl := runF_len (x := c :: r)
      have hnm := name_run (u := ofL ((c :: r).take (runF (c :: r)))) (x := c :: r) (y := r) rfl (by rw [bl_ofL]) h1
      have hsz : (ofL ((c :: r).take (runF (c :: r)))).size = runF (c :: r) := by rw [← bl_len, bl_ofL, hrl]
      simp only [wordX, h1, if_true] at h
      split at h
      · rename_i hk
        cases h
        exact ⟨by simp [mayW, hk], by omega, by omega, by omega⟩
      · rename_i hk
        split at h
        · cases h
        · rename_i h64
          cases h
          refine ⟨?_, by omega, by omega, by omega⟩
          rw [hrl] at h64
          have hk' : keyB (ofL (List.take (runF (c :: r)) (c :: r))) = false := by simpa using hk
          rw [hk', hsz] at hnm
          simp [mayW, hnm]
          omega
    by_cases h2 : isD c.toNat = true
    · simp only [wordX, h1, h2, if_true, if_false, Bool.false_eq_true] at h
      split at h
      · cases h
      · rename_i m hm
        cases h
        have := numF_le _ 0 m (by omega) hm
        exact ⟨by simp [mayW, ofL], by omega, by omega, by simp⟩
    by_cases h3 : c.toNat = 39 ∨ c.toNat = 34
    · simp only [wordX, h1, h2, h3, if_true, if_false, Bool.false_eq_true] at h
      split at h
      · cases h
      · rename_i t' n' hq
        cases h
        have := quoT_len c (r.length + 1) r _ _ hq
        exact ⟨by simp [mayW], by omega, by omega, by omega⟩
    · simp only [wordX, h1, h2, h3, if_false, Bool.false_eq_true] at h
      split at h
      · cases h
      · rename_i g hg
        cases h
        have h2 := List.mem_of_find?_eq_some hg
        refine ⟨?_, by omega, by omega, by rw [bl_len]; omega⟩
        simp [mayW, signB, ofL_bl, h2]
theorem lexB_may (l : List UInt8) (hl : l.length ≤ 1048576) : ∀ (f b : Nat), b ≤ l.length → (∀ x ∈ lexB l f b, x.o ≠ none) → (∀ p ∈ (lexB l f b).map wrI, mayW p = true ∧ p.ok) ∧ wgt ((lexB l f b).map wrI) ≤ 26 * (l.length - b)
  | 0, b, _, _ => by simp [lexB, wgt]
  | f + 1, b, hb, hn => by
    by_cases hlt : b < l.length
    · rcases hw : wordR l b with _ | ⟨k, t, n, e⟩
      · rw [lexB_none hlt hw] at hn
        exact absurd rfl (hn ⟨b, none⟩ (by simp))
      · rw [lexB_some hlt hw] at hn ⊢
        obtain ⟨h1, h2⟩ := wordR_end hw hb
        have hbk := bkL_le (l := l) (a := e) h2
        obtain ⟨i1, i2⟩ := lexB_may l hl f (bkL l e) hbk.2 (fun x hx => hn x (by simp [hx]))
        have hm := wordX_may hw
        have hsz : (ofL t).size = t.length := by rw [← bl_len, bl_ofL]
        refine ⟨?_, ?_⟩
        · intro p hp
          rw [List.map_cons] at hp
          rcases List.mem_cons.1 hp with rfl | hp
          · refine ⟨hm.1, ?_⟩
            simp only [wrI, Wr.ok]
            rw [hsz]
            omega
          · exact i1 p hp
        · rw [List.map_cons, wgt_cons]
          simp only [wrI]
          rw [hsz]
          omega
    · rw [lexB_end hlt]
      simp [wgt]
/-- What is read of a text may be, and isn't much. -/
theorem lex_may {l : List UInt8} (hl : l.length ≤ 1048576) (hn : ∀ x ∈ lexT l, x.o ≠ none) : (∀ p ∈ (lexT l).map wrI, mayW p = true ∧ p.ok) ∧ wgt ((lexT l).map wrI) ≤ 26 * l.length := by
  have h0 := bkL_le (l := l) (a := 0) (Nat.zero_le _)
  obtain ⟨h1, h2⟩ := lexB_may l hl (l.length + 1) (bkL l 0) h0.2 hn
  exact ⟨h1, Nat.le_trans h2 (by omega)⟩
end Go.Proofs.YtejicjcdbfjajaaDoor
