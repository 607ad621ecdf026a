/- The word that begins at a place, whatever it is: the program's. -/
import Derived.Test.YtejicjcdbfjajaaDoorWrdN
import Derived.Test.YtejicjcdbfjajaaDoorWrdQ
import Derived.Test.YtejicjcdbfjajaaDoorWrdS
namespace Go.Proofs.YtejicjcdbfjajaaDoor
open Go Go.RowKit
theorem word_any (S : Nat) (s : ByteArray) (m a : Nat) (w : World) (h : Sou w S s m) (ha : a < s.size) :
    Calls Tryd.prog 44 #[SP S, .int .i64 a] w (WordQ w a (wordR (bl s) a)) := by
  by_cases h1 : isL s[a].toNat = true
  · exact word_let S s m a w h ha h1
  have h1' : isL s[a].toNat = false := by simpa using h1
  by_cases h2 : isD s[a].toNat = true
  · exact word_num S s m a w h ha h1' h2
  have h2' : isD s[a].toNat = false := by simpa using h2
  by_cases h3 : s[a].toNat = 39 ∨ s[a].toNat = 34
  · exact word_quo S s m a w h ha h3
  · exact word_sgn S s m a w h ha h1' h2' h3
theorem runF_pos {c : UInt8} {r : List UInt8} (h : isL c.toNat = true ∨ isD c.toNat = true) : 0 < runF (c :: r) := by
  rw [runF_yes (by unfold okB; rcases h with h | h <;> simp [h])]
  omega
theorem hasPrefix_leW {s p : List UInt8} (h : Lib.hasPrefix s p = true) : p.length ≤ s.length := (List.isPrefixOf_iff_prefix.1 h).length_le
/-- A word ends behind its place, and within the text. -/
theorem wordX_end {a : Nat} {x : List UInt8} {k : Int} {t : List UInt8} {n : Int} {e : Nat} (h : wordX a x = some (k, t, n, e)) : a < e ∧ e ≤ a + x.length := by
  cases x with
  | nil => cases h
  | cons c r =>
    have hrl := runF_le (c :: r)
    by_cases h1 : isL c.toNat = true
    · have := runF_pos (r := r) (Or.inl h1)
      simp only [wordX, h1, if_true] at h
      split at h
      · cases h; exact ⟨by omega, by omega⟩
      · split at h
        · cases h
        · cases h; exact ⟨by omega, by omega⟩
    by_cases h2 : isD c.toNat = true
    · have := runF_pos (r := r) (Or.inr h2)
      simp only [wordX, h1, h2, if_true, if_false, Bool.false_eq_true] at h
      split at h
      · cases h
      · cases h; exact ⟨by omega, by omega⟩
    by_cases h3 : c.toNat = 39 ∨ c.toNat = 34
    · simp only [wordX, h1, h2, h3, if_true, if_false, Bool.false_eq_true] at h
      split at h
      · cases h
      · rename_i t' n' hq
        cases h
        have := quoT_len c (r.length + 1) r _ _ hq
        simp only [List.length_cons]
        omega
    · simp only [wordX, h1, h2, h3, if_false, Bool.false_eq_true] at h
      split at h
      · cases h
      · rename_i g hg
        cases h
        have h1 := List.find?_some hg
        have h2 := List.mem_of_find?_eq_some hg
        have h3 := hasPrefix_leW h1
        rw [bl_len] at h3
        have h4 : 0 < g.size := by
          have : ∀ g ∈ sgs, 0 < g.size := by decide +kernel
          exact this g h2
        omega
theorem wordR_end {l : List UInt8} {a : Nat} {k : Int} {t : List UInt8} {n : Int} {e : Nat} (h : wordR l a = some (k, t, n, e)) (ha : a ≤ l.length) : a < e ∧ e ≤ l.length := by
  have := wordX_end h
  rw [List.length_drop] at this
  omega
end Go.Proofs.YtejicjcdbfjajaaDoor
