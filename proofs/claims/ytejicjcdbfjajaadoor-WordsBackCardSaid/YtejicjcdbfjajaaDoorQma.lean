/- A text as a word: what it is, and that it is read back. -/
import Derived.Test.YtejicjcdbfjajaaDoorEch
namespace Go.Proofs.YtejicjcdbfjajaaDoor
open Go Go.RowKit
/-- A byte between quotes. -/
def qtB (c : UInt8) : List UInt8 :=
  if c.toNat = 39 ∨ c.toNat = 92 then [92, c] else if 32 ≤ c.toNat ∧ c.toNat ≤ 126 then [c] else if c.toNat = 10 then [92, 110] else if c.toNat = 9 then [92, 116] else if c.toNat = 13 then [92, 114]
  else [92, UInt8.ofNat (48 + c.toNat / 100), UInt8.ofNat (48 + c.toNat / 10 % 10), UInt8.ofNat (48 + c.toNat % 10)]
def qtL (l : List UInt8) : List UInt8 := l.flatMap qtB
/-- A text as a word. -/
def quoL (l : List UInt8) : List UInt8 := 39 :: (qtL l ++ [39])
theorem qtL_snoc (l : List UInt8) (c : UInt8) : qtL (l ++ [c]) = qtL l ++ qtB c := by simp [qtL]
theorem qtB_len (c : UInt8) : (qtB c).length ≤ 4 := by
  unfold qtB
  repeat' split
  all_goals simp
theorem qtL_len : ∀ l : List UInt8, (qtL l).length ≤ 4 * l.length
  | [] => by simp [qtL]
  | c :: l => by
    have h1 := qtL_len l
    have h2 := qtB_len c
    have : qtL (c :: l) = qtB c ++ qtL l := rfl
    rw [this, List.length_append, List.length_cons]
    omega
theorem dig3 : ∀ n : Fin 256, numF 0 [UInt8.ofNat (48 + n.val / 100), UInt8.ofNat (48 + n.val / 10 % 10), UInt8.ofNat (48 + n.val % 10)] = some n.val := by decide +kernel
theorem dig1 : ∀ n : Fin 256, (UInt8.ofNat (48 + n.val / 100)).toNat = 48 + n.val / 100 ∧ (UInt8.ofNat (48 + n.val / 10 % 10)).toNat = 48 + n.val / 10 % 10 ∧ (UInt8.ofNat (48 + n.val % 10)).toNat = 48 + n.val % 10 := by decide +kernel
theorem escR_dig (n : Nat) (h : n < 256) (r : List UInt8) : escR (UInt8.ofNat (48 + n / 100) :: UInt8.ofNat (48 + n / 10 % 10) :: UInt8.ofNat (48 + n % 10) :: r) = some (UInt8.ofNat n, 3) := by
  have h1 := dig3 ⟨n, h⟩
  have h2 := (dig1 ⟨n, h⟩).1
  simp only at h1 h2
  unfold escR
  simp only
  rw [if_neg (by omega), if_neg (by omega), if_neg (by omega), if_neg (by omega), if_neg (by simp), show List.take 3 (UInt8.ofNat (48 + n / 100) :: UInt8.ofNat (48 + n / 10 % 10) :: UInt8.ofNat (48 + n % 10) :: r) = [UInt8.ofNat (48 + n / 100), UInt8.ofNat (48 + n / 10 % 10), UInt8.ofNat (48 + n % 10)] from rfl, h1]
  simp only
  rw [if_pos (by omega)]
theorem quoT_byte (c : UInt8) (r : List UInt8) : quoT 39 (qtB c ++ r) = (quoT 39 r).map fun x => (c :: x.1, (qtB c).length + x.2) := by
  have hne : ∀ k : UInt8, c.toNat ≠ k.toNat → c ≠ k := fun k h e => h (by rw [e])
  have h256 := c.toNat_lt
  unfold qtB
  split
  · rename_i h
    have he : escR (c :: r) = some (c, 1) := by
      unfold escR
      simp only
      rw [if_neg (by omega), if_neg (by omega), if_neg (by omega), if_pos (by omega)]
    exact quoT_esc (q := 39) (c := 92) (r := c :: r) (by decide) (by decide) rfl he
  split
  · rename_i h1 h2
    exact quoT_one (q := 39) (by omega) (hne 39 (by show c.toNat ≠ 39; omega)) (by omega)
  split
  · rename_i h
    obtain rfl : c = 10 := UInt8.toNat_inj.1 h
    exact quoT_esc (q := 39) (c := 92) (r := 110 :: r) (by decide) (by decide) rfl rfl
  split
  · rename_i h
    obtain rfl : c = 9 := UInt8.toNat_inj.1 h
    exact quoT_esc (q := 39) (c := 92) (r := 116 :: r) (by decide) (by decide) rfl rfl
  split
  · rename_i h
    obtain rfl : c = 13 := UInt8.toNat_inj.1 h
    exact quoT_esc (q := 39) (c := 92) (r := 114 :: r) (by decide) (by decide) rfl rfl
  · have he := escR_dig c.toNat h256 r
    rw [UInt8.ofNat_toNat] at he
    exact quoT_esc (q := 39) (c := 92) (by decide) (by decide) rfl he
theorem quoT_quoL : ∀ l : List UInt8, quoT 39 (qtL l ++ [39]) = some (l, (qtL l).length + 1)
  | [] => quoT_last (q := 39) (c := 39) (r := []) (by decide) rfl
  | c :: l => by
    have h1 : qtL (c :: l) = qtB c ++ qtL l := rfl
    rw [h1, List.append_assoc, quoT_byte, quoT_quoL l]
    simp
    omega
/-- A text as a word is one word. -/
theorem lex_quoL (l : List UInt8) : lexT (quoL l) = [⟨0, some (3, l, 0, (quoL l).length)⟩] := by
  have h0 : bkL (quoL l) 0 = 0 := by
    unfold bkL quoL
    rw [List.drop_zero, blk_none (by decide) (by rfl)]
  have hw : wordR (quoL l) 0 = some (3, l, 0, (quoL l).length) := by
    unfold wordR quoL
    rw [List.drop_zero, wordX_quo rfl (Or.inl rfl), quoT_quoL]
    simp
    omega
  have he : bkL (quoL l) (quoL l).length = (quoL l).length := by
    unfold bkL
    rw [List.drop_length]
    rfl
  unfold lexT
  rw [h0, lexB_some (by unfold quoL; simp) hw, he, lexB_end (by omega)]
end Go.Proofs.YtejicjcdbfjajaaDoor
