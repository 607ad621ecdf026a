/- What FramesRows stands on. -/
import Derived.Test.YthbhbjfmlmgeeaaDoorMut
import Derived.Test.YthbhbjfmlmgeeaaDoorBack
import Derived.Test.YthbhbjfmlmgeeaaDoorAll
namespace Go.Proofs.YthbhbjfmlmgeeaaDoor
open Go Go.RowKit
/-- The frames of rows. -/
def frs (rs : List (List ByteArray)) : List UInt8 := framesL (rs.map bl)
theorem frs_nil : frs [] = [] := rfl
theorem frs_snoc (rs : List (List ByteArray)) (l : List ByteArray) : frs (rs ++ [l]) = frs rs ++ frameL (bl l) := by
  unfold frs
  rw [List.map_append, List.map_cons, List.map_nil, framesL_snoc]
theorem frs_next {rs : List (List ByteArray)} {k : Nat} {x : List ByteArray} (ht : rs.take (k + 1) = rs.take k ++ [x]) : frs (rs.take (k + 1)) = frs (rs.take k) ++ frameL (bl x) := by rw [ht, frs_snoc]
theorem frs_len (rs : List (List ByteArray)) : (frs rs).length = szR rs := by
  induction rs with
  | nil => rfl
  | cons x r ih =>
    have e : frs (x :: r) = frameL (bl x) ++ frs r := rfl
    rw [e, List.length_append, frameL_len, body_size, szR, ih]
    omega
theorem szR_take (r : List (List ByteArray)) (k : Nat) : szR (r.take k) ≤ szR r := by
  induction r generalizing k with
  | nil => simp [szR]
  | cons x r ih =>
    cases k with
    | zero => simp [szR]
    | succ k => have := ih k; simp [szR]; omega
theorem frs_take_len (rs : List (List ByteArray)) (k : Nat) : (frs (rs.take k)).length ≤ szR rs := by rw [frs_len]; exact szR_take rs k
theorem bl_map_inj {a b : List (List ByteArray)} (h : a.map bl = b.map bl) : a = b := List.map_inj_right (fun _ _ h => bl_inj h) |>.1 h
/-- Rows that were framed, and a beginning of one more, are scanned as they were. -/
theorem scan_frs {rs : List (List ByteArray)} {tail : List UInt8} (h : ∀ l ∈ rs, mayL (bl l) = true) (ht : (readL tail).2.2 ≠ 0) : scanL (frs rs ++ tail) = (rs.map bl, (frs rs).length) :=
  scanL_rows (rs.map bl) tail (by intro l hl; obtain ⟨x, hx, rfl⟩ := List.mem_map.1 hl; exact h x hx) ht
theorem may_rows {rs : List (List ByteArray)} (h : szR rs ≤ 3000) : ∀ l ∈ rs, mayL (bl l) = true := fun l hl => may_few (by have := szR_mem hl; omega)
theorem scanned_ls {l : List UInt8} {xs : List Item} {rs : List (List ByteArray)} {n : Nat} (h : Scanned l xs) (hs : scanL l = (rs.map bl, n)) : xs.map Item.ls = rs := by
  have h1 := h.1
  rw [hs] at h1
  refine bl_map_inj ?_
  rw [List.map_map]
  exact h1
/-- What was scanned, framed again. -/
theorem scanned_frs {l : List UInt8} {xs : List Item} (h : Scanned l xs) : frs (xs.map Item.ls) = l.take (scanL l).2 := by
  have h2 := (scanL_back l.length l (Nat.le_refl _)).2.1
  rw [h2]
  unfold frs
  rw [List.map_map]
  exact congrArg framesL h.1
theorem scanned_may {l : List UInt8} {xs : List Item} (h : Scanned l xs) : ∀ r ∈ xs.map Item.ls, mayL (bl r) = true := by
  intro r hr
  obtain ⟨x, hx, rfl⟩ := List.mem_map.1 hr
  have h1 : bl x.ls ∈ (scanL l).1 := by rw [← h.1]; exact List.mem_map.2 ⟨x, hx, rfl⟩
  exact (scanL_back l.length l (Nat.le_refl _)).2.2 _ h1
theorem scanL_le (l : List UInt8) : (scanL l).2 ≤ l.length := (scanL_back l.length l (Nat.le_refl _)).1
theorem OwnB.nil (w : World) (B : Nat) : OwnB w B (.slice none 0 0) [] := World.ownsRow_nil w B 5 1
theorem OwnB.forms {w : World} {base : Nat} {v : Value} {l : List UInt8} (h : OwnB w base v l) : ∃ A n c, v = .slice A n c ∧ l.length = n ∧ n ≤ c ∧ (A = none → c = 0) ∧ Rd w A l := by
  obtain ⟨A, c, hv, h1, h2, h3⟩ := h.form rfl
  exact ⟨A, _, c, hv, rfl, h1, h2, h3⟩
end Go.Proofs.YthbhbjfmlmgeeaaDoor
