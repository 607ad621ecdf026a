/- Words as a text: what it is, and that it is read as they were. -/
import Derived.Test.YtejicjcdbfjajaaDoorWrs
import Derived.Test.YtejicjcdbfjajaaDoorQma
import Derived.Test.YtejicjcdbfjajaaDoorRwa
import Derived.Test.YtejicjcdbfjajaaDoorSam
import Derived.Lib.ItoaLen
namespace Go.Proofs.YtejicjcdbfjajaaDoor
open Go Go.RowKit
def signB (s : ByteArray) : Bool := decide (s ∈ sgs)
/-- May a word be? -/
def mayW (p : Wr) : Bool :=
  if p.kind = 0 then nameB p.text && decide (p.num = 0)
  else if p.kind = 1 then keyB p.text && decide (p.num = 0)
  else if p.kind = 2 then decide (p.text = ⟨#[]⟩) && decide (0 ≤ p.num)
  else if p.kind = 3 then decide (p.num = 0)
  else if p.kind = 4 then signB p.text && decide (p.num = 0)
  else false
/-- A word as a text. -/
def toldW (p : Wr) : List UInt8 := if p.kind = 2 then Lib.itoa p.num else if p.kind = 3 then quoL (bl p.text) else bl p.text
def tlP (l : List Wr) : List UInt8 := l.flatMap fun q => 32 :: toldW q
/-- Words as a text. -/
def prL : List Wr → List UInt8
  | [] => []
  | p :: r => toldW p ++ tlP r
theorem tlP_cons (q : Wr) (r : List Wr) : tlP (q :: r) = 32 :: prL (q :: r) := rfl
theorem prL_snoc (l : List Wr) (q : Wr) : prL (l ++ [q]) = prL l ++ (if l = [] then [] else [32]) ++ toldW q := by
  cases l with
  | nil => simp [prL, tlP]
  | cons p r => simp [prL, tlP]
def wgt (l : List Wr) : Nat := (l.map fun p => 4 * p.text.size + 22).sum
theorem wgt_cons (p : Wr) (l : List Wr) : wgt (p :: l) = 4 * p.text.size + 22 + wgt l := rfl
theorem wgt_app (a b : List Wr) : wgt (a ++ b) = wgt a + wgt b := by simp [wgt]
theorem wgt_take (l : List Wr) (k : Nat) : wgt (l.take k) ≤ wgt l := by
  have h := wgt_app (l.take k) (l.drop k)
  rw [List.take_append_drop] at h
  omega
theorem wgt_one {l : List Wr} {p : Wr} (h : p ∈ l) : 4 * p.text.size + 22 ≤ wgt l := by
  induction l with
  | nil => cases h
  | cons q l ih =>
    rw [wgt_cons]
    rcases List.mem_cons.1 h with rfl | h
    · omega
    · have := ih h; omega
theorem toldW_len (p : Wr) (h0 : -9223372036854775808 ≤ p.num) (h1 : p.num ≤ 9223372036854775807) : (toldW p).length ≤ 4 * p.text.size + 21 := by
  unfold toldW
  split
  · have := Lib.itoa_length_le p.num h0 h1
    omega
  split
  · have := qtL_len (bl p.text)
    rw [bl_len] at this
    simp only [quoL, List.length_cons, List.length_append, List.length_nil]
    omega
  · rw [bl_len]; omega
theorem prL_len (l : List Wr) (h : ∀ p ∈ l, p.ok) : (prL l).length ≤ wgt l := by
  have key : ∀ l : List Wr, (∀ p ∈ l, p.ok) → (tlP l).length ≤ wgt l := by
    intro l
    induction l with
    | nil => intro _; simp [tlP]
    | cons q l ih =>
      intro h
      have h1 := toldW_len q (h q (by simp)).2.2.1.1 (h q (by simp)).2.2.1.2
      have h2 := ih (fun p hp => h p (by simp [hp]))
      have h3 : tlP (q :: l) = 32 :: (toldW q ++ tlP l) := rfl
      rw [h3, wgt_cons, List.length_cons, List.length_append]
      omega
  cases l with
  | nil => simp [prL]
  | cons q l =>
    have h1 := toldW_len q (h q (by simp)).2.2.1.1 (h q (by simp)).2.2.1.2
    have h2 := key l (fun p hp => h p (by simp [hp]))
    rw [prL, wgt_cons, List.length_append]
    omega
end Go.Proofs.YtejicjcdbfjajaaDoor
