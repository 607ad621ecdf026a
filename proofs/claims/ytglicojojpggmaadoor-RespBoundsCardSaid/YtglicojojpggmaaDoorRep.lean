/- Replies in memory. -/
import Derived.Test.YtglicojojpggmaaDoorPsw
namespace Go.Proofs.YtglicojojpggmaaDoor
open Go Go.RowKit
/-- A reply: its kind, its number, its text, the replies in it. -/
inductive Rp where
  | mk : Int → Int → ByteArray → List Rp → Rp
namespace Rp
def kind : Rp → Int | .mk k _ _ _ => k
def num : Rp → Int | .mk _ n _ _ => n
def text : Rp → ByteArray | .mk _ _ t _ => t
def kids : Rp → List Rp | .mk _ _ _ l => l
end Rp
mutual
/-- How deep a reply is. -/
def hgt : Rp → Nat
  | .mk _ _ _ l => hgtL l + 1
def hgtL : List Rp → Nat
  | [] => 0
  | r :: l => max (hgt r) (hgtL l)
end
theorem hgt_kid {l : List Rp} {r : Rp} (h : r ∈ l) : hgt r ≤ hgtL l := by
  induction l with
  | nil => cases h
  | cons x l ih =>
    rcases List.mem_cons.1 h with rfl | h
    · rw [hgtL]; omega
    · have := ih h; rw [hgtL]; omega
/-- The bounds of what may stand in memory. -/
def Fits (r : Rp) : Prop := -9223372036854775808 ≤ r.num ∧ r.num ≤ 9223372036854775807 ∧ -9223372036854775808 ≤ r.kind ∧ r.kind ≤ 9223372036854775807 ∧ r.text.size ≤ 140737488355328 ∧ r.kids.length ≤ 140737488355328
abbrev rpV (r : Rp) (A : Option Addr) (c : Nat) : Array Value := #[.int .i64 r.kind, .int .i64 r.num, .string r.text, .slice A r.kids.length c]
mutual
/-- A slice of replies as it is read, in blocks of a kind. -/
def RpL (P : Nat → Prop) (W : World) : List Rp → Option Addr → Prop
  | [], _ => True
  | r :: l, A => (∃ b o, A = some ⟨b, o, none⟩ ∧ b < W.heap.size ∧ P b ∧ RpA P W r b o ∧ RpL P W l (some ⟨b, o + 4, none⟩))
/-- A reply in four cells. -/
def RpA (P : Nat → Prop) (W : World) : Rp → Nat → Nat → Prop
  | .mk k n t l, b, o => ∃ A c, W.cell? ⟨b, o, none⟩ = some (.int .i64 k) ∧ W.cell? ⟨b, o + 1, none⟩ = some (.int .i64 n) ∧ W.cell? ⟨b, o + 2, none⟩ = some (.string t) ∧ W.cell? ⟨b, o + 3, none⟩ = some (.slice A l.length c) ∧ Fits (.mk k n t l) ∧ (A = none → c = 0) ∧ l.length ≤ c ∧ RpL P W l A
end
/-- The replies in a reply. -/
def RpK (P : Nat → Prop) (W : World) (r : Rp) (A : Option Addr) (c : Nat) : Prop := Fits r ∧ (A = none → c = 0) ∧ r.kids.length ≤ c ∧ RpL P W r.kids A
theorem RpA.row {P : Nat → Prop} {W : World} {r : Rp} {b o : Nat} (h : RpA P W r b o) : ∃ A c, W.cell? ⟨b, o, none⟩ = some (.int .i64 r.kind) ∧ W.cell? ⟨b, o + 1, none⟩ = some (.int .i64 r.num) ∧ W.cell? ⟨b, o + 2, none⟩ = some (.string r.text) ∧ W.cell? ⟨b, o + 3, none⟩ = some (.slice A r.kids.length c) ∧ RpK P W r A c := by
  cases r with
  | mk k n t l =>
    rw [RpA] at h
    obtain ⟨A, c, h0, h1, h2, h3, h4, h5, h6, h7⟩ := h
    exact ⟨A, c, h0, h1, h2, h3, h4, h5, h6, h7⟩
theorem RpK.mkA {P : Nat → Prop} {W : World} {r : Rp} {b o : Nat} {A : Option Addr} {c : Nat} (h0 : W.cell? ⟨b, o, none⟩ = some (.int .i64 r.kind)) (h1 : W.cell? ⟨b, o + 1, none⟩ = some (.int .i64 r.num)) (h2 : W.cell? ⟨b, o + 2, none⟩ = some (.string r.text)) (h3 : W.cell? ⟨b, o + 3, none⟩ = some (.slice A r.kids.length c)) (h : RpK P W r A c) : RpA P W r b o := by
  cases r with
  | mk k n t l =>
    rw [RpA]
    exact ⟨A, c, h0, h1, h2, h3, h.1, h.2.1, h.2.2.1, h.2.2.2⟩
theorem RpL.at {P : Nat → Prop} {W : World} : ∀ {l : List Rp} {A : Option Addr}, RpL P W l A → ∀ {j : Nat} (hj : j < l.length), ∃ b o, A = some ⟨b, o, none⟩ ∧ b < W.heap.size ∧ P b ∧ RpA P W l[j] b (o + j * 4)
  | [], _, _, _, hj => absurd hj (by simp)
  | r :: l, A, h, 0, _ => by
    rw [RpL] at h
    obtain ⟨b, o, hA, hb, hp, ha, _⟩ := h
    exact ⟨b, o, hA, hb, hp, ha⟩
  | r :: l, A, h, j + 1, hj => by
    rw [RpL] at h
    obtain ⟨b, o, hA, hb, hp, _, hr⟩ := h
    obtain ⟨b', o', hA', hb', hp', ha'⟩ := RpL.at hr (j := j) (by simpa using hj)
    cases hA'
    exact ⟨b, o, hA, hb, hp, by simpa [Nat.add_mul, Nat.add_assoc, Nat.add_comm, Nat.add_left_comm] using ha'⟩
mutual
theorem RpL.imp {P Q : Nat → Prop} {W W' : World} (hs : W.heap.size ≤ W'.heap.size) (hw : ∀ b, P b → b < W.heap.size → W'.heap[b]? = W.heap[b]? ∧ Q b) : ∀ (l : List Rp) (A : Option Addr), RpL P W l A → RpL Q W' l A
  | [], _, _ => by rw [RpL]; trivial
  | r :: l, A, h => by
    rw [RpL] at h ⊢
    obtain ⟨b, o, hA, hb, hp, ha, hr⟩ := h
    exact ⟨b, o, hA, Nat.lt_of_lt_of_le hb hs, (hw b hp hb).2, RpA.imp hs hw r b o (hw b hp hb).1 ha, RpL.imp hs hw l _ hr⟩
theorem RpA.imp {P Q : Nat → Prop} {W W' : World} (hs : W.heap.size ≤ W'.heap.size) (hw : ∀ b, P b → b < W.heap.size → W'.heap[b]? = W.heap[b]? ∧ Q b) : ∀ (r : Rp) (b o : Nat), W'.heap[b]? = W.heap[b]? → RpA P W r b o → RpA Q W' r b o
  | .mk k n t l, b, o, hb, h => by
    rw [RpA] at h ⊢
    obtain ⟨A, c, h0, h1, h2, h3, h4, h5, h6, h7⟩ := h
    exact ⟨A, c, (World.cell?_of_block (w := W) (a := ⟨b, o, none⟩) hb).trans h0, (World.cell?_of_block (w := W) (a := ⟨b, o + 1, none⟩) hb).trans h1, (World.cell?_of_block (w := W) (a := ⟨b, o + 2, none⟩) hb).trans h2, (World.cell?_of_block (w := W) (a := ⟨b, o + 3, none⟩) hb).trans h3, h4, h5, h6, RpL.imp hs hw l A h7⟩
end
theorem RpK.imp {P Q : Nat → Prop} {W W' : World} {r : Rp} {A : Option Addr} {c : Nat} (h : RpK P W r A c) (hs : W.heap.size ≤ W'.heap.size) (hw : ∀ b, P b → b < W.heap.size → W'.heap[b]? = W.heap[b]? ∧ Q b) : RpK Q W' r A c :=
  ⟨h.1, h.2.1, h.2.2.1, RpL.imp hs hw _ _ h.2.2.2⟩
/-- Blocks that were there. -/
theorem RpK.old {P : Nat → Prop} {W : World} {r : Rp} {A : Option Addr} {c : Nat} (h : RpK P W r A c) : RpK (· < W.heap.size) W r A c := h.imp (Nat.le_refl _) fun _ _ hb => ⟨rfl, hb⟩
theorem RpK.below {B : Nat} {W W' : World} {r : Rp} {A : Option Addr} {c : Nat} (h : RpK (· < B) W r A c) (hb : Below B W W') : RpK (· < B) W' r A c := h.imp hb.size fun b hp _ => ⟨hb.block b hp, hp⟩
theorem RpK.kid {P : Nat → Prop} {W : World} {r : Rp} {A : Option Addr} {c : Nat} (h : RpK P W r A c) {j : Nat} (hj : j < r.kids.length) : ∃ b o, A = some ⟨b, o, none⟩ ∧ b < W.heap.size ∧ P b ∧ RpA P W r.kids[j] b (o + j * 4) := h.2.2.2.at hj
end Go.Proofs.YtglicojojpggmaaDoor
