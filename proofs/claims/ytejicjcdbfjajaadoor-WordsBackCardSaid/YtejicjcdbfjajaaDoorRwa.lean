/- The document's word that begins at a place: what serves all four kinds. -/
import Derived.Test.YtejicjcdbfjajaaDoorLexA
import Derived.Test.YtejicjcdbfjajaaDoorRbk
import Derived.Test.YtejicjcdbfjajaaDoorRnu
import Derived.Test.YtejicjcdbfjajaaDoorRtx
import Derived.Test.YtejicjcdbfjajaaDoorRsg
import Derived.Test.YtejicjcdbfjajaaDoorRNam
import Derived.Deep.Cut
namespace Go.Proofs.YtejicjcdbfjajaaDoor
open Go Go.RowKit
/-- What the document's word tells. -/
def rwV : Option Wd → Nat → Array Value
  | none, _ => #[.int .i64 0, .string ⟨#[]⟩, .int .i64 0, .int .i64 0]
  | some x, a => wdV a (some x)
def RWQ (w : World) (a : Nat) (R : Option Wd) (e : Ending) (w' : World) : Prop := e = .returned (.tuple #[.agg (rwV R a), .int .i64 (endV R : Nat)]) ∧ Below w.heap.size w w'
theorem res23 (tmps : Array Value) (g : Nat) (v0 v1 v2 v3 y : Value) (W : World) (t4 : tmps.getD 4 undef = .pointer (some ⟨g, 0, none⟩)) (t5 : tmps.getD 5 undef = y) (c0 : W.heap[g]? = some (.cells #[v0, v1, v2, v3] 31 (0, 0))) : (results Tryd.f23 tmps).run Tryd.prog W = .ok (.tuple #[.agg #[v0, v1, v2, v3], y]) W := by
  have q0 : W.cell? ⟨g, 0, none⟩ = some v0 := by rw [Lib.cell_of_heap c0]; rfl
  have q1 : W.cell? ⟨g, 1, none⟩ = some v1 := by rw [Lib.cell_of_heap c0]; rfl
  have q2 : W.cell? ⟨g, 2, none⟩ = some v2 := by rw [Lib.cell_of_heap c0]; rfl
  have q3 : W.cell? ⟨g, 3, none⟩ = some v3 := by rw [Lib.cell_of_heap c0]; rfl
  simp only [Array.getD_eq_getD_getElem?] at t4 t5
  simp [results, Tryd.results23, t4, t5, q0, q1, q2, q3, go_sem]
theorem numF_has : ∀ (l : List UInt8) (n : Nat), (∃ c ∈ l, isD c.toNat = false) → numF n l = none
  | [], _, h => by obtain ⟨c, hc, _⟩ := h; cases hc
  | x :: l, n, h => by
    rw [numF]
    split
    · rename_i hx
      refine numF_has l _ ?_
      obtain ⟨c, hc, hd⟩ := h
      rcases List.mem_cons.1 hc with rfl | hc
      · rw [hd] at hx; exact absurd hx.1 (by simp)
      · exact ⟨c, hc, hd⟩
    · rfl
theorem bl_ext (s : ByteArray) (a b : Nat) : bl (s.extract a b) = ((bl s).drop a).take (b - a) := by
  rw [bl, ByteArray.data_extract, Array.toList_extract, List.extract_eq_take_drop]
theorem ext_at (s : ByteArray) {a j b : Nat} (h1 : a ≤ j) (h2 : j < b) (h3 : b ≤ s.size) : s[j]'(by omega) ∈ bl (s.extract a b) := by
  rw [bl_ext]
  refine List.mem_iff_getElem.2 ⟨j - a, ?_, ?_⟩
  · rw [List.length_take, List.length_drop, bl_len]; omega
  · rw [List.getElem_take, List.getElem_drop]
    have e : a + (j - a) = j := by omega
    simp only [e]
    exact bl_at s j (by omega)
theorem ext_all (s : ByteArray) {a b : Nat} (h3 : b ≤ s.size) {p : UInt8 → Prop} (h : ∀ j, a ≤ j → j < b → ∀ hj : j < s.size, p s[j]) : ∀ c ∈ bl (s.extract a b), p c := by
  intro c hc
  rw [bl_ext] at hc
  obtain ⟨k, hk, rfl⟩ := List.mem_iff_getElem.1 hc
  rw [List.length_take, List.length_drop, bl_len] at hk
  rw [List.getElem_take, List.getElem_drop]
  exact h (a + k) (by omega) (by omega) (by omega)
theorem okB_l {c : UInt8} (h : isL c.toNat = true) : okB c = true := by unfold okB; rw [h]; rfl
theorem okB_d {c : UInt8} (h : isD c.toNat = true) : okB c = true := by unfold okB; rw [h]; simp
theorem okB_n {c : UInt8} (h : isL c.toNat = false) (h2 : isD c.toNat = false) : okB c = false := by unfold okB; rw [h, h2]; rfl
theorem runF_okay : ∀ (l : List UInt8), ∀ c ∈ l.take (runF l), okB c = true
  | [] => by intro c hc; simp at hc
  | x :: l => by
    cases h : okB x with
    | false => rw [runF_no h]; intro c hc; simp at hc
    | true =>
      rw [runF_yes h, Nat.add_comm, List.take_succ_cons]
      intro c hc
      rcases List.mem_cons.1 hc with rfl | hc
      · exact h
      · exact runF_okay l c hc
/-- A text of letters and digits, a letter ahead: a name just if it is short and no word of the language. -/
theorem name_run {u : ByteArray} {x : List UInt8} {c : UInt8} {y : List UInt8} (hx : x = c :: y) (hu : bl u = x.take (runF x)) (hl : isL c.toNat = true) : nameB u = (!keyB u && decide (u.size ≤ 64)) := by
  have h1 : (bl u).all okB = true := by
    rw [hu]
    exact List.all_eq_true.2 (runF_okay x)
  have h2 : bl u = c :: y.take (runF y) := by
    rw [hu, hx, runF_yes (okB_l hl), Nat.add_comm, List.take_succ_cons]
  have h3 : 0 < u.size := by rw [← bl_len, h2]; simp
  unfold nameB formB
  rw [h1, h2]
  simp only [hl, h3, decide_true, Bool.true_and, Bool.and_true]
  rw [Bool.and_comm]
theorem pre_ext {s g : ByteArray} {a : Nat} (ha : a ≤ s.size) : Lib.hasPrefix ((bl s).drop a) (bl g) = (decide (a + g.size ≤ s.size) && decide (s.extract a (a + g.size) = g)) := by
  have h1 : Lib.hasPrefix ((bl s).drop a) (bl g) = true ↔ bl g <+: (bl s).drop a := List.isPrefixOf_iff_prefix
  rw [Bool.eq_iff_iff, h1, Bool.and_eq_true, decide_eq_true_iff, decide_eq_true_iff, List.prefix_iff_eq_take, bl_len]
  constructor
  · intro h
    have h2 := congrArg List.length h
    rw [List.length_take, List.length_drop, bl_len, bl_len] at h2
    refine ⟨by omega, bl_inj ?_⟩
    rw [bl_ext, h, Nat.add_sub_cancel_left]
    try rw [bl_len]
  · intro ⟨h2, h3⟩
    rw [← h3, bl_ext, Nat.add_sub_cancel_left, ByteArray.size_extract]
    congr 1
    omega
theorem wordX_sgnF {a : Nat} {x : List UInt8} {c : UInt8} {y : List UInt8} (hx : x = c :: y) (h1 : isL c.toNat = false) (h2 : isD c.toNat = false) (h3 : ¬ (c.toNat = 39 ∨ c.toNat = 34)) : wordX a x = match sgs.find? (fun g => Lib.hasPrefix x (bl g)) with
      | none => none
      | some g => some (4, bl g, 0, a + g.size) := by
  subst hx
  simp only [wordX]
  rw [if_neg (by rw [h1]; simp), if_neg (by rw [h2]; simp), if_neg h3]
  rfl
theorem sgs_small : ∀ g ∈ sgs, 0 < g.size ∧ g.size ≤ 2 := by decide
theorem sgs_len : sgs.length = 24 := rfl
end Go.Proofs.YtejicjcdbfjajaaDoor
