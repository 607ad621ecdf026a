/- An argument that is a list of words. -/
import Derived.Test.YtejicjcdbfjajaaDoorFrame
import Derived.Deep.Slices
import Derived.Lib.SmallJoins
namespace Go.Proofs.YtejicjcdbfjajaaDoor
open Go Go.RowKit
open Go.ChangeShapes Go.WideShapes Go.ChangeAt Go.Deep Go.Joins
theorem block_lt {W : World} {b off : Nat} {v : Value} (h : W.cell? ⟨b, off, none⟩ = some v) : b < W.heap.size := by
  rcases Nat.lt_or_ge b W.heap.size with h1 | h1
  · exact h1
  · simp [World.cell?, Array.getElem?_eq_none h1] at h

theorem wf_i64 {z : Int} (h : (Lit.int .i64 z).wf = true) : -9223372036854775808 ≤ z ∧ z ≤ 9223372036854775807 := by
  simp [Lit.wf, show IntKind.i64.min = -9223372036854775808 from rfl, show IntKind.i64.max = 9223372036854775807 from rfl] at h
  omega
/-- A word. -/
structure Wr where
  kind : Int
  text : ByteArray
  num : Int
  at_ : Int
def Wr.cell (a : Wr) : Nat → Value
  | 0 => .int .i64 a.kind
  | 1 => .string a.text
  | 2 => .int .i64 a.num
  | _ => .int .i64 a.at_
def Wr.ok (a : Wr) : Prop := (-9223372036854775808 ≤ a.kind ∧ a.kind ≤ 9223372036854775807) ∧ a.text.size ≤ 140737488351232 ∧ (-9223372036854775808 ≤ a.num ∧ a.num ≤ 9223372036854775807) ∧ (-9223372036854775808 ≤ a.at_ ∧ a.at_ ≤ 9223372036854775807)
def RdA (W : World) (A : Option Addr) (l : List Wr) : Prop := 0 < l.length → ∃ b off, A = some ⟨b, off, none⟩ ∧ b < W.heap.size ∧ ∀ i (h : i < l.length) (j : Nat), j < 4 → W.cell? ⟨b, off + i * 4 + j, none⟩ = some (l[i].cell j)
theorem RdA.below {w w' : World} {A : Option Addr} {l : List Wr} (h : RdA w A l) (hb : Below w.heap.size w w') : RdA w' A l := fun h0 => by
  obtain ⟨b, off, rfl, hlt, hc⟩ := h h0
  exact ⟨b, off, rfl, Nat.lt_of_lt_of_le hlt hb.size, fun i hi j hj => (hb.cell (p := ⟨b, off + i * 4 + j, none⟩) hlt).trans (hc i hi j hj)⟩
theorem RdA.at {w : World} {A : Option Addr} {l : List Wr} (h : RdA w A l) {k : Nat} (hk : k < l.length) : ∃ b off, A = some ⟨b, off, none⟩ ∧ b < w.heap.size ∧ w.cell? ⟨b, off + k * 4, none⟩ = some (.int .i64 l[k].kind) ∧ w.cell? ⟨b, off + k * 4 + 1, none⟩ = some (.string l[k].text) ∧ w.cell? ⟨b, off + k * 4 + 2, none⟩ = some (.int .i64 l[k].num) ∧ w.cell? ⟨b, off + k * 4 + 3, none⟩ = some (.int .i64 l[k].at_) := by
  obtain ⟨b, off, rfl, hlt, hc⟩ := h (by omega)
  exact ⟨b, off, rfl, hlt, hc k hk 0 (by omega), hc k hk 1 (by omega), hc k hk 2 (by omega), hc k hk 3 (by omega)⟩
section
variable {H : Type} {enc : TypeId × Value → H} {W : World}
theorem weights_all {e : TypeId} {d : DataW H} : ∀ {l : List (DataW H)}, d ∈ l → ∀ m ∈ d.weights Tryd.prog e, m ∈ DataW.weightsAll Tryd.prog e l
  | [], h => by cases h
  | x :: r, h => fun m hm => by
    rw [DataW.weightsAll]
    rcases List.mem_cons.1 h with rfl | h
    · exact List.mem_append_left _ hm
    · exact List.mem_append_right _ (weights_all h m hm)
set_option maxRecDepth 100000 in
theorem words_of {fuel : Nat} {v : Value} {x : DataW H × List MemPlace} (h : DataW.trod enc Tryd.prog W 0 (fun _ => true) true fuel 23 [v] = some x) (hw : ∀ m ∈ x.1.weights Tryd.prog 23, m ≤ reachBytes) :
    ∃ A n c l, v = .slice A n c ∧ List.length l = n ∧ n ≤ c ∧ c ≤ maxLen ∧ (A = none → c = 0) ∧ RdA W A l ∧ ∀ a ∈ l, a.ok := by
  rcases open_slice Tryd.underlying23 h with ⟨hcs, _⟩ | ⟨a, l, c, m, f, D, Pl, hcs, _, hl, hm, hmm, hx, hcell⟩
  · simp at hcs
    exact ⟨none, 0, 0, [], hcs, rfl, Nat.le_refl _, by simp [maxLen], fun _ => rfl, fun h => absurd h (by simp), fun s hs => by cases hs⟩
  · simp at hcs hmm
    subst hmm
    have hC : Tryd.prog.cellsOf 31 = 4 := by kernel_rfl
    rw [hC] at hcell
    have key : ∀ i, ∃ z : Wr, i < l → (z.ok ∧ ∀ j, j < 4 → W.cell? (a.add (i * 4 + j)) = some (z.cell j)) := by
      intro i
      by_cases hi : i < l
      rotate_left
      · exact ⟨⟨0, ⟨#[]⟩, 0, 0⟩, fun h => absurd h hi⟩
      obtain ⟨cs, hc, ht⟩ := hcell i (by omega)
      obtain ⟨_, hcl, hat⟩ := World.cells?_some hc
      obtain ⟨y0, y1, y2, y3, n, hy, hlen, t0, t1, t2, t3⟩ := trod_struct4 Tryd.underlying31 ht
      match cs, hcl with
      | [c0, c1, c2, c3], _ =>
        have k29 : Tryd.prog.cellsOf 29 = 1 := by kernel_rfl
        have k9 : Tryd.prog.cellsOf 9 = 1 := by kernel_rfl
        have k2 : Tryd.prog.cellsOf 2 = 1 := by kernel_rfl
        have k3 : Tryd.prog.cellsOf 3 = 1 := by kernel_rfl
        simp only [k29, k9, k2, k3, List.drop_zero, List.drop_succ_cons, List.take_succ_cons, List.take_zero] at t0 t1 t2 t3
        obtain ⟨z0, e0, x0, w0⟩ := DataW.trod_int Tryd.underlying29 t0
        obtain ⟨z1, e1, x1, w1⟩ := DataW.trod_string Tryd.underlying9 t1
        obtain ⟨z2, e2, x2, w2⟩ := DataW.trod_int Tryd.underlying2 t2
        obtain ⟨z3, e3, x3, w3⟩ := DataW.trod_int Tryd.underlying3 t3
        cases e0; cases e1; cases e2; cases e3
        have hz : z1.size ≤ 140737488351232 := by
          subst hx
          refine hw _ ?_
          rw [DataW.weights, Tryd.underlying23]
          simp only
          refine List.mem_cons_of_mem _ (List.mem_append_left _ (weights_all (List.mem_map.2 ⟨i, List.mem_range.2 hi, rfl⟩) _ ?_))
          have hD : D i = .agg [y0.1, y1.1, y2.1, y3.1] := congrArg Prod.fst hy
          rw [hD, DataW.weights, Tryd.underlying31]
          subst x0; subst x1; subst x2; subst x3
          have h2 : z1.data.toList.length = z1.size := by rw [Array.length_toList]; rfl
          simp [DataW.weightsEach, DataW.weights, h2]
        refine ⟨⟨z0, z1, z2, z3⟩, fun _ => ⟨⟨wf_i64 w0, hz, wf_i64 w2, wf_i64 w3⟩, fun j hj => ?_⟩⟩
        have h1 := hat j hj
        rw [Go.Deep.add_add] at h1
        rw [h1]
        match j, hj with
        | 0, _ => rfl
        | 1, _ => rfl
        | 2, _ => rfl
        | 3, _ => rfl
    obtain ⟨S, hS⟩ := Classical.axiomOfChoice key
    have hlen : ((List.range l).map S).length = l := by simp
    refine ⟨some a, l, m, (List.range l).map S, hcs, hlen, hl, hm, (fun h => by cases h), fun h0 => ?_, fun s hs => ?_⟩
    · rw [hlen] at h0
      obtain ⟨b, off, spot⟩ := a
      have hc0 := (hS 0 h0).2 0 (by omega)
      have hspot : spot = none := by simpa [Addr.add] using World.cell?_spot hc0
      subst hspot
      rw [addoff] at hc0
      refine ⟨b, off, rfl, block_lt hc0, fun i hi j hj => ?_⟩
      rw [hlen] at hi
      have h1 := (hS i hi).2 j hj
      rw [addoff, ← Nat.add_assoc] at h1
      rw [h1]
      simp
    · obtain ⟨i, hi, rfl⟩ := List.mem_map.1 hs
      exact (hS i (List.mem_range.1 hi)).1
end
end Go.Proofs.YtejicjcdbfjajaaDoor
