/- An argument that is a list of files. -/
import Derived.Test.YtcfglgejjmapdaaFrame
import Derived.Test.YtcfglgejjmapdaaTell
import Derived.Deep.Slices
import Derived.Lib.SmallJoins
namespace Go.Proofs.Ytcfglgejjmapdaa
open Go Go.RowKit
open Go.ChangeShapes Go.WideShapes Go.ChangeAt Go.Deep Go.Joins
section
variable {H : Type} {enc : TypeId × Value → H} {W : World}
def F.ok (f : F) : Prop := (f.name.size ≤ 140737488351232 ∧ f.bytes.size ≤ 140737488351232) ∧ (-9223372036854775808 ≤ f.sync ∧ f.sync ≤ 9223372036854775807)
set_option maxRecDepth 100000 in
theorem files_of {fuel : Nat} {v : Value} {x : DataW H × List MemPlace} (h : DataW.trod enc Try.prog W 0 (fun _ => true) true fuel 24 [v] = some x) (hw : ∀ m ∈ x.1.weights Try.prog 24, m ≤ reachBytes) :
    ∃ A n c l, v = .slice A n c ∧ List.length l = n ∧ n ≤ c ∧ c ≤ maxLen ∧ (A = none → c = 0) ∧ RdF W A l ∧ ∀ a ∈ l, a.ok := by
  rcases open_slice Try.underlying24 h with ⟨hcs, _⟩ | ⟨a, l, c, m, f, D, Pl, hcs, _, hl, hm, hmm, hx, hcell⟩
  · simp at hcs
    exact ⟨none, 0, 0, [], hcs, rfl, Nat.le_refl _, by simp [maxLen], fun _ => rfl, fun h => absurd h (by simp), fun s hs => by cases hs⟩
  · simp at hcs hmm
    subst hmm
    have hC : Try.prog.cellsOf 27 = 3 := by kernel_rfl
    rw [hC] at hcell
    have key : ∀ i, ∃ z : F, i < l → (z.ok ∧ ∀ j, j < 3 → W.cell? (a.add (i * 3 + j)) = some (z.cell j)) := by
      intro i
      by_cases hi : i < l
      rotate_left
      · exact ⟨⟨⟨#[]⟩, ⟨#[]⟩, 0⟩, fun h => absurd h hi⟩
      obtain ⟨cs, hc, ht⟩ := hcell i (by omega)
      obtain ⟨_, hcl, hat⟩ := World.cells?_some hc
      obtain ⟨y0, y1, y2, n, hy, hlen, t0, t1, t2⟩ := trod_struct3 Try.underlying27 ht
      match cs, hcl with
      | [c0, c1, c2], _ =>
        have k3 : Try.prog.cellsOf 3 = 1 := by kernel_rfl
        have k9 : Try.prog.cellsOf 9 = 1 := by kernel_rfl
        simp only [k3, k9, List.drop_zero, List.drop_succ_cons, List.take_succ_cons, List.take_zero] at t0 t1 t2
        obtain ⟨z0, e0, x0, w0⟩ := DataW.trod_string Try.underlying9 t0
        obtain ⟨z1, e1, x1, w1⟩ := DataW.trod_string Try.underlying9 t1
        obtain ⟨z2, e2, x2, w2⟩ := DataW.trod_int Try.underlying3 t2
        cases e0; cases e1; cases e2
        have hz : ∀ q, q = z0.size ∨ q = z1.size → q ≤ 140737488351232 := by
          intro q hq
          subst hx
          refine hw _ ?_
          rw [DataW.weights, Try.underlying24]
          simp only
          refine List.mem_cons_of_mem _ (List.mem_append_left _ (weights_all (List.mem_map.2 ⟨i, List.mem_range.2 hi, rfl⟩) _ ?_))
          have hD : D i = .agg [y0.1, y1.1, y2.1] := congrArg Prod.fst hy
          rw [hD, DataW.weights, Try.underlying27]
          subst x0; subst x1; subst x2
          have h2 : z1.data.toList.length = z1.size := by rw [Array.length_toList]; rfl
          have h3 : z0.data.toList.length = z0.size := by rw [Array.length_toList]; rfl
          rcases hq with rfl | rfl
          · simp [DataW.weightsEach, DataW.weights, h3]
          · simp [DataW.weightsEach, DataW.weights, h2]
        refine ⟨⟨z0, z1, z2⟩, fun _ => ⟨⟨⟨hz _ (.inl rfl), hz _ (.inr rfl)⟩, wf_i64 w2⟩, fun j hj => ?_⟩⟩
        have h1 := hat j hj
        rw [Go.Deep.add_add] at h1
        rw [h1]
        match j, hj with
        | 0, _ => rfl
        | 1, _ => rfl
        | 2, _ => rfl
    obtain ⟨S, hS⟩ := Classical.axiomOfChoice key
    have hlen : ((List.range l).map S).length = l := by simp
    refine ⟨some a, l, m, (List.range l).map S, hcs, hlen, hl, hm, (fun h => by cases h), fun h0 => ?_, fun s hs => ?_⟩
    · rw [hlen] at h0
      obtain ⟨b, off, spot⟩ := a
      have hc0 := (hS 0 h0).2 0 (by omega)
      have hspot : spot = none := by simpa [Addr.add] using World.cell?_spot hc0
      subst hspot
      rw [addoff] at hc0
      refine ⟨b, off, rfl, block_lt hc0, fun i hi j hj => ?_⟩
      rw [hlen] at hi
      have h1 := (hS i hi).2 j hj
      rw [addoff, ← Nat.add_assoc] at h1
      rw [h1]
      simp
    · obtain ⟨i, hi, rfl⟩ := List.mem_map.1 hs
      exact (hS i (List.mem_range.1 hi)).1
end
end Go.Proofs.Ytcfglgejjmapdaa
