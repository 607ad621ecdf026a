/- Arguments that are a step, or a list of steps. -/
import Derived.Test.YtcfglgejjmapdaaFrameB
namespace Go.Proofs.Ytcfglgejjmapdaa
open Go Go.RowKit
open Go.ChangeShapes Go.WideShapes Go.ChangeAt Go.Deep Go.Joins
/-- A step. -/
structure S where
  wh : Int
  nm : ByteArray
  to_ : ByteArray
  A : Option Addr
  n : Nat
  c : Nat
  l : List UInt8
  N : Int
def S.vals (s : S) : List Value := [.int .i64 s.wh, .string s.nm, .string s.to_, .slice s.A s.n s.c, .int .i64 s.N]
def S.ok (W : World) (s : S) : Prop := (-9223372036854775808 ≤ s.wh ∧ s.wh ≤ 9223372036854775807) ∧ (-9223372036854775808 ≤ s.N ∧ s.N ≤ 9223372036854775807) ∧ (s.nm.size ≤ 140737488351232 ∧ s.to_.size ≤ 140737488351232) ∧ s.l.length = s.n ∧ s.n ≤ s.c ∧ s.c ≤ maxLen ∧ (s.A = none → s.c = 0) ∧ Rd W s.A s.l
section
variable {H : Type} {enc : TypeId × Value → H} {W : World}
theorem trod_struct5 {t : TypeId} {f0 f1 f2 f3 f4 : Field} {fuel : Nat} {cs : List Value} {x : DataW H × List MemPlace} (ht : Try.prog.underlying t = some (.struct #[f0, f1, f2, f3, f4])) (h : DataW.trod enc Try.prog W 0 (fun _ => true) true fuel t cs = some x) :
    ∃ y0 y1 y2 y3 y4 n, x = (.agg [y0.1, y1.1, y2.1, y3.1, y4.1], y0.2 ++ (y1.2 ++ (y2.2 ++ (y3.2 ++ y4.2)))) ∧ cs.length = Try.prog.cellsOf t ∧ DataW.trod enc Try.prog W 0 (fun _ => true) true n f0.type ((cs.drop f0.offset).take (Try.prog.cellsOf f0.type)) = some y0 ∧
      DataW.trod enc Try.prog W 0 (fun _ => true) true n f1.type ((cs.drop f1.offset).take (Try.prog.cellsOf f1.type)) = some y1 ∧ DataW.trod enc Try.prog W 0 (fun _ => true) true n f2.type ((cs.drop f2.offset).take (Try.prog.cellsOf f2.type)) = some y2 ∧
      DataW.trod enc Try.prog W 0 (fun _ => true) true n f3.type ((cs.drop f3.offset).take (Try.prog.cellsOf f3.type)) = some y3 ∧ DataW.trod enc Try.prog W 0 (fun _ => true) true n f4.type ((cs.drop f4.offset).take (Try.prog.cellsOf f4.type)) = some y4 := by
  obtain ⟨xs, n, _, rfl, hl, hlen, hf⟩ := DataW.trod_struct ht h
  match xs, hlen with
  | [y0, y1, y2, y3, y4], _ => exact ⟨y0, y1, y2, y3, y4, n, by simp, hl, by simpa using hf 0 f0 rfl, by simpa using hf 1 f1 rfl, by simpa using hf 2 f2 rfl, by simpa using hf 3 f3 rfl, by simpa using hf 4 f4 rfl⟩
set_option maxRecDepth 100000 in
theorem trod_step {fuel : Nat} {cs : List Value} {x : DataW H × List MemPlace} (h : DataW.trod enc Try.prog W 0 (fun _ => true) true fuel 43 cs = some x) (hw : ∀ m ∈ x.1.weights Try.prog 43, m ≤ reachBytes) : ∃ s : S, cs = s.vals ∧ s.ok W := by
  obtain ⟨y0, y1, y2, y3, y4, n, rfl, hl, t0, t1, t2, t3, t4⟩ := trod_struct5 Try.underlying43 h
  have hC : Try.prog.cellsOf 43 = 5 := by kernel_rfl
  have k3 : Try.prog.cellsOf 3 = 1 := by kernel_rfl
  have k9 : Try.prog.cellsOf 9 = 1 := by kernel_rfl
  have k35 : Try.prog.cellsOf 35 = 1 := by kernel_rfl
  rw [hC] at hl
  match cs, hl with
  | [c0, c1, c2, c3, c4], _ =>
    simp only [k3, k9, k35, List.drop_zero, List.drop_succ_cons, List.take_succ_cons, List.take_zero] at t0 t1 t2 t3 t4
    obtain ⟨z0, e0, x0, w0⟩ := DataW.trod_int Try.underlying3 t0
    obtain ⟨z1, e1, x1, w1⟩ := DataW.trod_string Try.underlying9 t1
    obtain ⟨z2, e2, x2, w2⟩ := DataW.trod_string Try.underlying9 t2
    obtain ⟨ca, na, ea, e3⟩ := slice_form Try.underlying35 t3
    obtain ⟨z4, e4, x4, w4⟩ := DataW.trod_int Try.underlying3 t4
    cases e0; cases e1; cases e2; cases e3; cases e4
    obtain ⟨A, m, c, l, hv, h1, h2, h3, h4, h5⟩ := bytes_of t3
    cases hv
    have hz : ∀ q, q = z1.size ∨ q = z2.size → q ≤ 140737488351232 := by
      intro q hq
      refine hw _ ?_
      rw [DataW.weights, Try.underlying43]
      have h2 : z1.data.toList.length = z1.size := by rw [Array.length_toList]; rfl
      have h3 : z2.data.toList.length = z2.size := by rw [Array.length_toList]; rfl
      simp only [x1, x2]
      rcases hq with rfl | rfl
      · simp [DataW.weightsEach, DataW.weights, h2]
      · simp [DataW.weightsEach, DataW.weights, h3]
    exact ⟨⟨z0, z1, z2, ca, na, ea, l, z4⟩, rfl, wf_i64 w0, wf_i64 w4, ⟨hz _ (.inl rfl), hz _ (.inr rfl)⟩, h1, h2, h3, h4, h5⟩
set_option maxRecDepth 100000 in
/-- An argument that is a step. -/
theorem step_of {base0 : Nat} {v : Value} {fuel : Nat} {x : DataW H × List MemPlace} (hv : Value.okWide Try.prog W .any base0 43 v) (h : DataW.trod enc Try.prog W 0 (fun _ => true) true fuel 43 v.cells.toList = some x) (hw : ∀ m ∈ x.1.weights Try.prog 43, m ≤ reachBytes) :
    ∃ s : S, v = .agg s.vals.toArray ∧ s.ok W := by
  obtain ⟨cs, rfl, hsz⟩ := okWide_struct Try.underlying43 hv
  obtain ⟨s, h1, h2⟩ := trod_step h hw
  refine ⟨s, ?_, h2⟩
  have h3 : cs.toList = s.vals := h1
  rw [← h3, Array.toArray_toList]
/-- A list of steps that lies there. -/
def RdS (W : World) (A : Option Addr) (l : List S) : Prop := 0 < l.length → ∃ b off, A = some ⟨b, off, none⟩ ∧ b < W.heap.size ∧ ∀ i (h : i < l.length) (j : Nat) (v : Value), (l[i]).vals[j]? = some v → W.cell? ⟨b, off + i * 5 + j, none⟩ = some v
set_option maxRecDepth 100000 in
theorem steps_of {fuel : Nat} {v : Value} {x : DataW H × List MemPlace} (h : DataW.trod enc Try.prog W 0 (fun _ => true) true fuel 52 [v] = some x) (hw : ∀ m ∈ x.1.weights Try.prog 52, m ≤ reachBytes) :
    ∃ A n c l, v = .slice A n c ∧ List.length l = n ∧ n ≤ c ∧ c ≤ maxLen ∧ (A = none → c = 0) ∧ RdS W A l ∧ ∀ a ∈ l, S.ok W a := by
  rcases open_slice Try.underlying52 h with ⟨hcs, _⟩ | ⟨a, l, c, m, f, D, Pl, hcs, _, hl, hm, hmm, hx, hcell⟩
  · simp at hcs
    exact ⟨none, 0, 0, [], hcs, rfl, Nat.le_refl _, by simp [maxLen], fun _ => rfl, fun h => absurd h (by simp), fun s hs => by cases hs⟩
  · simp at hcs hmm
    subst hmm
    have hC : Try.prog.cellsOf 43 = 5 := by kernel_rfl
    rw [hC] at hcell
    have key : ∀ i, ∃ z : S, i < l → (z.ok W ∧ ∀ (j : Nat) v, z.vals[j]? = some v → W.cell? (a.add (i * 5 + j)) = some v) := by
      intro i
      by_cases hi : i < l
      rotate_left
      · exact ⟨⟨0, ⟨#[]⟩, ⟨#[]⟩, none, 0, 0, [], 0⟩, fun h => absurd h hi⟩
      obtain ⟨cs, hc, ht⟩ := hcell i (by omega)
      obtain ⟨_, hcl, hat⟩ := World.cells?_some hc
      obtain ⟨s, hs1, hs2⟩ := trod_step ht (fun q hq => by
        subst hx
        refine hw _ ?_
        rw [DataW.weights, Try.underlying52]
        simp only
        exact List.mem_cons_of_mem _ (List.mem_append_left _ (weights_all (List.mem_map.2 ⟨i, List.mem_range.2 hi, rfl⟩) _ hq)))
      refine ⟨s, fun _ => ⟨hs2, fun j v hj => ?_⟩⟩
      have hj5 : j < 5 := by
        obtain ⟨h, _⟩ := List.getElem?_eq_some_iff.1 hj
        exact h
      have h1 := hat j hj5
      rw [Go.Deep.add_add] at h1
      rw [h1, hs1, hj]
    obtain ⟨S, hS⟩ := Classical.axiomOfChoice key
    have hlen : ((List.range l).map S).length = l := by simp
    refine ⟨some a, l, m, (List.range l).map S, hcs, hlen, hl, hm, (fun h => by cases h), fun h0 => ?_, fun s hs => ?_⟩
    · rw [hlen] at h0
      obtain ⟨b, off, spot⟩ := a
      have hc0 := (hS 0 h0).2 0 _ rfl
      have hspot : spot = none := by simpa [Addr.add] using World.cell?_spot hc0
      subst hspot
      rw [addoff] at hc0
      refine ⟨b, off, rfl, block_lt hc0, fun i hi j v hj => ?_⟩
      rw [hlen] at hi
      have h1 := (hS i hi).2 j v (by simpa using hj)
      rw [addoff, ← Nat.add_assoc] at h1
      exact h1
    · obtain ⟨i, hi, rfl⟩ := List.mem_map.1 hs
      exact (hS i (List.mem_range.1 hi)).1
end
end Go.Proofs.Ytcfglgejjmapdaa
