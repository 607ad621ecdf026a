/- A row appended to a row of one, in place or anew. -/
import Derived.Test.YtccofgdcpmplmaaGreatDoorEnv
import Derived.Deep.RegionLaw
import Derived.Maps.AppendAt
namespace Go.Proofs.YtccofgdcpmplmaaGreatDoor
open Go Go.RowKit Go.Shelf
/-- All blocks but one hold what they held. -/
structure Sv (b : Nat) (W W' : World) : Prop where
  os : W'.os = W.os
  tape : W'.tape = W.tape
  output : W'.output = W.output
  size : W.heap.size ≤ W'.heap.size
  keep : ∀ k, k < W.heap.size → k ≠ b → W'.heap[k]? = W.heap[k]?
theorem Sv.below {b B : Nat} {W W' : World} (h : Sv b W W') (h1 : B ≤ b) (h2 : B ≤ W.heap.size) : Below B W W' := ⟨h.os, h.tape, h.output, h.size, fun k hk => h.keep k (by omega) (by omega)⟩
theorem Sv.of_below {b B : Nat} {W W' : World} (h : Below B W W') (hb : W.heap.size ≤ B) : Sv b W W' := ⟨h.os, h.tape, h.output, h.size, fun k hk _ => h.block k (by omega)⟩
theorem Sv.set (W : World) (p : Addr) (v : Value) : Sv p.block W (W.setCell p v) := ⟨rfl, rfl, rfl, by simp [World.setCell], fun k _ hn => Below.heap_setCell _ _ _ _ hn⟩
theorem Sv.heap {b k : Nat} {W W' : World} {o : Obj} (h : Sv b W W') (hn : k ≠ b) (hk : W.heap[k]? = some o) : W'.heap[k]? = some o := (h.keep k (Array.getElem?_eq_some_iff.1 hk).1 hn).trans hk
theorem Sv.cell {b : Nat} {W W' : World} (h : Sv b W W') {p : Addr} (hp : p.block < W.heap.size) (hn : p.block ≠ b) : W'.cell? p = W.cell? p := by
  simp only [World.cell?, h.keep p.block hp hn]
theorem RdI.sv {b : Nat} {W W' : World} {G : Nat} {l : List Ins} (h : RdI W (some ⟨G, 0, none⟩) l) (hn : G ≠ b) (hs : Sv b W W') : RdI W' (some ⟨G, 0, none⟩) l := fun h0 => by
  obtain ⟨b', off, e, hlt, hc⟩ := h h0
  cases e
  exact ⟨G, 0, rfl, Nat.lt_of_lt_of_le hlt hs.size, fun i hi j hj => (hs.cell (p := ⟨G, 0 + i * 4 + j, none⟩) hlt hn).trans (hc i hi j hj)⟩
theorem RdP.sv {b : Nat} {W W' : World} {G : Nat} {l : List Pr} (h : RdP W (some ⟨G, 0, none⟩) l) (hn : G ≠ b) (hs : Sv b W W') : RdP W' (some ⟨G, 0, none⟩) l := fun h0 => by
  obtain ⟨b', off, e, hlt, hc⟩ := h h0
  cases e
  exact ⟨G, 0, rfl, Nat.lt_of_lt_of_le hlt hs.size, fun i hi j hj => (hs.cell (p := ⟨G, 0 + i * 3 + j, none⟩) hlt hn).trans (hc i hi j hj)⟩
theorem ins_info : (Tryz.prog.info? 42).map (fun i => (i.zero, i.size, i.bytes)) = some (some (.agg #[.int .i64 0, .int .i64 0, .int .i64 0, .int .i64 0]), 4, 32) := by kernel_rfl
theorem prs_info : (Tryz.prog.info? 39).map (fun i => (i.zero, i.size, i.bytes)) = some (some (.agg #[.int .i64 0, .int .i64 0, .slice none 0 0]), 3, 40) := by kernel_rfl
def insC (l : List Ins) : List Value := l.flatMap fun x => [x.cell 0, x.cell 1, x.cell 2, x.cell 3]
def prsC (l : List Pr) : List Value := l.flatMap fun x => [x.cell 0, x.cell 1, x.cell 2]
theorem insC_len (l : List Ins) : (insC l).length = l.length * 4 := by
  induction l with
  | nil => rfl
  | cons x r ih => simp only [insC, List.flatMap_cons, List.length_append, List.length_cons, List.length_nil] at *; omega
theorem prsC_len (l : List Pr) : (prsC l).length = l.length * 3 := by
  induction l with
  | nil => rfl
  | cons x r ih => simp only [prsC, List.flatMap_cons, List.length_append, List.length_cons, List.length_nil] at *; omega
theorem insC_get {l : List Ins} {i j : Nat} (hi : i < l.length) (hj : j < 4) : (insC l)[i * 4 + j]? = some (l[i].cell j) := by
  induction l generalizing i with
  | nil => cases hi
  | cons x r ih =>
    have e : insC (x :: r) = [x.cell 0, x.cell 1, x.cell 2, x.cell 3] ++ insC r := by simp [insC]
    rw [e]
    cases i with
    | zero =>
      rw [List.getElem?_append_left (by simp; omega)]
      rcases j with _ | _ | _ | _ | j <;> first | rfl | omega
    | succ i =>
      rw [List.getElem?_append_right (by simp; omega)]
      have h := ih (i := i) (by simpa using hi)
      rw [show (i + 1) * 4 + j - [x.cell 0, x.cell 1, x.cell 2, x.cell 3].length = i * 4 + j by simp; omega]
      simpa using h
theorem prsC_get {l : List Pr} {i j : Nat} (hi : i < l.length) (hj : j < 3) : (prsC l)[i * 3 + j]? = some (l[i].cell j) := by
  induction l generalizing i with
  | nil => cases hi
  | cons x r ih =>
    have e : prsC (x :: r) = [x.cell 0, x.cell 1, x.cell 2] ++ prsC r := by simp [prsC]
    rw [e]
    cases i with
    | zero =>
      rw [List.getElem?_append_left (by simp; omega)]
      rcases j with _ | _ | _ | j <;> first | rfl | omega
    | succ i =>
      rw [List.getElem?_append_right (by simp; omega)]
      have h := ih (i := i) (by simpa using hi)
      rw [show (i + 1) * 3 + j - [x.cell 0, x.cell 1, x.cell 2].length = i * 3 + j by simp; omega]
      simpa using h
theorem Ins.one (x : Ins) (j : Nat) : (x.cell j).oneCell' = true := by
  rcases j with _ | _ | _ | j <;> rfl
theorem Pr.one (x : Pr) (j : Nat) : (x.cell j).oneCell' = true := by
  rcases j with _ | _ | j <;> rfl
theorem insC_one (l : List Ins) : ∀ u ∈ insC l, u.oneCell' = true := by
  intro u hu
  simp only [insC, List.mem_flatMap] at hu
  obtain ⟨x, _, hx⟩ := hu
  simp only [List.mem_cons, List.not_mem_nil, or_false] at hx
  rcases hx with rfl | rfl | rfl | rfl <;> exact x.one _
theorem prsC_one (l : List Pr) : ∀ u ∈ prsC l, u.oneCell' = true := by
  intro u hu
  simp only [prsC, List.mem_flatMap] at hu
  obtain ⟨x, _, hx⟩ := hu
  simp only [List.mem_cons, List.not_mem_nil, or_false] at hx
  rcases hx with rfl | rfl | rfl <;> exact x.one _
theorem RdI.news {w : World} {a : Addr} {l : List Ins} (h : RdI w (some a) l) : ∀ j u, (insC l)[j]? = some u → w.cell? (a.add j) = some u := by
  intro j u hj
  have hlt : j < l.length * 4 := by have := (List.getElem?_eq_some_iff.1 hj).1; rwa [insC_len] at this
  obtain ⟨b, off, e, _, hc⟩ := h (by omega)
  cases e
  have h1 := insC_get (l := l) (i := j / 4) (j := j % 4) (by omega) (by omega)
  rw [show j / 4 * 4 + j % 4 = j by omega, hj] at h1
  cases h1
  have h2 := hc (j / 4) (by omega) (j % 4) (by omega)
  rw [show off + j / 4 * 4 + j % 4 = off + j by omega] at h2
  rw [addoff]
  exact h2
theorem RdP.news {w : World} {a : Addr} {l : List Pr} (h : RdP w (some a) l) : ∀ j u, (prsC l)[j]? = some u → w.cell? (a.add j) = some u := by
  intro j u hj
  have hlt : j < l.length * 3 := by have := (List.getElem?_eq_some_iff.1 hj).1; rwa [prsC_len] at this
  obtain ⟨b, off, e, _, hc⟩ := h (by omega)
  cases e
  have h1 := prsC_get (l := l) (i := j / 3) (j := j % 3) (by omega) (by omega)
  rw [show j / 3 * 3 + j % 3 = j by omega, hj] at h1
  cases h1
  have h2 := hc (j / 3) (by omega) (j % 3) (by omega)
  rw [show off + j / 3 * 3 + j % 3 = off + j by omega] at h2
  rw [addoff]
  exact h2
theorem own_rdI {w : World} {base G c n : Nat} {l : List Ins} (h : w.ownsRow base 42 4 (.slice (some ⟨G, 0, none⟩) n c) n (insC l)) : RdI w (some ⟨G, 0, none⟩) l := fun h0 => by
  have hl := h.1
  rw [insC_len] at hl
  refine ⟨G, 0, rfl, (h.lt G rfl).2, fun i hi j hj => ?_⟩
  rw [h.cellAt (0 + i * 4 + j) (by omega), Nat.zero_add]
  exact insC_get hi hj
theorem own_rdP {w : World} {base G c n : Nat} {l : List Pr} (h : w.ownsRow base 39 3 (.slice (some ⟨G, 0, none⟩) n c) n (prsC l)) : RdP w (some ⟨G, 0, none⟩) l := fun h0 => by
  have hl := h.1
  rw [prsC_len] at hl
  refine ⟨G, 0, rfl, (h.lt G rfl).2, fun i hi j hj => ?_⟩
  rw [h.cellAt (0 + i * 3 + j) (by omega), Nat.zero_add]
  exact prsC_get hi hj
theorem own_slice {w : World} {base size n g : Nat} {e : TypeId} {v : Value} {xs : List Value} (h : w.ownsRow base e size v n xs) (hn : 0 < n) : ∃ G c, v = .slice (some ⟨G, 0, none⟩) n c ∧ n ≤ c ∧ c ≤ maxLen := by
  rcases h.2 with ⟨_, h0⟩ | ⟨G, c, cur, hv, _, _, h1, h2, _⟩
  · omega
  · exact ⟨G, c, hv, h1, h2⟩
theorem Sv.of_grown {w w' : World} {g : Nat} (h : w.grownBy w' (some g)) : Sv g w w' := ⟨h.os, h.tape, h.output, h.size, fun k hk hn => h.block k hk (fun e => hn (by cases e; rfl))⟩
end Go.Proofs.YtccofgdcpmplmaaGreatDoor
