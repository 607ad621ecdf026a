/- Lists of files, as they are read; a list that grows. -/
import Derived.Test.YtcfglgejjmapdaaRise
import Derived.Maps.AppendAt
import Derived.Laws.OwnMore
namespace Go.Proofs.Ytcfglgejjmapdaa
open Go Go.RowKit Go.Shelf
def F.cell (f : F) : Nat → Value
  | 0 => .string f.name
  | 1 => .string f.bytes
  | _ => .int .i64 f.sync
def F.three (f : F) : List Value := [.string f.name, .string f.bytes, .int .i64 f.sync]
def cellsF (l : List F) : List Value := l.flatMap F.three
theorem cellsF_len (l : List F) : (cellsF l).length = l.length * 3 := by
  induction l with
  | nil => rfl
  | cons a r ih =>
    have h : cellsF (a :: r) = a.three ++ cellsF r := by simp [cellsF]
    rw [h, List.length_append, ih, List.length_cons]
    simp [F.three]
    omega
theorem cellsF_app (a b : List F) : cellsF (a ++ b) = cellsF a ++ cellsF b := by simp [cellsF]
theorem cellsF_one (l : List F) : ∀ u ∈ cellsF l, u.oneCell' = true := by
  intro u hu
  obtain ⟨f, _, h⟩ := List.mem_flatMap.1 hu
  simp [F.three] at h
  rcases h with rfl | rfl | rfl <;> rfl
theorem cellsF_at : ∀ (l : List F) (i : Nat) (h : i < l.length) (j : Nat), j < 3 → (cellsF l)[i * 3 + j]? = some (l[i].cell j)
  | a :: r, 0, _, j, hj => by
    have e : cellsF (a :: r) = a.three ++ cellsF r := by simp [cellsF]
    rw [e, List.getElem?_append_left (by simp [F.three]; omega)]
    match j, hj with
    | 0, _ => rfl
    | 1, _ => rfl
    | 2, _ => rfl
  | a :: r, i + 1, h, j, hj => by
    have e : cellsF (a :: r) = a.three ++ cellsF r := by simp [cellsF]
    rw [e, List.getElem?_append_right (by simp [F.three]; omega)]
    have h3 : a.three.length = 3 := rfl
    rw [h3, show (i + 1) * 3 + j - 3 = i * 3 + j by omega]
    exact cellsF_at r i (by simpa using h) j hj
/-- A slice of files, as it is read. -/
def RdF (W : World) (A : Option Addr) (l : List F) : Prop := 0 < l.length → ∃ b off, A = some ⟨b, off, none⟩ ∧ b < W.heap.size ∧ ∀ i (h : i < l.length) (j : Nat), j < 3 → W.cell? ⟨b, off + i * 3 + j, none⟩ = some (l[i].cell j)
theorem RdF.keep {w w' : World} {A : Option Addr} {l : List F} (h : RdF w A l) (hs : w.heap.size ≤ w'.heap.size) (hk : ∀ b off, A = some ⟨b, off, none⟩ → b < w.heap.size → w'.heap[b]? = w.heap[b]?) : RdF w' A l := fun h0 => by
  obtain ⟨b, off, rfl, hlt, hc⟩ := h h0
  exact ⟨b, off, rfl, Nat.lt_of_lt_of_le hlt hs, fun i hi j hj => (World.cell?_of_block (w := w) (a := ⟨b, off + i * 3 + j, none⟩) (hk b off rfl hlt)).trans (hc i hi j hj)⟩
theorem RdF.below {w w' : World} {A : Option Addr} {l : List F} (h : RdF w A l) (hb : Below w.heap.size w w') : RdF w' A l := h.keep hb.size (fun b _ _ hlt => hb.block b hlt)
theorem RdF.at {w : World} {A : Option Addr} {l : List F} (h : RdF w A l) {k : Nat} (hk : k < l.length) : ∃ b off, A = some ⟨b, off, none⟩ ∧ b < w.heap.size ∧ w.cell? ⟨b, off + k * 3, none⟩ = some (.string l[k].name) ∧ w.cell? ⟨b, off + k * 3 + 1, none⟩ = some (.string l[k].bytes) ∧ w.cell? ⟨b, off + k * 3 + 2, none⟩ = some (.int .i64 l[k].sync) := by
  obtain ⟨b, off, rfl, hlt, hc⟩ := h (by omega)
  exact ⟨b, off, rfl, hlt, hc k hk 0 (by omega), hc k hk 1 (by omega), hc k hk 2 (by omega)⟩
theorem RdF.nil (w : World) (A : Option Addr) : RdF w A [] := fun h => absurd h (by simp)
/-- What a slice of one's own reads as. -/
theorem own_rdF {w : World} {base : Nat} {v : Value} {n : Nat} {l : List F} (h : w.ownsRow base 27 3 v n (cellsF l)) (hn : l.length = n) :
    ∃ A c, v = .slice A n c ∧ n ≤ c ∧ (A = none → c = 0) ∧ c ≤ maxLen ∧ RdF w A l ∧ (∀ ad, A = some ad → ad.spot = none ∧ base ≤ ad.block ∧ ad.block < w.heap.size) := by
  have hlt := h.lt
  rcases h.2 with ⟨rfl, h0⟩ | ⟨g, cap, cur, rfl, hg, hh, hc, hm, _⟩
  · subst h0
    have : l = [] := List.eq_nil_of_length_eq_zero hn
    subst this
    exact ⟨none, 0, rfl, Nat.le_refl _, fun _ => rfl, by simp [maxLen], RdF.nil _ _, fun _ e => by cases e⟩
  · refine ⟨_, cap, rfl, hc, (fun h => by cases h), hm, fun _ => ⟨g, 0, rfl, (hlt g rfl).2, fun i hi j hj => ?_⟩, fun ad e => by cases e; exact ⟨rfl, hlt g rfl⟩⟩
    have := h.cells (g := g) rfl (i * 3 + j) _ (cellsF_at l i hi j hj)
    rw [add0] at this
    rw [Nat.zero_add]
    exact this
theorem file_info : (Try.prog.info? 27).map (fun i => (i.zero, i.size, i.bytes)) = some (some (.agg #[.string ⟨#[]⟩, .string ⟨#[]⟩, .int .i64 0]), 3, 40) := by kernel_rfl
theorem file_parts : ∃ i0 : TypeInfo, Try.prog.info? 27 = some i0 ∧ i0.zero = some (.agg #[.string ⟨#[]⟩, .string ⟨#[]⟩, .int .i64 0]) ∧ i0.size = 3 ∧ i0.bytes = 40 := by
  obtain ⟨i0, hi, hz0, hz1, hz2⟩ := info_parts file_info
  exact ⟨i0, hi, hz0, hz1, hz2⟩
/-- Files appended to a list of one's own. -/
theorem run_files {w : World} (ty base : Nat) (v : Value) (l : List F) (N : Nat) (hN : l.length = N) (hown : w.ownsRow base 27 3 v N (cellsF l)) (A : Option Addr) (n c : Nat) (m : List F) (hm : m.length = n)
    (hr : RdF w A m) (hn : A = none → c = 0) (hc : n ≤ c) (b1 : N + n ≤ 1000000) (hb : base ≤ w.heap.size) (hA : ∀ ad, A = some ad → ad.spot = none) :
    ∃ v' w', (Builtin.append_ #[24, 24] ty #[v, .slice A n c]).run Try.prog w = .ok v' w' ∧ w'.ownsRow base 27 3 v' (N + n) (cellsF (l ++ m)) ∧ w.grownBy w' v.ownBlock ∧ (v'.ownBlock = v.ownBlock ∨ v'.ownBlock = some w.heap.size) := by
  obtain ⟨i0, hi, hz0, hz1, hz2⟩ := file_parts
  have hcl := cellsF_len m
  cases A with
  | some ad =>
    have hnews : ∀ j u, (cellsF m)[j]? = some u → w.cell? (ad.add j) = some u := by
      intro j u hu
      obtain ⟨hj, _⟩ := List.getElem?_eq_some_iff.1 hu
      rw [hcl] at hj
      obtain ⟨b, off, hA2, hlt, hcell⟩ := hr (by omega)
      cases hA2
      rw [addoff]
      have h1 := cellsF_at m (j / 3) (by omega) (j % 3) (by omega)
      have h2 := hcell (j / 3) (by omega) (j % 3) (by omega)
      have h3 : j / 3 * 3 + j % 3 = j := by omega
      rw [h3, hu] at h1
      rw [show off + j / 3 * 3 + j % 3 = off + j by omega] at h2
      rw [h2, ← h1]
    obtain ⟨v', w', hrun, h1, h2, _, h4⟩ := run_append_own_at (P := Try.prog) (w := w) base 24 ty 27 i0 _ 3 40 Try.underlying24 hi hz0 hz1 hz2 rfl (by omega) v N (cellsF l) hown ad n c (cellsF m) (by rw [hcl, hm]) hnews (cellsF_one m) (by simp only [maxLen]; omega) (by omega) hb
    exact ⟨v', w', hrun, by rw [cellsF_app]; exact h1, h2, h4⟩
  | none =>
    have hc0 := hn rfl
    subst hc0
    obtain rfl : n = 0 := by omega
    have hnil : m = [] := List.eq_nil_of_length_eq_zero hm
    subst hnil
    have hrun := run_append_owned_none (P := Try.prog) (w := w) base 24 ty 27 i0 3 Try.underlying24 hi _ N _ hown
    exact ⟨v, w, hrun, by rw [List.append_nil]; exact hown, ⟨rfl, rfl, rfl, Nat.le_refl _, fun _ _ _ => rfl⟩, .inl rfl⟩
theorem new_rdF (w : World) (l : List F) : RdF (w.alloc (.cells (cellsF l).toArray 27)) (some ⟨w.heap.size, 0, none⟩) l := fun h0 => by
  refine ⟨_, 0, rfl, by simp, fun i hi j hj => ?_⟩
  have h := heap_alloc_new w (.cells (cellsF l).toArray 27)
  unfold World.cell?
  rw [h]
  have h1 := cellsF_at l i hi j hj
  simpa using h1
end Go.Proofs.Ytcfglgejjmapdaa
