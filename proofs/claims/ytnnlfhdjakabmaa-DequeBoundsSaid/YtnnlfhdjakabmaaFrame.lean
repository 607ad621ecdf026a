/- What the rows of this seat share. -/
import Derived.Test.YtnnlfhdjakabmaaWorks
import Derived.Test.YtnnlfhdjakabmaaRows
import Derived.ProofKit
import Derived.OpenShut
import Derived.ShutString
import Derived.ChangeOld
import Derived.Deep.DeepHandedRow
import Derived.Deep.Strs
namespace Go.Proofs.Ytnnlfhdjakabmaa
open Go Go.RowKit
open Go.ChangeShapes Go.WideShapes Go.ChangeAt Go.Deep
theorem own : ownKnob Try.prog.godebug = none := by kernel_rfl
theorem laidOut : laidOutB Try.prog = true := by kernel_rfl
theorem cells9 : Try.prog.cellsOf 9 = 1 := by kernel_rfl
theorem wf_i64 {z : Int} (h : (Lit.int .i64 z).wf = true) : -9223372036854775808 ≤ z ∧ z ≤ 9223372036854775807 := by
  simp [Lit.wf, show IntKind.i64.min = -9223372036854775808 from rfl, show IntKind.i64.max = 9223372036854775807 from rfl] at h
  omega
theorem block_lt {W : World} {b off : Nat} {v : Value} (h : W.cell? ⟨b, off, none⟩ = some v) : b < W.heap.size := by
  rcases Nat.lt_or_ge b W.heap.size with h1 | h1
  · exact h1
  · simp [World.cell?, Array.getElem?_eq_none h1] at h
section
variable {H : Type} {enc : TypeId × Value → H} {W : World}
theorem weights_all {e : TypeId} {d : DataW H} : ∀ {l : List (DataW H)}, d ∈ l → ∀ m ∈ d.weights Try.prog e, m ∈ DataW.weightsAll Try.prog e l
  | [], h => by cases h
  | x :: r, h => fun m hm => by
    rw [DataW.weightsAll]
    rcases List.mem_cons.1 h with rfl | h
    · exact List.mem_append_left _ hm
    · exact List.mem_append_right _ (weights_all h m hm)
/-- An argument of texts. -/
theorem strs_of {fuel : Nat} {v : Value} {x : DataW H × List MemPlace} (h : DataW.trod enc Try.prog W 0 (fun _ => true) true fuel 29 [v] = some x) (hw : ∀ m ∈ x.1.weights Try.prog 29, m ≤ reachBytes) :
    ∃ A n c ls, v = .slice A n c ∧ List.length ls = n ∧ n ≤ c ∧ c ≤ maxLen ∧ (A = none → c = 0) ∧ RdV W A (cellsS ls) ∧ ∀ s ∈ ls, s.size ≤ 140737488351232 := by
  rcases open_strs Try.underlying29 Try.underlying9 cells9 h with ⟨hcs, _⟩ | ⟨a, l, c, m, S, hcs, _, hl, hm, hmm, hx, hcell⟩
  · simp at hcs
    exact ⟨none, 0, 0, [], hcs, rfl, Nat.le_refl _, by simp [maxLen], fun _ => rfl, RdV.nil _ _, fun s hs => by cases hs⟩
  · simp at hcs hmm
    subst hmm
    have hlen : ((List.range l).map S).length = l := by simp
    refine ⟨some a, l, m, (List.range l).map S, hcs, hlen, hl, hm, (fun h => by cases h), fun h0 => ?_, fun s hs => ?_⟩
    · rw [cellsS_len, hlen] at h0
      obtain ⟨b, off, spot⟩ := a
      have hc0 := (hcell 0 (by omega)).1
      have hspot : spot = none := by simpa [Addr.add] using World.cell?_spot hc0
      subst hspot
      rw [addoff] at hc0
      refine ⟨b, off, rfl, block_lt hc0, fun j hj => ?_⟩
      rw [cellsS_len, hlen] at hj
      have h1 := (hcell j (by omega)).1
      rw [addoff] at h1
      rw [h1]
      simp [cellsS]
    · obtain ⟨i, hi, rfl⟩ := List.mem_map.1 hs
      subst hx
      refine hw _ ?_
      rw [DataW.weights, Try.underlying29]
      simp only
      refine List.mem_cons_of_mem _ (List.mem_append_left _ (weights_all (List.mem_map.2 ⟨i, hi, rfl⟩) _ ?_))
      rw [DataW.weights]
      have h2 : (S i).data.toList.length = (S i).size := by rw [Array.length_toList]; rfl
      rw [h2]
      exact List.mem_singleton.2 rfl
/-- The weights of one argument. -/
theorem weight_at {ts : List TypeId} {ds : List (DataW H)} (h : (DataW.weightsEach Try.prog ts ds).all (· ≤ reachBytes) = true) : ∀ {j : Nat} {t : TypeId} {d : DataW H}, ts[j]? = some t → ds[j]? = some d → ∀ m ∈ d.weights Try.prog t, m ≤ reachBytes := by
  induction ts generalizing ds with
  | nil => intro j t d h; simp at h
  | cons t0 ts ih =>
    cases ds with
    | nil => intro j t d _ h; simp at h
    | cons d0 ds =>
      rw [DataW.weightsEach, List.all_append, Bool.and_eq_true] at h
      intro j t d ht hd m hm
      cases j with
      | zero =>
        simp at ht hd
        subst ht; subst hd
        exact of_decide_eq_true (List.all_eq_true.1 h.1 m hm)
      | succ j => exact ih h.2 (by simpa using ht) (by simpa using hd) m hm
end

end Go.Proofs.Ytnnlfhdjakabmaa
