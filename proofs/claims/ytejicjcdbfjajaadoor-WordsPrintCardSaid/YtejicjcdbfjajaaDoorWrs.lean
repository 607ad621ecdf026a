/- The words of a text as a row that is read. -/
import Derived.Test.YtejicjcdbfjajaaDoorLex
import Derived.Test.YtejicjcdbfjajaaDoorWds
namespace Go.Proofs.YtejicjcdbfjajaaDoor
open Go Go.RowKit
def wrI (x : Itm) : Wr := match x.o with
  | none => ⟨0, ⟨#[]⟩, 0, x.at_⟩
  | some (k, t, n, _) => ⟨k, ofL t, n, x.at_⟩
theorem wdV_wr (x : Itm) : (wdV x.at_ x.o).toList = [(wrI x).cell 0, (wrI x).cell 1, (wrI x).cell 2, (wrI x).cell 3] := by
  rcases x with ⟨a, _ | ⟨k, t, n, e⟩⟩ <;> rfl
theorem wdsC_cons (x : Itm) (xs : List Itm) : wdsC (x :: xs) = (wdV x.at_ x.o).toList ++ wdsC xs := by
  simp [wdsC]
theorem wdsC_at : ∀ (xs : List Itm) (i : Nat) (h : i < xs.length) (j : Nat), j < 4 → (wdsC xs)[i * 4 + j]? = some ((wrI xs[i]).cell j)
  | [], i, h, _, _ => by simp at h
  | x :: xs, 0, _, j, hj => by
    rw [wdsC_cons, wdV_wr]
    match j, hj with
    | 0, _ => rfl
    | 1, _ => rfl
    | 2, _ => rfl
    | 3, _ => rfl
  | x :: xs, i + 1, h, j, hj => by
    rw [wdsC_cons, wdV_wr, List.getElem?_append_right (by simp; omega)]
    have h2 := wdsC_at xs i (by simpa using h) j hj
    have e : (i + 1) * 4 + j - [(wrI x).cell 0, (wrI x).cell 1, (wrI x).cell 2, (wrI x).cell 3].length = i * 4 + j := by simp; omega
    rw [e, h2]
    rfl
theorem own_rdA {W : World} {base : Nat} {v : Value} {xs : List Itm} (h : W.ownsRow base 31 4 v xs.length (wdsC xs)) :
    ∃ A c, v = .slice A (xs.map wrI).length c ∧ (xs.map wrI).length ≤ c ∧ (A = none → c = 0) ∧ c ≤ maxLen ∧ RdA W A (xs.map wrI) := by
  rw [List.length_map]
  rcases h.2 with ⟨rfl, h0⟩ | ⟨g, cap, cur, rfl, -, hblk, hcap, hm, hcs, hcut⟩
  · have hn : xs = [] := List.eq_nil_of_length_eq_zero (by simpa using h0)
    subst hn
    exact ⟨none, 0, rfl, Nat.le_refl _, fun _ => rfl, by simp [maxLen], fun h => absurd h (by simp)⟩
  · refine ⟨_, cap, rfl, hcap, (fun e => by cases e), hm, fun h0 => ⟨g, 0, rfl, (Array.getElem?_eq_some_iff.1 hblk).1, fun i hi j hj => ?_⟩⟩
    rw [List.length_map] at hi
    have h1 := wdsC_at xs i hi j hj
    have hl := (List.getElem?_eq_some_iff.1 h1).1
    rw [← hcut, List.getElem?_take_of_lt (by have := h.1; rw [← hcut] at hl; simp at hl; omega)] at h1
    rw [Nat.zero_add, Lib.cell_of_heap hblk]
    rw [List.getElem_map]
    simpa using h1
end Go.Proofs.YtejicjcdbfjajaaDoor
