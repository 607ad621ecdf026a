/- What a crash leaves; what keeps a disk through an iterator's steps. -/
import Derived.Test.YtcfglgejjmapdaaFls
namespace Go.Proofs.Ytcfglgejjmapdaa
open Go Go.RowKit Go.Shelf
/-- How many bytes behind the synced ones a crash keeps. -/
def moreAt (keep : List Int) (i : Nat) (f : F) : Nat := if h : i < keep.length then (min (max keep[i] 0) ((f.bytes.size : Int) - f.sync)).toNat else 0
def cutF (f : F) (m : Nat) : F := ⟨f.name, ⟨((bl f.bytes).take m).toArray⟩, m⟩
def crashAt (keep : List Int) (i : Nat) (f : F) : F := cutF f (f.sync.toNat + moreAt keep i f)
def crashL (keep : List Int) (l : List F) : List F := l.mapIdx (crashAt keep)
theorem crashL_snoc (keep : List Int) (l : List F) (f : F) : crashL keep (l ++ [f]) = crashL keep l ++ [crashAt keep l.length f] := by
  unfold crashL
  rw [List.mapIdx_append]
  simp
theorem crashL_len (keep : List Int) (l : List F) : (crashL keep l).length = l.length := by simp [crashL]
theorem crashL_name (keep : List Int) (l : List F) : (crashL keep l).map F.name = l.map F.name := by
  unfold crashL
  apply List.ext_getElem
  · simp
  · intro i h1 h2
    simp [crashAt, cutF]
theorem moreAt_le {keep : List Int} {i : Nat} {f : F} (h0 : 0 ≤ f.sync) (h1 : f.sync ≤ f.bytes.size) : f.sync.toNat + moreAt keep i f ≤ f.bytes.size := by
  unfold moreAt
  split <;> omega
theorem moreAt_none {keep : List Int} {i : Nat} {f : F} (h : keep.length ≤ i) : moreAt keep i f = 0 := by
  unfold moreAt
  rw [dif_neg (by omega)]
theorem moreAt_neg {keep : List Int} {i : Nat} {f : F} (h : i < keep.length) (h1 : f.sync ≤ f.bytes.size) (hx : keep[i] ≤ 0) : moreAt keep i f = 0 := by
  unfold moreAt
  rw [dif_pos h]
  omega
theorem moreAt_all {keep : List Int} {i : Nat} {f : F} (h : i < keep.length) (h1 : f.sync ≤ f.bytes.size) (hx : 0 < keep[i]) (hd : (f.bytes.size : Int) - f.sync ≤ keep[i]) : (moreAt keep i f : Int) = (f.bytes.size : Int) - f.sync := by
  unfold moreAt
  rw [dif_pos h]
  omega
theorem moreAt_some {keep : List Int} {i : Nat} {f : F} (h : i < keep.length) (hx : 0 < keep[i]) (hd : keep[i] < (f.bytes.size : Int) - f.sync) : (moreAt keep i f : Int) = keep[i] := by
  unfold moreAt
  rw [dif_pos h]
  omega
theorem tw_all {α : Type} {p : α → Bool} : ∀ {l : List α}, (∀ f ∈ l, p f = true) → l.takeWhile p = l ∧ l.dropWhile p = []
  | [], _ => ⟨rfl, rfl⟩
  | a :: r, h => by
    have ih := tw_all (p := p) (l := r) (fun f hf => h f (by simp [hf]))
    have ha := h a (by simp)
    simp [List.takeWhile_cons, List.dropWhile_cons, ha, ih]
theorem wth_last {α : Type} {nm : α → ByteArray} {l : List α} {x : α} (h : ∀ f ∈ l, ltB (nm f) (nm x) = true) : wth nm l x = l ++ [x] := by
  have h1 : drp nm l (nm x) = l := by
    unfold drp
    refine List.filter_eq_self.2 fun f hf => ?_
    simpa using fun e => ltB_ne (h f hf) (bl_inj e)
  unfold wth
  rw [h1]
  rw [(tw_all (p := fun g => ltB (nm g) (nm x)) h).1, (tw_all (p := fun g => ltB (nm g) (nm x)) h).2]
/-- A disk is as it was where one block that is no cells is turned. -/
theorem DK.grownc {T : Nat → Prop} {D M steps : Nat} {gs : List G} {hb : Bool} {rm : Int} {A A' : World} {row : Option Nat} (h : DK T D M gs steps hb rm A) (hg : A.grownBy A' row) (hr : ∀ r, row = some r → r ≠ M ∧ ∃ o : Obj, A.heap[r]? = some o ∧ o.isCells = false) : DK T D M gs steps hb rm A' := by
  have same : ∀ (b : Nat) (x : Array Value) (t : TypeId) (p : Nat × Nat), A.heap[b]? = some (.cells x t p) → A'.heap[b]? = A.heap[b]? := by
    intro b x t p hb
    refine hg.block b (Array.getElem?_eq_some_iff.1 hb).1 fun e => ?_
    obtain ⟨_, o, ho, hc⟩ := hr b e.symm
    rw [hb] at ho
    cases ho
    cases hc
  have hM : A'.heap[M]? = A.heap[M]? := hg.block M (h.lt M h.tM) (fun e => (hr M e.symm).1 rfl)
  refine ⟨(same _ _ _ _ h.disk).trans h.disk, map_keep h.map hM, fun g hgs => (h.files g hgs).keep (same _ _ _ _ (h.files g hgs).cells) (fun r e => ?_) (fun _ x => x), h.rise, h.apart, h.tD, h.tM, fun b hb => Nat.lt_of_lt_of_le (h.lt b hb) hg.size, h.r0, h.r1⟩
  obtain ⟨x, p, hx⟩ := own_type (h.files g hgs) r e
  exact same _ _ _ _ hx
/-- The blocks that a file adds. -/
def addT (T : Nat → Prop) (g : G) (b : Nat) : Prop := T b ∨ b = g.k ∨ g.v.ownBlock = some b
end Go.Proofs.Ytcfglgejjmapdaa
