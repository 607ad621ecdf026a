/- A range over a function whose iterator makes memory and writes to none that was there, whose items are told of the world at hand, and whose body goes on, or leaves by a return in its last round: the caller's law. -/
import Derived.Test.YtejicjcdbfjajaaDoorProg
import Derived.RangeFuncNested
import Derived.RangeFuncBound
import Derived.RangeFuncCalls
import Derived.RangeFuncLeaves
import Derived.RangeFuncFrom
import Derived.Shelf.Abstract
import Derived.Shelf.RegionOpen
import Derived.WalkKit
import Derived.OwnWalkIn
import Derived.TacticsInMore
import Derived.LoopNIn
import Derived.LoopIn
import Derived.Laws.AppendOwn
namespace Go.Proofs.YtejicjcdbfjajaaDoor
open Go Go.RowKit Go.Shelf

/-- The rows that may turn between two rounds: walks' objects from B on. -/
def Turns (B : Nat) (A : World) (row : Option Nat) : Prop := ∀ r, row = some r → B ≤ r ∧ ∃ o : Obj, A.heap[r]? = some o ∧ o.isWalk = true
/-- What is said of the rounds' beginnings stands whatever of these turns. -/
def Stays {β : Type} (B : Nat) (J : β → World → Prop) : Prop := ∀ s A A' row, J s A → A.grownBy A' row → Turns B A row → J s A'
/-- The iterator's contract: items that go on, and perhaps a last one that ends it. -/
def SeqD {α : Type} (n : Nat) (P : Program) (gf : Nat) (lb : Array Value) (encs : α → Array Value) (Kp : World → World → Prop) (Ok : α → World → Prop) (Last : α → Prop) (S : List α → Prop) (N : Nat) (w : World) : Prop :=
  ∀ (l : Nat) (J J1 : List α → World → Prop) (W : World), Below w.heap.size w W → Stays W.heap.size J →
    (∀ pre x W1, Ok x W1 → J pre W1 → pre.length < N → ¬ Last x → YieldAt Fence.wide (n - 1) P l (encs x) W1 fun e W' => e = .returned (.bool true) ∧ J (pre ++ [x]) W' ∧ Kp W1 W') →
    (∀ pre x W1, Ok x W1 → J pre W1 → pre.length < N → Last x → YieldAt Fence.wide (n - 1) P l (encs x) W1 fun e W' => e = .returned (.bool false) ∧ J1 (pre ++ [x]) W' ∧ Kp W1 W') →
    J [] W → CallsIn Fence.wide n P gf (#[.func (.yield l) #[] #[]] ++ lb) W fun e W' => (∃ v, e = .returned v) ∧ ((∃ xs, S xs ∧ (∀ x ∈ xs, ¬ Last x) ∧ J xs W') ∨ ∃ pre x, S (pre ++ [x]) ∧ (∀ x ∈ pre, ¬ Last x) ∧ Last x ∧ J1 (pre ++ [x]) W')
/-- How a round of the body ends. -/
def onPost {α : Type} (Kp : World → World → Prop) (I : List α → World → Prop) (xs : List α) (W : World) : Exit → Act → World → Prop
  | .normal, _, W' => KeepsOthers W W' ∧ Kp W W' ∧ I xs W'
  | _, _, _ => False
def retPost {α : Type} (Kp : World → World → Prop) (I : List α → World → Prop) (xs : List α) (W : World) : Exit → Act → World → Prop
  | .ret, _, W' => KeepsOthers W W' ∧ Kp W W' ∧ I xs W'
  | _, _, _ => False

theorem rangeD {α : Type} {n : Nat} {P : Program} {g : Operand} {ps : Array Tmp} {assign body : Code} {Q : Exit → Act → World → Prop} {a : Act} {w : World} (h1 : 1 ≤ n)
    {gf : Nat} {lb : Array Value} (hg : a.eval g = .func (.func gf) #[] lb) (eg : ∀ args w, (callFunc gf args).run P w = .ok (.enter gf args) w)
    {encs : α → Array Value} {Kp : World → World → Prop} {Ok : α → World → Prop} {Last : α → Prop} {S : List α → Prop} {N : Nat} (hseq : SeqD (n - 1) P gf lb encs Kp Ok Last S N w)
    (hok : ∀ x A l o o', Ok x A → A.heap[l]? = some o → o.isCells = false → Ok x (A.putObj l o'))
    (hKt : ∀ {A B D : World}, Kp A B → Kp B D → Kp A D) (hKb : ∀ (W : World) (l : Nat) (r : Loop) (o : Obj), w.heap.size ≤ l → W.heap[l]? = some (.loop r) → Kp W (W.putObj l o)) (hKa : ∀ (W : World) (o : Obj), Kp W (W.alloc o)) (hoka : ∀ x A o, Ok x A → Ok x (A.alloc o)) (box : α → Obj) (hbx : ∀ x, (box x).isCells = true) (hps : ∀ x, (encs x).size = ps.size)
    (I I1 : List α → World → Prop)
    (hI : ∀ s A A' row, I s A → A.grownBy A' row → (∀ r, row = some r → w.heap.size ≤ r ∧ ∃ o : Obj, A.heap[r]? = some o ∧ o.isCells = false) → I s A')
    (hI1 : ∀ s A A' row, I1 s A → A.grownBy A' row → (∀ r, row = some r → w.heap.size ≤ r ∧ ∃ o : Obj, A.heap[r]? = some o ∧ o.isCells = false) → I1 s A') (h0 : I [] w) (a₁ : α → Nat → Act)
    (hassign : ∀ (l : Nat) (x : α) (W : World) (K : Act → World → Prop), K (a₁ x W.heap.size) (W.alloc (box x)) →
      assign.wpIn (Fence.wide.inRound l) (n - 1 - 1) P (Exit.then K (fun _ _ _ => False)) { tmps := (ps.zip (encs x)).foldl (fun t (p, v) => t.setIfInBounds p v) a.tmps, defers := [] } W)
    (hbody : ∀ (l b : Nat) (pre : List α) (x : α) (W : World), Ok x W → I pre W → pre.length < N → ¬ Last x → w.heap.size + 2 ≤ b → W.heap[b]? = some (box x) → body.wpIn (Fence.wide.inRound l) (n - 1 - 1) P (onPost Kp I (pre ++ [x]) W) (a₁ x b) W)
    (hlast : ∀ (l b : Nat) (pre : List α) (x : α) (W : World), Ok x W → I pre W → pre.length < N → Last x → w.heap.size + 2 ≤ b → W.heap[b]? = some (box x) → body.wpIn (Fence.wide.inRound l) (n - 1 - 1) P (retPost Kp I1 (pre ++ [x]) W) (a₁ x b) W)
    (hdone : ∀ (D : Nat) (xs : List α) (W : World), w.heap.size ≤ D → S xs → (∀ x ∈ xs, ¬ Last x) → I xs W → W.heap[D]? = some (.deferred (some [])) → Q .normal { a with defers := { target := .collected D, args := #[] } :: a.defers } W)
    (hret : ∀ (D : Nat) (pre : List α) (x : α) (W : World), w.heap.size ≤ D → S (pre ++ [x]) → (∀ x ∈ pre, ¬ Last x) → Last x → I1 (pre ++ [x]) W → W.heap[D]? = some (.deferred (some [])) → Q .ret { a with defers := { target := .collected D, args := #[] } :: a.defers } W) :
    (Code.rangeFunc g ps assign body).wpIn Fence.wide n P Q a w := by
  refine wpIn_rangeFunc fun fn hfn => ?_
  let rec' : LoopState → Option Code → Loop := fun st pe => { state := st, pending := pe, fn, tmps := a.tmps, params := ps, assign, body, defers := w.heap.size }
  have hrun := run_enterLoop_outer (P := P) (w := w) fn a.tmps ps assign body
  generalize hW : (w.alloc (.deferred (some []))).alloc (.loop { state := .ready, pending := none, fn, tmps := a.tmps, params := ps, assign, body, defers := w.heap.size }) = W0 at hrun
  have hsz : W0.heap.size = w.heap.size + 2 := by rw [← hW]; simp
  have hrec : W0.heap[w.heap.size + 1]? = some (.loop (rec' .ready none)) := by rw [← hW]; exact heap_alloc2_new w _ _
  have hdef : W0.heap[w.heap.size]? = some (.deferred (some [])) := by rw [← hW]; exact heap_alloc2_old w _ _
  have hbel : Below w.heap.size w W0 := by rw [← hW]; exact ((Below.refl _ w).alloc (Nat.le_refl _) _).alloc (by simp) _
  have hI0 : I [] W0 := hI _ _ _ none h0 ⟨hbel.os, hbel.tape, hbel.output, hbel.size, fun k hk _ => hbel.block k hk⟩ (fun r e => by cases e)
  refine ⟨w.heap.size + 1, [{ target := .collected w.heap.size, args := #[] }], W0, { target := .fn (.func gf) lb, args := #[.func (.yield (w.heap.size + 1)) #[] #[]] }, W0, gf,
    #[.func (.yield (w.heap.size + 1)) #[] #[]] ++ lb, W0, hrun, ?_, fun _ _ => trivial, by simp [invoke, go_sem, eg], fun _ => h1, ?_⟩
  · simp only [resolve, hg]
    simp [go_sem]
  let J : List α → World → Prop := fun pre W => I pre W ∧ W.heap[w.heap.size + 1]? = some (.loop (rec' .ready none)) ∧ W.heap[w.heap.size]? = some (.deferred (some []))
  let J1 : List α → World → Prop := fun pre W => I1 pre W ∧ W.heap[w.heap.size + 1]? = some (.loop (rec' .done (some .ret))) ∧ W.heap[w.heap.size]? = some (.deferred (some []))
  have stay : Stays W0.heap.size J := by
    rintro s A A' row ⟨hi, hl, hd⟩ hgr ht
    have other : ∀ (k : Nat) (o : Obj), A.heap[k]? = some o → o.isWalk = false → A'.heap[k]? = A.heap[k]? := by
      intro k o hk hw
      refine hgr.block k (Array.getElem?_eq_some_iff.1 hk).1 fun e => ?_
      obtain ⟨_, o', ho', hw'⟩ := ht k e.symm
      rw [hk] at ho'
      cases ho'
      rw [hw] at hw'
      cases hw'
    refine ⟨hI s A A' row hi hgr fun r e => ?_, (other _ _ hl rfl).trans hl, (other _ _ hd rfl).trans hd⟩
    obtain ⟨hB, o, ho, hw⟩ := ht r e
    exact ⟨by omega, o, ho, Obj.not_cells_of_walk hw⟩
  have put : ∀ {s : List α} {A : World} {k : Nat} {o : Obj} (o' : Obj), I s A → w.heap.size ≤ k → A.heap[k]? = some o → o.isCells = false → I s (A.putObj k o') :=
    fun o' hi hk ho hc => hI _ _ _ _ hi (grownBy_putObj' _ _ o') (fun r e => by cases e; exact ⟨hk, _, ho, hc⟩)
  have put1 : ∀ {s : List α} {A : World} {k : Nat} {o : Obj} (o' : Obj), I1 s A → w.heap.size ≤ k → A.heap[k]? = some o → o.isCells = false → I1 s (A.putObj k o') :=
    fun o' hi hk ho hc => hI1 _ _ _ _ hi (grownBy_putObj' _ _ o') (fun r e => by cases e; exact ⟨hk, _, ho, hc⟩)
  refine (hseq (w.heap.size + 1) J J1 W0 hbel stay ?_ ?_ ⟨hI0, hrec, hdef⟩).mono ?_
  · rintro pre x W hokx ⟨hi, hl, hd⟩ hlen hnl
    have hl0 := (Array.getElem?_eq_some_iff.1 hl).1
    have gr0 : W.grownBy (W.alloc (box x)) none := World.grownBy_alloc W (box x) none
    have hl' := (gr0.block _ hl0 (by simp)).trans hl
    have hd' := (gr0.block _ (by omega) (by simp)).trans hd
    have hi' : I pre (W.alloc (box x)) := hI _ _ _ none hi gr0 (fun r e => by cases e)
    have hlt := (Array.getElem?_eq_some_iff.1 hl').1
    have hbusy : ((W.alloc (box x)).putObj (w.heap.size + 1) (.loop (rec' .busy none))).heap[w.heap.size + 1]? = some (.loop (rec' .busy none)) := World.putObj_heap_same hlt
    have hd2 : ((W.alloc (box x)).putObj (w.heap.size + 1) (.loop (rec' .busy none))).heap[w.heap.size]? = some (.deferred (some [])) := (World.putObj_heap_other (by omega)).trans hd'
    have hbox : ((W.alloc (box x)).putObj (w.heap.size + 1) (.loop (rec' .busy none))).heap[W.heap.size]? = some (box x) := (World.putObj_heap_other (by omega)).trans (heap_alloc_new W _)
    refine ⟨fn, _, assign, body, run_yield hl (hps x), roundIn_of_wpIn hfn (hassign _ x W _ ⟨_, run_beginRound hl' rfl, ?_⟩)⟩
    refine wpIn_mono (hbody _ W.heap.size pre x _ (hok x _ _ _ _ (hoka _ _ _ hokx) hl' rfl) (put _ hi' (by omega) hl' rfl) hlen hnl (by omega) hbox) ?_
    rintro e a3 W3 hp
    cases e with
    | normal =>
      obtain ⟨hk3, hkp3, hi3⟩ := hp
      have hl3 := hk3.same _ _ hbusy rfl
      have hd3 := hk3.same _ _ hd2 rfl
      exact ⟨_, _, run_endRound none hl3, rfl, ⟨put _ hi3 (by omega) hl3 rfl, World.putObj_heap_same (Array.getElem?_eq_some_iff.1 hl3).1, (World.putObj_heap_other (by omega)).trans hd3⟩, hKt (hKt (hKt (hKa _ _) (hKb _ _ _ _ (by omega) hl')) hkp3) (hKb _ _ _ _ (by omega) hl3)⟩
    | ret => exact hp.elim
    | exit id => exact hp.elim
    | goto t => exact hp.elim
    | panic ch => exact hp.elim
    | outgrown => exact hp.elim
  · rintro pre x W hokx ⟨hi, hl, hd⟩ hlen hls
    have hl0 := (Array.getElem?_eq_some_iff.1 hl).1
    have gr0 : W.grownBy (W.alloc (box x)) none := World.grownBy_alloc W (box x) none
    have hl' := (gr0.block _ hl0 (by simp)).trans hl
    have hd' := (gr0.block _ (by omega) (by simp)).trans hd
    have hi' : I pre (W.alloc (box x)) := hI _ _ _ none hi gr0 (fun r e => by cases e)
    have hlt := (Array.getElem?_eq_some_iff.1 hl').1
    have hbusy : ((W.alloc (box x)).putObj (w.heap.size + 1) (.loop (rec' .busy none))).heap[w.heap.size + 1]? = some (.loop (rec' .busy none)) := World.putObj_heap_same hlt
    have hd2 : ((W.alloc (box x)).putObj (w.heap.size + 1) (.loop (rec' .busy none))).heap[w.heap.size]? = some (.deferred (some [])) := (World.putObj_heap_other (by omega)).trans hd'
    have hbox : ((W.alloc (box x)).putObj (w.heap.size + 1) (.loop (rec' .busy none))).heap[W.heap.size]? = some (box x) := (World.putObj_heap_other (by omega)).trans (heap_alloc_new W _)
    refine ⟨fn, _, assign, body, run_yield hl (hps x), roundIn_of_wpIn hfn (hassign _ x W _ ⟨_, run_beginRound hl' rfl, ?_⟩)⟩
    refine wpIn_mono (hlast _ W.heap.size pre x _ (hok x _ _ _ _ (hoka _ _ _ hokx) hl' rfl) (put _ hi' (by omega) hl' rfl) hlen hls (by omega) hbox) ?_
    rintro e a3 W3 hp
    cases e with
    | ret =>
      obtain ⟨hk3, hkp3, hi3⟩ := hp
      have hl3 := hk3.same _ _ hbusy rfl
      have hd3 := hk3.same _ _ hd2 rfl
      exact ⟨_, _, run_endRound (some .ret) hl3, rfl, ⟨put1 _ hi3 (by omega) hl3 rfl, World.putObj_heap_same (Array.getElem?_eq_some_iff.1 hl3).1, (World.putObj_heap_other (by omega)).trans hd3⟩, hKt (hKt (hKt (hKa _ _) (hKb _ _ _ _ (by omega) hl')) hkp3) (hKb _ _ _ _ (by omega) hl3)⟩
    | normal => exact hp.elim
    | exit id => exact hp.elim
    | goto t => exact hp.elim
    | panic ch => exact hp.elim
    | outgrown => exact hp.elim
  · rintro e W2 ⟨⟨v, rfl⟩, ⟨xs, hS, hn, hi, hl, hd⟩ | ⟨pre, x, hS, hn, hls, hi, hl, hd⟩⟩
    · exact ⟨none, _, run_endLoop hl (by simp [rec']), hdone _ xs _ (Nat.le_refl _) hS hn (put _ hi (by omega) hl rfl) ((World.putObj_heap_other (by omega)).trans hd)⟩
    · exact ⟨some .ret, _, run_endLoop hl (by simp [rec']), wpIn_ret (hret _ pre x _ (Nat.le_refl _) hS hn hls (put1 _ hi (by omega) hl rfl) ((World.putObj_heap_other (by omega)).trans hd))⟩
end Go.Proofs.YtejicjcdbfjajaaDoor
