/- A range over a function whose body leaves the loop in its first round. -/
import Derived.Test.YtnnlfhdjakabmaaAllLaw
import Derived.Test.YtnnlfhdjakabmaaPs
namespace Go.Proofs.Ytnnlfhdjakabmaa
open Go Go.RowKit
open Go.Shelf
attribute [local go_sem] Oper.semAt_some
/-- The iterator's contract, where the first round is the last one. -/
def SeqF {α : Type} (n : Nat) (P : Program) (gf : Nat) (lb : Array Value) (encs : α → Array Value) (Kp : World → World → Prop) (x0 : Option α) (w : World) : Prop :=
  ∀ (l : Nat) (J0 J1 : World → Prop) (W : World), Below w.heap.size w W →
    (∀ x W1, x0 = some x → J0 W1 → YieldAt Fence.wide (n - 1) P l (encs x) W1 fun e W' => e = .returned (.bool false) ∧ J1 W' ∧ Kp W1 W') →
    J0 W → CallsIn Fence.wide n P gf (#[.func (.yield l) #[] #[]] ++ lb) W fun e W' => (∃ v, e = .returned v) ∧ (match x0 with | none => J0 W' | some _ => J1 W')
/-- How the round of the body ends. -/
def exPost (id : Nat) (Kp : World → World → Prop) (I1 : World → Prop) (W : World) : Exit → Go.Act → World → Prop
  | .exit i, _, W' => i = id ∧ KeepsOthers W W' ∧ Kp W W' ∧ I1 W'
  | _, _, _ => False
theorem rangeB {α : Type} {n : Nat} {P : Program} {g : Operand} {ps : Array Tmp} {assign body : Code} {Q : Exit → Go.Act → World → Prop} {a : Go.Act} {w : World} (h1 : 1 ≤ n)
    {gf : Nat} {lb : Array Value} (hg : a.eval g = .func (.func gf) #[] lb) (eg : ∀ args w, (callFunc gf args).run P w = .ok (.enter gf args) w)
    {encs : α → Array Value} {Kp : World → World → Prop} {x0 : Option α} (hseq : SeqF (n - 1) P gf lb encs Kp x0 w) (id : Nat)
    (hKt : ∀ {A B D : World}, Kp A B → Kp B D → Kp A D) (hKb : ∀ (W : World) (l : Nat) (o : Obj), w.heap.size ≤ l → Kp W (W.putObj l o)) (hps : ∀ x, (encs x).size = ps.size)
    (I0 I1 : World → Prop)
    (hI0 : ∀ A A' row, I0 A → A.grownBy A' row → (∀ r, row = some r → w.heap.size ≤ r ∧ ∃ o : Obj, A.heap[r]? = some o ∧ o.isCells = false) → I0 A')
    (hI1 : ∀ A A' row, I1 A → A.grownBy A' row → (∀ r, row = some r → w.heap.size ≤ r ∧ ∃ o : Obj, A.heap[r]? = some o ∧ o.isCells = false) → I1 A') (h0 : I0 w) (a₁ : α → Go.Act)
    (hassign : ∀ (l : Nat) (x : α) (W : World) (K : Go.Act → World → Prop), K (a₁ x) W →
      assign.wpIn (Fence.wide.inRound l) (n - 1 - 1) P (Exit.then K (fun _ _ _ => False)) { tmps := (ps.zip (encs x)).foldl (fun t (p, v) => t.setIfInBounds p v) a.tmps, defers := [] } W)
    (hbody : ∀ (l : Nat) (x : α) (W : World), x0 = some x → I0 W → body.wpIn (Fence.wide.inRound l) (n - 1 - 1) P (exPost id Kp I1 W) (a₁ x) W)
    (hnone : x0 = none → ∀ (D : Nat) (W : World), w.heap.size ≤ D → I0 W → W.heap[D]? = some (.deferred (some [])) → Q .normal { a with defers := { target := .collected D, args := #[] } :: a.defers } W)
    (hsome : ∀ x, x0 = some x → ∀ (D : Nat) (W : World), w.heap.size ≤ D → I1 W → W.heap[D]? = some (.deferred (some [])) → Q (.exit id) { a with defers := { target := .collected D, args := #[] } :: a.defers } W) :
    (Code.rangeFunc g ps assign body).wpIn Fence.wide n P Q a w := by
  refine wpIn_rangeFunc fun fn hfn => ?_
  let rec' : LoopState → Option Code → Loop := fun st pe => { state := st, pending := pe, fn, tmps := a.tmps, params := ps, assign, body, defers := w.heap.size }
  have hrun := run_enterLoop_outer (P := P) (w := w) fn a.tmps ps assign body
  generalize hW : (w.alloc (.deferred (some []))).alloc (.loop { state := .ready, pending := none, fn, tmps := a.tmps, params := ps, assign, body, defers := w.heap.size }) = W0 at hrun
  have hsz : W0.heap.size = w.heap.size + 2 := by rw [← hW]; simp
  have hrec : W0.heap[w.heap.size + 1]? = some (.loop (rec' .ready none)) := by rw [← hW]; exact heap_alloc2_new w _ _
  have hdef : W0.heap[w.heap.size]? = some (.deferred (some [])) := by rw [← hW]; exact heap_alloc2_old w _ _
  have hbel : Below w.heap.size w W0 := by rw [← hW]; exact ((Below.refl _ w).alloc (Nat.le_refl _) _).alloc (by simp) _
  have hI00 : I0 W0 := hI0 _ _ none h0 ⟨hbel.os, hbel.tape, hbel.output, hbel.size, fun k hk _ => hbel.block k hk⟩ (fun r e => by cases e)
  refine ⟨w.heap.size + 1, [{ target := .collected w.heap.size, args := #[] }], W0, { target := .fn (.func gf) lb, args := #[.func (.yield (w.heap.size + 1)) #[] #[]] }, W0, gf,
    #[.func (.yield (w.heap.size + 1)) #[] #[]] ++ lb, W0, hrun, ?_, fun _ _ => trivial, by simp [invoke, go_sem, eg], fun _ => h1, ?_⟩
  · simp only [resolve, hg]
    simp [go_sem]
  have put0 : ∀ {A : World} {k : Nat} {o : Obj} (o' : Obj), I0 A → w.heap.size ≤ k → A.heap[k]? = some o → o.isCells = false → I0 (A.putObj k o') :=
    fun o' hi hk ho hc => hI0 _ _ _ hi (grownBy_putObj' _ _ o') (fun r e => by cases e; exact ⟨hk, _, ho, hc⟩)
  have put1 : ∀ {A : World} {k : Nat} {o : Obj} (o' : Obj), I1 A → w.heap.size ≤ k → A.heap[k]? = some o → o.isCells = false → I1 (A.putObj k o') :=
    fun o' hi hk ho hc => hI1 _ _ _ hi (grownBy_putObj' _ _ o') (fun r e => by cases e; exact ⟨hk, _, ho, hc⟩)
  refine (hseq (w.heap.size + 1) (fun W => I0 W ∧ W.heap[w.heap.size + 1]? = some (.loop (rec' .ready none)) ∧ W.heap[w.heap.size]? = some (.deferred (some [])))
    (fun W => I1 W ∧ W.heap[w.heap.size + 1]? = some (.loop (rec' .done (some (.exit id)))) ∧ W.heap[w.heap.size]? = some (.deferred (some []))) W0 hbel ?_ ⟨hI00, hrec, hdef⟩).mono ?_
  · rintro x W hx ⟨hi, hl, hd⟩
    have hlt := (Array.getElem?_eq_some_iff.1 hl).1
    have hbusy : (W.putObj (w.heap.size + 1) (.loop (rec' .busy none))).heap[w.heap.size + 1]? = some (.loop (rec' .busy none)) := World.putObj_heap_same hlt
    have hd2 : (W.putObj (w.heap.size + 1) (.loop (rec' .busy none))).heap[w.heap.size]? = some (.deferred (some [])) := (World.putObj_heap_other (by omega)).trans hd
    refine ⟨fn, _, assign, body, run_yield hl (hps x), roundIn_of_wpIn hfn (hassign _ x W _ ⟨_, run_beginRound hl rfl, ?_⟩)⟩
    refine wpIn_mono (hbody _ x _ hx (put0 _ hi (by omega) hl rfl)) ?_
    rintro e a3 W3 hp
    cases e with
    | exit i =>
      obtain ⟨rfl, hk3, hkp3, hi3⟩ := hp
      have hl3 := hk3.same _ _ hbusy rfl
      have hd3 := hk3.same _ _ hd2 rfl
      exact ⟨_, _, run_endRound (some (.exit i)) hl3, rfl, ⟨put1 _ hi3 (by omega) hl3 rfl, World.putObj_heap_same (Array.getElem?_eq_some_iff.1 hl3).1, (World.putObj_heap_other (by omega)).trans hd3⟩, hKt (hKt (hKb _ _ _ (by omega)) hkp3) (hKb _ _ _ (by omega))⟩
    | ret => exact hp.elim
    | normal => exact hp.elim
    | goto t => exact hp.elim
    | panic ch => exact hp.elim
    | outgrown => exact hp.elim
  · rintro e W2 ⟨⟨v, rfl⟩, hm⟩
    cases x0 with
    | none =>
      obtain ⟨hi, hl, hd⟩ := hm
      exact ⟨none, _, run_endLoop hl (by simp [rec']), hnone rfl _ _ (Nat.le_refl _) (put0 _ hi (by omega) hl rfl) ((World.putObj_heap_other (by omega)).trans hd)⟩
    | some x =>
      obtain ⟨hi, hl, hd⟩ := hm
      exact ⟨some (.exit id), _, run_endLoop hl (by simp [rec']), wpIn_exit (hsome x rfl _ _ (Nat.le_refl _) (put1 _ hi (by omega) hl rfl) ((World.putObj_heap_other (by omega)).trans hd))⟩
theorem all_first (n B C E : Nat) (A : Option Addr) (c : Nat) (l : List ByteArray) (w : World) (hn : 1 ≤ n) (hB : B = w.heap.size) (hE : w.heap[E]? = some (.cells #[.slice A l.length c] 29 (0, 0))) (hEC : E ≠ C)
    (hr : RdV w A (cellsS l)) (hl : l.length ≤ 500000) :
    SeqF n Try.prog 49 #[.pointer (some ⟨E, 0, none⟩)] (fun x : Nat × ByteArray => #[.int .i64 x.1, .string x.2]) (Same2 B C C) (l.head?.map fun s => (0, s)) w := by
  intro y J0 J1 W hbel hY h0
  have hc1 := cell_of_one ((hbel.block E (Array.getElem?_eq_some_iff.1 hE).1).trans hE)
  have hrd := hr.below hbel
  have HJ0 := Lib.hid h0
  have HY := Lib.hid hY
  clear hE hbel hY h0 hr
  cases l with
  | nil =>
    refine callsIn_of_wp Try.func49 rfl trivial ?_
    simp only [Try.ntmps49, List.size_toArray, List.length_cons, List.length_nil, Nat.reduceAdd, Nat.reduceSub, Array.replicate_succ, Array.replicate_zero, List.push_toArray, List.append_toArray, List.nil_append, List.cons_append]
    gi_wp2
    clear hc1
    gi_loopw [7] (fun z wr => z = .int .i64 0 ∧ Hid (J0 wr)) (fun z _ => 1 - (intOf z).toNat)
    case atStart => exact ⟨rfl, HJ0⟩
    case round =>
      clear HJ0
      obtain ⟨rfl, HJS⟩ := hrel
      gi_wp2
      go_end0
      exact ⟨⟨_, rfl⟩, HJS.out⟩
  | cons s l =>
    obtain ⟨b, off, rfl, hbb, hca⟩ := rdS_at hrd (k := 0) (by simp)
    simp only [List.getElem_cons_zero, Nat.add_zero] at hca
    have hk1 : (0 : Int) < ((s :: l).length : Int) := by rw [List.length_cons]; omega
    have HRD := Lib.hid hrd
    refine callsIn_of_wp Try.func49 rfl trivial ?_
    simp only [Try.ntmps49, List.size_toArray, List.length_cons, List.length_nil, Nat.reduceAdd, Nat.reduceSub, Array.replicate_succ, Array.replicate_zero, List.push_toArray, List.append_toArray, List.nil_append, List.cons_append]
    gi_wp2
    clear hc1
    gi_loopw [7] (fun z wr => z = .int .i64 0 ∧ wr = W) (fun z _ => 1 - (intOf z).toNat)
    case atStart => exact ⟨rfl, rfl⟩
    case round =>
      obtain ⟨rfl, rfl⟩ := hrel
      obtain ⟨fn, tmps, assign, body, hy, hR⟩ := HY.out (0, s) _ rfl HJ0.out
      change (Instr.yield y #[.int .i64 0, .string s]).run Try.prog _ = _ at hy
      have HRr := Lib.hid hR
      clear hR
      gi_wp2
      refine HRr.out.mono ?_
      rintro e W3 ⟨rfl, hJ3, hk3⟩
      have HJ3 := Lib.hid hJ3
      clear hJ3 hk3 hy HRr hca
      gi_wp2
      exact bodyPost_ret (results_none (by rfl) _ _ _) rfl ⟨⟨_, rfl⟩, HJ3.out⟩
end Go.Proofs.Ytnnlfhdjakabmaa
