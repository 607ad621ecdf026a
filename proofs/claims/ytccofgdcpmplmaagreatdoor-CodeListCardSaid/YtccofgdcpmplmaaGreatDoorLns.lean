/- The lines of a text, one behind the other. -/
import Derived.Test.YtccofgdcpmplmaaGreatDoorProg
import Derived.RangeFuncNested
import Derived.RangeFuncBound
import Derived.RangeFuncCalls
import Derived.RangeFuncLeaves
import Derived.RangeFuncFrom
import Derived.Shelf.Abstract
import Derived.Shelf.RegionOpen
import Derived.WalkKit
import Derived.OwnWalkIn
import Derived.TacticsInMore
import Derived.LoopNIn
import Derived.LoopIn
import Derived.Test.YtccofgdcpmplmaaGreatDoorHxs
namespace Go.Proofs.YtccofgdcpmplmaaGreatDoor
open Go Go.RowKit Go.Shelf

/-- The rows that may turn between two rounds: the iterator's own variable C, and walks' objects from B on. -/
def Turns (B C : Nat) (A : World) (row : Option Nat) : Prop := ∀ r, row = some r → r = C ∨ (B ≤ r ∧ ∃ o : Obj, A.heap[r]? = some o ∧ o.isWalk = true)
/-- What is said of the rounds' beginnings stands whatever of these turns. -/
def Stays {β : Type} (B C : Nat) (J : β → World → Prop) : Prop := ∀ s A A' row, J s A → A.grownBy A' row → Turns B C A row → J s A'
/-- The iterator's contract. -/
def SeqC {α : Type} (n : Nat) (P : Program) (gf : Nat) (lb : Array Value) (encs : α → Array Value) (Kp : World → World → Prop) (Ok : List α → α → Prop) (S S1 : List α → Prop) (C : Nat) (w : World) : Prop :=
  ∀ (l : Nat) (J J1 : List α → World → Prop) (W : World), Below w.heap.size w W → Stays W.heap.size C J →
    (∀ pre x W1, Ok pre x → J pre W1 → YieldAt Fence.wide (n - 1) P l (encs x) W1 fun e W' => ((e = .returned (.bool true) ∧ J (pre ++ [x]) W') ∨ (e = .returned (.bool false) ∧ J1 (pre ++ [x]) W')) ∧ Kp W1 W') →
    J [] W → CallsIn Fence.wide n P gf (#[.func (.yield l) #[] #[]] ++ lb) W fun e W' => (∃ v, e = .returned v) ∧ ((∃ xs, S xs ∧ J xs W') ∨ ∃ xs, S1 xs ∧ J1 xs W')
/-- How a round of the body ends. -/
def onPost {α : Type} (Kp : World → World → Prop) (I I1 : List α → World → Prop) (xs : List α) (W : World) : Exit → Act → World → Prop
  | .normal, _, W' => KeepsOthers W W' ∧ Kp W W' ∧ I xs W'
  | .ret, _, W' => KeepsOthers W W' ∧ Kp W W' ∧ I1 xs W'
  | _, _, _ => False

theorem rangeC {α : Type} {n : Nat} {P : Program} {g : Operand} {ps : Array Tmp} {assign body : Code} {Q : Exit → Act → World → Prop} {a : Act} {w : World} (h1 : 1 ≤ n)
    {gf : Nat} {lb : Array Value} (hg : a.eval g = .func (.func gf) #[] lb) (eg : ∀ args w, (callFunc gf args).run P w = .ok (.enter gf args) w)
    {encs : α → Array Value} {Kp : World → World → Prop} {Ok : List α → α → Prop} {S S1 : List α → Prop} {C : Nat} (hC : C < w.heap.size) (hseq : SeqC (n - 1) P gf lb encs Kp Ok S S1 C w)
    (hKt : ∀ {A B D : World}, Kp A B → Kp B D → Kp A D) (hKb : ∀ (W : World) (l : Nat) (o : Obj), w.heap.size ≤ l → Kp W (W.putObj l o)) (hps : ∀ x, (encs x).size = ps.size)
    (I I1 : List α → World → Prop)
    (hI : ∀ s A A' row, I s A → A.grownBy A' row → (∀ r, row = some r → r = C ∨ (w.heap.size ≤ r ∧ ∃ o : Obj, A.heap[r]? = some o ∧ o.isCells = false)) → I s A')
    (hI1 : ∀ s A A' row, I1 s A → A.grownBy A' row → (∀ r, row = some r → r = C ∨ (w.heap.size ≤ r ∧ ∃ o : Obj, A.heap[r]? = some o ∧ o.isCells = false)) → I1 s A') (h0 : I [] w) (a₁ : α → Act)
    (hassign : ∀ (l : Nat) (x : α) (W : World) (K : Act → World → Prop), K (a₁ x) W →
      assign.wpIn (Fence.wide.inRound l) (n - 1 - 1) P (Exit.then K (fun _ _ _ => False)) { tmps := (ps.zip (encs x)).foldl (fun t (p, v) => t.setIfInBounds p v) a.tmps, defers := [] } W)
    (hbody : ∀ (l : Nat) (pre : List α) (x : α) (W : World), Ok pre x → I pre W → body.wpIn (Fence.wide.inRound l) (n - 1 - 1) P (onPost Kp I I1 (pre ++ [x]) W) (a₁ x) W)
    (hdone : ∀ (D : Nat) (xs : List α) (W : World), w.heap.size ≤ D → S xs → I xs W → W.heap[D]? = some (.deferred (some [])) → Q .normal { a with defers := { target := .collected D, args := #[] } :: a.defers } W)
    (hret : ∀ (D : Nat) (xs : List α) (W : World), w.heap.size ≤ D → S1 xs → I1 xs W → W.heap[D]? = some (.deferred (some [])) → Q .ret { a with defers := { target := .collected D, args := #[] } :: a.defers } W) :
    (Code.rangeFunc g ps assign body).wpIn Fence.wide n P Q a w := by
  refine wpIn_rangeFunc fun fn hfn => ?_
  -- the loop's record, at each of its states
  let rec' : LoopState → Option Code → Loop := fun st pe => { state := st, pending := pe, fn, tmps := a.tmps, params := ps, assign, body, defers := w.heap.size }
  have hrun := run_enterLoop_outer (P := P) (w := w) fn a.tmps ps assign body
  generalize hW : (w.alloc (.deferred (some []))).alloc (.loop { state := .ready, pending := none, fn, tmps := a.tmps, params := ps, assign, body, defers := w.heap.size }) = W0 at hrun
  have hsz : W0.heap.size = w.heap.size + 2 := by rw [← hW]; simp
  have hrec : W0.heap[w.heap.size + 1]? = some (.loop (rec' .ready none)) := by rw [← hW]; exact heap_alloc2_new w _ _
  have hdef : W0.heap[w.heap.size]? = some (.deferred (some [])) := by rw [← hW]; exact heap_alloc2_old w _ _
  have hbel : Below w.heap.size w W0 := by rw [← hW]; exact ((Below.refl _ w).alloc (Nat.le_refl _) _).alloc (by simp) _
  have hI0 : I [] W0 := hI _ _ _ none h0 ⟨hbel.os, hbel.tape, hbel.output, hbel.size, fun k hk _ => hbel.block k hk⟩ (fun r e => by cases e)
  refine ⟨w.heap.size + 1, [{ target := .collected w.heap.size, args := #[] }], W0, { target := .fn (.func gf) lb, args := #[.func (.yield (w.heap.size + 1)) #[] #[]] }, W0, gf,
    #[.func (.yield (w.heap.size + 1)) #[] #[]] ++ lb, W0, hrun, ?_, fun _ _ => trivial, by simp [invoke, go_sem, eg], fun _ => h1, ?_⟩
  · simp only [resolve, hg]
    simp [go_sem]
  -- what holds between two rounds: the caller's word, the record ready, the block for deferred calls open
  let J : List α → World → Prop := fun pre W => I pre W ∧ W.heap[w.heap.size + 1]? = some (.loop (rec' .ready none)) ∧ W.heap[w.heap.size]? = some (.deferred (some []))
  let J1 : List α → World → Prop := fun pre W => I1 pre W ∧ W.heap[w.heap.size + 1]? = some (.loop (rec' .done (some .ret))) ∧ W.heap[w.heap.size]? = some (.deferred (some []))
  have stay : Stays W0.heap.size C J := by
    rintro s A A' row ⟨hi, hl, hd⟩ hgr ht
    have other : ∀ k o, A.heap[k]? = some o → o.isWalk = false → k ≠ C → A'.heap[k]? = A.heap[k]? := by
      intro k o hk hw hkC
      refine hgr.block k (Array.getElem?_eq_some_iff.1 hk).1 fun e => ?_
      rcases ht k e.symm with h | ⟨_, o', ho', hw'⟩
      · exact hkC h
      · rw [hk] at ho'
        cases ho'
        rw [hw] at hw'
        cases hw'
    refine ⟨hI s A A' row hi hgr fun r e => ?_, (other _ _ hl rfl (by omega)).trans hl, (other _ _ hd rfl (by omega)).trans hd⟩
    rcases ht r e with h | ⟨hB, o, ho, hw⟩
    · exact .inl h
    · exact .inr ⟨by omega, o, ho, Obj.not_cells_of_walk hw⟩
  have put : ∀ {s : List α} {A : World} {k : Nat} {o : Obj} (o' : Obj), I s A → w.heap.size ≤ k → A.heap[k]? = some o → o.isCells = false → I s (A.putObj k o') :=
    fun o' hi hk ho hc => hI _ _ _ _ hi (grownBy_putObj' _ _ o') (fun r e => by cases e; exact .inr ⟨hk, _, ho, hc⟩)
  have put1 : ∀ {s : List α} {A : World} {k : Nat} {o : Obj} (o' : Obj), I1 s A → w.heap.size ≤ k → A.heap[k]? = some o → o.isCells = false → I1 s (A.putObj k o') :=
    fun o' hi hk ho hc => hI1 _ _ _ _ hi (grownBy_putObj' _ _ o') (fun r e => by cases e; exact .inr ⟨hk, _, ho, hc⟩)
  refine (hseq (w.heap.size + 1) J J1 W0 hbel stay ?_ ⟨hI0, hrec, hdef⟩).mono ?_
  · rintro pre x W hok ⟨hi, hl, hd⟩
    have hlt := (Array.getElem?_eq_some_iff.1 hl).1
    have hbusy : (W.putObj (w.heap.size + 1) (.loop (rec' .busy none))).heap[w.heap.size + 1]? = some (.loop (rec' .busy none)) := World.putObj_heap_same hlt
    have hd2 : (W.putObj (w.heap.size + 1) (.loop (rec' .busy none))).heap[w.heap.size]? = some (.deferred (some [])) := (World.putObj_heap_other (by omega)).trans hd
    refine ⟨fn, _, assign, body, run_yield hl (hps x), roundIn_of_wpIn hfn (hassign _ x W _ ⟨_, run_beginRound hl rfl, ?_⟩)⟩
    refine wpIn_mono (hbody _ pre x _ hok (put _ hi (by omega) hl rfl)) ?_
    rintro e a3 W3 hp
    cases e with
    | normal =>
      obtain ⟨hk3, hkp3, hi3⟩ := hp
      have hl3 := hk3.same _ _ hbusy rfl
      have hd3 := hk3.same _ _ hd2 rfl
      exact ⟨_, _, run_endRound none hl3, .inl ⟨rfl, put _ hi3 (by omega) hl3 rfl, World.putObj_heap_same (Array.getElem?_eq_some_iff.1 hl3).1, (World.putObj_heap_other (by omega)).trans hd3⟩, hKt (hKt (hKb _ _ _ (by omega)) hkp3) (hKb _ _ _ (by omega))⟩
    | ret =>
      obtain ⟨hk3, hkp3, hi3⟩ := hp
      have hl3 := hk3.same _ _ hbusy rfl
      have hd3 := hk3.same _ _ hd2 rfl
      exact ⟨_, _, run_endRound (some .ret) hl3, .inr ⟨rfl, put1 _ hi3 (by omega) hl3 rfl, World.putObj_heap_same (Array.getElem?_eq_some_iff.1 hl3).1, (World.putObj_heap_other (by omega)).trans hd3⟩, hKt (hKt (hKb _ _ _ (by omega)) hkp3) (hKb _ _ _ (by omega))⟩
    | exit id => exact hp.elim
    | goto t => exact hp.elim
    | panic ch => exact hp.elim
    | outgrown => exact hp.elim
  · rintro e W2 ⟨⟨v, rfl⟩, ⟨xs, hS, hi, hl, hd⟩ | ⟨xs, hS, hi, hl, hd⟩⟩
    · exact ⟨none, _, run_endLoop hl (by simp [rec']), hdone _ xs _ (Nat.le_refl _) hS (put _ hi (by omega) hl rfl) ((World.putObj_heap_other (by omega)).trans hd)⟩
    · exact ⟨some .ret, _, run_endLoop hl (by simp [rec']), wpIn_ret (hret _ xs _ (Nat.le_refl _) hS (put1 _ hi (by omega) hl rfl) ((World.putObj_heap_other (by omega)).trans hd))⟩
end Go.Proofs.YtccofgdcpmplmaaGreatDoor
namespace Go.Proofs.YtccofgdcpmplmaaGreatDoor
open Go Go.RowKit Go.Shelf
attribute [local go_sem] Oper.semAt_some
theorem cut_len {s : List UInt8} (h : s ≠ []) : (Lib.cut s [10]).2.1.length < s.length := by
  have h0 : 0 < s.length := List.length_pos_iff.2 h
  unfold Lib.cut
  split
  · simp only [List.length_drop]
    simp
    omega
  · simpa using h0
theorem indexByte_app {l r : List UInt8} (h : (10 : UInt8) ∉ l) : Lib.indexByte (l ++ 10 :: r) 10 = l.length := by
  induction l with
  | nil => simp [Lib.indexByte]
  | cons b t ih =>
    have h1 : b ≠ 10 := fun e => h (by simp [e])
    have h2 := ih (fun e => h (by simp [e]))
    rw [List.cons_append, Lib.indexByte, h2]
    simp [h1]
theorem cut_line {l r : List UInt8} (h : (10 : UInt8) ∉ l) : Lib.cut (l ++ 10 :: r) [10] = (l, r, true) := by
  have h1 : Lib.index (l ++ 10 :: r) [10] = l.length := by rw [Lib.index_one, indexByte_app h]
  unfold Lib.cut
  rw [h1, if_pos (by omega)]
  simp
def linesF : Nat → List UInt8 → List (List UInt8)
  | 0, _ => []
  | k + 1, s => if s = [] then [] else (Lib.cut s [10]).1 :: linesF k (Lib.cut s [10]).2.1
theorem linesF_more (k : Nat) : ∀ (m : Nat) (s : List UInt8), s.length ≤ k → s.length ≤ m → linesF k s = linesF m s := by
  induction k with
  | zero =>
    intro m s h1 h2
    have : s = [] := List.eq_nil_of_length_eq_zero (by omega)
    subst this
    cases m with
    | zero => rfl
    | succ m => simp [linesF]
  | succ k ih =>
    intro m s h1 h2
    by_cases hs : s = []
    · subst hs
      cases m with
      | zero => simp [linesF]
      | succ m => simp [linesF]
    · cases m with
      | zero => exact absurd (List.eq_nil_of_length_eq_zero (by omega)) hs
      | succ m =>
        have h3 := cut_len hs
        simp only [linesF, if_neg hs]
        rw [ih m _ (by omega) (by omega)]
def linesL (s : List UInt8) : List (List UInt8) := linesF s.length s
theorem linesL_nil : linesL [] = [] := rfl
theorem linesL_cons {s : List UInt8} (h : s ≠ []) : linesL s = (Lib.cut s [10]).1 :: linesL (Lib.cut s [10]).2.1 := by
  have h3 := cut_len h
  unfold linesL
  obtain ⟨k, hk⟩ : ∃ k, s.length = k + 1 := ⟨s.length - 1, by omega⟩
  rw [hk]
  simp only [linesF, if_neg h]
  rw [linesF_more k _ _ (by omega) (Nat.le_refl _)]
theorem linesL_app {l r : List UInt8} (h : (10 : UInt8) ∉ l) : linesL (l ++ 10 :: r) = l :: linesL r := by
  rw [linesL_cons (by simp), cut_line h]
theorem bl_ofL' (l : List UInt8) : (ofL l).data.toList = l := by simp [ofL]
theorem lines_any (s : ByteArray) (w : World) :
    Calls Tryz.prog 21 #[.string s] w fun e w' => e = .returned (.func (.func 36) #[] #[.pointer (some ⟨w.heap.size, 0, none⟩)]) ∧ w' = w.alloc (.cells #[.string s] 9) := by
  go_enter Tryz.func21, Tryz.ntmps21
  go_wp2
  go_ret
  exact ⟨rfl, rfl⟩
/-- The text that is left, in block C. -/
def LBox (W : World) (C : Nat) (s : ByteArray) : Prop := W.heap[C]? = some (.cells #[.string s] 9 (0, 0))
theorem LBox.cell {W : World} {C : Nat} {s : ByteArray} (h : LBox W C s) : W.cell? ⟨C, 0, none⟩ = some (.string s) := by rw [cell_of_row W C 0 _ 9 (0, 0) h]; rfl
theorem LBox.frozen {W : World} {C : Nat} {s : ByteArray} (h : LBox W C s) : W.frozen? ⟨C, 0, none⟩ = false := frozen_of_row W C 0 _ 9 h
def leftS (C : Nat) (W : World) : Nat := match W.cell? ⟨C, 0, none⟩ with
  | some (.string s) => s.size
  | _ => 0
theorem LBox.left {W : World} {C : Nat} {s : ByteArray} (h : LBox W C s) : leftS C W = s.size := by rw [leftS, h.cell]
theorem grownBy_set (W : World) (C i : Nat) (v : Value) : W.grownBy (W.setCell ⟨C, i, none⟩ v) (some C) :=
  ⟨rfl, rfl, rfl, by simp [World.setCell], fun k _ hk => heap_setCell_other W _ k v (fun e => hk (by rw [e]))⟩
theorem grownBy_drewN (W : World) (n : Nat) : W.grownBy (W.drewN n) none := ⟨rfl, rfl, rfl, Nat.le_refl _, fun _ _ _ => rfl⟩
set_option maxRecDepth 100000 in
set_option maxHeartbeats 4000000 in
theorem lines_seq (n C : Nat) (s0 : ByteArray) (m : Int) (w : World) (hn : 1 ≤ n) (hs : s0.size ≤ 1000000) (hbox : LBox w C s0) (hml : w.cell? ⟨1, 0, none⟩ = some (.int .i64 m)) (Kp : World → World → Prop) (hKp : ∀ W W', Kp W W' → W'.heap[C]? = W.heap[C]? ∧ W'.cell? ⟨1, 0, none⟩ = W.cell? ⟨1, 0, none⟩) :
    SeqC n Tryz.prog 36 #[.pointer (some ⟨C, 0, none⟩)] (fun x : List UInt8 => #[.string (ofL x)]) Kp (fun pre x => ∃ t, linesL s0.data.toList = pre ++ x :: t) (fun xs => xs = linesL s0.data.toList) (fun xs => ∃ t, linesL s0.data.toList = xs ++ t) C w := by
  intro l J J1 W hb hJ hY h0
  have hC : C < w.heap.size := (Array.getElem?_eq_some_iff.1 hbox).1
  have hbox' : LBox W C s0 := (hb.block C hC).trans hbox
  have hC1 : C ≠ 1 := by
    rintro rfl
    have h1 := hbox.cell
    rw [hml] at h1
    cases h1
  have hml' : W.cell? ⟨1, 0, none⟩ = some (.int .i64 m) := (hb.cell (p := ⟨1, 0, none⟩) (block_lt1 hml)).trans hml
  have HCT : Hid (∀ (s : ByteArray) (A : World), s.size ≤ 1000000 → A.cell? ⟨1, 0, none⟩ = some (.int .i64 m) → Calls Tryz.prog 37 #[.string s, .string { data := #[10] }] A fun e w' => e = .returned (.tuple #[.string (ofL (Lib.cut s.data.toList [10]).1), .string (ofL (Lib.cut s.data.toList [10]).2.1), .bool (Lib.cut s.data.toList [10]).2.2]) ∧ ∃ n, w' = A.drewN n) := Lib.hid (fun s A h1 h2 => Go.Proofs.Tryz.strings_Cut s { data := #[10] } m A (by omega) h2)
  have HY := Lib.hid hY
  have HJ := Lib.hid hJ
  have HKP := Lib.hid hKp
  have HJ0 : Hid (J [] W ∧ linesL s0.data.toList = [] ++ linesL s0.data.toList) := Lib.hid ⟨h0, rfl⟩
  have HB0 := Lib.hid hbox'
  have HM0 := Lib.hid hml'
  clear hY hJ hKp h0 hbox' hml' hbox hml hb
  refine callsIn_of_wp Tryz.func36 rfl trivial ?_
  simp only [Tryz.ntmps36, List.size_toArray, List.length_cons, List.length_nil, Nat.reduceAdd, Nat.reduceSub, Array.replicate_succ, Array.replicate_zero, List.push_toArray, List.append_toArray, List.nil_append, List.cons_append]
  gi_wp2_with fail
  gi_loopw [3] (fun _ wr => ∃ (pre : List (List UInt8)) (r : ByteArray), r.size ≤ 1000000 ∧ Hid (LBox wr C r) ∧ Hid (wr.cell? ⟨1, 0, none⟩ = some (.int .i64 m)) ∧ Hid (J pre wr ∧ linesL s0.data.toList = pre ++ linesL r.data.toList)) (fun _ wr => leftS C wr)
  case atStart => exact ⟨[], s0, hs, HB0, HM0, HJ0⟩
  case round =>
    clear HB0 HM0 HJ0
    obtain ⟨pre, r, hr, HBX, HMX, HJX⟩ := hrel
    have c0 := HBX.out.cell
    by_cases h0 : r.size = 0
    · have he : r = { data := #[] } := by
        cases r with | mk d => cases d with | mk l => cases l with
          | nil => rfl
          | cons a t => simp [ByteArray.size] at h0
      subst he
      have HEND : Hid (J (linesL s0.data.toList) wr) := Lib.hid (by
        have h1 := HJX.out
        rw [show linesL ({ data := #[] } : ByteArray).data.toList = [] from rfl, List.append_nil] at h1
        rw [h1.2]
        exact h1.1)
      gi_wp2_with fail
      go_end0
      exact ⟨⟨_, rfl⟩, .inl HEND.out⟩
    have hne := empty_no h0
    have hrl : r.data.toList ≠ [] := by
      intro e
      have h1 := congrArg List.length e
      rw [Array.length_toList] at h1
      exact h0 h1
    have HLN := Lib.hid (linesL_cons hrl)
    have HLT := Lib.hid (cut_len hrl)
    have HCR := Lib.hid (HCT.out r wr hr HMX.out)
    obtain ⟨c1, hc1⟩ : ∃ c, (Lib.cut r.data.toList [10]).1 = c := ⟨_, rfl⟩
    obtain ⟨c2, hc2⟩ : ∃ c, (Lib.cut r.data.toList [10]).2.1 = c := ⟨_, rfl⟩
    obtain ⟨c3, hc3⟩ : ∃ c, (Lib.cut r.data.toList [10]).2.2 = c := ⟨_, rfl⟩
    rw [hc1, hc2] at HLN
    rw [hc2] at HLT
    rw [hc1, hc2, hc3] at HCR
    clear hrl hc1 hc2 hc3
    gi_wp2_with fail
    refine ⟨trivial, (callsIn_wide.2 HCR.out).mono ?_⟩
    rintro e w3 ⟨rfl, nd, rfl⟩
    have HJD : Hid (J pre (wr.drewN nd)) := Lib.hid (HJ.out _ _ _ none HJX.out.1 (grownBy_drewN wr nd) (fun r e => by cases e))
    have HXD : Hid (LBox (wr.drewN nd) C r) := HBX
    have HMD : Hid ((wr.drewN nd).cell? ⟨1, 0, none⟩ = some (.int .i64 m)) := HMX
    generalize wr.drewN nd = w4 at *
    obtain ⟨fn, tmps, assign, body, hy, hR⟩ := HY.out pre c1 w4 ⟨linesL c2, by rw [HJX.out.2, HLN.out]⟩ HJD.out
    have HR := Lib.hid hR
    clear hR c0 HCR
    gi_wp2_with fail
    refine HR.out.mono ?_
    rintro e W5 ⟨hor, hk5⟩
    obtain ⟨k1, k2⟩ := HKP.out _ _ hk5
    have HX5 : Hid (LBox W5 C r) := Lib.hid (k1.trans HXD.out)
    have HM5 : Hid (W5.cell? ⟨1, 0, none⟩ = some (.int .i64 m)) := Lib.hid (k2.trans HMD.out)
    clear k1 k2 hk5 HR hy
    rcases hor with ⟨rfl, hj5⟩ | ⟨rfl, hj5⟩
    rotate_left
    · have HE5 : Hid (∃ xs, (∃ t, linesL s0.data.toList = xs ++ t) ∧ J1 xs W5) := Lib.hid ⟨pre ++ [c1], ⟨linesL c2, by rw [HJX.out.2, HLN.out]; simp⟩, hj5⟩
      clear hj5
      gi_wp2_with fail
      refine bodyPost_ret (results_none rfl _ _ _) rfl ?_
      exact ⟨⟨_, rfl⟩, .inr HE5.out⟩
    · have c5 := HX5.out.cell
      have f5 := HX5.out.frozen
      have HJ6 : Hid (J (pre ++ [c1]) (W5.setCell ⟨C, 0, none⟩ (.string (ofL c2)))) := Lib.hid (HJ.out _ _ _ (some C) hj5 (grownBy_set W5 C 0 _) (fun r e => by cases e; exact .inl rfl))
      have HX6 : Hid (LBox (W5.setCell ⟨C, 0, none⟩ (.string (ofL c2))) C (ofL c2)) := Lib.hid (heap_setCell_same W5 C 0 _ 9 _ HX5.out)
      have HM6 : Hid ((W5.setCell ⟨C, 0, none⟩ (.string (ofL c2))).cell? ⟨1, 0, none⟩ = some (.int .i64 m)) := Lib.hid (by
        rw [← HM5.out]
        simp only [World.cell?, Below.heap_setCell W5 ⟨C, 0, none⟩ _ 1 (fun e => hC1 e.symm)])
      clear hj5
      gi_wp2_with fail
      refine ⟨⟨pre ++ [c1], ofL c2, ?_, HX6, HM6, Lib.hid ⟨HJ6.out, ?_⟩⟩, ?_⟩
      · rw [size_ofL]
        have h1 := HLT.out
        rw [show r.data.toList.length = r.size from Array.length_toList] at h1
        omega
      · rw [HJX.out.2, HLN.out, bl_ofL']
        simp
      · rw [HX6.out.left, HBX.out.left, size_ofL]
        have h1 := HLT.out
        rw [show r.data.toList.length = r.size from Array.length_toList] at h1
        exact h1
end Go.Proofs.YtccofgdcpmplmaaGreatDoor
