/- Lists of texts, as they are read, cut, appended and compared. -/
import Derived.Test.YtnnlfhdjakabmaaChecked
import Derived.WalkKit
import Derived.WalkSpells
import Derived.WalkLawsBesides
import Derived.Outline
import Derived.Lib.Hide
import Derived.BigQuiet
import Derived.Deep.QuietTactic
import Derived.RegionTactic
import Derived.ChangeAlike
import Derived.Laws.AppendOwnNone
import Derived.Laws.BytesArg
import Derived.Laws.IdiomStrings
import Derived.Lib.AppendStr
import Derived.OwnWalk
import Derived.OneCell
import Derived.Shelf.RegionOpen
import Derived.RangeFuncNested
import Derived.Deep.RegionHeld3
namespace Go.Proofs.Ytnnlfhdjakabmaa
open Go Go.RowKit
theorem add0 (g j : Nat) : (⟨g, 0, none⟩ : Addr).add j = ⟨g, j, none⟩ := by unfold Addr.add; split <;> simp_all
theorem addoff (g o j : Nat) : (⟨g, o, none⟩ : Addr).add j = ⟨g, o + j, none⟩ := by unfold Addr.add; split <;> simp_all
theorem add_zero (x : Addr) : x.add 0 = x := by simp [Addr.add]
def cellsS (l : List ByteArray) : List Value := l.map Value.string
theorem cellsS_one (l : List ByteArray) : ∀ u ∈ cellsS l, u.oneCell' = true := by
  intro u hu
  obtain ⟨b, _, rfl⟩ := List.mem_map.1 hu
  rfl
theorem cellsS_len (l : List ByteArray) : (cellsS l).length = l.length := by simp [cellsS]
theorem cellsS_app (a b : List ByteArray) : cellsS (a ++ b) = cellsS a ++ cellsS b := by simp [cellsS]
/-- A slice's elements, one cell each, as they are read. -/
def RdV (w : World) (A : Option Addr) (xs : List Value) : Prop := 0 < xs.length → ∃ b off, A = some ⟨b, off, none⟩ ∧ b < w.heap.size ∧ ∀ j (h : j < xs.length), w.cell? ⟨b, off + j, none⟩ = some xs[j]
theorem RdV.below {w w' : World} {A : Option Addr} {xs : List Value} (h : RdV w A xs) (hb : Below w.heap.size w w') : RdV w' A xs := fun h0 => by
  obtain ⟨b, off, rfl, hlt, hc⟩ := h h0
  exact ⟨b, off, rfl, Nat.lt_of_lt_of_le hlt hb.size, fun j hj => (hb.cell (p := ⟨b, off + j, none⟩) hlt).trans (hc j hj)⟩
theorem RdV.nil (w : World) (A : Option Addr) : RdV w A [] := fun h => absurd h (by simp)
theorem RdV.news {w : World} {ad : Addr} {xs : List Value} (h : RdV w (some ad) xs) : ∀ j u, xs[j]? = some u → w.cell? (ad.add j) = some u := fun j u hu => by
  obtain ⟨hj, he⟩ := List.getElem?_eq_some_iff.1 hu
  obtain ⟨b, off, hA, hlt, hc⟩ := h (by omega)
  cases hA
  rw [addoff, hc j hj, he]
/-- What a slice of one's own reads as. -/
theorem own_rdV {w : World} {base : Nat} {e : TypeId} {v : Value} {n : Nat} {xs : List Value} (h : w.ownsRow base e 1 v n xs) :
    ∃ A c, v = .slice A n c ∧ n ≤ c ∧ (A = none → c = 0) ∧ c ≤ maxLen ∧ RdV w A xs := by
  have hlt := h.lt
  have hl := h.1
  rcases h.2 with ⟨rfl, rfl⟩ | ⟨g, cap, cur, rfl, hg, hh, hn, hm, _⟩
  · have : xs = [] := by simpa using hl
    subst this
    exact ⟨none, 0, rfl, Nat.le_refl _, fun _ => rfl, by simp [maxLen], RdV.nil _ _⟩
  · refine ⟨_, cap, rfl, hn, (fun h => by cases h), hm, fun _ => ⟨g, 0, rfl, (hlt g rfl).2, fun j hj => ?_⟩⟩
    have := h.cells (g := g) rfl j xs[j] (by simp [hj])
    rw [add0] at this
    rw [Nat.zero_add]; exact this
theorem own_below {w w' : World} {base n : Nat} {e : TypeId} {v : Value} {xs : List Value} (h : w.ownsRow base e 1 v n xs) (hb : Below w.heap.size w w') : w'.ownsRow base e 1 v n xs :=
  h.kept (row := none) ⟨hb.os, hb.tape, hb.output, hb.size, fun k hk _ => hb.block k hk⟩ (by cases v.ownBlock <;> simp)
theorem own_down {w : World} {base base' n : Nat} {e : TypeId} {v : Value} {xs : List Value} (h : w.ownsRow base e 1 v n xs) (hb : base' ≤ base) : w.ownsRow base' e 1 v n xs := by
  refine ⟨h.1, ?_⟩
  rcases h.2 with h2 | ⟨g, cap, cur, rfl, hg, r⟩
  · exact .inl h2
  · exact .inr ⟨g, cap, cur, rfl, by omega, r⟩
theorem own_new (w : World) (e : TypeId) (xs : List Value) (base : Nat) (hb : base ≤ w.heap.size) (hm : xs.length ≤ maxLen) (h0 : 0 < xs.length) : (w.alloc (.cells xs.toArray e)).ownsRow base e 1 (.slice (some ⟨w.heap.size, 0, none⟩) xs.length xs.length) xs.length xs :=
  ⟨by simp, .inr ⟨w.heap.size, xs.length, xs.toArray, rfl, hb, heap_alloc_new w _, Nat.le_refl _, hm, by simp, by simp⟩⟩
/-- The address of what is left behind the first elements. -/
def subA (A : Option Addr) (k c : Nat) : Option Addr := if c = k then A else A.map (·.add k)
theorem subA_none {A : Option Addr} {k c : Nat} (h : A = none → c = 0) : subA A k c = none → c - k = 0 := by
  unfold subA
  split
  · intro h1; have := h h1; omega
  · intro h1
    cases A with
    | none => have := h rfl; omega
    | some a => cases h1
theorem RdV.drop {w : World} {A : Option Addr} {xs : List Value} (h : RdV w A xs) (k c : Nat) (hc : xs.length ≤ c) : RdV w (subA A k c) (xs.drop k) := fun h0 => by
  rw [List.length_drop] at h0
  obtain ⟨b, off, rfl, hlt, hcell⟩ := h (by omega)
  refine ⟨b, off + k, ?_, hlt, fun j hj => ?_⟩
  · unfold subA
    rw [if_neg (by omega)]
    simp [addoff]
  · rw [List.getElem_drop, Nat.add_assoc, hcell (k + j) (by rw [List.length_drop] at hj; omega)]
theorem RdV.take {w : World} {A : Option Addr} {xs : List Value} (h : RdV w A xs) (k : Nat) : RdV w A (xs.take k) := fun h0 => by
  rw [List.length_take] at h0
  obtain ⟨b, off, rfl, hlt, hcell⟩ := h (by omega)
  exact ⟨b, off, rfl, hlt, fun j hj => by rw [List.getElem_take, hcell j (by rw [List.length_take] at hj; omega)]⟩
section
variable {P : Program} {w : World} {ops : Array Oper} {rest : List Oper} {o : Oper} {a : Act} {Q : Exit → Act → World → Prop}
theorem wpList_slice_hi (hg : o.guard = none) (x y : Operand) (t e : TypeId) (ho : o.op = .slice t x none (some y) none) (ht : P.underlying t = some (.slice e)) (hs : (sizeOf e).run P w = .ok 1 w)
    (A : Option Addr) (n c : Nat) (hx : a.eval x = .slice A n c) (k : IntKind) (H : Nat) (hy : a.eval y = .int k (H : Int)) (hH : H ≤ c) (hK : wpList P ops Q rest (a.put o.dst (.slice A H c)) w) : wpList P ops Q (o :: rest) a w := by
  refine wpList_plain hg fun K hK' => ?_
  have he : P.elem t = e := by simp [Program.elem, ht]
  have hrun := run_slice_h (P := P) w t A n c (by rw [he]; exact ht) k (H : Int) (by omega) (by omega)
  rw [he, hs] at hrun
  have hz : (if c = 0 then A else Option.map (fun x => x.add 0) A) = A := by
    split
    · rfl
    · cases A <;> simp [add_zero]
  unfold Oper.wp
  simp only [execOp, ho, Sem.run_bind, Sem.run_pure, Result.andThen_ok, hx, Option.map_none, Option.map_some, hy]
  rw [run_sliceAt_slice (h := by rw [he]; exact ht)]
  rw [hrun]
  simp only [Result.andThen_ok, sliced, Nat.zero_mul, hz, Nat.sub_zero, Int.toNat_natCast, Oper.upon_value]
  exact hK' _ _ hK
theorem wpList_slice_lo (hg : o.guard = none) (x y : Operand) (t e : TypeId) (ho : o.op = .slice t x (some y) none none) (ht : P.underlying t = some (.slice e)) (hs : (sizeOf e).run P w = .ok 1 w)
    (A : Option Addr) (n c : Nat) (hx : a.eval x = .slice A n c) (k : IntKind) (L : Nat) (hy : a.eval y = .int k (L : Int)) (hL : L ≤ n) (hK : wpList P ops Q rest (a.put o.dst (.slice (subA A L c) (n - L) (c - L))) w) : wpList P ops Q (o :: rest) a w := by
  refine wpList_plain hg fun K hK' => ?_
  have he : P.elem t = e := by simp [Program.elem, ht]
  have hrun := run_slice_l (P := P) w t A n c (by rw [he]; exact ht) k (L : Int) (by omega) (by omega)
  rw [he, hs] at hrun
  unfold Oper.wp
  simp only [execOp, ho, Sem.run_bind, Sem.run_pure, Result.andThen_ok, hx, Option.map_none, Option.map_some, hy]
  rw [run_sliceAt_slice (h := by rw [he]; exact ht)]
  rw [hrun]
  simp only [Result.andThen_ok, sliced, Nat.mul_one, Int.toNat_natCast, Oper.upon_value]
  exact hK' _ _ hK
theorem wpList_slice_lh (hg : o.guard = none) (x y z : Operand) (t e : TypeId) (ho : o.op = .slice t x (some y) (some z) none) (ht : P.underlying t = some (.slice e)) (hs : (sizeOf e).run P w = .ok 1 w)
    (A : Option Addr) (n c : Nat) (hx : a.eval x = .slice A n c) (k k' : IntKind) (L H : Nat) (hy : a.eval y = .int k (L : Int)) (hz : a.eval z = .int k' (H : Int)) (hL : L ≤ H) (hH : H ≤ c) (hK : wpList P ops Q rest (a.put o.dst (.slice (subA A L c) (H - L) (c - L))) w) : wpList P ops Q (o :: rest) a w := by
  refine wpList_plain hg fun K hK' => ?_
  have he : P.elem t = e := by simp [Program.elem, ht]
  have hrun := run_slice_lh (P := P) w t A n c (by rw [he]; exact ht) k k' (L : Int) (H : Int) (by omega) (by omega) (by omega)
  rw [he, hs] at hrun
  unfold Oper.wp
  simp only [execOp, ho, Sem.run_bind, Sem.run_pure, Result.andThen_ok, hx, Option.map_none, Option.map_some, hy, hz]
  rw [run_sliceAt_slice (h := by rw [he]; exact ht)]
  rw [hrun]
  simp only [Result.andThen_ok, sliced, Nat.mul_one, Int.toNat_natCast, Oper.upon_value]
  exact hK' _ _ hK
/-- What is appended may be nil, empty, or cells that are there. -/
theorem wpList_append_src (hg : o.guard = none) (s x : Operand) (t : TypeId) (ho : o.op = .call { callee := .builtin .append, args := #[s, x], argTypes := #[t, t] })
    (base : Nat) (e : TypeId) (i : TypeInfo) (z : Value) (bytes : Nat) (ht : P.underlying t = some (.slice e)) (hi : P.info? e = some i) (hz : i.zero = some z) (hsize : i.size = 1) (hby : i.bytes = bytes) (hzs : z.cells.size = 1)
    (v : Value) (n : Nat) (xs : List Value) (hs : a.eval s = v) (hown : w.ownsRow base e 1 v n xs) (A : Option Addr) (c : Nat) (news : List Value) (hx : a.eval x = .slice A news.length c)
    (hr : RdV w A news) (hn : A = none → c = 0) (hc : news.length ≤ c) (h1 : ∀ u ∈ news, u.oneCell' = true) (b1 : n + news.length ≤ maxLen) (b2 : (n + news.length) * bytes ≤ 140737488355328) (hb : base ≤ w.heap.size)
    (hK : ∀ v' w', w'.ownsRow base e 1 v' (n + news.length) (xs ++ news) → w.grownBy w' v.ownBlock → wpList P ops Q rest (a.put o.dst v') w') : wpList P ops Q (o :: rest) a w := by
  cases A with
  | none =>
    have hc0 := hn rfl
    have hnil : news = [] := List.eq_nil_of_length_eq_zero (by omega)
    subst hnil
    subst hc0
    refine wpList_append_own_none hg s x t ho base e i 1 ht hi v n xs hs hown hx ?_
    refine hK v w ?_ ⟨rfl, rfl, rfl, Nat.le_refl _, fun _ _ _ => rfl⟩
    rw [List.append_nil]
    exact hown
  | some ad =>
    exact wpList_append_own w hg s x t ho base e i z 1 bytes ht hi hz hsize hby hzs (by omega) v n xs hs hown ad news.length c news hx (by omega) hr.news h1 b1 b2 hb (fun v' w' h1 h2 _ => hK v' w' h1 h2)
end
theorem RdV.at {w : World} {A : Option Addr} {xs : List Value} (h : RdV w A xs) {k : Nat} (hk : k < xs.length) : ∃ b off, A = some ⟨b, off, none⟩ ∧ b < w.heap.size ∧ w.cell? ⟨b, off + k, none⟩ = some xs[k] := by
  obtain ⟨b, off, rfl, hlt, hc⟩ := h (by omega)
  exact ⟨b, off, rfl, hlt, hc k hk⟩
theorem rdS_at {w : World} {A : Option Addr} {ls : List ByteArray} (h : RdV w A (cellsS ls)) {k : Nat} (hk : k < ls.length) : ∃ b off, A = some ⟨b, off, none⟩ ∧ b < w.heap.size ∧ w.cell? ⟨b, off + k, none⟩ = some (.string ls[k]) := by
  obtain ⟨b, off, rfl, hlt, hc⟩ := h.at (k := k) (by rw [cellsS_len]; exact hk)
  exact ⟨b, off, rfl, hlt, by rw [hc]; simp [cellsS]⟩
theorem list_at {α : Type} {ls : List α} {k : Nat} (hk : k < ls.length) : ∃ x, ls[k] = x ∧ ls.take (k + 1) = ls.take k ++ [x] := ⟨_, rfl, List.take_succ_eq_append_getElem hk⟩
theorem below_new (w : World) (o : Obj) : Below w.heap.size w (w.alloc o) := (Below.refl _ _).alloc (Nat.le_refl _) _
theorem below_any {B : Nat} {w w' : World} (m : Nat) (h : Below B w w') : Below B w (w'.drewN m) := ⟨h.os, h.tape, h.output, h.size, h.block⟩
theorem str_info : (Try.prog.info? 9).map (fun i => (i.zero, i.size, i.bytes)) = some (some (.string ⟨#[]⟩), 1, 16) := by kernel_rfl
theorem own_empty (w : World) (e : TypeId) (base : Nat) (hb : base ≤ w.heap.size) : (w.alloc (.cells #[] e)).ownsRow base e 1 (.slice (some ⟨w.heap.size, 0, none⟩) 0 0) 0 [] :=
  ⟨by simp, .inr ⟨w.heap.size, 0, #[], rfl, hb, heap_alloc_new w _, Nat.le_refl _, by simp [maxLen], by simp, by simp⟩⟩
theorem new_rdS (w : World) (ls : List ByteArray) : RdV (w.alloc (.cells (cellsS ls).toArray 9)) (some ⟨w.heap.size, 0, none⟩) (cellsS ls) := fun h0 => by
  refine ⟨_, 0, rfl, by simp, fun j hj => ?_⟩
  have h := heap_alloc_new w (.cells (cellsS ls).toArray 9)
  unfold World.cell?
  rw [h]
  simp [hj]
def spare : ByteArray := { data := #[115, 112, 97, 114, 101] }
theorem sz9 (w : World) : (sizeOf 9).run Try.prog w = .ok 1 w := by simp [sizeOf, typeInfo, go_sem]; rfl
section
variable {P : Program} {w : World} {ops : Array Oper} {rest : List Oper} {o : Oper} {a : Act} {Q : Exit → Act → World → Prop}
theorem wpList_want (hw : Region.wanted o (yielded ops a.tmps) = true)
    (h : ∀ K : Act → World → Prop, (∀ a w, wpList P ops Q rest a w → K a w) → o.wp P a w K Q) : wpList P ops Q (o :: rest) a w := by
  unfold wpList
  rw [if_pos hw]
  exact .inl (h _ fun _ _ h => h)
end
section
variable {w : World} {ops : Array Oper} {rest : List Oper} {o : Oper} {a : Act} {Q : Exit → Act → World → Prop}
/-- A slice of texts made longer or shorter, within its room. -/
theorem wpList_upS (hw : Region.wanted o (yielded ops a.tmps) = true) (x y : Operand) (ho : o.op = .slice 29 x none (some y) none)
    (A : Option Addr) (n c : Nat) (hx : a.eval x = .slice A n c) (H : Nat) (hy : a.eval y = .int .i64 (H : Int)) (hH : H ≤ c)
    (hK : wpList Try.prog ops Q rest (a.put o.dst (.slice A H c)) w) : wpList Try.prog ops Q (o :: rest) a w := by
  refine wpList_want hw fun K hK' => ?_
  have he : Try.prog.elem 29 = 9 := by simp [Program.elem, Try.underlying29]
  have hrun := run_slice_h (P := Try.prog) w 29 A n c (by rw [he]; exact Try.underlying29) .i64 (H : Int) (by omega) (by omega)
  rw [he, sz9] at hrun
  have hz : (if c = 0 then A else Option.map (fun x => x.add 0) A) = A := by
    split
    · rfl
    · cases A <;> simp [add_zero]
  unfold Oper.wp
  simp only [execOp, ho, Sem.run_bind, Sem.run_pure, Result.andThen_ok, hx, Option.map_none, Option.map_some, hy]
  rw [run_sliceAt_slice (h := by rw [he]; exact Try.underlying29)]
  rw [hrun]
  simp only [Result.andThen_ok, sliced, Nat.zero_mul, hz, Nat.sub_zero, Int.toNat_natCast, Oper.upon_value]
  exact hK' _ _ hK
/-- Texts that are appended to a row of texts. -/
theorem wpList_strs (hg : o.guard = none) (s x : Operand) (ho : o.op = .call { callee := .builtin .append, args := #[s, x], argTypes := #[29, 29] })
    (base : Nat) (v : Value) (l : List ByteArray) (N : Nat) (hN : l.length = N) (hs : a.eval s = v) (hown : w.ownsRow base 9 1 v N (cellsS l)) (A : Option Addr) (n c : Nat) (m : List ByteArray) (hm : m.length = n) (hx : a.eval x = .slice A n c)
    (hr : RdV w A (cellsS m)) (hn : A = none → c = 0) (hc : n ≤ c) (b1 : N + n ≤ 1000000) (hb : base ≤ w.heap.size)
    (hK : ∀ v' w', w'.ownsRow base 9 1 v' (N + n) (cellsS (l ++ m)) → Below base w w' → w.heap.size ≤ w'.heap.size → wpList Try.prog ops Q rest (a.put o.dst v') w') : wpList Try.prog ops Q (o :: rest) a w := by
  obtain ⟨i0, hi, hz0, hz1, hz2⟩ := info_parts str_info
  have hcl := cellsS_len m
  refine wpList_append_src hg s x 29 ho base 9 i0 _ 16 Try.underlying29 hi hz0 hz1 hz2 rfl v N (cellsS l) hs hown A c (cellsS m) (by rw [hcl, hm]; exact hx) hr hn (by omega) (cellsS_one m) (by simp only [maxLen]; omega) (by omega) hb (fun v' w' h1 h2 => hK v' w' ?_ ?_ h2.size)
  · rw [cellsS_app, ← hm, ← hcl]
    exact h1
  · exact (Below.refl base w).grown h2 hb (fun k hk => (hown.lt k hk).1)
end
/-- A copy of texts with one more behind it. -/
theorem copy_formS {w : World} {base : Nat} {v : Value} {l : List ByteArray} {x : ByteArray} {n m : Nat} (h : w.ownsRow base 9 1 v m (cellsS ([] ++ l ++ [x]))) (hn : l.length = n) (hm : m = n + 1) :
    ∃ b off c, v = .slice (some ⟨b, off, none⟩) (n + 1) c ∧ n + 1 ≤ c ∧ b < w.heap.size ∧ base ≤ b ∧ RdV w (some ⟨b, off, none⟩) (cellsS l) ∧ w.cell? ⟨b, off + n, none⟩ = some (.string x) := by
  subst hm
  have hbase := fun b hb => (h.lt b hb).1
  obtain ⟨A, c, rfl, h1, h2, _, h3⟩ := own_rdV h
  obtain ⟨b, off, rfl, hlt, hc⟩ := h3 (by rw [cellsS_len]; simp)
  refine ⟨b, off, c, rfl, h1, hlt, hbase b rfl, ?_, ?_⟩
  · have := h3.take n
    rwa [List.nil_append, cellsS, ← List.map_take, List.take_left' hn] at this
  · have := hc n (by rw [cellsS_len]; simp [hn])
    rw [this]
    simp [cellsS, hn]
theorem drew_two (w : World) (q r : Nat) : (w.drewN q).drewN r = w.drewN (q + r) := by unfold World.drewN; simp [Nat.add_assoc]
/-- Are two lists the same? -/
def eqS (a b : List ByteArray) : Bool := decide (a = b)
theorem eqS_len {a b : List ByteArray} (h : a.length ≠ b.length) : eqS a b = false := by
  simp only [eqS, decide_eq_false_iff_not]
  rintro rfl
  exact h rfl
theorem eqS_yes {a b : List ByteArray} {n : Nat} (ha : a.length = n) (hb : b.length = n) (h : a.take n = b.take n) : eqS a b = true := by
  rw [List.take_of_length_le (by omega), List.take_of_length_le (by omega)] at h
  simp [eqS, h]
theorem eqS_no {a b : List ByteArray} {k : Nat} {x y : ByteArray} (ha : k < a.length) (hb : k < b.length) (hx : a.take (k + 1) = a.take k ++ [x]) (hy : b.take (k + 1) = b.take k ++ [y]) (h : x ≠ y) : eqS a b = false := by
  simp only [eqS, decide_eq_false_iff_not]
  rintro rfl
  rw [hx] at hy
  exact h (by simpa using hy)
theorem bytes_ne {x y : ByteArray} (h : ¬ x = y) : (x.toList == y.toList) = false := by
  rw [beq_eq_false_iff_ne]
  intro e
  rw [ByteArray.toList_eq, ByteArray.toList_eq] at e
  obtain ⟨x⟩ := x
  obtain ⟨y⟩ := y
  exact h (by congr 1; exact Array.toList_inj.1 e)
theorem eqS_refl (a : List ByteArray) : eqS a a = true := by simp [eqS]
theorem own_keepc {A A' : World} {B n : Nat} {e : TypeId} {v : Value} {xs : List Value} {row : Option Nat} (h : A.ownsRow B e 1 v n xs) (hg : A.grownBy A' row) (ht : ∀ r, row = some r → ∃ o : Obj, A.heap[r]? = some o ∧ o.isCells = false) : A'.ownsRow B e 1 v n xs := by
  refine h.kept hg ?_
  rcases h.2 with ⟨rfl, _⟩ | ⟨g, cap, cur, rfl, hb, hgg, rest⟩
  · exact .inl rfl
  · right
    intro e
    obtain ⟨o, ho, hc⟩ := ht g e.symm
    rw [hgg] at ho
    cases ho
    cases hc
theorem cells_keepc {A A' : World} {k : Nat} {c : Array Value} {t : TypeId} {row : Option Nat} (h : A.heap[k]? = some (.cells c t (0, 0))) (hg : A.grownBy A' row) (ht : ∀ r, row = some r → ∃ o : Obj, A.heap[r]? = some o ∧ o.isCells = false) : A'.heap[k]? = some (.cells c t (0, 0)) := by
  refine (hg.block k (Array.getElem?_eq_some_iff.1 h).1 fun e => ?_).trans h
  obtain ⟨o, ho, hc⟩ := ht k e.symm
  rw [h] at ho
  cases ho
  cases hc
theorem ret_bool {a b : Bool} (h : a = b) : Ending.returned (.bool a) = .returned (.bool b) := by rw [h]
theorem ret_i64 {a b : Int} (h : a = b) : Ending.returned (.int .i64 a) = .returned (.int .i64 b) := by rw [h]
theorem Below.drewN' {B : Nat} {a w : World} (h : Below B a w) (n : Nat) : Below B a (w.drewN n) := ⟨h.os, h.tape, h.output, h.size, h.block⟩

end Go.Proofs.Ytnnlfhdjakabmaa
