/- Slices of one cell an element, as they are read, cut and appended; texts as bytes. -/
import Derived.Test.YthffghegdblljaaGreatChecked
import Derived.WalkKit
import Derived.Lib.Strings
import Derived.Maps.Ext
import Derived.Maps.Views
import Derived.WalkSpells
import Derived.WalkLawsBesides
import Derived.Outline
import Derived.Lib.Hide
import Derived.Lib.ConvBytes
import Derived.BigQuiet
import Derived.Deep.QuietTactic
import Derived.RegionTactic
import Derived.ChangeAlike
import Derived.Laws.AppendOwnNone
import Derived.Laws.BytesArg
import Derived.Laws.IdiomStrings
import Derived.Lib.AppendStr
import Derived.OwnWalk
import Derived.OneCell
import Derived.Deep.RegionHeld3
namespace Go.Proofs.YthffghegdblljaaGreat
open Go Go.RowKit
/-- A text's bytes. -/
abbrev bl (s : ByteArray) : List UInt8 := s.data.toList
theorem bl_inj {a b : ByteArray} (h : bl a = bl b) : a = b := WideShapes.bytes_inj h
def Rd (w : World) (A : Option Addr) (l : List UInt8) : Prop := 0 < l.length → ∃ b off, A = some ⟨b, off, none⟩ ∧ b < w.heap.size ∧ ∀ j (h : j < l.length), w.cell? ⟨b, off + j, none⟩ = some (.int .u8 l[j].toNat)
theorem below_any {B : Nat} {w w' : World} (m : Nat) (h : Below B w w') : Below B w (w'.drewN m) := ⟨h.os, h.tape, h.output, h.size, h.block⟩
theorem below_new (w : World) (o : Obj) : Below w.heap.size w (w.alloc o) := (Below.refl _ _).alloc (Nat.le_refl _) _
theorem add0 (g j : Nat) : (⟨g, 0, none⟩ : Addr).add j = ⟨g, j, none⟩ := by unfold Addr.add; split <;> simp_all
theorem addoff (g o j : Nat) : (⟨g, o, none⟩ : Addr).add j = ⟨g, o + j, none⟩ := by unfold Addr.add; split <;> simp_all
theorem add_zero (x : Addr) : x.add 0 = x := by simp [Addr.add]
def cellB (b : UInt8) : Value := .int .u8 b.toNat
def cellsB (l : List UInt8) : List Value := l.map cellB
def cellsS (l : List ByteArray) : List Value := l.map Value.string
theorem cellsB_one (l : List UInt8) : ∀ u ∈ cellsB l, u.oneCell' = true := by
  intro u hu
  obtain ⟨b, _, rfl⟩ := List.mem_map.1 hu
  rfl
theorem cellsS_one (l : List ByteArray) : ∀ u ∈ cellsS l, u.oneCell' = true := by
  intro u hu
  obtain ⟨b, _, rfl⟩ := List.mem_map.1 hu
  rfl
theorem cellsB_len (l : List UInt8) : (cellsB l).length = l.length := by simp [cellsB]
theorem cellsS_len (l : List ByteArray) : (cellsS l).length = l.length := by simp [cellsS]
theorem cellsB_app (a b : List UInt8) : cellsB (a ++ b) = cellsB a ++ cellsB b := by simp [cellsB]
theorem cellsS_app (a b : List ByteArray) : cellsS (a ++ b) = cellsS a ++ cellsS b := by simp [cellsS]
/-- A slice's elements, one cell each, as they are read. -/
def RdV (w : World) (A : Option Addr) (xs : List Value) : Prop := 0 < xs.length → ∃ b off, A = some ⟨b, off, none⟩ ∧ b < w.heap.size ∧ ∀ j (h : j < xs.length), w.cell? ⟨b, off + j, none⟩ = some xs[j]
theorem RdV.below {w w' : World} {A : Option Addr} {xs : List Value} (h : RdV w A xs) (hb : Below w.heap.size w w') : RdV w' A xs := fun h0 => by
  obtain ⟨b, off, rfl, hlt, hc⟩ := h h0
  exact ⟨b, off, rfl, Nat.lt_of_lt_of_le hlt hb.size, fun j hj => (hb.cell (p := ⟨b, off + j, none⟩) hlt).trans (hc j hj)⟩
theorem Rd.below {w w' : World} {A : Option Addr} {l : List UInt8} (h : Rd w A l) (hb : Below w.heap.size w w') : Rd w' A l := fun h0 => by
  obtain ⟨b, off, rfl, hlt, hc⟩ := h h0
  exact ⟨b, off, rfl, Nat.lt_of_lt_of_le hlt hb.size, fun j hj => (hb.cell (p := ⟨b, off + j, none⟩) hlt).trans (hc j hj)⟩
theorem RdV.nil (w : World) (A : Option Addr) : RdV w A [] := fun h => absurd h (by simp)
theorem Rd.nil (w : World) (A : Option Addr) : Rd w A [] := fun h => absurd h (by simp)
theorem RdV.rd {w : World} {A : Option Addr} {l : List UInt8} (h : RdV w A (cellsB l)) : Rd w A l := fun h0 => by
  obtain ⟨b, off, rfl, hlt, hc⟩ := h (by rw [cellsB_len]; exact h0)
  exact ⟨b, off, rfl, hlt, fun j hj => by rw [hc j (by rw [cellsB_len]; exact hj)]; simp [cellsB, cellB]⟩
theorem Rd.rdV {w : World} {A : Option Addr} {l : List UInt8} (h : Rd w A l) : RdV w A (cellsB l) := fun h0 => by
  rw [cellsB_len] at h0
  obtain ⟨b, off, rfl, hlt, hc⟩ := h h0
  exact ⟨b, off, rfl, hlt, fun j hj => by rw [hc j (by rw [cellsB_len] at hj; exact hj)]; simp [cellsB, cellB]⟩
theorem RdV.news {w : World} {ad : Addr} {xs : List Value} (h : RdV w (some ad) xs) : ∀ j u, xs[j]? = some u → w.cell? (ad.add j) = some u := fun j u hu => by
  obtain ⟨hj, he⟩ := List.getElem?_eq_some_iff.1 hu
  obtain ⟨b, off, hA, hlt, hc⟩ := h (by omega)
  cases hA
  rw [addoff, hc j hj, he]
/-- What a slice of one's own reads as. -/
theorem own_rdV {w : World} {base : Nat} {e : TypeId} {v : Value} {n : Nat} {xs : List Value} (h : w.ownsRow base e 1 v n xs) :
    ∃ A c, v = .slice A n c ∧ n ≤ c ∧ (A = none → c = 0) ∧ c ≤ maxLen ∧ RdV w A xs := by
  have hlt := h.lt
  have hl := h.1
  rcases h.2 with ⟨rfl, rfl⟩ | ⟨g, cap, cur, rfl, hg, hh, hn, hm, _⟩
  · have : xs = [] := by simpa using hl
    subst this
    exact ⟨none, 0, rfl, Nat.le_refl _, fun _ => rfl, by simp [maxLen], RdV.nil _ _⟩
  · refine ⟨_, cap, rfl, hn, (fun h => by cases h), hm, fun _ => ⟨g, 0, rfl, (hlt g rfl).2, fun j hj => ?_⟩⟩
    have := h.cells (g := g) rfl j xs[j] (by simp [hj])
    rw [add0] at this
    rw [Nat.zero_add]; exact this
theorem own_below {w w' : World} {base n : Nat} {e : TypeId} {v : Value} {xs : List Value} (h : w.ownsRow base e 1 v n xs) (hb : Below w.heap.size w w') : w'.ownsRow base e 1 v n xs :=
  h.kept (row := none) ⟨hb.os, hb.tape, hb.output, hb.size, fun k hk _ => hb.block k hk⟩ (by cases v.ownBlock <;> simp)
theorem own_down {w : World} {base base' n : Nat} {e : TypeId} {v : Value} {xs : List Value} (h : w.ownsRow base e 1 v n xs) (hb : base' ≤ base) : w.ownsRow base' e 1 v n xs := by
  refine ⟨h.1, ?_⟩
  rcases h.2 with h2 | ⟨g, cap, cur, rfl, hg, r⟩
  · exact .inl h2
  · exact .inr ⟨g, cap, cur, rfl, by omega, r⟩
theorem own_new (w : World) (e : TypeId) (xs : List Value) (base : Nat) (hb : base ≤ w.heap.size) (hm : xs.length ≤ maxLen) (h0 : 0 < xs.length) : (w.alloc (.cells xs.toArray e)).ownsRow base e 1 (.slice (some ⟨w.heap.size, 0, none⟩) xs.length xs.length) xs.length xs :=
  ⟨by simp, .inr ⟨w.heap.size, xs.length, xs.toArray, rfl, hb, heap_alloc_new w _, Nat.le_refl _, hm, by simp, by simp⟩⟩
/-- The address of what is left behind the first elements. -/
def subA (A : Option Addr) (k c : Nat) : Option Addr := if c = k then A else A.map (·.add k)
theorem subA_none {A : Option Addr} {k c : Nat} (h : A = none → c = 0) : subA A k c = none → c - k = 0 := by
  unfold subA
  split
  · intro h1; have := h h1; omega
  · intro h1
    cases A with
    | none => have := h rfl; omega
    | some a => cases h1
theorem RdV.drop {w : World} {A : Option Addr} {xs : List Value} (h : RdV w A xs) (k c : Nat) (hc : xs.length ≤ c) : RdV w (subA A k c) (xs.drop k) := fun h0 => by
  rw [List.length_drop] at h0
  obtain ⟨b, off, rfl, hlt, hcell⟩ := h (by omega)
  refine ⟨b, off + k, ?_, hlt, fun j hj => ?_⟩
  · unfold subA
    rw [if_neg (by omega)]
    simp [addoff]
  · rw [List.getElem_drop, Nat.add_assoc, hcell (k + j) (by rw [List.length_drop] at hj; omega)]
theorem RdV.take {w : World} {A : Option Addr} {xs : List Value} (h : RdV w A xs) (k : Nat) : RdV w A (xs.take k) := fun h0 => by
  rw [List.length_take] at h0
  obtain ⟨b, off, rfl, hlt, hcell⟩ := h (by omega)
  exact ⟨b, off, rfl, hlt, fun j hj => by rw [List.getElem_take, hcell j (by rw [List.length_take] at hj; omega)]⟩
theorem Rd.drop {w : World} {A : Option Addr} {l : List UInt8} (h : Rd w A l) (k c : Nat) (hc : l.length ≤ c) : Rd w (subA A k c) (l.drop k) := by
  have := RdV.drop h.rdV k c (by rw [cellsB_len]; exact hc)
  refine RdV.rd ?_
  rwa [cellsB, List.map_drop]
theorem Rd.take {w : World} {A : Option Addr} {l : List UInt8} (h : Rd w A l) (k : Nat) : Rd w A (l.take k) := by
  have := RdV.take h.rdV k
  refine RdV.rd ?_
  rwa [cellsB, List.map_take]

section
variable {P : Program} {w : World} {ops : Array Oper} {rest : List Oper} {o : Oper} {a : Act} {Q : Exit → Act → World → Prop}
theorem wpList_slice_hi (hg : o.guard = none) (x y : Operand) (t e : TypeId) (ho : o.op = .slice t x none (some y) none) (ht : P.underlying t = some (.slice e)) (hs : (sizeOf e).run P w = .ok 1 w)
    (A : Option Addr) (n c : Nat) (hx : a.eval x = .slice A n c) (k : IntKind) (H : Nat) (hy : a.eval y = .int k (H : Int)) (hH : H ≤ c) (hK : wpList P ops Q rest (a.put o.dst (.slice A H c)) w) : wpList P ops Q (o :: rest) a w := by
  refine wpList_plain hg fun K hK' => ?_
  have he : P.elem t = e := by simp [Program.elem, ht]
  have hrun := run_slice_h (P := P) w t A n c (by rw [he]; exact ht) k (H : Int) (by omega) (by omega)
  rw [he, hs] at hrun
  have hz : (if c = 0 then A else Option.map (fun x => x.add 0) A) = A := by
    split
    · rfl
    · cases A <;> simp [add_zero]
  unfold Oper.wp
  simp only [execOp, ho, Sem.run_bind, Sem.run_pure, Result.andThen_ok, hx, Option.map_none, Option.map_some, hy]
  rw [run_sliceAt_slice (h := by rw [he]; exact ht)]
  rw [hrun]
  simp only [Result.andThen_ok, sliced, Nat.zero_mul, hz, Nat.sub_zero, Int.toNat_natCast, Oper.upon_value]
  exact hK' _ _ hK
theorem wpList_slice_lo (hg : o.guard = none) (x y : Operand) (t e : TypeId) (ho : o.op = .slice t x (some y) none none) (ht : P.underlying t = some (.slice e)) (hs : (sizeOf e).run P w = .ok 1 w)
    (A : Option Addr) (n c : Nat) (hx : a.eval x = .slice A n c) (k : IntKind) (L : Nat) (hy : a.eval y = .int k (L : Int)) (hL : L ≤ n) (hK : wpList P ops Q rest (a.put o.dst (.slice (subA A L c) (n - L) (c - L))) w) : wpList P ops Q (o :: rest) a w := by
  refine wpList_plain hg fun K hK' => ?_
  have he : P.elem t = e := by simp [Program.elem, ht]
  have hrun := run_slice_l (P := P) w t A n c (by rw [he]; exact ht) k (L : Int) (by omega) (by omega)
  rw [he, hs] at hrun
  unfold Oper.wp
  simp only [execOp, ho, Sem.run_bind, Sem.run_pure, Result.andThen_ok, hx, Option.map_none, Option.map_some, hy]
  rw [run_sliceAt_slice (h := by rw [he]; exact ht)]
  rw [hrun]
  simp only [Result.andThen_ok, sliced, Nat.mul_one, Int.toNat_natCast, Oper.upon_value]
  exact hK' _ _ hK
theorem wpList_slice_lh (hg : o.guard = none) (x y z : Operand) (t e : TypeId) (ho : o.op = .slice t x (some y) (some z) none) (ht : P.underlying t = some (.slice e)) (hs : (sizeOf e).run P w = .ok 1 w)
    (A : Option Addr) (n c : Nat) (hx : a.eval x = .slice A n c) (k k' : IntKind) (L H : Nat) (hy : a.eval y = .int k (L : Int)) (hz : a.eval z = .int k' (H : Int)) (hL : L ≤ H) (hH : H ≤ c) (hK : wpList P ops Q rest (a.put o.dst (.slice (subA A L c) (H - L) (c - L))) w) : wpList P ops Q (o :: rest) a w := by
  refine wpList_plain hg fun K hK' => ?_
  have he : P.elem t = e := by simp [Program.elem, ht]
  have hrun := run_slice_lh (P := P) w t A n c (by rw [he]; exact ht) k k' (L : Int) (H : Int) (by omega) (by omega) (by omega)
  rw [he, hs] at hrun
  unfold Oper.wp
  simp only [execOp, ho, Sem.run_bind, Sem.run_pure, Result.andThen_ok, hx, Option.map_none, Option.map_some, hy, hz]
  rw [run_sliceAt_slice (h := by rw [he]; exact ht)]
  rw [hrun]
  simp only [Result.andThen_ok, sliced, Nat.mul_one, Int.toNat_natCast, Oper.upon_value]
  exact hK' _ _ hK
/-- What is appended may be nil, empty, or cells that are there. -/
theorem wpList_append_src (hg : o.guard = none) (s x : Operand) (t : TypeId) (ho : o.op = .call { callee := .builtin .append, args := #[s, x], argTypes := #[t, t] })
    (base : Nat) (e : TypeId) (i : TypeInfo) (z : Value) (bytes : Nat) (ht : P.underlying t = some (.slice e)) (hi : P.info? e = some i) (hz : i.zero = some z) (hsize : i.size = 1) (hby : i.bytes = bytes) (hzs : z.cells.size = 1)
    (v : Value) (n : Nat) (xs : List Value) (hs : a.eval s = v) (hown : w.ownsRow base e 1 v n xs) (A : Option Addr) (c : Nat) (news : List Value) (hx : a.eval x = .slice A news.length c)
    (hr : RdV w A news) (hn : A = none → c = 0) (hc : news.length ≤ c) (h1 : ∀ u ∈ news, u.oneCell' = true) (b1 : n + news.length ≤ maxLen) (b2 : (n + news.length) * bytes ≤ 140737488355328) (hb : base ≤ w.heap.size)
    (hK : ∀ v' w', w'.ownsRow base e 1 v' (n + news.length) (xs ++ news) → w.grownBy w' v.ownBlock → wpList P ops Q rest (a.put o.dst v') w') : wpList P ops Q (o :: rest) a w := by
  cases A with
  | none =>
    have hc0 := hn rfl
    have hnil : news = [] := List.eq_nil_of_length_eq_zero (by omega)
    subst hnil
    subst hc0
    refine wpList_append_own_none hg s x t ho base e i 1 ht hi v n xs hs hown hx ?_
    refine hK v w ?_ ⟨rfl, rfl, rfl, Nat.le_refl _, fun _ _ _ => rfl⟩
    rw [List.append_nil]
    exact hown
  | some ad =>
    exact wpList_append_own w hg s x t ho base e i z 1 bytes ht hi hz hsize hby hzs (by omega) v n xs hs hown ad news.length c news hx (by omega) hr.news h1 b1 b2 hb (fun v' w' h1 h2 _ => hK v' w' h1 h2)
end
theorem own_empty (w : World) (e : TypeId) (base : Nat) (hb : base ≤ w.heap.size) : (w.alloc (.cells #[] e)).ownsRow base e 1 (.slice (some ⟨w.heap.size, 0, none⟩) 0 0) 0 [] :=
  ⟨by simp, .inr ⟨w.heap.size, 0, #[], rfl, hb, heap_alloc_new w _, Nat.le_refl _, by simp [maxLen], by simp, by simp⟩⟩
theorem rdS_at {w : World} {A : Option Addr} {ls : List ByteArray} (h : RdV w A (cellsS ls)) {k : Nat} (hk : k < ls.length) : ∃ b off, A = some ⟨b, off, none⟩ ∧ b < w.heap.size ∧ w.cell? ⟨b, off + k, none⟩ = some (.string ls[k]) := by
  obtain ⟨b, off, rfl, hlt, hc⟩ := h (by rw [cellsS_len]; omega)
  exact ⟨b, off, rfl, hlt, by rw [hc k (by rw [cellsS_len]; exact hk)]; simp [cellsS]⟩
theorem list_at {α : Type} {ls : List α} {k : Nat} (hk : k < ls.length) : ∃ x, ls[k] = x ∧ ls.take (k + 1) = ls.take k ++ [x] := ⟨_, rfl, List.take_succ_eq_append_getElem hk⟩
theorem str_info : (Tryz.prog.info? 9).map (fun i => (i.zero, i.size, i.bytes)) = some (some (.string ⟨#[]⟩), 1, 16) := by kernel_rfl
theorem u8_info : (Tryz.prog.info? 5).map (fun i => (i.zero, i.size, i.bytes)) = some (some (.int .u8 0), 1, 1) := by kernel_rfl
theorem sz9 (w : World) : (sizeOf 9).run Tryz.prog w = .ok 1 w := by kernel_rfl
theorem sz5 (w : World) : (sizeOf 5).run Tryz.prog w = .ok 1 w := by kernel_rfl
theorem ret_bool {a b : Bool} (h : a = b) : Ending.returned (.bool a) = .returned (.bool b) := by rw [h]
theorem ret_int {k : IntKind} {a b : Int} (h : a = b) : Ending.returned (.int k a) = .returned (.int k b) := by rw [h]
theorem bytes_ne {x y : ByteArray} (h : x ≠ y) : (x.toList == y.toList) = false := by
  rw [Lib.toList_data, Lib.toList_data]
  simpa using fun e => h (bl_inj e)
theorem bytes_eq (x : ByteArray) : (x.toList == x.toList) = true := by simp
section
variable {P : Program} {w : World} {ops : Array Oper} {rest : List Oper} {o : Oper} {a : Act} {Q : Exit → Act → World → Prop}
theorem wpList_want (hw : Region.wanted o (yielded ops a.tmps) = true)
    (h : ∀ K : Act → World → Prop, (∀ a w, wpList P ops Q rest a w → K a w) → o.wp P a w K Q) : wpList P ops Q (o :: rest) a w := by
  unfold wpList
  rw [if_pos hw]
  exact .inl (h _ fun _ _ h => h)
end
end Go.Proofs.YthffghegdblljaaGreat
