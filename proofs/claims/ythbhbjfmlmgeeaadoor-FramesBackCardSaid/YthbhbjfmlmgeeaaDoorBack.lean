/- What FramesBack stands on. -/
import Derived.Test.YthbhbjfmlmgeeaaDoorCopyS
import Derived.Test.YthbhbjfmlmgeeaaDoorSteps
import Derived.Test.YthbhbjfmlmgeeaaDoorFrame
import Derived.Lib.SmallJoins
namespace Go.Proofs.YthbhbjfmlmgeeaaDoor
open Go Go.RowKit
/-- The second argument, where it lies. -/
structure BoxAt (g : Nat) (B : Option Addr) (m d : Nat) (cut at_ x : Int) (W : World) : Prop where
  c0 : W.cell? ⟨g, 0, none⟩ = some (.slice B m d)
  c1 : W.cell? ⟨g, 1, none⟩ = some (.int .i64 cut)
  c2 : W.cell? ⟨g, 2, none⟩ = some (.int .i64 at_)
  c3 : W.cell? ⟨g, 3, none⟩ = some (.int .u8 x)
theorem box_new (w : World) (B : Option Addr) (m d : Nat) (cut at_ x : Int) : BoxAt w.heap.size B m d cut at_ x (w.alloc (.cells #[.slice B m d, .int .i64 cut, .int .i64 at_, .int .u8 x] 45)) := by
  have h := heap_alloc_new w (.cells #[.slice B m d, .int .i64 cut, .int .i64 at_, .int .u8 x] 45)
  constructor <;> (unfold World.cell?; rw [h]; rfl)
theorem BoxAt.below {g : Nat} {B : Option Addr} {m d : Nat} {cut at_ x : Int} {W V : World} (h : BoxAt g B m d cut at_ x W) (hg : g < W.heap.size) (hb : Below W.heap.size W V) : BoxAt g B m d cut at_ x V :=
  ⟨(hb.cell (p := ⟨g, 0, none⟩) hg).trans h.c0, (hb.cell (p := ⟨g, 1, none⟩) hg).trans h.c1, (hb.cell (p := ⟨g, 2, none⟩) hg).trans h.c2, (hb.cell (p := ⟨g, 3, none⟩) hg).trans h.c3⟩
theorem read_back (l : List (List UInt8)) (r : List UInt8) (h : mayL l = true) : readL (frameL l ++ r) = (l, (frameL l).length, 0) := readL_lay l r h
/-- How 'Read' ends at a frame, whatever stands behind. -/
theorem ReadEnd.back {w w' : World} {ls : List ByteArray} {r : List UInt8} {e : Ending} {L : Nat} (h : ReadEnd w (frameL (bl ls) ++ r) e w') (hm : mayL (bl ls) = true) (hL : (frameL (bl ls)).length = L) :
    ∃ A c n, e = .returned (.tuple #[.slice A n c, .int .i64 L, .int .i64 0]) ∧ ls.length = n ∧ RdV w' A (cellsS ls) ∧ Below w.heap.size w w' := by
  obtain ⟨A, c, ms, n, rfl, h1, h2, h3, h4, h5⟩ := h.form
  rw [readL_lay (bl ls) r hm] at h1 ⊢
  have := bl_inj h1
  subst this
  exact ⟨A, c, n, by rw [← hL]; rfl, h2, h4, h5⟩
theorem ReadEnd.err {w w' : World} {l : List UInt8} {e : Ending} {k : Nat} (h : ReadEnd w l e w') (hk : (readL l).2.2 = k) :
    ∃ v m, e = .returned (.tuple #[v, .int .i64 m, .int .i64 k]) ∧ Below w.heap.size w w' := by
  obtain ⟨v, ls, rfl, _, _, hb⟩ := h
  exact ⟨v, _, by rw [hk], hb⟩
/-- A byte that is stored into a slice. -/
theorem rd_set {w : World} {b off n k : Nat} {l : List UInt8} {x : Int} {y : UInt8} (h : Rd w (some ⟨b, off, none⟩) l) (hn : l.length = n) (hk : k < n) (hx : x = (y.toNat : Int)) :
    Rd (w.setCell ⟨b, off + k, none⟩ (.int .u8 x)) (some ⟨b, off, none⟩) (l.set k y) := fun h0 => by
  rw [List.length_set] at h0
  obtain ⟨b', off', hA, hlt, hc⟩ := h h0
  cases hA
  refine ⟨b, off, rfl, by simp [World.setCell]; exact hlt, fun j hj => ?_⟩
  have hj' : j < l.length := by rw [List.length_set] at hj; exact hj
  by_cases e : j = k
  · subst e
    rw [List.getElem_set_self, hx]
    exact World.cell?_setCell_same w ⟨b, off + j, none⟩ _ (hc j hj')
  · rw [List.getElem_set_ne (by omega)]
    exact (World.cell?_setCell_other w ⟨b, off + k, none⟩ ⟨b, off + j, none⟩ _ (by intro h; injection h; omega)).trans (hc j hj')
theorem OwnB.at {w : World} {base n : Nat} {v : Value} {l : List UInt8} (h : OwnB w base v l) (hn : l.length = n) (h0 : 0 < n) :
    ∃ g c, v = .slice (some ⟨g, 0, none⟩) n c ∧ n ≤ c ∧ base ≤ g ∧ g < w.heap.size ∧ Rd w (some ⟨g, 0, none⟩) l ∧ ∀ j, w.frozen? ⟨g, j, none⟩ = false := by
  subst hn
  obtain ⟨A, c, rfl, h1, h2, _, h3⟩ := h.rd
  obtain ⟨g, off, rfl, hlt, hc⟩ := h3 h0
  have h' : w.ownsRow base 5 1 (.slice (some ⟨g, off, none⟩) l.length c) l.length (cellsB l) := h
  have hoff : off = 0 := by
    rcases h'.2 with ⟨e, _⟩ | ⟨g', cap, cur, e, _⟩
    · cases e
    · cases e; rfl
  subst hoff
  exact ⟨g, c, rfl, h1, (h'.lt g rfl).1, hlt, h3, fun j => h'.frozenAt j⟩
theorem rd_set0 {w : World} {b n k : Nat} {l : List UInt8} {x : Int} {y : UInt8} (h : Rd w (some ⟨b, 0, none⟩) l) (hn : l.length = n) (hk : k < n) (hx : x = (y.toNat : Int)) :
    Rd (w.setCell ⟨b, k, none⟩ (.int .u8 x)) (some ⟨b, 0, none⟩) (l.set k y) := by
  have := rd_set h hn hk hx
  rwa [Nat.zero_add] at this
section
variable {w : World} {ops : Array Oper} {o : Oper} {a : Act} {K : Act → World → Prop} {Q : Exit → Act → World → Prop} {E : Prop}
/-- Bytes that are appended to a row of bytes, at a step of a region that draws; nothing may be appended. -/
theorem step_bytesO (hg : o.guard = none) (s x : Operand) (ho : o.op = .call { callee := .builtin .append, args := #[s, x], argTypes := #[25, 25] })
    (base : Nat) (v : Value) (l : List UInt8) (hs : a.eval s = v) (hown : OwnB w base v l) (A : Option Addr) (n c : Nat) (m : List UInt8) (hm : m.length = n) (hx : a.eval x = .slice A n c)
    (hr : Rd w A m) (hn : A = none → c = 0) (hc : n ≤ c) (b1 : l.length + n ≤ 140737488355328) (hb : base ≤ w.heap.size)
    (hK : ∀ v' w', OwnB w' base v' (l ++ m) → w.grownBy w' v.ownBlock → K (a.put o.dst v') w') : if Region.wanted o (yielded ops a.tmps) = true then Oper.wp Tryd.prog o a w K Q else E := by
  cases A with
  | some ad => exact step_bytes hg s x ho base v l hs hown ad n c m hm hx hr b1 hb hK
  | none =>
    have hw : Region.wanted o (yielded ops a.tmps) = true := by simp [Region.wanted, hg]
    rw [if_pos hw]
    have hc0 := hn rfl
    subst hc0
    obtain rfl : n = 0 := by omega
    have hnil : m = [] := List.eq_nil_of_length_eq_zero hm
    subst hnil
    obtain ⟨i0, hi, hz0, hz1, hz2⟩ := info_parts u8_info
    have hown' : w.ownsRow base 5 1 v l.length (cellsB l) := hown
    have hrun := run_append_owned_none (P := Tryd.prog) (w := w) base 25 o.type 5 i0 1 Tryd.underlying25 hi v l.length (cellsB l) hown'
    have h2 := hK v w (by rw [List.append_nil]; exact hown) ⟨rfl, rfl, rfl, Nat.le_refl _, fun _ _ _ => rfl⟩
    unfold Oper.wp
    simp [execOp, ho, resolve, invoke, builtin, hs, hx, hrun, Result.andThen]
    exact h2
end
section
open Go.ChangeShapes Go.WideShapes Go.ChangeAt Go.Deep Go.Joins
variable {H : Type} {enc : TypeId × Value → H} {W : World}
theorem spoilt_of {base : Nat} {v : Value} {d : DataW H} {p : List MemPlace} (hv : Value.okWide Tryd.prog W .any base 45 v) (h : DataW.Trod enc Tryd.prog W 0 (fun _ => true) true 45 v d p) :
    ∃ B m c l cut at_ x, v = .agg #[.slice B m c, .int .i64 cut, .int .i64 at_, .int .u8 x] ∧ List.length l = m ∧ m ≤ c ∧ c ≤ maxLen ∧ (B = none → c = 0) ∧ Rd W B l ∧ 0 ≤ x ∧ x ≤ 255 := by
  obtain ⟨u0, u1, u2, u3, y0, y1, y2, y3, n, rfl, -, -, g0, g1, g2, g3⟩ := open_agg4 Tryd.underlying45 (by kernel_rfl) (by kernel_rfl) hv h
  obtain ⟨B, m, c, l, rfl, h1, h2, h3, h4, h5⟩ := bytes_of g0
  obtain ⟨z1, e1, -, -⟩ := DataW.trod_int Tryd.underlying3 g1
  obtain ⟨z2, e2, -, -⟩ := DataW.trod_int Tryd.underlying3 g2
  obtain ⟨z3, e3, -, w3⟩ := DataW.trod_int Tryd.underlying5 g3
  simp only [List.cons.injEq, and_true] at e1 e2 e3
  subst e1; subst e2; subst e3
  simp [Lit.wf, show IntKind.u8.min = 0 from rfl, show IntKind.u8.max = 255 from rfl] at w3
  exact ⟨B, m, c, l, z1, z2, z3, rfl, h1, h2, h3, h4, h5, by omega, by omega⟩
end
end Go.Proofs.YthbhbjfmlmgeeaaDoor
