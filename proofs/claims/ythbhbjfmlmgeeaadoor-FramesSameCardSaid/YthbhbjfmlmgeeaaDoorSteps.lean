/- Bytes appended in a region that draws its order. -/
import Derived.Test.YthbhbjfmlmgeeaaDoorOwn
import Derived.Deep.RegionHeld3
import Derived.Lib.ConvBytes
namespace Go.Proofs.YthbhbjfmlmgeeaaDoor
open Go Go.RowKit
section
variable {P : Program} {w : World} {ops : Array Oper} {o : Oper} {a : Act} {K : Act → World → Prop} {Q : Exit → Act → World → Prop} {E : Prop}
/-- Bytes that are appended to a row of bytes, at a step of a region that draws. -/
theorem step_bytes (hg : o.guard = none) (s x : Operand) (ho : o.op = .call { callee := .builtin .append, args := #[s, x], argTypes := #[25, 25] })
    (base : Nat) (v : Value) (l : List UInt8) (hs : a.eval s = v) (hown : OwnB w base v l) (ad : Addr) (n c : Nat) (m : List UInt8) (hm : m.length = n) (hx : a.eval x = .slice (some ad) n c)
    (hr : Rd w (some ad) m) (b1 : l.length + n ≤ 140737488355328) (hb : base ≤ w.heap.size)
    (hK : ∀ v' w', OwnB w' base v' (l ++ m) → w.grownBy w' v.ownBlock → K (a.put o.dst v') w') : if Region.wanted o (yielded ops a.tmps) = true then Oper.wp Tryd.prog o a w K Q else E := by
  have hw : Region.wanted o (yielded ops a.tmps) = true := by simp [Region.wanted, hg]
  rw [if_pos hw]
  obtain ⟨i0, hi, hz0, hz1, hz2⟩ := info_parts u8_info
  have hcl := cellsB_len m
  refine wp_append_own w s x 25 ho base 5 i0 _ 1 1 Tryd.underlying25 hi hz0 hz1 hz2 rfl (by omega) v l.length (cellsB l) hs hown ad n c (cellsB m) hx (by omega) hr.rdV.news (cellsB_one m) (by simp only [maxLen]; omega) (by omega) hb (fun v' w' h1 h2 _ => hK v' w' ?_ h2)
  unfold OwnB
  rw [cellsB_app, List.length_append, hm]
  exact h1
/-- A text's bytes, at a step of a region that draws. -/
theorem step_conv (hg : o.guard = none) (x : Operand) (ho : o.op = .convert 9 25 x) (u : ByteArray) (hx : a.eval x = .string u) (f : World → Nat) (g : World → World)
    (hc : ∀ W, (convert 9 25 (.string u)).run P W = .ok (.slice (some ⟨W.heap.size, 0, none⟩) u.size (f W)) (g W)) (hK : K (a.put o.dst (.slice (some ⟨w.heap.size, 0, none⟩) u.size (f w))) (g w)) :
    if Region.wanted o (yielded ops a.tmps) = true then Oper.wp P o a w K Q else E := by
  have hw : Region.wanted o (yielded ops a.tmps) = true := by simp [Region.wanted, hg]
  rw [if_pos hw]
  unfold Oper.wp
  simp only [execOp, ho, hx, Sem.run_bind, Sem.run_pure, Result.andThen_ok, hc, Oper.upon_value]
  exact hK
end
theorem own_empty (w : World) (e : TypeId) (base : Nat) (hb : base ≤ w.heap.size) : (w.alloc (.cells #[] e)).ownsRow base e 1 (.slice (some ⟨w.heap.size, 0, none⟩) 0 0) 0 [] :=
  ⟨by simp, .inr ⟨w.heap.size, 0, #[], rfl, hb, heap_alloc_new w _, Nat.le_refl _, by simp [maxLen], by simp, by simp⟩⟩
theorem rcrc_n (A : Option Addr) (n c : Nat) (l : List UInt8) (w : World) (hn : l.length = n) (hl : n ≤ 2000000000) (hr : Rd w A l) :
    Calls Tryd.prog 29 #[.slice A n c] w fun e w' => e = .returned (.int .u32 (crcOf l)) ∧ w = w' := by
  subst hn
  exact rcrc_any A c l w hl hr
/-- What lies in another block than a row that grows. -/
theorem Rd.grown {w w' : World} {ad : Addr} {m : List UInt8} {v : Value} {N : Nat} (h : Rd w (some ad) m) (hg : w.grownBy w' v.ownBlock) (hv : ∀ g, v.ownBlock = some g → g < N) (ha : N ≤ ad.block) : Rd w' (some ad) m := fun h0 => by
  obtain ⟨b, off, hA, hlt, hc⟩ := h h0
  cases hA
  refine ⟨b, off, rfl, Nat.lt_of_lt_of_le hlt hg.size, fun j hj => ?_⟩
  refine (World.cell?_of_block (w := w) (a := ⟨b, off + j, none⟩) (hg.block b hlt fun e => ?_)).trans (hc j hj)
  have := hv b e.symm
  simp at ha
  omega
/-- A text's bytes, in whatever world. -/
theorem conv_new (x : ByteArray) : ∃ (f : World → Nat) (g : World → World), (∀ W, (convert 9 25 (.string x)).run Tryd.prog W = .ok (.slice (some ⟨W.heap.size, 0, none⟩) x.size (f W)) (g W)) ∧ ∀ W, Rd (g W) (some ⟨W.heap.size, 0, none⟩) x.data.toList ∧ Below W.heap.size W (g W) := by
  refine ⟨fun W => grownCap W x.size 0 5, fun W => Lib.bytesWorld W 5 x, fun W => Lib.run_convert_string_bytes W 9 25 5 x Tryd.underlying9 Tryd.underlying25 Tryd.underlying5, fun W => ⟨fun _ => ⟨_, 0, rfl, by rw [Lib.bytesWorld_size]; omega, fun j hj => ?_⟩, ?_⟩⟩
  · have h2 : x.data.toList.length = x.size := by rw [Array.length_toList]; rfl
    rw [Nat.zero_add, Lib.bytesWorld_cell W 5 x j (by omega)]
    simp [List.getD, List.getElem?_eq_getElem hj]
  · exact ⟨rfl, rfl, rfl, by rw [Lib.bytesWorld_size]; omega, fun k hk => Lib.bytesWorld_at_old W 5 x k hk⟩
/-- A row of one's own before and behind what else is made. -/
def Ph (w0 : World) (B N : Nat) (v : Value) (l : List UInt8) (W : World) : Prop := OwnB W B v l ∧ Below B w0 W ∧ B ≤ W.heap.size ∧ N ≤ W.heap.size
theorem Ph.new {w0 W W' : World} {B N : Nat} {v : Value} {l : List UInt8} (h : Ph w0 B N v l W) (hb : Below W.heap.size W W') : Ph w0 B N v l W' :=
  ⟨h.1.below hb, h.2.1.trans (hb.mono h.2.2.1), Nat.le_trans h.2.2.1 hb.size, Nat.le_trans h.2.2.2 hb.size⟩
theorem Ph.app {w0 W W' : World} {B N : Nat} {v v' : Value} {l l' : List UInt8} (h : Ph w0 B N v l W) (ho : OwnB W' B v' l') (hg : W.grownBy W' v.ownBlock) : Ph w0 B N v' l' W' :=
  ⟨ho, h.2.1.grown hg h.2.2.1 (fun k hk => (h.1.lt k hk).1), Nat.le_trans h.2.2.1 hg.size, Nat.le_trans h.2.2.2 hg.size⟩
theorem Ph.cell {w0 W : World} {B N : Nat} {v : Value} {l : List UInt8} {p : Addr} {u : Value} (h : Ph w0 B N v l W) (hp : p.block < B) (hc : w0.cell? p = some u) : W.cell? p = some u := (h.2.1.cell hp).trans hc
end Go.Proofs.YthbhbjfmlmgeeaaDoor
