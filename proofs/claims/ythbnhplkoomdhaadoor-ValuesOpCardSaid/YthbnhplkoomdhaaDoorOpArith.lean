/- The operators of numbers by a heap that New made. -/
import Derived.Test.YthbnhplkoomdhaaDoorOp
import Derived.Test.YthbnhplkoomdhaaDoorOps
namespace Go.Proofs.YthbnhplkoomdhaaDoor
open Go Go.RowKit
/-- A heap that New made: its tables, its cells, what is taken. -/
def HeapAt (w : World) (H ob : Nat) (tb : Value) (c s : Int) : Prop := w.heap[H]? = some (.cells #[tb, .int .i64 c, .int .i64 s, .map (some ob)] 51 (0, 0)) ∧ OpsAt w ob
theorem HeapAt.below {w w' : World} {H ob : Nat} {tb : Value} {c s : Int} (h : HeapAt w H ob tb c s) (hb : Below w.heap.size w w') : HeapAt w' H ob tb c s :=
  ⟨(hb.block _ (hlt h.1)).trans h.1, h.2.below hb⟩
theorem look47 {w : World} {ob : Nat} {p q : Nat → Nat} (h : TabAt w ob p q 4) (k : Array UInt8) (i : Nat) (v : Value) (hf : Instr.findNow .string (.string ⟨k⟩) (opsL p q 4) 0 = some (some (i, v))) :
    (Instr.lookup 47 (.map (some ob)) (.string { data := k }) false).run Tryd.prog w = .ok v w :=
  look_there Tryd.underlying47 Tryd.underlying9 h.1 (by simpa using hf)
theorem TabAt.below {w w' : World} {ob : Nat} {p q : Nat → Nat} (h : TabAt w ob p q 4) (hb : Below w.heap.size w w') : TabAt w' ob p q 4 := by
  obtain ⟨h1, h2, h3⟩ := h
  exact ⟨(hb.block _ (hlt h1)).trans h1, fun i hi => ⟨(hb.block _ (hlt (h2 i hi).1)).trans (h2 i hi).1, (h2 i hi).2⟩, fun i hi => ⟨(hb.block _ (hlt (h3 i hi).1)).trans (h3 i hi).1, (h3 i hi).2⟩⟩
theorem op_add_fine (w : World) (H ob : Nat) (tb : Value) (c s x y : Int) (h : HeapAt w H ob tb c s) (hx : Fits x) (hy : Fits y) (hs : Fits (x + y)) :
    Calls Tryd.prog 10 #[.pointer (some ⟨H, 0, none⟩), .string { data := #[43] }, valI x, valI y] w fun e w' => e = .returned (.tuple #[valI (x + y), .string { data := #[] }]) ∧ Below w.heap.size w w' := by
  obtain ⟨hH, p, q, hT⟩ := h
  refine op_run w H ob (p 0) tb c s x y #[43] _ _ _ #[] hH (fun W hW => look47 (hT.below hW) #[43] 0 _ (by rfl)) (fun W hW => ?_)
  exact rec_fine W (.pointer (some ⟨H, 0, none⟩)) (p 0) 28 x y (x + y) ((hT.below hW).2.1 0 (by omega)).1 (fun _ _ => rfl) (fun W => add_fine x y W hx hy hs)
theorem op_add_over (w : World) (H ob : Nat) (tb : Value) (c s x y : Int) (h : HeapAt w H ob tb c s) (hx : Fits x) (hy : Fits y) (hs : ¬ Fits (x + y)) :
    Calls Tryd.prog 10 #[.pointer (some ⟨H, 0, none⟩), .string { data := #[43] }, valI x, valI y] w fun e w' => e = .returned (.tuple #[valNo, .string { data := #[111, 118, 101, 114] }]) ∧ Below w.heap.size w w' := by
  obtain ⟨hH, p, q, hT⟩ := h
  refine op_run w H ob (p 0) tb c s x y #[43] _ _ _ #[111, 118, 101, 114] hH (fun W hW => look47 (hT.below hW) #[43] 0 _ (by rfl)) (fun W hW => ?_)
  exact rec_over W (.pointer (some ⟨H, 0, none⟩)) (p 0) 28 x y (0) ((hT.below hW).2.1 0 (by omega)).1 (fun _ _ => rfl) (fun W => add_over x y W hx hy hs)
theorem op_sub_fine (w : World) (H ob : Nat) (tb : Value) (c s x y : Int) (h : HeapAt w H ob tb c s) (hx : Fits x) (hy : Fits y) (hs : Fits (x - y)) :
    Calls Tryd.prog 10 #[.pointer (some ⟨H, 0, none⟩), .string { data := #[45] }, valI x, valI y] w fun e w' => e = .returned (.tuple #[valI (x - y), .string { data := #[] }]) ∧ Below w.heap.size w w' := by
  obtain ⟨hH, p, q, hT⟩ := h
  refine op_run w H ob (p 1) tb c s x y #[45] _ _ _ #[] hH (fun W hW => look47 (hT.below hW) #[45] 1 _ (by rfl)) (fun W hW => ?_)
  exact rec_fine W (.pointer (some ⟨H, 0, none⟩)) (p 1) 29 x y (x - y) ((hT.below hW).2.1 1 (by omega)).1 (fun _ _ => rfl) (fun W => sub_fine x y W hx hy hs)
theorem op_sub_over (w : World) (H ob : Nat) (tb : Value) (c s x y : Int) (h : HeapAt w H ob tb c s) (hx : Fits x) (hy : Fits y) (hs : ¬ Fits (x - y)) :
    Calls Tryd.prog 10 #[.pointer (some ⟨H, 0, none⟩), .string { data := #[45] }, valI x, valI y] w fun e w' => e = .returned (.tuple #[valNo, .string { data := #[111, 118, 101, 114] }]) ∧ Below w.heap.size w w' := by
  obtain ⟨hH, p, q, hT⟩ := h
  refine op_run w H ob (p 1) tb c s x y #[45] _ _ _ #[111, 118, 101, 114] hH (fun W hW => look47 (hT.below hW) #[45] 1 _ (by rfl)) (fun W hW => ?_)
  exact rec_over W (.pointer (some ⟨H, 0, none⟩)) (p 1) 29 x y (0) ((hT.below hW).2.1 1 (by omega)).1 (fun _ _ => rfl) (fun W => sub_over x y W hx hy hs)
theorem op_mul_fine (w : World) (H ob : Nat) (tb : Value) (c s x y : Int) (h : HeapAt w H ob tb c s) (hx : Fits x) (hy : Fits y) (hx0 : x ≠ 0) (hy0 : y ≠ 0) (hm : MulFits x y) :
    Calls Tryd.prog 10 #[.pointer (some ⟨H, 0, none⟩), .string { data := #[42] }, valI x, valI y] w fun e w' => e = .returned (.tuple #[valI (x * y), .string { data := #[] }]) ∧ Below w.heap.size w w' := by
  obtain ⟨hH, p, q, hT⟩ := h
  refine op_run w H ob (p 2) tb c s x y #[42] _ _ _ #[] hH (fun W hW => look47 (hT.below hW) #[42] 2 _ (by rfl)) (fun W hW => ?_)
  exact rec_fine W (.pointer (some ⟨H, 0, none⟩)) (p 2) 30 x y (x * y) ((hT.below hW).2.1 2 (by omega)).1 (fun _ _ => rfl) (fun W => mul_fine x y W hx hy hx0 hy0 hm)
theorem op_mul_over (w : World) (H ob : Nat) (tb : Value) (c s x y : Int) (h : HeapAt w H ob tb c s) (hx : Fits x) (hy : Fits y) (hx0 : x ≠ 0) (hy0 : y ≠ 0) (hm : ¬ MulFits x y) :
    Calls Tryd.prog 10 #[.pointer (some ⟨H, 0, none⟩), .string { data := #[42] }, valI x, valI y] w fun e w' => e = .returned (.tuple #[valNo, .string { data := #[111, 118, 101, 114] }]) ∧ Below w.heap.size w w' := by
  obtain ⟨hH, p, q, hT⟩ := h
  refine op_run w H ob (p 2) tb c s x y #[42] _ _ _ #[111, 118, 101, 114] hH (fun W hW => look47 (hT.below hW) #[42] 2 _ (by rfl)) (fun W hW => ?_)
  exact rec_over W (.pointer (some ⟨H, 0, none⟩)) (p 2) 30 x y (0) ((hT.below hW).2.1 2 (by omega)).1 (fun _ _ => rfl) (fun W => mul_over x y W hx hy hx0 hy0 hm)
theorem op_mul_zero (w : World) (H ob : Nat) (tb : Value) (c s x y : Int) (h : HeapAt w H ob tb c s) (hz : x = 0 ∨ y = 0) :
    Calls Tryd.prog 10 #[.pointer (some ⟨H, 0, none⟩), .string { data := #[42] }, valI x, valI y] w fun e w' => e = .returned (.tuple #[valI (0), .string { data := #[] }]) ∧ Below w.heap.size w w' := by
  obtain ⟨hH, p, q, hT⟩ := h
  refine op_run w H ob (p 2) tb c s x y #[42] _ _ _ #[] hH (fun W hW => look47 (hT.below hW) #[42] 2 _ (by rfl)) (fun W hW => ?_)
  exact rec_fine W (.pointer (some ⟨H, 0, none⟩)) (p 2) 30 x y (0) ((hT.below hW).2.1 2 (by omega)).1 (fun _ _ => rfl) (fun W => mul_zero x y W hz)
theorem op_div_fine (w : World) (H ob : Nat) (tb : Value) (c s x y : Int) (h : HeapAt w H ob tb c s) (hx : Fits x) (hy : Fits y) (hy0 : y ≠ 0) (hd : ¬ (x = -9223372036854775808 ∧ y = -1)) :
    Calls Tryd.prog 10 #[.pointer (some ⟨H, 0, none⟩), .string { data := #[47] }, valI x, valI y] w fun e w' => e = .returned (.tuple #[valI (divV x y), .string { data := #[] }]) ∧ Below w.heap.size w w' := by
  obtain ⟨hH, p, q, hT⟩ := h
  refine op_run w H ob (p 3) tb c s x y #[47] _ _ _ #[] hH (fun W hW => look47 (hT.below hW) #[47] 3 _ (by rfl)) (fun W hW => ?_)
  exact rec_fine W (.pointer (some ⟨H, 0, none⟩)) (p 3) 31 x y (divV x y) ((hT.below hW).2.1 3 (by omega)).1 (fun _ _ => rfl) (fun W => div_fine x y W hx hy hy0 hd)
theorem op_div_over (w : World) (H ob : Nat) (tb : Value) (c s x y : Int) (h : HeapAt w H ob tb c s) (hd : x = -9223372036854775808 ∧ y = -1) :
    Calls Tryd.prog 10 #[.pointer (some ⟨H, 0, none⟩), .string { data := #[47] }, valI x, valI y] w fun e w' => e = .returned (.tuple #[valNo, .string { data := #[111, 118, 101, 114] }]) ∧ Below w.heap.size w w' := by
  obtain ⟨hH, p, q, hT⟩ := h
  refine op_run w H ob (p 3) tb c s x y #[47] _ _ _ #[111, 118, 101, 114] hH (fun W hW => look47 (hT.below hW) #[47] 3 _ (by rfl)) (fun W hW => ?_)
  exact rec_over W (.pointer (some ⟨H, 0, none⟩)) (p 3) 31 x y (0) ((hT.below hW).2.1 3 (by omega)).1 (fun _ _ => rfl) (fun W => div_over x y W hd)
theorem op_div_zero (w : World) (H ob : Nat) (tb : Value) (c s x y : Int) (h : HeapAt w H ob tb c s) (hz : y = 0) :
    Calls Tryd.prog 10 #[.pointer (some ⟨H, 0, none⟩), .string { data := #[47] }, valI x, valI y] w fun e w' => e = .returned (.tuple #[valNo, .string { data := #[122, 101, 114, 111] }]) ∧ Below w.heap.size w w' := by
  obtain ⟨hH, p, q, hT⟩ := h
  refine op_run w H ob (p 3) tb c s x y #[47] _ _ _ #[122, 101, 114, 111] hH (fun W hW => look47 (hT.below hW) #[47] 3 _ (by rfl)) (fun W hW => ?_)
  exact rec_zero W (.pointer (some ⟨H, 0, none⟩)) (p 3) 31 x y (0) ((hT.below hW).2.1 3 (by omega)).1 (fun _ _ => rfl) (fun W => div_zero x y W hz)
theorem op_rest_fine (w : World) (H ob : Nat) (tb : Value) (c s x y : Int) (h : HeapAt w H ob tb c s) (hx : Fits x) (hy : Fits y) (hy0 : y ≠ 0) :
    Calls Tryd.prog 10 #[.pointer (some ⟨H, 0, none⟩), .string { data := #[37] }, valI x, valI y] w fun e w' => e = .returned (.tuple #[valI (modV x y), .string { data := #[] }]) ∧ Below w.heap.size w w' := by
  obtain ⟨hH, p, q, hT⟩ := h
  refine op_run w H ob (p 4) tb c s x y #[37] _ _ _ #[] hH (fun W hW => look47 (hT.below hW) #[37] 4 _ (by rfl)) (fun W hW => ?_)
  exact rec_fine W (.pointer (some ⟨H, 0, none⟩)) (p 4) 32 x y (modV x y) ((hT.below hW).2.1 4 (by omega)).1 (fun _ _ => rfl) (fun W => rest_fine x y W hx hy hy0)
theorem op_rest_zero (w : World) (H ob : Nat) (tb : Value) (c s x y : Int) (h : HeapAt w H ob tb c s) (hz : y = 0) :
    Calls Tryd.prog 10 #[.pointer (some ⟨H, 0, none⟩), .string { data := #[37] }, valI x, valI y] w fun e w' => e = .returned (.tuple #[valNo, .string { data := #[122, 101, 114, 111] }]) ∧ Below w.heap.size w w' := by
  obtain ⟨hH, p, q, hT⟩ := h
  refine op_run w H ob (p 4) tb c s x y #[37] _ _ _ #[122, 101, 114, 111] hH (fun W hW => look47 (hT.below hW) #[37] 4 _ (by rfl)) (fun W hW => ?_)
  exact rec_zero W (.pointer (some ⟨H, 0, none⟩)) (p 4) 32 x y (0) ((hT.below hW).2.1 4 (by omega)).1 (fun _ _ => rfl) (fun W => rest_zero x y W hz)

set_option maxRecDepth 10000 in
/-- What is no number is refused. -/
theorem rec_type (w : World) (H : Value) (p : Value) (y : Int) :
    Calls Tryd.prog 48 #[H, valNo, valI y, p] w fun e w' => e = .returned (.tuple #[valNo, .string { data := #[116, 121, 112, 101] }]) ∧ Below w.heap.size w w' := by
  have hb3 : ∀ o1 o2 o3, Below w.heap.size w (((w.alloc o1).alloc o2).alloc o3) := fun o1 o2 o3 => (((Below.refl w.heap.size w).alloc (Nat.le_refl _) o1).alloc (by simp) o2).alloc (by simp; omega) o3
  have hr3 : ∀ o1 o2 o3, (((w.alloc o1).alloc o2).alloc o3).heap[w.heap.size + 2]? = some o3 := fun o1 o2 o3 => by
    have := newc ((w.alloc o1).alloc o2) o3
    simpa using this
  go_enter Tryd.func48, Tryd.ntmps48
  go_wp2_with fail
  exact bodyPost_ret (v := .tuple #[valNo, .string { data := #[116, 121, 112, 101] }]) (res48 _ _ (w.heap.size + 2) _ rfl (hr3 _ _ _)) rfl ⟨rfl, hb3 _ _ _⟩
theorem check_no (w : World) :
    Calls Tryd.prog 20 #[valNo] w fun e w' => e = .returned (.bool true) ∧ Below w.heap.size w w' := by
  go_enter Tryd.func20, Tryd.ntmps20
  go_wp2
  go_ret
  exact ⟨rfl, (Below.refl _ _).alloc (Nat.le_refl _) _⟩
end Go.Proofs.YthbnhplkoomdhaaDoor
