/- What an operator of two numbers tells, and how a heap finds it. -/
import Derived.Test.YthbnhplkoomdhaaDoorHeap
namespace Go.Proofs.YthbnhplkoomdhaaDoor
open Go Go.RowKit
theorem hlt' {w : World} {k : Nat} {o : Obj} (h : w.heap[k]? = some o) : k < w.heap.size := (Array.getElem?_eq_some_iff.1 h).1
theorem box3 {W : World} {g : Nat} {a b c : Value} {fr : Nat × Nat} (h : W.heap[g]? = some (.cells #[a, b, c] 24 fr)) : W.cell? ⟨g, 0, none⟩ = some a ∧ W.cell? ⟨g, 1, none⟩ = some b ∧ W.cell? ⟨g, 2, none⟩ = some c := by
  refine ⟨?_, ?_, ?_⟩ <;> (rw [cell_of_row W g _ _ 24 fr h]; rfl)
theorem res48 (tmps : Array Value) (w : World) (g : Nat) (cs : Array Value) (hp : tmps.getD 7 undef = .pointer (some ⟨g, 0, none⟩)) (hg : w.heap[g]? = some (.cells cs 24 (0, 0))) (hs : cs.size = 3 := by rfl) :
    (results Tryd.f48 tmps).run Tryd.prog w = .ok (.tuple #[.agg cs, tmps.getD 8 undef]) w := by
  rw [results_cell_tmp Tryd.results48, hp]
  simp only [asAddr, Sem.run_pure, Result.andThen_ok]
  rw [run_loadVar_row (P := Tryd.prog) w g 24 24 cs (0, 0) _ hg Tryd.underlying24 rfl (by rw [size24, hs])]
  rfl
theorem res10 (tmps : Array Value) (w : World) (g : Nat) (cs : Array Value) (hp : tmps.getD 8 undef = .pointer (some ⟨g, 0, none⟩)) (hg : w.heap[g]? = some (.cells cs 24 (0, 0))) (hs : cs.size = 3 := by rfl) :
    (results Tryd.f10 tmps).run Tryd.prog w = .ok (.tuple #[.agg cs, tmps.getD 9 undef]) w := by
  rw [results_cell_tmp Tryd.results10, hp]
  simp only [asAddr, Sem.run_pure, Result.andThen_ok]
  rw [run_loadVar_row (P := Tryd.prog) w g 24 24 cs (0, 0) _ hg Tryd.underlying24 rfl (by rw [size24, hs])]
  rfl
theorem setRow_at (w : World) (g : Nat) (old cs : Array Value) (t : TypeId) (fr : Nat × Nat) (h : w.heap[g]? = some (.cells old t fr)) : (w.setRow g cs).heap[g]? = some (.cells cs t fr) := by
  simp [World.setRow, Array.getElem?_modify, h]
theorem setRow_below {B g : Nat} {a w : World} (h : Below B a w) (hg : B ≤ g) (cs : Array Value) : Below B a (w.setRow g cs) :=
  h.trans ⟨rfl, rfl, rfl, by simp [World.setRow], fun k hk => by simp only [World.setRow, Array.getElem?_modify]; rw [if_neg (by omega)]⟩

set_option maxRecDepth 10000 in
set_option maxHeartbeats 1000000 in
theorem rec_fine (w : World) (H : Value) (p f : Nat) (x y n : Int) (hp : w.heap[p]? = some (.cells #[.func (.func f) #[] #[]] 66 (0, 0)))
    (eg : ∀ args W, (callFunc f args).run Tryd.prog W = .ok (.enter f args) W) (hf : ∀ W, Calls Tryd.prog f #[.int .i64 x, .int .i64 y] W fun e w' => e = .returned (.tuple #[.int .i64 n, .string { data := #[] }]) ∧ w' = W) :
    Calls Tryd.prog 48 #[H, valI x, valI y, .pointer (some ⟨p, 0, none⟩)] w fun e w' => e = .returned (.tuple #[valI n, .string { data := #[] }]) ∧ Below w.heap.size w w' := by
  have hpl := hlt' hp
  have hcp : ∀ o1 o2 o3, (((w.alloc o1).alloc o2).alloc o3).cell? ⟨p, 0, none⟩ = some (.func (.func f) #[] #[]) := fun o1 o2 o3 => by
    have hb : Below w.heap.size w (((w.alloc o1).alloc o2).alloc o3) := (((Below.refl w.heap.size w).alloc (Nat.le_refl _) o1).alloc (by simp) o2).alloc (by simp; omega) o3
    rw [hb.cell (p := ⟨p, 0, none⟩) hpl, cell_of_row w p 0 _ 66 (0, 0) hp]; rfl
  have HF := Lib.hid hf
  clear hf hp
  go_enter Tryd.func48, Tryd.ntmps48
  go_wp2_with fail
  refine (HF.out _).mono ?_
  rintro e w' ⟨rfl, rfl⟩
  have hb3 : ∀ o1 o2 o3, Below w.heap.size w (((w.alloc o1).alloc o2).alloc o3) := fun o1 o2 o3 => (((Below.refl w.heap.size w).alloc (Nat.le_refl _) o1).alloc (by simp) o2).alloc (by simp; omega) o3
  have hr3 : ∀ o1 o2 o3, (((w.alloc o1).alloc o2).alloc o3).heap[w.heap.size + 2]? = some o3 := fun o1 o2 o3 => by
    have := newc ((w.alloc o1).alloc o2) o3
    simpa using this
  go_wp2_with fail
  have hr := hr3 (.cells #[.int .i64 2, .int .i64 x, .string { data := #[] }] 24) (.cells #[.int .i64 2, .int .i64 y, .string { data := #[] }] 24) (.cells #[.int .i64 0, .int .i64 0, .string { data := #[] }] 24)
  have hb := hb3 (.cells #[.int .i64 2, .int .i64 x, .string { data := #[] }] 24) (.cells #[.int .i64 2, .int .i64 y, .string { data := #[] }] 24) (.cells #[.int .i64 0, .int .i64 0, .string { data := #[] }] 24)
  refine (int_any n _).mono ?_
  rintro e w4 ⟨rfl, hb4⟩
  have hr4 : w4.heap[w.heap.size + 1 + 1]? = some (.cells #[.int .i64 0, .int .i64 0, .string { data := #[] }] 24 (0, 0)) := (hb4.block _ (hlt' hr)).trans hr
  have hbw4 := hb.trans (hb4.mono hb.size)
  have HR4 := Lib.hid hr4
  have hrow : (w4.setRow (w.heap.size + 1 + 1) #[.int .i64 2, .int .i64 n, .string { data := #[] }]).heap[w.heap.size + 1 + 1]? = some (.cells #[.int .i64 2, .int .i64 n, .string { data := #[] }] 24 (0, 0)) := setRow_at w4 _ _ _ 24 (0, 0) hr4
  have HROW := Lib.hid hrow
  have hbelow : Below w.heap.size w (w4.setRow (w.heap.size + 1 + 1) #[.int .i64 2, .int .i64 n, .string { data := #[] }]) := setRow_below hbw4 (by omega) _
  clear hr4 hr hb hb3 hr3 hrow
  go_wp2_with (refine wpList_store_row rfl 24 (.tmp 7) (.tmp 34) rfl (w.heap.size + 1 + 1) #[.int .i64 2, .int .i64 n, .string { data := #[] }] rfl rfl 24 _ HR4.out (by rw [size24]; rfl) rfl (by simp [Value.oneCell']) ?_)
  exact bodyPost_ret (v := .tuple #[valI n, .string { data := #[] }]) (res48 _ _ (w.heap.size + 1 + 1) _ rfl HROW.out) rfl ⟨rfl, hbelow⟩

set_option maxRecDepth 10000 in
set_option maxHeartbeats 1000000 in
theorem rec_over (w : World) (H : Value) (p f : Nat) (x y n : Int) (hp : w.heap[p]? = some (.cells #[.func (.func f) #[] #[]] 66 (0, 0)))
    (eg : ∀ args W, (callFunc f args).run Tryd.prog W = .ok (.enter f args) W) (hf : ∀ W, Calls Tryd.prog f #[.int .i64 x, .int .i64 y] W fun e w' => e = .returned (.tuple #[.int .i64 n, .string { data := #[111, 118, 101, 114] }]) ∧ w' = W) :
    Calls Tryd.prog 48 #[H, valI x, valI y, .pointer (some ⟨p, 0, none⟩)] w fun e w' => e = .returned (.tuple #[valNo, .string { data := #[111, 118, 101, 114] }]) ∧ Below w.heap.size w w' := by
  have hpl := hlt' hp
  have hcp : ∀ o1 o2 o3, (((w.alloc o1).alloc o2).alloc o3).cell? ⟨p, 0, none⟩ = some (.func (.func f) #[] #[]) := fun o1 o2 o3 => by
    have hb : Below w.heap.size w (((w.alloc o1).alloc o2).alloc o3) := (((Below.refl w.heap.size w).alloc (Nat.le_refl _) o1).alloc (by simp) o2).alloc (by simp; omega) o3
    rw [hb.cell (p := ⟨p, 0, none⟩) hpl, cell_of_row w p 0 _ 66 (0, 0) hp]; rfl
  have HF := Lib.hid hf
  clear hf hp
  go_enter Tryd.func48, Tryd.ntmps48
  go_wp2_with fail
  refine (HF.out _).mono ?_
  rintro e w' ⟨rfl, rfl⟩
  have hb3 : ∀ o1 o2 o3, Below w.heap.size w (((w.alloc o1).alloc o2).alloc o3) := fun o1 o2 o3 => (((Below.refl w.heap.size w).alloc (Nat.le_refl _) o1).alloc (by simp) o2).alloc (by simp; omega) o3
  have hr3 : ∀ o1 o2 o3, (((w.alloc o1).alloc o2).alloc o3).heap[w.heap.size + 2]? = some o3 := fun o1 o2 o3 => by
    have := newc ((w.alloc o1).alloc o2) o3
    simpa using this
  go_wp2_with fail
  exact bodyPost_ret (v := .tuple #[valNo, .string { data := #[111, 118, 101, 114] }]) (res48 _ _ (w.heap.size + 2) _ rfl (hr3 _ _ _)) rfl ⟨rfl, hb3 _ _ _⟩

set_option maxRecDepth 10000 in
set_option maxHeartbeats 1000000 in
theorem rec_zero (w : World) (H : Value) (p f : Nat) (x y n : Int) (hp : w.heap[p]? = some (.cells #[.func (.func f) #[] #[]] 66 (0, 0)))
    (eg : ∀ args W, (callFunc f args).run Tryd.prog W = .ok (.enter f args) W) (hf : ∀ W, Calls Tryd.prog f #[.int .i64 x, .int .i64 y] W fun e w' => e = .returned (.tuple #[.int .i64 n, .string { data := #[122, 101, 114, 111] }]) ∧ w' = W) :
    Calls Tryd.prog 48 #[H, valI x, valI y, .pointer (some ⟨p, 0, none⟩)] w fun e w' => e = .returned (.tuple #[valNo, .string { data := #[122, 101, 114, 111] }]) ∧ Below w.heap.size w w' := by
  have hpl := hlt' hp
  have hcp : ∀ o1 o2 o3, (((w.alloc o1).alloc o2).alloc o3).cell? ⟨p, 0, none⟩ = some (.func (.func f) #[] #[]) := fun o1 o2 o3 => by
    have hb : Below w.heap.size w (((w.alloc o1).alloc o2).alloc o3) := (((Below.refl w.heap.size w).alloc (Nat.le_refl _) o1).alloc (by simp) o2).alloc (by simp; omega) o3
    rw [hb.cell (p := ⟨p, 0, none⟩) hpl, cell_of_row w p 0 _ 66 (0, 0) hp]; rfl
  have HF := Lib.hid hf
  clear hf hp
  go_enter Tryd.func48, Tryd.ntmps48
  go_wp2_with fail
  refine (HF.out _).mono ?_
  rintro e w' ⟨rfl, rfl⟩
  have hb3 : ∀ o1 o2 o3, Below w.heap.size w (((w.alloc o1).alloc o2).alloc o3) := fun o1 o2 o3 => (((Below.refl w.heap.size w).alloc (Nat.le_refl _) o1).alloc (by simp) o2).alloc (by simp; omega) o3
  have hr3 : ∀ o1 o2 o3, (((w.alloc o1).alloc o2).alloc o3).heap[w.heap.size + 2]? = some o3 := fun o1 o2 o3 => by
    have := newc ((w.alloc o1).alloc o2) o3
    simpa using this
  go_wp2_with fail
  exact bodyPost_ret (v := .tuple #[valNo, .string { data := #[122, 101, 114, 111] }]) (res48 _ _ (w.heap.size + 2) _ rfl (hr3 _ _ _)) rfl ⟨rfl, hb3 _ _ _⟩
end Go.Proofs.YthbnhplkoomdhaaDoor
