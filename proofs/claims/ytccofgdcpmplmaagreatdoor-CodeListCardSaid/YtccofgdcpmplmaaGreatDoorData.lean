/- Programs, as they are read: arguments and slices. -/
import Derived.Test.YtccofgdcpmplmaaGreatDoorBase
import Derived.Test.YtccofgdcpmplmaaGreatDoorCards
import Derived.Test.YtccofgdcpmplmaaGreatDoorTie
import Derived.ProofKit
import Derived.OpenShut
import Derived.ShutString
import Derived.ChangeOld
import Derived.Deep.DeepHandedRow
import Derived.Deep.Slices
import Derived.Deep.Strs
import Derived.Lib.SmallJoins
namespace Go.Proofs.YtccofgdcpmplmaaGreatDoor
open Go Go.RowKit
open Go.ChangeShapes Go.WideShapes Go.ChangeAt Go.Deep Go.Joins
theorem block_lt {W : World} {b off : Nat} {v : Value} (h : W.cell? ⟨b, off, none⟩ = some v) : b < W.heap.size := by
  rcases Nat.lt_or_ge b W.heap.size with h1 | h1
  · exact h1
  · simp [World.cell?, Array.getElem?_eq_none h1] at h
theorem wf_i64 {z : Int} (h : (Lit.int .i64 z).wf = true) : -9223372036854775808 ≤ z ∧ z ≤ 9223372036854775807 := by
  simp [Lit.wf, show IntKind.i64.min = -9223372036854775808 from rfl, show IntKind.i64.max = 9223372036854775807 from rfl] at h
  omega
def inI (z : Int) : Prop := -9223372036854775808 ≤ z ∧ z ≤ 9223372036854775807
/-- An instruction. -/
structure Ins where
  op : Int
  a : Int
  b : Int
  c : Int
deriving DecidableEq
def Ins.cell (x : Ins) : Nat → Value
  | 0 => .int .i64 x.op
  | 1 => .int .i64 x.a
  | 2 => .int .i64 x.b
  | _ => .int .i64 x.c
def Ins.ok (x : Ins) : Prop := inI x.op ∧ inI x.a ∧ inI x.b ∧ inI x.c
abbrev Ins.vals (x : Ins) : Array Value := #[.int .i64 x.op, .int .i64 x.a, .int .i64 x.b, .int .i64 x.c]
def RdI (W : World) (A : Option Addr) (l : List Ins) : Prop := 0 < l.length → ∃ b off, A = some ⟨b, off, none⟩ ∧ b < W.heap.size ∧ ∀ i (h : i < l.length) (j : Nat), j < 4 → W.cell? ⟨b, off + i * 4 + j, none⟩ = some (l[i].cell j)
theorem RdI.below {w w' : World} {A : Option Addr} {l : List Ins} (h : RdI w A l) (hb : Below w.heap.size w w') : RdI w' A l := fun h0 => by
  obtain ⟨b, off, rfl, hlt, hc⟩ := h h0
  exact ⟨b, off, rfl, Nat.lt_of_lt_of_le hlt hb.size, fun i hi j hj => (hb.cell (p := ⟨b, off + i * 4 + j, none⟩) hlt).trans (hc i hi j hj)⟩
theorem RdI.at {w : World} {A : Option Addr} {l : List Ins} (h : RdI w A l) {k : Nat} (hk : k < l.length) : ∃ b off, A = some ⟨b, off, none⟩ ∧ b < w.heap.size ∧ w.cell? ⟨b, off + k * 4, none⟩ = some (.int .i64 l[k].op) ∧ w.cell? ⟨b, off + k * 4 + 1, none⟩ = some (.int .i64 l[k].a) ∧ w.cell? ⟨b, off + k * 4 + 2, none⟩ = some (.int .i64 l[k].b) ∧ w.cell? ⟨b, off + k * 4 + 3, none⟩ = some (.int .i64 l[k].c) := by
  obtain ⟨b, off, rfl, hlt, hc⟩ := h (by omega)
  exact ⟨b, off, rfl, hlt, hc k hk 0 (by omega), hc k hk 1 (by omega), hc k hk 2 (by omega), hc k hk 3 (by omega)⟩
/-- A function. -/
structure Pr where
  params : Int
  regs : Int
  A : Option Addr
  cap : Nat
  code : List Ins
abbrev Pr.vals (p : Pr) : Array Value := #[.int .i64 p.params, .int .i64 p.regs, .slice p.A p.code.length p.cap]
def Pr.cell (x : Pr) : Nat → Value
  | 0 => .int .i64 x.params
  | 1 => .int .i64 x.regs
  | _ => .slice x.A x.code.length x.cap
structure Pr.ok (p : Pr) : Prop where
  params : inI p.params
  regs : inI p.regs
  nil : p.A = none → p.cap = 0
  cap : p.code.length ≤ p.cap
  max : p.cap ≤ maxLen
  ins : ∀ x ∈ p.code, x.ok
def RdP (W : World) (A : Option Addr) (l : List Pr) : Prop := 0 < l.length → ∃ b off, A = some ⟨b, off, none⟩ ∧ b < W.heap.size ∧ ∀ i (h : i < l.length) (j : Nat), j < 3 → W.cell? ⟨b, off + i * 3 + j, none⟩ = some (l[i].cell j)
theorem RdP.below {w w' : World} {A : Option Addr} {l : List Pr} (h : RdP w A l) (hb : Below w.heap.size w w') : RdP w' A l := fun h0 => by
  obtain ⟨b, off, rfl, hlt, hc⟩ := h h0
  exact ⟨b, off, rfl, Nat.lt_of_lt_of_le hlt hb.size, fun i hi j hj => (hb.cell (p := ⟨b, off + i * 3 + j, none⟩) hlt).trans (hc i hi j hj)⟩
theorem RdP.at {w : World} {A : Option Addr} {l : List Pr} (h : RdP w A l) {k : Nat} (hk : k < l.length) : ∃ b off, A = some ⟨b, off, none⟩ ∧ b < w.heap.size ∧ w.cell? ⟨b, off + k * 3, none⟩ = some (.int .i64 l[k].params) ∧ w.cell? ⟨b, off + k * 3 + 1, none⟩ = some (.int .i64 l[k].regs) ∧ w.cell? ⟨b, off + k * 3 + 2, none⟩ = some (.slice l[k].A l[k].code.length l[k].cap) := by
  obtain ⟨b, off, rfl, hlt, hc⟩ := h (by omega)
  exact ⟨b, off, rfl, hlt, hc k hk 0 (by omega), hc k hk 1 (by omega), hc k hk 2 (by omega)⟩
def intsV (l : List Int) : List Value := l.map (Value.int .i64)
theorem rdZ_at {w : World} {A : Option Addr} {l : List Int} (h : RdV w A (intsV l)) {k : Nat} (hk : k < l.length) : ∃ b off, A = some ⟨b, off, none⟩ ∧ b < w.heap.size ∧ w.cell? ⟨b, off + k, none⟩ = some (.int .i64 l[k]) := by
  obtain ⟨b, off, rfl, hlt, hc⟩ := h (by simp [intsV]; omega)
  exact ⟨b, off, rfl, hlt, by rw [hc k (by simp [intsV]; exact hk)]; simp [intsV]⟩
/-- A program. -/
structure Pg where
  PA : Option Addr
  Pc : Nat
  ps : List Pr
  IA : Option Addr
  Ic : Nat
  is : List Int
  TA : Option Addr
  Tc : Nat
  ts : List ByteArray
abbrev Pg.v0 (g : Pg) : Value := .slice g.PA g.ps.length g.Pc
abbrev Pg.v1 (g : Pg) : Value := .slice g.IA g.is.length g.Ic
abbrev Pg.v2 (g : Pg) : Value := .slice g.TA g.ts.length g.Tc
abbrev Pg.vals (g : Pg) : Array Value := #[g.v0, g.v1, g.v2]
structure Pg.at (g : Pg) (W : World) : Prop where
  ps : RdP W g.PA g.ps
  code : ∀ p ∈ g.ps, RdI W p.A p.code
  is : RdV W g.IA (intsV g.is)
  ts : RdV W g.TA (cellsS g.ts)
theorem Pg.at.below {g : Pg} {W W' : World} (h : g.at W) (hb : Below W.heap.size W W') : g.at W' := ⟨h.ps.below hb, fun p hp => (h.code p hp).below hb, h.is.below hb, h.ts.below hb⟩
structure Pg.ok (g : Pg) : Prop where
  pn : g.PA = none → g.Pc = 0
  pl : g.ps.length ≤ g.Pc
  pm : g.Pc ≤ maxLen
  po : ∀ p ∈ g.ps, p.ok
  il : g.is.length ≤ g.Ic
  im : g.Ic ≤ maxLen
  io : ∀ z ∈ g.is, inI z
  tl : g.ts.length ≤ g.Tc
  tm : g.Tc ≤ maxLen
  to : ∀ s ∈ g.ts, s.size ≤ 140737488351232
section
variable {H : Type} {enc : TypeId × Value → H} {W : World}
theorem weights_all {e : TypeId} {d : DataW H} : ∀ {l : List (DataW H)}, d ∈ l → ∀ m ∈ d.weights Tryz.prog e, m ∈ DataW.weightsAll Tryz.prog e l
  | [], h => by cases h
  | x :: r, h => fun m hm => by
    rw [DataW.weightsAll]
    rcases List.mem_cons.1 h with rfl | h
    · exact List.mem_append_left _ hm
    · exact List.mem_append_right _ (weights_all h m hm)
theorem cells9 : Tryz.prog.cellsOf 9 = 1 := by kernel_rfl
theorem cells2 : Tryz.prog.cellsOf 2 = 1 := by kernel_rfl
theorem strs_of {fuel : Nat} {v : Value} {x : DataW H × List MemPlace} (h : DataW.trod enc Tryz.prog W 0 (fun _ => true) true fuel 24 [v] = some x) (hw : ∀ m ∈ x.1.weights Tryz.prog 24, m ≤ reachBytes) :
    ∃ A n c ls, v = .slice A n c ∧ List.length ls = n ∧ n ≤ c ∧ c ≤ maxLen ∧ (A = none → c = 0) ∧ RdV W A (cellsS ls) ∧ ∀ s ∈ ls, s.size ≤ 140737488351232 := by
  rcases open_strs Tryz.underlying24 Tryz.underlying9 cells9 h with ⟨hcs, _⟩ | ⟨a, l, c, m, S, hcs, _, hl, hm, hmm, hx, hcell⟩
  · simp at hcs
    exact ⟨none, 0, 0, [], hcs, rfl, Nat.le_refl _, by simp [maxLen], fun _ => rfl, RdV.nil _ _, fun s hs => by cases hs⟩
  · simp at hcs hmm
    subst hmm
    have hlen : ((List.range l).map S).length = l := by simp
    refine ⟨some a, l, m, (List.range l).map S, hcs, hlen, hl, hm, (fun h => by cases h), fun h0 => ?_, fun s hs => ?_⟩
    · rw [cellsS_len, hlen] at h0
      obtain ⟨b, off, spot⟩ := a
      have hc0 := (hcell 0 (by omega)).1
      have hspot : spot = none := by simpa [Addr.add] using World.cell?_spot hc0
      subst hspot
      rw [addoff] at hc0
      refine ⟨b, off, rfl, block_lt hc0, fun j hj => ?_⟩
      rw [cellsS_len, hlen] at hj
      have h1 := (hcell j (by omega)).1
      rw [addoff] at h1
      rw [h1]
      simp [cellsS]
    · obtain ⟨i, hi, rfl⟩ := List.mem_map.1 hs
      subst hx
      refine hw _ ?_
      rw [DataW.weights, Tryz.underlying24]
      simp only
      refine List.mem_cons_of_mem _ (List.mem_append_left _ (weights_all (List.mem_map.2 ⟨i, hi, rfl⟩) _ ?_))
      rw [DataW.weights]
      have h2 : (S i).data.toList.length = (S i).size := by rw [Array.length_toList]; rfl
      rw [h2]
      exact List.mem_singleton.2 rfl
theorem ints_of {fuel : Nat} {v : Value} {x : DataW H × List MemPlace} (h : DataW.trod enc Tryz.prog W 0 (fun _ => true) true fuel 23 [v] = some x) :
    ∃ A n c l, v = .slice A n c ∧ List.length l = n ∧ n ≤ c ∧ c ≤ maxLen ∧ (A = none → c = 0) ∧ RdV W A (intsV l) ∧ ∀ z ∈ l, inI z := by
  rcases open_ints Tryz.underlying23 Tryz.underlying2 cells2 h with ⟨hcs, _⟩ | ⟨a, l, c, zs, hcs, _, hl, hm, hz, _, hcell, hwz⟩
  · simp at hcs
    exact ⟨none, 0, 0, [], hcs, rfl, Nat.le_refl _, by simp [maxLen], fun _ => rfl, RdV.nil _ _, fun z hz => by cases hz⟩
  · simp at hcs
    have hz' : zs.length = c := by simpa using hz
    have hlen : (zs.take l).length = l := by rw [List.length_take]; omega
    refine ⟨some a, l, c, zs.take l, hcs, hlen, hl, hm, (fun h => by cases h), fun h0 => ?_, fun z hz => wf_i64 (hwz z (List.mem_of_mem_take hz))⟩
    have h0' : 0 < l := by simp [intsV] at h0; omega
    obtain ⟨b, off, spot⟩ := a
    have hc0 := hcell 0 (by omega)
    have hspot : spot = none := by simpa [Addr.add] using World.cell?_spot hc0
    subst hspot
    rw [addoff] at hc0
    refine ⟨b, off, rfl, block_lt hc0, fun j hj => ?_⟩
    have hjl : j < l := by simp [intsV] at hj; omega
    have hj' : j < zs.length := by omega
    have h1 := hcell j hj'
    rw [addoff] at h1
    rw [h1]
    simp [intsV, List.getD, hj']
set_option maxRecDepth 100000 in
theorem ins_of {fuel : Nat} {v : Value} {x : DataW H × List MemPlace} (h : DataW.trod enc Tryz.prog W 0 (fun _ => true) true fuel 37 [v] = some x) :
    ∃ A n c l, v = .slice A n c ∧ List.length l = n ∧ n ≤ c ∧ c ≤ maxLen ∧ (A = none → c = 0) ∧ RdI W A l ∧ ∀ a ∈ l, a.ok := by
  rcases open_slice Tryz.underlying37 h with ⟨hcs, _⟩ | ⟨a, l, c, m, f, D, Pl, hcs, _, hl, hm, hmm, hx, hcell⟩
  · simp at hcs
    exact ⟨none, 0, 0, [], hcs, rfl, Nat.le_refl _, by simp [maxLen], fun _ => rfl, fun h => absurd h (by simp), fun s hs => by cases hs⟩
  · simp at hcs hmm
    subst hmm
    have hC : Tryz.prog.cellsOf 42 = 4 := by kernel_rfl
    rw [hC] at hcell
    have key : ∀ i, ∃ z : Ins, i < l → (z.ok ∧ ∀ j, j < 4 → W.cell? (a.add (i * 4 + j)) = some (z.cell j)) := by
      intro i
      by_cases hi : i < l
      rotate_left
      · exact ⟨⟨0, 0, 0, 0⟩, fun h => absurd h hi⟩
      obtain ⟨cs, hc, ht⟩ := hcell i (by omega)
      obtain ⟨_, hcl, hat⟩ := World.cells?_some hc
      obtain ⟨y0, y1, y2, y3, n, hy, hlen, t0, t1, t2, t3⟩ := trod_struct4 Tryz.underlying42 ht
      match cs, hcl with
      | [c0, c1, c2, c3], _ =>
        have k35 : Tryz.prog.cellsOf 40 = 1 := by kernel_rfl
        have k3 : Tryz.prog.cellsOf 3 = 1 := by kernel_rfl
        simp only [k35, k3, List.drop_zero, List.drop_succ_cons, List.take_succ_cons, List.take_zero] at t0 t1 t2 t3
        obtain ⟨z0, e0, x0, w0⟩ := DataW.trod_int Tryz.underlying40 t0
        obtain ⟨z1, e1, x1, w1⟩ := DataW.trod_int Tryz.underlying3 t1
        obtain ⟨z2, e2, x2, w2⟩ := DataW.trod_int Tryz.underlying3 t2
        obtain ⟨z3, e3, x3, w3⟩ := DataW.trod_int Tryz.underlying3 t3
        cases e0; cases e1; cases e2; cases e3
        refine ⟨⟨z0, z1, z2, z3⟩, fun _ => ⟨⟨wf_i64 w0, wf_i64 w1, wf_i64 w2, wf_i64 w3⟩, fun j hj => ?_⟩⟩
        have h1 := hat j hj
        rw [Go.Deep.add_add] at h1
        rw [h1]
        match j, hj with
        | 0, _ => rfl
        | 1, _ => rfl
        | 2, _ => rfl
        | 3, _ => rfl
    obtain ⟨S, hS⟩ := Classical.axiomOfChoice key
    have hlen : ((List.range l).map S).length = l := by simp
    refine ⟨some a, l, m, (List.range l).map S, hcs, hlen, hl, hm, (fun h => by cases h), fun h0 => ?_, fun s hs => ?_⟩
    · rw [hlen] at h0
      obtain ⟨b, off, spot⟩ := a
      have hc0 := (hS 0 h0).2 0 (by omega)
      have hspot : spot = none := by simpa [Addr.add] using World.cell?_spot hc0
      subst hspot
      rw [addoff] at hc0
      refine ⟨b, off, rfl, block_lt hc0, fun i hi j hj => ?_⟩
      rw [hlen] at hi
      have h1 := (hS i hi).2 j hj
      rw [addoff, ← Nat.add_assoc] at h1
      rw [h1]
      simp
    · obtain ⟨i, hi, rfl⟩ := List.mem_map.1 hs
      exact (hS i (List.mem_range.1 hi)).1
set_option maxRecDepth 100000 in
theorem protos_of {fuel : Nat} {v : Value} {x : DataW H × List MemPlace} (h : DataW.trod enc Tryz.prog W 0 (fun _ => true) true fuel 22 [v] = some x) :
    ∃ A n c l, v = .slice A n c ∧ List.length l = n ∧ n ≤ c ∧ c ≤ maxLen ∧ (A = none → c = 0) ∧ RdP W A l ∧ (∀ p ∈ l, RdI W p.A p.code) ∧ ∀ p ∈ l, p.ok := by
  rcases open_slice Tryz.underlying22 h with ⟨hcs, _⟩ | ⟨a, l, c, m, f, D, Pl, hcs, _, hl, hm, hmm, hx, hcell⟩
  · simp at hcs
    exact ⟨none, 0, 0, [], hcs, rfl, Nat.le_refl _, by simp [maxLen], fun _ => rfl, fun h => absurd h (by simp), (fun s hs => by cases hs), fun s hs => by cases hs⟩
  · simp at hcs hmm
    subst hmm
    have hC : Tryz.prog.cellsOf 39 = 3 := by kernel_rfl
    rw [hC] at hcell
    have key : ∀ i, ∃ z : Pr, i < l → (z.ok ∧ RdI W z.A z.code ∧ ∀ j, j < 3 → W.cell? (a.add (i * 3 + j)) = some (z.cell j)) := by
      intro i
      by_cases hi : i < l
      rotate_left
      · exact ⟨⟨0, 0, none, 0, []⟩, fun h => absurd h hi⟩
      obtain ⟨cs, hc, ht⟩ := hcell i (by omega)
      obtain ⟨_, hcl, hat⟩ := World.cells?_some hc
      obtain ⟨y0, y1, y2, n, hy, hlen, t0, t1, t2⟩ := trod_struct3 Tryz.underlying39 ht
      match cs, hcl with
      | [c0, c1, c2], _ =>
        have k32 : Tryz.prog.cellsOf 37 = 1 := by kernel_rfl
        have k3 : Tryz.prog.cellsOf 3 = 1 := by kernel_rfl
        simp only [k32, k3, List.drop_zero, List.drop_succ_cons, List.take_succ_cons, List.take_zero] at t0 t1 t2
        obtain ⟨z0, e0, x0, w0⟩ := DataW.trod_int Tryz.underlying3 t0
        obtain ⟨z1, e1, x1, w1⟩ := DataW.trod_int Tryz.underlying3 t1
        obtain ⟨A, n2, c2', l2, rfl, rfl, hl2, hm2, hn2, hr2, ho2⟩ := ins_of t2
        cases e0; cases e1
        refine ⟨⟨z0, z1, A, c2', l2⟩, fun _ => ⟨⟨wf_i64 w0, wf_i64 w1, hn2, hl2, hm2, ho2⟩, hr2, fun j hj => ?_⟩⟩
        have h1 := hat j hj
        rw [Go.Deep.add_add] at h1
        rw [h1]
        match j, hj with
        | 0, _ => rfl
        | 1, _ => rfl
        | 2, _ => rfl
    obtain ⟨S, hS⟩ := Classical.axiomOfChoice key
    have hlen : ((List.range l).map S).length = l := by simp
    refine ⟨some a, l, m, (List.range l).map S, hcs, hlen, hl, hm, (fun h => by cases h), fun h0 => ?_, fun s hs => ?_, fun s hs => ?_⟩
    · rw [hlen] at h0
      obtain ⟨b, off, spot⟩ := a
      have hc0 := (hS 0 h0).2.2 0 (by omega)
      have hspot : spot = none := by simpa [Addr.add] using World.cell?_spot hc0
      subst hspot
      rw [addoff] at hc0
      refine ⟨b, off, rfl, block_lt hc0, fun i hi j hj => ?_⟩
      rw [hlen] at hi
      have h1 := (hS i hi).2.2 j hj
      rw [addoff, ← Nat.add_assoc] at h1
      rw [h1]
      simp
    · obtain ⟨i, hi, rfl⟩ := List.mem_map.1 hs
      exact (hS i (List.mem_range.1 hi)).2.1
    · obtain ⟨i, hi, rfl⟩ := List.mem_map.1 hs
      exact (hS i (List.mem_range.1 hi)).1
set_option maxRecDepth 100000 in
/-- An argument that is a program. -/
theorem prog_of {base0 : Nat} {v : Value} {fuel : Nat} {x : DataW H × List MemPlace} (hv : Value.okWide Tryz.prog W .any base0 26 v) (h : DataW.trod enc Tryz.prog W 0 (fun _ => true) true fuel 26 v.cells.toList = some x) (hw : ∀ m ∈ x.1.weights Tryz.prog 26, m ≤ reachBytes) :
    ∃ g : Pg, v = .agg g.vals ∧ g.at W ∧ g.ok := by
  obtain ⟨cs, rfl, hsz⟩ := okWide_struct Tryz.underlying26 hv
  have h : DataW.trod enc Tryz.prog W 0 (fun _ => true) true fuel 26 cs.toList = some x := h
  have hcl : cs.toList.length = 3 := by
    have : cs.size = 3 := by first | exact hsz | (rw [hsz]; kernel_rfl) | (simpa using hsz)
    simpa using this
  have hca : Value.agg cs = Value.agg cs.toList.toArray := by simp
  rw [hca]
  clear hv hsz hca
  generalize cs.toList = ls at *
  obtain ⟨y0, y1, y2, n, hy, hlen, t0, t1, t2⟩ := trod_struct3 Tryz.underlying26 h
  match ls, hcl with
  | [c0, c1, c2], _ =>
    have k22 : Tryz.prog.cellsOf 22 = 1 := by kernel_rfl
    have k23 : Tryz.prog.cellsOf 23 = 1 := by kernel_rfl
    have k24 : Tryz.prog.cellsOf 24 = 1 := by kernel_rfl
    simp only [k22, k23, k24, List.drop_zero, List.drop_succ_cons, List.take_succ_cons, List.take_zero] at t0 t1 t2
    obtain ⟨PA, pn, Pc, ps, rfl, rfl, pl, pm, pz, pr, pc, po⟩ := protos_of t0
    obtain ⟨IA, inn, Ic, is, rfl, rfl, il, im, iz, ir, io⟩ := ints_of t1
    have hwt : ∀ m ∈ y2.1.weights Tryz.prog 24, m ≤ reachBytes := fun m hm => hw m (by
      have hD : x.1 = .agg [y0.1, y1.1, y2.1] := congrArg Prod.fst hy
      rw [hD, DataW.weights, Tryz.underlying26]
      simp [DataW.weightsEach, hm])
    obtain ⟨TA, tn, Tc, ts, rfl, rfl, tl, tm, tz, tr, to⟩ := strs_of t2 hwt
    exact ⟨⟨PA, Pc, ps, IA, Ic, is, TA, Tc, ts⟩, rfl, ⟨pr, pc, ir, tr⟩, ⟨pz, pl, pm, po, il, im, io, tl, tm, to⟩⟩
end
end Go.Proofs.YtccofgdcpmplmaaGreatDoor
