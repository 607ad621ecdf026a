/- Whether an operand may be. -/
import Derived.Test.YtccofgdcpmplmaaGreatDoorShp
namespace Go.Proofs.YtccofgdcpmplmaaGreatDoor
open Go Go.RowKit Go.Shelf
/-- What asks the instructions of a function of a program. -/
def akRow (g : Pg) (p : Pr) : Array Value := #[.slice g.PA g.ps.length g.Pc, .slice g.IA g.is.length g.Ic, .slice g.TA g.ts.length g.Tc, .int .i64 p.params, .int .i64 p.regs, .slice p.A p.code.length p.cap] ++ arrK 12
structure AK (K : Nat) (g : Pg) (p : Pr) (W : World) : Prop where
  b : W.heap[K]? = some (.cells (akRow g p) 94 (0, 0))
  g : g.at W
  s : SPC W
theorem AK.below {K : Nat} {g : Pg} {p : Pr} {W W' : World} (h : AK K g p W) (hb : Below W.heap.size W W') : AK K g p W' := ⟨(hb.block _ (Array.getElem?_eq_some_iff.1 h.b).1).trans h.b, h.g.below hb, spc_below h.s hb⟩
theorem AK.cells {K : Nat} {g : Pg} {p : Pr} {W : World} (h : AK K g p W) : W.cell? ⟨K, 0, none⟩ = some (.slice g.PA g.ps.length g.Pc) ∧ W.cell? ⟨K, 1, none⟩ = some (.slice g.IA g.is.length g.Ic) ∧ W.cell? ⟨K, 2, none⟩ = some (.slice g.TA g.ts.length g.Tc) ∧ W.cell? ⟨K, 3, none⟩ = some (.int .i64 p.params) ∧ W.cell? ⟨K, 4, none⟩ = some (.int .i64 p.regs) ∧ W.cell? ⟨K, 5, none⟩ = some (.slice p.A p.code.length p.cap) := by
  refine ⟨?_, ?_, ?_, ?_, ?_, ?_⟩ <;> (simp only [World.cell?, h.b]; unfold akRow; exact (Array.getElem?_append_left (by simp)).trans rfl)
theorem AK.shape {K : Nat} {g : Pg} {p : Pr} {W : World} (h : AK K g p W) (i : Nat) (hi : i < 108) : W.cell? ⟨K, 6 + i, none⟩ = (arrK 12)[i]? := by
  simp only [World.cell?, h.b]
  show (akRow g p)[6 + i]? = _
  unfold akRow
  rw [Array.getElem?_append_right (by simp)]
  simp
def stB (g : Pg) (p : Pr) (what n a : Int) : Bool :=
  if what = 1 then belB n p.regs else if what = 2 then decide (a ≤ n) && belB n p.regs else if what = 3 then belB n (p.regs - 2)
  else if what = 4 then belB n p.code.length else if what = 5 then belB n g.is.length else if what = 6 then belB n g.ts.length
  else if what = 7 then belB n g.ts.length && keyB (g.ts.getD n.toNat ⟨#[]⟩)
  else if what = 8 then belB n g.ps.length && decide ((g.ps.getD n.toNat ⟨0, 0, none, 0, []⟩).params ≤ p.regs - a)
  else if what = 9 then decide (0 ≤ n) && decide (n ≤ p.regs - a) else decide (n = 0)
theorem len_in {n : Nat} (h : n ≤ 1000000) : inI (n : Int) := by unfold inI; omega
structure Pr.mid (p : Pr) : Prop where
  r0 : 0 ≤ p.regs
  r1 : p.regs ≤ 500
section
variable {K : Nat} {g : Pg} {p : Pr}
set_option maxRecDepth 100000 in
set_option maxHeartbeats 4000000 in
theorem st_1 (n a : Int) (w : World) (h : AK K g p w) (hf : g.fit) (hp : p.mid) (hc : p.code.length ≤ 1000000) (hn : inI n) (ha : inI a) :
    Calls Tryz.prog 66 #[.pointer (some ⟨K, 0, none⟩), .int .i64 1, .int .i64 n, .int .i64 a] w fun e w' => e = .returned (.bool (stB g p 1 n a)) ∧ Below w.heap.size w w' := by
  obtain ⟨x0, x1, x2, x3, x4, x5⟩ := h.cells
  have r0 := hp.r0
  have r1 := hp.r1
  have hs : stB g p 1 n a = belB n (p.regs) := by unfold stB; simp
  rw [hs]
  have HC := Lib.hid (below_any' n (p.regs) w hn (by unfold inI; omega))
  generalize belB n (p.regs) = t at *
  clear h hf hp hc hs
  go_enter Tryz.func66, Tryz.ntmps66
  go_wp2_with fail
  refine HC.out.mono ?_
  rintro e w1 ⟨rfl, rfl⟩
  go_wp2_with fail
  go_ret
  exact ⟨rfl, Below.refl _ _⟩
set_option maxRecDepth 100000 in
set_option maxHeartbeats 4000000 in
theorem st_2 (n a : Int) (w : World) (h : AK K g p w) (hf : g.fit) (hp : p.mid) (hc : p.code.length ≤ 1000000) (hn : inI n) (ha : inI a) :
    Calls Tryz.prog 66 #[.pointer (some ⟨K, 0, none⟩), .int .i64 2, .int .i64 n, .int .i64 a] w fun e w' => e = .returned (.bool (stB g p 2 n a)) ∧ Below w.heap.size w w' := by
  obtain ⟨x0, x1, x2, x3, x4, x5⟩ := h.cells
  have r0 := hp.r0
  have r1 := hp.r1
  have hs : stB g p 2 n a = (decide (a ≤ n) && belB n p.regs) := by unfold stB; simp
  rw [hs]
  have HC := Lib.hid (below_any' n p.regs w hn (by unfold inI; omega))
  generalize belB n p.regs = t at *
  clear h hf hp hc hs
  by_cases q : a ≤ n
  · have d1 : decide (n ≥ a) = true := decide_eq_true q
    have d2 : decide (a ≤ n) = true := decide_eq_true q
    rw [d2]
    clear q
    go_enter Tryz.func66, Tryz.ntmps66
    go_wp2_with fail
    refine HC.out.mono ?_
    rintro e w1 ⟨rfl, rfl⟩
    go_wp2_with fail
    go_ret
    exact ⟨by simp, Below.refl _ _⟩
  · have d1 : decide (n ≥ a) = false := decide_eq_false q
    have d2 : decide (a ≤ n) = false := decide_eq_false q
    rw [d2]
    clear q
    go_enter Tryz.func66, Tryz.ntmps66
    go_wp2_with fail
    go_ret
    exact ⟨rfl, Below.refl _ _⟩
set_option maxRecDepth 100000 in
set_option maxHeartbeats 4000000 in
theorem st_3 (n a : Int) (w : World) (h : AK K g p w) (hf : g.fit) (hp : p.mid) (hc : p.code.length ≤ 1000000) (hn : inI n) (ha : inI a) :
    Calls Tryz.prog 66 #[.pointer (some ⟨K, 0, none⟩), .int .i64 3, .int .i64 n, .int .i64 a] w fun e w' => e = .returned (.bool (stB g p 3 n a)) ∧ Below w.heap.size w w' := by
  obtain ⟨x0, x1, x2, x3, x4, x5⟩ := h.cells
  have r0 := hp.r0
  have r1 := hp.r1
  have hs : stB g p 3 n a = belB n (p.regs - 2) := by unfold stB; simp
  rw [hs]
  have HC := Lib.hid (below_any' n (p.regs - 2) w hn (by unfold inI; omega))
  generalize belB n (p.regs - 2) = t at *
  have hw : IntKind.i64.wrap (p.regs - 2) = p.regs - 2 := IntWalk.i64_in _ (by omega)
  clear h hf hp hc hs
  go_enter Tryz.func66, Tryz.ntmps66
  go_wp2_with fail
  refine HC.out.mono ?_
  rintro e w1 ⟨rfl, rfl⟩
  go_wp2_with fail
  go_ret
  exact ⟨rfl, Below.refl _ _⟩
set_option maxRecDepth 100000 in
set_option maxHeartbeats 4000000 in
theorem st_4 (n a : Int) (w : World) (h : AK K g p w) (hf : g.fit) (hp : p.mid) (hc : p.code.length ≤ 1000000) (hn : inI n) (ha : inI a) :
    Calls Tryz.prog 66 #[.pointer (some ⟨K, 0, none⟩), .int .i64 4, .int .i64 n, .int .i64 a] w fun e w' => e = .returned (.bool (stB g p 4 n a)) ∧ Below w.heap.size w w' := by
  obtain ⟨x0, x1, x2, x3, x4, x5⟩ := h.cells
  have r0 := hp.r0
  have r1 := hp.r1
  have hs : stB g p 4 n a = belB n (p.code.length) := by unfold stB; simp
  rw [hs]
  have HC := Lib.hid (below_any' n (p.code.length) w hn (len_in hc))
  generalize belB n (p.code.length) = t at *
  clear h hf hp hc hs
  go_enter Tryz.func66, Tryz.ntmps66
  go_wp2_with fail
  refine HC.out.mono ?_
  rintro e w1 ⟨rfl, rfl⟩
  go_wp2_with fail
  go_ret
  exact ⟨rfl, Below.refl _ _⟩
set_option maxRecDepth 100000 in
set_option maxHeartbeats 4000000 in
theorem st_5 (n a : Int) (w : World) (h : AK K g p w) (hf : g.fit) (hp : p.mid) (hc : p.code.length ≤ 1000000) (hn : inI n) (ha : inI a) :
    Calls Tryz.prog 66 #[.pointer (some ⟨K, 0, none⟩), .int .i64 5, .int .i64 n, .int .i64 a] w fun e w' => e = .returned (.bool (stB g p 5 n a)) ∧ Below w.heap.size w w' := by
  obtain ⟨x0, x1, x2, x3, x4, x5⟩ := h.cells
  have r0 := hp.r0
  have r1 := hp.r1
  have hs : stB g p 5 n a = belB n (g.is.length) := by unfold stB; simp
  rw [hs]
  have HC := Lib.hid (below_any' n (g.is.length) w hn (len_in hf.i))
  generalize belB n (g.is.length) = t at *
  clear h hf hp hc hs
  go_enter Tryz.func66, Tryz.ntmps66
  go_wp2_with fail
  refine HC.out.mono ?_
  rintro e w1 ⟨rfl, rfl⟩
  go_wp2_with fail
  go_ret
  exact ⟨rfl, Below.refl _ _⟩
set_option maxRecDepth 100000 in
set_option maxHeartbeats 4000000 in
theorem st_6 (n a : Int) (w : World) (h : AK K g p w) (hf : g.fit) (hp : p.mid) (hc : p.code.length ≤ 1000000) (hn : inI n) (ha : inI a) :
    Calls Tryz.prog 66 #[.pointer (some ⟨K, 0, none⟩), .int .i64 6, .int .i64 n, .int .i64 a] w fun e w' => e = .returned (.bool (stB g p 6 n a)) ∧ Below w.heap.size w w' := by
  obtain ⟨x0, x1, x2, x3, x4, x5⟩ := h.cells
  have r0 := hp.r0
  have r1 := hp.r1
  have hs : stB g p 6 n a = belB n (g.ts.length) := by unfold stB; simp
  rw [hs]
  have HC := Lib.hid (below_any' n (g.ts.length) w hn (len_in hf.t))
  generalize belB n (g.ts.length) = t at *
  clear h hf hp hc hs
  go_enter Tryz.func66, Tryz.ntmps66
  go_wp2_with fail
  refine HC.out.mono ?_
  rintro e w1 ⟨rfl, rfl⟩
  go_wp2_with fail
  go_ret
  exact ⟨rfl, Below.refl _ _⟩
set_option maxRecDepth 100000 in
set_option maxHeartbeats 4000000 in
theorem st_7 (n a : Int) (w : World) (h : AK K g p w) (hf : g.fit) (hp : p.mid) (hc : p.code.length ≤ 1000000) (hn : inI n) (ha : inI a) :
    Calls Tryz.prog 66 #[.pointer (some ⟨K, 0, none⟩), .int .i64 7, .int .i64 n, .int .i64 a] w fun e w' => e = .returned (.bool (stB g p 7 n a)) ∧ Below w.heap.size w w' := by
  obtain ⟨x0, x1, x2, x3, x4, x5⟩ := h.cells
  have r0 := hp.r0
  have r1 := hp.r1
  have hs : stB g p 7 n a = (belB n g.ts.length && keyB (g.ts.getD n.toNat ⟨#[]⟩)) := by unfold stB; simp
  rw [hs]
  have HC := Lib.hid (below_any' n g.ts.length w hn (len_in hf.t))
  cases q : belB n g.ts.length with
  | false =>
    rw [q] at HC
    clear h hf hp hc hs q
    go_enter Tryz.func66, Tryz.ntmps66
    go_wp2_with fail
    refine HC.out.mono ?_
    rintro e w1 ⟨rfl, rfl⟩
    go_wp2_with fail
    go_ret
    exact ⟨rfl, Below.refl _ _⟩
  | true =>
    rw [q] at HC
    have q2 := q
    unfold belB at q2
    simp only [Bool.and_eq_true, decide_eq_true_eq] at q2
    obtain ⟨m, rfl⟩ : ∃ m : Nat, n = (m : Int) := ⟨n.toNat, by omega⟩
    have hm : m < g.ts.length := by omega
    obtain ⟨b, off, hA, -, u0⟩ := rdS_at h.g.ts hm
    have hg : g.ts.getD (m : Int).toNat ⟨#[]⟩ = g.ts[m] := by simp [List.getD, hm]
    rw [hg]
    have hk0 := q2.1
    have hk1 := q2.2
    obtain ⟨s, hsx⟩ : ∃ s, g.ts[m] = s := ⟨_, rfl⟩
    rw [hsx] at u0
    rw [hsx]
    have HB := Lib.hid (builtin_any s w h.s)
    generalize keyB s = t at *
    obtain ⟨l, hl⟩ : ∃ l, g.ts.length = l := ⟨_, rfl⟩
    rw [hl] at x2 hk1 HC
    rw [hA] at x2
    clear h hf hp hc hs q q2 hg hsx hm hl hA
    go_enter Tryz.func66, Tryz.ntmps66
    go_wp2_with fail
    refine HC.out.mono ?_
    rintro e w1 ⟨rfl, rfl⟩
    go_wp2_with fail
    refine HB.out.mono ?_
    rintro e w2 ⟨rfl, hb⟩
    have HB2 := Lib.hid hb
    clear hb
    go_wp2_with fail
    go_ret
    exact ⟨by simp, HB2.out⟩
set_option maxRecDepth 100000 in
set_option maxHeartbeats 4000000 in
theorem st_8 (n a : Int) (w : World) (h : AK K g p w) (hf : g.fit) (hp : p.mid) (hc : p.code.length ≤ 1000000) (hn : inI n) (ha : inI a) (a0 : 0 ≤ a) (a1 : a ≤ 1000) :
    Calls Tryz.prog 66 #[.pointer (some ⟨K, 0, none⟩), .int .i64 8, .int .i64 n, .int .i64 a] w fun e w' => e = .returned (.bool (stB g p 8 n a)) ∧ Below w.heap.size w w' := by
  obtain ⟨x0, x1, x2, x3, x4, x5⟩ := h.cells
  have r0 := hp.r0
  have r1 := hp.r1
  have hs : stB g p 8 n a = (belB n g.ps.length && decide ((g.ps.getD n.toNat ⟨0, 0, none, 0, []⟩).params ≤ p.regs - a)) := by unfold stB; simp
  rw [hs]
  have HC := Lib.hid (below_any' n g.ps.length w hn (len_in hf.p))
  have hw : IntKind.i64.wrap (p.regs - a) = p.regs - a := IntWalk.i64_in _ (by omega)
  cases q : belB n g.ps.length with
  | false =>
    rw [q] at HC
    clear h hf hp hc hs q
    go_enter Tryz.func66, Tryz.ntmps66
    go_wp2_with fail
    refine HC.out.mono ?_
    rintro e w1 ⟨rfl, rfl⟩
    go_wp2_with fail
    go_ret
    exact ⟨rfl, Below.refl _ _⟩
  | true =>
    rw [q] at HC
    have q2 := q
    unfold belB at q2
    simp only [Bool.and_eq_true, decide_eq_true_eq] at q2
    obtain ⟨m, rfl⟩ : ∃ m : Nat, n = (m : Int) := ⟨n.toNat, by omega⟩
    have hm : m < g.ps.length := by omega
    obtain ⟨b, off, hA, -, u0, -, -⟩ := h.g.ps.at hm
    have hg : g.ps.getD (m : Int).toNat ⟨0, 0, none, 0, []⟩ = g.ps[m] := by simp [List.getD, hm]
    rw [hg]
    have hk0 := q2.1
    have hk1 := q2.2
    obtain ⟨s, hsx⟩ : ∃ s, g.ps[m].params = s := ⟨_, rfl⟩
    rw [hsx] at u0
    rw [hsx]
    obtain ⟨l, hl⟩ : ∃ l, g.ps.length = l := ⟨_, rfl⟩
    rw [hl] at x0 hk1 HC
    rw [hA] at x0
    clear h hf hp hc hs q q2 hg hsx hm hl hA
    go_enter Tryz.func66, Tryz.ntmps66
    go_wp2_with fail
    refine HC.out.mono ?_
    rintro e w1 ⟨rfl, rfl⟩
    go_wp2_with fail
    go_ret
    exact ⟨by simp, Below.refl _ _⟩
set_option maxRecDepth 100000 in
set_option maxHeartbeats 4000000 in
theorem st_9 (n a : Int) (w : World) (h : AK K g p w) (hf : g.fit) (hp : p.mid) (hc : p.code.length ≤ 1000000) (hn : inI n) (ha : inI a) (a0 : 0 ≤ a) (a1 : a ≤ 1000) :
    Calls Tryz.prog 66 #[.pointer (some ⟨K, 0, none⟩), .int .i64 9, .int .i64 n, .int .i64 a] w fun e w' => e = .returned (.bool (stB g p 9 n a)) ∧ Below w.heap.size w w' := by
  obtain ⟨x0, x1, x2, x3, x4, x5⟩ := h.cells
  have r0 := hp.r0
  have r1 := hp.r1
  have hs : stB g p 9 n a = (decide (0 ≤ n) && decide (n ≤ p.regs - a)) := by unfold stB; simp
  rw [hs]
  have hw : IntKind.i64.wrap (p.regs - a) = p.regs - a := IntWalk.i64_in _ (by omega)
  clear h hf hp hc hs
  by_cases q : 0 ≤ n
  · have d1 : decide (n ≥ 0) = true := decide_eq_true q
    have d2 : decide (0 ≤ n) = true := decide_eq_true q
    rw [d2]
    clear q
    go_enter Tryz.func66, Tryz.ntmps66
    go_wp2_with fail
    go_ret
    exact ⟨by simp, Below.refl _ _⟩
  · have d1 : decide (n ≥ 0) = false := decide_eq_false q
    have d2 : decide (0 ≤ n) = false := decide_eq_false q
    rw [d2]
    clear q
    go_enter Tryz.func66, Tryz.ntmps66
    go_wp2_with fail
    go_ret
    exact ⟨rfl, Below.refl _ _⟩
set_option maxRecDepth 100000 in
set_option maxHeartbeats 4000000 in
theorem st_0 (n a : Int) (w : World) (h : AK K g p w) (hf : g.fit) (hp : p.mid) (hc : p.code.length ≤ 1000000) (hn : inI n) (ha : inI a) :
    Calls Tryz.prog 66 #[.pointer (some ⟨K, 0, none⟩), .int .i64 0, .int .i64 n, .int .i64 a] w fun e w' => e = .returned (.bool (stB g p 0 n a)) ∧ Below w.heap.size w w' := by
  obtain ⟨x0, x1, x2, x3, x4, x5⟩ := h.cells
  have r0 := hp.r0
  have r1 := hp.r1
  have hs : stB g p 0 n a = decide (n = 0) := by unfold stB; simp
  rw [hs]
  clear h hf hp hc hs
  by_cases q : n = 0
  · obtain ⟨e1, e2⟩ := int_eqs q
    rw [decide_eq_true q]
    clear q
    go_enter Tryz.func66, Tryz.ntmps66
    go_wp2_with fail
    go_ret
    exact ⟨by simp [e1], Below.refl _ _⟩
  · obtain ⟨e1, e2⟩ := int_nes q
    rw [decide_eq_false q]
    clear q
    go_enter Tryz.func66, Tryz.ntmps66
    go_wp2_with fail
    go_ret
    exact ⟨by simp [e1], Below.refl _ _⟩
end
end Go.Proofs.YtccofgdcpmplmaaGreatDoor
