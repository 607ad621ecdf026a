/- The five steps. -/
import Derived.Test.YtcfglgejjmapdaaDooB
namespace Go.Proofs.Ytcfglgejjmapdaa
open Go Go.RowKit Go.Shelf
def stepErr (ns : List ByteArray) (ask : Int) (hb : Bool) (rm : Int) : Int := if ns.all nameB = false then 2 else if ask ≠ 0 then ask else if hb = true ∧ rm = 0 then 7 else 0
section
variable {T : Nat → Prop} {D M steps : Nat} {gs : List G} {hb : Bool} {rm : Int}
def OutQ (T : Nat → Prop) (D M : Nat) (gs : List G) (steps : Nat) (hb : Bool) (rm : Int) (r : Int) (fs : List F) (w w' : World) : Prop :=
  StepQ T D M (if r = 0 then fs else gs.map G.f) (if r = 0 then steps + 1 else steps) hb (if r = 0 then (if hb then rm - 1 else rm) else rm) w w'
theorem OutQ.no {r : Int} {fs : List F} {w w' : World} (h : DK T D M gs steps hb rm w) (hr : r ≠ 0) (hb2 : Below w.heap.size w w') : OutQ T D M gs steps hb rm r fs w w' := by
  unfold OutQ
  rw [if_neg hr, if_neg hr, if_neg hr]
  exact ⟨T, gs, h.below hb2, rfl, fun b hb => .inl hb, .of_below hb2⟩
theorem OutQ.yes {fs : List F} {w w' : World} (h : StepQ T D M fs (steps + 1) hb (if hb then rm - 1 else rm) w w') : OutQ T D M gs steps hb rm 0 fs w w' := by
  unfold OutQ
  rw [if_pos rfl, if_pos rfl, if_pos rfl]
  exact h
theorem OutQ.from {r : Int} {fs : List F} {w W w' : World} (hb2 : Below w.heap.size w W) (h : OutQ T D M gs steps hb rm r fs W w') : OutQ T D M gs steps hb rm r fs w w' := by
  obtain ⟨T2, gs', h1, h2, h3, h4⟩ := h
  have := hb2.size
  refine ⟨T2, gs', h1, h2, fun b hb => ?_, (KeepT.of_below (T := T) hb2).trans h4 (fun b hb => .inl hb)⟩
  rcases h3 b hb with h5 | h5
  · exact .inl h5
  · exact .inr (by omega)
theorem done_any (w : World) (h : DK T D M gs steps hb rm w) (A : Option Addr) (n c : Nat) (ns : List ByteArray) (hn : ns.length = n) (hr : RdV w A (cellsS ns)) (hs : ∀ s ∈ ns, s.size ≤ 9223372036854775807) (bn : n ≤ 9223372036854775807) (ga gd : Nat) (lba lbd : Array Value) (r : Int) (hask : Asks w ga lba r) (hst : steps ≤ 1000000) (fs : List F)
    (hcd : ∀ args w, (callFunc gd args).run Try.prog w = .ok (.enter gd args) w) (hdo : ns.all nameB = true → r = 0 → ∀ X, Ready T D M gs steps hb rm w X → Calls Try.prog gd lbd X (DoQ T D M fs steps hb rm w)) :
    Calls Try.prog 41 #[.pointer (some ⟨D, 0, none⟩), .agg #[.slice A n c, fv ga lba, fv gd lbd]] w fun e w' => e = .returned (.int .i64 (stepErr ns r hb rm)) ∧ OutQ T D M gs steps hb rm (stepErr ns r hb rm) fs w w' := by
  unfold stepErr
  cases hg : ns.all nameB with
  | false =>
    rw [if_pos rfl]
    exact (done_bad w h A n c ns hn hr hs bn ga gd lba lbd hg).mono fun e w' ⟨h1, h2⟩ => ⟨h1, OutQ.no h (by omega) h2⟩
  | true =>
    rw [if_neg (by simp)]
    by_cases h0 : r = 0
    · subst h0
      rw [if_neg (by simp)]
      by_cases hh : hb = true ∧ rm = 0
      · rw [if_pos hh]
        exact (done_halt w h A n c ns hn hr hs bn ga gd lba lbd hg hask hh).mono fun e w' ⟨h1, h2⟩ => ⟨h1, OutQ.no h (by omega) h2⟩
      · rw [if_neg hh]
        exact (done_yes w h A n c ns hn hr hs bn ga gd lba lbd hg hask hh hst _ hcd (hdo hg rfl)).mono fun e w' ⟨h1, h2⟩ => ⟨h1, OutQ.yes h2⟩
    · rw [if_pos h0]
      exact (done_ask w h A n c ns hn hr hs bn ga gd lba lbd hg r hask h0).mono fun e w' ⟨h1, h2⟩ => ⟨h1, OutQ.no h h0 h2⟩
theorem Bx.new {w : World} (v : Value) (e : TypeId) : Bx (w.alloc (.cells #[v] e)) w.heap.size v := by
  have := heap_alloc_new w (.cells #[v] e)
  simp only [Bx, World.cell?, this]
  rfl
theorem Bx.alloc {w : World} {b : Nat} {v : Value} (h : Bx w b v) (o : Obj) : Bx (w.alloc o) b v := h.below (below_new w o)
theorem rd_one {w : World} (s : ByteArray) : RdV (w.alloc (.cells #[.string s] 9)) (some ⟨w.heap.size, 0, none⟩) (cellsS [s]) := fun _ => by
  have := heap_alloc_new w (.cells #[.string s] 9)
  refine ⟨w.heap.size, 0, rfl, (Array.getElem?_eq_some_iff.1 this).1, fun j hj => ?_⟩
  have hj0 : j = 0 := by simp [cellsS] at hj; omega
  subst hj0
  simp only [World.cell?, this]
  rfl
theorem rd_two {w : World} (s s2 : ByteArray) : RdV (w.alloc (.cells #[.string s, .string s2] 9)) (some ⟨w.heap.size, 0, none⟩) (cellsS [s, s2]) := fun _ => by
  have := heap_alloc_new w (.cells #[.string s, .string s2] 9)
  refine ⟨w.heap.size, 0, rfl, (Array.getElem?_eq_some_iff.1 this).1, fun j hj => ?_⟩
  have hj0 : j = 0 ∨ j = 1 := by simp [cellsS] at hj; omega
  rcases hj0 with rfl | rfl
  · simp only [World.cell?, this]
    rfl
  · simp only [World.cell?, this]
    rfl

def syncF (fs : List F) (nm : ByteArray) : List F := match fnd F.name fs nm with
  | some f => wth F.name fs ⟨nm, f.bytes, f.bytes.size⟩
  | none => fs
def cutS (fs : List F) (nm : ByteArray) (H : Nat) : List F := match fnd F.name fs nm with
  | some f => wth F.name fs ⟨nm, ⟨((bl f.bytes).take H).toArray⟩, min f.sync H⟩
  | none => fs
def renameF (fs : List F) (nm nm2 : ByteArray) : List F := match fnd F.name fs nm with
  | some f => wth F.name (drp F.name fs nm) ⟨nm2, f.bytes, f.sync⟩
  | none => fs
theorem syncF_some {nm : ByteArray} {g : G} (hq : fnd gn gs nm = some g) : syncF (gs.map G.f) nm = wth F.name (gs.map G.f) ⟨nm, g.f.bytes, g.f.bytes.size⟩ := by
  unfold syncF; rw [fnd_f, hq]; rfl
theorem cutS_some {nm : ByteArray} {g : G} {H : Nat} (hq : fnd gn gs nm = some g) : cutS (gs.map G.f) nm H = wth F.name (gs.map G.f) ⟨nm, ⟨((bl g.f.bytes).take H).toArray⟩, min g.f.sync H⟩ := by
  unfold cutS; rw [fnd_f, hq]; rfl
theorem renameF_some {nm nm2 : ByteArray} {g : G} (hq : fnd gn gs nm = some g) : renameF (gs.map G.f) nm nm2 = wth F.name (drp F.name (gs.map G.f) nm) ⟨nm2, g.f.bytes, g.f.sync⟩ := by
  unfold renameF; rw [fnd_f, hq]; rfl
theorem there_yes {nm : ByteArray} (h : askThere gs nm = 0) : ∃ g, fnd gn gs nm = some g := by
  unfold askThere at h
  cases hq : fnd gn gs nm with
  | none => rw [hq] at h; exact absurd h (by decide)
  | some g => exact ⟨g, rfl⟩
theorem cut_yes {nm : ByteArray} {m : Int} (h : askCut gs nm m = 0) : ∃ g, fnd gn gs nm = some g ∧ 0 ≤ m ∧ m ≤ g.f.bytes.size := by
  unfold askCut at h
  cases hq : fnd gn gs nm with
  | none => rw [hq] at h; dsimp only at h; exact absurd h (by decide)
  | some g =>
    rw [hq] at h
    dsimp only at h
    split at h
    · exact absurd h (by decide)
    · exact ⟨g, rfl, by omega, by omega⟩

set_option maxRecDepth 100000 in
set_option maxHeartbeats 4000000 in
theorem remove_any (w : World) (h : DK T D M gs steps hb rm w) (nm : ByteArray) (hn : nm.size ≤ maxLen) (hst : steps ≤ 1000000) (hgl : gs.length ≤ 100000) :
    Calls Try.prog 34 #[.pointer (some ⟨D, 0, none⟩), .string nm] w fun e w' => e = .returned (.int .i64 (stepErr [nm] (askThere gs nm) hb rm)) ∧ OutQ T D M gs steps hb rm (stepErr [nm] (askThere gs nm) hb rm) (drp F.name (gs.map G.f) nm) w w' := by
  have hlt := h.lt
  obtain ⟨W0, hW0⟩ : ∃ W0, W0 = w.alloc (.cells #[(.pointer (some ⟨D, 0, none⟩))] 28) := ⟨_, rfl⟩
  have s0 : W0.heap.size = w.heap.size + 1 := by rw [hW0]; simp
  have x0_0 : Bx W0 w.heap.size (.pointer (some ⟨D, 0, none⟩)) := by rw [hW0]; exact Bx.new _ _
  obtain ⟨W1, hW1⟩ : ∃ W1, W1 = W0.alloc (.cells #[(.string nm)] 9) := ⟨_, rfl⟩
  have s1 : W1.heap.size = w.heap.size + 2 := by rw [hW1]; simp [s0]
  have x1_1 : Bx W1 (w.heap.size + 1) (.string nm) := by rw [hW1, ← s0]; exact Bx.new _ _
  have x0_1 : Bx W1 w.heap.size (.pointer (some ⟨D, 0, none⟩)) := by rw [hW1]; exact x0_0.alloc _
  obtain ⟨W, hW⟩ : ∃ W, W = W1.alloc (.cells #[.string nm] 9) := ⟨_, rfl⟩
  have sW : W.heap.size = w.heap.size + 3 := by rw [hW]; simp [s1]
  have y0 : Bx W w.heap.size (.pointer (some ⟨D, 0, none⟩)) := by rw [hW]; exact x0_1.alloc _
  have y1 : Bx W (w.heap.size + 1) (.string nm) := by rw [hW]; exact x1_1.alloc _
  have hB0 : Below w.heap.size w W0 := by rw [hW0]; exact (Below.refl _ _).alloc (Nat.le_refl _) _
  have hB1 : Below w.heap.size w W1 := by rw [hW1]; exact hB0.alloc (by rw [s0]; omega) _
  have hB : Below w.heap.size w W := by rw [hW]; exact hB1.alloc (by rw [s1]; omega) _
  have hX := h.below hB
  have hrd : RdV W (some ⟨w.heap.size + 2, 0, none⟩) (cellsS [nm]) := by rw [hW, ← s1]; exact rd_one _
  have hno : ∀ j, ¬ T (w.heap.size + j) := fun j hT => by have := hlt _ hT; omega
  have HC := Lib.hid ((done_any W hX (some ⟨w.heap.size + 2, 0, none⟩) 1 1 [nm] rfl hrd (by simp only [List.mem_cons, List.not_mem_nil, or_false, forall_eq_or_imp, forall_eq]; simp only [maxLen] at *; omega) (by omega) 51 52 #[.pointer (some ⟨w.heap.size, 0, none⟩), .pointer (some ⟨w.heap.size + 1, 0, none⟩)] #[.pointer (some ⟨w.heap.size, 0, none⟩), .pointer (some ⟨w.heap.size + 1, 0, none⟩)] (askThere gs nm) (ask_remove W hX (w.heap.size) (w.heap.size + 1) nm hn y0 y1) hst (drp F.name (gs.map G.f) nm) (enters_of Try.func52 (by kernel_rfl) rfl)
    (fun hall hr0 X hR => do_remove W (w.heap.size) (w.heap.size + 1) nm hn y0 y1 ⟨hno 0, hno 1⟩ X hR)).mono (fun e w' hw => (⟨hw.1, OutQ.from hB hw.2⟩ : e = .returned (.int .i64 (stepErr [nm] (askThere gs nm) hb rm)) ∧ OutQ T D M gs steps hb rm (stepErr [nm] (askThere gs nm) hb rm) (drp F.name (gs.map G.f) nm) w w')))
  clear hrd hX hB hB0 hB1 h hlt hno
  clear  sW y0 y1 s0 s1 x0_0 x0_1 x1_1
  subst hW
  subst hW1 ; subst hW0
  go_enter Try.func34, Try.ntmps34
  go_wp2_with fail
  refine Calls.mono HC.out ?_
  rintro e w' ⟨rfl, hQ⟩
  go_wp2_with fail
  go_ret
  exact ⟨rfl, hQ⟩

set_option maxRecDepth 100000 in
set_option maxHeartbeats 4000000 in
theorem sync_any (w : World) (h : DK T D M gs steps hb rm w) (nm : ByteArray) (hn : nm.size ≤ maxLen) (hst : steps ≤ 1000000) (hgl : gs.length ≤ 100000) :
    Calls Try.prog 32 #[.pointer (some ⟨D, 0, none⟩), .string nm] w fun e w' => e = .returned (.int .i64 (stepErr [nm] (askThere gs nm) hb rm)) ∧ OutQ T D M gs steps hb rm (stepErr [nm] (askThere gs nm) hb rm) (syncF (gs.map G.f) nm) w w' := by
  have hlt := h.lt
  obtain ⟨W0, hW0⟩ : ∃ W0, W0 = w.alloc (.cells #[(.pointer (some ⟨D, 0, none⟩))] 28) := ⟨_, rfl⟩
  have s0 : W0.heap.size = w.heap.size + 1 := by rw [hW0]; simp
  have x0_0 : Bx W0 w.heap.size (.pointer (some ⟨D, 0, none⟩)) := by rw [hW0]; exact Bx.new _ _
  obtain ⟨W1, hW1⟩ : ∃ W1, W1 = W0.alloc (.cells #[(.string nm)] 9) := ⟨_, rfl⟩
  have s1 : W1.heap.size = w.heap.size + 2 := by rw [hW1]; simp [s0]
  have x1_1 : Bx W1 (w.heap.size + 1) (.string nm) := by rw [hW1, ← s0]; exact Bx.new _ _
  have x0_1 : Bx W1 w.heap.size (.pointer (some ⟨D, 0, none⟩)) := by rw [hW1]; exact x0_0.alloc _
  obtain ⟨W, hW⟩ : ∃ W, W = W1.alloc (.cells #[.string nm] 9) := ⟨_, rfl⟩
  have sW : W.heap.size = w.heap.size + 3 := by rw [hW]; simp [s1]
  have y0 : Bx W w.heap.size (.pointer (some ⟨D, 0, none⟩)) := by rw [hW]; exact x0_1.alloc _
  have y1 : Bx W (w.heap.size + 1) (.string nm) := by rw [hW]; exact x1_1.alloc _
  have hB0 : Below w.heap.size w W0 := by rw [hW0]; exact (Below.refl _ _).alloc (Nat.le_refl _) _
  have hB1 : Below w.heap.size w W1 := by rw [hW1]; exact hB0.alloc (by rw [s0]; omega) _
  have hB : Below w.heap.size w W := by rw [hW]; exact hB1.alloc (by rw [s1]; omega) _
  have hX := h.below hB
  have hrd : RdV W (some ⟨w.heap.size + 2, 0, none⟩) (cellsS [nm]) := by rw [hW, ← s1]; exact rd_one _
  have hno : ∀ j, ¬ T (w.heap.size + j) := fun j hT => by have := hlt _ hT; omega
  have HC := Lib.hid ((done_any W hX (some ⟨w.heap.size + 2, 0, none⟩) 1 1 [nm] rfl hrd (by simp only [List.mem_cons, List.not_mem_nil, or_false, forall_eq_or_imp, forall_eq]; simp only [maxLen] at *; omega) (by omega) 46 48 #[.pointer (some ⟨w.heap.size, 0, none⟩), .pointer (some ⟨w.heap.size + 1, 0, none⟩)] #[.pointer (some ⟨w.heap.size, 0, none⟩), .pointer (some ⟨w.heap.size + 1, 0, none⟩)] (askThere gs nm) (ask_sync W hX (w.heap.size) (w.heap.size + 1) nm hn y0 y1) hst (syncF (gs.map G.f) nm) (enters_of Try.func48 (by kernel_rfl) rfl)
    (fun hall hr0 X hR => by
      obtain ⟨g, hq⟩ := there_yes hr0
      rw [syncF_some hq]
      exact do_sync W (w.heap.size) (w.heap.size + 1) nm hn y0 y1 ⟨hno 0, hno 1⟩ hq X hR)).mono (fun e w' hw => (⟨hw.1, OutQ.from hB hw.2⟩ : e = .returned (.int .i64 (stepErr [nm] (askThere gs nm) hb rm)) ∧ OutQ T D M gs steps hb rm (stepErr [nm] (askThere gs nm) hb rm) (syncF (gs.map G.f) nm) w w')))
  clear hrd hX hB hB0 hB1 h hlt hno
  clear  sW y0 y1 s0 s1 x0_0 x0_1 x1_1
  subst hW
  subst hW1 ; subst hW0
  go_enter Try.func32, Try.ntmps32
  go_wp2_with fail
  refine Calls.mono HC.out ?_
  rintro e w' ⟨rfl, hQ⟩
  go_wp2_with fail
  go_ret
  exact ⟨rfl, hQ⟩

set_option maxRecDepth 100000 in
set_option maxHeartbeats 4000000 in
theorem append_any (w : World) (h : DK T D M gs steps hb rm w) (nm : ByteArray) (hn : nm.size ≤ maxLen) (A : Option Addr) (n c : Nat) (l : List UInt8) (hl : l.length = n) (hA : A = none → c = 0) (hc : n ≤ c) (hr : Rd w A l) (hrt : 0 < l.length → ∀ ad, A = some ad → ¬ T ad.block) (hst : steps ≤ 1000000) (hgl : gs.length ≤ 100000) :
    Calls Try.prog 30 #[.pointer (some ⟨D, 0, none⟩), .string nm, .slice A n c] w fun e w' => e = .returned (.int .i64 (stepErr [nm] (askAppend gs nm n) hb rm)) ∧ OutQ T D M gs steps hb rm (stepErr [nm] (askAppend gs nm n) hb rm) (appendF (gs.map G.f) nm l) w w' := by
  have hlt := h.lt
  obtain ⟨W0, hW0⟩ : ∃ W0, W0 = w.alloc (.cells #[(.pointer (some ⟨D, 0, none⟩))] 28) := ⟨_, rfl⟩
  have s0 : W0.heap.size = w.heap.size + 1 := by rw [hW0]; simp
  have x0_0 : Bx W0 w.heap.size (.pointer (some ⟨D, 0, none⟩)) := by rw [hW0]; exact Bx.new _ _
  obtain ⟨W1, hW1⟩ : ∃ W1, W1 = W0.alloc (.cells #[(.string nm)] 9) := ⟨_, rfl⟩
  have s1 : W1.heap.size = w.heap.size + 2 := by rw [hW1]; simp [s0]
  have x1_1 : Bx W1 (w.heap.size + 1) (.string nm) := by rw [hW1, ← s0]; exact Bx.new _ _
  have x0_1 : Bx W1 w.heap.size (.pointer (some ⟨D, 0, none⟩)) := by rw [hW1]; exact x0_0.alloc _
  obtain ⟨W2, hW2⟩ : ∃ W2, W2 = W1.alloc (.cells #[(.slice A n c)] 35) := ⟨_, rfl⟩
  have s2 : W2.heap.size = w.heap.size + 3 := by rw [hW2]; simp [s1]
  have x2_2 : Bx W2 (w.heap.size + 2) (.slice A n c) := by rw [hW2, ← s1]; exact Bx.new _ _
  have x0_2 : Bx W2 w.heap.size (.pointer (some ⟨D, 0, none⟩)) := by rw [hW2]; exact x0_1.alloc _
  have x1_2 : Bx W2 (w.heap.size + 1) (.string nm) := by rw [hW2]; exact x1_1.alloc _
  obtain ⟨W, hW⟩ : ∃ W, W = W2.alloc (.cells #[.string nm] 9) := ⟨_, rfl⟩
  have sW : W.heap.size = w.heap.size + 4 := by rw [hW]; simp [s2]
  have y0 : Bx W w.heap.size (.pointer (some ⟨D, 0, none⟩)) := by rw [hW]; exact x0_2.alloc _
  have y1 : Bx W (w.heap.size + 1) (.string nm) := by rw [hW]; exact x1_2.alloc _
  have y2 : Bx W (w.heap.size + 2) (.slice A n c) := by rw [hW]; exact x2_2.alloc _
  have hB0 : Below w.heap.size w W0 := by rw [hW0]; exact (Below.refl _ _).alloc (Nat.le_refl _) _
  have hB1 : Below w.heap.size w W1 := by rw [hW1]; exact hB0.alloc (by rw [s0]; omega) _
  have hB2 : Below w.heap.size w W2 := by rw [hW2]; exact hB1.alloc (by rw [s1]; omega) _
  have hB : Below w.heap.size w W := by rw [hW]; exact hB2.alloc (by rw [s2]; omega) _
  have hX := h.below hB
  have hrd : RdV W (some ⟨w.heap.size + 3, 0, none⟩) (cellsS [nm]) := by rw [hW, ← s2]; exact rd_one _
  have hno : ∀ j, ¬ T (w.heap.size + j) := fun j hT => by have := hlt _ hT; omega
  have HC := Lib.hid ((done_any W hX (some ⟨w.heap.size + 3, 0, none⟩) 1 1 [nm] rfl hrd (by simp only [List.mem_cons, List.not_mem_nil, or_false, forall_eq_or_imp, forall_eq]; simp only [maxLen] at *; omega) (by omega) 42 43 #[.pointer (some ⟨w.heap.size, 0, none⟩), .pointer (some ⟨w.heap.size + 1, 0, none⟩), .pointer (some ⟨w.heap.size + 2, 0, none⟩)] #[.pointer (some ⟨w.heap.size, 0, none⟩), .pointer (some ⟨w.heap.size + 1, 0, none⟩), .pointer (some ⟨w.heap.size + 2, 0, none⟩)] (askAppend gs nm n) (ask_append W hX (w.heap.size) (w.heap.size + 1) (w.heap.size + 2) nm hn A n c y0 y1 y2) hst (appendF (gs.map G.f) nm l) (enters_of Try.func43 (by kernel_rfl) rfl)
    (fun hall hr0 X hR => do_append W (w.heap.size) (w.heap.size + 1) (w.heap.size + 2) nm hn (by simpa using hall) A n c l hl hA hc y0 y1 y2 ⟨hno 0, hno 1, hno 2⟩ (fun Y hY => (hr.below hB).keepT hY.keep hrt) hrt (by unfold askAppend at hr0; split at hr0 <;> omega) hgl X hR)).mono (fun e w' hw => (⟨hw.1, OutQ.from hB hw.2⟩ : e = .returned (.int .i64 (stepErr [nm] (askAppend gs nm n) hb rm)) ∧ OutQ T D M gs steps hb rm (stepErr [nm] (askAppend gs nm n) hb rm) (appendF (gs.map G.f) nm l) w w')))
  clear hrd hX hB hB0 hB1 hB2 h hlt hno
  clear  sW y0 y1 y2 s0 s1 s2 x0_0 x0_1 x1_1 x0_2 x1_2 x2_2
  subst hW
  subst hW2 ; subst hW1 ; subst hW0
  go_enter Try.func30, Try.ntmps30
  go_wp2_with fail
  refine Calls.mono HC.out ?_
  rintro e w' ⟨rfl, hQ⟩
  go_wp2_with fail
  go_ret
  exact ⟨rfl, hQ⟩

set_option maxRecDepth 100000 in
set_option maxHeartbeats 4000000 in
theorem cut_any (w : World) (h : DK T D M gs steps hb rm w) (nm : ByteArray) (hn : nm.size ≤ maxLen) (m : Int) (m0 : -9223372036854775808 ≤ m) (m1 : m ≤ 9223372036854775807) (hst : steps ≤ 1000000) (hgl : gs.length ≤ 100000) :
    Calls Try.prog 31 #[.pointer (some ⟨D, 0, none⟩), .string nm, .int .i64 m] w fun e w' => e = .returned (.int .i64 (stepErr [nm] (askCut gs nm m) hb rm)) ∧ OutQ T D M gs steps hb rm (stepErr [nm] (askCut gs nm m) hb rm) (cutS (gs.map G.f) nm m.toNat) w w' := by
  have hlt := h.lt
  obtain ⟨W0, hW0⟩ : ∃ W0, W0 = w.alloc (.cells #[(.pointer (some ⟨D, 0, none⟩))] 28) := ⟨_, rfl⟩
  have s0 : W0.heap.size = w.heap.size + 1 := by rw [hW0]; simp
  have x0_0 : Bx W0 w.heap.size (.pointer (some ⟨D, 0, none⟩)) := by rw [hW0]; exact Bx.new _ _
  obtain ⟨W1, hW1⟩ : ∃ W1, W1 = W0.alloc (.cells #[(.string nm)] 9) := ⟨_, rfl⟩
  have s1 : W1.heap.size = w.heap.size + 2 := by rw [hW1]; simp [s0]
  have x1_1 : Bx W1 (w.heap.size + 1) (.string nm) := by rw [hW1, ← s0]; exact Bx.new _ _
  have x0_1 : Bx W1 w.heap.size (.pointer (some ⟨D, 0, none⟩)) := by rw [hW1]; exact x0_0.alloc _
  obtain ⟨W2, hW2⟩ : ∃ W2, W2 = W1.alloc (.cells #[(.int .i64 m)] 3) := ⟨_, rfl⟩
  have s2 : W2.heap.size = w.heap.size + 3 := by rw [hW2]; simp [s1]
  have x2_2 : Bx W2 (w.heap.size + 2) (.int .i64 m) := by rw [hW2, ← s1]; exact Bx.new _ _
  have x0_2 : Bx W2 w.heap.size (.pointer (some ⟨D, 0, none⟩)) := by rw [hW2]; exact x0_1.alloc _
  have x1_2 : Bx W2 (w.heap.size + 1) (.string nm) := by rw [hW2]; exact x1_1.alloc _
  obtain ⟨W, hW⟩ : ∃ W, W = W2.alloc (.cells #[.string nm] 9) := ⟨_, rfl⟩
  have sW : W.heap.size = w.heap.size + 4 := by rw [hW]; simp [s2]
  have y0 : Bx W w.heap.size (.pointer (some ⟨D, 0, none⟩)) := by rw [hW]; exact x0_2.alloc _
  have y1 : Bx W (w.heap.size + 1) (.string nm) := by rw [hW]; exact x1_2.alloc _
  have y2 : Bx W (w.heap.size + 2) (.int .i64 m) := by rw [hW]; exact x2_2.alloc _
  have hB0 : Below w.heap.size w W0 := by rw [hW0]; exact (Below.refl _ _).alloc (Nat.le_refl _) _
  have hB1 : Below w.heap.size w W1 := by rw [hW1]; exact hB0.alloc (by rw [s0]; omega) _
  have hB2 : Below w.heap.size w W2 := by rw [hW2]; exact hB1.alloc (by rw [s1]; omega) _
  have hB : Below w.heap.size w W := by rw [hW]; exact hB2.alloc (by rw [s2]; omega) _
  have hX := h.below hB
  have hrd : RdV W (some ⟨w.heap.size + 3, 0, none⟩) (cellsS [nm]) := by rw [hW, ← s2]; exact rd_one _
  have hno : ∀ j, ¬ T (w.heap.size + j) := fun j hT => by have := hlt _ hT; omega
  have HC := Lib.hid ((done_any W hX (some ⟨w.heap.size + 3, 0, none⟩) 1 1 [nm] rfl hrd (by simp only [List.mem_cons, List.not_mem_nil, or_false, forall_eq_or_imp, forall_eq]; simp only [maxLen] at *; omega) (by omega) 44 45 #[.pointer (some ⟨w.heap.size, 0, none⟩), .pointer (some ⟨w.heap.size + 1, 0, none⟩), .pointer (some ⟨w.heap.size + 2, 0, none⟩)] #[.pointer (some ⟨w.heap.size, 0, none⟩), .pointer (some ⟨w.heap.size + 1, 0, none⟩), .pointer (some ⟨w.heap.size + 2, 0, none⟩)] (askCut gs nm m) (ask_cut W hX (w.heap.size) (w.heap.size + 1) (w.heap.size + 2) nm hn m m0 m1 y0 y1 y2) hst (cutS (gs.map G.f) nm m.toNat) (enters_of Try.func45 (by kernel_rfl) rfl)
    (fun hall hr0 X hR => by
      obtain ⟨g, hq, h0, h1⟩ := cut_yes hr0
      rw [cutS_some hq]
      have y2' : Bx W (w.heap.size + 2) (.int .i64 (m.toNat : Int)) := by rw [Int.toNat_of_nonneg h0]; exact y2
      exact do_cut W (w.heap.size) (w.heap.size + 1) (w.heap.size + 2) nm hn m.toNat y0 y1 y2' ⟨hno 0, hno 1, hno 2⟩ hq (by omega) X hR)).mono (fun e w' hw => (⟨hw.1, OutQ.from hB hw.2⟩ : e = .returned (.int .i64 (stepErr [nm] (askCut gs nm m) hb rm)) ∧ OutQ T D M gs steps hb rm (stepErr [nm] (askCut gs nm m) hb rm) (cutS (gs.map G.f) nm m.toNat) w w')))
  clear hrd hX hB hB0 hB1 hB2 h hlt hno
  clear  sW y0 y1 y2 s0 s1 s2 x0_0 x0_1 x1_1 x0_2 x1_2 x2_2
  subst hW
  subst hW2 ; subst hW1 ; subst hW0
  go_enter Try.func31, Try.ntmps31
  go_wp2_with fail
  refine Calls.mono HC.out ?_
  rintro e w' ⟨rfl, hQ⟩
  go_wp2_with fail
  go_ret
  exact ⟨rfl, hQ⟩

set_option maxRecDepth 100000 in
set_option maxHeartbeats 4000000 in
theorem rename_any (w : World) (h : DK T D M gs steps hb rm w) (nm nm2 : ByteArray) (hn : nm.size ≤ maxLen) (hn2 : nm2.size ≤ maxLen) (hst : steps ≤ 1000000) (hgl : gs.length ≤ 100000) :
    Calls Try.prog 33 #[.pointer (some ⟨D, 0, none⟩), .string nm, .string nm2] w fun e w' => e = .returned (.int .i64 (stepErr [nm, nm2] (askThere gs nm) hb rm)) ∧ OutQ T D M gs steps hb rm (stepErr [nm, nm2] (askThere gs nm) hb rm) (renameF (gs.map G.f) nm nm2) w w' := by
  have hlt := h.lt
  obtain ⟨W0, hW0⟩ : ∃ W0, W0 = w.alloc (.cells #[(.pointer (some ⟨D, 0, none⟩))] 28) := ⟨_, rfl⟩
  have s0 : W0.heap.size = w.heap.size + 1 := by rw [hW0]; simp
  have x0_0 : Bx W0 w.heap.size (.pointer (some ⟨D, 0, none⟩)) := by rw [hW0]; exact Bx.new _ _
  obtain ⟨W1, hW1⟩ : ∃ W1, W1 = W0.alloc (.cells #[(.string nm)] 9) := ⟨_, rfl⟩
  have s1 : W1.heap.size = w.heap.size + 2 := by rw [hW1]; simp [s0]
  have x1_1 : Bx W1 (w.heap.size + 1) (.string nm) := by rw [hW1, ← s0]; exact Bx.new _ _
  have x0_1 : Bx W1 w.heap.size (.pointer (some ⟨D, 0, none⟩)) := by rw [hW1]; exact x0_0.alloc _
  obtain ⟨W2, hW2⟩ : ∃ W2, W2 = W1.alloc (.cells #[(.string nm2)] 9) := ⟨_, rfl⟩
  have s2 : W2.heap.size = w.heap.size + 3 := by rw [hW2]; simp [s1]
  have x2_2 : Bx W2 (w.heap.size + 2) (.string nm2) := by rw [hW2, ← s1]; exact Bx.new _ _
  have x0_2 : Bx W2 w.heap.size (.pointer (some ⟨D, 0, none⟩)) := by rw [hW2]; exact x0_1.alloc _
  have x1_2 : Bx W2 (w.heap.size + 1) (.string nm) := by rw [hW2]; exact x1_1.alloc _
  obtain ⟨W, hW⟩ : ∃ W, W = W2.alloc (.cells #[.string nm, .string nm2] 9) := ⟨_, rfl⟩
  have sW : W.heap.size = w.heap.size + 4 := by rw [hW]; simp [s2]
  have y0 : Bx W w.heap.size (.pointer (some ⟨D, 0, none⟩)) := by rw [hW]; exact x0_2.alloc _
  have y1 : Bx W (w.heap.size + 1) (.string nm) := by rw [hW]; exact x1_2.alloc _
  have y2 : Bx W (w.heap.size + 2) (.string nm2) := by rw [hW]; exact x2_2.alloc _
  have hB0 : Below w.heap.size w W0 := by rw [hW0]; exact (Below.refl _ _).alloc (Nat.le_refl _) _
  have hB1 : Below w.heap.size w W1 := by rw [hW1]; exact hB0.alloc (by rw [s0]; omega) _
  have hB2 : Below w.heap.size w W2 := by rw [hW2]; exact hB1.alloc (by rw [s1]; omega) _
  have hB : Below w.heap.size w W := by rw [hW]; exact hB2.alloc (by rw [s2]; omega) _
  have hX := h.below hB
  have hrd : RdV W (some ⟨w.heap.size + 3, 0, none⟩) (cellsS [nm, nm2]) := by rw [hW, ← s2]; exact rd_two _ _
  have hno : ∀ j, ¬ T (w.heap.size + j) := fun j hT => by have := hlt _ hT; omega
  have HC := Lib.hid ((done_any W hX (some ⟨w.heap.size + 3, 0, none⟩) 2 2 [nm, nm2] rfl hrd (by simp only [List.mem_cons, List.not_mem_nil, or_false, forall_eq_or_imp, forall_eq]; simp only [maxLen] at *; omega) (by omega) 49 50 #[.pointer (some ⟨w.heap.size, 0, none⟩), .pointer (some ⟨w.heap.size + 1, 0, none⟩)] #[.pointer (some ⟨w.heap.size, 0, none⟩), .pointer (some ⟨w.heap.size + 1, 0, none⟩), .pointer (some ⟨w.heap.size + 2, 0, none⟩)] (askThere gs nm) (ask_rename W hX (w.heap.size) (w.heap.size + 1) nm hn y0 y1) hst (renameF (gs.map G.f) nm nm2) (enters_of Try.func50 (by kernel_rfl) rfl)
    (fun hall hr0 X hR => by
      obtain ⟨g, hq⟩ := there_yes hr0
      rw [renameF_some hq]
      exact do_rename W (w.heap.size) (w.heap.size + 1) (w.heap.size + 2) nm nm2 hn hn2 (by simp at hall; exact hall.2) y0 y1 y2 ⟨hno 0, hno 1, hno 2⟩ hq hgl X hR)).mono (fun e w' hw => (⟨hw.1, OutQ.from hB hw.2⟩ : e = .returned (.int .i64 (stepErr [nm, nm2] (askThere gs nm) hb rm)) ∧ OutQ T D M gs steps hb rm (stepErr [nm, nm2] (askThere gs nm) hb rm) (renameF (gs.map G.f) nm nm2) w w')))
  clear hrd hX hB hB0 hB1 hB2 h hlt hno
  clear  sW y0 y1 y2 s0 s1 s2 x0_0 x0_1 x1_1 x0_2 x1_2 x2_2
  subst hW
  subst hW2 ; subst hW1 ; subst hW0
  go_enter Try.func33, Try.ntmps33
  go_wp2_with fail
  refine Calls.mono HC.out ?_
  rintro e w' ⟨rfl, hQ⟩
  go_wp2_with fail
  go_ret
  exact ⟨rfl, hQ⟩
end
end Go.Proofs.Ytcfglgejjmapdaa
