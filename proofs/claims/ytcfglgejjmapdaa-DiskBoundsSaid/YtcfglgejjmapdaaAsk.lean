/- What a step asks ahead of it. -/
import Derived.Test.YtcfglgejjmapdaaDone
namespace Go.Proofs.Ytcfglgejjmapdaa
open Go Go.RowKit Go.Shelf
/-- A captured variable. -/
def Bx (w : World) (b : Nat) (v : Value) : Prop := w.cell? ⟨b, 0, none⟩ = some v
theorem Bx.below {w X : World} {b : Nat} {v : Value} (h : Bx w b v) (hb : Below w.heap.size w X) : Bx X b v := (hb.cell (p := ⟨b, 0, none⟩) (World.block_lt_of_cell? w _ h)).trans h
theorem drew_two (w : World) (a b : Nat) : (w.drewN a).drewN b = w.drewN (a + b) := by simp [World.drewN, Nat.add_assoc]
def hadOf (gs : List G) (nm : ByteArray) : Nat := match fnd gn gs nm with
  | some g => g.f.bytes.size
  | none => 0
def askAppend (gs : List G) (nm : ByteArray) (n : Nat) : Int := if (1048576 : Int) - hadOf gs nm < n then 3 else 0
def askCut (gs : List G) (nm : ByteArray) (m : Int) : Int := match fnd gn gs nm with
  | some g => if m < 0 ∨ (g.f.bytes.size : Int) < m then 4 else 0
  | none => 5
def askThere (gs : List G) (nm : ByteArray) : Int := match fnd gn gs nm with
  | some _ => 0
  | none => 5
section
variable {T : Nat → Prop} {D M steps : Nat} {gs : List G} {hb : Bool} {rm : Int}
theorem look_none (X : World) (h : DK T D M gs steps hb rm X) (nm : ByteArray) (hn : nm.size ≤ maxLen) (hq : fnd gn gs nm = none) : ∀ q, (Instr.lookup 68 (.map (some M)) (.string nm) false).run Try.prog (X.drewN q) = .ok (.pointer none) (X.drewN q) := fun q => by
  have := (h.below (below_any q (Below.refl _ _))).look nm hn
  rw [hq] at this
  exact this
theorem look_some (X : World) (h : DK T D M gs steps hb rm X) (nm : ByteArray) (hn : nm.size ≤ maxLen) {g : G} (hq : fnd gn gs nm = some g) : ∀ q, (Instr.lookup 68 (.map (some M)) (.string nm) false).run Try.prog (X.drewN q) = .ok (.pointer (some ⟨g.k, 0, none⟩)) (X.drewN q) := fun q => by
  have := (h.below (below_any q (Below.refl _ _))).look nm hn
  rw [hq] at this
  exact this

theorem there_any (X : World) (h : DK T D M gs steps hb rm X) (nm : ByteArray) (hn : nm.size ≤ maxLen) : Calls Try.prog 47 #[.pointer (some ⟨D, 0, none⟩), .string nm] X fun e w' => e = .returned (.int .i64 (askThere gs nm)) ∧ X = w' := by
  have c0 := h.cellsD.1
  unfold askThere
  cases hq : fnd gn gs nm with
  | none =>
    have hl := look_none X h nm hn hq 0
    rw [show X.drewN 0 = X from rfl] at hl
    clear h hq
    go_enter Try.func47, Try.ntmps47
    go_wp2_with fail
    go_ret
    exact ⟨rfl, rfl⟩
  | some g =>
    have hl := look_some X h nm hn hq 0
    rw [show X.drewN 0 = X from rfl] at hl
    clear h hq
    go_enter Try.func47, Try.ntmps47
    go_wp2_with fail
    go_ret
    exact ⟨rfl, rfl⟩

theorem ask_sync (w : World) (h : DK T D M gs steps hb rm w) (b0 b1 : Nat) (nm : ByteArray) (hn : nm.size ≤ maxLen) (q0 : Bx w b0 (.pointer (some ⟨D, 0, none⟩))) (q1 : Bx w b1 (.string nm)) : Asks w 46 #[.pointer (some ⟨b0, 0, none⟩), .pointer (some ⟨b1, 0, none⟩)] (askThere gs nm) := by
  refine ⟨enters_of Try.func46 (by kernel_rfl) rfl, fun X hbl => ?_⟩
  have HT := Lib.hid (there_any X (h.below hbl) nm hn)
  have c0 := q0.below hbl
  have c1 := q1.below hbl
  unfold Bx at c0 c1
  clear h q0 q1 hbl
  go_enter Try.func46, Try.ntmps46
  go_wp2_with fail
  refine HT.out.mono ?_
  rintro e w2 ⟨rfl, rfl⟩
  go_wp2_with fail
  go_ret
  exact ⟨rfl, 0, rfl⟩

theorem ask_rename (w : World) (h : DK T D M gs steps hb rm w) (b0 b1 : Nat) (nm : ByteArray) (hn : nm.size ≤ maxLen) (q0 : Bx w b0 (.pointer (some ⟨D, 0, none⟩))) (q1 : Bx w b1 (.string nm)) : Asks w 49 #[.pointer (some ⟨b0, 0, none⟩), .pointer (some ⟨b1, 0, none⟩)] (askThere gs nm) := by
  refine ⟨enters_of Try.func49 (by kernel_rfl) rfl, fun X hbl => ?_⟩
  have HT := Lib.hid (there_any X (h.below hbl) nm hn)
  have c0 := q0.below hbl
  have c1 := q1.below hbl
  unfold Bx at c0 c1
  clear h q0 q1 hbl
  go_enter Try.func49, Try.ntmps49
  go_wp2_with fail
  refine HT.out.mono ?_
  rintro e w2 ⟨rfl, rfl⟩
  go_wp2_with fail
  go_ret
  exact ⟨rfl, 0, rfl⟩

theorem ask_remove (w : World) (h : DK T D M gs steps hb rm w) (b0 b1 : Nat) (nm : ByteArray) (hn : nm.size ≤ maxLen) (q0 : Bx w b0 (.pointer (some ⟨D, 0, none⟩))) (q1 : Bx w b1 (.string nm)) : Asks w 51 #[.pointer (some ⟨b0, 0, none⟩), .pointer (some ⟨b1, 0, none⟩)] (askThere gs nm) := by
  refine ⟨enters_of Try.func51 (by kernel_rfl) rfl, fun X hbl => ?_⟩
  have HT := Lib.hid (there_any X (h.below hbl) nm hn)
  have c0 := q0.below hbl
  have c1 := q1.below hbl
  unfold Bx at c0 c1
  clear h q0 q1 hbl
  go_enter Try.func51, Try.ntmps51
  go_wp2_with fail
  refine HT.out.mono ?_
  rintro e w2 ⟨rfl, rfl⟩
  go_wp2_with fail
  go_ret
  exact ⟨rfl, 0, rfl⟩

theorem ask_append (w : World) (h : DK T D M gs steps hb rm w) (b0 b1 b2 : Nat) (nm : ByteArray) (hn : nm.size ≤ maxLen) (A : Option Addr) (n c : Nat) (q0 : Bx w b0 (.pointer (some ⟨D, 0, none⟩))) (q1 : Bx w b1 (.string nm)) (q2 : Bx w b2 (.slice A n c)) : Asks w 42 #[.pointer (some ⟨b0, 0, none⟩), .pointer (some ⟨b1, 0, none⟩), .pointer (some ⟨b2, 0, none⟩)] (askAppend gs nm n) := by
  refine ⟨enters_of Try.func42 (by kernel_rfl) rfl, fun X hbl => ?_⟩
  have hX := h.below hbl
  have cd := hX.cellsD.1
  have c0 := q0.below hbl
  have c1 := q1.below hbl
  have c2 := q2.below hbl
  unfold Bx at c0 c1 c2
  unfold askAppend hadOf
  cases hq : fnd gn gs nm with
  | none =>
    have hl := look_none X hX nm hn hq
    clear h q0 q1 q2 hbl hX hq
    dsimp only
    by_cases hc : (1048576 : Int) < n
    · rw [if_pos (by omega)]
      go_enter Try.func42, Try.ntmps42
      go_wp2_with fail
      go_quiet (fail)
      go_wp2_with fail
      go_ret
      exact ⟨rfl, _, rfl⟩
    · rw [if_neg (by omega)]
      go_enter Try.func42, Try.ntmps42
      go_wp2_with fail
      go_quiet (fail)
      go_wp2_with fail
      go_ret
      exact ⟨rfl, _, rfl⟩
  | some g =>
    have hl := look_some X hX nm hn hq
    have hf := hX.files g (fnd_mem hq).1
    have hmx := hf.mx
    obtain ⟨f0, f1⟩ := hf.cellsF
    obtain ⟨Af, cf, hv, -⟩ := hf.own.rdV
    rw [hv] at f0
    have hsz : g.f.bytes.size ≤ 1048576 := hmx
    dsimp only
    clear h q0 q1 q2 hbl hX hq hf hv f1 hmx
    by_cases hc : (1048576 : Int) - g.f.bytes.size < n
    · rw [if_pos hc]
      generalize g.f.bytes.size = z at *
      generalize g.k = k at *
      go_enter Try.func42, Try.ntmps42
      go_wp2_with fail
      go_quiet (fail)
      go_wp2_with fail
      go_ret
      exact ⟨rfl, _, rfl⟩
    · rw [if_neg hc]
      generalize g.f.bytes.size = z at *
      generalize g.k = k at *
      go_enter Try.func42, Try.ntmps42
      go_wp2_with fail
      go_quiet (fail)
      go_wp2_with fail
      go_ret
      exact ⟨rfl, _, rfl⟩

theorem ask_cut (w : World) (h : DK T D M gs steps hb rm w) (b0 b1 b2 : Nat) (nm : ByteArray) (hn : nm.size ≤ maxLen) (m : Int) (m0 : -9223372036854775808 ≤ m) (m1 : m ≤ 9223372036854775807) (q0 : Bx w b0 (.pointer (some ⟨D, 0, none⟩))) (q1 : Bx w b1 (.string nm)) (q2 : Bx w b2 (.int .i64 m)) : Asks w 44 #[.pointer (some ⟨b0, 0, none⟩), .pointer (some ⟨b1, 0, none⟩), .pointer (some ⟨b2, 0, none⟩)] (askCut gs nm m) := by
  refine ⟨enters_of Try.func44 (by kernel_rfl) rfl, fun X hbl => ?_⟩
  have hX := h.below hbl
  have cd := hX.cellsD.1
  have c0 := q0.below hbl
  have c1 := q1.below hbl
  have c2 := q2.below hbl
  unfold Bx at c0 c1 c2
  unfold askCut
  cases hq : fnd gn gs nm with
  | none =>
    have hl := look_none X hX nm hn hq
    clear h q0 q1 q2 hbl hX hq
    go_enter Try.func44, Try.ntmps44
    go_wp2_with fail
    go_quiet (fail)
    go_wp2_with fail
    go_ret
    exact ⟨rfl, _, rfl⟩
  | some g =>
    have hl := look_some X hX nm hn hq
    have hf := hX.files g (fnd_mem hq).1
    have hmx := hf.mx
    obtain ⟨f0, f1⟩ := hf.cellsF
    obtain ⟨Af, cf, hv, -⟩ := hf.own.rdV
    rw [hv] at f0
    have hsz : g.f.bytes.size ≤ 1048576 := hmx
    dsimp only
    clear h q0 q1 q2 hbl hX hq hf hv f1
    generalize g.f.bytes.size = z at *
    generalize g.k = k at *
    by_cases hc : m < 0
    · rw [if_pos (.inl hc)]
      have d1 : decide (m < 0) = true := by simp [hc]
      go_enter Try.func44, Try.ntmps44
      go_wp2_with fail
      go_quiet (fail)
      go_wp2_with fail
      go_quiet (fail)
      go_wp2_with fail
      go_ret
      exact ⟨rfl, _, drew_two _ _ _⟩
    · by_cases hc2 : (z : Int) < m
      · rw [if_pos (.inr hc2)]
        have d1 : decide (m < 0) = false := by simp; omega
        have d2 : decide ((z : Int) < m) = true := by simp; omega
        go_enter Try.func44, Try.ntmps44
        go_wp2_with fail
        go_quiet (fail)
        go_wp2_with fail
        go_quiet (fail)
        go_wp2_with fail
        go_ret
        exact ⟨rfl, _, drew_two _ _ _⟩
      · rw [if_neg (by omega)]
        have d1 : decide (m < 0) = false := by simp; omega
        have d2 : decide ((z : Int) < m) = false := by simp; omega
        go_enter Try.func44, Try.ntmps44
        go_wp2_with fail
        go_quiet (fail)
        go_wp2_with fail
        go_quiet (fail)
        go_wp2_with fail
        go_ret
        exact ⟨rfl, _, drew_two _ _ _⟩
end
end Go.Proofs.Ytcfglgejjmapdaa
