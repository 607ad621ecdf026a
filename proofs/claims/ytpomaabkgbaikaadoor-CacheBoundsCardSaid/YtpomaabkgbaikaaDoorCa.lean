/- A cache as it lies in memory. -/
import Derived.Test.YtpomaabkgbaikaaDoorMath
import Derived.Maps.OwnSet
import Derived.StringKeys
import Derived.Laws.EntriesVeiled
namespace Go.Proofs.YtpomaabkgbaikaaDoor
open Go Go.RowKit Go.WideMaps
/-- A script under a key. -/
structure En where
  key : ByteArray
  script : ByteArray
def kL : List Value → Option (DataW Unit × List MemPlace)
  | [.string s] => some (.lit (.string (bl s)), [])
  | _ => none
def kR : Value → Option (DataW Unit × List MemPlace)
  | .agg c => kL c.toList
  | _ => none
theorem kR_inv {v : Value} {l : List UInt8} {ps : List MemPlace} (h : kR v = some (.lit (.string l), ps)) : ∃ s, v = .agg #[.string s] ∧ bl s = l := by
  cases v with
  | agg c =>
    have h1 : kL c.toList = some (.lit (.string l), ps) := h
    unfold kL at h1
    split at h1
    · rename_i s hc
      simp only [Option.some.injEq, Prod.mk.injEq, DataW.lit.injEq, Lit.string.injEq] at h1
      refine ⟨s, ?_, h1.1⟩
      have : c = #[.string s] := by rw [← Array.toList_inj, hc]
      rw [this]
    · cases h1
  | _ => cases h
/-- What is changed but for new blocks. -/
structure KeepT (T : Nat → Prop) (W W' : World) : Prop where
  os : W'.os = W.os
  tape : W'.tape = W.tape
  output : W'.output = W.output
  size : W.heap.size ≤ W'.heap.size
  block : ∀ b, b < W.heap.size → ¬ T b → W'.heap[b]? = W.heap[b]?
theorem KeepT.of_below {T : Nat → Prop} {W W' : World} (h : Below W.heap.size W W') : KeepT T W W' := ⟨h.os, h.tape, h.output, h.size, fun b hb _ => h.block b hb⟩
theorem KeepT.refl (T : Nat → Prop) (W : World) : KeepT T W W := .of_below (Below.refl _ _)
theorem KeepT.trans {T T' : Nat → Prop} {A B C : World} (h : KeepT T A B) (k : KeepT T' B C) (ht : ∀ b, T' b → T b ∨ A.heap.size ≤ b) : KeepT T A C :=
  ⟨k.os.trans h.os, k.tape.trans h.tape, k.output.trans h.output, Nat.le_trans h.size k.size, fun b hb hn => (k.block b (Nat.lt_of_lt_of_le hb h.size) (fun h2 => by rcases ht b h2 with h3 | h3; exact hn h3; omega)).trans (h.block b hb hn)⟩
theorem KeepT.below {T : Nat → Prop} {B : Nat} {W W' : World} (h : KeepT T W W') (ht : ∀ b, T b → B ≤ b) (hb : B ≤ W.heap.size) : Below B W W' :=
  ⟨h.os, h.tape, h.output, h.size, fun b hlt => h.block b (by omega) (fun h2 => by have := ht b h2; omega)⟩
theorem KeepT.drew {T : Nat → Prop} {W W' : World} (h : KeepT T W W') (m : Nat) : KeepT T W (W'.drewN m) := ⟨h.os, h.tape, h.output, h.size, h.block⟩
theorem KeepT.mono {T T' : Nat → Prop} {W W' : World} (h : KeepT T W W') (ht : ∀ b, T b → T' b) : KeepT T' W W' := ⟨h.os, h.tape, h.output, h.size, fun b hb hn => h.block b hb (fun h2 => hn (ht b h2))⟩
theorem KeepT.setCell {T : Nat → Prop} {W W' : World} (h : KeepT T W W') (a : Addr) (v : Value) (ha : T a.block) : KeepT T W (W'.setCell a v) :=
  ⟨h.os, h.tape, h.output, by show _ ≤ (W'.heap.modify _ _).size; rw [Array.size_modify]; exact h.size, fun b hb hn => (RowKit.Below.heap_setCell _ _ _ _ (fun e => hn (by rw [e]; exact ha))).trans (h.block b hb hn)⟩
theorem KeepT.grown {T : Nat → Prop} {W W' W2 : World} {row : Option Nat} (h : KeepT T W W') (hg : W'.grownBy W2 row) (hr : ∀ r, row = some r → T r ∨ W.heap.size ≤ r) : KeepT T W W2 :=
  ⟨hg.os.trans h.os, hg.tape.trans h.tape, hg.output.trans h.output, Nat.le_trans h.size hg.size, fun b hb hn => (hg.block b (Nat.lt_of_lt_of_le hb h.size) (fun e => by rcases hr b e.symm with h2 | h2; exact hn h2; omega)).trans (h.block b hb hn)⟩
/-- What is under a key. -/
def scr (l : List En) (n : ByteArray) : ByteArray := match fnd En.key l n with | some e => e.script | none => ⟨#[]⟩
def hasK (l : List En) (n : ByteArray) : Bool := (fnd En.key l n).isSome
/-- A map of scripts. -/
def MP (D : Nat) (l : List En) (W : World) : Prop := W.ownsMap Tryd.prog 9 kR D l.length (dMap En.key En.script l) ∧ Rising En.key l
theorem map_keep {w w' : World} {k : TypeId} {R : Value → Option (DataW Unit × List MemPlace)} {b n : Nat} {D : DataW Unit} (h : w.ownsMap Tryd.prog k R b n D) (hk : w'.heap[b]? = w.heap[b]?) : w'.ownsMap Tryd.prog k R b n D := by
  obtain ⟨es, clock, h1, h2⟩ := h
  exact ⟨es, clock, hk.trans h1, h2⟩
theorem map_tight {w : World} {k : TypeId} {R : Value → Option (DataW Unit × List MemPlace)} {b n : Nat} {D : DataW Unit} (h : w.ownsMap Tryd.prog k R b n D) : w.ownsMap Tryd.prog k R b (Maps.size D) D := by
  obtain ⟨es, clock, h1, h2, h3, rfl⟩ := h
  exact ⟨es, clock, h1, h2, by simp [Maps.size, length_sorted], rfl⟩
section
variable {D : Nat} {l : List En} {W W' : World}
theorem MP.keep (h : MP D l W) (hk : W'.heap[D]? = W.heap[D]?) : MP D l W' := ⟨map_keep h.1 hk, h.2⟩
theorem MP.lt (h : MP D l W) : D < W.heap.size := h.1.lt
theorem MP.isMap (h : MP D l W) : ∃ es clock, W.heap[D]? = some (.map es clock) := by
  obtain ⟨es, clock, h1, _⟩ := h.1
  exact ⟨es, clock, h1⟩
theorem key_of {n : ByteArray} (hn : n.size ≤ maxLen) : keyOf Tryd.prog 9 (.string n) = some (.string (bl n)) := keyOf_string_mk Tryd.underlying9 hn
theorem zero72 (W : World) : (zeroValue 72).run Tryd.prog W = .ok (.agg #[.string ⟨#[]⟩]) W := by kernel_rfl
theorem has_ent (l : List En) (n : ByteArray) : Maps.has (dMap En.key En.script l) (.string (bl n)) = hasK l n := by
  cases hq : fnd En.key l n with
  | none =>
    have h1 : ∀ z, (dMap En.key En.script l).atKey (.string (bl n)) z = z := fun z => by rw [at_ent, hq]
    rw [Maps.has_false_of_atKey h1]
    simp [hasK, hq]
  | some e =>
    have h1 : ∀ z, (dMap En.key En.script l).atKey (.string (bl n)) z = .lit (.string (bl e.script)) := fun z => by rw [at_ent, hq]
    rw [Maps.has_true_of_atKey h1]
    simp [hasK, hq]
/-- What a key finds. -/
theorem MP.look (h : MP D l W) (n : ByteArray) (hn : n.size ≤ maxLen) : (Instr.lookup 63 (.map (some D)) (.string n) true).run Tryd.prog W = .ok (.tuple #[.agg #[.string (scr l n)], .bool (hasK l n)]) W := by
  obtain ⟨v, ps, hrun, hv⟩ := h.1.look_ok (Maps.string_keyed Tryd.underlying9) Tryd.underlying63 (zero72 W) (zd := .lit (.string [])) (zp := []) rfl (key_of hn)
  rw [hrun, has_ent]
  have e : scr l n = scr l n := rfl
  unfold scr at e ⊢
  rw [at_ent] at hv
  cases hq : fnd En.key l n with
  | none =>
    rw [hq] at hv
    obtain ⟨s, rfl, hs⟩ := kR_inv hv
    have : s = ⟨#[]⟩ := bl_inj hs
    rw [this]
  | some x =>
    rw [hq] at hv
    obtain ⟨s, rfl, hs⟩ := kR_inv hv
    rw [bl_inj hs]
/-- The same without a word whether it is there. -/
theorem MP.look1 (h : MP D l W) (n : ByteArray) (hn : n.size ≤ maxLen) : (Instr.lookup 63 (.map (some D)) (.string n) false).run Tryd.prog W = .ok (.agg #[.string (scr l n)]) W := by
  obtain ⟨v, ps, hrun, hv⟩ := h.1.lookup (Maps.string_keyed Tryd.underlying9) Tryd.underlying63 (zero72 W) (zd := .lit (.string [])) (zp := []) rfl (key_of hn)
  rw [hrun]
  unfold scr
  rw [at_ent] at hv
  cases hq : fnd En.key l n with
  | none =>
    rw [hq] at hv
    obtain ⟨s, rfl, hs⟩ := kR_inv hv
    have : s = ⟨#[]⟩ := bl_inj hs
    rw [this]
  | some x =>
    rw [hq] at hv
    obtain ⟨s, rfl, hs⟩ := kR_inv hv
    rw [bl_inj hs]
theorem MP.len (h : MP D l W) (ty : TypeId) : (Builtin.len_ #[63] ty #[.map (some D)]).run Tryd.prog W = .ok (.int .i64 (l.length : Nat)) W := by
  have := h.1.len (t := 63) Tryd.underlying63 ty
  rwa [size_ent] at this
end
/-- A cache: its cells, its two maps. -/
structure CA (C D M : Nat) (ds ns : List En) (W : World) : Prop where
  box : W.heap[C]? = some (.cells #[.map (some D), .map (some M)] 68 (0, 0))
  dig : MP D ds W
  nam : MP M ns W
  ne : D ≠ M
/-- Its blocks. -/
def TC (C D M : Nat) (b : Nat) : Prop := b = C ∨ b = D ∨ b = M
section
variable {C D M : Nat} {ds ns : List En} {W W' : World}
theorem CA.keep (h : CA C D M ds ns W) (hk : ∀ b, TC C D M b → W'.heap[b]? = W.heap[b]?) : CA C D M ds ns W' :=
  ⟨(hk C (.inl rfl)).trans h.box, h.dig.keep (hk D (.inr (.inl rfl))), h.nam.keep (hk M (.inr (.inr rfl))), h.ne⟩
theorem CA.lt (h : CA C D M ds ns W) : ∀ b, TC C D M b → b < W.heap.size := by
  rintro b (rfl | rfl | rfl)
  · exact (Array.getElem?_eq_some_iff.1 h.box).1
  · exact h.dig.lt
  · exact h.nam.lt
theorem CA.below (h : CA C D M ds ns W) (hb : Below W.heap.size W W') : CA C D M ds ns W' := h.keep (fun b t => hb.block b (h.lt b t))
theorem CA.other {T : Nat → Prop} (h : CA C D M ds ns W) (hk : KeepT T W W') (hd : ∀ b, TC C D M b → ¬ T b) : CA C D M ds ns W' := h.keep (fun b t => hk.block b (h.lt b t) (hd b t))
theorem CA.apart (h : CA C D M ds ns W) : C ≠ D ∧ C ≠ M := by
  obtain ⟨es, clock, h1⟩ := h.dig.isMap
  obtain ⟨es2, clock2, h2⟩ := h.nam.isMap
  exact ⟨fun e => (by have := h.box; rw [e, h1] at this; cases this), fun e => (by have := h.box; rw [e, h2] at this; cases this)⟩
theorem CA.cells (h : CA C D M ds ns W) : W.cell? ⟨C, 0, none⟩ = some (.map (some D)) ∧ W.cell? ⟨C, 1, none⟩ = some (.map (some M)) := by
  refine ⟨?_, ?_⟩ <;> (simp only [World.cell?, h.box]; rfl)
end
end Go.Proofs.YtpomaabkgbaikaaDoor
