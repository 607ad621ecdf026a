/- A disk by its files. -/
import Derived.Test.YtcfglgejjmapdaaOps
import Derived.Test.YtcfglgejjmapdaaCrs
namespace Go.Proofs.Ytcfglgejjmapdaa
open Go Go.RowKit Go.Shelf
def hadF (fs : List F) (nm : ByteArray) : Nat := match fnd F.name fs nm with
  | some f => f.bytes.size
  | none => 0
def thereF (fs : List F) (nm : ByteArray) : Int := match fnd F.name fs nm with
  | some _ => 0
  | none => 5
def longF (fs : List F) (nm : ByteArray) (n : Nat) : Int := if (1048576 : Int) - hadF fs nm < n then 3 else 0
def rangeF (fs : List F) (nm : ByteArray) (m : Int) : Int := match fnd F.name fs nm with
  | some f => if m < 0 ∨ (f.bytes.size : Int) < m then 4 else 0
  | none => 5
theorem askThere_f (gs : List G) (nm : ByteArray) : askThere gs nm = thereF (gs.map G.f) nm := by
  unfold askThere thereF
  rw [fnd_f]
  cases fnd gn gs nm <;> rfl
theorem hadOf_f (gs : List G) (nm : ByteArray) : hadOf gs nm = hadF (gs.map G.f) nm := by
  unfold hadOf hadF
  rw [fnd_f]
  cases fnd gn gs nm <;> rfl
theorem askAppend_f (gs : List G) (nm : ByteArray) (n : Nat) : askAppend gs nm n = longF (gs.map G.f) nm n := by
  unfold askAppend longF
  rw [hadOf_f]
theorem askCut_f (gs : List G) (nm : ByteArray) (m : Int) : askCut gs nm m = rangeF (gs.map G.f) nm m := by
  unfold askCut rangeF
  rw [fnd_f]
  cases fnd gn gs nm <;> rfl
/-- A disk of these files. -/
def On (B : Nat) (T : Nat → Prop) (D M : Nat) (fs : List F) (steps : Nat) (hb : Bool) (rm : Int) (W : World) : Prop := ∃ gs, DK T D M gs steps hb rm W ∧ gs.map G.f = fs ∧ ∀ b, T b → B ≤ b
/-- What a step leaves of it. -/
def Went (B : Nat) (T : Nat → Prop) (D M : Nat) (fs fs' : List F) (steps : Nat) (hb : Bool) (rm : Int) (r : Int) (w w' : World) : Prop :=
  ∃ T', On B T' D M (if r = 0 then fs' else fs) (if r = 0 then steps + 1 else steps) hb (if r = 0 then (if hb then rm - 1 else rm) else rm) w' ∧ KeepT T w w' ∧ ∀ b, T' b → T b ∨ w.heap.size ≤ b
section
variable {T : Nat → Prop} {B D M steps : Nat} {fs : List F} {hb : Bool} {rm : Int}
theorem Went.of {gs : List G} {fs' : List F} {r : Int} {w w' : World} (hT : ∀ b, T b → B ≤ b) (hB : B ≤ w.heap.size) (h : OutQ T D M gs steps hb rm r fs' w w') : Went B T D M (gs.map G.f) fs' steps hb rm r w w' := by
  obtain ⟨T', gs', h1, h2, h3, h4⟩ := h
  exact ⟨T', ⟨gs', h1, h2, fun b hb => by rcases h3 b hb with h5 | h5; exact hT b h5; omega⟩, h4, h3⟩
theorem On.below {w w' : World} (h : On B T D M fs steps hb rm w) (hb2 : Below w.heap.size w w') : On B T D M fs steps hb rm w' := by
  obtain ⟨gs, h1, h2, h3⟩ := h
  exact ⟨gs, h1.below hb2, h2, h3⟩
theorem On.other {T2 : Nat → Prop} {w w' : World} (h : On B T D M fs steps hb rm w) (hk : KeepT T2 w w') (hd : ∀ b, T b → ¬ T2 b) : On B T D M fs steps hb rm w' := by
  obtain ⟨gs, h1, h2, h3⟩ := h
  exact ⟨gs, h1.other hk hd, h2, h3⟩
theorem On.lt {w : World} (h : On B T D M fs steps hb rm w) : ∀ b, T b → b < w.heap.size := by
  obtain ⟨gs, h1, _, _⟩ := h
  exact h1.lt
theorem remove_on (w : World) (h : On B T D M fs steps hb rm w) (hB : B ≤ w.heap.size) (nm : ByteArray) (hn : nm.size ≤ maxLen) (hst : steps ≤ 1000000) (hgl : fs.length ≤ 100000) :
    Calls Try.prog 34 #[.pointer (some ⟨D, 0, none⟩), .string nm] w fun e w' => e = .returned (.int .i64 (stepErr [nm] (thereF fs nm) hb rm)) ∧ Went B T D M fs (drp F.name fs nm) steps hb rm (stepErr [nm] (thereF fs nm) hb rm) w w' := by
  obtain ⟨gs, h1, rfl, h3⟩ := h
  refine (remove_any w h1 nm hn hst (by simpa using hgl)).mono fun e w' hw => ?_
  rw [askThere_f] at hw
  exact ⟨hw.1, Went.of h3 hB hw.2⟩
theorem sync_on (w : World) (h : On B T D M fs steps hb rm w) (hB : B ≤ w.heap.size) (nm : ByteArray) (hn : nm.size ≤ maxLen) (hst : steps ≤ 1000000) (hgl : fs.length ≤ 100000) :
    Calls Try.prog 32 #[.pointer (some ⟨D, 0, none⟩), .string nm] w fun e w' => e = .returned (.int .i64 (stepErr [nm] (thereF fs nm) hb rm)) ∧ Went B T D M fs (syncF fs nm) steps hb rm (stepErr [nm] (thereF fs nm) hb rm) w w' := by
  obtain ⟨gs, h1, rfl, h3⟩ := h
  refine (sync_any w h1 nm hn hst (by simpa using hgl)).mono fun e w' hw => ?_
  rw [askThere_f] at hw
  exact ⟨hw.1, Went.of h3 hB hw.2⟩
theorem rename_on (w : World) (h : On B T D M fs steps hb rm w) (hB : B ≤ w.heap.size) (nm nm2 : ByteArray) (hn : nm.size ≤ maxLen) (hn2 : nm2.size ≤ maxLen) (hst : steps ≤ 1000000) (hgl : fs.length ≤ 100000) :
    Calls Try.prog 33 #[.pointer (some ⟨D, 0, none⟩), .string nm, .string nm2] w fun e w' => e = .returned (.int .i64 (stepErr [nm, nm2] (thereF fs nm) hb rm)) ∧ Went B T D M fs (renameF fs nm nm2) steps hb rm (stepErr [nm, nm2] (thereF fs nm) hb rm) w w' := by
  obtain ⟨gs, h1, rfl, h3⟩ := h
  refine (rename_any w h1 nm nm2 hn hn2 hst (by simpa using hgl)).mono fun e w' hw => ?_
  rw [askThere_f] at hw
  exact ⟨hw.1, Went.of h3 hB hw.2⟩
theorem cut_on (w : World) (h : On B T D M fs steps hb rm w) (hB : B ≤ w.heap.size) (nm : ByteArray) (hn : nm.size ≤ maxLen) (m : Int) (m0 : -9223372036854775808 ≤ m) (m1 : m ≤ 9223372036854775807) (hst : steps ≤ 1000000) (hgl : fs.length ≤ 100000) :
    Calls Try.prog 31 #[.pointer (some ⟨D, 0, none⟩), .string nm, .int .i64 m] w fun e w' => e = .returned (.int .i64 (stepErr [nm] (rangeF fs nm m) hb rm)) ∧ Went B T D M fs (cutS fs nm m.toNat) steps hb rm (stepErr [nm] (rangeF fs nm m) hb rm) w w' := by
  obtain ⟨gs, h1, rfl, h3⟩ := h
  refine (cut_any w h1 nm hn m m0 m1 hst (by simpa using hgl)).mono fun e w' hw => ?_
  rw [askCut_f] at hw
  exact ⟨hw.1, Went.of h3 hB hw.2⟩
theorem append_on (w : World) (h : On B T D M fs steps hb rm w) (hB : B ≤ w.heap.size) (nm : ByteArray) (hn : nm.size ≤ maxLen) (A : Option Addr) (n c : Nat) (l : List UInt8) (hl : l.length = n) (hA : A = none → c = 0) (hc : n ≤ c) (hr : Rd w A l) (hrt : 0 < l.length → ∀ ad, A = some ad → ¬ T ad.block) (hst : steps ≤ 1000000) (hgl : fs.length ≤ 100000) :
    Calls Try.prog 30 #[.pointer (some ⟨D, 0, none⟩), .string nm, .slice A n c] w fun e w' => e = .returned (.int .i64 (stepErr [nm] (longF fs nm n) hb rm)) ∧ Went B T D M fs (appendF fs nm l) steps hb rm (stepErr [nm] (longF fs nm n) hb rm) w w' := by
  obtain ⟨gs, h1, rfl, h3⟩ := h
  refine (append_any w h1 nm hn A n c l hl hA hc hr hrt hst (by simpa using hgl)).mono fun e w' hw => ?_
  rw [askAppend_f] at hw
  exact ⟨hw.1, Went.of h3 hB hw.2⟩
theorem files_on (w : World) (h : On B T D M fs steps hb rm w) (hgl : fs.length ≤ 100000) : Calls Try.prog 20 #[.pointer (some ⟨D, 0, none⟩)] w (TellQ w fs) := by
  obtain ⟨gs, h1, rfl, h3⟩ := h
  exact files_any w h1 (by simpa using hgl)
def MadeF (w : World) (fs : List F) (e : Ending) (w' : World) : Prop := ∃ T D M, e = .returned (.pointer (some ⟨D, 0, none⟩)) ∧ On w.heap.size T D M fs 0 false 0 w' ∧ Below w.heap.size w w'
theorem new_on (w : World) : Calls Try.prog 29 #[] w (MadeF w []) := (new_any w).mono fun e w' ⟨T, D, M, h1, h2, h3, h4⟩ => ⟨T, D, M, h1, ⟨[], h2, rfl, h4⟩, h3⟩
theorem crash_on (w : World) (A : Option Addr) (n c : Nat) (keep : List Int) (h : On B T D M fs steps hb rm w) (hmax : fs.length ≤ 100000) (hk : keep.length = n) (hr : RdV w A (intsV keep)) (hn : n ≤ 9223372036854775807) :
    Calls Try.prog 27 #[.pointer (some ⟨D, 0, none⟩), .slice A n c] w (MadeF w (crashL keep fs)) := by
  obtain ⟨gs, h1, rfl, h3⟩ := h
  refine (crash_any w A n c keep h1 (by simpa using hmax) hk hr hn).mono ?_
  rintro e w' ⟨gs2, ⟨T2, D2, M2, k1, k2, k3, k4⟩, k5⟩
  exact ⟨T2, D2, M2, k1, ⟨gs2, k2, k5, k4⟩, k3⟩
theorem steps_on (w : World) (h : On B T D M fs steps hb rm w) : Calls Try.prog 21 #[.pointer (some ⟨D, 0, none⟩)] w fun e w' => e = .returned (.int .i64 steps) ∧ w = w' := by
  obtain ⟨gs, h1, rfl, h3⟩ := h
  have c1 := h1.cellsD.2.1
  have HN := Lib.hid (none_any w h1)
  clear h1 h3
  go_enter Try.func21, Try.ntmps21
  go_wp2_with fail
  refine Calls.mono HN.out ?_
  rintro e w' ⟨rfl, rfl⟩
  go_wp2_with fail
  go_ret
  exact ⟨rfl, rfl⟩
end
end Go.Proofs.Ytcfglgejjmapdaa
