/- A step, whichever. -/
import Derived.Test.YtcfglgejjmapdaaSmall
namespace Go.Proofs.Ytcfglgejjmapdaa
open Go Go.RowKit Go.Shelf
/-- What a step answers. -/
def errS (fs : List F) (wh : Int) (nm to_ : ByteArray) (l : List UInt8) (N : Int) (hb : Bool) (rm : Int) : Int :=
  if wh = 0 then stepErr [nm] (longF fs nm l.length) hb rm else if wh = 1 then stepErr [nm] (rangeF fs nm N) hb rm else if wh = 2 then stepErr [nm] (thereF fs nm) hb rm else if wh = 3 then stepErr [nm, to_] (thereF fs nm) hb rm else stepErr [nm] (thereF fs nm) hb rm
/-- The files behind it. -/
def nextS (fs : List F) (wh : Int) (nm to_ : ByteArray) (l : List UInt8) (N : Int) : List F :=
  if wh = 0 then appendF fs nm l else if wh = 1 then cutS fs nm N.toNat else if wh = 2 then syncF fs nm else if wh = 3 then renameF fs nm to_ else drp F.name fs nm
section
variable {T : Nat → Prop} {B D M steps : Nat} {fs : List F} {hb : Bool} {rm : Int}
theorem Went.from {fs' : List F} {r : Int} {w W w' : World} (hbl : Below w.heap.size w W) (h : Went B T D M fs fs' steps hb rm r W w') : Went B T D M fs fs' steps hb rm r w w' := by
  obtain ⟨T', h1, h2, h3⟩ := h
  have := hbl.size
  exact ⟨T', h1, (KeepT.of_below (T := T) hbl).trans h2 (fun b hb => .inl hb), fun b hb => by rcases h3 b hb with h5 | h5; exact .inl h5; exact .inr (by omega)⟩
set_option maxRecDepth 100000 in
set_option maxHeartbeats 8000000 in
theorem do_any (w : World) (h : On B T D M fs steps hb rm w) (hB : B ≤ w.heap.size) (wh N : Int) (nm to_ : ByteArray) (hn : nm.size ≤ maxLen) (hn2 : to_.size ≤ maxLen) (A : Option Addr) (n c : Nat) (l : List UInt8) (hl : l.length = n) (hA : A = none → c = 0) (hc : n ≤ c) (hr : Rd w A l) (hrt : 0 < l.length → ∀ ad, A = some ad → ¬ T ad.block)
    (m0 : -9223372036854775808 ≤ N) (m1 : N ≤ 9223372036854775807) (hst : steps ≤ 1000000) (hgl : fs.length ≤ 100000) :
    Calls Try.prog 25 #[.pointer (some ⟨D, 0, none⟩), .agg #[.int .i64 wh, .string nm, .string to_, .slice A n c, .int .i64 N]] w fun e w' => e = .returned (.int .i64 (errS fs wh nm to_ l N hb rm)) ∧ Went B T D M fs (nextS fs wh nm to_ l N) steps hb rm (errS fs wh nm to_ l N hb rm) w w' := by
  have hb0 := below_new w (.cells #[.int .i64 wh, .string nm, .string to_, .slice A n c, .int .i64 N] 43)
  have HB := Lib.hid hb0
  by_cases h0 : wh = 0
  · rw [show errS fs wh nm to_ l N hb rm = stepErr [nm] (longF fs nm n) hb rm by unfold errS; rw [if_pos h0, hl], show nextS fs wh nm to_ l N = appendF fs nm l by unfold nextS; rw [if_pos h0]]
    subst h0
    have hc9 := append_on _ (h.below hb0) (by have := hb0.size; omega) nm hn A n c l hl hA hc (hr.below hb0) hrt hst hgl
    have HC := Lib.hid hc9
    clear hc9 h hr hrt hb0
    go_enter Try.func25, Try.ntmps25
    go_wp2_with fail
    refine Calls.mono HC.out ?_
    rintro e w' ⟨rfl, hq⟩
    have HQ := Lib.hid (Went.from HB.out hq)
    clear hq
    go_wp2_with fail
    refine Calls.mono (num_any _ _) ?_
    rintro e w2 ⟨rfl, rfl⟩
    go_wp2_with fail
    go_ret
    exact ⟨rfl, HQ.out⟩
  by_cases h1 : wh = 1
  · rw [show errS fs wh nm to_ l N hb rm = stepErr [nm] (rangeF fs nm N) hb rm by unfold errS; rw [if_neg h0, if_pos h1], show nextS fs wh nm to_ l N = cutS fs nm N.toNat by unfold nextS; rw [if_neg h0, if_pos h1]]
    subst h1
    have hc9 := cut_on _ (h.below hb0) (by have := hb0.size; omega) nm hn N m0 m1 hst hgl
    have HC := Lib.hid hc9
    clear hc9 h hr hrt hb0
    go_enter Try.func25, Try.ntmps25
    go_wp2_with fail
    refine Calls.mono HC.out ?_
    rintro e w' ⟨rfl, hq⟩
    have HQ := Lib.hid (Went.from HB.out hq)
    clear hq
    go_wp2_with fail
    refine Calls.mono (num_any _ _) ?_
    rintro e w2 ⟨rfl, rfl⟩
    go_wp2_with fail
    go_ret
    exact ⟨rfl, HQ.out⟩
  by_cases h2 : wh = 2
  · rw [show errS fs wh nm to_ l N hb rm = stepErr [nm] (thereF fs nm) hb rm by unfold errS; rw [if_neg h0, if_neg h1, if_pos h2], show nextS fs wh nm to_ l N = syncF fs nm by unfold nextS; rw [if_neg h0, if_neg h1, if_pos h2]]
    subst h2
    have hc9 := sync_on _ (h.below hb0) (by have := hb0.size; omega) nm hn hst hgl
    have HC := Lib.hid hc9
    clear hc9 h hr hrt hb0
    go_enter Try.func25, Try.ntmps25
    go_wp2_with fail
    refine Calls.mono HC.out ?_
    rintro e w' ⟨rfl, hq⟩
    have HQ := Lib.hid (Went.from HB.out hq)
    clear hq
    go_wp2_with fail
    refine Calls.mono (num_any _ _) ?_
    rintro e w2 ⟨rfl, rfl⟩
    go_wp2_with fail
    go_ret
    exact ⟨rfl, HQ.out⟩
  by_cases h3 : wh = 3
  · rw [show errS fs wh nm to_ l N hb rm = stepErr [nm, to_] (thereF fs nm) hb rm by unfold errS; rw [if_neg h0, if_neg h1, if_neg h2, if_pos h3], show nextS fs wh nm to_ l N = renameF fs nm to_ by unfold nextS; rw [if_neg h0, if_neg h1, if_neg h2, if_pos h3]]
    subst h3
    have hc9 := rename_on _ (h.below hb0) (by have := hb0.size; omega) nm to_ hn hn2 hst hgl
    have HC := Lib.hid hc9
    clear hc9 h hr hrt hb0
    go_enter Try.func25, Try.ntmps25
    go_wp2_with fail
    refine Calls.mono HC.out ?_
    rintro e w' ⟨rfl, hq⟩
    have HQ := Lib.hid (Went.from HB.out hq)
    clear hq
    go_wp2_with fail
    refine Calls.mono (num_any _ _) ?_
    rintro e w2 ⟨rfl, rfl⟩
    go_wp2_with fail
    go_ret
    exact ⟨rfl, HQ.out⟩
  · rw [show errS fs wh nm to_ l N hb rm = stepErr [nm] (thereF fs nm) hb rm by unfold errS; rw [if_neg h0, if_neg h1, if_neg h2, if_neg h3], show nextS fs wh nm to_ l N = drp F.name fs nm by unfold nextS; rw [if_neg h0, if_neg h1, if_neg h2, if_neg h3]]
    have q0 : decide (wh = 0) = false := decide_eq_false h0
    have q1 : decide (wh = 1) = false := decide_eq_false h1
    have q2 : decide (wh = 2) = false := decide_eq_false h2
    have q3 : decide (wh = 3) = false := decide_eq_false h3
    have hc9 := remove_on _ (h.below hb0) (by have := hb0.size; omega) nm hn hst hgl
    have HC := Lib.hid hc9
    clear hc9 h hr hrt hb0
    go_enter Try.func25, Try.ntmps25
    go_wp2_with fail
    refine Calls.mono HC.out ?_
    rintro e w' ⟨rfl, hq⟩
    have HQ := Lib.hid (Went.from HB.out hq)
    clear hq
    go_wp2_with fail
    refine Calls.mono (num_any _ _) ?_
    rintro e w2 ⟨rfl, rfl⟩
    go_wp2_with fail
    go_ret
    exact ⟨rfl, HQ.out⟩
end
end Go.Proofs.Ytcfglgejjmapdaa
