/- What a disk tells: a file's bytes; a bound of steps. -/
import Derived.Test.YtcfglgejjmapdaaFrom
namespace Go.Proofs.Ytcfglgejjmapdaa
open Go Go.RowKit Go.Shelf
def bytesN (fs : List F) (nm : ByteArray) : List UInt8 := if nameB nm = false then [] else match fnd F.name fs nm with
  | some f => bl f.bytes
  | none => []
def readE (fs : List F) (nm : ByteArray) : Int := if nameB nm = false then 2 else thereF fs nm
def ReadQ (fs : List F) (nm : ByteArray) (w : World) (e : Ending) (w' : World) : Prop := ∃ v, e = .returned (.tuple #[v, .int .i64 (readE fs nm)]) ∧ w'.ownsRow w.heap.size 5 1 v (bytesN fs nm).length (cellsB (bytesN fs nm)) ∧ Below w.heap.size w w'
section
variable {T : Nat → Prop} {B D M steps : Nat} {fs : List F} {hb : Bool} {rm : Int}
theorem ReadQ.no {nm : ByteArray} {w : World} {r : Int} (h1 : bytesN fs nm = []) (h2 : readE fs nm = r) : ReadQ fs nm w (.returned (.tuple #[.slice none 0 0, .int .i64 r])) w := by
  refine ⟨.slice none 0 0, by rw [h2], by rw [h1]; exact World.ownsRow_nil _ _ _ _, Below.refl _ _⟩
set_option maxRecDepth 100000 in
set_option maxHeartbeats 4000000 in
theorem read_on (w : World) (h : On B T D M fs steps hb rm w) (nm : ByteArray) (hn : nm.size ≤ 140737488351232) : Calls Try.prog 18 #[.pointer (some ⟨D, 0, none⟩), .string nm] w (ReadQ fs nm w) := by
  obtain ⟨gs, h1, rfl, h3⟩ := h
  have cd := h1.cellsD.1
  have HN := Lib.hid (none_any w h1)
  have HM := Lib.hid (name_any nm w (by omega))
  cases hg : nameB nm with
  | false =>
    rw [hg] at HM
    have HR := Lib.hid (ReadQ.no (fs := gs.map G.f) (nm := nm) (w := w) (r := 2) (by unfold bytesN; rw [if_pos hg]) (by unfold readE; rw [if_pos hg]))
    clear h1 h3 hg
    go_enter Try.func18, Try.ntmps18
    go_wp2_with fail
    refine Calls.mono HN.out ?_
    rintro e w' ⟨rfl, rfl⟩
    go_wp2_with fail
    refine Calls.mono HM.out ?_
    rintro e w' ⟨rfl, rfl⟩
    go_wp2_with fail
    go_ret2
    exact HR.out
  | true =>
    rw [hg] at HM
    have hgn : ¬ nameB nm = false := by rw [hg]; decide
    cases hq : fnd gn gs nm with
    | none =>
      have hl := look_none w h1 nm (by simp only [maxLen]; omega) hq 0
      rw [show w.drewN 0 = w from rfl] at hl
      have HR := Lib.hid (ReadQ.no (fs := gs.map G.f) (nm := nm) (w := w) (r := 5) (by unfold bytesN; rw [if_neg hgn, fnd_f, hq]; rfl) (by unfold readE thereF; rw [if_neg hgn, fnd_f, hq]; rfl))
      clear h1 h3 hg hgn hq
      go_enter Try.func18, Try.ntmps18
      go_wp2_with fail
      refine Calls.mono HN.out ?_
      rintro e w' ⟨rfl, rfl⟩
      go_wp2_with fail
      refine Calls.mono HM.out ?_
      rintro e w' ⟨rfl, rfl⟩
      go_wp2_with fail
      go_ret2
      exact HR.out
    | some g =>
      have hl := look_some w h1 nm (by simp only [maxLen]; omega) hq 0
      rw [show w.drewN 0 = w from rfl] at hl
      have hf := h1.files g (fnd_mem hq).1
      have f0 := hf.cellsF.1
      obtain ⟨A, c, hv, hnc, hA, hcm, hr⟩ := hf.own.rdV
      have hsp := hf.own.spot hv
      have hmx := hf.mx
      have hlen : (bl g.f.bytes).length = g.f.bytes.size := by rw [Array.length_toList]; rfl
      rw [hv] at f0
      have HB : Hid (bytesN (gs.map G.f) nm = bl g.f.bytes) := Lib.hid (by unfold bytesN; rw [if_neg hgn, fnd_f, hq]; rfl)
      have HE : Hid (readE (gs.map G.f) nm = 0) := Lib.hid (by unfold readE thereF; rw [if_neg hgn, fnd_f, hq]; rfl)
      have HC := Lib.hid (clone_any A g.f.bytes.size c (bl g.f.bytes) w hlen hA hnc hr.rd (by omega) hsp)
      have HL := Lib.hid hlen
      clear h1 h3 hg hgn hq hf hv hnc hA hcm hr hsp hlen
      go_enter Try.func18, Try.ntmps18
      go_wp2_with fail
      refine Calls.mono HN.out ?_
      rintro e w' ⟨rfl, rfl⟩
      go_wp2_with fail
      refine Calls.mono HM.out ?_
      rintro e w' ⟨rfl, rfl⟩
      go_wp2_with fail
      refine Calls.mono HC.out ?_
      rintro e w2 ⟨v, rfl, ho, hb2⟩
      have HO := Lib.hid ho
      have HB2 := Lib.hid hb2
      clear ho hb2
      go_wp2_with fail
      go_ret2
      exact ⟨v, by rw [HE.out]; rfl, by rw [HB.out, HL.out]; exact HO.out, HB2.out⟩
set_option maxRecDepth 100000 in
set_option maxHeartbeats 4000000 in
theorem halt_on (w : World) (h : On B T D M fs steps hb rm w) (hB : B ≤ w.heap.size) (n : Int) (m0 : -9223372036854775808 ≤ n) (m1 : n ≤ 9223372036854775807) : Calls Try.prog 26 #[.pointer (some ⟨D, 0, none⟩), .int .i64 n] w fun e w' => e = .returned (.tuple #[]) ∧ On B T D M fs steps true (max n 0) w' ∧ KeepT T w w' := by
  obtain ⟨gs, h1, rfl, h3⟩ := h
  have hcell := h1.disk
  have HQ : Hid (∀ W : World, W.heap[D]? = some (.cells #[.map (some M), .int .i64 steps, .bool true, .int .i64 (max n 0)] 70 (0, 0)) → (∀ b, b ≠ D → W.heap[b]? = w.heap[b]?) → W.heap.size = w.heap.size → W.os = w.os → W.tape = w.tape → W.output = w.output → On B T D M (gs.map G.f) steps true (max n 0) W ∧ KeepT T w W) := Lib.hid (fun W e1 e2 e3 e4 e5 e6 =>
    ⟨⟨gs, h1.count e1 (fun b _ hne => e2 b hne) (by omega) (by omega) (by omega), rfl, h3⟩, ⟨e4, e5, e6, by omega, fun b _ hn => e2 b (fun e => hn (by rw [e]; exact h1.tD))⟩⟩)
  have HN := Lib.hid (none_any w h1)
  have d2 := h1.cellsD.2.2.1
  have d3 := h1.cellsD.2.2.2
  have f2 := h1.freeD 2
  have f3 := h1.freeD 3
  have HE : Hid (On B T D M (gs.map G.f) steps true (max n 0) ((w.setCell ⟨D, 2, none⟩ (.bool true)).setCell ⟨D, 3, none⟩ (.int .i64 (max n 0))) ∧ KeepT T w ((w.setCell ⟨D, 2, none⟩ (.bool true)).setCell ⟨D, 3, none⟩ (.int .i64 (max n 0)))) := Lib.hid (by
    have e1 := heap_setCell_same w D 2 _ 70 (.bool true) hcell
    have e2 := heap_setCell_same (w.setCell ⟨D, 2, none⟩ (.bool true)) D 3 _ 70 (.int .i64 (max n 0)) e1
    have z1 : ((w.setCell ⟨D, 2, none⟩ (.bool true)).setCell ⟨D, 3, none⟩ (.int .i64 (max n 0))).heap.size = w.heap.size := by simp [World.setCell]
    exact HQ.out _ (by simpa using e2) (fun b hb => (Below.heap_setCell _ ⟨D, 3, none⟩ _ b hb).trans (Below.heap_setCell _ ⟨D, 2, none⟩ _ b hb)) z1 rfl rfl rfl)
  clear h1 h3 hcell HQ
  go_enter Try.func26, Try.ntmps26
  go_wp2_with fail
  refine Calls.mono HN.out ?_
  rintro e w' ⟨rfl, rfl⟩
  go_wp2_with fail
  go_end0
  exact ⟨rfl, HE.out⟩
end
end Go.Proofs.Ytcfglgejjmapdaa
