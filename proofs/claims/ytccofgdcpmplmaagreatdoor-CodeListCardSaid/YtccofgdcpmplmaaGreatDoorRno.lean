/- Whether a program may be, by definition. -/
import Derived.Test.YtccofgdcpmplmaaGreatDoorIna
import Derived.Test.YtccofgdcpmplmaaGreatDoorChk
import Derived.IntWalk
namespace Go.Proofs.YtccofgdcpmplmaaGreatDoor
open Go Go.RowKit Go.Shelf
theorem head0 {g : Pg} {z : Int} (h : 0 < g.ps.length) (hz : g.ps[0].params = z) : (g.ps.head?.any fun p => decide (p.params = 0)) = decide (z = 0) := by
  rw [List.head?_eq_getElem?, List.getElem?_eq_getElem h, ← hz]
  rfl
set_option maxRecDepth 100000 in
set_option maxHeartbeats 16000000 in
/-- The ways that end ahead of the loops. -/
theorem rcheck_no (g : Pg) (w : World) (hg : g.at w) (hf : g.fit) (hno : countedB g = false ∨ (g.ps.head?.any fun p => decide (p.params = 0)) = false) :
    Calls Tryz.prog 8 #[.agg g.vals] w fun e w' => e = .returned (.bool false) ∧ Below w.heap.size w w' := by
  have HB := Lib.hid (below_new w (.cells g.vals 26))
  have HX := Lib.hid (BXG.new hg)
  have HF := Lib.hid hf
  obtain ⟨n1, hn1⟩ : ∃ n, g.ps.length = n := ⟨_, rfl⟩
  obtain ⟨n2, hn2⟩ : ∃ n, g.is.length = n := ⟨_, rfl⟩
  obtain ⟨n3, hn3⟩ : ∃ n, g.ts.length = n := ⟨_, rfl⟩
  have l1 := hf.p
  have l2 := hf.i
  have l3 := hf.t
  rw [hn1] at l1
  rw [hn2] at l2
  rw [hn3] at l3
  have HN := Lib.hid (And.intro hn1 (And.intro hn2 hn3))
  by_cases h1 : n1 < 1
  · have d1 : decide ((n1 : Int) < 1) = true := decide_eq_true (by omega)
    have e0 : n1 = 0 := by omega
    clear hno hg hf
    go_enter Tryz.func8, Tryz.ntmps8
    go_upto_region 1 with (fail)
    generalize w.alloc (.cells g.vals 26) = w1 at *
    obtain ⟨x0, x1, x2⟩ := HX.out.cells
    rw [hn1] at x0
    rw [hn2] at x1
    rw [hn3] at x2
    clear hn1 hn2 hn3
    go_quiet (fail)
    go_wp2_with fail
    go_ret
    exact ⟨rfl, below_any _ HB.out⟩
  have d1 : decide ((n1 : Int) < 1) = false := decide_eq_false (by omega)
  by_cases h2 : 1000 < n1
  · have d2 : decide ((1000 : Int) < n1) = true := decide_eq_true (by omega)
    clear hno hg hf
    go_enter Tryz.func8, Tryz.ntmps8
    go_upto_region 1 with (fail)
    generalize w.alloc (.cells g.vals 26) = w1 at *
    obtain ⟨x0, x1, x2⟩ := HX.out.cells
    rw [hn1] at x0
    rw [hn2] at x1
    rw [hn3] at x2
    clear hn1 hn2 hn3
    go_quiet (fail)
    go_wp2_with fail
    go_ret
    exact ⟨rfl, below_any _ HB.out⟩
  have d2 : decide ((1000 : Int) < n1) = false := decide_eq_false (by omega)
  have hka : 0 < g.ps.length := by omega
  obtain ⟨b3, o3, hA, hb3, u0, -, -⟩ := HX.out.g.ps.at hka
  obtain ⟨z, hz⟩ : ∃ z, g.ps[0].params = z := ⟨_, rfl⟩
  have hh := head0 hka hz
  rw [hz] at u0
  rw [hh] at hno
  simp only [Nat.zero_mul, Nat.add_zero] at u0
  by_cases h3 : z = 0
  rotate_left
  · have d3 : (z == 0) = false := by simp [h3]
    have d4 : (z != 0) = true := by simp [h3]
    clear hno hg hf hh hz
    go_enter Tryz.func8, Tryz.ntmps8
    go_upto_region 1 with (fail)
    generalize w.alloc (.cells g.vals 26) = w1 at *
    obtain ⟨x0, x1, x2⟩ := HX.out.cells
    rw [hn1, hA] at x0
    rw [hn2] at x1
    rw [hn3] at x2
    clear hn1 hn2 hn3 hA
    go_quiet (fail)
    go_wp2_with fail
    go_ret
    exact ⟨rfl, below_any _ HB.out⟩
  obtain ⟨c, hc⟩ : ∃ c, cnt g.ps = c := ⟨_, rfl⟩
  have h4 : 65536 < c + n2 + n3 := by
    have hcb : countedB g = false := by
      rcases hno with h | h
      · exact h
      · simp [h3] at h
    unfold countedB at hcb
    rw [hn1, hn2, hn3, hc] at hcb
    simp only [Bool.and_eq_false_iff, decide_eq_false_iff_not] at hcb
    omega
  have hcl : c ≤ 1000000000000 := by
    have := cnt_le hf.c
    rw [hc, hn1] at this
    omega
  have hcw1 : IntKind.i64.wrap ((c : Int) + (n2 : Int)) = (c : Int) + (n2 : Int) := IntWalk.i64_in _ (by omega)
  have hcw2 : IntKind.i64.wrap ((c : Int) + (n2 : Int) + (n3 : Int)) = (c : Int) + (n2 : Int) + (n3 : Int) := IntWalk.i64_in _ (by omega)
  have d5 : decide ((65536 : Int) < (c : Int) + (n2 : Int) + (n3 : Int)) = true := decide_eq_true (by omega)
  have d3 : (z == 0) = true := by simp [h3]
  have hi0 : (0 : Int) < (n1 : Int) := by omega
  have hi1 : 0 < n1 := by omega
  have hi2 : n1 ≠ 0 := by omega
  have hi3 : (0 : Int) ≤ 0 := by omega
  have hi4 : decide ((0 : Int) < (n1 : Int)) = true := decide_eq_true hi0
  have d4 : (z != 0) = false := by simp [h3]
  have HCNT : Hid (∀ W, Below (w.alloc (.cells g.vals 26)).heap.size (w.alloc (.cells g.vals 26)) W → Calls Tryz.prog 19 #[.agg #[.slice (some ⟨b3, o3, none⟩) n1 g.Pc, .slice g.IA n2 g.Ic, .slice g.TA n3 g.Tc]] W fun e w' => e = .returned (.int .i64 (c : Nat)) ∧ Below W.heap.size W w') := Lib.hid (fun W hb => by
    have h := rcount_any g W (HX.out.g.below hb) HF.out
    rw [hc] at h
    rw [← hn1, ← hn2, ← hn3]
    have hA' : g.PA = some ⟨b3, o3, none⟩ := by simpa using hA
    rw [← hA']
    exact h)
  have HCX : Hid (∀ W, Below (w.alloc (.cells g.vals 26)).heap.size (w.alloc (.cells g.vals 26)) W → W.cell? ⟨w.heap.size, 0, none⟩ = some (.slice (some ⟨b3, o3, none⟩) n1 g.Pc) ∧ W.cell? ⟨w.heap.size, 1, none⟩ = some (.slice g.IA n2 g.Ic) ∧ W.cell? ⟨w.heap.size, 2, none⟩ = some (.slice g.TA n3 g.Tc) ∧ W.cell? ⟨b3, o3, none⟩ = some (.int .i64 z)) := Lib.hid (fun W hb => by
    obtain ⟨x0, x1, x2⟩ := (HX.out.below hb).cells
    rw [hn1] at x0
    rw [hn2] at x1
    rw [hn3] at x2
    have hA' : g.PA = some ⟨b3, o3, none⟩ := by simpa using hA
    rw [hA'] at x0
    exact ⟨x0, x1, x2, (hb.cell (p := ⟨b3, o3, none⟩) hb3).trans u0⟩)
  clear hno hg hf hh hz hn1 hn2 hn3 hc h4 hA u0
  go_enter Tryz.func8, Tryz.ntmps8
  go_upto_region 1 with (fail)
  generalize w.alloc (.cells g.vals 26) = w1 at *
  obtain ⟨x0, x1, x2, x3⟩ := HCX.out _ (Below.refl _ _)
  have HBD := Lib.hid ((Below.refl w1.heap.size w1).drew)
  go_region_held3 (fun W => W.cell? ⟨w.heap.size, 0, none⟩ = some (.slice (some ⟨b3, o3, none⟩) n1 g.Pc) ∧ W.cell? ⟨w.heap.size, 1, none⟩ = some (.slice g.IA n2 g.Ic) ∧ W.cell? ⟨w.heap.size, 2, none⟩ = some (.slice g.TA n3 g.Tc) ∧ W.cell? ⟨b3, o3, none⟩ = some (.int .i64 z))
    (first | assumption | (exact ⟨x0, x1, x2, x3⟩) | (exact ⟨y0, y1, y2, y3⟩) | go_keep | fail)
    (first
      | (go_at_call 19; with_reducible (refine (HCNT.out _ HBD.out).mono ?_); rintro e w2 ⟨rfl, hb2⟩; have HB2 := Lib.hid (HBD.out.trans (hb2.mono HBD.out.size)); obtain ⟨y0, y1, y2, y3⟩ := HCX.out _ HB2.out; clear hb2))
  go_wp2_with fail
  go_ret
  exact ⟨rfl, HB.out.trans (HB2.out.mono HB.out.size)⟩
end Go.Proofs.YtccofgdcpmplmaaGreatDoor
