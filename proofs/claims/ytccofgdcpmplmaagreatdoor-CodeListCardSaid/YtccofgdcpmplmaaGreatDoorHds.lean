/- The second and the third ask. -/
import Derived.Test.YtccofgdcpmplmaaGreatDoorAsk
namespace Go.Proofs.YtccofgdcpmplmaaGreatDoor
open Go Go.RowKit Go.Shelf
set_option maxRecDepth 100000 in
set_option maxHeartbeats 4000000 in
theorem ended_any (A : Option Addr) (c : Nat) (l : List Ins) (w : World) (hr : RdI w A l) (hl : l.length ≤ 1000000000000) :
    Calls Tryz.prog 44 #[.slice A l.length c] w fun e w' => e = .returned (.bool (endedB l)) ∧ w' = w := by
  obtain ⟨n, hn⟩ : ∃ n, l.length = n := ⟨_, rfl⟩
  rw [hn] at hl
  by_cases h0 : n = 0
  · have : l = [] := List.eq_nil_of_length_eq_zero (by omega)
    subst this
    subst h0
    clear hr hl hn
    go_enter Tryz.func44, Tryz.ntmps44
    go_wp2_with fail
    go_ret
    exact ⟨rfl, rfl⟩
  have hk : n - 1 < l.length := by omega
  obtain ⟨b, off, hA, -, x0, x1, x2, x3⟩ := hr.at hk
  have he : endedB l = (decide (l[n - 1].op = 34) || decide (l[n - 1].op = 35) || decide (l[n - 1].op = 27)) := by
    unfold endedB
    rw [List.getLast?_eq_getElem?, hn, List.getElem?_eq_getElem hk]
  rw [he, hn, hA]
  obtain ⟨z, hz⟩ : ∃ z, l[n - 1].op = z := ⟨_, rfl⟩
  rw [hz] at x0
  rw [hz]
  obtain ⟨m, hm⟩ : ∃ m, n - 1 = m := ⟨_, rfl⟩
  rw [hm] at x0
  have hnm : n = m + 1 := by omega
  clear he hz hA hr x1 x2 x3 hk hn hm
  subst hnm
  clear h0
  have q1 : (((m + 1 : Nat) : Int) == 0) = false := by simp; omega
  have q2 : (m + 1 == 0) = false := by simp
  have q3 : IntKind.i64.wrap (((m + 1 : Nat) : Int) - 1) = (m : Int) := by rw [IntWalk.i64_in _ (by omega)]; omega
  have q4 : (((m : Int) + 1) == 0) = false := by simp; omega
  have q5 : IntKind.i64.wrap ((m : Int) + 1 - 1) = (m : Int) := by rw [IntWalk.i64_in _ (by omega)]; omega
  have q6 : (m : Int) < ((m + 1 : Nat) : Int) := by omega
  have q7 : (0 : Int) ≤ (m : Int) := by omega
  have q8 : (m : Int) < (m : Int) + 1 := by omega
  have q9 : ((m : Int) + 1 - 1) = (m : Int) := by omega
  by_cases h1 : z = 34
  · subst h1
    go_enter Tryz.func44, Tryz.ntmps44
    go_wp2_with fail
    go_ret
    exact ⟨rfl, rfl⟩
  obtain ⟨e1, e2⟩ := int_nes h1
  have e3 : decide (z = 34) = false := decide_eq_false h1
  clear h1
  by_cases h2 : z = 35
  · subst h2
    go_enter Tryz.func44, Tryz.ntmps44
    go_wp2_with fail
    go_ret
    exact ⟨rfl, rfl⟩
  obtain ⟨f1, f2⟩ := int_nes h2
  have f3 : decide (z = 35) = false := decide_eq_false h2
  clear h2
  by_cases h3 : z = 27
  · subst h3
    go_enter Tryz.func44, Tryz.ntmps44
    go_wp2_with fail
    go_ret
    exact ⟨rfl, rfl⟩
  obtain ⟨g1, g2⟩ := int_nes h3
  have g3 : decide (z = 27) = false := decide_eq_false h3
  rw [e3, f3, g3]
  clear h3
  go_enter Tryz.func44, Tryz.ntmps44
  go_wp2_with fail
  go_ret
  exact ⟨rfl, rfl⟩
set_option maxRecDepth 100000 in
set_option maxHeartbeats 4000000 in
theorem bad_any (p : Pr) (w : World) (hr : RdI w p.A p.code) (hl : p.code.length ≤ 1000000000000) (hp : inI p.params) (hq : inI p.regs) :
    Calls Tryz.prog 43 #[.agg p.vals] w fun e w' => e = .returned (.bool (badP p)) ∧ Below w.heap.size w w' := by
  have HB := Lib.hid (below_new w (.cells p.vals 39))
  have HX := Lib.hid (heap_alloc_new w (.cells p.vals 39))
  have HE := Lib.hid (ended_any p.A p.cap p.code (w.alloc (.cells p.vals 39)) (hr.below HB.out) hl)
  obtain ⟨t, ht⟩ : ∃ t, endedB p.code = t := ⟨_, rfl⟩
  rw [ht] at HE
  unfold badP
  rw [ht]
  clear hr hl ht
  unfold inI at hp hq
  by_cases h1 : p.params < 0
  · have d1 : decide (p.params < 0) = true := decide_eq_true h1
    rw [d1]
    simp only [Bool.true_or]
    go_enter Tryz.func43, Tryz.ntmps43
    go_upto_region 1 with (fail)
    generalize w.alloc (.cells p.vals 39) = w1 at *
    obtain ⟨x0, x1, x2⟩ := cell3 HX.out
    go_wp2_with fail
    go_ret
    exact ⟨rfl, HB.out⟩
  have d1 : decide (p.params < 0) = false := decide_eq_false h1
  by_cases h2 : p.regs < p.params
  · have d2 : decide (p.regs < p.params) = true := decide_eq_true h2
    rw [d1, d2]
    simp only [Bool.true_or, Bool.false_or]
    go_enter Tryz.func43, Tryz.ntmps43
    go_upto_region 1 with (fail)
    generalize w.alloc (.cells p.vals 39) = w1 at *
    obtain ⟨x0, x1, x2⟩ := cell3 HX.out
    go_wp2_with fail
    go_ret
    exact ⟨rfl, HB.out⟩
  have d2 : decide (p.regs < p.params) = false := decide_eq_false h2
  by_cases h3 : 500 < p.regs
  · have d3 : decide (500 < p.regs) = true := decide_eq_true h3
    rw [d1, d2, d3]
    simp only [Bool.true_or, Bool.false_or]
    go_enter Tryz.func43, Tryz.ntmps43
    go_upto_region 1 with (fail)
    generalize w.alloc (.cells p.vals 39) = w1 at *
    obtain ⟨x0, x1, x2⟩ := cell3 HX.out
    go_wp2_with fail
    go_ret
    exact ⟨rfl, HB.out⟩
  have d3 : decide (500 < p.regs) = false := decide_eq_false h3
  rw [d1, d2, d3]
  simp only [Bool.false_or]
  go_enter Tryz.func43, Tryz.ntmps43
  go_upto_region 1 with (fail)
  generalize w.alloc (.cells p.vals 39) = w1 at *
  obtain ⟨x0, x1, x2⟩ := cell3 HX.out
  go_wp2_with fail
  refine HE.out.mono ?_
  rintro e w2 ⟨rfl, rfl⟩
  go_wp2_with fail
  go_ret
  exact ⟨rfl, HB.out⟩
set_option maxRecDepth 100000 in
theorem short1_any (s : ByteArray) (w : World) (hs : s.size ≤ 9223372036854775807) : Calls Tryz.prog 46 #[.string s] w fun e w' => e = .returned (.bool (decide (1048576 < s.size))) ∧ w' = w := by
  by_cases h : 1048576 < s.size
  · have d1 : decide (1048576 < s.size) = true := decide_eq_true h
    have d2 : decide (1048576 < (s.size : Int)) = true := decide_eq_true (by omega)
    rw [d1]
    go_enter Tryz.func46, Tryz.ntmps46
    go_wp2_with fail
    go_ret
    exact ⟨rfl, rfl⟩
  · have d1 : decide (1048576 < s.size) = false := decide_eq_false h
    have d2 : decide (1048576 < (s.size : Int)) = false := decide_eq_false (by omega)
    rw [d1]
    go_enter Tryz.func46, Tryz.ntmps46
    go_wp2_with fail
    go_ret
    exact ⟨rfl, rfl⟩
set_option maxRecDepth 100000 in
set_option maxHeartbeats 4000000 in
theorem short_any (g : Pg) (w : World) (hg : g.at w) (hf : g.fit) :
    Calls Tryz.prog 26 #[.agg g.vals] w fun e w' => e = .returned (.bool (shortB g)) ∧ Below w.heap.size w w' := by
  have HB := Lib.hid (below_new w (.cells g.vals 26))
  have HX := Lib.hid (BXG.new hg)
  have HC := Lib.hid (cfs_any (fun s => decide (1048576 < s.size)) g.TA g.Tc g.ts _ HX.out.g.ts (by have := hf.t; omega) (fun x hx W _ => (short1_any x W (by have := hf.s x hx; omega)).mono fun e w' ⟨h1, h2⟩ => ⟨h1, h2 ▸ Below.refl _ _⟩))
  unfold shortB
  obtain ⟨t, ht⟩ : ∃ t, (g.ts.any fun s => decide (1048576 < s.size)) = t := ⟨_, rfl⟩
  rw [ht] at HC
  rw [ht]
  clear hg hf ht
  go_enter Tryz.func26, Tryz.ntmps26
  go_upto_region 1 with (fail)
  generalize w.alloc (.cells g.vals 26) = w1 at *
  obtain ⟨x0, x1, x2⟩ := HX.out.cells
  go_wp2_with fail
  refine HC.out.mono ?_
  rintro e w2 ⟨rfl, hb⟩
  have HB2 := Lib.hid (HB.out.trans (hb.mono HB.out.size))
  clear hb
  go_wp2_with fail
  go_ret
  exact ⟨rfl, HB2.out⟩
set_option maxRecDepth 100000 in
set_option maxHeartbeats 4000000 in
theorem headed_any (g : Pg) (w : World) (hg : g.at w) (hf : g.fit) (h0 : 0 < g.ps.length) :
    Calls Tryz.prog 25 #[.agg g.vals] w fun e w' => e = .returned (.bool (headedB g)) ∧ Below w.heap.size w w' := by
  have HB := Lib.hid (below_new w (.cells g.vals 26))
  have HX := Lib.hid (BXG.new hg)
  have HC := Lib.hid (cfp_any badP g.PA g.Pc g.ps _ HX.out.g.ps (by have := hf.p; omega) (fun x hx W hb => bad_any x W ((HX.out.g.code x hx).below hb) (by have := hf.c x hx; omega) (hf.r x hx).1 (hf.r x hx).2.1))
  obtain ⟨b, off, hA, -, u0, -, -⟩ := HX.out.g.ps.at h0
  obtain ⟨n1, hn1⟩ : ∃ n, g.ps.length = n := ⟨_, rfl⟩
  obtain ⟨z, hz⟩ : ∃ z, g.ps[0].params = z := ⟨_, rfl⟩
  have hh : headedB g = (decide (z = 0) && !g.ps.any badP) := by
    unfold headedB
    rw [List.head?_eq_getElem?, List.getElem?_eq_getElem h0, ← hz]
    rfl
  rw [hh]
  obtain ⟨t, ht⟩ : ∃ t, g.ps.any badP = t := ⟨_, rfl⟩
  rw [ht] at HC
  rw [ht]
  rw [hz] at u0
  rw [hn1] at h0 HC
  rw [hA] at HC
  have HCX : Hid ((w.alloc (.cells g.vals 26)).cell? ⟨w.heap.size, 0, none⟩ = some (.slice (some ⟨b, off, none⟩) n1 g.Pc)) := Lib.hid (by rw [← hA, ← hn1]; exact HX.out.cells.1)
  have u1 : (w.alloc (.cells g.vals 26)).cell? ⟨b, off, none⟩ = some (.int .i64 z) := by simpa using u0
  have hi : (0 : Int) < (n1 : Int) := by omega
  clear hg hf ht hz hh hn1 hA u0
  by_cases h1 : z = 0
  · subst h1
    go_enter Tryz.func25, Tryz.ntmps25
    go_upto_region 1 with (fail)
    generalize w.alloc (.cells g.vals 26) = w1 at *
    have x0 := HCX.out
    go_wp2_with fail
    refine HC.out.mono ?_
    rintro e w2 ⟨rfl, hb⟩
    have HB2 := Lib.hid (HB.out.trans (hb.mono HB.out.size))
    clear hb
    go_wp2_with fail
    go_ret
    exact ⟨by cases t <;> rfl, HB2.out⟩
  · obtain ⟨e1, e2⟩ := int_nes h1
    have e3 : decide (z = 0) = false := decide_eq_false h1
    rw [e3]
    go_enter Tryz.func25, Tryz.ntmps25
    go_upto_region 1 with (fail)
    generalize w.alloc (.cells g.vals 26) = w1 at *
    have x0 := HCX.out
    go_wp2_with fail
    go_ret
    exact ⟨rfl, HB.out⟩
end Go.Proofs.YtccofgdcpmplmaaGreatDoor
