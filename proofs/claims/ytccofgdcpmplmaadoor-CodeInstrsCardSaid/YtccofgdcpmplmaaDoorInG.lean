/- An instruction, by definition: operation 32. -/
import Derived.Test.YtccofgdcpmplmaaDoorInb
import Derived.IntWalk
namespace Go.Proofs.YtccofgdcpmplmaaDoor
open Go Go.RowKit Go.Shelf
set_option maxRecDepth 100000 in
set_option maxHeartbeats 16000000 in
theorem in_32 (g : Pg) (p : Pr) (a b c : Int) (w : World) (hg : g.at w) (hf : g.fit) (r0 : 0 ≤ p.regs) (r1 : p.regs ≤ 500) :
    Calls Tryd.prog 19 #[.agg g.vals, .agg p.vals, .agg (⟨32, a, b, c⟩ : Ins).vals] w fun e w' => e = .returned (.bool (rgB p a && (decide (0 ≤ b) && (decide (b < (g.ps.length : Int)) && ((c == 0) && decide ((g.ps.getD b.toNat ⟨0, 0, none, 0, []⟩).params ≤ p.regs - a)))))) ∧ Below w.heap.size w w' := by
  obtain ⟨h0, h1, h2, hb⟩ := three_boxes w g.vals p.vals (⟨32, a, b, c⟩ : Ins).vals 26 34 37
  have HB := Lib.hid hb
  have HX : Hid (IB g p ⟨32, a, b, c⟩ w.heap.size (((w.alloc (.cells g.vals 26)).alloc (.cells p.vals 34)).alloc (.cells (⟨32, a, b, c⟩ : Ins).vals 37))) := Lib.hid ⟨h0, h1, h2⟩
  have HR : Hid (∀ z W, Calls Tryd.prog 39 #[.agg #[.int .i64 p.params, .int .i64 p.regs, .slice p.A p.code.length p.cap], .int .i64 z] W fun e w' => e = .returned (.bool (rgB p z)) ∧ Below W.heap.size W w') := Lib.hid (fun z W => reg_any p z W)
  have HP : Hid (∀ z W, Calls Tryd.prog 40 #[.agg #[.int .i64 p.params, .int .i64 p.regs, .slice p.A p.code.length p.cap], .int .i64 z] W fun e w' => e = .returned (.bool (plB p z)) ∧ Below W.heap.size W w') := Lib.hid (fun z W => place_any p z W)
  clear h0 h1 h2 hb
  have HGA := Lib.hid (hg.below HB.out)
  clear hg
  have hra : ∀ t, rgB p a = t → ∀ W, Calls Tryd.prog 39 #[.agg #[.int .i64 p.params, .int .i64 p.regs, .slice p.A p.code.length p.cap], .int .i64 a] W fun e w' => e = .returned (.bool t) ∧ Below W.heap.size W w' := fun t ht W => by rw [← ht]; exact reg_any p a W
  cases q : rgB p a with
  | false =>
    simp only [Bool.false_and]
    clear HR
    have HR := Lib.hid (hra false q)
    clear hra q HGA
    go_enter Tryd.func19, Tryd.ntmps19
    go_upto_region 1 with (fail)
    generalize ((w.alloc _).alloc _).alloc _ = w1 at *
    obtain ⟨⟨x0, x1, x2⟩, x3, x4, x5, x6⟩ := HX.out.pc
    go_wp2_with fail
    have HBD := Lib.hid ((Below.refl w1.heap.size w1).drew)
    have HTR : Hid (∀ A B, Below w1.heap.size w1 A → Below A.heap.size A B → Below w1.heap.size w1 B) := Lib.hid (fun A B h k => h.trans (k.mono h.size))
    go_region_held3 (fun W => (W.cell? ⟨w.heap.size + 1, 0, none⟩ = some (.int .i64 p.params) ∧ W.cell? ⟨w.heap.size + 1, 1, none⟩ = some (.int .i64 p.regs) ∧ W.cell? ⟨w.heap.size + 1, 2, none⟩ = some (.slice p.A p.code.length p.cap)) ∧ W.cell? ⟨w.heap.size + 2, 1, none⟩ = some (.int .i64 a) ∧ W.cell? ⟨w.heap.size + 2, 2, none⟩ = some (.int .i64 b) ∧ W.cell? ⟨w.heap.size + 2, 3, none⟩ = some (.int .i64 c))
      (first | assumption | (exact ⟨⟨x0, x1, x2⟩, x4, x5, x6⟩) | (exact ⟨⟨y0, y1, y2⟩, y4, y5, y6⟩) | go_keep | fail)
      (first
        | (go_at_call 39; with_reducible (refine (HR.out _).mono ?_); rintro e w2 ⟨rfl, hb2⟩; have HB2 := Lib.hid (HTR.out _ _ HBD.out hb2); obtain ⟨⟨y0, y1, y2⟩, y3, y4, y5, y6⟩ := (HX.out.below HB2.out).pc; obtain ⟨g0, g1, g2⟩ := (HX.out.below HB2.out).gc; clear hb2))
    go_wp2_with fail
    go_quiet (fail)
    go_wp2_with fail
    all_goals go_ret
    all_goals refine ⟨by first | (simp; done) | (simp [*]; done) | (simp [*] <;> omega) | (simp_all; done) | (simp_all <;> omega), ?_⟩
    all_goals first | exact below_any _ (HB.out.trans (HB2.out.mono HB.out.size)) | exact HB.out.trans (HB5.out.mono HB.out.size) | exact HB.out.trans (HB4.out.mono HB.out.size) | exact HB.out.trans (HB3.out.mono HB.out.size) | exact HB.out.trans (HB2.out.mono HB.out.size)
  | true =>
    simp only [Bool.true_and]
    clear HR
    have HR := Lib.hid (hra true q)
    clear hra
    have q2 := q
    unfold rgB at q2
    simp only [Bool.and_eq_true, decide_eq_true_eq] at q2
    have hwa : IntKind.i64.wrap (p.regs - a) = p.regs - a := IntWalk.i64_in _ (by omega)
    clear q
    by_cases b0 : 0 ≤ b
    rotate_left
    · have d0 : decide (0 ≤ b) = false := decide_eq_false b0
      rw [d0]
      simp only [Bool.false_and]
      clear HGA
      go_enter Tryd.func19, Tryd.ntmps19
      go_upto_region 1 with (fail)
      generalize ((w.alloc _).alloc _).alloc _ = w1 at *
      obtain ⟨⟨x0, x1, x2⟩, x3, x4, x5, x6⟩ := HX.out.pc
      go_wp2_with fail
      have HBD := Lib.hid ((Below.refl w1.heap.size w1).drew)
      have HTR : Hid (∀ A B, Below w1.heap.size w1 A → Below A.heap.size A B → Below w1.heap.size w1 B) := Lib.hid (fun A B h k => h.trans (k.mono h.size))
      go_region_held3 (fun W => (W.cell? ⟨w.heap.size + 1, 0, none⟩ = some (.int .i64 p.params) ∧ W.cell? ⟨w.heap.size + 1, 1, none⟩ = some (.int .i64 p.regs) ∧ W.cell? ⟨w.heap.size + 1, 2, none⟩ = some (.slice p.A p.code.length p.cap)) ∧ W.cell? ⟨w.heap.size + 2, 1, none⟩ = some (.int .i64 a) ∧ W.cell? ⟨w.heap.size + 2, 2, none⟩ = some (.int .i64 b) ∧ W.cell? ⟨w.heap.size + 2, 3, none⟩ = some (.int .i64 c))
        (first | assumption | (exact ⟨⟨x0, x1, x2⟩, x4, x5, x6⟩) | (exact ⟨⟨y0, y1, y2⟩, y4, y5, y6⟩) | go_keep | fail)
        (first
          | (go_at_call 39; with_reducible (refine (HR.out _).mono ?_); rintro e w2 ⟨rfl, hb2⟩; have HB2 := Lib.hid (HTR.out _ _ HBD.out hb2); obtain ⟨⟨y0, y1, y2⟩, y3, y4, y5, y6⟩ := (HX.out.below HB2.out).pc; obtain ⟨g0, g1, g2⟩ := (HX.out.below HB2.out).gc; clear hb2))
      go_wp2_with fail
      go_quiet (fail)
      go_wp2_with fail
      all_goals go_ret
      all_goals refine ⟨by first | (simp; done) | (simp [*]; done) | (simp [*] <;> omega) | (simp_all; done) | (simp_all <;> omega), ?_⟩
      all_goals first | exact below_any _ (HB.out.trans (HB2.out.mono HB.out.size)) | exact HB.out.trans (HB5.out.mono HB.out.size) | exact HB.out.trans (HB4.out.mono HB.out.size) | exact HB.out.trans (HB3.out.mono HB.out.size) | exact HB.out.trans (HB2.out.mono HB.out.size)
    have d0 : decide (0 ≤ b) = true := decide_eq_true b0
    rw [d0]
    simp only [Bool.true_and]
    by_cases b1 : b < (g.ps.length : Int)
    rotate_left
    · have d1 : decide (b < (g.ps.length : Int)) = false := decide_eq_false b1
      rw [d1]
      simp only [Bool.false_and]
      clear HGA
      go_enter Tryd.func19, Tryd.ntmps19
      go_upto_region 1 with (fail)
      generalize ((w.alloc _).alloc _).alloc _ = w1 at *
      obtain ⟨⟨x0, x1, x2⟩, x3, x4, x5, x6⟩ := HX.out.pc
      go_wp2_with fail
      have HBD := Lib.hid ((Below.refl w1.heap.size w1).drew)
      have HTR : Hid (∀ A B, Below w1.heap.size w1 A → Below A.heap.size A B → Below w1.heap.size w1 B) := Lib.hid (fun A B h k => h.trans (k.mono h.size))
      go_region_held3 (fun W => (W.cell? ⟨w.heap.size + 1, 0, none⟩ = some (.int .i64 p.params) ∧ W.cell? ⟨w.heap.size + 1, 1, none⟩ = some (.int .i64 p.regs) ∧ W.cell? ⟨w.heap.size + 1, 2, none⟩ = some (.slice p.A p.code.length p.cap)) ∧ W.cell? ⟨w.heap.size + 2, 1, none⟩ = some (.int .i64 a) ∧ W.cell? ⟨w.heap.size + 2, 2, none⟩ = some (.int .i64 b) ∧ W.cell? ⟨w.heap.size + 2, 3, none⟩ = some (.int .i64 c))
        (first | assumption | (exact ⟨⟨x0, x1, x2⟩, x4, x5, x6⟩) | (exact ⟨⟨y0, y1, y2⟩, y4, y5, y6⟩) | go_keep | fail)
        (first
          | (go_at_call 39; with_reducible (refine (HR.out _).mono ?_); rintro e w2 ⟨rfl, hb2⟩; have HB2 := Lib.hid (HTR.out _ _ HBD.out hb2); obtain ⟨⟨y0, y1, y2⟩, y3, y4, y5, y6⟩ := (HX.out.below HB2.out).pc; obtain ⟨g0, g1, g2⟩ := (HX.out.below HB2.out).gc; clear hb2))
      go_wp2_with fail
      go_quiet (fail)
      go_wp2_with fail
      all_goals go_ret
      all_goals refine ⟨by first | (simp; done) | (simp [*]; done) | (simp [*] <;> omega) | (simp_all; done) | (simp_all <;> omega), ?_⟩
      all_goals first | exact below_any _ (HB.out.trans (HB2.out.mono HB.out.size)) | exact HB.out.trans (HB5.out.mono HB.out.size) | exact HB.out.trans (HB4.out.mono HB.out.size) | exact HB.out.trans (HB3.out.mono HB.out.size) | exact HB.out.trans (HB2.out.mono HB.out.size)
    have d1 : decide (b < (g.ps.length : Int)) = true := decide_eq_true b1
    rw [d1]
    simp only [Bool.true_and]
    by_cases c0 : c = 0
    rotate_left
    · have d2 : (c == 0) = false := by simp [c0]
      rw [d2]
      simp only [Bool.false_and]
      clear HGA
      go_enter Tryd.func19, Tryd.ntmps19
      go_upto_region 1 with (fail)
      generalize ((w.alloc _).alloc _).alloc _ = w1 at *
      obtain ⟨⟨x0, x1, x2⟩, x3, x4, x5, x6⟩ := HX.out.pc
      go_wp2_with fail
      have HBD := Lib.hid ((Below.refl w1.heap.size w1).drew)
      have HTR : Hid (∀ A B, Below w1.heap.size w1 A → Below A.heap.size A B → Below w1.heap.size w1 B) := Lib.hid (fun A B h k => h.trans (k.mono h.size))
      go_region_held3 (fun W => (W.cell? ⟨w.heap.size + 1, 0, none⟩ = some (.int .i64 p.params) ∧ W.cell? ⟨w.heap.size + 1, 1, none⟩ = some (.int .i64 p.regs) ∧ W.cell? ⟨w.heap.size + 1, 2, none⟩ = some (.slice p.A p.code.length p.cap)) ∧ W.cell? ⟨w.heap.size + 2, 1, none⟩ = some (.int .i64 a) ∧ W.cell? ⟨w.heap.size + 2, 2, none⟩ = some (.int .i64 b) ∧ W.cell? ⟨w.heap.size + 2, 3, none⟩ = some (.int .i64 c))
        (first | assumption | (exact ⟨⟨x0, x1, x2⟩, x4, x5, x6⟩) | (exact ⟨⟨y0, y1, y2⟩, y4, y5, y6⟩) | go_keep | fail)
        (first
          | (go_at_call 39; with_reducible (refine (HR.out _).mono ?_); rintro e w2 ⟨rfl, hb2⟩; have HB2 := Lib.hid (HTR.out _ _ HBD.out hb2); obtain ⟨⟨y0, y1, y2⟩, y3, y4, y5, y6⟩ := (HX.out.below HB2.out).pc; obtain ⟨g0, g1, g2⟩ := (HX.out.below HB2.out).gc; clear hb2))
      go_wp2_with fail
      go_quiet (fail)
      go_wp2_with fail
      all_goals go_ret
      all_goals refine ⟨by first | (simp; done) | (simp [*]; done) | (simp [*] <;> omega) | (simp_all; done) | (simp_all <;> omega), ?_⟩
      all_goals first | exact below_any _ (HB.out.trans (HB2.out.mono HB.out.size)) | exact HB.out.trans (HB5.out.mono HB.out.size) | exact HB.out.trans (HB4.out.mono HB.out.size) | exact HB.out.trans (HB3.out.mono HB.out.size) | exact HB.out.trans (HB2.out.mono HB.out.size)
    subst c0
    have d2 : ((0 : Int) == 0) = true := rfl
    rw [d2]
    simp only [Bool.true_and]
    obtain ⟨m, rfl⟩ : ∃ m : Nat, b = (m : Int) := ⟨b.toNat, by omega⟩
    have hm : m < g.ps.length := by omega
    have hgd : g.ps.getD (m : Int).toNat ⟨0, 0, none, 0, []⟩ = g.ps[m] := by simp [List.getD, hm]
    rw [hgd]
    obtain ⟨bt, ot, hA, hbt, ut, -, -⟩ := HGA.out.ps.at hm
    obtain ⟨s, hsx⟩ : ∃ s, g.ps[m].params = s := ⟨_, rfl⟩
    rw [hsx] at ut
    rw [hsx]
    have ht := hf.p
    have hw1 : IntKind.i64.wrap ((g.ps.length : Int) - 1) = (g.ps.length : Int) - 1 := IntWalk.i64_in _ (by omega)
    have hmin : min (m : Int) ((g.ps.length : Int) - 1) = (m : Int) := by omega
    have hmax : max (0 : Int) (m : Int) = (m : Int) := by omega
    clear hf hsx hgd
    go_enter Tryd.func19, Tryd.ntmps19
    go_upto_region 1 with (fail)
    generalize ((w.alloc _).alloc _).alloc _ = w1 at *
    obtain ⟨⟨x0, x1, x2⟩, x3, x4, x5, x6⟩ := HX.out.pc
    go_wp2_with fail
    have HBD := Lib.hid ((Below.refl w1.heap.size w1).drew)
    have HTR : Hid (∀ A B, Below w1.heap.size w1 A → Below A.heap.size A B → Below w1.heap.size w1 B) := Lib.hid (fun A B h k => h.trans (k.mono h.size))
    go_region_held3 (fun W => (W.cell? ⟨w.heap.size + 1, 0, none⟩ = some (.int .i64 p.params) ∧ W.cell? ⟨w.heap.size + 1, 1, none⟩ = some (.int .i64 p.regs) ∧ W.cell? ⟨w.heap.size + 1, 2, none⟩ = some (.slice p.A p.code.length p.cap)) ∧ W.cell? ⟨w.heap.size + 2, 1, none⟩ = some (.int .i64 a) ∧ W.cell? ⟨w.heap.size + 2, 2, none⟩ = some (.int .i64 (m : Int)) ∧ W.cell? ⟨w.heap.size + 2, 3, none⟩ = some (.int .i64 0))
      (first | assumption | (exact ⟨⟨x0, x1, x2⟩, x4, x5, x6⟩) | (exact ⟨⟨y0, y1, y2⟩, y4, y5, y6⟩) | go_keep | fail)
      (first
        | (go_at_call 39; with_reducible (refine (HR.out _).mono ?_); rintro e w2 ⟨rfl, hb2⟩; have HB2 := Lib.hid (HTR.out _ _ HBD.out hb2); obtain ⟨⟨y0, y1, y2⟩, y3, y4, y5, y6⟩ := (HX.out.below HB2.out).pc; obtain ⟨g0, g1, g2⟩ := (HX.out.below HB2.out).gc; clear hb2))
    have hub : ∀ W, Below w1.heap.size w1 W → W.cell? ⟨bt, ot + m * 3, none⟩ = some (.int .i64 s) := fun W hb => (hb.cell (p := ⟨bt, ot + m * 3, none⟩) hbt).trans ut
    have ut2 := hub _ HB2.out
    clear hub
    go_wp2_with fail
    go_quiet (fail)
    go_wp2_with fail
    all_goals go_ret
    all_goals refine ⟨by first | (simp; done) | (simp [*]; done) | (simp [*] <;> omega) | (simp_all; done) | (simp_all <;> omega), ?_⟩
    all_goals first | exact below_any _ (HB.out.trans (HB2.out.mono HB.out.size)) | exact HB.out.trans (HB5.out.mono HB.out.size) | exact HB.out.trans (HB4.out.mono HB.out.size) | exact HB.out.trans (HB3.out.mono HB.out.size) | exact HB.out.trans (HB2.out.mono HB.out.size)
end Go.Proofs.YtccofgdcpmplmaaDoor
