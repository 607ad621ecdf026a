/- An instruction, by definition: operation 32. -/
import Derived.Test.YtccofgdcpmplmaaGreatDoorInb
import Derived.IntWalk
namespace Go.Proofs.YtccofgdcpmplmaaGreatDoor
open Go Go.RowKit Go.Shelf
set_option maxRecDepth 100000 in
set_option maxHeartbeats 16000000 in
theorem in_33 (g : Pg) (p : Pr) (a b c : Int) (w : World) (hg : g.at w) (hf : g.fit) (r0 : 0 ≤ p.regs) (r1 : p.regs ≤ 500) :
    Calls Tryz.prog 20 #[.agg g.vals, .agg p.vals, .agg (⟨33, a, b, c⟩ : Ins).vals] w fun e w' => e = .returned (.bool (rgB p a && (decide (0 ≤ b) && (decide (b < (g.ts.length : Int)) && (keyB (g.ts.getD b.toNat ⟨#[]⟩) && (decide (0 ≤ c) && decide (c ≤ p.regs - a))))))) ∧ Below w.heap.size w w' := by
  obtain ⟨h0, h1, h2, hb⟩ := three_boxes w g.vals p.vals (⟨33, a, b, c⟩ : Ins).vals 26 39 42
  have HB := Lib.hid hb
  have HX : Hid (IB g p ⟨33, a, b, c⟩ w.heap.size (((w.alloc (.cells g.vals 26)).alloc (.cells p.vals 39)).alloc (.cells (⟨33, a, b, c⟩ : Ins).vals 42))) := Lib.hid ⟨h0, h1, h2⟩
  have HR : Hid (∀ z W, Calls Tryz.prog 33 #[.agg #[.int .i64 p.params, .int .i64 p.regs, .slice p.A p.code.length p.cap], .int .i64 z] W fun e w' => e = .returned (.bool (rgB p z)) ∧ Below W.heap.size W w') := Lib.hid (fun z W => reg_any p z W)
  have HP : Hid (∀ z W, Calls Tryz.prog 34 #[.agg #[.int .i64 p.params, .int .i64 p.regs, .slice p.A p.code.length p.cap], .int .i64 z] W fun e w' => e = .returned (.bool (plB p z)) ∧ Below W.heap.size W w') := Lib.hid (fun z W => place_any p z W)
  clear h0 h1 h2 hb
  have HGA := Lib.hid (hg.below HB.out)
  clear hg
  have hra : ∀ t, rgB p a = t → ∀ W, Calls Tryz.prog 33 #[.agg #[.int .i64 p.params, .int .i64 p.regs, .slice p.A p.code.length p.cap], .int .i64 a] W fun e w' => e = .returned (.bool t) ∧ Below W.heap.size W w' := fun t ht W => by rw [← ht]; exact reg_any p a W
  cases q : rgB p a with
  | false =>
    simp only [Bool.false_and]
    clear HR
    have HR := Lib.hid (hra false q)
    clear hra q HGA
    go_enter Tryz.func20, Tryz.ntmps20
    go_upto_region 1 with (fail)
    generalize ((w.alloc _).alloc _).alloc _ = w1 at *
    obtain ⟨⟨x0, x1, x2⟩, x3, x4, x5, x6⟩ := HX.out.pc
    go_wp2_with fail
    have HBD := Lib.hid ((Below.refl w1.heap.size w1).drew)
    have HTR : Hid (∀ A B, Below w1.heap.size w1 A → Below A.heap.size A B → Below w1.heap.size w1 B) := Lib.hid (fun A B h k => h.trans (k.mono h.size))
    go_region_held3 (fun W => (W.cell? ⟨w.heap.size + 1, 0, none⟩ = some (.int .i64 p.params) ∧ W.cell? ⟨w.heap.size + 1, 1, none⟩ = some (.int .i64 p.regs) ∧ W.cell? ⟨w.heap.size + 1, 2, none⟩ = some (.slice p.A p.code.length p.cap)) ∧ W.cell? ⟨w.heap.size + 2, 1, none⟩ = some (.int .i64 a) ∧ W.cell? ⟨w.heap.size + 2, 2, none⟩ = some (.int .i64 b) ∧ W.cell? ⟨w.heap.size + 2, 3, none⟩ = some (.int .i64 c))
      (first | assumption | (exact ⟨⟨x0, x1, x2⟩, x4, x5, x6⟩) | (exact ⟨⟨y0, y1, y2⟩, y4, y5, y6⟩) | go_keep | fail)
      (first
        | (go_at_call 33; with_reducible (refine (HR.out _).mono ?_); rintro e w2 ⟨rfl, hb2⟩; have HB2 := Lib.hid (HTR.out _ _ HBD.out hb2); obtain ⟨⟨y0, y1, y2⟩, y3, y4, y5, y6⟩ := (HX.out.below HB2.out).pc; obtain ⟨g0, g1, g2⟩ := (HX.out.below HB2.out).gc; clear hb2))
    go_wp2_with (first
      | (go_at_call 35; refine (HS.out _).mono ?_; rintro e w5 ⟨rfl, hb5⟩; have HB5 := Lib.hid (HTR.out _ _ HB2.out hb5); obtain ⟨⟨z0, z1, z2⟩, z3, z4, z5, z6⟩ := (HX.out.below HB5.out).pc; clear hb5)
      | (go_at_call 33; refine (HR.out _).mono ?_; rintro e w4 ⟨rfl, hb4⟩; have HB4 := Lib.hid (HTR.out _ _ HB3.out hb4); obtain ⟨⟨z0, z1, z2⟩, z3, z4, z5, z6⟩ := (HX.out.below HB4.out).pc; clear hb4)
      | (go_at_call 33; refine (HR.out _).mono ?_; rintro e w3 ⟨rfl, hb3⟩; have HB3 := Lib.hid (HTR.out _ _ HB2.out hb3); obtain ⟨⟨u0, u1, u2⟩, u3, u4, u5, u6⟩ := (HX.out.below HB3.out).pc; clear hb3)
      | (go_at_call 34; refine (HP.out _ _).mono ?_; rintro e w3 ⟨rfl, hb3⟩; have HB3 := Lib.hid (HTR.out _ _ HB2.out hb3); obtain ⟨⟨u0, u1, u2⟩, u3, u4, u5, u6⟩ := (HX.out.below HB3.out).pc; clear hb3))
    all_goals go_ret
    all_goals refine ⟨by first | (simp; done) | (simp [*]; done) | (simp [*] <;> omega) | (simp_all; done) | (simp_all <;> omega), ?_⟩
    all_goals first | exact HB.out.trans (HB5.out.mono HB.out.size) | exact HB.out.trans (HB4.out.mono HB.out.size) | exact HB.out.trans (HB3.out.mono HB.out.size) | exact HB.out.trans (HB2.out.mono HB.out.size)
  | true =>
    simp only [Bool.true_and]
    clear HR
    have HR := Lib.hid (hra true q)
    clear hra
    have q2 := q
    unfold rgB at q2
    simp only [Bool.and_eq_true, decide_eq_true_eq] at q2
    have hwa : IntKind.i64.wrap (p.regs - a) = p.regs - a := IntWalk.i64_in _ (by omega)
    clear q
    by_cases b0 : 0 ≤ b
    rotate_left
    · have d0 : decide (0 ≤ b) = false := decide_eq_false b0
      rw [d0]
      simp only [Bool.false_and]
      clear HGA
      go_enter Tryz.func20, Tryz.ntmps20
      go_upto_region 1 with (fail)
      generalize ((w.alloc _).alloc _).alloc _ = w1 at *
      obtain ⟨⟨x0, x1, x2⟩, x3, x4, x5, x6⟩ := HX.out.pc
      go_wp2_with fail
      have HBD := Lib.hid ((Below.refl w1.heap.size w1).drew)
      have HTR : Hid (∀ A B, Below w1.heap.size w1 A → Below A.heap.size A B → Below w1.heap.size w1 B) := Lib.hid (fun A B h k => h.trans (k.mono h.size))
      go_region_held3 (fun W => (W.cell? ⟨w.heap.size + 1, 0, none⟩ = some (.int .i64 p.params) ∧ W.cell? ⟨w.heap.size + 1, 1, none⟩ = some (.int .i64 p.regs) ∧ W.cell? ⟨w.heap.size + 1, 2, none⟩ = some (.slice p.A p.code.length p.cap)) ∧ W.cell? ⟨w.heap.size + 2, 1, none⟩ = some (.int .i64 a) ∧ W.cell? ⟨w.heap.size + 2, 2, none⟩ = some (.int .i64 b) ∧ W.cell? ⟨w.heap.size + 2, 3, none⟩ = some (.int .i64 c))
        (first | assumption | (exact ⟨⟨x0, x1, x2⟩, x4, x5, x6⟩) | (exact ⟨⟨y0, y1, y2⟩, y4, y5, y6⟩) | go_keep | fail)
        (first
          | (go_at_call 33; with_reducible (refine (HR.out _).mono ?_); rintro e w2 ⟨rfl, hb2⟩; have HB2 := Lib.hid (HTR.out _ _ HBD.out hb2); obtain ⟨⟨y0, y1, y2⟩, y3, y4, y5, y6⟩ := (HX.out.below HB2.out).pc; obtain ⟨g0, g1, g2⟩ := (HX.out.below HB2.out).gc; clear hb2))
      go_wp2_with (first
        | (go_at_call 35; refine (HS.out _).mono ?_; rintro e w5 ⟨rfl, hb5⟩; have HB5 := Lib.hid (HTR.out _ _ HB2.out hb5); obtain ⟨⟨z0, z1, z2⟩, z3, z4, z5, z6⟩ := (HX.out.below HB5.out).pc; clear hb5)
        | (go_at_call 33; refine (HR.out _).mono ?_; rintro e w4 ⟨rfl, hb4⟩; have HB4 := Lib.hid (HTR.out _ _ HB3.out hb4); obtain ⟨⟨z0, z1, z2⟩, z3, z4, z5, z6⟩ := (HX.out.below HB4.out).pc; clear hb4)
        | (go_at_call 33; refine (HR.out _).mono ?_; rintro e w3 ⟨rfl, hb3⟩; have HB3 := Lib.hid (HTR.out _ _ HB2.out hb3); obtain ⟨⟨u0, u1, u2⟩, u3, u4, u5, u6⟩ := (HX.out.below HB3.out).pc; clear hb3)
        | (go_at_call 34; refine (HP.out _ _).mono ?_; rintro e w3 ⟨rfl, hb3⟩; have HB3 := Lib.hid (HTR.out _ _ HB2.out hb3); obtain ⟨⟨u0, u1, u2⟩, u3, u4, u5, u6⟩ := (HX.out.below HB3.out).pc; clear hb3))
      all_goals go_ret
      all_goals refine ⟨by first | (simp; done) | (simp [*]; done) | (simp [*] <;> omega) | (simp_all; done) | (simp_all <;> omega), ?_⟩
      all_goals first | exact HB.out.trans (HB5.out.mono HB.out.size) | exact HB.out.trans (HB4.out.mono HB.out.size) | exact HB.out.trans (HB3.out.mono HB.out.size) | exact HB.out.trans (HB2.out.mono HB.out.size)
    have d0 : decide (0 ≤ b) = true := decide_eq_true b0
    rw [d0]
    simp only [Bool.true_and]
    by_cases b1 : b < (g.ts.length : Int)
    rotate_left
    · have d1 : decide (b < (g.ts.length : Int)) = false := decide_eq_false b1
      rw [d1]
      simp only [Bool.false_and]
      clear HGA
      go_enter Tryz.func20, Tryz.ntmps20
      go_upto_region 1 with (fail)
      generalize ((w.alloc _).alloc _).alloc _ = w1 at *
      obtain ⟨⟨x0, x1, x2⟩, x3, x4, x5, x6⟩ := HX.out.pc
      go_wp2_with fail
      have HBD := Lib.hid ((Below.refl w1.heap.size w1).drew)
      have HTR : Hid (∀ A B, Below w1.heap.size w1 A → Below A.heap.size A B → Below w1.heap.size w1 B) := Lib.hid (fun A B h k => h.trans (k.mono h.size))
      go_region_held3 (fun W => (W.cell? ⟨w.heap.size + 1, 0, none⟩ = some (.int .i64 p.params) ∧ W.cell? ⟨w.heap.size + 1, 1, none⟩ = some (.int .i64 p.regs) ∧ W.cell? ⟨w.heap.size + 1, 2, none⟩ = some (.slice p.A p.code.length p.cap)) ∧ W.cell? ⟨w.heap.size + 2, 1, none⟩ = some (.int .i64 a) ∧ W.cell? ⟨w.heap.size + 2, 2, none⟩ = some (.int .i64 b) ∧ W.cell? ⟨w.heap.size + 2, 3, none⟩ = some (.int .i64 c))
        (first | assumption | (exact ⟨⟨x0, x1, x2⟩, x4, x5, x6⟩) | (exact ⟨⟨y0, y1, y2⟩, y4, y5, y6⟩) | go_keep | fail)
        (first
          | (go_at_call 33; with_reducible (refine (HR.out _).mono ?_); rintro e w2 ⟨rfl, hb2⟩; have HB2 := Lib.hid (HTR.out _ _ HBD.out hb2); obtain ⟨⟨y0, y1, y2⟩, y3, y4, y5, y6⟩ := (HX.out.below HB2.out).pc; obtain ⟨g0, g1, g2⟩ := (HX.out.below HB2.out).gc; clear hb2))
      go_wp2_with (first
        | (go_at_call 35; refine (HS.out _).mono ?_; rintro e w5 ⟨rfl, hb5⟩; have HB5 := Lib.hid (HTR.out _ _ HB2.out hb5); obtain ⟨⟨z0, z1, z2⟩, z3, z4, z5, z6⟩ := (HX.out.below HB5.out).pc; clear hb5)
        | (go_at_call 33; refine (HR.out _).mono ?_; rintro e w4 ⟨rfl, hb4⟩; have HB4 := Lib.hid (HTR.out _ _ HB3.out hb4); obtain ⟨⟨z0, z1, z2⟩, z3, z4, z5, z6⟩ := (HX.out.below HB4.out).pc; clear hb4)
        | (go_at_call 33; refine (HR.out _).mono ?_; rintro e w3 ⟨rfl, hb3⟩; have HB3 := Lib.hid (HTR.out _ _ HB2.out hb3); obtain ⟨⟨u0, u1, u2⟩, u3, u4, u5, u6⟩ := (HX.out.below HB3.out).pc; clear hb3)
        | (go_at_call 34; refine (HP.out _ _).mono ?_; rintro e w3 ⟨rfl, hb3⟩; have HB3 := Lib.hid (HTR.out _ _ HB2.out hb3); obtain ⟨⟨u0, u1, u2⟩, u3, u4, u5, u6⟩ := (HX.out.below HB3.out).pc; clear hb3))
      all_goals go_ret
      all_goals refine ⟨by first | (simp; done) | (simp [*]; done) | (simp [*] <;> omega) | (simp_all; done) | (simp_all <;> omega), ?_⟩
      all_goals first | exact HB.out.trans (HB5.out.mono HB.out.size) | exact HB.out.trans (HB4.out.mono HB.out.size) | exact HB.out.trans (HB3.out.mono HB.out.size) | exact HB.out.trans (HB2.out.mono HB.out.size)
    have d1 : decide (b < (g.ts.length : Int)) = true := decide_eq_true b1
    rw [d1]
    simp only [Bool.true_and]
    obtain ⟨m, rfl⟩ : ∃ m : Nat, b = (m : Int) := ⟨b.toNat, by omega⟩
    have hm : m < g.ts.length := by omega
    have hgd : g.ts.getD (m : Int).toNat ⟨#[]⟩ = g.ts[m] := by simp [List.getD, hm]
    rw [hgd]
    have HAT : Hid (∀ W, Below w.heap.size w W → True) := Lib.hid (fun _ _ => trivial)
    obtain ⟨bt, ot, hA, hbt, ut⟩ := rdS_at HGA.out.ts hm
    obtain ⟨s, hsx⟩ : ∃ s, g.ts[m] = s := ⟨_, rfl⟩
    rw [hsx] at ut
    rw [hsx]
    have HS : Hid (∀ W, Calls Tryz.prog 35 #[.string s] W fun e w' => e = .returned (.bool (keyB s)) ∧ Below W.heap.size W w') := Lib.hid (fun W => rbuiltin_any s W)
    have ht := hf.t
    have hw1 : IntKind.i64.wrap ((g.ts.length : Int) - 1) = (g.ts.length : Int) - 1 := IntWalk.i64_in _ (by omega)
    have hmin : min (m : Int) ((g.ts.length : Int) - 1) = (m : Int) := by omega
    have hmax : max (0 : Int) (m : Int) = (m : Int) := by omega
    clear hf hsx hgd
    go_enter Tryz.func20, Tryz.ntmps20
    go_upto_region 1 with (fail)
    generalize ((w.alloc _).alloc _).alloc _ = w1 at *
    obtain ⟨⟨x0, x1, x2⟩, x3, x4, x5, x6⟩ := HX.out.pc
    go_wp2_with fail
    have HBD := Lib.hid ((Below.refl w1.heap.size w1).drew)
    have HTR : Hid (∀ A B, Below w1.heap.size w1 A → Below A.heap.size A B → Below w1.heap.size w1 B) := Lib.hid (fun A B h k => h.trans (k.mono h.size))
    go_region_held3 (fun W => (W.cell? ⟨w.heap.size + 1, 0, none⟩ = some (.int .i64 p.params) ∧ W.cell? ⟨w.heap.size + 1, 1, none⟩ = some (.int .i64 p.regs) ∧ W.cell? ⟨w.heap.size + 1, 2, none⟩ = some (.slice p.A p.code.length p.cap)) ∧ W.cell? ⟨w.heap.size + 2, 1, none⟩ = some (.int .i64 a) ∧ W.cell? ⟨w.heap.size + 2, 2, none⟩ = some (.int .i64 (m : Int)) ∧ W.cell? ⟨w.heap.size + 2, 3, none⟩ = some (.int .i64 c))
      (first | assumption | (exact ⟨⟨x0, x1, x2⟩, x4, x5, x6⟩) | (exact ⟨⟨y0, y1, y2⟩, y4, y5, y6⟩) | go_keep | fail)
      (first
        | (go_at_call 33; with_reducible (refine (HR.out _).mono ?_); rintro e w2 ⟨rfl, hb2⟩; have HB2 := Lib.hid (HTR.out _ _ HBD.out hb2); obtain ⟨⟨y0, y1, y2⟩, y3, y4, y5, y6⟩ := (HX.out.below HB2.out).pc; obtain ⟨g0, g1, g2⟩ := (HX.out.below HB2.out).gc; clear hb2))
    have HAC : Hid (∀ W, Below w1.heap.size w1 W → W.cell? ⟨bt, ot + m, none⟩ = some (.string s)) := Lib.hid (fun W hb => (hb.cell (p := ⟨bt, ot + m, none⟩) hbt).trans ut)
    have ut2 := HAC.out _ HB2.out
    have hAd := hA
    go_wp2_with (first
      | (go_at_call 35; refine (HS.out _).mono ?_; rintro e w5 ⟨rfl, hb5⟩; have HB5 := Lib.hid (HTR.out _ _ HB2.out hb5); obtain ⟨⟨z0, z1, z2⟩, z3, z4, z5, z6⟩ := (HX.out.below HB5.out).pc; clear hb5)
      | (go_at_call 33; refine (HR.out _).mono ?_; rintro e w4 ⟨rfl, hb4⟩; have HB4 := Lib.hid (HTR.out _ _ HB3.out hb4); obtain ⟨⟨z0, z1, z2⟩, z3, z4, z5, z6⟩ := (HX.out.below HB4.out).pc; clear hb4)
      | (go_at_call 33; refine (HR.out _).mono ?_; rintro e w3 ⟨rfl, hb3⟩; have HB3 := Lib.hid (HTR.out _ _ HB2.out hb3); obtain ⟨⟨u0, u1, u2⟩, u3, u4, u5, u6⟩ := (HX.out.below HB3.out).pc; clear hb3)
      | (go_at_call 34; refine (HP.out _ _).mono ?_; rintro e w3 ⟨rfl, hb3⟩; have HB3 := Lib.hid (HTR.out _ _ HB2.out hb3); obtain ⟨⟨u0, u1, u2⟩, u3, u4, u5, u6⟩ := (HX.out.below HB3.out).pc; clear hb3))
    all_goals go_ret
    all_goals refine ⟨by first | (simp; done) | (simp [*]; done) | (simp [*] <;> omega) | (simp_all; done) | (simp_all <;> omega), ?_⟩
    all_goals first | exact HB.out.trans (HB5.out.mono HB.out.size) | exact HB.out.trans (HB4.out.mono HB.out.size) | exact HB.out.trans (HB3.out.mono HB.out.size) | exact HB.out.trans (HB2.out.mono HB.out.size)
end Go.Proofs.YtccofgdcpmplmaaGreatDoor
namespace Go.Proofs.YtccofgdcpmplmaaGreatDoor
open Go Go.RowKit Go.Shelf
set_option maxRecDepth 100000 in
set_option maxHeartbeats 16000000 in
theorem in_low (g : Pg) (p : Pr) (op a b c : Int) (w : World) (h : op < 1) :
    Calls Tryz.prog 20 #[.agg g.vals, .agg p.vals, .agg (⟨op, a, b, c⟩ : Ins).vals] w fun e w' => e = .returned (.bool (false)) ∧ Below w.heap.size w w' := by
  obtain ⟨h0, h1, h2, hb⟩ := three_boxes w g.vals p.vals (⟨op, a, b, c⟩ : Ins).vals 26 39 42
  have HB := Lib.hid hb
  have HX : Hid (IB g p ⟨op, a, b, c⟩ w.heap.size (((w.alloc (.cells g.vals 26)).alloc (.cells p.vals 39)).alloc (.cells (⟨op, a, b, c⟩ : Ins).vals 42))) := Lib.hid ⟨h0, h1, h2⟩
  have HR : Hid (∀ z W, Calls Tryz.prog 33 #[.agg #[.int .i64 p.params, .int .i64 p.regs, .slice p.A p.code.length p.cap], .int .i64 z] W fun e w' => e = .returned (.bool (rgB p z)) ∧ Below W.heap.size W w') := Lib.hid (fun z W => reg_any p z W)
  have HP : Hid (∀ z W, Calls Tryz.prog 34 #[.agg #[.int .i64 p.params, .int .i64 p.regs, .slice p.A p.code.length p.cap], .int .i64 z] W fun e w' => e = .returned (.bool (plB p z)) ∧ Below W.heap.size W w') := Lib.hid (fun z W => place_any p z W)
  clear h0 h1 h2 hb
  have e1 : (op == 1) = false := by simp; omega
  have e2 : (op == 2) = false := by simp; omega
  have e3 : (op == 3) = false := by simp; omega
  have e4 : (op == 4) = false := by simp; omega
  have e5 : (op == 5) = false := by simp; omega
  have e6 : (op == 6) = false := by simp; omega
  have e7 : (op == 7) = false := by simp; omega
  have e8 : (op == 8) = false := by simp; omega
  have e9 : (op == 9) = false := by simp; omega
  have e10 : (op == 10) = false := by simp; omega
  have e11 : (op == 11) = false := by simp; omega
  have e12 : (op == 12) = false := by simp; omega
  have e13 : (op == 13) = false := by simp; omega
  have e14 : (op == 14) = false := by simp; omega
  have e15 : (op == 15) = false := by simp; omega
  have e16 : (op == 16) = false := by simp; omega
  have e17 : (op == 17) = false := by simp; omega
  have e18 : (op == 18) = false := by simp; omega
  have e19 : (op == 19) = false := by simp; omega
  have e20 : (op == 20) = false := by simp; omega
  have e21 : (op == 21) = false := by simp; omega
  have e22 : (op == 22) = false := by simp; omega
  have e23 : (op == 23) = false := by simp; omega
  have e24 : (op == 24) = false := by simp; omega
  have e25 : (op == 25) = false := by simp; omega
  have e26 : (op == 26) = false := by simp; omega
  have e27 : (op == 27) = false := by simp; omega
  have e28 : (op == 28) = false := by simp; omega
  have e29 : (op == 29) = false := by simp; omega
  have e30 : (op == 30) = false := by simp; omega
  have e31 : (op == 31) = false := by simp; omega
  have e32 : (op == 32) = false := by simp; omega
  have e33 : (op == 33) = false := by simp; omega
  have e34 : (op == 34) = false := by simp; omega
  have e35 : (op == 35) = false := by simp; omega
  have f24op : decide (24 ≤ op) = false := decide_eq_false (by omega)
  have fop26 : decide (op ≤ 26) = true := decide_eq_true (by omega)
  have f10op : decide (10 ≤ op) = false := decide_eq_false (by omega)
  have fop23 : decide (op ≤ 23) = true := decide_eq_true (by omega)
  go_enter Tryz.func20, Tryz.ntmps20
  go_upto_region 1 with (fail)
  generalize ((w.alloc _).alloc _).alloc _ = w1 at *
  obtain ⟨⟨x0, x1, x2⟩, x3, x4, x5, x6⟩ := HX.out.pc
  go_wp2_with fail
  have HBD := Lib.hid ((Below.refl w1.heap.size w1).drew)
  have HTR : Hid (∀ A B, Below w1.heap.size w1 A → Below A.heap.size A B → Below w1.heap.size w1 B) := Lib.hid (fun A B h k => h.trans (k.mono h.size))
  go_region_held3 (fun W => (W.cell? ⟨w.heap.size + 1, 0, none⟩ = some (.int .i64 p.params) ∧ W.cell? ⟨w.heap.size + 1, 1, none⟩ = some (.int .i64 p.regs) ∧ W.cell? ⟨w.heap.size + 1, 2, none⟩ = some (.slice p.A p.code.length p.cap)) ∧ W.cell? ⟨w.heap.size + 2, 1, none⟩ = some (.int .i64 a) ∧ W.cell? ⟨w.heap.size + 2, 2, none⟩ = some (.int .i64 b) ∧ W.cell? ⟨w.heap.size + 2, 3, none⟩ = some (.int .i64 c))
    (first | assumption | (exact ⟨⟨x0, x1, x2⟩, x4, x5, x6⟩) | (exact ⟨⟨y0, y1, y2⟩, y4, y5, y6⟩) | go_keep | fail)
    (first
      | (go_at_call 33; with_reducible (refine (HR.out _ _).mono ?_); rintro e w2 ⟨rfl, hb2⟩; have HB2 := Lib.hid (HTR.out _ _ HBD.out hb2); obtain ⟨⟨y0, y1, y2⟩, y3, y4, y5, y6⟩ := (HX.out.below HB2.out).pc; obtain ⟨g0, g1, g2⟩ := (HX.out.below HB2.out).gc; clear hb2))
  go_wp2_with (first
    | (go_at_call 33; refine (HR.out _ _).mono ?_; rintro e w4 ⟨rfl, hb4⟩; have HB4 := Lib.hid (HTR.out _ _ HB3.out hb4); obtain ⟨⟨z0, z1, z2⟩, z3, z4, z5, z6⟩ := (HX.out.below HB4.out).pc; clear hb4)
    | (go_at_call 33; refine (HR.out _ _).mono ?_; rintro e w3 ⟨rfl, hb3⟩; have HB3 := Lib.hid (HTR.out _ _ HB2.out hb3); obtain ⟨⟨u0, u1, u2⟩, u3, u4, u5, u6⟩ := (HX.out.below HB3.out).pc; clear hb3)
    | (go_at_call 34; refine (HP.out _ _).mono ?_; rintro e w3 ⟨rfl, hb3⟩; have HB3 := Lib.hid (HTR.out _ _ HB2.out hb3); obtain ⟨⟨u0, u1, u2⟩, u3, u4, u5, u6⟩ := (HX.out.below HB3.out).pc; clear hb3))
  all_goals go_ret
  all_goals refine ⟨by first | (simp; done) | (simp [*]; done) | (simp [*] <;> omega) | (simp_all; done) | (simp_all <;> omega), ?_⟩
  all_goals first | exact HB.out.trans (HB4.out.mono HB.out.size) | exact HB.out.trans (HB3.out.mono HB.out.size) | exact HB.out.trans (HB2.out.mono HB.out.size)
set_option maxRecDepth 100000 in
set_option maxHeartbeats 16000000 in
theorem in_high (g : Pg) (p : Pr) (op a b c : Int) (w : World) (h : 35 < op) :
    Calls Tryz.prog 20 #[.agg g.vals, .agg p.vals, .agg (⟨op, a, b, c⟩ : Ins).vals] w fun e w' => e = .returned (.bool (false)) ∧ Below w.heap.size w w' := by
  obtain ⟨h0, h1, h2, hb⟩ := three_boxes w g.vals p.vals (⟨op, a, b, c⟩ : Ins).vals 26 39 42
  have HB := Lib.hid hb
  have HX : Hid (IB g p ⟨op, a, b, c⟩ w.heap.size (((w.alloc (.cells g.vals 26)).alloc (.cells p.vals 39)).alloc (.cells (⟨op, a, b, c⟩ : Ins).vals 42))) := Lib.hid ⟨h0, h1, h2⟩
  have HR : Hid (∀ z W, Calls Tryz.prog 33 #[.agg #[.int .i64 p.params, .int .i64 p.regs, .slice p.A p.code.length p.cap], .int .i64 z] W fun e w' => e = .returned (.bool (rgB p z)) ∧ Below W.heap.size W w') := Lib.hid (fun z W => reg_any p z W)
  have HP : Hid (∀ z W, Calls Tryz.prog 34 #[.agg #[.int .i64 p.params, .int .i64 p.regs, .slice p.A p.code.length p.cap], .int .i64 z] W fun e w' => e = .returned (.bool (plB p z)) ∧ Below W.heap.size W w') := Lib.hid (fun z W => place_any p z W)
  clear h0 h1 h2 hb
  have e1 : (op == 1) = false := by simp; omega
  have e2 : (op == 2) = false := by simp; omega
  have e3 : (op == 3) = false := by simp; omega
  have e4 : (op == 4) = false := by simp; omega
  have e5 : (op == 5) = false := by simp; omega
  have e6 : (op == 6) = false := by simp; omega
  have e7 : (op == 7) = false := by simp; omega
  have e8 : (op == 8) = false := by simp; omega
  have e9 : (op == 9) = false := by simp; omega
  have e10 : (op == 10) = false := by simp; omega
  have e11 : (op == 11) = false := by simp; omega
  have e12 : (op == 12) = false := by simp; omega
  have e13 : (op == 13) = false := by simp; omega
  have e14 : (op == 14) = false := by simp; omega
  have e15 : (op == 15) = false := by simp; omega
  have e16 : (op == 16) = false := by simp; omega
  have e17 : (op == 17) = false := by simp; omega
  have e18 : (op == 18) = false := by simp; omega
  have e19 : (op == 19) = false := by simp; omega
  have e20 : (op == 20) = false := by simp; omega
  have e21 : (op == 21) = false := by simp; omega
  have e22 : (op == 22) = false := by simp; omega
  have e23 : (op == 23) = false := by simp; omega
  have e24 : (op == 24) = false := by simp; omega
  have e25 : (op == 25) = false := by simp; omega
  have e26 : (op == 26) = false := by simp; omega
  have e27 : (op == 27) = false := by simp; omega
  have e28 : (op == 28) = false := by simp; omega
  have e29 : (op == 29) = false := by simp; omega
  have e30 : (op == 30) = false := by simp; omega
  have e31 : (op == 31) = false := by simp; omega
  have e32 : (op == 32) = false := by simp; omega
  have e33 : (op == 33) = false := by simp; omega
  have e34 : (op == 34) = false := by simp; omega
  have e35 : (op == 35) = false := by simp; omega
  have f24op : decide (24 ≤ op) = true := decide_eq_true (by omega)
  have fop26 : decide (op ≤ 26) = false := decide_eq_false (by omega)
  have f10op : decide (10 ≤ op) = true := decide_eq_true (by omega)
  have fop23 : decide (op ≤ 23) = false := decide_eq_false (by omega)
  go_enter Tryz.func20, Tryz.ntmps20
  go_upto_region 1 with (fail)
  generalize ((w.alloc _).alloc _).alloc _ = w1 at *
  obtain ⟨⟨x0, x1, x2⟩, x3, x4, x5, x6⟩ := HX.out.pc
  go_wp2_with fail
  have HBD := Lib.hid ((Below.refl w1.heap.size w1).drew)
  have HTR : Hid (∀ A B, Below w1.heap.size w1 A → Below A.heap.size A B → Below w1.heap.size w1 B) := Lib.hid (fun A B h k => h.trans (k.mono h.size))
  go_region_held3 (fun W => (W.cell? ⟨w.heap.size + 1, 0, none⟩ = some (.int .i64 p.params) ∧ W.cell? ⟨w.heap.size + 1, 1, none⟩ = some (.int .i64 p.regs) ∧ W.cell? ⟨w.heap.size + 1, 2, none⟩ = some (.slice p.A p.code.length p.cap)) ∧ W.cell? ⟨w.heap.size + 2, 1, none⟩ = some (.int .i64 a) ∧ W.cell? ⟨w.heap.size + 2, 2, none⟩ = some (.int .i64 b) ∧ W.cell? ⟨w.heap.size + 2, 3, none⟩ = some (.int .i64 c))
    (first | assumption | (exact ⟨⟨x0, x1, x2⟩, x4, x5, x6⟩) | (exact ⟨⟨y0, y1, y2⟩, y4, y5, y6⟩) | go_keep | fail)
    (first
      | (go_at_call 33; with_reducible (refine (HR.out _ _).mono ?_); rintro e w2 ⟨rfl, hb2⟩; have HB2 := Lib.hid (HTR.out _ _ HBD.out hb2); obtain ⟨⟨y0, y1, y2⟩, y3, y4, y5, y6⟩ := (HX.out.below HB2.out).pc; obtain ⟨g0, g1, g2⟩ := (HX.out.below HB2.out).gc; clear hb2))
  go_wp2_with (first
    | (go_at_call 33; refine (HR.out _ _).mono ?_; rintro e w4 ⟨rfl, hb4⟩; have HB4 := Lib.hid (HTR.out _ _ HB3.out hb4); obtain ⟨⟨z0, z1, z2⟩, z3, z4, z5, z6⟩ := (HX.out.below HB4.out).pc; clear hb4)
    | (go_at_call 33; refine (HR.out _ _).mono ?_; rintro e w3 ⟨rfl, hb3⟩; have HB3 := Lib.hid (HTR.out _ _ HB2.out hb3); obtain ⟨⟨u0, u1, u2⟩, u3, u4, u5, u6⟩ := (HX.out.below HB3.out).pc; clear hb3)
    | (go_at_call 34; refine (HP.out _ _).mono ?_; rintro e w3 ⟨rfl, hb3⟩; have HB3 := Lib.hid (HTR.out _ _ HB2.out hb3); obtain ⟨⟨u0, u1, u2⟩, u3, u4, u5, u6⟩ := (HX.out.below HB3.out).pc; clear hb3))
  all_goals go_ret
  all_goals refine ⟨by first | (simp; done) | (simp [*]; done) | (simp [*] <;> omega) | (simp_all; done) | (simp_all <;> omega), ?_⟩
  all_goals first | exact HB.out.trans (HB4.out.mono HB.out.size) | exact HB.out.trans (HB3.out.mono HB.out.size) | exact HB.out.trans (HB2.out.mono HB.out.size)
end Go.Proofs.YtccofgdcpmplmaaGreatDoor
namespace Go.Proofs.YtccofgdcpmplmaaGreatDoor
open Go Go.RowKit Go.Shelf
set_option maxRecDepth 100000 in
set_option maxHeartbeats 16000000 in
theorem in_32 (g : Pg) (p : Pr) (a b c : Int) (w : World) (hg : g.at w) (hf : g.fit) (r0 : 0 ≤ p.regs) (r1 : p.regs ≤ 500) :
    Calls Tryz.prog 20 #[.agg g.vals, .agg p.vals, .agg (⟨32, a, b, c⟩ : Ins).vals] w fun e w' => e = .returned (.bool (rgB p a && (decide (0 ≤ b) && (decide (b < (g.ps.length : Int)) && ((c == 0) && decide ((g.ps.getD b.toNat ⟨0, 0, none, 0, []⟩).params ≤ p.regs - a)))))) ∧ Below w.heap.size w w' := by
  obtain ⟨h0, h1, h2, hb⟩ := three_boxes w g.vals p.vals (⟨32, a, b, c⟩ : Ins).vals 26 39 42
  have HB := Lib.hid hb
  have HX : Hid (IB g p ⟨32, a, b, c⟩ w.heap.size (((w.alloc (.cells g.vals 26)).alloc (.cells p.vals 39)).alloc (.cells (⟨32, a, b, c⟩ : Ins).vals 42))) := Lib.hid ⟨h0, h1, h2⟩
  have HR : Hid (∀ z W, Calls Tryz.prog 33 #[.agg #[.int .i64 p.params, .int .i64 p.regs, .slice p.A p.code.length p.cap], .int .i64 z] W fun e w' => e = .returned (.bool (rgB p z)) ∧ Below W.heap.size W w') := Lib.hid (fun z W => reg_any p z W)
  have HP : Hid (∀ z W, Calls Tryz.prog 34 #[.agg #[.int .i64 p.params, .int .i64 p.regs, .slice p.A p.code.length p.cap], .int .i64 z] W fun e w' => e = .returned (.bool (plB p z)) ∧ Below W.heap.size W w') := Lib.hid (fun z W => place_any p z W)
  clear h0 h1 h2 hb
  have HGA := Lib.hid (hg.below HB.out)
  clear hg
  have hra : ∀ t, rgB p a = t → ∀ W, Calls Tryz.prog 33 #[.agg #[.int .i64 p.params, .int .i64 p.regs, .slice p.A p.code.length p.cap], .int .i64 a] W fun e w' => e = .returned (.bool t) ∧ Below W.heap.size W w' := fun t ht W => by rw [← ht]; exact reg_any p a W
  cases q : rgB p a with
  | false =>
    simp only [Bool.false_and]
    clear HR
    have HR := Lib.hid (hra false q)
    clear hra q HGA
    go_enter Tryz.func20, Tryz.ntmps20
    go_upto_region 1 with (fail)
    generalize ((w.alloc _).alloc _).alloc _ = w1 at *
    obtain ⟨⟨x0, x1, x2⟩, x3, x4, x5, x6⟩ := HX.out.pc
    go_wp2_with fail
    have HBD := Lib.hid ((Below.refl w1.heap.size w1).drew)
    have HTR : Hid (∀ A B, Below w1.heap.size w1 A → Below A.heap.size A B → Below w1.heap.size w1 B) := Lib.hid (fun A B h k => h.trans (k.mono h.size))
    go_region_held3 (fun W => (W.cell? ⟨w.heap.size + 1, 0, none⟩ = some (.int .i64 p.params) ∧ W.cell? ⟨w.heap.size + 1, 1, none⟩ = some (.int .i64 p.regs) ∧ W.cell? ⟨w.heap.size + 1, 2, none⟩ = some (.slice p.A p.code.length p.cap)) ∧ W.cell? ⟨w.heap.size + 2, 1, none⟩ = some (.int .i64 a) ∧ W.cell? ⟨w.heap.size + 2, 2, none⟩ = some (.int .i64 b) ∧ W.cell? ⟨w.heap.size + 2, 3, none⟩ = some (.int .i64 c))
      (first | assumption | (exact ⟨⟨x0, x1, x2⟩, x4, x5, x6⟩) | (exact ⟨⟨y0, y1, y2⟩, y4, y5, y6⟩) | go_keep | fail)
      (first
        | (go_at_call 33; with_reducible (refine (HR.out _).mono ?_); rintro e w2 ⟨rfl, hb2⟩; have HB2 := Lib.hid (HTR.out _ _ HBD.out hb2); obtain ⟨⟨y0, y1, y2⟩, y3, y4, y5, y6⟩ := (HX.out.below HB2.out).pc; obtain ⟨g0, g1, g2⟩ := (HX.out.below HB2.out).gc; clear hb2))
    go_wp2_with fail
    go_quiet (fail)
    go_wp2_with fail
    all_goals go_ret
    all_goals refine ⟨by first | (simp; done) | (simp [*]; done) | (simp [*] <;> omega) | (simp_all; done) | (simp_all <;> omega), ?_⟩
    all_goals first | exact below_any _ (HB.out.trans (HB2.out.mono HB.out.size)) | exact HB.out.trans (HB5.out.mono HB.out.size) | exact HB.out.trans (HB4.out.mono HB.out.size) | exact HB.out.trans (HB3.out.mono HB.out.size) | exact HB.out.trans (HB2.out.mono HB.out.size)
  | true =>
    simp only [Bool.true_and]
    clear HR
    have HR := Lib.hid (hra true q)
    clear hra
    have q2 := q
    unfold rgB at q2
    simp only [Bool.and_eq_true, decide_eq_true_eq] at q2
    have hwa : IntKind.i64.wrap (p.regs - a) = p.regs - a := IntWalk.i64_in _ (by omega)
    clear q
    by_cases b0 : 0 ≤ b
    rotate_left
    · have d0 : decide (0 ≤ b) = false := decide_eq_false b0
      rw [d0]
      simp only [Bool.false_and]
      clear HGA
      go_enter Tryz.func20, Tryz.ntmps20
      go_upto_region 1 with (fail)
      generalize ((w.alloc _).alloc _).alloc _ = w1 at *
      obtain ⟨⟨x0, x1, x2⟩, x3, x4, x5, x6⟩ := HX.out.pc
      go_wp2_with fail
      have HBD := Lib.hid ((Below.refl w1.heap.size w1).drew)
      have HTR : Hid (∀ A B, Below w1.heap.size w1 A → Below A.heap.size A B → Below w1.heap.size w1 B) := Lib.hid (fun A B h k => h.trans (k.mono h.size))
      go_region_held3 (fun W => (W.cell? ⟨w.heap.size + 1, 0, none⟩ = some (.int .i64 p.params) ∧ W.cell? ⟨w.heap.size + 1, 1, none⟩ = some (.int .i64 p.regs) ∧ W.cell? ⟨w.heap.size + 1, 2, none⟩ = some (.slice p.A p.code.length p.cap)) ∧ W.cell? ⟨w.heap.size + 2, 1, none⟩ = some (.int .i64 a) ∧ W.cell? ⟨w.heap.size + 2, 2, none⟩ = some (.int .i64 b) ∧ W.cell? ⟨w.heap.size + 2, 3, none⟩ = some (.int .i64 c))
        (first | assumption | (exact ⟨⟨x0, x1, x2⟩, x4, x5, x6⟩) | (exact ⟨⟨y0, y1, y2⟩, y4, y5, y6⟩) | go_keep | fail)
        (first
          | (go_at_call 33; with_reducible (refine (HR.out _).mono ?_); rintro e w2 ⟨rfl, hb2⟩; have HB2 := Lib.hid (HTR.out _ _ HBD.out hb2); obtain ⟨⟨y0, y1, y2⟩, y3, y4, y5, y6⟩ := (HX.out.below HB2.out).pc; obtain ⟨g0, g1, g2⟩ := (HX.out.below HB2.out).gc; clear hb2))
      go_wp2_with fail
      go_quiet (fail)
      go_wp2_with fail
      all_goals go_ret
      all_goals refine ⟨by first | (simp; done) | (simp [*]; done) | (simp [*] <;> omega) | (simp_all; done) | (simp_all <;> omega), ?_⟩
      all_goals first | exact below_any _ (HB.out.trans (HB2.out.mono HB.out.size)) | exact HB.out.trans (HB5.out.mono HB.out.size) | exact HB.out.trans (HB4.out.mono HB.out.size) | exact HB.out.trans (HB3.out.mono HB.out.size) | exact HB.out.trans (HB2.out.mono HB.out.size)
    have d0 : decide (0 ≤ b) = true := decide_eq_true b0
    rw [d0]
    simp only [Bool.true_and]
    by_cases b1 : b < (g.ps.length : Int)
    rotate_left
    · have d1 : decide (b < (g.ps.length : Int)) = false := decide_eq_false b1
      rw [d1]
      simp only [Bool.false_and]
      clear HGA
      go_enter Tryz.func20, Tryz.ntmps20
      go_upto_region 1 with (fail)
      generalize ((w.alloc _).alloc _).alloc _ = w1 at *
      obtain ⟨⟨x0, x1, x2⟩, x3, x4, x5, x6⟩ := HX.out.pc
      go_wp2_with fail
      have HBD := Lib.hid ((Below.refl w1.heap.size w1).drew)
      have HTR : Hid (∀ A B, Below w1.heap.size w1 A → Below A.heap.size A B → Below w1.heap.size w1 B) := Lib.hid (fun A B h k => h.trans (k.mono h.size))
      go_region_held3 (fun W => (W.cell? ⟨w.heap.size + 1, 0, none⟩ = some (.int .i64 p.params) ∧ W.cell? ⟨w.heap.size + 1, 1, none⟩ = some (.int .i64 p.regs) ∧ W.cell? ⟨w.heap.size + 1, 2, none⟩ = some (.slice p.A p.code.length p.cap)) ∧ W.cell? ⟨w.heap.size + 2, 1, none⟩ = some (.int .i64 a) ∧ W.cell? ⟨w.heap.size + 2, 2, none⟩ = some (.int .i64 b) ∧ W.cell? ⟨w.heap.size + 2, 3, none⟩ = some (.int .i64 c))
        (first | assumption | (exact ⟨⟨x0, x1, x2⟩, x4, x5, x6⟩) | (exact ⟨⟨y0, y1, y2⟩, y4, y5, y6⟩) | go_keep | fail)
        (first
          | (go_at_call 33; with_reducible (refine (HR.out _).mono ?_); rintro e w2 ⟨rfl, hb2⟩; have HB2 := Lib.hid (HTR.out _ _ HBD.out hb2); obtain ⟨⟨y0, y1, y2⟩, y3, y4, y5, y6⟩ := (HX.out.below HB2.out).pc; obtain ⟨g0, g1, g2⟩ := (HX.out.below HB2.out).gc; clear hb2))
      go_wp2_with fail
      go_quiet (fail)
      go_wp2_with fail
      all_goals go_ret
      all_goals refine ⟨by first | (simp; done) | (simp [*]; done) | (simp [*] <;> omega) | (simp_all; done) | (simp_all <;> omega), ?_⟩
      all_goals first | exact below_any _ (HB.out.trans (HB2.out.mono HB.out.size)) | exact HB.out.trans (HB5.out.mono HB.out.size) | exact HB.out.trans (HB4.out.mono HB.out.size) | exact HB.out.trans (HB3.out.mono HB.out.size) | exact HB.out.trans (HB2.out.mono HB.out.size)
    have d1 : decide (b < (g.ps.length : Int)) = true := decide_eq_true b1
    rw [d1]
    simp only [Bool.true_and]
    by_cases c0 : c = 0
    rotate_left
    · have d2 : (c == 0) = false := by simp [c0]
      rw [d2]
      simp only [Bool.false_and]
      clear HGA
      go_enter Tryz.func20, Tryz.ntmps20
      go_upto_region 1 with (fail)
      generalize ((w.alloc _).alloc _).alloc _ = w1 at *
      obtain ⟨⟨x0, x1, x2⟩, x3, x4, x5, x6⟩ := HX.out.pc
      go_wp2_with fail
      have HBD := Lib.hid ((Below.refl w1.heap.size w1).drew)
      have HTR : Hid (∀ A B, Below w1.heap.size w1 A → Below A.heap.size A B → Below w1.heap.size w1 B) := Lib.hid (fun A B h k => h.trans (k.mono h.size))
      go_region_held3 (fun W => (W.cell? ⟨w.heap.size + 1, 0, none⟩ = some (.int .i64 p.params) ∧ W.cell? ⟨w.heap.size + 1, 1, none⟩ = some (.int .i64 p.regs) ∧ W.cell? ⟨w.heap.size + 1, 2, none⟩ = some (.slice p.A p.code.length p.cap)) ∧ W.cell? ⟨w.heap.size + 2, 1, none⟩ = some (.int .i64 a) ∧ W.cell? ⟨w.heap.size + 2, 2, none⟩ = some (.int .i64 b) ∧ W.cell? ⟨w.heap.size + 2, 3, none⟩ = some (.int .i64 c))
        (first | assumption | (exact ⟨⟨x0, x1, x2⟩, x4, x5, x6⟩) | (exact ⟨⟨y0, y1, y2⟩, y4, y5, y6⟩) | go_keep | fail)
        (first
          | (go_at_call 33; with_reducible (refine (HR.out _).mono ?_); rintro e w2 ⟨rfl, hb2⟩; have HB2 := Lib.hid (HTR.out _ _ HBD.out hb2); obtain ⟨⟨y0, y1, y2⟩, y3, y4, y5, y6⟩ := (HX.out.below HB2.out).pc; obtain ⟨g0, g1, g2⟩ := (HX.out.below HB2.out).gc; clear hb2))
      go_wp2_with fail
      go_quiet (fail)
      go_wp2_with fail
      all_goals go_ret
      all_goals refine ⟨by first | (simp; done) | (simp [*]; done) | (simp [*] <;> omega) | (simp_all; done) | (simp_all <;> omega), ?_⟩
      all_goals first | exact below_any _ (HB.out.trans (HB2.out.mono HB.out.size)) | exact HB.out.trans (HB5.out.mono HB.out.size) | exact HB.out.trans (HB4.out.mono HB.out.size) | exact HB.out.trans (HB3.out.mono HB.out.size) | exact HB.out.trans (HB2.out.mono HB.out.size)
    subst c0
    have d2 : ((0 : Int) == 0) = true := rfl
    rw [d2]
    simp only [Bool.true_and]
    obtain ⟨m, rfl⟩ : ∃ m : Nat, b = (m : Int) := ⟨b.toNat, by omega⟩
    have hm : m < g.ps.length := by omega
    have hgd : g.ps.getD (m : Int).toNat ⟨0, 0, none, 0, []⟩ = g.ps[m] := by simp [List.getD, hm]
    rw [hgd]
    obtain ⟨bt, ot, hA, hbt, ut, -, -⟩ := HGA.out.ps.at hm
    obtain ⟨s, hsx⟩ : ∃ s, g.ps[m].params = s := ⟨_, rfl⟩
    rw [hsx] at ut
    rw [hsx]
    have ht := hf.p
    have hw1 : IntKind.i64.wrap ((g.ps.length : Int) - 1) = (g.ps.length : Int) - 1 := IntWalk.i64_in _ (by omega)
    have hmin : min (m : Int) ((g.ps.length : Int) - 1) = (m : Int) := by omega
    have hmax : max (0 : Int) (m : Int) = (m : Int) := by omega
    clear hf hsx hgd
    go_enter Tryz.func20, Tryz.ntmps20
    go_upto_region 1 with (fail)
    generalize ((w.alloc _).alloc _).alloc _ = w1 at *
    obtain ⟨⟨x0, x1, x2⟩, x3, x4, x5, x6⟩ := HX.out.pc
    go_wp2_with fail
    have HBD := Lib.hid ((Below.refl w1.heap.size w1).drew)
    have HTR : Hid (∀ A B, Below w1.heap.size w1 A → Below A.heap.size A B → Below w1.heap.size w1 B) := Lib.hid (fun A B h k => h.trans (k.mono h.size))
    go_region_held3 (fun W => (W.cell? ⟨w.heap.size + 1, 0, none⟩ = some (.int .i64 p.params) ∧ W.cell? ⟨w.heap.size + 1, 1, none⟩ = some (.int .i64 p.regs) ∧ W.cell? ⟨w.heap.size + 1, 2, none⟩ = some (.slice p.A p.code.length p.cap)) ∧ W.cell? ⟨w.heap.size + 2, 1, none⟩ = some (.int .i64 a) ∧ W.cell? ⟨w.heap.size + 2, 2, none⟩ = some (.int .i64 (m : Int)) ∧ W.cell? ⟨w.heap.size + 2, 3, none⟩ = some (.int .i64 0))
      (first | assumption | (exact ⟨⟨x0, x1, x2⟩, x4, x5, x6⟩) | (exact ⟨⟨y0, y1, y2⟩, y4, y5, y6⟩) | go_keep | fail)
      (first
        | (go_at_call 33; with_reducible (refine (HR.out _).mono ?_); rintro e w2 ⟨rfl, hb2⟩; have HB2 := Lib.hid (HTR.out _ _ HBD.out hb2); obtain ⟨⟨y0, y1, y2⟩, y3, y4, y5, y6⟩ := (HX.out.below HB2.out).pc; obtain ⟨g0, g1, g2⟩ := (HX.out.below HB2.out).gc; clear hb2))
    have hub : ∀ W, Below w1.heap.size w1 W → W.cell? ⟨bt, ot + m * 3, none⟩ = some (.int .i64 s) := fun W hb => (hb.cell (p := ⟨bt, ot + m * 3, none⟩) hbt).trans ut
    have ut2 := hub _ HB2.out
    clear hub
    go_wp2_with fail
    go_quiet (fail)
    go_wp2_with fail
    all_goals go_ret
    all_goals refine ⟨by first | (simp; done) | (simp [*]; done) | (simp [*] <;> omega) | (simp_all; done) | (simp_all <;> omega), ?_⟩
    all_goals first | exact below_any _ (HB.out.trans (HB2.out.mono HB.out.size)) | exact HB.out.trans (HB5.out.mono HB.out.size) | exact HB.out.trans (HB4.out.mono HB.out.size) | exact HB.out.trans (HB3.out.mono HB.out.size) | exact HB.out.trans (HB2.out.mono HB.out.size)
end Go.Proofs.YtccofgdcpmplmaaGreatDoor
