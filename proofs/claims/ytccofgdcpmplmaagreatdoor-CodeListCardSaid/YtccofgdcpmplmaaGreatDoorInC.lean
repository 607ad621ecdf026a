/- An instruction, by definition: operations 12 to 17. -/
import Derived.Test.YtccofgdcpmplmaaGreatDoorInb
import Derived.IntWalk
namespace Go.Proofs.YtccofgdcpmplmaaGreatDoor
open Go Go.RowKit Go.Shelf
set_option maxRecDepth 100000 in
set_option maxHeartbeats 16000000 in
theorem in_18 (g : Pg) (p : Pr) (a b c : Int) (w : World) :
    Calls Tryz.prog 20 #[.agg g.vals, .agg p.vals, .agg (⟨18, a, b, c⟩ : Ins).vals] w fun e w' => e = .returned (.bool (rgB p a && (rgB p b && rgB p c))) ∧ Below w.heap.size w w' := by
  obtain ⟨h0, h1, h2, hb⟩ := three_boxes w g.vals p.vals (⟨18, a, b, c⟩ : Ins).vals 26 39 42
  have HB := Lib.hid hb
  have HX : Hid (IB g p ⟨18, a, b, c⟩ w.heap.size (((w.alloc (.cells g.vals 26)).alloc (.cells p.vals 39)).alloc (.cells (⟨18, a, b, c⟩ : Ins).vals 42))) := Lib.hid ⟨h0, h1, h2⟩
  have HR : Hid (∀ z W, Calls Tryz.prog 33 #[.agg #[.int .i64 p.params, .int .i64 p.regs, .slice p.A p.code.length p.cap], .int .i64 z] W fun e w' => e = .returned (.bool (rgB p z)) ∧ Below W.heap.size W w') := Lib.hid (fun z W => reg_any p z W)
  have HP : Hid (∀ z W, Calls Tryz.prog 34 #[.agg #[.int .i64 p.params, .int .i64 p.regs, .slice p.A p.code.length p.cap], .int .i64 z] W fun e w' => e = .returned (.bool (plB p z)) ∧ Below W.heap.size W w') := Lib.hid (fun z W => place_any p z W)
  clear h0 h1 h2 hb
  go_enter Tryz.func20, Tryz.ntmps20
  go_upto_region 1 with (fail)
  generalize ((w.alloc _).alloc _).alloc _ = w1 at *
  obtain ⟨⟨x0, x1, x2⟩, x3, x4, x5, x6⟩ := HX.out.pc
  go_wp2_with fail
  have HBD := Lib.hid ((Below.refl w1.heap.size w1).drew)
  have HTR : Hid (∀ A B, Below w1.heap.size w1 A → Below A.heap.size A B → Below w1.heap.size w1 B) := Lib.hid (fun A B h k => h.trans (k.mono h.size))
  go_region_held3 (fun W => (W.cell? ⟨w.heap.size + 1, 0, none⟩ = some (.int .i64 p.params) ∧ W.cell? ⟨w.heap.size + 1, 1, none⟩ = some (.int .i64 p.regs) ∧ W.cell? ⟨w.heap.size + 1, 2, none⟩ = some (.slice p.A p.code.length p.cap)) ∧ W.cell? ⟨w.heap.size + 2, 1, none⟩ = some (.int .i64 a) ∧ W.cell? ⟨w.heap.size + 2, 2, none⟩ = some (.int .i64 b) ∧ W.cell? ⟨w.heap.size + 2, 3, none⟩ = some (.int .i64 c))
    (first | assumption | (exact ⟨⟨x0, x1, x2⟩, x4, x5, x6⟩) | (exact ⟨⟨y0, y1, y2⟩, y4, y5, y6⟩) | go_keep | fail)
    (first
      | (go_at_call 33; with_reducible (refine (HR.out _ _).mono ?_); rintro e w2 ⟨rfl, hb2⟩; have HB2 := Lib.hid (HTR.out _ _ HBD.out hb2); obtain ⟨⟨y0, y1, y2⟩, y3, y4, y5, y6⟩ := (HX.out.below HB2.out).pc; obtain ⟨g0, g1, g2⟩ := (HX.out.below HB2.out).gc; clear hb2))
  go_wp2_with (first
    | (go_at_call 33; refine (HR.out _ _).mono ?_; rintro e w4 ⟨rfl, hb4⟩; have HB4 := Lib.hid (HTR.out _ _ HB3.out hb4); obtain ⟨⟨z0, z1, z2⟩, z3, z4, z5, z6⟩ := (HX.out.below HB4.out).pc; clear hb4)
    | (go_at_call 33; refine (HR.out _ _).mono ?_; rintro e w3 ⟨rfl, hb3⟩; have HB3 := Lib.hid (HTR.out _ _ HB2.out hb3); obtain ⟨⟨u0, u1, u2⟩, u3, u4, u5, u6⟩ := (HX.out.below HB3.out).pc; clear hb3)
    | (go_at_call 34; refine (HP.out _ _).mono ?_; rintro e w3 ⟨rfl, hb3⟩; have HB3 := Lib.hid (HTR.out _ _ HB2.out hb3); obtain ⟨⟨u0, u1, u2⟩, u3, u4, u5, u6⟩ := (HX.out.below HB3.out).pc; clear hb3))
  all_goals go_ret
  all_goals refine ⟨by first | (simp; done) | (simp [*]; done) | (simp [*] <;> omega) | (simp_all; done) | (simp_all <;> omega), ?_⟩
  all_goals first | exact HB.out.trans (HB4.out.mono HB.out.size) | exact HB.out.trans (HB3.out.mono HB.out.size) | exact HB.out.trans (HB2.out.mono HB.out.size)
set_option maxRecDepth 100000 in
set_option maxHeartbeats 16000000 in
theorem in_19 (g : Pg) (p : Pr) (a b c : Int) (w : World) :
    Calls Tryz.prog 20 #[.agg g.vals, .agg p.vals, .agg (⟨19, a, b, c⟩ : Ins).vals] w fun e w' => e = .returned (.bool (rgB p a && (rgB p b && rgB p c))) ∧ Below w.heap.size w w' := by
  obtain ⟨h0, h1, h2, hb⟩ := three_boxes w g.vals p.vals (⟨19, a, b, c⟩ : Ins).vals 26 39 42
  have HB := Lib.hid hb
  have HX : Hid (IB g p ⟨19, a, b, c⟩ w.heap.size (((w.alloc (.cells g.vals 26)).alloc (.cells p.vals 39)).alloc (.cells (⟨19, a, b, c⟩ : Ins).vals 42))) := Lib.hid ⟨h0, h1, h2⟩
  have HR : Hid (∀ z W, Calls Tryz.prog 33 #[.agg #[.int .i64 p.params, .int .i64 p.regs, .slice p.A p.code.length p.cap], .int .i64 z] W fun e w' => e = .returned (.bool (rgB p z)) ∧ Below W.heap.size W w') := Lib.hid (fun z W => reg_any p z W)
  have HP : Hid (∀ z W, Calls Tryz.prog 34 #[.agg #[.int .i64 p.params, .int .i64 p.regs, .slice p.A p.code.length p.cap], .int .i64 z] W fun e w' => e = .returned (.bool (plB p z)) ∧ Below W.heap.size W w') := Lib.hid (fun z W => place_any p z W)
  clear h0 h1 h2 hb
  go_enter Tryz.func20, Tryz.ntmps20
  go_upto_region 1 with (fail)
  generalize ((w.alloc _).alloc _).alloc _ = w1 at *
  obtain ⟨⟨x0, x1, x2⟩, x3, x4, x5, x6⟩ := HX.out.pc
  go_wp2_with fail
  have HBD := Lib.hid ((Below.refl w1.heap.size w1).drew)
  have HTR : Hid (∀ A B, Below w1.heap.size w1 A → Below A.heap.size A B → Below w1.heap.size w1 B) := Lib.hid (fun A B h k => h.trans (k.mono h.size))
  go_region_held3 (fun W => (W.cell? ⟨w.heap.size + 1, 0, none⟩ = some (.int .i64 p.params) ∧ W.cell? ⟨w.heap.size + 1, 1, none⟩ = some (.int .i64 p.regs) ∧ W.cell? ⟨w.heap.size + 1, 2, none⟩ = some (.slice p.A p.code.length p.cap)) ∧ W.cell? ⟨w.heap.size + 2, 1, none⟩ = some (.int .i64 a) ∧ W.cell? ⟨w.heap.size + 2, 2, none⟩ = some (.int .i64 b) ∧ W.cell? ⟨w.heap.size + 2, 3, none⟩ = some (.int .i64 c))
    (first | assumption | (exact ⟨⟨x0, x1, x2⟩, x4, x5, x6⟩) | (exact ⟨⟨y0, y1, y2⟩, y4, y5, y6⟩) | go_keep | fail)
    (first
      | (go_at_call 33; with_reducible (refine (HR.out _ _).mono ?_); rintro e w2 ⟨rfl, hb2⟩; have HB2 := Lib.hid (HTR.out _ _ HBD.out hb2); obtain ⟨⟨y0, y1, y2⟩, y3, y4, y5, y6⟩ := (HX.out.below HB2.out).pc; obtain ⟨g0, g1, g2⟩ := (HX.out.below HB2.out).gc; clear hb2))
  go_wp2_with (first
    | (go_at_call 33; refine (HR.out _ _).mono ?_; rintro e w4 ⟨rfl, hb4⟩; have HB4 := Lib.hid (HTR.out _ _ HB3.out hb4); obtain ⟨⟨z0, z1, z2⟩, z3, z4, z5, z6⟩ := (HX.out.below HB4.out).pc; clear hb4)
    | (go_at_call 33; refine (HR.out _ _).mono ?_; rintro e w3 ⟨rfl, hb3⟩; have HB3 := Lib.hid (HTR.out _ _ HB2.out hb3); obtain ⟨⟨u0, u1, u2⟩, u3, u4, u5, u6⟩ := (HX.out.below HB3.out).pc; clear hb3)
    | (go_at_call 34; refine (HP.out _ _).mono ?_; rintro e w3 ⟨rfl, hb3⟩; have HB3 := Lib.hid (HTR.out _ _ HB2.out hb3); obtain ⟨⟨u0, u1, u2⟩, u3, u4, u5, u6⟩ := (HX.out.below HB3.out).pc; clear hb3))
  all_goals go_ret
  all_goals refine ⟨by first | (simp; done) | (simp [*]; done) | (simp [*] <;> omega) | (simp_all; done) | (simp_all <;> omega), ?_⟩
  all_goals first | exact HB.out.trans (HB4.out.mono HB.out.size) | exact HB.out.trans (HB3.out.mono HB.out.size) | exact HB.out.trans (HB2.out.mono HB.out.size)
set_option maxRecDepth 100000 in
set_option maxHeartbeats 16000000 in
theorem in_20 (g : Pg) (p : Pr) (a b c : Int) (w : World) :
    Calls Tryz.prog 20 #[.agg g.vals, .agg p.vals, .agg (⟨20, a, b, c⟩ : Ins).vals] w fun e w' => e = .returned (.bool (rgB p a && (rgB p b && rgB p c))) ∧ Below w.heap.size w w' := by
  obtain ⟨h0, h1, h2, hb⟩ := three_boxes w g.vals p.vals (⟨20, a, b, c⟩ : Ins).vals 26 39 42
  have HB := Lib.hid hb
  have HX : Hid (IB g p ⟨20, a, b, c⟩ w.heap.size (((w.alloc (.cells g.vals 26)).alloc (.cells p.vals 39)).alloc (.cells (⟨20, a, b, c⟩ : Ins).vals 42))) := Lib.hid ⟨h0, h1, h2⟩
  have HR : Hid (∀ z W, Calls Tryz.prog 33 #[.agg #[.int .i64 p.params, .int .i64 p.regs, .slice p.A p.code.length p.cap], .int .i64 z] W fun e w' => e = .returned (.bool (rgB p z)) ∧ Below W.heap.size W w') := Lib.hid (fun z W => reg_any p z W)
  have HP : Hid (∀ z W, Calls Tryz.prog 34 #[.agg #[.int .i64 p.params, .int .i64 p.regs, .slice p.A p.code.length p.cap], .int .i64 z] W fun e w' => e = .returned (.bool (plB p z)) ∧ Below W.heap.size W w') := Lib.hid (fun z W => place_any p z W)
  clear h0 h1 h2 hb
  go_enter Tryz.func20, Tryz.ntmps20
  go_upto_region 1 with (fail)
  generalize ((w.alloc _).alloc _).alloc _ = w1 at *
  obtain ⟨⟨x0, x1, x2⟩, x3, x4, x5, x6⟩ := HX.out.pc
  go_wp2_with fail
  have HBD := Lib.hid ((Below.refl w1.heap.size w1).drew)
  have HTR : Hid (∀ A B, Below w1.heap.size w1 A → Below A.heap.size A B → Below w1.heap.size w1 B) := Lib.hid (fun A B h k => h.trans (k.mono h.size))
  go_region_held3 (fun W => (W.cell? ⟨w.heap.size + 1, 0, none⟩ = some (.int .i64 p.params) ∧ W.cell? ⟨w.heap.size + 1, 1, none⟩ = some (.int .i64 p.regs) ∧ W.cell? ⟨w.heap.size + 1, 2, none⟩ = some (.slice p.A p.code.length p.cap)) ∧ W.cell? ⟨w.heap.size + 2, 1, none⟩ = some (.int .i64 a) ∧ W.cell? ⟨w.heap.size + 2, 2, none⟩ = some (.int .i64 b) ∧ W.cell? ⟨w.heap.size + 2, 3, none⟩ = some (.int .i64 c))
    (first | assumption | (exact ⟨⟨x0, x1, x2⟩, x4, x5, x6⟩) | (exact ⟨⟨y0, y1, y2⟩, y4, y5, y6⟩) | go_keep | fail)
    (first
      | (go_at_call 33; with_reducible (refine (HR.out _ _).mono ?_); rintro e w2 ⟨rfl, hb2⟩; have HB2 := Lib.hid (HTR.out _ _ HBD.out hb2); obtain ⟨⟨y0, y1, y2⟩, y3, y4, y5, y6⟩ := (HX.out.below HB2.out).pc; obtain ⟨g0, g1, g2⟩ := (HX.out.below HB2.out).gc; clear hb2))
  go_wp2_with (first
    | (go_at_call 33; refine (HR.out _ _).mono ?_; rintro e w4 ⟨rfl, hb4⟩; have HB4 := Lib.hid (HTR.out _ _ HB3.out hb4); obtain ⟨⟨z0, z1, z2⟩, z3, z4, z5, z6⟩ := (HX.out.below HB4.out).pc; clear hb4)
    | (go_at_call 33; refine (HR.out _ _).mono ?_; rintro e w3 ⟨rfl, hb3⟩; have HB3 := Lib.hid (HTR.out _ _ HB2.out hb3); obtain ⟨⟨u0, u1, u2⟩, u3, u4, u5, u6⟩ := (HX.out.below HB3.out).pc; clear hb3)
    | (go_at_call 34; refine (HP.out _ _).mono ?_; rintro e w3 ⟨rfl, hb3⟩; have HB3 := Lib.hid (HTR.out _ _ HB2.out hb3); obtain ⟨⟨u0, u1, u2⟩, u3, u4, u5, u6⟩ := (HX.out.below HB3.out).pc; clear hb3))
  all_goals go_ret
  all_goals refine ⟨by first | (simp; done) | (simp [*]; done) | (simp [*] <;> omega) | (simp_all; done) | (simp_all <;> omega), ?_⟩
  all_goals first | exact HB.out.trans (HB4.out.mono HB.out.size) | exact HB.out.trans (HB3.out.mono HB.out.size) | exact HB.out.trans (HB2.out.mono HB.out.size)
set_option maxRecDepth 100000 in
set_option maxHeartbeats 16000000 in
theorem in_21 (g : Pg) (p : Pr) (a b c : Int) (w : World) :
    Calls Tryz.prog 20 #[.agg g.vals, .agg p.vals, .agg (⟨21, a, b, c⟩ : Ins).vals] w fun e w' => e = .returned (.bool (rgB p a && (rgB p b && rgB p c))) ∧ Below w.heap.size w w' := by
  obtain ⟨h0, h1, h2, hb⟩ := three_boxes w g.vals p.vals (⟨21, a, b, c⟩ : Ins).vals 26 39 42
  have HB := Lib.hid hb
  have HX : Hid (IB g p ⟨21, a, b, c⟩ w.heap.size (((w.alloc (.cells g.vals 26)).alloc (.cells p.vals 39)).alloc (.cells (⟨21, a, b, c⟩ : Ins).vals 42))) := Lib.hid ⟨h0, h1, h2⟩
  have HR : Hid (∀ z W, Calls Tryz.prog 33 #[.agg #[.int .i64 p.params, .int .i64 p.regs, .slice p.A p.code.length p.cap], .int .i64 z] W fun e w' => e = .returned (.bool (rgB p z)) ∧ Below W.heap.size W w') := Lib.hid (fun z W => reg_any p z W)
  have HP : Hid (∀ z W, Calls Tryz.prog 34 #[.agg #[.int .i64 p.params, .int .i64 p.regs, .slice p.A p.code.length p.cap], .int .i64 z] W fun e w' => e = .returned (.bool (plB p z)) ∧ Below W.heap.size W w') := Lib.hid (fun z W => place_any p z W)
  clear h0 h1 h2 hb
  go_enter Tryz.func20, Tryz.ntmps20
  go_upto_region 1 with (fail)
  generalize ((w.alloc _).alloc _).alloc _ = w1 at *
  obtain ⟨⟨x0, x1, x2⟩, x3, x4, x5, x6⟩ := HX.out.pc
  go_wp2_with fail
  have HBD := Lib.hid ((Below.refl w1.heap.size w1).drew)
  have HTR : Hid (∀ A B, Below w1.heap.size w1 A → Below A.heap.size A B → Below w1.heap.size w1 B) := Lib.hid (fun A B h k => h.trans (k.mono h.size))
  go_region_held3 (fun W => (W.cell? ⟨w.heap.size + 1, 0, none⟩ = some (.int .i64 p.params) ∧ W.cell? ⟨w.heap.size + 1, 1, none⟩ = some (.int .i64 p.regs) ∧ W.cell? ⟨w.heap.size + 1, 2, none⟩ = some (.slice p.A p.code.length p.cap)) ∧ W.cell? ⟨w.heap.size + 2, 1, none⟩ = some (.int .i64 a) ∧ W.cell? ⟨w.heap.size + 2, 2, none⟩ = some (.int .i64 b) ∧ W.cell? ⟨w.heap.size + 2, 3, none⟩ = some (.int .i64 c))
    (first | assumption | (exact ⟨⟨x0, x1, x2⟩, x4, x5, x6⟩) | (exact ⟨⟨y0, y1, y2⟩, y4, y5, y6⟩) | go_keep | fail)
    (first
      | (go_at_call 33; with_reducible (refine (HR.out _ _).mono ?_); rintro e w2 ⟨rfl, hb2⟩; have HB2 := Lib.hid (HTR.out _ _ HBD.out hb2); obtain ⟨⟨y0, y1, y2⟩, y3, y4, y5, y6⟩ := (HX.out.below HB2.out).pc; obtain ⟨g0, g1, g2⟩ := (HX.out.below HB2.out).gc; clear hb2))
  go_wp2_with (first
    | (go_at_call 33; refine (HR.out _ _).mono ?_; rintro e w4 ⟨rfl, hb4⟩; have HB4 := Lib.hid (HTR.out _ _ HB3.out hb4); obtain ⟨⟨z0, z1, z2⟩, z3, z4, z5, z6⟩ := (HX.out.below HB4.out).pc; clear hb4)
    | (go_at_call 33; refine (HR.out _ _).mono ?_; rintro e w3 ⟨rfl, hb3⟩; have HB3 := Lib.hid (HTR.out _ _ HB2.out hb3); obtain ⟨⟨u0, u1, u2⟩, u3, u4, u5, u6⟩ := (HX.out.below HB3.out).pc; clear hb3)
    | (go_at_call 34; refine (HP.out _ _).mono ?_; rintro e w3 ⟨rfl, hb3⟩; have HB3 := Lib.hid (HTR.out _ _ HB2.out hb3); obtain ⟨⟨u0, u1, u2⟩, u3, u4, u5, u6⟩ := (HX.out.below HB3.out).pc; clear hb3))
  all_goals go_ret
  all_goals refine ⟨by first | (simp; done) | (simp [*]; done) | (simp [*] <;> omega) | (simp_all; done) | (simp_all <;> omega), ?_⟩
  all_goals first | exact HB.out.trans (HB4.out.mono HB.out.size) | exact HB.out.trans (HB3.out.mono HB.out.size) | exact HB.out.trans (HB2.out.mono HB.out.size)
set_option maxRecDepth 100000 in
set_option maxHeartbeats 16000000 in
theorem in_22 (g : Pg) (p : Pr) (a b c : Int) (w : World) :
    Calls Tryz.prog 20 #[.agg g.vals, .agg p.vals, .agg (⟨22, a, b, c⟩ : Ins).vals] w fun e w' => e = .returned (.bool (rgB p a && (rgB p b && rgB p c))) ∧ Below w.heap.size w w' := by
  obtain ⟨h0, h1, h2, hb⟩ := three_boxes w g.vals p.vals (⟨22, a, b, c⟩ : Ins).vals 26 39 42
  have HB := Lib.hid hb
  have HX : Hid (IB g p ⟨22, a, b, c⟩ w.heap.size (((w.alloc (.cells g.vals 26)).alloc (.cells p.vals 39)).alloc (.cells (⟨22, a, b, c⟩ : Ins).vals 42))) := Lib.hid ⟨h0, h1, h2⟩
  have HR : Hid (∀ z W, Calls Tryz.prog 33 #[.agg #[.int .i64 p.params, .int .i64 p.regs, .slice p.A p.code.length p.cap], .int .i64 z] W fun e w' => e = .returned (.bool (rgB p z)) ∧ Below W.heap.size W w') := Lib.hid (fun z W => reg_any p z W)
  have HP : Hid (∀ z W, Calls Tryz.prog 34 #[.agg #[.int .i64 p.params, .int .i64 p.regs, .slice p.A p.code.length p.cap], .int .i64 z] W fun e w' => e = .returned (.bool (plB p z)) ∧ Below W.heap.size W w') := Lib.hid (fun z W => place_any p z W)
  clear h0 h1 h2 hb
  go_enter Tryz.func20, Tryz.ntmps20
  go_upto_region 1 with (fail)
  generalize ((w.alloc _).alloc _).alloc _ = w1 at *
  obtain ⟨⟨x0, x1, x2⟩, x3, x4, x5, x6⟩ := HX.out.pc
  go_wp2_with fail
  have HBD := Lib.hid ((Below.refl w1.heap.size w1).drew)
  have HTR : Hid (∀ A B, Below w1.heap.size w1 A → Below A.heap.size A B → Below w1.heap.size w1 B) := Lib.hid (fun A B h k => h.trans (k.mono h.size))
  go_region_held3 (fun W => (W.cell? ⟨w.heap.size + 1, 0, none⟩ = some (.int .i64 p.params) ∧ W.cell? ⟨w.heap.size + 1, 1, none⟩ = some (.int .i64 p.regs) ∧ W.cell? ⟨w.heap.size + 1, 2, none⟩ = some (.slice p.A p.code.length p.cap)) ∧ W.cell? ⟨w.heap.size + 2, 1, none⟩ = some (.int .i64 a) ∧ W.cell? ⟨w.heap.size + 2, 2, none⟩ = some (.int .i64 b) ∧ W.cell? ⟨w.heap.size + 2, 3, none⟩ = some (.int .i64 c))
    (first | assumption | (exact ⟨⟨x0, x1, x2⟩, x4, x5, x6⟩) | (exact ⟨⟨y0, y1, y2⟩, y4, y5, y6⟩) | go_keep | fail)
    (first
      | (go_at_call 33; with_reducible (refine (HR.out _ _).mono ?_); rintro e w2 ⟨rfl, hb2⟩; have HB2 := Lib.hid (HTR.out _ _ HBD.out hb2); obtain ⟨⟨y0, y1, y2⟩, y3, y4, y5, y6⟩ := (HX.out.below HB2.out).pc; obtain ⟨g0, g1, g2⟩ := (HX.out.below HB2.out).gc; clear hb2))
  go_wp2_with (first
    | (go_at_call 33; refine (HR.out _ _).mono ?_; rintro e w4 ⟨rfl, hb4⟩; have HB4 := Lib.hid (HTR.out _ _ HB3.out hb4); obtain ⟨⟨z0, z1, z2⟩, z3, z4, z5, z6⟩ := (HX.out.below HB4.out).pc; clear hb4)
    | (go_at_call 33; refine (HR.out _ _).mono ?_; rintro e w3 ⟨rfl, hb3⟩; have HB3 := Lib.hid (HTR.out _ _ HB2.out hb3); obtain ⟨⟨u0, u1, u2⟩, u3, u4, u5, u6⟩ := (HX.out.below HB3.out).pc; clear hb3)
    | (go_at_call 34; refine (HP.out _ _).mono ?_; rintro e w3 ⟨rfl, hb3⟩; have HB3 := Lib.hid (HTR.out _ _ HB2.out hb3); obtain ⟨⟨u0, u1, u2⟩, u3, u4, u5, u6⟩ := (HX.out.below HB3.out).pc; clear hb3))
  all_goals go_ret
  all_goals refine ⟨by first | (simp; done) | (simp [*]; done) | (simp [*] <;> omega) | (simp_all; done) | (simp_all <;> omega), ?_⟩
  all_goals first | exact HB.out.trans (HB4.out.mono HB.out.size) | exact HB.out.trans (HB3.out.mono HB.out.size) | exact HB.out.trans (HB2.out.mono HB.out.size)
set_option maxRecDepth 100000 in
set_option maxHeartbeats 16000000 in
theorem in_23 (g : Pg) (p : Pr) (a b c : Int) (w : World) :
    Calls Tryz.prog 20 #[.agg g.vals, .agg p.vals, .agg (⟨23, a, b, c⟩ : Ins).vals] w fun e w' => e = .returned (.bool (rgB p a && (rgB p b && rgB p c))) ∧ Below w.heap.size w w' := by
  obtain ⟨h0, h1, h2, hb⟩ := three_boxes w g.vals p.vals (⟨23, a, b, c⟩ : Ins).vals 26 39 42
  have HB := Lib.hid hb
  have HX : Hid (IB g p ⟨23, a, b, c⟩ w.heap.size (((w.alloc (.cells g.vals 26)).alloc (.cells p.vals 39)).alloc (.cells (⟨23, a, b, c⟩ : Ins).vals 42))) := Lib.hid ⟨h0, h1, h2⟩
  have HR : Hid (∀ z W, Calls Tryz.prog 33 #[.agg #[.int .i64 p.params, .int .i64 p.regs, .slice p.A p.code.length p.cap], .int .i64 z] W fun e w' => e = .returned (.bool (rgB p z)) ∧ Below W.heap.size W w') := Lib.hid (fun z W => reg_any p z W)
  have HP : Hid (∀ z W, Calls Tryz.prog 34 #[.agg #[.int .i64 p.params, .int .i64 p.regs, .slice p.A p.code.length p.cap], .int .i64 z] W fun e w' => e = .returned (.bool (plB p z)) ∧ Below W.heap.size W w') := Lib.hid (fun z W => place_any p z W)
  clear h0 h1 h2 hb
  go_enter Tryz.func20, Tryz.ntmps20
  go_upto_region 1 with (fail)
  generalize ((w.alloc _).alloc _).alloc _ = w1 at *
  obtain ⟨⟨x0, x1, x2⟩, x3, x4, x5, x6⟩ := HX.out.pc
  go_wp2_with fail
  have HBD := Lib.hid ((Below.refl w1.heap.size w1).drew)
  have HTR : Hid (∀ A B, Below w1.heap.size w1 A → Below A.heap.size A B → Below w1.heap.size w1 B) := Lib.hid (fun A B h k => h.trans (k.mono h.size))
  go_region_held3 (fun W => (W.cell? ⟨w.heap.size + 1, 0, none⟩ = some (.int .i64 p.params) ∧ W.cell? ⟨w.heap.size + 1, 1, none⟩ = some (.int .i64 p.regs) ∧ W.cell? ⟨w.heap.size + 1, 2, none⟩ = some (.slice p.A p.code.length p.cap)) ∧ W.cell? ⟨w.heap.size + 2, 1, none⟩ = some (.int .i64 a) ∧ W.cell? ⟨w.heap.size + 2, 2, none⟩ = some (.int .i64 b) ∧ W.cell? ⟨w.heap.size + 2, 3, none⟩ = some (.int .i64 c))
    (first | assumption | (exact ⟨⟨x0, x1, x2⟩, x4, x5, x6⟩) | (exact ⟨⟨y0, y1, y2⟩, y4, y5, y6⟩) | go_keep | fail)
    (first
      | (go_at_call 33; with_reducible (refine (HR.out _ _).mono ?_); rintro e w2 ⟨rfl, hb2⟩; have HB2 := Lib.hid (HTR.out _ _ HBD.out hb2); obtain ⟨⟨y0, y1, y2⟩, y3, y4, y5, y6⟩ := (HX.out.below HB2.out).pc; obtain ⟨g0, g1, g2⟩ := (HX.out.below HB2.out).gc; clear hb2))
  go_wp2_with (first
    | (go_at_call 33; refine (HR.out _ _).mono ?_; rintro e w4 ⟨rfl, hb4⟩; have HB4 := Lib.hid (HTR.out _ _ HB3.out hb4); obtain ⟨⟨z0, z1, z2⟩, z3, z4, z5, z6⟩ := (HX.out.below HB4.out).pc; clear hb4)
    | (go_at_call 33; refine (HR.out _ _).mono ?_; rintro e w3 ⟨rfl, hb3⟩; have HB3 := Lib.hid (HTR.out _ _ HB2.out hb3); obtain ⟨⟨u0, u1, u2⟩, u3, u4, u5, u6⟩ := (HX.out.below HB3.out).pc; clear hb3)
    | (go_at_call 34; refine (HP.out _ _).mono ?_; rintro e w3 ⟨rfl, hb3⟩; have HB3 := Lib.hid (HTR.out _ _ HB2.out hb3); obtain ⟨⟨u0, u1, u2⟩, u3, u4, u5, u6⟩ := (HX.out.below HB3.out).pc; clear hb3))
  all_goals go_ret
  all_goals refine ⟨by first | (simp; done) | (simp [*]; done) | (simp [*] <;> omega) | (simp_all; done) | (simp_all <;> omega), ?_⟩
  all_goals first | exact HB.out.trans (HB4.out.mono HB.out.size) | exact HB.out.trans (HB3.out.mono HB.out.size) | exact HB.out.trans (HB2.out.mono HB.out.size)
end Go.Proofs.YtccofgdcpmplmaaGreatDoor
namespace Go.Proofs.YtccofgdcpmplmaaGreatDoor
open Go Go.RowKit Go.Shelf
set_option maxRecDepth 100000 in
set_option maxHeartbeats 16000000 in
theorem in_12 (g : Pg) (p : Pr) (a b c : Int) (w : World) :
    Calls Tryz.prog 20 #[.agg g.vals, .agg p.vals, .agg (⟨12, a, b, c⟩ : Ins).vals] w fun e w' => e = .returned (.bool (rgB p a && (rgB p b && rgB p c))) ∧ Below w.heap.size w w' := by
  obtain ⟨h0, h1, h2, hb⟩ := three_boxes w g.vals p.vals (⟨12, a, b, c⟩ : Ins).vals 26 39 42
  have HB := Lib.hid hb
  have HX : Hid (IB g p ⟨12, a, b, c⟩ w.heap.size (((w.alloc (.cells g.vals 26)).alloc (.cells p.vals 39)).alloc (.cells (⟨12, a, b, c⟩ : Ins).vals 42))) := Lib.hid ⟨h0, h1, h2⟩
  have HR : Hid (∀ z W, Calls Tryz.prog 33 #[.agg #[.int .i64 p.params, .int .i64 p.regs, .slice p.A p.code.length p.cap], .int .i64 z] W fun e w' => e = .returned (.bool (rgB p z)) ∧ Below W.heap.size W w') := Lib.hid (fun z W => reg_any p z W)
  have HP : Hid (∀ z W, Calls Tryz.prog 34 #[.agg #[.int .i64 p.params, .int .i64 p.regs, .slice p.A p.code.length p.cap], .int .i64 z] W fun e w' => e = .returned (.bool (plB p z)) ∧ Below W.heap.size W w') := Lib.hid (fun z W => place_any p z W)
  clear h0 h1 h2 hb
  go_enter Tryz.func20, Tryz.ntmps20
  go_upto_region 1 with (fail)
  generalize ((w.alloc _).alloc _).alloc _ = w1 at *
  obtain ⟨⟨x0, x1, x2⟩, x3, x4, x5, x6⟩ := HX.out.pc
  go_wp2_with fail
  have HBD := Lib.hid ((Below.refl w1.heap.size w1).drew)
  have HTR : Hid (∀ A B, Below w1.heap.size w1 A → Below A.heap.size A B → Below w1.heap.size w1 B) := Lib.hid (fun A B h k => h.trans (k.mono h.size))
  go_region_held3 (fun W => (W.cell? ⟨w.heap.size + 1, 0, none⟩ = some (.int .i64 p.params) ∧ W.cell? ⟨w.heap.size + 1, 1, none⟩ = some (.int .i64 p.regs) ∧ W.cell? ⟨w.heap.size + 1, 2, none⟩ = some (.slice p.A p.code.length p.cap)) ∧ W.cell? ⟨w.heap.size + 2, 1, none⟩ = some (.int .i64 a) ∧ W.cell? ⟨w.heap.size + 2, 2, none⟩ = some (.int .i64 b) ∧ W.cell? ⟨w.heap.size + 2, 3, none⟩ = some (.int .i64 c))
    (first | assumption | (exact ⟨⟨x0, x1, x2⟩, x4, x5, x6⟩) | (exact ⟨⟨y0, y1, y2⟩, y4, y5, y6⟩) | go_keep | fail)
    (first
      | (go_at_call 33; with_reducible (refine (HR.out _ _).mono ?_); rintro e w2 ⟨rfl, hb2⟩; have HB2 := Lib.hid (HTR.out _ _ HBD.out hb2); obtain ⟨⟨y0, y1, y2⟩, y3, y4, y5, y6⟩ := (HX.out.below HB2.out).pc; obtain ⟨g0, g1, g2⟩ := (HX.out.below HB2.out).gc; clear hb2))
  go_wp2_with (first
    | (go_at_call 33; refine (HR.out _ _).mono ?_; rintro e w4 ⟨rfl, hb4⟩; have HB4 := Lib.hid (HTR.out _ _ HB3.out hb4); obtain ⟨⟨z0, z1, z2⟩, z3, z4, z5, z6⟩ := (HX.out.below HB4.out).pc; clear hb4)
    | (go_at_call 33; refine (HR.out _ _).mono ?_; rintro e w3 ⟨rfl, hb3⟩; have HB3 := Lib.hid (HTR.out _ _ HB2.out hb3); obtain ⟨⟨u0, u1, u2⟩, u3, u4, u5, u6⟩ := (HX.out.below HB3.out).pc; clear hb3)
    | (go_at_call 34; refine (HP.out _ _).mono ?_; rintro e w3 ⟨rfl, hb3⟩; have HB3 := Lib.hid (HTR.out _ _ HB2.out hb3); obtain ⟨⟨u0, u1, u2⟩, u3, u4, u5, u6⟩ := (HX.out.below HB3.out).pc; clear hb3))
  all_goals go_ret
  all_goals refine ⟨by first | (simp; done) | (simp [*]; done) | (simp [*] <;> omega) | (simp_all; done) | (simp_all <;> omega), ?_⟩
  all_goals first | exact HB.out.trans (HB4.out.mono HB.out.size) | exact HB.out.trans (HB3.out.mono HB.out.size) | exact HB.out.trans (HB2.out.mono HB.out.size)
set_option maxRecDepth 100000 in
set_option maxHeartbeats 16000000 in
theorem in_13 (g : Pg) (p : Pr) (a b c : Int) (w : World) :
    Calls Tryz.prog 20 #[.agg g.vals, .agg p.vals, .agg (⟨13, a, b, c⟩ : Ins).vals] w fun e w' => e = .returned (.bool (rgB p a && (rgB p b && rgB p c))) ∧ Below w.heap.size w w' := by
  obtain ⟨h0, h1, h2, hb⟩ := three_boxes w g.vals p.vals (⟨13, a, b, c⟩ : Ins).vals 26 39 42
  have HB := Lib.hid hb
  have HX : Hid (IB g p ⟨13, a, b, c⟩ w.heap.size (((w.alloc (.cells g.vals 26)).alloc (.cells p.vals 39)).alloc (.cells (⟨13, a, b, c⟩ : Ins).vals 42))) := Lib.hid ⟨h0, h1, h2⟩
  have HR : Hid (∀ z W, Calls Tryz.prog 33 #[.agg #[.int .i64 p.params, .int .i64 p.regs, .slice p.A p.code.length p.cap], .int .i64 z] W fun e w' => e = .returned (.bool (rgB p z)) ∧ Below W.heap.size W w') := Lib.hid (fun z W => reg_any p z W)
  have HP : Hid (∀ z W, Calls Tryz.prog 34 #[.agg #[.int .i64 p.params, .int .i64 p.regs, .slice p.A p.code.length p.cap], .int .i64 z] W fun e w' => e = .returned (.bool (plB p z)) ∧ Below W.heap.size W w') := Lib.hid (fun z W => place_any p z W)
  clear h0 h1 h2 hb
  go_enter Tryz.func20, Tryz.ntmps20
  go_upto_region 1 with (fail)
  generalize ((w.alloc _).alloc _).alloc _ = w1 at *
  obtain ⟨⟨x0, x1, x2⟩, x3, x4, x5, x6⟩ := HX.out.pc
  go_wp2_with fail
  have HBD := Lib.hid ((Below.refl w1.heap.size w1).drew)
  have HTR : Hid (∀ A B, Below w1.heap.size w1 A → Below A.heap.size A B → Below w1.heap.size w1 B) := Lib.hid (fun A B h k => h.trans (k.mono h.size))
  go_region_held3 (fun W => (W.cell? ⟨w.heap.size + 1, 0, none⟩ = some (.int .i64 p.params) ∧ W.cell? ⟨w.heap.size + 1, 1, none⟩ = some (.int .i64 p.regs) ∧ W.cell? ⟨w.heap.size + 1, 2, none⟩ = some (.slice p.A p.code.length p.cap)) ∧ W.cell? ⟨w.heap.size + 2, 1, none⟩ = some (.int .i64 a) ∧ W.cell? ⟨w.heap.size + 2, 2, none⟩ = some (.int .i64 b) ∧ W.cell? ⟨w.heap.size + 2, 3, none⟩ = some (.int .i64 c))
    (first | assumption | (exact ⟨⟨x0, x1, x2⟩, x4, x5, x6⟩) | (exact ⟨⟨y0, y1, y2⟩, y4, y5, y6⟩) | go_keep | fail)
    (first
      | (go_at_call 33; with_reducible (refine (HR.out _ _).mono ?_); rintro e w2 ⟨rfl, hb2⟩; have HB2 := Lib.hid (HTR.out _ _ HBD.out hb2); obtain ⟨⟨y0, y1, y2⟩, y3, y4, y5, y6⟩ := (HX.out.below HB2.out).pc; obtain ⟨g0, g1, g2⟩ := (HX.out.below HB2.out).gc; clear hb2))
  go_wp2_with (first
    | (go_at_call 33; refine (HR.out _ _).mono ?_; rintro e w4 ⟨rfl, hb4⟩; have HB4 := Lib.hid (HTR.out _ _ HB3.out hb4); obtain ⟨⟨z0, z1, z2⟩, z3, z4, z5, z6⟩ := (HX.out.below HB4.out).pc; clear hb4)
    | (go_at_call 33; refine (HR.out _ _).mono ?_; rintro e w3 ⟨rfl, hb3⟩; have HB3 := Lib.hid (HTR.out _ _ HB2.out hb3); obtain ⟨⟨u0, u1, u2⟩, u3, u4, u5, u6⟩ := (HX.out.below HB3.out).pc; clear hb3)
    | (go_at_call 34; refine (HP.out _ _).mono ?_; rintro e w3 ⟨rfl, hb3⟩; have HB3 := Lib.hid (HTR.out _ _ HB2.out hb3); obtain ⟨⟨u0, u1, u2⟩, u3, u4, u5, u6⟩ := (HX.out.below HB3.out).pc; clear hb3))
  all_goals go_ret
  all_goals refine ⟨by first | (simp; done) | (simp [*]; done) | (simp [*] <;> omega) | (simp_all; done) | (simp_all <;> omega), ?_⟩
  all_goals first | exact HB.out.trans (HB4.out.mono HB.out.size) | exact HB.out.trans (HB3.out.mono HB.out.size) | exact HB.out.trans (HB2.out.mono HB.out.size)
set_option maxRecDepth 100000 in
set_option maxHeartbeats 16000000 in
theorem in_14 (g : Pg) (p : Pr) (a b c : Int) (w : World) :
    Calls Tryz.prog 20 #[.agg g.vals, .agg p.vals, .agg (⟨14, a, b, c⟩ : Ins).vals] w fun e w' => e = .returned (.bool (rgB p a && (rgB p b && rgB p c))) ∧ Below w.heap.size w w' := by
  obtain ⟨h0, h1, h2, hb⟩ := three_boxes w g.vals p.vals (⟨14, a, b, c⟩ : Ins).vals 26 39 42
  have HB := Lib.hid hb
  have HX : Hid (IB g p ⟨14, a, b, c⟩ w.heap.size (((w.alloc (.cells g.vals 26)).alloc (.cells p.vals 39)).alloc (.cells (⟨14, a, b, c⟩ : Ins).vals 42))) := Lib.hid ⟨h0, h1, h2⟩
  have HR : Hid (∀ z W, Calls Tryz.prog 33 #[.agg #[.int .i64 p.params, .int .i64 p.regs, .slice p.A p.code.length p.cap], .int .i64 z] W fun e w' => e = .returned (.bool (rgB p z)) ∧ Below W.heap.size W w') := Lib.hid (fun z W => reg_any p z W)
  have HP : Hid (∀ z W, Calls Tryz.prog 34 #[.agg #[.int .i64 p.params, .int .i64 p.regs, .slice p.A p.code.length p.cap], .int .i64 z] W fun e w' => e = .returned (.bool (plB p z)) ∧ Below W.heap.size W w') := Lib.hid (fun z W => place_any p z W)
  clear h0 h1 h2 hb
  go_enter Tryz.func20, Tryz.ntmps20
  go_upto_region 1 with (fail)
  generalize ((w.alloc _).alloc _).alloc _ = w1 at *
  obtain ⟨⟨x0, x1, x2⟩, x3, x4, x5, x6⟩ := HX.out.pc
  go_wp2_with fail
  have HBD := Lib.hid ((Below.refl w1.heap.size w1).drew)
  have HTR : Hid (∀ A B, Below w1.heap.size w1 A → Below A.heap.size A B → Below w1.heap.size w1 B) := Lib.hid (fun A B h k => h.trans (k.mono h.size))
  go_region_held3 (fun W => (W.cell? ⟨w.heap.size + 1, 0, none⟩ = some (.int .i64 p.params) ∧ W.cell? ⟨w.heap.size + 1, 1, none⟩ = some (.int .i64 p.regs) ∧ W.cell? ⟨w.heap.size + 1, 2, none⟩ = some (.slice p.A p.code.length p.cap)) ∧ W.cell? ⟨w.heap.size + 2, 1, none⟩ = some (.int .i64 a) ∧ W.cell? ⟨w.heap.size + 2, 2, none⟩ = some (.int .i64 b) ∧ W.cell? ⟨w.heap.size + 2, 3, none⟩ = some (.int .i64 c))
    (first | assumption | (exact ⟨⟨x0, x1, x2⟩, x4, x5, x6⟩) | (exact ⟨⟨y0, y1, y2⟩, y4, y5, y6⟩) | go_keep | fail)
    (first
      | (go_at_call 33; with_reducible (refine (HR.out _ _).mono ?_); rintro e w2 ⟨rfl, hb2⟩; have HB2 := Lib.hid (HTR.out _ _ HBD.out hb2); obtain ⟨⟨y0, y1, y2⟩, y3, y4, y5, y6⟩ := (HX.out.below HB2.out).pc; obtain ⟨g0, g1, g2⟩ := (HX.out.below HB2.out).gc; clear hb2))
  go_wp2_with (first
    | (go_at_call 33; refine (HR.out _ _).mono ?_; rintro e w4 ⟨rfl, hb4⟩; have HB4 := Lib.hid (HTR.out _ _ HB3.out hb4); obtain ⟨⟨z0, z1, z2⟩, z3, z4, z5, z6⟩ := (HX.out.below HB4.out).pc; clear hb4)
    | (go_at_call 33; refine (HR.out _ _).mono ?_; rintro e w3 ⟨rfl, hb3⟩; have HB3 := Lib.hid (HTR.out _ _ HB2.out hb3); obtain ⟨⟨u0, u1, u2⟩, u3, u4, u5, u6⟩ := (HX.out.below HB3.out).pc; clear hb3)
    | (go_at_call 34; refine (HP.out _ _).mono ?_; rintro e w3 ⟨rfl, hb3⟩; have HB3 := Lib.hid (HTR.out _ _ HB2.out hb3); obtain ⟨⟨u0, u1, u2⟩, u3, u4, u5, u6⟩ := (HX.out.below HB3.out).pc; clear hb3))
  all_goals go_ret
  all_goals refine ⟨by first | (simp; done) | (simp [*]; done) | (simp [*] <;> omega) | (simp_all; done) | (simp_all <;> omega), ?_⟩
  all_goals first | exact HB.out.trans (HB4.out.mono HB.out.size) | exact HB.out.trans (HB3.out.mono HB.out.size) | exact HB.out.trans (HB2.out.mono HB.out.size)
set_option maxRecDepth 100000 in
set_option maxHeartbeats 16000000 in
theorem in_15 (g : Pg) (p : Pr) (a b c : Int) (w : World) :
    Calls Tryz.prog 20 #[.agg g.vals, .agg p.vals, .agg (⟨15, a, b, c⟩ : Ins).vals] w fun e w' => e = .returned (.bool (rgB p a && (rgB p b && rgB p c))) ∧ Below w.heap.size w w' := by
  obtain ⟨h0, h1, h2, hb⟩ := three_boxes w g.vals p.vals (⟨15, a, b, c⟩ : Ins).vals 26 39 42
  have HB := Lib.hid hb
  have HX : Hid (IB g p ⟨15, a, b, c⟩ w.heap.size (((w.alloc (.cells g.vals 26)).alloc (.cells p.vals 39)).alloc (.cells (⟨15, a, b, c⟩ : Ins).vals 42))) := Lib.hid ⟨h0, h1, h2⟩
  have HR : Hid (∀ z W, Calls Tryz.prog 33 #[.agg #[.int .i64 p.params, .int .i64 p.regs, .slice p.A p.code.length p.cap], .int .i64 z] W fun e w' => e = .returned (.bool (rgB p z)) ∧ Below W.heap.size W w') := Lib.hid (fun z W => reg_any p z W)
  have HP : Hid (∀ z W, Calls Tryz.prog 34 #[.agg #[.int .i64 p.params, .int .i64 p.regs, .slice p.A p.code.length p.cap], .int .i64 z] W fun e w' => e = .returned (.bool (plB p z)) ∧ Below W.heap.size W w') := Lib.hid (fun z W => place_any p z W)
  clear h0 h1 h2 hb
  go_enter Tryz.func20, Tryz.ntmps20
  go_upto_region 1 with (fail)
  generalize ((w.alloc _).alloc _).alloc _ = w1 at *
  obtain ⟨⟨x0, x1, x2⟩, x3, x4, x5, x6⟩ := HX.out.pc
  go_wp2_with fail
  have HBD := Lib.hid ((Below.refl w1.heap.size w1).drew)
  have HTR : Hid (∀ A B, Below w1.heap.size w1 A → Below A.heap.size A B → Below w1.heap.size w1 B) := Lib.hid (fun A B h k => h.trans (k.mono h.size))
  go_region_held3 (fun W => (W.cell? ⟨w.heap.size + 1, 0, none⟩ = some (.int .i64 p.params) ∧ W.cell? ⟨w.heap.size + 1, 1, none⟩ = some (.int .i64 p.regs) ∧ W.cell? ⟨w.heap.size + 1, 2, none⟩ = some (.slice p.A p.code.length p.cap)) ∧ W.cell? ⟨w.heap.size + 2, 1, none⟩ = some (.int .i64 a) ∧ W.cell? ⟨w.heap.size + 2, 2, none⟩ = some (.int .i64 b) ∧ W.cell? ⟨w.heap.size + 2, 3, none⟩ = some (.int .i64 c))
    (first | assumption | (exact ⟨⟨x0, x1, x2⟩, x4, x5, x6⟩) | (exact ⟨⟨y0, y1, y2⟩, y4, y5, y6⟩) | go_keep | fail)
    (first
      | (go_at_call 33; with_reducible (refine (HR.out _ _).mono ?_); rintro e w2 ⟨rfl, hb2⟩; have HB2 := Lib.hid (HTR.out _ _ HBD.out hb2); obtain ⟨⟨y0, y1, y2⟩, y3, y4, y5, y6⟩ := (HX.out.below HB2.out).pc; obtain ⟨g0, g1, g2⟩ := (HX.out.below HB2.out).gc; clear hb2))
  go_wp2_with (first
    | (go_at_call 33; refine (HR.out _ _).mono ?_; rintro e w4 ⟨rfl, hb4⟩; have HB4 := Lib.hid (HTR.out _ _ HB3.out hb4); obtain ⟨⟨z0, z1, z2⟩, z3, z4, z5, z6⟩ := (HX.out.below HB4.out).pc; clear hb4)
    | (go_at_call 33; refine (HR.out _ _).mono ?_; rintro e w3 ⟨rfl, hb3⟩; have HB3 := Lib.hid (HTR.out _ _ HB2.out hb3); obtain ⟨⟨u0, u1, u2⟩, u3, u4, u5, u6⟩ := (HX.out.below HB3.out).pc; clear hb3)
    | (go_at_call 34; refine (HP.out _ _).mono ?_; rintro e w3 ⟨rfl, hb3⟩; have HB3 := Lib.hid (HTR.out _ _ HB2.out hb3); obtain ⟨⟨u0, u1, u2⟩, u3, u4, u5, u6⟩ := (HX.out.below HB3.out).pc; clear hb3))
  all_goals go_ret
  all_goals refine ⟨by first | (simp; done) | (simp [*]; done) | (simp [*] <;> omega) | (simp_all; done) | (simp_all <;> omega), ?_⟩
  all_goals first | exact HB.out.trans (HB4.out.mono HB.out.size) | exact HB.out.trans (HB3.out.mono HB.out.size) | exact HB.out.trans (HB2.out.mono HB.out.size)
set_option maxRecDepth 100000 in
set_option maxHeartbeats 16000000 in
theorem in_16 (g : Pg) (p : Pr) (a b c : Int) (w : World) :
    Calls Tryz.prog 20 #[.agg g.vals, .agg p.vals, .agg (⟨16, a, b, c⟩ : Ins).vals] w fun e w' => e = .returned (.bool (rgB p a && (rgB p b && rgB p c))) ∧ Below w.heap.size w w' := by
  obtain ⟨h0, h1, h2, hb⟩ := three_boxes w g.vals p.vals (⟨16, a, b, c⟩ : Ins).vals 26 39 42
  have HB := Lib.hid hb
  have HX : Hid (IB g p ⟨16, a, b, c⟩ w.heap.size (((w.alloc (.cells g.vals 26)).alloc (.cells p.vals 39)).alloc (.cells (⟨16, a, b, c⟩ : Ins).vals 42))) := Lib.hid ⟨h0, h1, h2⟩
  have HR : Hid (∀ z W, Calls Tryz.prog 33 #[.agg #[.int .i64 p.params, .int .i64 p.regs, .slice p.A p.code.length p.cap], .int .i64 z] W fun e w' => e = .returned (.bool (rgB p z)) ∧ Below W.heap.size W w') := Lib.hid (fun z W => reg_any p z W)
  have HP : Hid (∀ z W, Calls Tryz.prog 34 #[.agg #[.int .i64 p.params, .int .i64 p.regs, .slice p.A p.code.length p.cap], .int .i64 z] W fun e w' => e = .returned (.bool (plB p z)) ∧ Below W.heap.size W w') := Lib.hid (fun z W => place_any p z W)
  clear h0 h1 h2 hb
  go_enter Tryz.func20, Tryz.ntmps20
  go_upto_region 1 with (fail)
  generalize ((w.alloc _).alloc _).alloc _ = w1 at *
  obtain ⟨⟨x0, x1, x2⟩, x3, x4, x5, x6⟩ := HX.out.pc
  go_wp2_with fail
  have HBD := Lib.hid ((Below.refl w1.heap.size w1).drew)
  have HTR : Hid (∀ A B, Below w1.heap.size w1 A → Below A.heap.size A B → Below w1.heap.size w1 B) := Lib.hid (fun A B h k => h.trans (k.mono h.size))
  go_region_held3 (fun W => (W.cell? ⟨w.heap.size + 1, 0, none⟩ = some (.int .i64 p.params) ∧ W.cell? ⟨w.heap.size + 1, 1, none⟩ = some (.int .i64 p.regs) ∧ W.cell? ⟨w.heap.size + 1, 2, none⟩ = some (.slice p.A p.code.length p.cap)) ∧ W.cell? ⟨w.heap.size + 2, 1, none⟩ = some (.int .i64 a) ∧ W.cell? ⟨w.heap.size + 2, 2, none⟩ = some (.int .i64 b) ∧ W.cell? ⟨w.heap.size + 2, 3, none⟩ = some (.int .i64 c))
    (first | assumption | (exact ⟨⟨x0, x1, x2⟩, x4, x5, x6⟩) | (exact ⟨⟨y0, y1, y2⟩, y4, y5, y6⟩) | go_keep | fail)
    (first
      | (go_at_call 33; with_reducible (refine (HR.out _ _).mono ?_); rintro e w2 ⟨rfl, hb2⟩; have HB2 := Lib.hid (HTR.out _ _ HBD.out hb2); obtain ⟨⟨y0, y1, y2⟩, y3, y4, y5, y6⟩ := (HX.out.below HB2.out).pc; obtain ⟨g0, g1, g2⟩ := (HX.out.below HB2.out).gc; clear hb2))
  go_wp2_with (first
    | (go_at_call 33; refine (HR.out _ _).mono ?_; rintro e w4 ⟨rfl, hb4⟩; have HB4 := Lib.hid (HTR.out _ _ HB3.out hb4); obtain ⟨⟨z0, z1, z2⟩, z3, z4, z5, z6⟩ := (HX.out.below HB4.out).pc; clear hb4)
    | (go_at_call 33; refine (HR.out _ _).mono ?_; rintro e w3 ⟨rfl, hb3⟩; have HB3 := Lib.hid (HTR.out _ _ HB2.out hb3); obtain ⟨⟨u0, u1, u2⟩, u3, u4, u5, u6⟩ := (HX.out.below HB3.out).pc; clear hb3)
    | (go_at_call 34; refine (HP.out _ _).mono ?_; rintro e w3 ⟨rfl, hb3⟩; have HB3 := Lib.hid (HTR.out _ _ HB2.out hb3); obtain ⟨⟨u0, u1, u2⟩, u3, u4, u5, u6⟩ := (HX.out.below HB3.out).pc; clear hb3))
  all_goals go_ret
  all_goals refine ⟨by first | (simp; done) | (simp [*]; done) | (simp [*] <;> omega) | (simp_all; done) | (simp_all <;> omega), ?_⟩
  all_goals first | exact HB.out.trans (HB4.out.mono HB.out.size) | exact HB.out.trans (HB3.out.mono HB.out.size) | exact HB.out.trans (HB2.out.mono HB.out.size)
set_option maxRecDepth 100000 in
set_option maxHeartbeats 16000000 in
theorem in_17 (g : Pg) (p : Pr) (a b c : Int) (w : World) :
    Calls Tryz.prog 20 #[.agg g.vals, .agg p.vals, .agg (⟨17, a, b, c⟩ : Ins).vals] w fun e w' => e = .returned (.bool (rgB p a && (rgB p b && rgB p c))) ∧ Below w.heap.size w w' := by
  obtain ⟨h0, h1, h2, hb⟩ := three_boxes w g.vals p.vals (⟨17, a, b, c⟩ : Ins).vals 26 39 42
  have HB := Lib.hid hb
  have HX : Hid (IB g p ⟨17, a, b, c⟩ w.heap.size (((w.alloc (.cells g.vals 26)).alloc (.cells p.vals 39)).alloc (.cells (⟨17, a, b, c⟩ : Ins).vals 42))) := Lib.hid ⟨h0, h1, h2⟩
  have HR : Hid (∀ z W, Calls Tryz.prog 33 #[.agg #[.int .i64 p.params, .int .i64 p.regs, .slice p.A p.code.length p.cap], .int .i64 z] W fun e w' => e = .returned (.bool (rgB p z)) ∧ Below W.heap.size W w') := Lib.hid (fun z W => reg_any p z W)
  have HP : Hid (∀ z W, Calls Tryz.prog 34 #[.agg #[.int .i64 p.params, .int .i64 p.regs, .slice p.A p.code.length p.cap], .int .i64 z] W fun e w' => e = .returned (.bool (plB p z)) ∧ Below W.heap.size W w') := Lib.hid (fun z W => place_any p z W)
  clear h0 h1 h2 hb
  go_enter Tryz.func20, Tryz.ntmps20
  go_upto_region 1 with (fail)
  generalize ((w.alloc _).alloc _).alloc _ = w1 at *
  obtain ⟨⟨x0, x1, x2⟩, x3, x4, x5, x6⟩ := HX.out.pc
  go_wp2_with fail
  have HBD := Lib.hid ((Below.refl w1.heap.size w1).drew)
  have HTR : Hid (∀ A B, Below w1.heap.size w1 A → Below A.heap.size A B → Below w1.heap.size w1 B) := Lib.hid (fun A B h k => h.trans (k.mono h.size))
  go_region_held3 (fun W => (W.cell? ⟨w.heap.size + 1, 0, none⟩ = some (.int .i64 p.params) ∧ W.cell? ⟨w.heap.size + 1, 1, none⟩ = some (.int .i64 p.regs) ∧ W.cell? ⟨w.heap.size + 1, 2, none⟩ = some (.slice p.A p.code.length p.cap)) ∧ W.cell? ⟨w.heap.size + 2, 1, none⟩ = some (.int .i64 a) ∧ W.cell? ⟨w.heap.size + 2, 2, none⟩ = some (.int .i64 b) ∧ W.cell? ⟨w.heap.size + 2, 3, none⟩ = some (.int .i64 c))
    (first | assumption | (exact ⟨⟨x0, x1, x2⟩, x4, x5, x6⟩) | (exact ⟨⟨y0, y1, y2⟩, y4, y5, y6⟩) | go_keep | fail)
    (first
      | (go_at_call 33; with_reducible (refine (HR.out _ _).mono ?_); rintro e w2 ⟨rfl, hb2⟩; have HB2 := Lib.hid (HTR.out _ _ HBD.out hb2); obtain ⟨⟨y0, y1, y2⟩, y3, y4, y5, y6⟩ := (HX.out.below HB2.out).pc; obtain ⟨g0, g1, g2⟩ := (HX.out.below HB2.out).gc; clear hb2))
  go_wp2_with (first
    | (go_at_call 33; refine (HR.out _ _).mono ?_; rintro e w4 ⟨rfl, hb4⟩; have HB4 := Lib.hid (HTR.out _ _ HB3.out hb4); obtain ⟨⟨z0, z1, z2⟩, z3, z4, z5, z6⟩ := (HX.out.below HB4.out).pc; clear hb4)
    | (go_at_call 33; refine (HR.out _ _).mono ?_; rintro e w3 ⟨rfl, hb3⟩; have HB3 := Lib.hid (HTR.out _ _ HB2.out hb3); obtain ⟨⟨u0, u1, u2⟩, u3, u4, u5, u6⟩ := (HX.out.below HB3.out).pc; clear hb3)
    | (go_at_call 34; refine (HP.out _ _).mono ?_; rintro e w3 ⟨rfl, hb3⟩; have HB3 := Lib.hid (HTR.out _ _ HB2.out hb3); obtain ⟨⟨u0, u1, u2⟩, u3, u4, u5, u6⟩ := (HX.out.below HB3.out).pc; clear hb3))
  all_goals go_ret
  all_goals refine ⟨by first | (simp; done) | (simp [*]; done) | (simp [*] <;> omega) | (simp_all; done) | (simp_all <;> omega), ?_⟩
  all_goals first | exact HB.out.trans (HB4.out.mono HB.out.size) | exact HB.out.trans (HB3.out.mono HB.out.size) | exact HB.out.trans (HB2.out.mono HB.out.size)
end Go.Proofs.YtccofgdcpmplmaaGreatDoor
