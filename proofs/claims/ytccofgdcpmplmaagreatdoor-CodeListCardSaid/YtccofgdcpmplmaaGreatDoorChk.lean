/- Whether a program may be: the program's answer. -/
import Derived.Test.YtccofgdcpmplmaaGreatDoorNmd
import Derived.WalkMore
namespace Go.Proofs.YtccofgdcpmplmaaGreatDoor
open Go Go.RowKit Go.Shelf
def checkB (g : Pg) : Bool := countedB g && (headedB g && (shortB g && namedB g))
theorem counted_pos {g : Pg} (h : countedB g = true) : 0 < g.ps.length := by
  unfold countedB at h
  simp only [Bool.and_eq_true, decide_eq_true_eq] at h
  exact h.1.1
theorem headed_mid {g : Pg} (h : headedB g = true) : ∀ p ∈ g.ps, p.mid := by
  unfold headedB at h
  simp only [Bool.and_eq_true, Bool.not_eq_true'] at h
  intro p hp
  have h2 : ¬ badP p = true := by
    intro e
    have : g.ps.any badP = true := List.any_eq_true.2 ⟨p, hp, e⟩
    rw [this] at h
    cases h.2
  unfold badP at h2
  simp only [Bool.or_eq_true, decide_eq_true_eq, Bool.not_eq_true'] at h2
  exact ⟨by omega, by omega⟩
theorem four (w : World) (a b c d : Value) (t : TypeId) : (w.alloc (.cells #[a, b, c, d] t)).heap[w.heap.size]? = some (.cells #[a, b, c, d] t (0, 0)) := heap_alloc_new w _
set_option maxRecDepth 100000 in
set_option maxHeartbeats 16000000 in
theorem check_any (g : Pg) (w : World) (hg : g.at w) (hf : g.fit) (hs : SPC w) :
    Calls Tryz.prog 12 #[.agg g.vals] w fun e w' => e = .returned (.int .i64 (if checkB g then 0 else 2)) ∧ Below w.heap.size w w' := by
  have HB := Lib.hid (below_new w (.cells g.vals 26))
  have HX := Lib.hid (BXG.new hg)
  have HF := Lib.hid hf
  have HS := Lib.hid (spc_below hs HB.out)
  have en15 : ∀ args w, (callFunc 24 args).run Tryz.prog w = .ok (.enter 24 args) w := enters_of Tryz.func24 (by kernel_rfl) rfl
  have en16 : ∀ args w, (callFunc 25 args).run Tryz.prog w = .ok (.enter 25 args) w := enters_of Tryz.func25 (by kernel_rfl) rfl
  have en17 : ∀ args w, (callFunc 26 args).run Tryz.prog w = .ok (.enter 26 args) w := enters_of Tryz.func26 (by kernel_rfl) rfl
  have en18 : ∀ args w, (callFunc 27 args).run Tryz.prog w = .ok (.enter 27 args) w := enters_of Tryz.func27 (by kernel_rfl) rfl
  have HA0 : Hid (∀ W, Below (w.alloc (.cells g.vals 26)).heap.size (w.alloc (.cells g.vals 26)) W → Calls Tryz.prog 24 #[.agg g.vals] W fun e w' => e = .returned (.bool (countedB g)) ∧ Below W.heap.size W w') := Lib.hid (fun W hb => counted_any g W (HX.out.below hb).g HF.out)
  have HA1 : Hid (countedB g = true → ∀ W, Below (w.alloc (.cells g.vals 26)).heap.size (w.alloc (.cells g.vals 26)) W → Calls Tryz.prog 25 #[.agg g.vals] W fun e w' => e = .returned (.bool (headedB g)) ∧ Below W.heap.size W w') := Lib.hid (fun h W hb => headed_any g W (HX.out.below hb).g HF.out (counted_pos h))
  have HA2 : Hid (∀ W, Below (w.alloc (.cells g.vals 26)).heap.size (w.alloc (.cells g.vals 26)) W → Calls Tryz.prog 26 #[.agg g.vals] W fun e w' => e = .returned (.bool (shortB g)) ∧ Below W.heap.size W w') := Lib.hid (fun W hb => short_any g W (HX.out.below hb).g HF.out)
  have HA3 : Hid (headedB g = true → ∀ W, Below (w.alloc (.cells g.vals 26)).heap.size (w.alloc (.cells g.vals 26)) W → Calls Tryz.prog 27 #[.agg g.vals] W fun e w' => e = .returned (.bool (namedB g)) ∧ Below W.heap.size W w') := Lib.hid (fun h W hb => named_any g W (HX.out.below hb).g HF.out (headed_mid h) (spc_below HS.out hb))
  unfold checkB
  obtain ⟨t0, h0⟩ : ∃ t, countedB g = t := ⟨_, rfl⟩
  obtain ⟨t1, h1⟩ : ∃ t, headedB g = t := ⟨_, rfl⟩
  obtain ⟨t2, h2⟩ : ∃ t, shortB g = t := ⟨_, rfl⟩
  obtain ⟨t3, h3⟩ : ∃ t, namedB g = t := ⟨_, rfl⟩
  rw [h0] at HA0 HA1
  rw [h1] at HA1 HA3
  rw [h2] at HA2
  rw [h3] at HA3
  rw [h0, h1, h2, h3]
  clear hg hf hs h0 h1 h2 h3 HF HS
  obtain ⟨r, hr⟩ : ∃ r : Int, (if (t0 && (t1 && (t2 && t3))) = true then (0 : Int) else 2) = r := ⟨_, rfl⟩
  have HR := Lib.hid hr
  rw [hr]
  clear hr
  go_enter Tryz.func12, Tryz.ntmps12
  go_wp2_with fail
  generalize w.alloc (.cells g.vals 26) = w1 at *
  go_step3
  go_wp2_with fail
  go_step3
  go_wp2_with fail
  have hb2 := below_new w1 (.cells #[.func (.func 24) #[] #[], .func (.func 25) #[] #[], .func (.func 26) #[] #[], .func (.func 27) #[] #[]] 27)
  have h4 := four w1 (.func (.func 24) #[] #[]) (.func (.func 25) #[] #[]) (.func (.func 26) #[] #[]) (.func (.func 27) #[] #[]) 27
  have HB2 := Lib.hid hb2
  have H4 : Hid (∀ W, Below (w1.alloc (.cells #[.func (.func 24) #[] #[], .func (.func 25) #[] #[], .func (.func 26) #[] #[], .func (.func 27) #[] #[]] 27)).heap.size (w1.alloc (.cells #[.func (.func 24) #[] #[], .func (.func 25) #[] #[], .func (.func 26) #[] #[], .func (.func 27) #[] #[]] 27)) W → W.heap[w1.heap.size]? = some (.cells #[.func (.func 24) #[] #[], .func (.func 25) #[] #[], .func (.func 26) #[] #[], .func (.func 27) #[] #[]] 27 (0, 0))) := Lib.hid (fun W hb => (hb.block _ (Array.getElem?_eq_some_iff.1 h4).1).trans h4)
  clear hb2 h4
  go_loopw [3, 8] (fun e i wr => ∃ k : Nat, k ≤ 4 ∧ i = .int .i64 k ∧ e = .int .i64 0 ∧ Hid ((1 ≤ k → t0 = true) ∧ (2 ≤ k → t1 = true) ∧ (3 ≤ k → t2 = true) ∧ (4 ≤ k → t3 = true)) ∧ Hid (Below (w1.alloc (.cells #[.func (.func 24) #[] #[], .func (.func 25) #[] #[], .func (.func 26) #[] #[], .func (.func 27) #[] #[]] 27)).heap.size (w1.alloc (.cells #[.func (.func 24) #[] #[], .func (.func 25) #[] #[], .func (.func 26) #[] #[], .func (.func 27) #[] #[]] 27)) wr)) (fun _ i _ => 4 - (intOf i).toNat)
  case atStart => exact ⟨0, by omega, rfl, rfl, Lib.hid ⟨fun h => absurd h (by omega), fun h => absurd h (by omega), fun h => absurd h (by omega), fun h => absurd h (by omega)⟩, Lib.hid (Below.refl _ _)⟩
  case round =>
    obtain ⟨k, hk, rfl, rfl, HT, HBL⟩ := hrel
    obtain ⟨x0, x1, x2⟩ := (HX.out.below (HB2.out.trans (HBL.out.mono HB2.out.size))).cells
    have hk5 : k = 0 ∨ k = 1 ∨ k = 2 ∨ k = 3 ∨ k = 4 := by omega
    clear hk
    rcases hk5 with rfl | rfl | rfl | rfl | rfl
    · have y0 : wr.cell? ⟨w1.heap.size, 0, none⟩ = some (.func (.func 24) #[] #[]) := by simp only [World.cell?, H4.out _ HBL.out]; rfl
      have HC := Lib.hid (HA0.out _ (HB2.out.trans (HBL.out.mono HB2.out.size)))
      by_cases ht : t0 = true
      · skip
        have HT2 : Hid ((1 ≤ 1 → t0 = true) ∧ (2 ≤ 1 → t1 = true) ∧ (3 ≤ 1 → t2 = true) ∧ (4 ≤ 1 → t3 = true)) := Lib.hid ⟨fun _ => ht, fun h => absurd h (by omega), fun h => absurd h (by omega), fun h => absurd h (by omega)⟩
        rw [ht] at HC
        clear ht HT
        go_wp2_with fail
        refine HC.out.mono ?_
        rintro e w6 ⟨rfl, hb6⟩
        have HB6 := Lib.hid (HBL.out.trans (hb6.mono HBL.out.size))
        clear hb6 HC y0 x0 x1 x2 HBL
        go_wp2_with fail
        go_roundw
        case rel => exact ⟨1, by omega, by go_num, rfl, HT2, HB6⟩
        case measure => simp [intOf]
      · have ht : t0 = false := by simpa using ht
        have HR2 : Hid (r = 2) := Lib.hid (by rw [← HR.out, ht]; simp)
        rw [ht] at HC
        clear ht HT
        go_wp2_with fail
        refine HC.out.mono ?_
        rintro e w6 ⟨rfl, hb6⟩
        have HB6 := Lib.hid (HBL.out.trans (hb6.mono HBL.out.size))
        clear hb6 HC y0 x0 x1 x2 HBL
        go_wp2_with fail
        change bodyPost Tryz.prog Tryz.f12 (fun e w' => e = Ending.returned (.int .i64 r) ∧ Below w.heap.size w w') Exit.ret _ _
        go_ret
        exact ⟨by rw [HR2.out]; rfl, HB.out.trans ((HB2.out.trans (HB6.out.mono HB2.out.size)).mono HB.out.size)⟩
    · have y0 : wr.cell? ⟨w1.heap.size, 1, none⟩ = some (.func (.func 25) #[] #[]) := by simp only [World.cell?, H4.out _ HBL.out]; rfl
      have HC := Lib.hid (HA1.out (HT.out.1 (by omega)) _ (HB2.out.trans (HBL.out.mono HB2.out.size)))
      by_cases ht : t1 = true
      · skip
        have HT2 : Hid ((1 ≤ 2 → t0 = true) ∧ (2 ≤ 2 → t1 = true) ∧ (3 ≤ 2 → t2 = true) ∧ (4 ≤ 2 → t3 = true)) := Lib.hid ⟨fun _ => HT.out.1 (by omega), fun _ => ht, fun h => absurd h (by omega), fun h => absurd h (by omega)⟩
        rw [ht] at HC
        clear ht HT
        go_wp2_with fail
        refine HC.out.mono ?_
        rintro e w6 ⟨rfl, hb6⟩
        have HB6 := Lib.hid (HBL.out.trans (hb6.mono HBL.out.size))
        clear hb6 HC y0 x0 x1 x2 HBL
        go_wp2_with fail
        go_roundw
        case rel => exact ⟨2, by omega, by go_num, rfl, HT2, HB6⟩
        case measure => simp [intOf]
      · have ht : t1 = false := by simpa using ht
        have HR2 : Hid (r = 2) := Lib.hid (by rw [← HR.out, ht]; simp)
        rw [ht] at HC
        clear ht HT
        go_wp2_with fail
        refine HC.out.mono ?_
        rintro e w6 ⟨rfl, hb6⟩
        have HB6 := Lib.hid (HBL.out.trans (hb6.mono HBL.out.size))
        clear hb6 HC y0 x0 x1 x2 HBL
        go_wp2_with fail
        change bodyPost Tryz.prog Tryz.f12 (fun e w' => e = Ending.returned (.int .i64 r) ∧ Below w.heap.size w w') Exit.ret _ _
        go_ret
        exact ⟨by rw [HR2.out]; rfl, HB.out.trans ((HB2.out.trans (HB6.out.mono HB2.out.size)).mono HB.out.size)⟩
    · have y0 : wr.cell? ⟨w1.heap.size, 2, none⟩ = some (.func (.func 26) #[] #[]) := by simp only [World.cell?, H4.out _ HBL.out]; rfl
      have HC := Lib.hid (HA2.out _ (HB2.out.trans (HBL.out.mono HB2.out.size)))
      by_cases ht : t2 = true
      · skip
        have HT2 : Hid ((1 ≤ 3 → t0 = true) ∧ (2 ≤ 3 → t1 = true) ∧ (3 ≤ 3 → t2 = true) ∧ (4 ≤ 3 → t3 = true)) := Lib.hid ⟨fun _ => HT.out.1 (by omega), fun _ => HT.out.2.1 (by omega), fun _ => ht, fun h => absurd h (by omega)⟩
        rw [ht] at HC
        clear ht HT
        go_wp2_with fail
        refine HC.out.mono ?_
        rintro e w6 ⟨rfl, hb6⟩
        have HB6 := Lib.hid (HBL.out.trans (hb6.mono HBL.out.size))
        clear hb6 HC y0 x0 x1 x2 HBL
        go_wp2_with fail
        go_roundw
        case rel => exact ⟨3, by omega, by go_num, rfl, HT2, HB6⟩
        case measure => simp [intOf]
      · have ht : t2 = false := by simpa using ht
        have HR2 : Hid (r = 2) := Lib.hid (by rw [← HR.out, ht]; simp)
        rw [ht] at HC
        clear ht HT
        go_wp2_with fail
        refine HC.out.mono ?_
        rintro e w6 ⟨rfl, hb6⟩
        have HB6 := Lib.hid (HBL.out.trans (hb6.mono HBL.out.size))
        clear hb6 HC y0 x0 x1 x2 HBL
        go_wp2_with fail
        change bodyPost Tryz.prog Tryz.f12 (fun e w' => e = Ending.returned (.int .i64 r) ∧ Below w.heap.size w w') Exit.ret _ _
        go_ret
        exact ⟨by rw [HR2.out]; rfl, HB.out.trans ((HB2.out.trans (HB6.out.mono HB2.out.size)).mono HB.out.size)⟩
    · have y0 : wr.cell? ⟨w1.heap.size, 3, none⟩ = some (.func (.func 27) #[] #[]) := by simp only [World.cell?, H4.out _ HBL.out]; rfl
      have HC := Lib.hid (HA3.out (HT.out.2.1 (by omega)) _ (HB2.out.trans (HBL.out.mono HB2.out.size)))
      by_cases ht : t3 = true
      · skip
        have HT2 : Hid ((1 ≤ 4 → t0 = true) ∧ (2 ≤ 4 → t1 = true) ∧ (3 ≤ 4 → t2 = true) ∧ (4 ≤ 4 → t3 = true)) := Lib.hid ⟨fun _ => HT.out.1 (by omega), fun _ => HT.out.2.1 (by omega), fun _ => HT.out.2.2.1 (by omega), fun _ => ht⟩
        rw [ht] at HC
        clear ht HT
        go_wp2_with fail
        refine HC.out.mono ?_
        rintro e w6 ⟨rfl, hb6⟩
        have HB6 := Lib.hid (HBL.out.trans (hb6.mono HBL.out.size))
        clear hb6 HC y0 x0 x1 x2 HBL
        go_wp2_with fail
        go_roundw
        case rel => exact ⟨4, by omega, by go_num, rfl, HT2, HB6⟩
        case measure => simp [intOf]
      · have ht : t3 = false := by simpa using ht
        have HR2 : Hid (r = 2) := Lib.hid (by rw [← HR.out, ht]; simp)
        rw [ht] at HC
        clear ht HT
        go_wp2_with fail
        refine HC.out.mono ?_
        rintro e w6 ⟨rfl, hb6⟩
        have HB6 := Lib.hid (HBL.out.trans (hb6.mono HBL.out.size))
        clear hb6 HC y0 x0 x1 x2 HBL
        go_wp2_with fail
        change bodyPost Tryz.prog Tryz.f12 (fun e w' => e = Ending.returned (.int .i64 r) ∧ Below w.heap.size w w') Exit.ret _ _
        go_ret
        exact ⟨by rw [HR2.out]; rfl, HB.out.trans ((HB2.out.trans (HB6.out.mono HB2.out.size)).mono HB.out.size)⟩
    · have HR2 : Hid (r = 0) := Lib.hid (by rw [← HR.out, HT.out.1 (by omega), HT.out.2.1 (by omega), HT.out.2.2.1 (by omega), HT.out.2.2.2 (by omega)]; simp)
      clear HT
      go_wp2_with fail
      change bodyPost Tryz.prog Tryz.f12 (fun e w' => e = Ending.returned (.int .i64 r) ∧ Below w.heap.size w w') Exit.ret _ _
      go_ret
      exact ⟨by rw [HR2.out]; rfl, HB.out.trans ((HB2.out.trans (HBL.out.mono HB2.out.size)).mono HB.out.size)⟩
end Go.Proofs.YtccofgdcpmplmaaGreatDoor
