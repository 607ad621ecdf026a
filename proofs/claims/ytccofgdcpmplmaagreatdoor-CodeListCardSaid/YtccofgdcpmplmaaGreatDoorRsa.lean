/- Are two programs the same: the document's answer. -/
import Derived.Test.YtccofgdcpmplmaaGreatDoorSame
namespace Go.Proofs.YtccofgdcpmplmaaGreatDoor
open Go Go.RowKit Go.Shelf
set_option maxRecDepth 100000 in
set_option maxHeartbeats 16000000 in
theorem rsame_any (g h : Pg) (w : World) (hg : g.at w) (hh : h.at w) (sg : g.small) (sh : h.small) :
    Calls Tryz.prog 11 #[.agg g.vals, .agg h.vals] w fun e w' => e = .returned (.bool (sameG g h)) ∧ Below w.heap.size w w' := by
  obtain ⟨h1, h2, hb⟩ := two_boxes w g.vals h.vals 26
  have HB := Lib.hid hb
  have HG := Lib.hid (hg.below hb)
  have HH := Lib.hid (hh.below hb)
  have SG := Lib.hid sg
  have SH := Lib.hid sh
  obtain ⟨n1, hn1⟩ : ∃ n, g.ps.length = n := ⟨_, rfl⟩
  obtain ⟨n2, hn2⟩ : ∃ n, g.is.length = n := ⟨_, rfl⟩
  obtain ⟨n3, hn3⟩ : ∃ n, g.ts.length = n := ⟨_, rfl⟩
  obtain ⟨m1, hm1⟩ : ∃ n, h.ps.length = n := ⟨_, rfl⟩
  obtain ⟨m2, hm2⟩ : ∃ n, h.is.length = n := ⟨_, rfl⟩
  obtain ⟨m3, hm3⟩ : ∃ n, h.ts.length = n := ⟨_, rfl⟩
  obtain ⟨w1, hw1⟩ : ∃ W, (w.alloc (.cells g.vals 26)).alloc (.cells h.vals 26) = W := ⟨_, rfl⟩
  rw [hw1] at HB HG HH h1 h2
  have HCX : Hid (∀ W, Below w1.heap.size w1 W → (W.cell? ⟨w.heap.size, 0, none⟩ = some (.slice g.PA n1 g.Pc) ∧ W.cell? ⟨w.heap.size, 1, none⟩ = some (.slice g.IA n2 g.Ic) ∧ W.cell? ⟨w.heap.size, 2, none⟩ = some (.slice g.TA n3 g.Tc)) ∧ W.cell? ⟨w.heap.size + 1, 0, none⟩ = some (.slice h.PA m1 h.Pc) ∧ W.cell? ⟨w.heap.size + 1, 1, none⟩ = some (.slice h.IA m2 h.Ic) ∧ W.cell? ⟨w.heap.size + 1, 2, none⟩ = some (.slice h.TA m3 h.Tc)) := Lib.hid (fun W hb => by
    rw [← hn1, ← hn2, ← hn3, ← hm1, ← hm2, ← hm3]
    exact ⟨cell3 ((hb.block _ (Array.getElem?_eq_some_iff.1 h1).1).trans h1), cell3 ((hb.block _ (Array.getElem?_eq_some_iff.1 h2).1).trans h2)⟩)
  have HL := Lib.hid (And.intro (And.intro hn1 (And.intro hn2 hn3)) (And.intro hm1 (And.intro hm2 hm3)))
  have q1 := sg.p
  have q2 := sg.i
  have q3 := sg.t
  have r1 := sh.p
  have r2 := sh.i
  have r3 := sh.t
  rw [hn1] at q1
  rw [hn2] at q2
  rw [hn3] at q3
  rw [hm1] at r1
  rw [hm2] at r2
  rw [hm3] at r3
  have HSG : Hid (sameG g h = true → n1 = m1 ∧ n2 = m2 ∧ n3 = m3) := Lib.hid (fun e => by
    unfold sameG at e
    simp only [Bool.and_eq_true, decide_eq_true_eq] at e
    refine ⟨?_, ?_, ?_⟩
    · rw [← hn1, ← hm1]; simpa using congrArg List.length e.1.1
    · rw [← hn2, ← hm2]; rw [e.1.2]
    · rw [← hn3, ← hm3]; rw [e.2])
  have HS2 : Hid (g.ps.map Pr.core = h.ps.map Pr.core → g.is = h.is → g.ts = h.ts → sameG g h = true) := Lib.hid (fun a b c => by unfold sameG; simp [a, b, c])
  have HS3 : Hid (g.ps.map Pr.core ≠ h.ps.map Pr.core → sameG g h = false) := Lib.hid (fun a => by unfold sameG; simp [a])
  have HS4 : Hid (g.is ≠ h.is → sameG g h = false) := Lib.hid (fun a => by unfold sameG; simp [a])
  have HS5 : Hid (g.ts ≠ h.ts → sameG g h = false) := Lib.hid (fun a => by unfold sameG; simp [a])
  obtain ⟨r, hr⟩ : ∃ t, sameG g h = t := ⟨_, rfl⟩
  rw [hr] at HSG HS2 HS3 HS4 HS5
  rw [hr]
  clear hg hh sg sh h1 h2 hb hn1 hn2 hn3 hm1 hm2 hm3 hr
  have HNO : Hid (¬ (n1 = m1 ∧ n2 = m2 ∧ n3 = m3) → r = false) := Lib.hid (fun hn => by cases r; rfl; exact absurd (HSG.out rfl) hn)
  by_cases hl1 : n1 = m1
  rotate_left
  · have h1 : (n1 == m1) = false := by simpa using hl1
    have h3 : ((n1 : Int) != (m1 : Int)) = true := by simp; omega
    have h2 : decide ((n1 : Int) = (m1 : Int)) = false := decide_eq_false (by omega)
    have HR := Lib.hid (HNO.out (fun e => hl1 e.1))
    clear hl1
    go_enter Tryz.func11, Tryz.ntmps11
    go_upto_region 1 with (fail)
    generalize (w.alloc (.cells g.vals 26)).alloc (.cells h.vals 26) = W0 at *
    have hw2 := hw1.symm
    clear hw1
    subst hw2
    obtain ⟨⟨x0, x1, x2⟩, y0, y1, y2⟩ := HCX.out _ (Below.refl _ _)
    go_wp2_with fail
    go_ret
    exact ⟨by rw [HR.out]; rfl, HB.out⟩
  subst hl1
  by_cases hl2 : n2 = m2
  rotate_left
  · have h1 : (n2 == m2) = false := by simpa using hl2
    have h3 : ((n2 : Int) != (m2 : Int)) = true := by simp; omega
    have h2 : decide ((n2 : Int) = (m2 : Int)) = false := decide_eq_false (by omega)
    have HR := Lib.hid (HNO.out (fun e => hl2 e.2.1))
    clear hl2
    go_enter Tryz.func11, Tryz.ntmps11
    go_upto_region 1 with (fail)
    generalize (w.alloc (.cells g.vals 26)).alloc (.cells h.vals 26) = W0 at *
    have hw2 := hw1.symm
    clear hw1
    subst hw2
    obtain ⟨⟨x0, x1, x2⟩, y0, y1, y2⟩ := HCX.out _ (Below.refl _ _)
    go_wp2_with fail
    go_ret
    exact ⟨by rw [HR.out]; rfl, HB.out⟩
  subst hl2
  by_cases hl3 : n3 = m3
  rotate_left
  · have h1 : (n3 == m3) = false := by simpa using hl3
    have h3 : ((n3 : Int) != (m3 : Int)) = true := by simp; omega
    have h2 : decide ((n3 : Int) = (m3 : Int)) = false := decide_eq_false (by omega)
    have HR := Lib.hid (HNO.out (fun e => hl3 e.2.2))
    clear hl3
    go_enter Tryz.func11, Tryz.ntmps11
    go_upto_region 1 with (fail)
    generalize (w.alloc (.cells g.vals 26)).alloc (.cells h.vals 26) = W0 at *
    have hw2 := hw1.symm
    clear hw1
    subst hw2
    obtain ⟨⟨x0, x1, x2⟩, y0, y1, y2⟩ := HCX.out _ (Below.refl _ _)
    go_wp2_with fail
    go_ret
    exact ⟨by rw [HR.out]; rfl, HB.out⟩
  subst hl3
  clear HNO HSG
  go_enter Tryz.func11, Tryz.ntmps11
  go_upto_region 1 with (fail)
  generalize (w.alloc (.cells g.vals 26)).alloc (.cells h.vals 26) = W0 at *
  have hw2 := hw1.symm
  clear hw1
  subst hw2
  obtain ⟨⟨x0, x1, x2⟩, y0, y1, y2⟩ := HCX.out _ (Below.refl _ _)
  go_wp2_with fail
  clear x0 x1 x2 y0 y1 y2
  go_loopw [5] (fun i wr => ∃ k : Nat, k ≤ n1 ∧ i = .int .i64 k ∧ Hid ((g.ps.map Pr.core).take k = (h.ps.map Pr.core).take k) ∧ Hid (Below w1.heap.size w1 wr)) (fun i _ => n1 - (intOf i).toNat)
  case atStart => exact ⟨0, Nat.zero_le _, rfl, Lib.hid rfl, Lib.hid (Below.refl _ _)⟩
  case round =>
    obtain ⟨k, hk, rfl, HE, HBL⟩ := hrel
    obtain ⟨⟨x0, x1, x2⟩, y0, y1, y2⟩ := HCX.out _ HBL.out
    by_cases hlt : k < n1
    rotate_left
    · have d1 : decide (k < n1) = false := decide_eq_false hlt
      have HD : Hid (g.ps.map Pr.core = h.ps.map Pr.core) := Lib.hid (by
        have h1 := HE.out
        rwa [List.take_of_length_le (by rw [List.length_map]; have := HL.out.1.1; omega), List.take_of_length_le (by rw [List.length_map]; have := HL.out.2.1; omega)] at h1)
      clear HE hlt hk
      go_wp2_with fail
      clear x0 x1 x2 y0 y1 y2 d1
      go_loopw [9] (fun i wr => ∃ k : Nat, k ≤ n2 ∧ i = .int .i64 k ∧ Hid (g.is.take k = h.is.take k) ∧ Hid (Below w1.heap.size w1 wr)) (fun i _ => n2 - (intOf i).toNat)
      case atStart => exact ⟨0, Nat.zero_le _, rfl, Lib.hid rfl, HBL⟩
      case round =>
        clear HBL
        obtain ⟨k, hk, rfl, HE, HBL⟩ := hrel
        obtain ⟨⟨x0, x1, x2⟩, y0, y1, y2⟩ := HCX.out _ HBL.out
        by_cases hlt : k < n2
        rotate_left
        · have d1 : decide (k < n2) = false := decide_eq_false hlt
          have HD2 : Hid (g.is = h.is) := Lib.hid (by
            have h1 := HE.out
            rwa [List.take_of_length_le (by have := HL.out.1.2.1; omega), List.take_of_length_le (by have := HL.out.2.2.1; omega)] at h1)
          clear HE hlt hk
          go_wp2_with fail
          clear x0 x1 x2 y0 y1 y2 d1
          go_loopw [10] (fun i wr => ∃ k : Nat, k ≤ n3 ∧ i = .int .i64 k ∧ Hid (g.ts.take k = h.ts.take k) ∧ Hid (Below w1.heap.size w1 wr)) (fun i _ => n3 - (intOf i).toNat)
          case atStart => exact ⟨0, Nat.zero_le _, rfl, Lib.hid rfl, HBL⟩
          case round =>
            clear HBL
            obtain ⟨k, hk, rfl, HE, HBL⟩ := hrel
            obtain ⟨⟨x0, x1, x2⟩, y0, y1, y2⟩ := HCX.out _ HBL.out
            by_cases hlt : k < n3
            rotate_left
            · have d1 : decide (k < n3) = false := decide_eq_false hlt
              have HD3 : Hid (g.ts = h.ts) := Lib.hid (by
                have h1 := HE.out
                rwa [List.take_of_length_le (by have := HL.out.1.2.2; omega), List.take_of_length_le (by have := HL.out.2.2.2; omega)] at h1)
              have HR := Lib.hid (HS2.out HD.out HD2.out HD3.out)
              clear HE hlt hk
              go_wp2_with fail
              go_ret
              exact ⟨by rw [HR.out]; rfl, HB.out.trans (HBL.out.mono HB.out.size)⟩
            have d1 : decide (k < n3) = true := decide_eq_true hlt
            have hk0 : (0 : Int) ≤ (k : Int) := by omega
            have hkl : (k : Int) < (n3 : Int) := by omega
            have hka : k < g.ts.length := by have := HL.out.1.2.2; omega
            have hkb : k < h.ts.length := by have := HL.out.2.2.2; omega
            obtain ⟨b1, o1, hA, -, u0⟩ := rdS_at (HG.out.ts.below HBL.out) hka
            obtain ⟨b2, o2, hB, -, v0⟩ := rdS_at (HH.out.ts.below HBL.out) hkb
            rw [hA] at x2
            rw [hB] at y2
            have HNX := Lib.hid (fun h0 : g.ts[k] = h.ts[k] => take_eq_next hka hkb HE.out h0)
            have HNE : Hid (g.ts[k] ≠ h.ts[k] → r = false) := Lib.hid (fun h0 => HS5.out (fun e => h0 (by simp only [e])))
            obtain ⟨p, hp⟩ : ∃ p, g.ts[k] = p := ⟨_, rfl⟩
            obtain ⟨q, hq⟩ : ∃ p, h.ts[k] = p := ⟨_, rfl⟩
            rw [hp] at u0 HNX HNE
            rw [hq] at v0 HNX HNE
            have hcm := fun W => cmp_str p q W
            clear hp hq hka hkb hA hB
            by_cases he : p = q
            · have HN := Lib.hid (HNX.out he)
              have e1 : decide (p = q) = true := decide_eq_true he
              rw [e1] at hcm
              have e2 : (p.toList == q.toList) = true := by rw [he]; exact bytes_eq q
              clear he e1 HNX HNE HE
              go_wp2_with fail
              go_quiet (fail)
              generalize nq = q1
              have HB6 := Lib.hid (below_any q1 HBL.out)
              clear HBL u0 v0 hcm x0 x1 x2 y0 y1 y2
              generalize wr.drewN q1 = w6 at *
              go_wp2_with fail
              go_roundw
              case rel => exact ⟨k + 1, by omega, by go_num, HN, HB6⟩
              case measure => simp [intOf]; omega
            · have HD := Lib.hid (HNE.out he)
              have e1 : decide (p = q) = false := decide_eq_false he
              rw [e1] at hcm
              have e2 : (p.toList == q.toList) = false := bytes_ne he
              clear he e1 HNX HNE HE
              go_wp2_with fail
              go_quiet (fail)
              generalize nq = q1
              have HB6 := Lib.hid (below_any q1 HBL.out)
              clear HBL u0 v0 hcm x0 x1 x2 y0 y1 y2
              generalize wr.drewN q1 = w6 at *
              go_wp2_with fail
              go_ret
              exact ⟨by rw [HD.out]; rfl, HB.out.trans (HB6.out.mono HB.out.size)⟩
        have d1 : decide (k < n2) = true := decide_eq_true hlt
        have hk0 : (0 : Int) ≤ (k : Int) := by omega
        have hkl : (k : Int) < (n2 : Int) := by omega
        have hka : k < g.is.length := by have := HL.out.1.2.1; omega
        have hkb : k < h.is.length := by have := HL.out.2.2.1; omega
        obtain ⟨b1, o1, hA, -, u0⟩ := rdZ_at (HG.out.is.below HBL.out) hka
        obtain ⟨b2, o2, hB, -, v0⟩ := rdZ_at (HH.out.is.below HBL.out) hkb
        rw [hA] at x1
        rw [hB] at y1
        have HNX := Lib.hid (fun h0 : g.is[k] = h.is[k] => take_eq_next hka hkb HE.out h0)
        have HNE : Hid (g.is[k] ≠ h.is[k] → r = false) := Lib.hid (fun h0 => HS4.out (fun e => h0 (by simp only [e])))
        obtain ⟨p, hp⟩ : ∃ p, g.is[k] = p := ⟨_, rfl⟩
        obtain ⟨q, hq⟩ : ∃ p, h.is[k] = p := ⟨_, rfl⟩
        rw [hp] at u0 HNX HNE
        rw [hq] at v0 HNX HNE
        have hcm := fun W => cmp_int p q W
        clear hp hq hka hkb hA hB
        by_cases he : p = q
        · have HN := Lib.hid (HNX.out he)
          have e1 : decide (p = q) = true := decide_eq_true he
          rw [e1] at hcm
          have e2 : (p == q) = true := by simpa using he
          have e3 : (p != q) = false := by simpa using he
          clear he e1 HNX HNE HE
          go_wp2_with fail
          go_quiet (fail)
          generalize nq = q1
          have HB6 := Lib.hid (below_any q1 HBL.out)
          clear HBL u0 v0 hcm x0 x1 x2 y0 y1 y2
          generalize wr.drewN q1 = w6 at *
          go_wp2_with fail
          go_roundw
          case rel => exact ⟨k + 1, by omega, by go_num, HN, HB6⟩
          case measure => simp [intOf]; omega
        · have HD := Lib.hid (HNE.out he)
          have e1 : decide (p = q) = false := decide_eq_false he
          rw [e1] at hcm
          have e2 : (p == q) = false := by simpa using he
          have e3 : (p != q) = true := by simpa using he
          clear he e1 HNX HNE HE
          go_wp2_with fail
          go_quiet (fail)
          generalize nq = q1
          have HB6 := Lib.hid (below_any q1 HBL.out)
          clear HBL u0 v0 hcm x0 x1 x2 y0 y1 y2
          generalize wr.drewN q1 = w6 at *
          go_wp2_with fail
          go_ret
          exact ⟨by rw [HD.out]; rfl, HB.out.trans (HB6.out.mono HB.out.size)⟩
    have d1 : decide (k < n1) = true := decide_eq_true hlt
    have hk0 : (0 : Int) ≤ (k : Int) := by omega
    have hkl : (k : Int) < (n1 : Int) := by omega
    have hka : k < g.ps.length := by have := HL.out.1.1; omega
    have hkb : k < h.ps.length := by have := HL.out.2.1; omega
    have HNX := Lib.hid (fun h0 : g.ps[k].core = h.ps[k].core => map_take_next hka hkb HE.out h0)
    have HNE : Hid (g.ps[k].core ≠ h.ps[k].core → r = false) := Lib.hid (fun h0 => HS3.out (fun e => h0 (by
      have h1 : (g.ps.map Pr.core)[k]? = (h.ps.map Pr.core)[k]? := by rw [e]
      simpa [hka, hkb] using h1)))
    have HIA := Lib.hid (HG.out.code _ (List.getElem_mem hka))
    have HIB := Lib.hid (HH.out.code _ (List.getElem_mem hkb))
    have la := SG.out.c _ (List.getElem_mem hka)
    have lb := SH.out.c _ (List.getElem_mem hkb)
    obtain ⟨p, hp⟩ : ∃ p, g.ps[k] = p := ⟨_, rfl⟩
    obtain ⟨q, hq⟩ : ∃ p, h.ps[k] = p := ⟨_, rfl⟩
    obtain ⟨b3, o3, hA, -, u0, u1, u2⟩ := (HG.out.ps.below HBL.out).at hka
    obtain ⟨b4, o4, hB, -, v0, v1, v2⟩ := (HH.out.ps.below HBL.out).at hkb
    rw [hA] at x0
    rw [hB] at y0
    rw [hp] at u0 u1 u2 HNX HNE HIA la
    rw [hq] at v0 v1 v2 HNX HNE HIB lb
    clear hp hq hka hkb hA hB HE
    go_upto_region 6 with (fail)
    go_cut [6, 7] from 43 to 52 (fun x6 x7 W => ∃ (a b : Nat), x6 = .pointer (some ⟨a, 0, none⟩) ∧ x7 = .pointer (some ⟨b, 0, none⟩) ∧ Hid (W.heap[a]? = some (.cells p.vals 39 (0, 0)) ∧ W.heap[b]? = some (.cells q.vals 39 (0, 0)) ∧ Below wr.heap.size wr W))
    case first =>
      go_region_held3 (fun W => W.cell? ⟨w.heap.size, 0, none⟩ = some (.slice (some ⟨b3, o3, none⟩) n1 g.Pc) ∧ W.cell? ⟨w.heap.size + 1, 0, none⟩ = some (.slice (some ⟨b4, o4, none⟩) n1 h.Pc) ∧ W.cell? ⟨b3, o3 + k * 3, none⟩ = some (.int .i64 p.params) ∧ W.cell? ⟨b3, o3 + k * 3 + 1, none⟩ = some (.int .i64 p.regs) ∧ W.cell? ⟨b3, o3 + k * 3 + 2, none⟩ = some (.slice p.A p.code.length p.cap) ∧ W.cell? ⟨b4, o4 + k * 3, none⟩ = some (.int .i64 q.params) ∧ W.cell? ⟨b4, o4 + k * 3 + 1, none⟩ = some (.int .i64 q.regs) ∧ W.cell? ⟨b4, o4 + k * 3 + 2, none⟩ = some (.slice q.A q.code.length q.cap))
        (first | assumption | (exact ⟨x0, y0, u0, u1, u2, v0, v1, v2⟩) | go_keep | fail)
        (fail)
      · go_wp2_with fail
        go_meet
        exact ⟨_, _, rfl, rfl, Lib.hid ⟨(two_boxes wr p.vals q.vals 39).1, (two_boxes wr p.vals q.vals 39).2.1, (two_boxes wr p.vals q.vals 39).2.2.drew⟩⟩
      · go_wp2_with fail
        go_meet
        exact ⟨_, _, rfl, rfl, Lib.hid ⟨(two_boxes wr q.vals p.vals 39).2.1, (two_boxes wr q.vals p.vals 39).1, (two_boxes wr q.vals p.vals 39).2.2.drew⟩⟩
    case rest =>
      obtain ⟨a, b, rfl, rfl, HW⟩ := hcut
      have HBC := Lib.hid (HBL.out.trans (HW.out.2.2.mono HBL.out.size))
      have HPI := Lib.hid ((HIA.out.below HBL.out).below HW.out.2.2)
      have HQI := Lib.hid ((HIB.out.below HBL.out).below HW.out.2.2)
      have HXP : Hid (∀ W, Below wc.heap.size wc W → W.heap[a]? = some (.cells p.vals 39 (0, 0)) ∧ W.heap[b]? = some (.cells q.vals 39 (0, 0))) := Lib.hid (fun W hb => ⟨(hb.block _ (Array.getElem?_eq_some_iff.1 HW.out.1).1).trans HW.out.1, (hb.block _ (Array.getElem?_eq_some_iff.1 HW.out.2.1).1).trans HW.out.2.1⟩)
      clear x0 x1 x2 y0 y1 y2 u0 u1 u2 v0 v1 v2 HIA HIB HBL HW
      obtain ⟨u0, u1, u2⟩ := cell3 (HXP.out _ (Below.refl _ _)).1
      obtain ⟨v0, v1, v2⟩ := cell3 (HXP.out _ (Below.refl _ _)).2
      obtain ⟨c1, hc1⟩ : ∃ c, p.code.length = c := ⟨_, rfl⟩
      obtain ⟨c2, hc2⟩ : ∃ c, q.code.length = c := ⟨_, rfl⟩
      have HC1 := Lib.hid hc1
      have HC2 := Lib.hid hc2
      rw [hc1] at u2 la
      rw [hc2] at v2 lb
      clear hc1 hc2
      by_cases h1 : p.params = q.params
      rotate_left
      · obtain ⟨e1, e2⟩ := int_nes h1
        have HR := Lib.hid (HNE.out (fun e => h1 (congrArg Prod.fst e)))
        clear h1 HNE HNX
        go_wp2_with fail
        go_ret
        exact ⟨by rw [HR.out]; rfl, HB.out.trans (HBC.out.mono HB.out.size)⟩
      obtain ⟨e1, e2⟩ := int_eqs h1
      have HP1 := Lib.hid h1
      clear h1
      by_cases h1 : p.regs = q.regs
      rotate_left
      · obtain ⟨f1, f2⟩ := int_nes h1
        have HR := Lib.hid (HNE.out (fun e => h1 (congrArg (fun x => x.2.1) e)))
        clear h1 HNE HNX
        go_wp2_with fail
        go_ret
        exact ⟨by rw [HR.out]; rfl, HB.out.trans (HBC.out.mono HB.out.size)⟩
      obtain ⟨f1, f2⟩ := int_eqs h1
      have HP2 := Lib.hid h1
      clear h1
      by_cases h1 : c1 = c2
      rotate_left
      · have g1 : (c1 == c2) = false := by simpa using h1
        have g2 : decide ((c1 : Int) = (c2 : Int)) = false := decide_eq_false (by omega)
        have g3 : ((c1 : Int) != (c2 : Int)) = true := by simp; omega
        have HR := Lib.hid (HNE.out (fun e => h1 (by rw [← HC1.out, ← HC2.out]; exact congrArg (fun x => x.2.2.length) e)))
        clear h1 HNE HNX
        go_wp2_with fail
        go_ret
        exact ⟨by rw [HR.out]; rfl, HB.out.trans (HBC.out.mono HB.out.size)⟩
      subst h1
      have HNX2 : Hid (p.code = q.code → (g.ps.map Pr.core).take (k + 1) = (h.ps.map Pr.core).take (k + 1)) := Lib.hid (fun e => HNX.out (by
        show (p.params, p.regs, p.code) = (q.params, q.regs, q.code)
        rw [HP1.out, HP2.out, e]))
      have HNE2 : Hid (p.code ≠ q.code → r = false) := Lib.hid (fun e => HNE.out (fun e2 => e (congrArg (fun x => x.2.2) e2)))
      clear HNX HNE HP1 HP2
      go_wp2_with fail
      clear u0 u1 u2 v0 v1 v2
      go_loopw [8] (fun i wr => ∃ j : Nat, j ≤ c1 ∧ i = .int .i64 j ∧ Hid (p.code.take j = q.code.take j) ∧ Hid (Below wc.heap.size wc wr)) (fun i _ => c1 - (intOf i).toNat)
      case atStart => exact ⟨0, Nat.zero_le _, rfl, Lib.hid rfl, Lib.hid (Below.refl _ _)⟩
      case round =>
        obtain ⟨j, hj, rfl, HE, HBJ⟩ := hrel
        obtain ⟨u0, u1, u2⟩ := cell3 (HXP.out _ HBJ.out).1
        obtain ⟨v0, v1, v2⟩ := cell3 (HXP.out _ HBJ.out).2
        rw [HC1.out] at u2
        rw [HC2.out] at v2
        by_cases hjl : j < c1
        rotate_left
        · have d2 : decide (j < c1) = false := decide_eq_false hjl
          have HN := Lib.hid (HNX2.out (by
            have h1 := HE.out
            rwa [List.take_of_length_le (by have := HC1.out; omega), List.take_of_length_le (by have := HC2.out; omega)] at h1))
          have HB6 := Lib.hid (HBC.out.trans (HBJ.out.mono HBC.out.size))
          clear HE hjl hj HNX2 HNE2 HBJ
          go_wp2_with fail
          go_roundw
          case rel => exact ⟨k + 1, by omega, by go_num, HN, HB6⟩
          case measure => simp [intOf]; omega
        have d2 : decide (j < c1) = true := decide_eq_true hjl
        have hj0 : (0 : Int) ≤ (j : Int) := by omega
        have hjc : (j : Int) < (c1 : Int) := by omega
        have hka : j < p.code.length := by have := HC1.out; omega
        have hkb : j < q.code.length := by have := HC2.out; omega
        obtain ⟨b5, o5, hA, -, s0, s1, s2, s3⟩ := (HPI.out.below HBJ.out).at hka
        obtain ⟨b6, o6, hB, -, t0, t1, t2, t3⟩ := (HQI.out.below HBJ.out).at hkb
        rw [hA] at u2
        rw [hB] at v2
        have HN3 := Lib.hid (fun h0 : p.code[j] = q.code[j] => take_eq_next hka hkb HE.out h0)
        have HN4 : Hid (p.code[j] ≠ q.code[j] → r = false) := Lib.hid (fun h0 => HNE2.out (fun e => h0 (by simp only [e])))
        obtain ⟨x, hx⟩ : ∃ p', p.code[j] = p' := ⟨_, rfl⟩
        obtain ⟨y, hy⟩ : ∃ p', q.code[j] = p' := ⟨_, rfl⟩
        rw [hx] at s0 s1 s2 s3 HN3 HN4
        rw [hy] at t0 t1 t2 t3 HN3 HN4
        have hcm := fun W => cmp_ins x y W
        clear hx hy hka hkb hA hB HE
        by_cases he : x = y
        · have HN := Lib.hid (HN3.out he)
          rw [decide_eq_true he] at hcm
          clear he HN3 HN4
          go_wp2_with fail
          go_quiet (fail)
          generalize nq = q1
          have HB6 := Lib.hid (below_any q1 HBJ.out)
          clear HBJ u0 u1 u2 v0 v1 v2 s0 s1 s2 s3 t0 t1 t2 t3 hcm
          generalize wr.drewN q1 = w6 at *
          go_wp2_with fail
          go_roundw
          case rel => exact ⟨j + 1, by omega, by go_num, HN, HB6⟩
          case measure => simp [intOf]; omega
        · have HD := Lib.hid (HN4.out he)
          rw [decide_eq_false he] at hcm
          clear he HN3 HN4
          go_wp2_with fail
          go_quiet (fail)
          generalize nq = q1
          have HB6 := Lib.hid (HBC.out.trans ((below_any q1 HBJ.out).mono HBC.out.size))
          clear HBJ u0 u1 u2 v0 v1 v2 s0 s1 s2 s3 t0 t1 t2 t3 hcm
          generalize wr.drewN q1 = w6 at *
          go_wp2_with fail
          go_ret
          exact ⟨by rw [HD.out]; rfl, HB.out.trans (HB6.out.mono HB.out.size)⟩
end Go.Proofs.YtccofgdcpmplmaaGreatDoor
