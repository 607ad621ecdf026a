/- The listing of a program. -/
import Derived.Test.YtccofgdcpmplmaaGreatDoorLim
import Derived.Deep.RegionHeld3
namespace Go.Proofs.YtccofgdcpmplmaaGreatDoor
open Go Go.RowKit Go.Shelf
/-- A line of texts that lie in a new row. -/
theorem line_new (B : Nat) (l : List UInt8) (fs : List ByteArray) (W : World) (hg : Gr B l W) (hn : fs.length ≤ 1000) (hj : (joinS fs).length ≤ 100000) (h0 : joinS fs ≠ []) (hm : l.length ≤ 10000000) :
    Calls Tryz.prog 14 #[GrP B, .slice (some ⟨W.heap.size, 0, none⟩) fs.length fs.length] (W.alloc (.cells (cellsS fs).toArray 9)) fun e w' => e = .returned (.tuple #[]) ∧ Gr B (l ++ (joinS fs ++ [10])) w' ∧ Below B W w' ∧ K34 W w' := by
  have hb := below_new W (.cells (cellsS fs).toArray 9)
  have hl := (Array.getElem?_eq_some_iff.1 (heap_alloc_new W (.cells (cellsS fs).toArray 9))).1
  refine (line_any B l W.heap.size 0 fs.length fs (W.alloc (.cells (cellsS fs).toArray 9)) (gr_below hg hb) (fun j x hx => nthS W fs j x hx) hl hn (Nat.le_refl _) (by omega) h0 (by omega)).mono ?_
  rintro e w' ⟨h1, h2, h3, h4⟩
  exact ⟨h1, by rw [← List.append_assoc]; exact h2, (hb.mono (Nat.le_of_lt (gr_lt hg))).trans h3, (k34_below hb).trans h4⟩
theorem joinF_fine (p : Pr) (h : inI p.params ∧ inI p.regs) : (joinS [tF, itS p.params, itS p.regs]).length ≤ 100000 ∧ joinS [tF, itS p.params, itS p.regs] ≠ [] := by
  have h1 := lF_len h
  constructor
  · unfold lF at h1
    rw [List.length_append] at h1
    omega
  · simp [joinS, join_three]
theorem joinI_fine (x : Ins) (h : x.ok) : (joinS [itS x.op, itS x.a, itS x.b, itS x.c]).length ≤ 100000 ∧ joinS [itS x.op, itS x.a, itS x.b, itS x.c] ≠ [] := by
  have h1 := lI_len h
  constructor
  · unfold lI at h1
    rw [List.length_append] at h1
    omega
  · simp [joinS, join_four]
theorem joinZ_fine (z : Int) (h : inI z) : (joinS [tI, itS z]).length ≤ 100000 ∧ joinS [tI, itS z] ≠ [] := by
  have h1 := lZ_len h
  constructor
  · unfold lZ at h1
    rw [List.length_append] at h1
    omega
  · simp [joinS, join_two]
theorem joinT_fine (s : ByteArray) (h : s.size ≤ 4000) : (joinS [tT, ofL (speL s)]).length ≤ 100000 ∧ joinS [tT, ofL (speL s)] ≠ [] := by
  have h1 := lT_len s
  constructor
  · unfold lT at h1
    rw [List.length_append] at h1
    omega
  · simp [joinS, join_two]
set_option maxRecDepth 100000 in
set_option maxHeartbeats 16000000 in
theorem list_no (g : Pg) (w : World) (hg : g.at w) (hf : g.fit) (he : Env w) (hno : checkB g = false) :
    Calls Tryz.prog 7 #[.agg g.vals] w fun e w' => e = .returned (.tuple #[.string { data := #[] }, .int .i64 2]) ∧ Below w.heap.size w w' := by
  have HB := Lib.hid (below_new w (.cells g.vals 26))
  have HX := Lib.hid (BXG.new hg)
  have HCK : Hid (∀ W, Below (w.alloc (.cells g.vals 26)).heap.size (w.alloc (.cells g.vals 26)) W → Calls Tryz.prog 12 #[.agg #[.slice g.PA g.ps.length g.Pc, .slice g.IA g.is.length g.Ic, .slice g.TA g.ts.length g.Tc]] W fun e w' => e = .returned (.int .i64 2) ∧ Below W.heap.size W w') := Lib.hid (fun W hb => by
    have h := check_any g W (HX.out.g.below hb) hf (he.below (HB.out.trans (hb.mono HB.out.size))).spc
    rw [hno] at h
    exact h)
  clear hg he hf hno
  go_enter Tryz.func7, Tryz.ntmps7
  go_upto_region 1 with (fail)
  generalize w.alloc (.cells g.vals 26) = w1 at *
  have HC1 := Lib.hid (HCK.out w1 (Below.refl _ _))
  obtain ⟨x0, x1, x2⟩ := HX.out.cells
  go_wp2_with fail
  refine HC1.out.mono ?_
  rintro e w2 ⟨rfl, hb2⟩
  have HB2 := Lib.hid hb2
  clear HC1 HCK x0 x1 x2 hb2
  go_wp2_with fail
  go_ret2
  exact ⟨rfl, HB.out.trans (HB2.out.mono HB.out.size)⟩
set_option maxRecDepth 100000 in
set_option maxHeartbeats 16000000 in
theorem list_yes (g : Pg) (w : World) (hg : g.at w) (hl : g.lim) (he : Env w) (hyes : checkB g = true) :
    Calls Tryz.prog 7 #[.agg g.vals] w fun e w' => e = .returned (.tuple #[.string (ofL (listL g)), .int .i64 0]) ∧ Below w.heap.size w w' := by
  have HB := Lib.hid (below_new w (.cells g.vals 26))
  have HX := Lib.hid (BXG.new hg)
  have HLM := Lib.hid hl
  obtain ⟨n1, hn1⟩ : ∃ n, g.ps.length = n := ⟨_, rfl⟩
  obtain ⟨n2, hn2⟩ : ∃ n, g.is.length = n := ⟨_, rfl⟩
  obtain ⟨n3, hn3⟩ : ∃ n, g.ts.length = n := ⟨_, rfl⟩
  have HN := Lib.hid (And.intro hn1 (And.intro hn2 hn3))
  have HCK : Hid (∀ W, Below (w.alloc (.cells g.vals 26)).heap.size (w.alloc (.cells g.vals 26)) W → Calls Tryz.prog 12 #[.agg #[.slice g.PA n1 g.Pc, .slice g.IA n2 g.Ic, .slice g.TA n3 g.Tc]] W fun e w' => e = .returned (.int .i64 0) ∧ Below W.heap.size W w') := Lib.hid (fun W hb => by
    have h := check_any g W (HX.out.g.below hb) hl.fit (he.below (HB.out.trans (hb.mono HB.out.size))).spc
    rw [hyes] at h
    rw [← hn1, ← hn2, ← hn3]
    exact h)
  have HE : Hid (∀ W, Below w.heap.size w W → Env W) := Lib.hid (fun W hb => he.below hb)
  clear hg he hl hyes hn1 hn2 hn3
  go_enter Tryz.func7, Tryz.ntmps7
  go_upto_region 1 with (fail)
  generalize w.alloc (.cells g.vals 26) = w1 at *
  have HC1 := Lib.hid (HCK.out w1 (Below.refl _ _))
  have hcx : ∀ W, Below w1.heap.size w1 W → W.cell? ⟨w.heap.size, 0, none⟩ = some (.slice g.PA n1 g.Pc) ∧ W.cell? ⟨w.heap.size, 1, none⟩ = some (.slice g.IA n2 g.Ic) ∧ W.cell? ⟨w.heap.size, 2, none⟩ = some (.slice g.TA n3 g.Tc) := fun W hb => by
    have h := (HX.out.below hb).cells
    rw [HN.out.1, HN.out.2.1, HN.out.2.2] at h
    exact h
  have HCX := Lib.hid hcx
  clear hcx
  obtain ⟨x0, x1, x2⟩ := HCX.out _ (Below.refl _ _)
  go_wp2_with fail
  refine HC1.out.mono ?_
  rintro e w2 ⟨rfl, hb2⟩
  have HB2 := Lib.hid hb2
  clear HC1 HCK x0 x1 x2 hb2
  go_upto_region 5 with (fail)
  have HG3 := Lib.hid (gr_new w2)
  have HB3 := Lib.hid (below_new w2 (.cells #[.pointer none, .slice none 0 0] 50))
  generalize w2.alloc (.cells #[.pointer none, .slice none 0 0] 50) = w3 at *
  have HS2 : Hid (∀ W, Below w2.heap.size w2 W → Below w1.heap.size w1 W) := Lib.hid (fun W h => HB2.out.trans (h.mono HB2.out.size))
  have HSB : Hid (∀ W, Below w2.heap.size w2 W → Below w1.heap.size w1 W) := HS2
  have HEW : Hid (∀ W, Below w2.heap.size w2 W → Env W) := Lib.hid (fun W h => HE.out W (HB.out.trans ((HS2.out W h).mono HB.out.size)))
  have HGW : Hid (∀ W, Below w2.heap.size w2 W → g.at W) := Lib.hid (fun W h => HX.out.g.below (HS2.out W h))
  obtain ⟨x0, x1, x2⟩ := HCX.out _ (HS2.out _ HB3.out)
  have HBS := Lib.hid (Nat.le_refl w2.heap.size)
  generalize w2.heap.size = B at *
  go_wp2_with fail
  clear x0 x1 x2
  go_loopw [22] (fun i wr => ∃ k : Nat, k ≤ n1 ∧ i = .int .i64 k ∧ Hid (Gr B (protsL (g.ps.take k)) wr) ∧ Hid (Below B w2 wr)) (fun i _ => n1 - (intOf i).toNat)
  case atStart => exact ⟨0, by omega, rfl, HG3, HB3⟩
  case round =>
    obtain ⟨k, hk, rfl, HGR, HBR⟩ := hrel
    by_cases hlt : k < n1
    rotate_left
    · have HAL : Hid (protsL (g.ps.take k) = protsL g.ps) := Lib.hid (by rw [List.take_of_length_le (by have := HN.out.1; omega)])
      have HGR2 : Hid (Gr B (protsL g.ps) wr) := Lib.hid (by rw [← HAL.out]; exact HGR.out)
      obtain ⟨x0, x1, x2⟩ := HCX.out _ (HS2.out _ HBR.out)
      have d1 : decide (k < n1) = false := decide_eq_false hlt
      have d2 : decide ((k : Int) < (n1 : Int)) = false := decide_eq_false (by omega)
      go_wp2_with fail
      clear x0 x1 x2 HGR HAL d1 d2
      go_loopw [60] (fun i wr => ∃ k : Nat, k ≤ n2 ∧ i = .int .i64 k ∧ Hid (Gr B (protsL g.ps ++ intsL (g.is.take k)) wr) ∧ Hid (Below B w2 wr)) (fun i _ => n2 - (intOf i).toNat)
      case atStart => exact ⟨0, by omega, rfl, by simpa [intsL] using HGR2, HBR⟩
      case round =>
        clear HGR2 HBR
        obtain ⟨k2, hk2, rfl, HGR, HBR⟩ := hrel
        by_cases hlt2 : k2 < n2
        rotate_left
        · have HAL : Hid (intsL (g.is.take k2) = intsL g.is) := Lib.hid (by rw [List.take_of_length_le (by have := HN.out.2.1; omega)])
          have HGR2 : Hid (Gr B (protsL g.ps ++ intsL g.is) wr) := Lib.hid (by rw [← HAL.out]; exact HGR.out)
          obtain ⟨x0, x1, x2⟩ := HCX.out _ (HS2.out _ HBR.out)
          have d1 : decide (k2 < n2) = false := decide_eq_false hlt2
          have d2 : decide ((k2 : Int) < (n2 : Int)) = false := decide_eq_false (by omega)
          go_wp2_with fail
          clear x0 x1 x2 HGR HAL d1 d2
          go_loopw [72] (fun i wr => ∃ k : Nat, k ≤ n3 ∧ i = .int .i64 k ∧ Hid (Gr B (protsL g.ps ++ intsL g.is ++ textsL (g.ts.take k)) wr) ∧ Hid (Below B w2 wr)) (fun i _ => n3 - (intOf i).toNat)
          case atStart => exact ⟨0, by omega, rfl, by simpa [textsL] using HGR2, HBR⟩
          case round =>
            clear HGR2 HBR
            obtain ⟨k3, hk3, rfl, HGR, HBR⟩ := hrel
            by_cases hlt3 : k3 < n3
            rotate_left
            · have HAL : Hid (textsL (g.ts.take k3) = textsL g.ts) := Lib.hid (by rw [List.take_of_length_le (by have := HN.out.2.2; omega)])
              have HGR2 : Hid (Gr B (listL g) wr) := Lib.hid (by unfold listL; rw [← HAL.out]; exact HGR.out)
              have d1 : decide (k3 < n3) = false := decide_eq_false hlt3
              have d2 : decide ((k3 : Int) < (n3 : Int)) = false := decide_eq_false (by omega)
              have HD := Lib.hid (done_gr B (listL g) _ HGR2.out)
              go_wp2_with fail
              refine HD.out.mono ?_
              rintro e w8 ⟨rfl, hb8⟩
              have HB8 := Lib.hid (HBR.out.trans hb8)
              clear hb8 HD
              go_wp2_with fail
              go_ret2
              exact ⟨rfl, HB.out.trans ((HSB.out _ HB8.out).mono HB.out.size)⟩
            have hka : k3 < g.ts.length := by have := HN.out.2.2; omega
            obtain ⟨b6, o6, hT, hb6, u0⟩ := rdS_at (HGW.out _ HBR.out).ts hka
            have HNX := Lib.hid (textsL_next hka)
            have HSZ := Lib.hid (HLM.out.text (List.getElem_mem hka))
            obtain ⟨s, hs⟩ : ∃ s, g.ts[k3] = s := ⟨_, rfl⟩
            rw [hs] at u0 HNX HSZ
            have hbd : k3 ≤ 4000 := by have h1 := HLM.out.t; have h2 := HN.out.2.2; omega
            have hk0 : (0 : Int) ≤ (k3 : Int) := by omega
            have hkl : (k3 : Int) < (n3 : Int) := by omega
            have d1 : decide (k3 < n3) = true := decide_eq_true hlt3
            have HSP := Lib.hid (spelled_any s wr (by have := HSZ.out; omega))
            have HLN : Hid (∀ W, Below wr.heap.size wr W → Calls Tryz.prog 14 #[GrP B, .slice (some ⟨W.heap.size, 0, none⟩) 2 2] (W.alloc (.cells #[.string tT, .string (ofL (speL s))] 9)) fun e w' => e = .returned (.tuple #[]) ∧ Gr B (protsL g.ps ++ intsL g.is ++ textsL (g.ts.take (k3 + 1))) w' ∧ Below B W w' ∧ K34 W w') := Lib.hid (fun W hb => by
              have hf := joinT_fine s HSZ.out
              have h := line_new B (protsL g.ps ++ intsL g.is ++ textsL (g.ts.take k3)) [tT, ofL (speL s)] W (gr_below HGR.out hb) (by simp) hf.1 hf.2 (by
                have h1 := HLM.out.all
                have h2 := HLM.out.ints g.is.length
                have h3 := HLM.out.texts k3
                rw [List.take_length] at h2
                simp only [List.length_append]
                omega)
              rw [HNX.out, ← List.append_assoc]
              exact h)
            rw [hT]
            clear hs hT hka
            go_wp2_with fail
            refine HSP.out.mono ?_
            rintro e w5 ⟨rfl, hb5⟩
            have HB5 := Lib.hid hb5
            have HL5 := Lib.hid (HLN.out _ hb5)
            clear hb5 HSP u0
            go_wp2_with fail
            refine HL5.out.mono ?_
            rintro e w6 ⟨rfl, hg6, hb6', hk6⟩
            have HG6 := Lib.hid hg6
            have HB6 := Lib.hid ((HBR.out.trans (HB5.out.mono (Nat.le_of_lt (gr_lt HGR.out)))).trans hb6')
            clear hg6 hb6' hk6 HL5
            go_wp2_with fail
            go_roundw
            case rel => exact ⟨k3 + 1, by omega, by go_num, HG6, HB6⟩
            case measure => simp [intOf]; omega
        have hka : k2 < g.is.length := by have := HN.out.2.1; omega
        obtain ⟨b6, o6, hT, hb6, u0⟩ := rdZ_at (HGW.out _ HBR.out).is hka
        have HNX := Lib.hid (intsL_next hka)
        have HSZ := Lib.hid (HLM.out.io _ (List.getElem_mem hka))
        obtain ⟨s, hs⟩ : ∃ s, g.is[k2] = s := ⟨_, rfl⟩
        rw [hs] at u0 HNX HSZ
        have hbd : k2 ≤ 4000 := by have h1 := HLM.out.i; have h2 := HN.out.2.1; omega
        have hk0 : (0 : Int) ≤ (k2 : Int) := by omega
        have hkl : (k2 : Int) < (n2 : Int) := by omega
        have d1 : decide (k2 < n2) = true := decide_eq_true hlt2
        have HSP := Lib.hid (fmt_any s wr HSZ.out (HEW.out _ HBR.out))
        have HLN : Hid (∀ W, Below wr.heap.size wr W → Calls Tryz.prog 14 #[GrP B, .slice (some ⟨W.heap.size, 0, none⟩) 2 2] (W.alloc (.cells #[.string tI, .string (itS s)] 9)) fun e w' => e = .returned (.tuple #[]) ∧ Gr B (protsL g.ps ++ intsL (g.is.take (k2 + 1))) w' ∧ Below B W w' ∧ K34 W w') := Lib.hid (fun W hb => by
          have hf := joinZ_fine s HSZ.out
          have h := line_new B (protsL g.ps ++ intsL (g.is.take k2)) [tI, itS s] W (gr_below HGR.out hb) (by simp) hf.1 hf.2 (by
            have h1 := HLM.out.all
            have h2 := HLM.out.ints k2
            simp only [List.length_append]
            omega)
          rw [HNX.out, ← List.append_assoc]
          exact h)
        rw [hT]
        clear hs hT hka
        go_wp2_with fail
        refine HSP.out.mono ?_
        rintro e w5 ⟨rfl, hb5⟩
        have HB5 := Lib.hid hb5
        have HL5 := Lib.hid (HLN.out _ hb5)
        clear hb5 HSP u0
        go_wp2_with fail
        refine HL5.out.mono ?_
        rintro e w6 ⟨rfl, hg6, hb6', hk6⟩
        have HG6 := Lib.hid hg6
        have HB6 := Lib.hid ((HBR.out.trans (HB5.out.mono (Nat.le_of_lt (gr_lt HGR.out)))).trans hb6')
        clear hg6 hb6' hk6 HL5
        go_wp2_with fail
        go_roundw
        case rel => exact ⟨k2 + 1, by omega, by go_num, HG6, HB6⟩
        case measure => simp [intOf]; omega
    have hka : k < g.ps.length := by have := HN.out.1; omega
    obtain ⟨b3, o3, hA, hb3, u0, u1, u2⟩ := (HGW.out _ HBR.out).ps.at hka
    have HNX := Lib.hid (protsL_next hka)
    have HOK := Lib.hid (HLM.out.fit.r _ (List.getElem_mem hka))
    have HCL := Lib.hid (HLM.out.code (List.getElem_mem hka))
    have HRC : Hid (∀ W, Below B w2 W → RdI W g.ps[k].A g.ps[k].code) := Lib.hid (fun W hb => (HGW.out W hb).code _ (List.getElem_mem hka))
    obtain ⟨p, hp⟩ : ∃ p, g.ps[k] = p := ⟨_, rfl⟩
    rw [hp] at u0 u1 u2 HNX HOK HRC HCL
    obtain ⟨m, hm⟩ : ∃ m, p.code.length = m := ⟨_, rfl⟩
    rw [hm] at u2
    have HM := Lib.hid hm
    have hbd : k ≤ 4000 := by have h1 := HLM.out.p; have h2 := HN.out.1; omega
    have hbm : m ≤ 4000 := by have h1 := HCL.out; omega
    have hk0 : (0 : Int) ≤ (k : Int) := by omega
    have hkl : (k : Int) < (n1 : Int) := by omega
    have d1 : decide (k < n1) = true := decide_eq_true hlt
    rw [hA]
    have HX4 : Hid ((wr.alloc (.cells #[.int .i64 p.params, .int .i64 p.regs, .slice p.A m p.cap] 39)).heap[wr.heap.size]? = some (.cells #[.int .i64 p.params, .int .i64 p.regs, .slice p.A m p.cap] 39 (0, 0))) := Lib.hid (heap_alloc_new wr _)
    have HB4 := Lib.hid (HBR.out.trans ((below_new wr (.cells #[.int .i64 p.params, .int .i64 p.regs, .slice p.A m p.cap] 39)).mono (Nat.le_of_lt (gr_lt HGR.out))))
    have HG4 := Lib.hid (gr_below HGR.out (below_new wr (.cells #[.int .i64 p.params, .int .i64 p.regs, .slice p.A m p.cap] 39)))
    clear hp hm hka hA HGR HBR
    go_upto_region 8 with (fail)
    generalize wr.alloc _ = w4 at *
    generalize wr.heap.size = Bf at *
    clear u0 u1 u2
    obtain ⟨y0, y1, y2⟩ := cell3 HX4.out
    have HBD := Lib.hid ((Below.refl w4.heap.size w4).drew)
    have HTR : Hid (∀ A C, Below w4.heap.size w4 A → Below A.heap.size A C → Below w4.heap.size w4 C) := Lib.hid (fun A C h k => h.trans (k.mono h.size))
    have HIP : Hid (∀ W, Below w4.heap.size w4 W → Calls Tryz.prog 15 #[.int .i64 p.params] W fun e w' => e = .returned (.string (itS p.params)) ∧ Below W.heap.size W w') := Lib.hid (fun W hb => itoa_any _ W HOK.out.1 ((HEW.out _ HB4.out).below hb))
    have HIR : Hid (∀ W, Below w4.heap.size w4 W → Calls Tryz.prog 15 #[.int .i64 p.regs] W fun e w' => e = .returned (.string (itS p.regs)) ∧ Below W.heap.size W w') := Lib.hid (fun W hb => itoa_any _ W HOK.out.2.1 ((HEW.out _ HB4.out).below hb))
    have HYC : Hid (∀ W, Below w4.heap.size w4 W → W.cell? ⟨Bf, 0, none⟩ = some (.int .i64 p.params) ∧ W.cell? ⟨Bf, 1, none⟩ = some (.int .i64 p.regs)) := Lib.hid (fun W hb => by
      obtain ⟨a0, a1, _⟩ := cell3 ((hb.block _ (Array.getElem?_eq_some_iff.1 HX4.out).1).trans HX4.out)
      exact ⟨a0, a1⟩)
    have HLN : Hid (∀ W, Below w4.heap.size w4 W → Calls Tryz.prog 14 #[GrP B, .slice (some ⟨W.heap.size, 0, none⟩) 3 3] (W.alloc (.cells #[.string tF, .string (itS p.params), .string (itS p.regs)] 9)) fun e w' => e = .returned (.tuple #[]) ∧ Gr B (protsL (g.ps.take k) ++ lF p) w' ∧ Below B w2 w' ∧ w'.heap[Bf]? = some (.cells #[.int .i64 p.params, .int .i64 p.regs, .slice p.A m p.cap] 39 (0, 0))) := Lib.hid (fun W hb => by
      have hf := joinF_fine p ⟨HOK.out.1, HOK.out.2.1⟩
      refine (line_new B (protsL (g.ps.take k)) [tF, itS p.params, itS p.regs] W (gr_below HG4.out hb) (by simp) hf.1 hf.2 (by have := HLM.out.take k; omega)).mono ?_
      rintro e w' ⟨h1, h2, h3, h4⟩
      exact ⟨h1, h2, (HB4.out.trans (hb.mono (Nat.le_of_lt (gr_lt HG4.out)))).trans h3, h4 39 (.inl rfl) _ _ _ ((hb.block _ (Array.getElem?_eq_some_iff.1 HX4.out).1).trans HX4.out)⟩)
    go_region_held3 (fun W => W.cell? ⟨Bf, 0, none⟩ = some (.int .i64 p.params) ∧ W.cell? ⟨Bf, 1, none⟩ = some (.int .i64 p.regs))
      (first | assumption | (exact ⟨y0, y1⟩) | (exact ⟨z0, z1⟩) | go_keep | fail)
      (first
        | (go_at_call 15; with_reducible (refine (HIP.out _ HBD.out).mono ?_); rintro e w5 ⟨rfl, hb5⟩; have HB5 := Lib.hid (HTR.out _ _ HBD.out hb5); obtain ⟨z0, z1⟩ := HYC.out _ HB5.out; clear hb5)
        | (go_at_call 15; with_reducible (refine (HIR.out _ HB5.out).mono ?_); rintro e w6 ⟨rfl, hb6⟩; have HB6 := Lib.hid (HTR.out _ _ HB5.out hb6); obtain ⟨z0, z1⟩ := HYC.out _ HB6.out; clear hb6)
        | (go_at_call 14; with_reducible (refine (HLN.out _ HB6.out).mono ?_); rintro e w7 ⟨rfl, hg7, hb7, hx7⟩; have HG7 := Lib.hid hg7; have HB7 := Lib.hid hb7; have HX7 := Lib.hid hx7; obtain ⟨z0, z1, z2⟩ := cell3 hx7; clear hg7 hb7 hx7))
    clear y0 y1 y2
    go_wp2_with fail
    clear z0 z1 z2 HX4 HB4 HG4 HIP HIR HYC HLN HB5 HB6 HTR HBD HX7
    go_loopw [37] (fun i wr => ∃ j : Nat, j ≤ m ∧ i = .int .i64 j ∧ Hid (Gr B (protsL (g.ps.take k) ++ lF p ++ codeL (p.code.take j)) wr) ∧ Hid (Below B w2 wr)) (fun i _ => m - (intOf i).toNat)
    case atStart => exact ⟨0, by omega, rfl, by simpa [codeL] using HG7, HB7⟩
    case round =>
    clear HG7 HB7
    obtain ⟨j, hj, rfl, HGJ, HBJ⟩ := hrel
    by_cases hlj : j < m
    rotate_left
    · have HAL : Hid (Gr B (protsL (g.ps.take (k + 1))) wr) := Lib.hid (by
        have h1 := HGJ.out
        have e9 : p.code.take j = p.code := List.take_of_length_le (by have := HM.out; omega)
        rw [e9, List.append_assoc] at h1
        rw [HNX.out]
        exact h1)
      have d1 : decide (j < m) = false := decide_eq_false hlj
      have d2 : decide ((j : Int) < (m : Int)) = false := decide_eq_false (by omega)
      go_wp2_with fail
      go_roundw
      case rel => exact ⟨k + 1, by omega, by go_num, HAL, HBJ⟩
      case measure => simp [intOf]; omega
    have hjc : j < p.code.length := by have := HM.out; omega
    obtain ⟨b5, o5, hE, hb5, u0, u1, u2, u3⟩ := (HRC.out _ HBJ.out).at hjc
    have HNJ := Lib.hid (codeL_next hjc)
    have HXO := Lib.hid (HOK.out.2.2 _ (List.getElem_mem hjc))
    obtain ⟨x, hx⟩ : ∃ x, p.code[j] = x := ⟨_, rfl⟩
    rw [hx] at u0 u1 u2 u3 HNJ HXO
    have hj0 : (0 : Int) ≤ (j : Int) := by omega
    have hjl : (j : Int) < (m : Int) := by omega
    have d1 : decide (j < m) = true := decide_eq_true hlj
    rw [hE]
    have HX8 : Hid ((wr.alloc (.cells #[.int .i64 x.op, .int .i64 x.a, .int .i64 x.b, .int .i64 x.c] 42)).heap[wr.heap.size]? = some (.cells #[.int .i64 x.op, .int .i64 x.a, .int .i64 x.b, .int .i64 x.c] 42 (0, 0))) := Lib.hid (heap_alloc_new wr _)
    have HB8 := Lib.hid (HBJ.out.trans ((below_new wr (.cells #[.int .i64 x.op, .int .i64 x.a, .int .i64 x.b, .int .i64 x.c] 42)).mono (Nat.le_of_lt (gr_lt HGJ.out))))
    have HG8 := Lib.hid (gr_below HGJ.out (below_new wr (.cells #[.int .i64 x.op, .int .i64 x.a, .int .i64 x.b, .int .i64 x.c] 42)))
    clear hx hE hjc HGJ HBJ
    go_upto_region 12 with (fail)
    generalize wr.alloc _ = w8 at *
    generalize wr.heap.size = Bx at *
    clear u0 u1 u2 u3
    obtain ⟨y0, y1, y2, y3⟩ := cell4 HX8.out
    have HBD := Lib.hid ((Below.refl w8.heap.size w8).drew)
    have HTR2 : Hid (∀ A C, Below w8.heap.size w8 A → Below A.heap.size A C → Below w8.heap.size w8 C) := Lib.hid (fun A C h k => h.trans (k.mono h.size))
    have HI1 : Hid (∀ W, Below w8.heap.size w8 W → Calls Tryz.prog 15 #[.int .i64 x.op] W fun e w' => e = .returned (.string (itS x.op)) ∧ Below W.heap.size W w') := Lib.hid (fun W hb => itoa_any _ W HXO.out.1 ((HEW.out _ HB8.out).below hb))
    have HI2 : Hid (∀ W, Below w8.heap.size w8 W → Calls Tryz.prog 15 #[.int .i64 x.a] W fun e w' => e = .returned (.string (itS x.a)) ∧ Below W.heap.size W w') := Lib.hid (fun W hb => itoa_any _ W HXO.out.2.1 ((HEW.out _ HB8.out).below hb))
    have HI3 : Hid (∀ W, Below w8.heap.size w8 W → Calls Tryz.prog 15 #[.int .i64 x.b] W fun e w' => e = .returned (.string (itS x.b)) ∧ Below W.heap.size W w') := Lib.hid (fun W hb => itoa_any _ W HXO.out.2.2.1 ((HEW.out _ HB8.out).below hb))
    have HI4 : Hid (∀ W, Below w8.heap.size w8 W → Calls Tryz.prog 15 #[.int .i64 x.c] W fun e w' => e = .returned (.string (itS x.c)) ∧ Below W.heap.size W w') := Lib.hid (fun W hb => itoa_any _ W HXO.out.2.2.2 ((HEW.out _ HB8.out).below hb))
    have HYC2 : Hid (∀ W, Below w8.heap.size w8 W → W.cell? ⟨Bx, 0, none⟩ = some (.int .i64 x.op) ∧ W.cell? ⟨Bx, 1, none⟩ = some (.int .i64 x.a) ∧ W.cell? ⟨Bx, 2, none⟩ = some (.int .i64 x.b) ∧ W.cell? ⟨Bx, 3, none⟩ = some (.int .i64 x.c)) := Lib.hid (fun W hb => cell4 ((hb.block _ (Array.getElem?_eq_some_iff.1 HX8.out).1).trans HX8.out))
    have HLN : Hid (∀ W, Below w8.heap.size w8 W → Calls Tryz.prog 14 #[GrP B, .slice (some ⟨W.heap.size, 0, none⟩) 4 4] (W.alloc (.cells #[.string (itS x.op), .string (itS x.a), .string (itS x.b), .string (itS x.c)] 9)) fun e w' => e = .returned (.tuple #[]) ∧ Gr B (protsL (g.ps.take k) ++ lF p ++ codeL (p.code.take (j + 1))) w' ∧ Below B w2 w' ∧ w'.heap[Bx]? = some (.cells #[.int .i64 x.op, .int .i64 x.a, .int .i64 x.b, .int .i64 x.c] 42 (0, 0))) := Lib.hid (fun W hb => by
      have hf := joinI_fine x HXO.out
      refine (line_new B (protsL (g.ps.take k) ++ lF p ++ codeL (p.code.take j)) [itS x.op, itS x.a, itS x.b, itS x.c] W (gr_below HG8.out hb) (by simp) hf.1 hf.2 (by
        have h1 := HLM.out.take k
        have h2 := lF_len ⟨HOK.out.1, HOK.out.2.1⟩
        have h3 := codeL_len (l := p.code.take j) (fun y hy => HOK.out.2.2 y (List.mem_of_mem_take hy))
        have h4 : (p.code.take j).length ≤ p.code.length := by rw [List.length_take]; omega
        have h5 := HCL.out
        simp only [List.length_append]
        omega)).mono ?_
      rintro e w' ⟨h1, h2, h3, h4⟩
      exact ⟨h1, by rw [HNJ.out, ← List.append_assoc]; exact h2, (HB8.out.trans (hb.mono (Nat.le_of_lt (gr_lt HG8.out)))).trans h3, h4 42 (.inr rfl) _ _ _ ((hb.block _ (Array.getElem?_eq_some_iff.1 HX8.out).1).trans HX8.out)⟩)
    go_region_held3 (fun W => W.cell? ⟨Bx, 0, none⟩ = some (.int .i64 x.op) ∧ W.cell? ⟨Bx, 1, none⟩ = some (.int .i64 x.a) ∧ W.cell? ⟨Bx, 2, none⟩ = some (.int .i64 x.b) ∧ W.cell? ⟨Bx, 3, none⟩ = some (.int .i64 x.c))
      (first | assumption | (exact ⟨y0, y1, y2, y3⟩) | (exact ⟨z0, z1, z2, z3⟩) | go_keep | fail)
      (first
        | (go_at_call 15; with_reducible (refine (HI1.out _ HBD.out).mono ?_); rintro e w9 ⟨rfl, hb9⟩; have HB9 := Lib.hid (HTR2.out _ _ HBD.out hb9); obtain ⟨z0, z1, z2, z3⟩ := HYC2.out _ HB9.out; clear hb9)
        | (go_at_call 15; with_reducible (refine (HI2.out _ HB9.out).mono ?_); rintro e w10 ⟨rfl, hb10⟩; have HB10 := Lib.hid (HTR2.out _ _ HB9.out hb10); obtain ⟨z0, z1, z2, z3⟩ := HYC2.out _ HB10.out; clear hb10)
        | (go_at_call 15; with_reducible (refine (HI3.out _ HB10.out).mono ?_); rintro e w11 ⟨rfl, hb11⟩; have HB11 := Lib.hid (HTR2.out _ _ HB10.out hb11); obtain ⟨z0, z1, z2, z3⟩ := HYC2.out _ HB11.out; clear hb11)
        | (go_at_call 15; with_reducible (refine (HI4.out _ HB11.out).mono ?_); rintro e w12 ⟨rfl, hb12⟩; have HB12 := Lib.hid (HTR2.out _ _ HB11.out hb12); obtain ⟨z0, z1, z2, z3⟩ := HYC2.out _ HB12.out; clear hb12)
        | (go_at_call 14; with_reducible (refine (HLN.out _ HB12.out).mono ?_); rintro e w13 ⟨rfl, hg13, hb13, hx13⟩; have HG13 := Lib.hid hg13; have HB13 := Lib.hid hb13; obtain ⟨z0, z1, z2, z3⟩ := cell4 hx13; clear hg13 hb13 hx13))
    clear y0 y1 y2 y3
    go_wp2_with fail
    go_roundw
    case rel => exact ⟨j + 1, by omega, by go_num, HG13, HB13⟩
    case measure => simp [intOf]; omega
end Go.Proofs.YtccofgdcpmplmaaGreatDoor
