/- What the document's cache has behind a call. -/
import Derived.Test.YtpomaabkgbaikaaDoorRx
namespace Go.Proofs.YtpomaabkgbaikaaDoor
open Go Go.RowKit
theorem one2 {a b : Value} (h1 : a.oneCell' = true) (h2 : b.oneCell' = true) : (#[a, b] : Array Value).all (·.oneCell') = true := by simp [h1, h2]
theorem putOk_eq {l : List En} {t : Nat} {k s : ByteArray} (h : s.size ≤ 1000000) : putOk l t k s = (hasK l k || decide (t < 65536)) := by
  unfold putOk
  rw [decide_eq_true (show s.size ≤ 1048576 by omega), Bool.true_and]
set_option maxRecDepth 100000 in
set_option maxHeartbeats 8000000 in
theorem rdo_one (va vb : Value) (ds ns : List En) (x : Ac) (w : World) (h1 : RE w va ds) (h2 : RE w vb ns) (hd : ds.length ≤ 1000000) (hn : ns.length ≤ 1000000) (hs : x.script.size ≤ 1000000) (hw : x.what = 1) : Calls Tryd.prog 20 #[.agg #[va, vb], .agg (acV x)] w (RDQ w ds ns x) := by
  obtain ⟨A1, c1, hv1, hc1, hn1, hr1⟩ := h1
  obtain ⟨A2, c2, hv2, hc2, hn2, hr2⟩ := h2
  have HP1 := Lib.hid (RE.p (w := w) (v := va) (l := ds) ⟨A1, c1, hv1, hc1, hn1, hr1⟩)
  have HP2 := Lib.hid (RE.p (w := w) (v := vb) (l := ns) ⟨A2, c2, hv2, hc2, hn2, hr2⟩)
  have HC1 : Hid (va.oneCell' = true) := Lib.hid (by rw [hv1]; rfl)
  have HC2 : Hid (vb.oneCell' = true) := Lib.hid (by rw [hv2]; rfl)
  have HB0 := Lib.hid (b3_new w va vb x)
  have HV1 := Lib.hid hv1
  have HV2 := Lib.hid hv2
  have HR1 := Lib.hid hr1
  have HR2 := Lib.hid hr2
  have HCC1 := Lib.hid hc1
  have HCC2 := Lib.hid hc2
  have HN1 := Lib.hid hn1
  have HN2 := Lib.hid hn2
  obtain ⟨z0, z1, z2, z3, z4, zf⟩ := HB0.out.cells
  have q0 : (x.what == 0) = false := by simp [hw]
  have q1 : (x.what == 1) = true := by simp [hw]
  have HQ : Hid (aD ds ns x = [] ∧ aN ds ns x = ns ∧ aS ds ns x = ⟨#[]⟩ ∧ aE ds ns x = 0) := Lib.hid ⟨by simp [aD, hw], by simp [aN, hw], by simp [aS, hw], by simp [aE, hw]⟩
  have HP2w := Lib.hid (HP2.out.below HB0.out.bel)
  have HBX := Lib.hid (HB0.out.set 0 (.slice none 0 0) (.slice none 0 0) vb rfl)
  have HPX := Lib.hid (HP2w.out.set (j := 0) (u := .slice none 0 0))
  have HC0 := HC1
  clear hw HC1
  have HC1 : Hid ((Value.slice none 0 0).oneCell' = true) := Lib.hid rfl
  clear hv1 hv2 hr1 hr2 hc1 hc2 hn1 hn2
  go_enter Tryd.func20, Tryd.ntmps20
  go_upto_region 1 with (fail)
  generalize ((w.alloc (.cells #[va, vb] 30)).alloc (.cells (acV x) 39)).alloc (.cells #[.slice none 0 0, .slice none 0 0] 30) = W at *
  have HNL := Lib.hid (REp.nil w.heap.size (W.setCell ⟨w.heap.size, 0, none⟩ (.slice none 0 0)))
  obtain ⟨y0, y1, -, -, -, -⟩ := HBX.out.cells
  go_upto_region 12 with (fail)
  have HZ := Lib.hid HBX.out.b4
  go_wp2_with (refine wpList_store_row rfl 30 (.tmp 4) (.tmp 43) rfl (w.heap.size + 1 + 1) #[(.slice none 0 0), vb] rfl rfl 30 _ HZ.out size30 rfl (one2 HC1.out HC2.out) ?_)
  change bodyPost _ _ _ Exit.ret _ _
  refine bodyPost_ret (res20 _ (w.heap.size + 1 + 1) _ _ _ _ _ rfl rfl rfl (setRow_heap _ _ _ _ _ _ HZ.out)) rfl ?_
  exact rdq_end HBX.out HNL.out HPX.out HQ.out.1 HQ.out.2.1 HQ.out.2.2.1 HQ.out.2.2.2

set_option maxRecDepth 100000 in
set_option maxHeartbeats 8000000 in
theorem rdo_zero (va vb : Value) (ds ns : List En) (x : Ac) (w : World) (h1 : RE w va ds) (h2 : RE w vb ns) (hd : ds.length ≤ 1000000) (hn : ns.length ≤ 1000000) (hs : x.script.size ≤ 1000000) (hw : x.what = 0) : Calls Tryd.prog 20 #[.agg #[va, vb], .agg (acV x)] w (RDQ w ds ns x) := by
  obtain ⟨A1, c1, hv1, hc1, hn1, hr1⟩ := h1
  obtain ⟨A2, c2, hv2, hc2, hn2, hr2⟩ := h2
  have HP1 := Lib.hid (RE.p (w := w) (v := va) (l := ds) ⟨A1, c1, hv1, hc1, hn1, hr1⟩)
  have HP2 := Lib.hid (RE.p (w := w) (v := vb) (l := ns) ⟨A2, c2, hv2, hc2, hn2, hr2⟩)
  have HC1 : Hid (va.oneCell' = true) := Lib.hid (by rw [hv1]; rfl)
  have HC2 : Hid (vb.oneCell' = true) := Lib.hid (by rw [hv2]; rfl)
  have HB0 := Lib.hid (b3_new w va vb x)
  have HV1 := Lib.hid hv1
  have HV2 := Lib.hid hv2
  have HR1 := Lib.hid hr1
  have HR2 := Lib.hid hr2
  have HCC1 := Lib.hid hc1
  have HCC2 := Lib.hid hc2
  have HN1 := Lib.hid hn1
  have HN2 := Lib.hid hn2
  obtain ⟨z0, z1, z2, z3, z4, zf⟩ := HB0.out.cells
  have HPa0 := Lib.hid (HP1.out.below HB0.out.bel)
  have HPb0 := Lib.hid (HP2.out.below HB0.out.bel)
  have HR10 := Lib.hid (HR1.out.below HB0.out.bel)
  have HR20 := Lib.hid (HR2.out.below HB0.out.bel)
  have q0 : (x.what == 0) = true := by simp [hw]
  obtain ⟨f, g, hcv, hrb⟩ := conv_new x.script
  have hlong : decide (1048576 < x.script.size) = false := decide_eq_false (by omega)
  have HPO := Lib.hid (putOk_eq (l := ds) (t := ds.length + ns.length) (k := digP x.script) hs)
  have hnl : ¬ 1048576 < x.script.size := by omega
  have HEQ : Hid (aD ds ns x = putL ds (ds.length + ns.length) (digP x.script) x.script ∧ aN ds ns x = ns ∧ aS ds ns x = (if putE ds (ds.length + ns.length) (digP x.script) x.script = 0 then digP x.script else ⟨#[]⟩) ∧ aE ds ns x = putE ds (ds.length + ns.length) (digP x.script) x.script) := Lib.hid (by
    have e1 : pE ds (ds.length + ns.length) x.script = putE ds (ds.length + ns.length) (digP x.script) x.script := if_neg hnl
    have e2 : pL ds (ds.length + ns.length) x.script = putL ds (ds.length + ns.length) (digP x.script) x.script := if_neg hnl
    refine ⟨?_, ?_, ?_, ?_⟩
    · unfold aD; rw [if_pos hw, e2]
    · unfold aN; rw [if_pos hw]
    · unfold aS; rw [if_pos hw]; unfold pD; rw [e1]
    · unfold aE; rw [if_pos hw, e1])
  have HRM := Lib.hid (fun W (hr : RdE W A1 ds) => room_any va vb A1 c1 ds.length ns.length A1 A2 c1 c2 ds (digP x.script) W HV1.out HV2.out hr (by omega) (by omega) (by omega))
  have HWI := Lib.hid (fun W (hr : RdE W A1 ds) => with_any A1 c1 ds (digP x.script) x.script W hr hd)
  have HCV := Lib.hid hcv
  have HRB := Lib.hid hrb
  have HDI := Lib.hid (fun W (A : Option Addr) c (hr : Rd W A (bl x.script)) (h0 : A = none → c = 0) => rdig_any A x.script.size c x.script W rfl hs hr h0)
  generalize digP x.script = dg at *
  rw [HV1.out] at z0
  have hc1' := HCC1.out
  clear hw hnl hcv hrb
  clear hv1 hv2 hr1 hr2 hc1 hc2 hn1 hn2
  go_enter Tryd.func20, Tryd.ntmps20
  go_upto_region 1 with (fail)
  generalize ((w.alloc (.cells #[va, vb] 30)).alloc (.cells (acV x) 39)).alloc (.cells #[.slice none 0 0, .slice none 0 0] 30) = W at *
  have hcw := HCV.out W
  have hrw := (HRB.out W).1
  have hbw := (HRB.out W).2
  have HDW := Lib.hid (HDI.out (g W) _ (f W) hrw (by intro e; cases e))
  have HBG := Lib.hid hbw
  clear hrw hbw
  go_wp2_with fail
  refine HDW.out.mono ?_
  rintro e w2 ⟨rfl, hb2⟩
  have HBA := Lib.hid (HBG.out.trans (hb2.mono HBG.out.size))
  clear hb2 HDW hcw
  have HB1 := Lib.hid (HB0.out.below HBA.out)
  have HPa1 := Lib.hid (HPa0.out.below HBA.out)
  have HPb1 := Lib.hid (HPb0.out.below HBA.out)
  have HR11 := Lib.hid (HR10.out.below HBA.out)
  have HR21 := Lib.hid (HR20.out.below HBA.out)
  clear z0 z1 z2 z3 z4 zf
  obtain ⟨z0, z1, z2, z3, z4, zf⟩ := HB1.out.cells
  rw [HV1.out] at z0
  have HRM1 := Lib.hid (HRM.out w2 HR11.out)
  rw [HV1.out] at HRM1
  go_wp2_with fail
  refine HRM1.out.mono ?_
  rintro e w3 ⟨rfl, hb3⟩
  have HB2 := Lib.hid (HB1.out.below hb3)
  have HPa2 := Lib.hid (HPa1.out.below hb3)
  have HPb2 := Lib.hid (HPb1.out.below hb3)
  have HR12 := Lib.hid (HR11.out.below hb3)
  have HR22 := Lib.hid (HR21.out.below hb3)
  clear z0 z1 z2 z3 z4 zf
  obtain ⟨z0, z1, z2, z3, z4, zf⟩ := HB2.out.cells
  clear hb3 HRM HRM1
  rw [← HPO.out]
  cases hpo : putOk ds (ds.length + ns.length) dg x.script with
  | false =>
    have HQ : Hid (aD ds ns x = ds ∧ aN ds ns x = ns ∧ aS ds ns x = ⟨#[]⟩ ∧ aE ds ns x = 3) := Lib.hid (by
      have e1 : putE ds (ds.length + ns.length) dg x.script = 3 := by unfold putE; rw [hpo]; rfl
      have e2 : putL ds (ds.length + ns.length) dg x.script = ds := by unfold putL; rw [hpo]; rfl
      refine ⟨by rw [HEQ.out.1, e2], HEQ.out.2.1, ?_, by rw [HEQ.out.2.2.2, e1]⟩
      rw [HEQ.out.2.2.1, e1]; rfl)
    clear hpo HEQ
    go_upto_region 7 with (fail)
    have HZ := Lib.hid HB2.out.b4
    go_wp2_with (refine wpList_store_row rfl 30 (.tmp 4) (.tmp 29) rfl (w.heap.size + 1 + 1) #[va, vb] rfl rfl 30 _ HZ.out size30 rfl (one2 HC1.out HC2.out) ?_)
    change bodyPost _ _ _ Exit.ret _ _
    refine bodyPost_ret (res20 _ (w.heap.size + 1 + 1) _ _ _ _ _ rfl rfl rfl (setRow_heap _ _ _ _ _ _ HZ.out)) rfl ?_
    exact rdq_end HB2.out HPa2.out HPb2.out HQ.out.1 HQ.out.2.1 HQ.out.2.2.1 HQ.out.2.2.2

  | true =>
    have HQ : Hid (aD ds ns x = wth En.key ds ⟨dg, x.script⟩ ∧ aN ds ns x = ns ∧ aS ds ns x = dg ∧ aE ds ns x = 0) := Lib.hid (by
      have e1 : putE ds (ds.length + ns.length) dg x.script = 0 := by unfold putE; rw [hpo]; rfl
      have e2 : putL ds (ds.length + ns.length) dg x.script = wth En.key ds ⟨dg, x.script⟩ := by unfold putL; rw [hpo]; rfl
      refine ⟨by rw [HEQ.out.1, e2], HEQ.out.2.1, ?_, by rw [HEQ.out.2.2.2, e1]⟩
      rw [HEQ.out.2.2.1, e1]; rfl)
    clear hpo HEQ
    rw [HV1.out] at z0
    have HWI1 := Lib.hid (HWI.out w3 HR12.out)
    go_wp2_with fail
    refine HWI1.out.mono ?_
    rintro e w4 ⟨v, rfl, hoe⟩
    have HOP := Lib.hid (hoe.p HB2.out.lt)
    have HOC : Hid (v.oneCell' = true) := Lib.hid (by obtain ⟨A4, c4, hv4, -⟩ := own_rdE hoe.own; rw [hv4]; rfl)
    have HBE := Lib.hid (hoe.bel)
    have HB3 := Lib.hid (HB2.out.below HBE.out)
    have HPa3 := Lib.hid (HPa2.out.below HBE.out)
    have HPb3 := Lib.hid (HPb2.out.below HBE.out)
    have HR13 := Lib.hid (HR12.out.below HBE.out)
    have HR23 := Lib.hid (HR22.out.below HBE.out)
    clear z0 z1 z2 z3 z4 zf
    obtain ⟨z0, z1, z2, z3, z4, zf⟩ := HB3.out.cells

    obtain ⟨A4, c4, hv4, -, -, -, -, -⟩ := own_rdE hoe.own
    subst hv4
    have HBX := Lib.hid (HB3.out.set 0 (.slice A4 (wth En.key ds ⟨dg, x.script⟩).length c4) (.slice A4 (wth En.key ds ⟨dg, x.script⟩).length c4) vb rfl)
    have HPX := Lib.hid (HPb3.out.set (j := 0) (u := .slice A4 (wth En.key ds ⟨dg, x.script⟩).length c4))
    have HPY := Lib.hid (HOP.out.set (j := 0) (u := .slice A4 (wth En.key ds ⟨dg, x.script⟩).length c4))
    have HC1' := HC1
    clear HC1 hoe HWI HWI1
    have HC1 := HOC
    generalize (wth En.key ds ⟨dg, x.script⟩) = L at *
    go_upto_region 9 with (fail)
    obtain ⟨y0, y1, -, -, -, -⟩ := HBX.out.cells
    have HZ := Lib.hid HBX.out.b4
    go_wp2_with (refine wpList_store_row rfl 30 (.tmp 4) (.tmp 38) rfl (w.heap.size + 1 + 1) #[(.slice A4 L.length c4), vb] rfl rfl 30 _ HZ.out size30 rfl (one2 HC1.out HC2.out) ?_)
    change bodyPost _ _ _ Exit.ret _ _
    refine bodyPost_ret (res20 _ (w.heap.size + 1 + 1) _ _ _ _ _ rfl rfl rfl (setRow_heap _ _ _ _ _ _ HZ.out)) rfl ?_
    exact rdq_end HBX.out HPY.out HPX.out HQ.out.1 HQ.out.2.1 HQ.out.2.2.1 HQ.out.2.2.2

set_option maxRecDepth 100000 in
set_option maxHeartbeats 8000000 in
theorem rdo_two (va vb : Value) (ds ns : List En) (x : Ac) (w : World) (h1 : RE w va ds) (h2 : RE w vb ns) (hd : ds.length ≤ 1000000) (hn : ns.length ≤ 1000000) (hs : x.script.size ≤ 1000000) (hw : x.what = 2) (hnm : x.name.size ≤ 1000000000) : Calls Tryd.prog 20 #[.agg #[va, vb], .agg (acV x)] w (RDQ w ds ns x) := by
  obtain ⟨A1, c1, hv1, hc1, hn1, hr1⟩ := h1
  obtain ⟨A2, c2, hv2, hc2, hn2, hr2⟩ := h2
  have HP1 := Lib.hid (RE.p (w := w) (v := va) (l := ds) ⟨A1, c1, hv1, hc1, hn1, hr1⟩)
  have HP2 := Lib.hid (RE.p (w := w) (v := vb) (l := ns) ⟨A2, c2, hv2, hc2, hn2, hr2⟩)
  have HC1 : Hid (va.oneCell' = true) := Lib.hid (by rw [hv1]; rfl)
  have HC2 : Hid (vb.oneCell' = true) := Lib.hid (by rw [hv2]; rfl)
  have HB0 := Lib.hid (b3_new w va vb x)
  have HV1 := Lib.hid hv1
  have HV2 := Lib.hid hv2
  have HR1 := Lib.hid hr1
  have HR2 := Lib.hid hr2
  have HCC1 := Lib.hid hc1
  have HCC2 := Lib.hid hc2
  have HN1 := Lib.hid hn1
  have HN2 := Lib.hid hn2
  obtain ⟨z0, z1, z2, z3, z4, zf⟩ := HB0.out.cells
  have HPa0 := Lib.hid (HP1.out.below HB0.out.bel)
  have HPb0 := Lib.hid (HP2.out.below HB0.out.bel)
  have HR10 := Lib.hid (HR1.out.below HB0.out.bel)
  have HR20 := Lib.hid (HR2.out.below HB0.out.bel)
  have hw0 : x.what ≠ 0 := by omega
  have hw1 : x.what ≠ 1 := by omega
  have q0 : (x.what == 0) = false := by simp [hw0]
  have q1 : (x.what == 1) = false := by simp [hw1]
  have q2 : (x.what == 2) = true := by simp [hw]
  have hw0 : x.what ≠ 0 := by omega
  have hw1 : x.what ≠ 1 := by omega
  have HNM := Lib.hid (fun W => rnm_any x.name W (by omega))
  have hlong : decide (1048576 < x.script.size) = false := decide_eq_false (by omega)
  have HPO := Lib.hid (putOk_eq (l := ns) (t := ds.length + ns.length) (k := x.name) hs)
  have HEQ : Hid (aD ds ns x = ds ∧ aN ds ns x = loadL ns (ds.length + ns.length) x.name x.script ∧ aS ds ns x = ⟨#[]⟩ ∧ aE ds ns x = loadE ns (ds.length + ns.length) x.name x.script) := Lib.hid (by
    refine ⟨?_, ?_, ?_, ?_⟩
    · unfold aD; rw [if_neg hw0, if_neg hw1]
    · unfold aN; rw [if_neg hw0, if_neg hw1, if_pos hw]
    · unfold aS; rw [if_neg hw0]
    · unfold aE; rw [if_neg hw0, if_neg hw1, if_pos hw])
  have HRM := Lib.hid (fun W (hr : RdE W A2 ns) => room_any va vb A2 c2 ds.length ns.length A1 A2 c1 c2 ns x.name W HV1.out HV2.out hr (by omega) (by omega) (by omega))
  have HWI := Lib.hid (fun W (hr : RdE W A2 ns) => with_any A2 c2 ns x.name x.script W hr hn)
  clear hw hw0 hw1
  clear hv1 hv2 hr1 hr2 hc1 hc2 hn1 hn2
  cases hnb : nmB x.name with
  | false =>
    have HQ : Hid (aD ds ns x = ds ∧ aN ds ns x = ns ∧ aS ds ns x = ⟨#[]⟩ ∧ aE ds ns x = 2) := Lib.hid (by
      refine ⟨HEQ.out.1, ?_, HEQ.out.2.2.1, ?_⟩
      · rw [HEQ.out.2.1]; unfold loadL; rw [hnb]; rfl
      · rw [HEQ.out.2.2.2]; unfold loadE; rw [hnb]; rfl)
    rw [hnb] at HNM
    clear hnb HEQ HRM HWI
    go_enter Tryd.func20, Tryd.ntmps20
    go_upto_region 1 with (fail)
    generalize ((w.alloc (.cells #[va, vb] 30)).alloc (.cells (acV x) 39)).alloc (.cells #[.slice none 0 0, .slice none 0 0] 30) = W at *

    go_wp2_with fail
    refine (HNM.out _).mono ?_
    rintro e w2 ⟨rfl, rfl⟩
    go_upto_region 14 with (fail)
    have HZ := Lib.hid HB0.out.b4
    go_wp2_with (refine wpList_store_row rfl 30 (.tmp 4) (.tmp 48) rfl (w.heap.size + 1 + 1) #[va, vb] rfl rfl 30 _ HZ.out size30 rfl (one2 HC1.out HC2.out) ?_)
    change bodyPost _ _ _ Exit.ret _ _
    refine bodyPost_ret (res20 _ (w.heap.size + 1 + 1) _ _ _ _ _ rfl rfl rfl (setRow_heap _ _ _ _ _ _ HZ.out)) rfl ?_
    exact rdq_end HB0.out HPa0.out HPb0.out HQ.out.1 HQ.out.2.1 HQ.out.2.2.1 HQ.out.2.2.2

  | true =>
    have HE2 : Hid (loadL ns (ds.length + ns.length) x.name x.script = putL ns (ds.length + ns.length) x.name x.script ∧ loadE ns (ds.length + ns.length) x.name x.script = putE ns (ds.length + ns.length) x.name x.script) := Lib.hid (by
      unfold loadL loadE; rw [hnb]; exact ⟨rfl, rfl⟩)
    rw [hnb] at HNM
    clear hnb
    go_enter Tryd.func20, Tryd.ntmps20
    go_upto_region 1 with (fail)
    generalize ((w.alloc (.cells #[va, vb] 30)).alloc (.cells (acV x) 39)).alloc (.cells #[.slice none 0 0, .slice none 0 0] 30) = W at *

    rw [HV2.out] at z1
    have HRM1 := Lib.hid (HRM.out W HR20.out)
    rw [HV2.out] at HRM1
    go_wp2_with fail
    refine (HNM.out _).mono ?_
    rintro e w2 ⟨rfl, rfl⟩
    go_wp2_with fail
    refine HRM1.out.mono ?_
    rintro e w3 ⟨rfl, hb3⟩
    have HB2 := Lib.hid (HB0.out.below hb3)
    have HPa2 := Lib.hid (HPa0.out.below hb3)
    have HPb2 := Lib.hid (HPb0.out.below hb3)
    have HR12 := Lib.hid (HR10.out.below hb3)
    have HR22 := Lib.hid (HR20.out.below hb3)
    clear z0 z1 z2 z3 z4 zf
    obtain ⟨z0, z1, z2, z3, z4, zf⟩ := HB2.out.cells

    clear hb3 HRM HRM1
    rw [← HPO.out]
    cases hpo : putOk ns (ds.length + ns.length) x.name x.script with
    | false =>
      have HQ : Hid (aD ds ns x = ds ∧ aN ds ns x = ns ∧ aS ds ns x = ⟨#[]⟩ ∧ aE ds ns x = 3) := Lib.hid (by
        refine ⟨HEQ.out.1, ?_, HEQ.out.2.2.1, ?_⟩
        · rw [HEQ.out.2.1, HE2.out.1]; unfold putL; rw [hpo]; rfl
        · rw [HEQ.out.2.2.2, HE2.out.2]; unfold putE; rw [hpo]; rfl)
      clear hpo HEQ
      go_upto_region 17 with (fail)
      have HZ := Lib.hid HB2.out.b4
      go_wp2_with (refine wpList_store_row rfl 30 (.tmp 4) (.tmp 65) rfl (w.heap.size + 1 + 1) #[va, vb] rfl rfl 30 _ HZ.out size30 rfl (one2 HC1.out HC2.out) ?_)
      change bodyPost _ _ _ Exit.ret _ _
      refine bodyPost_ret (res20 _ (w.heap.size + 1 + 1) _ _ _ _ _ rfl rfl rfl (setRow_heap _ _ _ _ _ _ HZ.out)) rfl ?_
      exact rdq_end HB2.out HPa2.out HPb2.out HQ.out.1 HQ.out.2.1 HQ.out.2.2.1 HQ.out.2.2.2

    | true =>
      have HQ : Hid (aD ds ns x = ds ∧ aN ds ns x = wth En.key ns ⟨x.name, x.script⟩ ∧ aS ds ns x = ⟨#[]⟩ ∧ aE ds ns x = 0) := Lib.hid (by
        refine ⟨HEQ.out.1, ?_, HEQ.out.2.2.1, ?_⟩
        · rw [HEQ.out.2.1, HE2.out.1]; unfold putL; rw [hpo]; rfl
        · rw [HEQ.out.2.2.2, HE2.out.2]; unfold putE; rw [hpo]; rfl)
      clear hpo HEQ
      rw [HV2.out] at z1
      have HWI1 := Lib.hid (HWI.out w3 HR22.out)
      go_wp2_with fail
      refine HWI1.out.mono ?_
      rintro e w4 ⟨v, rfl, hoe⟩
      have HOP := Lib.hid (hoe.p HB2.out.lt)
      have HOC : Hid (v.oneCell' = true) := Lib.hid (by obtain ⟨A4, c4, hv4, -⟩ := own_rdE hoe.own; rw [hv4]; rfl)
      have HBE := Lib.hid (hoe.bel)
      have HB3 := Lib.hid (HB2.out.below HBE.out)
      have HPa3 := Lib.hid (HPa2.out.below HBE.out)
      have HPb3 := Lib.hid (HPb2.out.below HBE.out)
      have HR13 := Lib.hid (HR12.out.below HBE.out)
      have HR23 := Lib.hid (HR22.out.below HBE.out)
      clear z0 z1 z2 z3 z4 zf
      obtain ⟨z0, z1, z2, z3, z4, zf⟩ := HB3.out.cells

      obtain ⟨A4, c4, hv4, -, -, -, -, -⟩ := own_rdE hoe.own
      subst hv4
      have HBX := Lib.hid (HB3.out.set 1 (.slice A4 (wth En.key ns ⟨x.name, x.script⟩).length c4) va (.slice A4 (wth En.key ns ⟨x.name, x.script⟩).length c4) rfl)
      have HPX := Lib.hid (HPa3.out.set (j := 1) (u := .slice A4 (wth En.key ns ⟨x.name, x.script⟩).length c4))
      have HPY := Lib.hid (HOP.out.set (j := 1) (u := .slice A4 (wth En.key ns ⟨x.name, x.script⟩).length c4))
      have HC2' := HC2
      clear HC2 hoe HWI HWI1
      have HC2 := HOC
      generalize (wth En.key ns ⟨x.name, x.script⟩) = L at *
      go_upto_region 19 with (fail)
      obtain ⟨y0, y1, -, -, -, -⟩ := HBX.out.cells
      have HZ := Lib.hid HBX.out.b4
      go_wp2_with (refine wpList_store_row rfl 30 (.tmp 4) (.tmp 75) rfl (w.heap.size + 1 + 1) #[va, (.slice A4 L.length c4)] rfl rfl 30 _ HZ.out size30 rfl (one2 HC1.out HC2.out) ?_)
      change bodyPost _ _ _ Exit.ret _ _
      refine bodyPost_ret (res20 _ (w.heap.size + 1 + 1) _ _ _ _ _ rfl rfl rfl (setRow_heap _ _ _ _ _ _ HZ.out)) rfl ?_
      exact rdq_end HBX.out HPX.out HPY.out HQ.out.1 HQ.out.2.1 HQ.out.2.2.1 HQ.out.2.2.2

set_option maxRecDepth 100000 in
set_option maxHeartbeats 8000000 in
theorem rdo_un (va vb : Value) (ds ns : List En) (x : Ac) (w : World) (h1 : RE w va ds) (h2 : RE w vb ns) (hd : ds.length ≤ 1000000) (hn : ns.length ≤ 1000000) (hs : x.script.size ≤ 1000000) (hw0 : x.what ≠ 0) (hw1 : x.what ≠ 1) (hw2 : x.what ≠ 2) (hnm : x.name.size ≤ 1000000000) : Calls Tryd.prog 20 #[.agg #[va, vb], .agg (acV x)] w (RDQ w ds ns x) := by
  obtain ⟨A1, c1, hv1, hc1, hn1, hr1⟩ := h1
  obtain ⟨A2, c2, hv2, hc2, hn2, hr2⟩ := h2
  have HP1 := Lib.hid (RE.p (w := w) (v := va) (l := ds) ⟨A1, c1, hv1, hc1, hn1, hr1⟩)
  have HP2 := Lib.hid (RE.p (w := w) (v := vb) (l := ns) ⟨A2, c2, hv2, hc2, hn2, hr2⟩)
  have HC1 : Hid (va.oneCell' = true) := Lib.hid (by rw [hv1]; rfl)
  have HC2 : Hid (vb.oneCell' = true) := Lib.hid (by rw [hv2]; rfl)
  have HB0 := Lib.hid (b3_new w va vb x)
  have HV1 := Lib.hid hv1
  have HV2 := Lib.hid hv2
  have HR1 := Lib.hid hr1
  have HR2 := Lib.hid hr2
  have HCC1 := Lib.hid hc1
  have HCC2 := Lib.hid hc2
  have HN1 := Lib.hid hn1
  have HN2 := Lib.hid hn2
  obtain ⟨z0, z1, z2, z3, z4, zf⟩ := HB0.out.cells
  have HPa0 := Lib.hid (HP1.out.below HB0.out.bel)
  have HPb0 := Lib.hid (HP2.out.below HB0.out.bel)
  have HR10 := Lib.hid (HR1.out.below HB0.out.bel)
  have HR20 := Lib.hid (HR2.out.below HB0.out.bel)
  have q0 : (x.what == 0) = false := by simp [hw0]
  have q1 : (x.what == 1) = false := by simp [hw1]
  have q2 : (x.what == 2) = false := by simp [hw2]
  have HNM := Lib.hid (fun W => rnm_any x.name W (by omega))
  have HEQ : Hid (aD ds ns x = ds ∧ aN ds ns x = unL ns x.name ∧ aS ds ns x = ⟨#[]⟩ ∧ aE ds ns x = unE ns x.name) := Lib.hid (by
    refine ⟨?_, ?_, ?_, ?_⟩
    · unfold aD; rw [if_neg hw0, if_neg hw1]
    · unfold aN; rw [if_neg hw0, if_neg hw1, if_neg hw2]
    · unfold aS; rw [if_neg hw0]
    · unfold aE; rw [if_neg hw0, if_neg hw1, if_neg hw2])
  have HFN := Lib.hid (fun W (hr : RdE W A2 ns) => find_any A2 c2 ns x.name W hr (by omega))
  have HDP := Lib.hid (fun W (hr : RdE W A2 ns) => drop_any A2 c2 ns x.name W hr (by omega))
  clear hw0 hw1 hw2
  clear hv1 hv2 hr1 hr2 hc1 hc2 hn1 hn2
  cases hnb : nmB x.name with
  | false =>
    have HQ : Hid (aD ds ns x = ds ∧ aN ds ns x = ns ∧ aS ds ns x = ⟨#[]⟩ ∧ aE ds ns x = 2) := Lib.hid (by
      refine ⟨HEQ.out.1, ?_, HEQ.out.2.2.1, ?_⟩
      · rw [HEQ.out.2.1]; unfold unL; rw [hnb]; rfl
      · rw [HEQ.out.2.2.2]; unfold unE; rw [hnb]; rfl)
    rw [hnb] at HNM
    clear hnb HEQ HFN HDP
    go_enter Tryd.func20, Tryd.ntmps20
    go_upto_region 1 with (fail)
    generalize ((w.alloc (.cells #[va, vb] 30)).alloc (.cells (acV x) 39)).alloc (.cells #[.slice none 0 0, .slice none 0 0] 30) = W at *

    go_wp2_with fail
    refine (HNM.out _).mono ?_
    rintro e w2 ⟨rfl, rfl⟩
    go_upto_region 14 with (fail)
    have HZ := Lib.hid HB0.out.b4
    go_wp2_with (refine wpList_store_row rfl 30 (.tmp 4) (.tmp 48) rfl (w.heap.size + 1 + 1) #[va, vb] rfl rfl 30 _ HZ.out size30 rfl (one2 HC1.out HC2.out) ?_)
    change bodyPost _ _ _ Exit.ret _ _
    refine bodyPost_ret (res20 _ (w.heap.size + 1 + 1) _ _ _ _ _ rfl rfl rfl (setRow_heap _ _ _ _ _ _ HZ.out)) rfl ?_
    exact rdq_end HB0.out HPa0.out HPb0.out HQ.out.1 HQ.out.2.1 HQ.out.2.2.1 HQ.out.2.2.2

  | true =>
    have HE2 : Hid (unL ns x.name = drp En.key ns x.name ∧ unE ns x.name = if hasK ns x.name then 0 else 5) := Lib.hid (by
      unfold unL unE; rw [hnb]; exact ⟨rfl, rfl⟩)
    rw [hnb] at HNM
    clear hnb
    generalize scr ns x.name = sc at *
    cases hh : hasK ns x.name with
    | false =>
      have HQ : Hid (aD ds ns x = ds ∧ aN ds ns x = ns ∧ aS ds ns x = ⟨#[]⟩ ∧ aE ds ns x = 5) := Lib.hid (by
        refine ⟨HEQ.out.1, ?_, HEQ.out.2.2.1, ?_⟩
        · rw [HEQ.out.2.1, HE2.out.1, drp_none hh]
        · rw [HEQ.out.2.2.2, HE2.out.2, hh]; rfl)
      rw [hh] at HFN
      clear hh HEQ HDP
      go_enter Tryd.func20, Tryd.ntmps20
      go_upto_region 1 with (fail)
      generalize ((w.alloc (.cells #[va, vb] 30)).alloc (.cells (acV x) 39)).alloc (.cells #[.slice none 0 0, .slice none 0 0] 30) = W at *

      rw [HV2.out] at z1
      have HFN1 := Lib.hid (HFN.out W HR20.out)
      go_wp2_with fail
      refine (HNM.out _).mono ?_
      rintro e w2 ⟨rfl, rfl⟩
      go_wp2_with fail
      refine HFN1.out.mono ?_
      rintro e w3 ⟨rfl, rfl⟩
      rw [← HV2.out] at z1
      go_upto_region 22 with (fail)
      have HZ := Lib.hid HB0.out.b4
      go_wp2_with (refine wpList_store_row rfl 30 (.tmp 4) (.tmp 86) rfl (w.heap.size + 1 + 1) #[va, vb] rfl rfl 30 _ HZ.out size30 rfl (one2 HC1.out HC2.out) ?_)
      change bodyPost _ _ _ Exit.ret _ _
      refine bodyPost_ret (res20 _ (w.heap.size + 1 + 1) _ _ _ _ _ rfl rfl rfl (setRow_heap _ _ _ _ _ _ HZ.out)) rfl ?_
      exact rdq_end HB0.out HPa0.out HPb0.out HQ.out.1 HQ.out.2.1 HQ.out.2.2.1 HQ.out.2.2.2

    | true =>
      have HQ : Hid (aD ds ns x = ds ∧ aN ds ns x = drp En.key ns x.name ∧ aS ds ns x = ⟨#[]⟩ ∧ aE ds ns x = 0) := Lib.hid (by
        refine ⟨HEQ.out.1, ?_, HEQ.out.2.2.1, ?_⟩
        · rw [HEQ.out.2.1, HE2.out.1]
        · rw [HEQ.out.2.2.2, HE2.out.2, hh]; rfl)
      rw [hh] at HFN
      clear hh HEQ
      go_enter Tryd.func20, Tryd.ntmps20
      go_upto_region 1 with (fail)
      generalize ((w.alloc (.cells #[va, vb] 30)).alloc (.cells (acV x) 39)).alloc (.cells #[.slice none 0 0, .slice none 0 0] 30) = W at *

      rw [HV2.out] at z1
      have HFN1 := Lib.hid (HFN.out W HR20.out)
      have HDP1 := Lib.hid (HDP.out W HR20.out)
      go_wp2_with fail
      refine (HNM.out _).mono ?_
      rintro e w2 ⟨rfl, rfl⟩
      go_wp2_with fail
      refine HFN1.out.mono ?_
      rintro e w3 ⟨rfl, rfl⟩
      go_wp2_with fail
      refine HDP1.out.mono ?_
      rintro e w4 ⟨v, rfl, hoe⟩
      have HOP := Lib.hid (hoe.p HB0.out.lt)
      have HOC : Hid (v.oneCell' = true) := Lib.hid (by obtain ⟨A4, c4, hv4, -⟩ := own_rdE hoe.own; rw [hv4]; rfl)
      have HBE := Lib.hid (hoe.bel)
      have HB3 := Lib.hid (HB0.out.below HBE.out)
      have HPa3 := Lib.hid (HPa0.out.below HBE.out)
      have HPb3 := Lib.hid (HPb0.out.below HBE.out)
      have HR13 := Lib.hid (HR10.out.below HBE.out)
      have HR23 := Lib.hid (HR20.out.below HBE.out)
      clear z0 z1 z2 z3 z4 zf
      obtain ⟨z0, z1, z2, z3, z4, zf⟩ := HB3.out.cells

      obtain ⟨A4, c4, hv4, -, -, -, -, -⟩ := own_rdE hoe.own
      subst hv4
      have HBX := Lib.hid (HB3.out.set 1 (.slice A4 (drp En.key ns x.name).length c4) va (.slice A4 (drp En.key ns x.name).length c4) rfl)
      have HPX := Lib.hid (HPa3.out.set (j := 1) (u := .slice A4 (drp En.key ns x.name).length c4))
      have HPY := Lib.hid (HOP.out.set (j := 1) (u := .slice A4 (drp En.key ns x.name).length c4))
      have HC2' := HC2
      clear HC2 hoe HFN HFN1 HDP HDP1
      have HC2 := HOC
      generalize (drp En.key ns x.name) = L at *
      go_upto_region 24 with (fail)
      obtain ⟨y0, y1, -, -, -, -⟩ := HBX.out.cells
      have HZ := Lib.hid HBX.out.b4
      go_wp2_with (refine wpList_store_row rfl 30 (.tmp 4) (.tmp 93) rfl (w.heap.size + 1 + 1) #[va, (.slice A4 L.length c4)] rfl rfl 30 _ HZ.out size30 rfl (one2 HC1.out HC2.out) ?_)
      change bodyPost _ _ _ Exit.ret _ _
      refine bodyPost_ret (res20 _ (w.heap.size + 1 + 1) _ _ _ _ _ rfl rfl rfl (setRow_heap _ _ _ _ _ _ HZ.out)) rfl ?_
      exact rdq_end HBX.out HPX.out HPY.out HQ.out.1 HQ.out.2.1 HQ.out.2.2.1 HQ.out.2.2.2

theorem rdo_any (va vb : Value) (ds ns : List En) (x : Ac) (w : World) (h1 : RE w va ds) (h2 : RE w vb ns) (hd : ds.length ≤ 1000000) (hn : ns.length ≤ 1000000) (hs : x.script.size ≤ 1000000) (hnm : x.name.size ≤ 1000000000) : Calls Tryd.prog 20 #[.agg #[va, vb], .agg (acV x)] w (RDQ w ds ns x) := by
  by_cases hw0 : x.what = 0
  · exact rdo_zero va vb ds ns x w h1 h2 hd hn hs hw0
  by_cases hw1 : x.what = 1
  · exact rdo_one va vb ds ns x w h1 h2 hd hn hs hw1
  by_cases hw2 : x.what = 2
  · exact rdo_two va vb ds ns x w h1 h2 hd hn hs hw2 hnm
  · exact rdo_un va vb ds ns x w h1 h2 hd hn hs hw0 hw1 hw2 hnm
end Go.Proofs.YtpomaabkgbaikaaDoor
