/- Proved here: 'taborlaw02.DiskSteps' returns true for every input. Conditions: none. -/
import Derived.LaidLaws
import Derived.Test.YtcfglgejjmapdaaFrame
import Derived.Test.YtcfglgejjmapdaaPair
import Derived.Deep.RegionHeld3
namespace Go.Proofs.Ytcfglgejjmapdaa.diskSteps
open Go Go.RowKit Go.ChangeShapes Go.WideShapes Go.ChangeAt
open Go.Shelf

set_option maxRecDepth 100000 in
set_option maxHeartbeats 16000000 in
theorem walk (A : Option Addr) (n c : Nat) (ls : List F) (wh N : Int) (nm to_ : ByteArray) (Ab : Option Addr) (nb cb : Nat) (lb : List UInt8) (w : World)
    (hn : ls.length = n) (hcc : n ≤ c) (hcm : n ≤ 9223372036854775807) (hO : A = none → c = 0) (ha : RdF w A ls) (hs : ∀ a ∈ ls, a.ok) (hwh : -9223372036854775808 ≤ wh ∧ wh ≤ 9223372036854775807) (hN0 : -9223372036854775808 ≤ N) (hN1 : N ≤ 9223372036854775807) (hnm : nm.size ≤ 140737488351232) (hto : to_.size ≤ 140737488351232)
    (hnb : lb.length = nb) (hcb : nb ≤ cb) (hob : Ab = none → cb = 0) (hrb : Rd w Ab lb) :
    Calls Try.prog 5 #[.slice A n c, .agg #[.int .i64 wh, .string nm, .string to_, .slice Ab nb cb, .int .i64 N]] w fun e w' => e = .returned (.bool true) ∧ Below w.heap.size w w' := by
  have H1 := Lib.hid (few_any A n c ls (w.alloc (.cells #[.int .i64 wh, .string nm, .string to_, .slice Ab nb cb, .int .i64 N] 43)) hn (by omega) (fun f hf => (hs f hf).1) (ha.below (below_new w _)))
  have HN := Lib.hid hn
  have HA := Lib.hid ha
  have HS := Lib.hid hs
  have HO := Lib.hid hO
  have HNB := Lib.hid hnb
  have HOB := Lib.hid hob
  have HRB := Lib.hid hrb
  clear ha hs hn hO hnb hob hrb
  have HZ0 := Lib.hid (heap_alloc_new w (.cells #[.int .i64 wh, .string nm, .string to_, .slice Ab nb cb, .int .i64 N] 43))
  have HB0 := Lib.hid (below_new w (.cells #[.int .i64 wh, .string nm, .string to_, .slice Ab nb cb, .int .i64 N] 43))
  go_enter Try.func5, Try.ntmps5
  go_wp2_with fail
  refine Calls.mono H1.out ?_
  rintro e w1 ⟨rfl, q1, rfl⟩
  have HX1 := Lib.hid (below_any q1 HB0.out)
  have HZ1 : Hid (((w.alloc (.cells #[.int .i64 wh, .string nm, .string to_, .slice Ab nb cb, .int .i64 N] 43)).drewN q1).heap[w.heap.size]? = some (.cells #[.int .i64 wh, .string nm, .string to_, .slice Ab nb cb, .int .i64 N] 43 (0, 0))) := HZ0
  clear H1 HB0 HZ0
  generalize (w.alloc (.cells #[.int .i64 wh, .string nm, .string to_, .slice Ab nb cb, .int .i64 N] 43)).drewN q1 = V at HX1 HZ1 ⊢
  by_cases hf : szF ls ≤ 3000
  rotate_left
  · have d0 : decide (szF ls ≤ 3000) = false := decide_eq_false hf
    clear hf
    go_wp2_with fail
    refine Calls.mono (works_any _) ?_
    rintro e wi ⟨rfl, hbi⟩
    have HBI := Lib.hid (HX1.out.trans (hbi.mono HX1.out.size))
    go_wp2_with fail
    go_ret
    exact ⟨rfl, HBI.out⟩
  have d0 : decide (szF ls ≤ 3000) = true := decide_eq_true hf
  have hn300 : n ≤ 300 := by have := szF_len ls; have := HN.out; omega
  clear hf
  obtain ⟨s0, s1, s2, s3, s4⟩ := row5 HZ1.out
  have HSM := Lib.hid (small_any wh N nm to_ Ab nb cb V)
  go_wp2_with fail
  refine Calls.mono HSM.out ?_
  rintro e w2 ⟨rfl, hb2⟩
  have HX2 := Lib.hid (HX1.out.trans (hb2.mono HX1.out.size))
  have HZ2 := Lib.hid ((hb2.block _ (lt_of_block HZ1.out)).trans HZ1.out)
  clear s0 s1 s2 s3 s4 hb2 HSM HX1 HZ1 d0
  obtain ⟨s0, s1, s2, s3, s4⟩ := row5 HZ2.out
  by_cases hsm : smallB nm to_ nb = true
  rotate_left
  · have d1 : smallB nm to_ nb = false := by simpa using hsm
    clear hsm
    rw [d1]
    clear d1
    go_wp2_with fail
    refine Calls.mono (works_any _) ?_
    rintro e wi ⟨rfl, hbi⟩
    have HBI := Lib.hid (HX2.out.trans (hbi.mono HX2.out.size))
    go_wp2_with fail
    go_ret
    exact ⟨rfl, HBI.out⟩
  rw [hsm]
  have hnb1 : nm.size ≤ 200 ∧ to_.size ≤ 200 ∧ nb ≤ 1000 := by simpa [smallB, and_assoc] using hsm
  obtain ⟨hk1, hk2, hk3⟩ := hnb1
  clear hsm
  by_cases hw0 : wh < 0
  · have d1 : decide (wh < 0) = true := decide_eq_true hw0
    clear hw0
    go_wp2_with fail
    refine Calls.mono (works_any _) ?_
    rintro e wi ⟨rfl, hbi⟩
    have HBI := Lib.hid (HX2.out.trans (hbi.mono HX2.out.size))
    go_wp2_with fail
    go_ret
    exact ⟨rfl, HBI.out⟩
  have d1 : decide (wh < 0) = false := decide_eq_false hw0
  by_cases hw4 : 4 < wh
  · have d2 : decide (4 < wh) = true := decide_eq_true hw4
    clear hw4 hw0
    go_wp2_with fail
    refine Calls.mono (works_any _) ?_
    rintro e wi ⟨rfl, hbi⟩
    have HBI := Lib.hid (HX2.out.trans (hbi.mono HX2.out.size))
    go_wp2_with fail
    go_ret
    exact ⟨rfl, HBI.out⟩
  have d2 : decide (4 < wh) = false := decide_eq_false hw4
  clear hw0 hw4
  have HCK := Lib.hid (check_any A n c ls w2 HN.out (by omega) (fun f hf => (HS.out f hf).1) (HA.out.below HX2.out))
  obtain ⟨ck, hck⟩ : ∃ ck, checkF ls = ck := ⟨_, rfl⟩
  rw [hck] at HCK
  go_wp2_with fail
  refine Calls.mono HCK.out ?_
  rintro e w3 ⟨rfl, q3, rfl⟩
  have HX3 := Lib.hid (below_any q3 HX2.out)
  have HZ3 : Hid ((w2.drewN q3).heap[w.heap.size]? = some (.cells #[.int .i64 wh, .string nm, .string to_, .slice Ab nb cb, .int .i64 N] 43 (0, 0))) := HZ2
  clear s0 s1 s2 s3 s4 HCK HX2 HZ2 d1 d2
  generalize w2.drewN q3 = V3 at HX3 HZ3 ⊢
  by_cases hc0 : ck = 0
  rotate_left
  · have d0 : (ck != 0) = true := by simpa using hc0
    have d1 : decide (ck = 0) = false := decide_eq_false hc0
    clear hck
    go_wp2_with fail
    refine Calls.mono (works_any _) ?_
    rintro e wi ⟨rfl, hbi⟩
    have HBI := Lib.hid (HX3.out.trans (hbi.mono HX3.out.size))
    go_wp2_with fail
    go_ret
    exact ⟨rfl, HBI.out⟩
  subst hc0
  have HC := Lib.hid (from_any A n c ls V3 HN.out (by omega) (fun f hf => (HS.out f hf).1) (HA.out.below HX3.out))
  go_wp2_with fail
  refine Calls.mono HC.out ?_
  rintro e V ⟨hb4, hq⟩
  have HX := Lib.hid (HX3.out.trans (hb4.mono HX3.out.size))
  have HZ := Lib.hid ((hb4.block _ (lt_of_block HZ3.out)).trans HZ3.out)
  have HB3 : Hid (V3.heap.size ≤ V.heap.size) := Lib.hid hb4.size
  have HB3w : Hid (w.heap.size < V3.heap.size) := Lib.hid (lt_of_block HZ3.out)
  have HQ := Lib.hid hq
  clear hb4 hq HC
  rcases HQ.out with ⟨hne, rfl⟩ | ⟨hce, T, D, M, rfl, hon⟩
  · exact absurd hck hne
  have HON := Lib.hid hon
  have HFL := Lib.hid hon.fine
  clear HQ hon hce hck HX3 HZ3
  have HLT : Hid (w.heap.size < V.heap.size) := Lib.hid (lt_of_block HZ.out)
  have HST : Hid (∀ W, Below V.heap.size V W → W.cell? ⟨w.heap.size, 0, none⟩ = some (.int .i64 wh) ∧ W.cell? ⟨w.heap.size, 1, none⟩ = some (.string nm) ∧ W.cell? ⟨w.heap.size, 2, none⟩ = some (.string to_) ∧ W.cell? ⟨w.heap.size, 3, none⟩ = some (.slice Ab nb cb) ∧ W.cell? ⟨w.heap.size, 4, none⟩ = some (.int .i64 N)) := Lib.hid (fun W h => row5 ((h.block _ HLT.out).trans HZ.out))
  have HN0 : Hid (∀ W, Below V.heap.size V W → Calls Try.prog 24 #[.slice A n c] W fun e w' => e = .returned (.agg #[.slice A n c, .int .i64 0, .int .i64 (-1)]) ∧ Below V.heap.size V w') := Lib.hid (rnew_0 A n c V)
  have HN1 : Hid (∀ W G, K1 V W G → Calls Try.prog 24 #[.slice A n c] W fun e w' => e = .returned (.agg #[.slice A n c, .int .i64 0, .int .i64 (-1)]) ∧ K1 V w' G) := Lib.hid (rnew_1 A n c V)
  have HAV := Lib.hid (HA.out.below HX.out)
  have HRBV := Lib.hid (HRB.out.below HX.out)
  have HD0 : Hid (∀ W, Below V.heap.size V W → Calls Try.prog 23 #[.agg #[.slice A n c, .int .i64 0, .int .i64 (-1)], .agg #[.int .i64 wh, .string nm, .string to_, .slice Ab nb cb, .int .i64 N]] W (RDo2 ls wh nm to_ lb N false 0 0 A (-1) W)) := Lib.hid (fun W h => rdo_rel A n c ls 0 false 0 (-1) wh N nm to_ Ab nb cb lb W HN.out (by omega) hcc HO.out (HAV.out.below h) hnm hto HFL.out HNB.out hk3 hcb HOB.out (HRBV.out.below h) (by omega) (by omega) (by omega) (by unfold RelL; simp))
  have HDA : Hid (∀ W, Below V.heap.size V W → Calls Try.prog 23 #[.agg #[.slice A n c, .int .i64 0, .int .i64 (-1)], .agg #[.int .i64 wh, .string nm, .string to_, .slice Ab nb cb, .int .i64 N]] W (RP ls wh nm to_ lb N false 0 0 A (-1) V W (fun X => Below V.heap.size V X))) := Lib.hid (fun W h => (HD0.out W h).mono fun _ _ hq => RP.of (fun _ hb => h.trans (hb.mono h.size)) hq)
  have HDB : Hid (∀ W G, K1 V W G → Calls Try.prog 23 #[.agg #[.slice A n c, .int .i64 0, .int .i64 (-1)], .agg #[.int .i64 wh, .string nm, .string to_, .slice Ab nb cb, .int .i64 N]] W (RP ls wh nm to_ lb N false 0 0 A (-1) V W (fun X => K1 V X G))) := Lib.hid (fun W G h => (HD0.out W h.bel).mono fun _ _ hq => RP.of (fun _ hb => h.next hb) hq)
  have HBD : Hid (Below V.heap.size V V.drew) := Lib.hid (Below.refl _ _).drew
  have HKD : Hid (K1 V (V.alloc Z46).drew V.heap.size) := Lib.hid ((K1.new (Below.refl _ _)).next (Below.refl _ _).drew)
  clear HD0
  obtain ⟨s0, s1, s2, s3, s4⟩ := row5 HZ.out
  go_upto_region 4 with (fail)
  go_region_held3 (fun W => W.cell? ⟨w.heap.size, 0, none⟩ = some (.int .i64 wh) ∧ W.cell? ⟨w.heap.size, 1, none⟩ = some (.string nm) ∧ W.cell? ⟨w.heap.size, 2, none⟩ = some (.string to_) ∧ W.cell? ⟨w.heap.size, 3, none⟩ = some (.slice Ab nb cb) ∧ W.cell? ⟨w.heap.size, 4, none⟩ = some (.int .i64 N))
    (first | assumption | (exact ⟨k0, k1, k2, k3, k4⟩) | go_keep | (dsimp only; assumption))
    (first
      | (go_at_call 24; with_reducible (refine (HN0.out _ HBD.out).mono ?_); rintro e wi ⟨rfl, Hi⟩; have HI := Lib.hid Hi; obtain ⟨i0, i1, i2, i3, i4⟩ := HST.out _ Hi; clear Hi)
      | (go_at_call 24; with_reducible (refine (HN1.out _ _ HKD.out).mono ?_); rintro e wi ⟨rfl, Hi⟩; have HI := Lib.hid Hi; obtain ⟨i0, i1, i2, i3, i4⟩ := HST.out _ Hi.bel; clear Hi)
      | (go_at_call 23; with_reducible (refine (HDA.out _ HI.out).mono ?_); rintro e wm ⟨A9, n9, c9, lf9, rfl, hr, ht, hk⟩; have HR := Lib.hid hr; have HT := Lib.hid ht; have HM := Lib.hid (Box.new (A := A9) (n := n9) (c := c9) (st := ((outS ls wh nm to_ lb N false 0 0 : Nat) : Int)) (lf := lf9) hk); have HRF := Lib.hid (fun o => ht.alloc o); obtain ⟨m0, m1, m2, m3, m4⟩ := HST.out _ hk; clear hr ht hk)
      | (go_at_call 23; with_reducible (refine (HDB.out _ _ HI.out).mono ?_); rintro e wm ⟨A9, n9, c9, lf9, rfl, hr, ht, hk⟩; have HR := Lib.hid hr; have HT := Lib.hid ht; have HM := Lib.hid (K1.stored (A := A9) (n := n9) (c := c9) (st := ((outS ls wh nm to_ lb N false 0 0 : Nat) : Int)) (lf := lf9) hk); have HRF := Lib.hid (ht.stored HAV.out hk.ge (lt_of_block HI.out.z)); obtain ⟨m0, m1, m2, m3, m4⟩ := HST.out _ hk.bel; obtain ⟨z0, z1, z2, zf⟩ := row3 hk.z; obtain ⟨k0, k1, k2, k3, k4⟩ := HST.out _ HM.out.bel; clear hr ht hk)
      | (go_at_call 23; with_reducible (refine (HDB.out _ _ (K1.new HI.out)).mono ?_); rintro e wm ⟨A9, n9, c9, lf9, rfl, hr, ht, hk⟩; have HR := Lib.hid hr; have HT := Lib.hid ht; have HM := Lib.hid (K1.stored (A := A9) (n := n9) (c := c9) (st := ((outS ls wh nm to_ lb N false 0 0 : Nat) : Int)) (lf := lf9) hk); have HRF := Lib.hid (ht.stored HAV.out hk.ge (by simp)); obtain ⟨m0, m1, m2, m3, m4⟩ := HST.out _ hk.bel; obtain ⟨z0, z1, z2, zf⟩ := row3 hk.z; obtain ⟨k0, k1, k2, k3, k4⟩ := HST.out _ HM.out.bel; clear hr ht hk)
      | fail)
  · clear HN0 HN1 HDA HDB HBD HKD
    have HWS : Hid (V.heap.size ≤ wi.heap.size) := Lib.hid HI.out.size
    have HRX : Hid (RdF (wm.alloc (.cells #[.slice A9 n9 c9, .int .i64 ((outS ls wh nm to_ lb N false 0 0) : Nat), .int .i64 lf9] 46)) A9 (outF ls wh nm to_ lb N false 0)) := Lib.hid (HRF.out _)
    have HNA := Lib.hid (HT.out.na (T := T) (fun h0 ad e hT => by obtain ⟨b, off, e2, hlt, _⟩ := HA.out h0; rw [e2] at e; cases e; have h1 := HON.out.low _ hT; have h2 := HB3w.out; simp only at h1; omega) (fun b hT => Nat.lt_of_lt_of_le (HON.out.lt b hT) HWS.out))
    have HSD : Hid (Both V V3.heap.size T D M ls 0 false 0 (wm.heap.size) A9 n9 c9 (outF ls wh nm to_ lb N false 0) (outS ls wh nm to_ lb N false 0 0) lf9 (wm.alloc (.cells #[.slice A9 n9 c9, .int .i64 ((outS ls wh nm to_ lb N false 0 0) : Nat), .int .i64 lf9] 46))) := Lib.hid ⟨HON.out.below HM.out.bel, ⟨HM.out.z, HRX.out, fun hT => by have h1 := HON.out.lt _ hT; have h2 := HM.out.ge; omega, HNA.out, HT.out.len, HT.out.cap, HT.out.nil⟩, HM.out.bel.mono HB3.out, HB3.out⟩
    clear HRX HNA HRF HWS HM HT HST
    generalize wm.alloc (.cells #[.slice A9 n9 c9, .int .i64 ((outS ls wh nm to_ lb N false 0 0) : Nat), .int .i64 lf9] 46) = X at HSD ⊢
    generalize (wm.heap.size) = G at HSD ⊢
    clear HI
    have HLE : Hid (((outF ls wh nm to_ lb N false 0)).length ≤ 301) := Lib.hid (by have := out_len ls wh nm to_ lb N false 0; have := HN.out; omega)
    have HSTB : Hid (∀ Y, Below V3.heap.size V Y → Y.cell? ⟨w.heap.size, 0, none⟩ = some (.int .i64 wh) ∧ Y.cell? ⟨w.heap.size, 1, none⟩ = some (.string nm) ∧ Y.cell? ⟨w.heap.size, 2, none⟩ = some (.string to_) ∧ Y.cell? ⟨w.heap.size, 3, none⟩ = some (.slice Ab nb cb) ∧ Y.cell? ⟨w.heap.size, 4, none⟩ = some (.int .i64 N)) := Lib.hid (fun Y h => row5 ((h.block _ HB3w.out).trans HZ.out))
    rename_i hHeld
    clear hHeld
    clear s0 s1 s2 s3 s4 i0 i1 i2 i3 i4 m0 m1 m2 m3 m4
    try clear z0 z1 z2 zf
    try clear k0 k1 k2 k3 k4
    obtain ⟨s0, s1, s2, s3, s4⟩ := HSTB.out _ HSD.out.bel
    obtain ⟨g0, g1, g2, gf⟩ := row3 HSD.out.side.z
    have HP : Hid (Both V V3.heap.size T D M ls 0 false 0 G A9 n9 c9 (outF ls wh nm to_ lb N false 0) (outS ls wh nm to_ lb N false 0 0) lf9 X.drew) := Lib.hid (HSD.out.below (Below.refl _ _).drew)
    have HDO : Hid (∀ Y, Both V V3.heap.size T D M ls 0 false 0 G A9 n9 c9 (outF ls wh nm to_ lb N false 0) (outS ls wh nm to_ lb N false 0 0) lf9 Y → Calls Try.prog 25 #[.pointer (some ⟨D, 0, none⟩), .agg #[.int .i64 wh, .string nm, .string to_, .slice Ab nb cb, .int .i64 N]] Y fun e Y' => e = .returned (.int .i64 (errS ls wh nm to_ lb N false 0)) ∧ ∃ T9, Both V V3.heap.size T9 D M (outF ls wh nm to_ lb N false 0) (outS ls wh nm to_ lb N false 0 0) false (outR ls wh nm to_ lb N false 0) G A9 n9 c9 (outF ls wh nm to_ lb N false 0) (outS ls wh nm to_ lb N false 0 0) lf9 Y') := Lib.hid (fun Y h => do_both h wh N nm to_ (by simp only [maxLen]; omega) (by simp only [maxLen]; omega) Ab nb cb lb HNB.out HOB.out hcb (HRB.out.below (HX.out.trans (h.bel.mono (Nat.le_of_lt HB3w.out)))) (fun ad e h0 => by obtain ⟨b, off, e2, hlt, _⟩ := HRB.out h0; rw [e2] at e; cases e; have h2 := HB3w.out; simp only; omega) hN0 hN1 (by omega) (by have := HN.out; omega))
    have HFI : Hid (∀ T9 Y, Both V V3.heap.size T9 D M (outF ls wh nm to_ lb N false 0) (outS ls wh nm to_ lb N false 0 0) false (outR ls wh nm to_ lb N false 0) G A9 n9 c9 (outF ls wh nm to_ lb N false 0) (outS ls wh nm to_ lb N false 0 0) lf9 Y → Calls Try.prog 20 #[.pointer (some ⟨D, 0, none⟩)] Y fun e Y' => ∃ Af cf, e = .returned (.slice Af n9 cf) ∧ Both V V3.heap.size T9 D M (outF ls wh nm to_ lb N false 0) (outS ls wh nm to_ lb N false 0 0) false (outR ls wh nm to_ lb N false 0) G A9 n9 c9 (outF ls wh nm to_ lb N false 0) (outS ls wh nm to_ lb N false 0 0) lf9 Y' ∧ RdF Y' Af (outF ls wh nm to_ lb N false 0)) := Lib.hid (fun T9 Y h => (files_both h (by have := HLE.out; omega)).mono fun e Y' ⟨Af, cf, he, h1, h2, _⟩ => ⟨Af, cf, by rw [he, h.side.len], h1, h2⟩)
    have HSA : Hid (∀ T9 Y Af cf, Both V V3.heap.size T9 D M (outF ls wh nm to_ lb N false 0) (outS ls wh nm to_ lb N false 0 0) false (outR ls wh nm to_ lb N false 0) G A9 n9 c9 (outF ls wh nm to_ lb N false 0) (outS ls wh nm to_ lb N false 0 0) lf9 Y → RdF Y Af (outF ls wh nm to_ lb N false 0) → Calls Try.prog 17 #[.slice Af n9 cf, .slice A9 n9 c9] Y fun e Y' => e = .returned (.bool true) ∧ ∃ q, Y' = Y.drewN q) := Lib.hid (fun T9 Y Af cf h hr => same_any Af A9 n9 cf c9 (outF ls wh nm to_ lb N false 0) Y h.side.len (by have := h.side.len; have := HLE.out; omega) hr h.side.rd)
    have HSE : Hid (∀ T9 Y, Both V V3.heap.size T9 D M (outF ls wh nm to_ lb N false 0) (outS ls wh nm to_ lb N false 0 0) false (outR ls wh nm to_ lb N false 0) G A9 n9 c9 (outF ls wh nm to_ lb N false 0) (outS ls wh nm to_ lb N false 0 0) lf9 Y → Calls Try.prog 21 #[.pointer (some ⟨D, 0, none⟩)] Y fun e Y' => e = .returned (.int .i64 ((outS ls wh nm to_ lb N false 0 0) : Nat)) ∧ Y = Y') := Lib.hid (fun T9 Y h => steps_both h)
    clear HSD
    go_upto_region 5 with (fail)
    go_region_held3 (fun W => W.cell? ⟨w.heap.size, 0, none⟩ = some (.int .i64 wh) ∧ W.cell? ⟨w.heap.size, 1, none⟩ = some (.string nm) ∧ W.cell? ⟨w.heap.size, 2, none⟩ = some (.string to_) ∧ W.cell? ⟨w.heap.size, 3, none⟩ = some (.slice Ab nb cb) ∧ W.cell? ⟨w.heap.size, 4, none⟩ = some (.int .i64 N) ∧ W.cell? ⟨G, 0, none⟩ = some (.slice A9 n9 c9) ∧ W.cell? ⟨G, 1, none⟩ = some (.int .i64 ((outS ls wh nm to_ lb N false 0 0) : Nat)))
      (first | assumption | (exact ⟨l0, l1, l2, l3, l4, v0, v1⟩) | (exact ⟨f0, f1, f2, f3, f4, j0, j1⟩) | (exact ⟨d0, d1, d2, d3, d4, e0, e1⟩) | go_keep | (dsimp only; assumption))
      (first
        | (go_at_call 16; refine (num_any _ _).mono ?_; rintro e wn ⟨rfl, rfl⟩)
        | (go_at_call 25; with_reducible (refine (HDO.out _ HP.out).mono ?_); rintro e wd ⟨rfl, T9, hq⟩; have HQ := Lib.hid hq; obtain ⟨d0, d1, d2, d3, d4⟩ := HSTB.out _ hq.bel; obtain ⟨e0, e1, e2, ef⟩ := row3 hq.side.z; clear hq)
        | (go_at_call 20; with_reducible (refine (HFI.out _ _ HQ.out).mono ?_); rintro e wf ⟨Af, cf, rfl, hq, hrf⟩; have HQ2 := Lib.hid hq; have HRF2 := Lib.hid hrf; obtain ⟨f0, f1, f2, f3, f4⟩ := HSTB.out _ hq.bel; obtain ⟨j0, j1, j2, jf⟩ := row3 hq.side.z; clear hq hrf)
        | (go_at_call 17; with_reducible (refine (HSA.out _ _ _ _ HQ2.out HRF2.out).mono ?_); rintro e ws ⟨rfl, qs, rfl⟩; have HQ3 := Lib.hid (HQ2.out.below (below_any qs (Below.refl _ _))))
        | (go_at_call 21; with_reducible (refine (HSE.out _ _ HQ3.out).mono ?_); rintro e wt ⟨rfl, rfl⟩)
        | (go_at_call 12; refine (works_any _).mono ?_; rintro e wz ⟨rfl, hbi⟩; have HBI := Lib.hid ((HX.out.trans (HQ3.out.bel.mono (Nat.le_of_lt HB3w.out))).trans (hbi.mono (Nat.le_trans HX.out.size HQ3.out.bel.size))); have HQ4 := HQ3.out.below hbi; obtain ⟨l0, l1, l2, l3, l4⟩ := HSTB.out _ HQ4.bel; obtain ⟨v0, v1, v2, vf⟩ := row3 HQ4.side.z; clear hbi HQ4)
        | fail)
    go_wp2_with fail
    go_ret
    exact ⟨rfl, HBI.out⟩
  · clear HN0 HN1 HDA HDB HBD HKD
    have HWS : Hid (V.heap.size ≤ (wi.alloc Z46).heap.size) := Lib.hid (by simp; exact Nat.le_succ_of_le HI.out.size)
    have HRX : Hid (RdF (((wm.setCell ⟨wi.heap.size, 0, none⟩ (.slice A9 n9 c9)).setCell ⟨wi.heap.size, 1, none⟩ (.int .i64 ((outS ls wh nm to_ lb N false 0 0) : Nat))).setCell ⟨wi.heap.size, 2, none⟩ (.int .i64 lf9)) A9 (outF ls wh nm to_ lb N false 0)) := Lib.hid (HRF.out _ _ _)
    have HNA := Lib.hid (HT.out.na (T := T) (fun h0 ad e hT => by obtain ⟨b, off, e2, hlt, _⟩ := HA.out h0; rw [e2] at e; cases e; have h1 := HON.out.low _ hT; have h2 := HB3w.out; simp only at h1; omega) (fun b hT => Nat.lt_of_lt_of_le (HON.out.lt b hT) HWS.out))
    have HSD : Hid (Both V V3.heap.size T D M ls 0 false 0 (wi.heap.size) A9 n9 c9 (outF ls wh nm to_ lb N false 0) (outS ls wh nm to_ lb N false 0 0) lf9 (((wm.setCell ⟨wi.heap.size, 0, none⟩ (.slice A9 n9 c9)).setCell ⟨wi.heap.size, 1, none⟩ (.int .i64 ((outS ls wh nm to_ lb N false 0 0) : Nat))).setCell ⟨wi.heap.size, 2, none⟩ (.int .i64 lf9))) := Lib.hid ⟨HON.out.below HM.out.bel, ⟨HM.out.z, HRX.out, fun hT => by have h1 := HON.out.lt _ hT; have h2 := HM.out.ge; omega, HNA.out, HT.out.len, HT.out.cap, HT.out.nil⟩, HM.out.bel.mono HB3.out, HB3.out⟩
    clear HRX HNA HRF HWS HM HT HST
    generalize ((wm.setCell ⟨wi.heap.size, 0, none⟩ (.slice A9 n9 c9)).setCell ⟨wi.heap.size, 1, none⟩ (.int .i64 ((outS ls wh nm to_ lb N false 0 0) : Nat))).setCell ⟨wi.heap.size, 2, none⟩ (.int .i64 lf9) = X at HSD ⊢
    generalize (wi.heap.size) = G at HSD ⊢
    clear HI
    have HLE : Hid (((outF ls wh nm to_ lb N false 0)).length ≤ 301) := Lib.hid (by have := out_len ls wh nm to_ lb N false 0; have := HN.out; omega)
    have HSTB : Hid (∀ Y, Below V3.heap.size V Y → Y.cell? ⟨w.heap.size, 0, none⟩ = some (.int .i64 wh) ∧ Y.cell? ⟨w.heap.size, 1, none⟩ = some (.string nm) ∧ Y.cell? ⟨w.heap.size, 2, none⟩ = some (.string to_) ∧ Y.cell? ⟨w.heap.size, 3, none⟩ = some (.slice Ab nb cb) ∧ Y.cell? ⟨w.heap.size, 4, none⟩ = some (.int .i64 N)) := Lib.hid (fun Y h => row5 ((h.block _ HB3w.out).trans HZ.out))
    rename_i hHeld
    clear hHeld
    clear s0 s1 s2 s3 s4 i0 i1 i2 i3 i4 m0 m1 m2 m3 m4
    try clear z0 z1 z2 zf
    try clear k0 k1 k2 k3 k4
    obtain ⟨s0, s1, s2, s3, s4⟩ := HSTB.out _ HSD.out.bel
    obtain ⟨g0, g1, g2, gf⟩ := row3 HSD.out.side.z
    have HP : Hid (Both V V3.heap.size T D M ls 0 false 0 G A9 n9 c9 (outF ls wh nm to_ lb N false 0) (outS ls wh nm to_ lb N false 0 0) lf9 X.drew) := Lib.hid (HSD.out.below (Below.refl _ _).drew)
    have HDO : Hid (∀ Y, Both V V3.heap.size T D M ls 0 false 0 G A9 n9 c9 (outF ls wh nm to_ lb N false 0) (outS ls wh nm to_ lb N false 0 0) lf9 Y → Calls Try.prog 25 #[.pointer (some ⟨D, 0, none⟩), .agg #[.int .i64 wh, .string nm, .string to_, .slice Ab nb cb, .int .i64 N]] Y fun e Y' => e = .returned (.int .i64 (errS ls wh nm to_ lb N false 0)) ∧ ∃ T9, Both V V3.heap.size T9 D M (outF ls wh nm to_ lb N false 0) (outS ls wh nm to_ lb N false 0 0) false (outR ls wh nm to_ lb N false 0) G A9 n9 c9 (outF ls wh nm to_ lb N false 0) (outS ls wh nm to_ lb N false 0 0) lf9 Y') := Lib.hid (fun Y h => do_both h wh N nm to_ (by simp only [maxLen]; omega) (by simp only [maxLen]; omega) Ab nb cb lb HNB.out HOB.out hcb (HRB.out.below (HX.out.trans (h.bel.mono (Nat.le_of_lt HB3w.out)))) (fun ad e h0 => by obtain ⟨b, off, e2, hlt, _⟩ := HRB.out h0; rw [e2] at e; cases e; have h2 := HB3w.out; simp only; omega) hN0 hN1 (by omega) (by have := HN.out; omega))
    have HFI : Hid (∀ T9 Y, Both V V3.heap.size T9 D M (outF ls wh nm to_ lb N false 0) (outS ls wh nm to_ lb N false 0 0) false (outR ls wh nm to_ lb N false 0) G A9 n9 c9 (outF ls wh nm to_ lb N false 0) (outS ls wh nm to_ lb N false 0 0) lf9 Y → Calls Try.prog 20 #[.pointer (some ⟨D, 0, none⟩)] Y fun e Y' => ∃ Af cf, e = .returned (.slice Af n9 cf) ∧ Both V V3.heap.size T9 D M (outF ls wh nm to_ lb N false 0) (outS ls wh nm to_ lb N false 0 0) false (outR ls wh nm to_ lb N false 0) G A9 n9 c9 (outF ls wh nm to_ lb N false 0) (outS ls wh nm to_ lb N false 0 0) lf9 Y' ∧ RdF Y' Af (outF ls wh nm to_ lb N false 0)) := Lib.hid (fun T9 Y h => (files_both h (by have := HLE.out; omega)).mono fun e Y' ⟨Af, cf, he, h1, h2, _⟩ => ⟨Af, cf, by rw [he, h.side.len], h1, h2⟩)
    have HSA : Hid (∀ T9 Y Af cf, Both V V3.heap.size T9 D M (outF ls wh nm to_ lb N false 0) (outS ls wh nm to_ lb N false 0 0) false (outR ls wh nm to_ lb N false 0) G A9 n9 c9 (outF ls wh nm to_ lb N false 0) (outS ls wh nm to_ lb N false 0 0) lf9 Y → RdF Y Af (outF ls wh nm to_ lb N false 0) → Calls Try.prog 17 #[.slice Af n9 cf, .slice A9 n9 c9] Y fun e Y' => e = .returned (.bool true) ∧ ∃ q, Y' = Y.drewN q) := Lib.hid (fun T9 Y Af cf h hr => same_any Af A9 n9 cf c9 (outF ls wh nm to_ lb N false 0) Y h.side.len (by have := h.side.len; have := HLE.out; omega) hr h.side.rd)
    have HSE : Hid (∀ T9 Y, Both V V3.heap.size T9 D M (outF ls wh nm to_ lb N false 0) (outS ls wh nm to_ lb N false 0 0) false (outR ls wh nm to_ lb N false 0) G A9 n9 c9 (outF ls wh nm to_ lb N false 0) (outS ls wh nm to_ lb N false 0 0) lf9 Y → Calls Try.prog 21 #[.pointer (some ⟨D, 0, none⟩)] Y fun e Y' => e = .returned (.int .i64 ((outS ls wh nm to_ lb N false 0 0) : Nat)) ∧ Y = Y') := Lib.hid (fun T9 Y h => steps_both h)
    clear HSD
    go_upto_region 5 with (fail)
    go_region_held3 (fun W => W.cell? ⟨w.heap.size, 0, none⟩ = some (.int .i64 wh) ∧ W.cell? ⟨w.heap.size, 1, none⟩ = some (.string nm) ∧ W.cell? ⟨w.heap.size, 2, none⟩ = some (.string to_) ∧ W.cell? ⟨w.heap.size, 3, none⟩ = some (.slice Ab nb cb) ∧ W.cell? ⟨w.heap.size, 4, none⟩ = some (.int .i64 N) ∧ W.cell? ⟨G, 0, none⟩ = some (.slice A9 n9 c9) ∧ W.cell? ⟨G, 1, none⟩ = some (.int .i64 ((outS ls wh nm to_ lb N false 0 0) : Nat)))
      (first | assumption | (exact ⟨l0, l1, l2, l3, l4, v0, v1⟩) | (exact ⟨f0, f1, f2, f3, f4, j0, j1⟩) | (exact ⟨d0, d1, d2, d3, d4, e0, e1⟩) | go_keep | (dsimp only; assumption))
      (first
        | (go_at_call 16; refine (num_any _ _).mono ?_; rintro e wn ⟨rfl, rfl⟩)
        | (go_at_call 25; with_reducible (refine (HDO.out _ HP.out).mono ?_); rintro e wd ⟨rfl, T9, hq⟩; have HQ := Lib.hid hq; obtain ⟨d0, d1, d2, d3, d4⟩ := HSTB.out _ hq.bel; obtain ⟨e0, e1, e2, ef⟩ := row3 hq.side.z; clear hq)
        | (go_at_call 20; with_reducible (refine (HFI.out _ _ HQ.out).mono ?_); rintro e wf ⟨Af, cf, rfl, hq, hrf⟩; have HQ2 := Lib.hid hq; have HRF2 := Lib.hid hrf; obtain ⟨f0, f1, f2, f3, f4⟩ := HSTB.out _ hq.bel; obtain ⟨j0, j1, j2, jf⟩ := row3 hq.side.z; clear hq hrf)
        | (go_at_call 17; with_reducible (refine (HSA.out _ _ _ _ HQ2.out HRF2.out).mono ?_); rintro e ws ⟨rfl, qs, rfl⟩; have HQ3 := Lib.hid (HQ2.out.below (below_any qs (Below.refl _ _))))
        | (go_at_call 21; with_reducible (refine (HSE.out _ _ HQ3.out).mono ?_); rintro e wt ⟨rfl, rfl⟩)
        | (go_at_call 12; refine (works_any _).mono ?_; rintro e wz ⟨rfl, hbi⟩; have HBI := Lib.hid ((HX.out.trans (HQ3.out.bel.mono (Nat.le_of_lt HB3w.out))).trans (hbi.mono (Nat.le_trans HX.out.size HQ3.out.bel.size))); have HQ4 := HQ3.out.below hbi; obtain ⟨l0, l1, l2, l3, l4⟩ := HSTB.out _ HQ4.bel; obtain ⟨v0, v1, v2, vf⟩ := row3 HQ4.side.z; clear hbi HQ4)
        | fail)
    go_wp2_with fail
    go_ret
    exact ⟨rfl, HBI.out⟩
  · clear HN0 HN1 HDA HDB HBD HKD
    have HWS : Hid (V.heap.size ≤ wi.heap.size) := Lib.hid HI.out.bel.size
    have HRX : Hid (RdF (((wm.setCell ⟨V.heap.size, 0, none⟩ (.slice A9 n9 c9)).setCell ⟨V.heap.size, 1, none⟩ (.int .i64 ((outS ls wh nm to_ lb N false 0 0) : Nat))).setCell ⟨V.heap.size, 2, none⟩ (.int .i64 lf9)) A9 (outF ls wh nm to_ lb N false 0)) := Lib.hid (HRF.out _ _ _)
    have HNA := Lib.hid (HT.out.na (T := T) (fun h0 ad e hT => by obtain ⟨b, off, e2, hlt, _⟩ := HA.out h0; rw [e2] at e; cases e; have h1 := HON.out.low _ hT; have h2 := HB3w.out; simp only at h1; omega) (fun b hT => Nat.lt_of_lt_of_le (HON.out.lt b hT) HWS.out))
    have HSD : Hid (Both V V3.heap.size T D M ls 0 false 0 (V.heap.size) A9 n9 c9 (outF ls wh nm to_ lb N false 0) (outS ls wh nm to_ lb N false 0 0) lf9 (((wm.setCell ⟨V.heap.size, 0, none⟩ (.slice A9 n9 c9)).setCell ⟨V.heap.size, 1, none⟩ (.int .i64 ((outS ls wh nm to_ lb N false 0 0) : Nat))).setCell ⟨V.heap.size, 2, none⟩ (.int .i64 lf9))) := Lib.hid ⟨HON.out.below HM.out.bel, ⟨HM.out.z, HRX.out, fun hT => by have h1 := HON.out.lt _ hT; have h2 := HM.out.ge; omega, HNA.out, HT.out.len, HT.out.cap, HT.out.nil⟩, HM.out.bel.mono HB3.out, HB3.out⟩
    clear HRX HNA HRF HWS HM HT HST
    generalize ((wm.setCell ⟨V.heap.size, 0, none⟩ (.slice A9 n9 c9)).setCell ⟨V.heap.size, 1, none⟩ (.int .i64 ((outS ls wh nm to_ lb N false 0 0) : Nat))).setCell ⟨V.heap.size, 2, none⟩ (.int .i64 lf9) = X at HSD ⊢
    generalize (V.heap.size) = G at HSD ⊢
    clear HI
    have HLE : Hid (((outF ls wh nm to_ lb N false 0)).length ≤ 301) := Lib.hid (by have := out_len ls wh nm to_ lb N false 0; have := HN.out; omega)
    have HSTB : Hid (∀ Y, Below V3.heap.size V Y → Y.cell? ⟨w.heap.size, 0, none⟩ = some (.int .i64 wh) ∧ Y.cell? ⟨w.heap.size, 1, none⟩ = some (.string nm) ∧ Y.cell? ⟨w.heap.size, 2, none⟩ = some (.string to_) ∧ Y.cell? ⟨w.heap.size, 3, none⟩ = some (.slice Ab nb cb) ∧ Y.cell? ⟨w.heap.size, 4, none⟩ = some (.int .i64 N)) := Lib.hid (fun Y h => row5 ((h.block _ HB3w.out).trans HZ.out))
    rename_i hHeld
    clear hHeld
    clear s0 s1 s2 s3 s4 i0 i1 i2 i3 i4 m0 m1 m2 m3 m4
    try clear z0 z1 z2 zf
    try clear k0 k1 k2 k3 k4
    obtain ⟨s0, s1, s2, s3, s4⟩ := HSTB.out _ HSD.out.bel
    obtain ⟨g0, g1, g2, gf⟩ := row3 HSD.out.side.z
    have HP : Hid (Both V V3.heap.size T D M ls 0 false 0 G A9 n9 c9 (outF ls wh nm to_ lb N false 0) (outS ls wh nm to_ lb N false 0 0) lf9 X.drew) := Lib.hid (HSD.out.below (Below.refl _ _).drew)
    have HDO : Hid (∀ Y, Both V V3.heap.size T D M ls 0 false 0 G A9 n9 c9 (outF ls wh nm to_ lb N false 0) (outS ls wh nm to_ lb N false 0 0) lf9 Y → Calls Try.prog 25 #[.pointer (some ⟨D, 0, none⟩), .agg #[.int .i64 wh, .string nm, .string to_, .slice Ab nb cb, .int .i64 N]] Y fun e Y' => e = .returned (.int .i64 (errS ls wh nm to_ lb N false 0)) ∧ ∃ T9, Both V V3.heap.size T9 D M (outF ls wh nm to_ lb N false 0) (outS ls wh nm to_ lb N false 0 0) false (outR ls wh nm to_ lb N false 0) G A9 n9 c9 (outF ls wh nm to_ lb N false 0) (outS ls wh nm to_ lb N false 0 0) lf9 Y') := Lib.hid (fun Y h => do_both h wh N nm to_ (by simp only [maxLen]; omega) (by simp only [maxLen]; omega) Ab nb cb lb HNB.out HOB.out hcb (HRB.out.below (HX.out.trans (h.bel.mono (Nat.le_of_lt HB3w.out)))) (fun ad e h0 => by obtain ⟨b, off, e2, hlt, _⟩ := HRB.out h0; rw [e2] at e; cases e; have h2 := HB3w.out; simp only; omega) hN0 hN1 (by omega) (by have := HN.out; omega))
    have HFI : Hid (∀ T9 Y, Both V V3.heap.size T9 D M (outF ls wh nm to_ lb N false 0) (outS ls wh nm to_ lb N false 0 0) false (outR ls wh nm to_ lb N false 0) G A9 n9 c9 (outF ls wh nm to_ lb N false 0) (outS ls wh nm to_ lb N false 0 0) lf9 Y → Calls Try.prog 20 #[.pointer (some ⟨D, 0, none⟩)] Y fun e Y' => ∃ Af cf, e = .returned (.slice Af n9 cf) ∧ Both V V3.heap.size T9 D M (outF ls wh nm to_ lb N false 0) (outS ls wh nm to_ lb N false 0 0) false (outR ls wh nm to_ lb N false 0) G A9 n9 c9 (outF ls wh nm to_ lb N false 0) (outS ls wh nm to_ lb N false 0 0) lf9 Y' ∧ RdF Y' Af (outF ls wh nm to_ lb N false 0)) := Lib.hid (fun T9 Y h => (files_both h (by have := HLE.out; omega)).mono fun e Y' ⟨Af, cf, he, h1, h2, _⟩ => ⟨Af, cf, by rw [he, h.side.len], h1, h2⟩)
    have HSA : Hid (∀ T9 Y Af cf, Both V V3.heap.size T9 D M (outF ls wh nm to_ lb N false 0) (outS ls wh nm to_ lb N false 0 0) false (outR ls wh nm to_ lb N false 0) G A9 n9 c9 (outF ls wh nm to_ lb N false 0) (outS ls wh nm to_ lb N false 0 0) lf9 Y → RdF Y Af (outF ls wh nm to_ lb N false 0) → Calls Try.prog 17 #[.slice Af n9 cf, .slice A9 n9 c9] Y fun e Y' => e = .returned (.bool true) ∧ ∃ q, Y' = Y.drewN q) := Lib.hid (fun T9 Y Af cf h hr => same_any Af A9 n9 cf c9 (outF ls wh nm to_ lb N false 0) Y h.side.len (by have := h.side.len; have := HLE.out; omega) hr h.side.rd)
    have HSE : Hid (∀ T9 Y, Both V V3.heap.size T9 D M (outF ls wh nm to_ lb N false 0) (outS ls wh nm to_ lb N false 0 0) false (outR ls wh nm to_ lb N false 0) G A9 n9 c9 (outF ls wh nm to_ lb N false 0) (outS ls wh nm to_ lb N false 0 0) lf9 Y → Calls Try.prog 21 #[.pointer (some ⟨D, 0, none⟩)] Y fun e Y' => e = .returned (.int .i64 ((outS ls wh nm to_ lb N false 0 0) : Nat)) ∧ Y = Y') := Lib.hid (fun T9 Y h => steps_both h)
    clear HSD
    go_upto_region 5 with (fail)
    go_region_held3 (fun W => W.cell? ⟨w.heap.size, 0, none⟩ = some (.int .i64 wh) ∧ W.cell? ⟨w.heap.size, 1, none⟩ = some (.string nm) ∧ W.cell? ⟨w.heap.size, 2, none⟩ = some (.string to_) ∧ W.cell? ⟨w.heap.size, 3, none⟩ = some (.slice Ab nb cb) ∧ W.cell? ⟨w.heap.size, 4, none⟩ = some (.int .i64 N) ∧ W.cell? ⟨G, 0, none⟩ = some (.slice A9 n9 c9) ∧ W.cell? ⟨G, 1, none⟩ = some (.int .i64 ((outS ls wh nm to_ lb N false 0 0) : Nat)))
      (first | assumption | (exact ⟨l0, l1, l2, l3, l4, v0, v1⟩) | (exact ⟨f0, f1, f2, f3, f4, j0, j1⟩) | (exact ⟨d0, d1, d2, d3, d4, e0, e1⟩) | go_keep | (dsimp only; assumption))
      (first
        | (go_at_call 16; refine (num_any _ _).mono ?_; rintro e wn ⟨rfl, rfl⟩)
        | (go_at_call 25; with_reducible (refine (HDO.out _ HP.out).mono ?_); rintro e wd ⟨rfl, T9, hq⟩; have HQ := Lib.hid hq; obtain ⟨d0, d1, d2, d3, d4⟩ := HSTB.out _ hq.bel; obtain ⟨e0, e1, e2, ef⟩ := row3 hq.side.z; clear hq)
        | (go_at_call 20; with_reducible (refine (HFI.out _ _ HQ.out).mono ?_); rintro e wf ⟨Af, cf, rfl, hq, hrf⟩; have HQ2 := Lib.hid hq; have HRF2 := Lib.hid hrf; obtain ⟨f0, f1, f2, f3, f4⟩ := HSTB.out _ hq.bel; obtain ⟨j0, j1, j2, jf⟩ := row3 hq.side.z; clear hq hrf)
        | (go_at_call 17; with_reducible (refine (HSA.out _ _ _ _ HQ2.out HRF2.out).mono ?_); rintro e ws ⟨rfl, qs, rfl⟩; have HQ3 := Lib.hid (HQ2.out.below (below_any qs (Below.refl _ _))))
        | (go_at_call 21; with_reducible (refine (HSE.out _ _ HQ3.out).mono ?_); rintro e wt ⟨rfl, rfl⟩)
        | (go_at_call 12; refine (works_any _).mono ?_; rintro e wz ⟨rfl, hbi⟩; have HBI := Lib.hid ((HX.out.trans (HQ3.out.bel.mono (Nat.le_of_lt HB3w.out))).trans (hbi.mono (Nat.le_trans HX.out.size HQ3.out.bel.size))); have HQ4 := HQ3.out.below hbi; obtain ⟨l0, l1, l2, l3, l4⟩ := HSTB.out _ HQ4.bel; obtain ⟨v0, v1, v2, vf⟩ := row3 HQ4.side.z; clear hbi HQ4)
        | fail)
    go_wp2_with fail
    go_ret
    exact ⟨rfl, HBI.out⟩


theorem reads (os : Os) {H : Type} (enc : TypeId × Value → H) : ∃ places, DataW.whole enc Try.prog ((World.holding Try.prog os ⟨#[], #[.slice none 0 0, .agg #[.int .i64 0, .string ⟨#[]⟩, .string ⟨#[]⟩, .slice none 0 0, .int .i64 0]], []⟩).forCall (fun _ _ => 0) ⟨#[], #[.slice none 0 0, .agg #[.int .i64 0, .string ⟨#[]⟩, .string ⟨#[]⟩, .slice none 0 0, .int .i64 0]], []⟩).memory Try.f5.params.toList Rows.diskStepsSpec.vars false (#[.slice none 0 0, .agg #[.int .i64 0, .string ⟨#[]⟩, .string ⟨#[]⟩, .slice none 0 0, .int .i64 0]] : Array Value).toList 8 = some ([.nil, .agg [.lit (.int .i64 0), .lit (.string []), .lit (.string []), .nil, .lit (.int .i64 0)]], [], places) :=
  ⟨[], by kernel_rfl⟩
theorem laidNone (w : World) : laidMet Try.prog [] w := laidMet_of_run' 8 (by kernel_rfl) (by kernel_rfl)
set_option maxRecDepth 100000 in
theorem lifted (os : Os) (started : os.Started) (H : Type) (enc : TypeId × Value → H) (F : Stop.Interp) :
    ReturnsInHanded {} Try.checked os 5 .any ((OpenSpec.ofChange Rows.diskStepsSpec).preRow enc Try.prog Try.f5 Rows.diskStepsRow.domain false Rows.diskStepsRow.laid) (((OpenSpec.ofChange Rows.diskStepsSpec).at F).post enc Try.prog Try.f5 false true false false) := by
  obtain ⟨places, hx⟩ := reads os enc
  refine returnsInHanded_of_row (C := Try.checked) (s := OpenSpec.ofChange Rows.diskStepsSpec) own started (by kernel_rfl) Try.func5
    (witness_row_at (enc := enc) (C := Try.checked) false (World.holding Try.prog os ⟨#[], #[.slice none 0 0, .agg #[.int .i64 0, .string ⟨#[]⟩, .string ⟨#[]⟩, .slice none 0 0, .int .i64 0]], []⟩) #[.slice none 0 0, .agg #[.int .i64 0, .string ⟨#[]⟩, .string ⟨#[]⟩, .slice none 0 0, .int .i64 0]] rfl (by kernel_rfl) (by kernel_rfl) (by kernel_rfl)
      (OpenSpec.preRow_of_cond 8 hx (by kernel_rfl) (fun k hk => by cases hk) (by kernel_rfl) (laidNone _))) ?_
  intro W base args ds gs before hval0 hW _ _ hZ _ _ _
  show Calls Try.prog 5 args W fun e W' => ∃ v, e = .returned v ∧ Rows.diskStepsSpec.post enc Try.prog Try.f5 false true false false W args v W'
  have hval : ∀ (j : Nat) t v, Try.f5.params[j]? = some t → args[j]? = some v → Value.okWide Try.prog W .any base t v := hval0
  have hW' := hW
  obtain ⟨p, q, hA0, hV, rfl, hfz, hnd⟩ := hW
  have hA : DataW.TrodAll enc Try.prog W 0 (fun _ => true) true Try.f5.params.toList args.toList ds p := hA0
  have hZ1 : (DataW.weightsEach Try.prog (Try.f5.params.toList ++ (OpenSpec.ofChange Rows.diskStepsSpec).bare.plain.varTypes Try.prog) (ds ++ gs)).all (· ≤ reachBytes) = true := hZ
  rw [Try.params5] at hZ1
  rw [Try.params5] at hA hval
  obtain ⟨v0, vs0, d0, ds0, p0, q0, hargs, rfl, rfl, h0, r0⟩ := trodAll_cons hA
  obtain ⟨v1, vs1, d1, ds1, p1, q1, rfl, rfl, rfl, h1, r1⟩ := trodAll_cons r0
  obtain ⟨rfl, rfl, rfl⟩ := trodAll_nil r1
  obtain rfl : args = #[v0, v1] := by cases args; simp_all
  obtain ⟨rfl, rfl⟩ := trodVars_none hV
  have k0 := h0
  have lt0 : ∀ x ∈ p0, x.block < W.heap.size := by obtain ⟨m, hm⟩ := k0; exact DataW.trod_lt m _ _ _ hm
  obtain ⟨ca0, na0, ea0, rfl⟩ := okWide_slice Try.underlying24 (hval 0 24 v0 rfl rfl)
  obtain ⟨fu0, hf0⟩ := h0
  obtain ⟨A0, n0, c0, l0, hv0, hn0, hnc0, hcm0, hO0, hr0, hs0⟩ := files_of hf0 (weight_at hZ1 (j := 0) rfl rfl)
  cases hv0
  simp only [maxLen] at hcm0
  have k1 := h1
  have lt1 : ∀ x ∈ p1, x.block < W.heap.size := by obtain ⟨m, hm⟩ := k1; exact DataW.trod_lt m _ _ _ hm
  obtain ⟨fu1, hf1⟩ := h1
  obtain ⟨s1, hv1, hs1⟩ := step_of (hval 1 43 v1 rfl rfl) hf1 (weight_at hZ1 (j := 1) rfl rfl)
  subst hv1
  clear hA0 hval0
  refine (walk ca0 na0 ea0 l0 s1.wh s1.N s1.nm s1.to_ s1.A s1.n s1.c s1.l W hn0 hnc0 (by omega) hO0 hr0 hs0 hs1.1 hs1.2.1.1 hs1.2.1.2 hs1.2.2.1.1 hs1.2.2.1.2 hs1.2.2.2.1 hs1.2.2.2.2.1 hs1.2.2.2.2.2.2.1 hs1.2.2.2.2.2.2.2).mono fun e W' ⟨he, bel⟩ => ?_
  subst he
  exact ⟨_, rfl, _, _, _, [], _, [], hW', trodAll_mk1 (shut_bool Try.underlying4 _), (trodAll_cons_mk (Below.trod laidOut (by kernel_rfl) (of_decide_eq_true (by kernel_rfl)) k0 bel lt0) (trodAll_cons_mk (Below.trod laidOut (by kernel_rfl) (of_decide_eq_true (by kernel_rfl)) k1 bel lt1) trodAll_mk0)), rfl, bel.frame _, fun h => by cases h⟩

/-- The statement. -/
theorem proved : Rows.DiskStepsSaid :=
  OpenClaim.holds_of_cond 5 Try.f5 rfl rfl rfl rfl rfl rfl rfl ⟨rfl, rfl, rfl, rfl, rfl⟩ rfl rfl rfl rfl rfl (by kernel_rfl) Try.func5 (by kernel_rfl)
    (of_decide_eq_true (by kernel_rfl)) (by unfold Func.isWrapper; first | (rw [if_pos (by decide +kernel)]; kernel_rfl) | (rw [if_neg (by decide +kernel)]; exact ⟨rfl, rfl⟩))
    (fun os started H enc _ F => by rw [OpenClaim.pre_eq_preRow]; exact lifted os started H enc F)
#print axioms proved
end Go.Proofs.Ytcfglgejjmapdaa.diskSteps
