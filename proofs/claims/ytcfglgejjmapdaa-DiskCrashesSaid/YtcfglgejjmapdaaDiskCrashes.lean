/- Proved here: 'taborlaw02.DiskCrashes' returns true for every input. Conditions: none. -/
import Derived.LaidLaws
import Derived.Test.YtcfglgejjmapdaaFrame
import Derived.Test.YtcfglgejjmapdaaRCrash
import Derived.Deep.RegionHeld3
import Derived.Deep.CutRange
namespace Go.Proofs.Ytcfglgejjmapdaa.diskCrashes
open Go Go.RowKit Go.ChangeShapes Go.WideShapes Go.ChangeAt
open Go.Shelf

set_option maxRecDepth 100000 in
set_option maxHeartbeats 16000000 in
theorem walk (A : Option Addr) (n c : Nat) (ls : List F) (wh N : Int) (nm to_ : ByteArray) (Ab : Option Addr) (nb cb : Nat) (lb : List UInt8) (Ak : Option Addr) (nk ck : Nat) (lk : List Int) (w : World)
    (hn : ls.length = n) (hcc : n ≤ c) (hcm : n ≤ 9223372036854775807) (hO : A = none → c = 0) (ha : RdF w A ls) (hs : ∀ a ∈ ls, a.ok) (hwh : -9223372036854775808 ≤ wh ∧ wh ≤ 9223372036854775807) (hN0 : -9223372036854775808 ≤ N) (hN1 : N ≤ 9223372036854775807) (hnm : nm.size ≤ 140737488351232) (hto : to_.size ≤ 140737488351232)
    (hnb : lb.length = nb) (hcb : nb ≤ cb) (hob : Ab = none → cb = 0) (hrb : Rd w Ab lb) (hnk : lk.length = nk) (hmk : nk ≤ 9223372036854775807) (hrk : RdV w Ak (intsV lk)) :
    Calls Try.prog 7 #[.slice A n c, .agg #[.int .i64 wh, .string nm, .string to_, .slice Ab nb cb, .int .i64 N], .slice Ak nk ck] w fun e w' => e = .returned (.bool true) ∧ Below w.heap.size w w' := by
  have HNK := Lib.hid hnk
  have HRK := Lib.hid hrk
  clear hnk hrk
  have H1 := Lib.hid (few_any A n c ls (w.alloc (.cells #[.int .i64 wh, .string nm, .string to_, .slice Ab nb cb, .int .i64 N] 43)) hn (by omega) (fun f hf => (hs f hf).1) (ha.below (below_new w _)))
  have HN := Lib.hid hn
  have HA := Lib.hid ha
  have HS := Lib.hid hs
  have HO := Lib.hid hO
  have HNB := Lib.hid hnb
  have HOB := Lib.hid hob
  have HRB := Lib.hid hrb
  clear ha hs hn hO hnb hob hrb
  have HZ0 := Lib.hid (heap_alloc_new w (.cells #[.int .i64 wh, .string nm, .string to_, .slice Ab nb cb, .int .i64 N] 43))
  have HB0 := Lib.hid (below_new w (.cells #[.int .i64 wh, .string nm, .string to_, .slice Ab nb cb, .int .i64 N] 43))
  go_enter Try.func7, Try.ntmps7
  go_wp2_with fail
  refine Calls.mono H1.out ?_
  rintro e w1 ⟨rfl, q1, rfl⟩
  have HX1 := Lib.hid (below_any q1 HB0.out)
  have HZ1 : Hid (((w.alloc (.cells #[.int .i64 wh, .string nm, .string to_, .slice Ab nb cb, .int .i64 N] 43)).drewN q1).heap[w.heap.size]? = some (.cells #[.int .i64 wh, .string nm, .string to_, .slice Ab nb cb, .int .i64 N] 43 (0, 0))) := HZ0
  clear H1 HB0 HZ0
  generalize (w.alloc (.cells #[.int .i64 wh, .string nm, .string to_, .slice Ab nb cb, .int .i64 N] 43)).drewN q1 = V at HX1 HZ1 ⊢
  by_cases hf : szF ls ≤ 3000
  rotate_left
  · have d0 : decide (szF ls ≤ 3000) = false := decide_eq_false hf
    clear hf
    go_wp2_with fail
    refine Calls.mono (works_any _) ?_
    rintro e wi ⟨rfl, hbi⟩
    have HBI := Lib.hid (HX1.out.trans (hbi.mono HX1.out.size))
    go_wp2_with fail
    go_ret
    exact ⟨rfl, HBI.out⟩
  have d0 : decide (szF ls ≤ 3000) = true := decide_eq_true hf
  have hn300 : n ≤ 300 := by have := szF_len ls; have := HN.out; omega
  clear hf
  obtain ⟨s0, s1, s2, s3, s4⟩ := row5 HZ1.out
  have HSM := Lib.hid (small_any wh N nm to_ Ab nb cb V)
  go_wp2_with fail
  refine Calls.mono HSM.out ?_
  rintro e w2 ⟨rfl, hb2⟩
  have HX2 := Lib.hid (HX1.out.trans (hb2.mono HX1.out.size))
  have HZ2 := Lib.hid ((hb2.block _ (lt_of_block HZ1.out)).trans HZ1.out)
  clear s0 s1 s2 s3 s4 hb2 HSM HX1 HZ1 d0
  obtain ⟨s0, s1, s2, s3, s4⟩ := row5 HZ2.out
  by_cases hsm : smallB nm to_ nb = true
  rotate_left
  · have d1 : smallB nm to_ nb = false := by simpa using hsm
    clear hsm
    rw [d1]
    clear d1
    go_wp2_with fail
    refine Calls.mono (works_any _) ?_
    rintro e wi ⟨rfl, hbi⟩
    have HBI := Lib.hid (HX2.out.trans (hbi.mono HX2.out.size))
    go_wp2_with fail
    go_ret
    exact ⟨rfl, HBI.out⟩
  rw [hsm]
  have hnb1 : nm.size ≤ 200 ∧ to_.size ≤ 200 ∧ nb ≤ 1000 := by simpa [smallB, and_assoc] using hsm
  obtain ⟨hk1, hk2, hk3⟩ := hnb1
  clear hsm
  by_cases hw0 : wh < 0
  · have d1 : decide (wh < 0) = true := decide_eq_true hw0
    clear hw0
    go_wp2_with fail
    refine Calls.mono (works_any _) ?_
    rintro e wi ⟨rfl, hbi⟩
    have HBI := Lib.hid (HX2.out.trans (hbi.mono HX2.out.size))
    go_wp2_with fail
    go_ret
    exact ⟨rfl, HBI.out⟩
  have d1 : decide (wh < 0) = false := decide_eq_false hw0
  by_cases hw4 : 4 < wh
  · have d2 : decide (4 < wh) = true := decide_eq_true hw4
    clear hw4 hw0
    go_wp2_with fail
    refine Calls.mono (works_any _) ?_
    rintro e wi ⟨rfl, hbi⟩
    have HBI := Lib.hid (HX2.out.trans (hbi.mono HX2.out.size))
    go_wp2_with fail
    go_ret
    exact ⟨rfl, HBI.out⟩
  have d2 : decide (4 < wh) = false := decide_eq_false hw4
  clear hw0 hw4
  have HCK := Lib.hid (check_any A n c ls w2 HN.out (by omega) (fun f hf => (HS.out f hf).1) (HA.out.below HX2.out))
  obtain ⟨ck, hck⟩ : ∃ ck, checkF ls = ck := ⟨_, rfl⟩
  rw [hck] at HCK
  go_wp2_with fail
  refine Calls.mono HCK.out ?_
  rintro e w3 ⟨rfl, q3, rfl⟩
  have HX3 := Lib.hid (below_any q3 HX2.out)
  have HZ3 : Hid ((w2.drewN q3).heap[w.heap.size]? = some (.cells #[.int .i64 wh, .string nm, .string to_, .slice Ab nb cb, .int .i64 N] 43 (0, 0))) := HZ2
  clear s0 s1 s2 s3 s4 HCK HX2 HZ2 d1 d2
  generalize w2.drewN q3 = V3 at HX3 HZ3 ⊢
  by_cases hc0 : ck = 0
  rotate_left
  · have d0 : (ck != 0) = true := by simpa using hc0
    have d1 : decide (ck = 0) = false := decide_eq_false hc0
    clear hck
    go_wp2_with fail
    refine Calls.mono (works_any _) ?_
    rintro e wi ⟨rfl, hbi⟩
    have HBI := Lib.hid (HX3.out.trans (hbi.mono HX3.out.size))
    go_wp2_with fail
    go_ret
    exact ⟨rfl, HBI.out⟩
  subst hc0
  have HC := Lib.hid (from_any A n c ls V3 HN.out (by omega) (fun f hf => (HS.out f hf).1) (HA.out.below HX3.out))
  go_wp2_with fail
  refine Calls.mono HC.out ?_
  rintro e V ⟨hb4, hq⟩
  have HX := Lib.hid (HX3.out.trans (hb4.mono HX3.out.size))
  have HZ := Lib.hid ((hb4.block _ (lt_of_block HZ3.out)).trans HZ3.out)
  have HB3 : Hid (V3.heap.size ≤ V.heap.size) := Lib.hid hb4.size
  have HB3w : Hid (w.heap.size < V3.heap.size) := Lib.hid (lt_of_block HZ3.out)
  have HQ := Lib.hid hq
  clear hb4 hq HC
  rcases HQ.out with ⟨hne, rfl⟩ | ⟨hce, T, D, M, rfl, hon⟩
  · exact absurd hck hne
  have HON := Lib.hid hon
  have HFL := Lib.hid hon.fine
  clear HQ hon hce hck HX3 HZ3
  have HST : Hid (∀ W, Below V.heap.size V W → W.cell? ⟨w.heap.size, 0, none⟩ = some (.int .i64 wh) ∧ W.cell? ⟨w.heap.size, 1, none⟩ = some (.string nm) ∧ W.cell? ⟨w.heap.size, 2, none⟩ = some (.string to_) ∧ W.cell? ⟨w.heap.size, 3, none⟩ = some (.slice Ab nb cb) ∧ W.cell? ⟨w.heap.size, 4, none⟩ = some (.int .i64 N)) := Lib.hid (fun W h => row5 ((h.block _ (lt_of_block HZ.out)).trans HZ.out))
  have HN0 : Hid (∀ W, Below V.heap.size V W → Calls Try.prog 24 #[.slice A n c] W fun e w' => e = .returned (.agg #[.slice A n c, .int .i64 0, .int .i64 (-1)]) ∧ Below V.heap.size V w') := Lib.hid (rnew_0 A n c V)
  have HN1 : Hid (∀ W G, K1 V W G → Calls Try.prog 24 #[.slice A n c] W fun e w' => e = .returned (.agg #[.slice A n c, .int .i64 0, .int .i64 (-1)]) ∧ K1 V w' G) := Lib.hid (rnew_1 A n c V)
  have HAV : Hid (RdF V A ls) := Lib.hid (HA.out.below HX.out)
  have HRBV : Hid (Rd V Ab lb) := Lib.hid (HRB.out.below (HX.out))
  have HD0 : Hid (∀ W, Below V.heap.size V W → Calls Try.prog 23 #[.agg #[.slice A n c, .int .i64 0, .int .i64 (-1)], .agg #[.int .i64 wh, .string nm, .string to_, .slice Ab nb cb, .int .i64 N]] W (RDo2 ls wh nm to_ lb N false 0 0 A (-1) W)) := Lib.hid (fun W h => rdo_rel A n c ls 0 false 0 (-1) wh N nm to_ Ab nb cb lb W HN.out (by have := hn300; omega) hcc HO.out (HAV.out.below h) hnm hto HFL.out HNB.out hk3 hcb HOB.out (HRBV.out.below h) (by omega) (by omega) (by omega) (by unfold RelL; simp))
  have HDA : Hid (∀ W, Below V.heap.size V W → Calls Try.prog 23 #[.agg #[.slice A n c, .int .i64 0, .int .i64 (-1)], .agg #[.int .i64 wh, .string nm, .string to_, .slice Ab nb cb, .int .i64 N]] W (RP ls wh nm to_ lb N false 0 0 A (-1) V W (fun X => Below V.heap.size V X))) := Lib.hid (fun W h => (HD0.out W h).mono fun _ _ hq => RP.of (fun _ hb => h.trans (hb.mono h.size)) hq)
  have HDB : Hid (∀ W G, K1 V W G → Calls Try.prog 23 #[.agg #[.slice A n c, .int .i64 0, .int .i64 (-1)], .agg #[.int .i64 wh, .string nm, .string to_, .slice Ab nb cb, .int .i64 N]] W (RP ls wh nm to_ lb N false 0 0 A (-1) V W (fun X => K1 V X G))) := Lib.hid (fun W G h => (HD0.out W h.bel).mono fun _ _ hq => RP.of (fun _ hb => h.next hb) hq)
  have HBD : Hid (Below V.heap.size V V.drew) := Lib.hid (Below.refl _ _).drew
  have HKD : Hid (K1 V (V.alloc Z46).drew V.heap.size) := Lib.hid ((K1.new (Below.refl _ _)).next (Below.refl _ _).drew)
  clear HD0
  obtain ⟨s0, s1, s2, s3, s4⟩ := HST.out _ (Below.refl _ _)
  go_upto_region 4 with (fail)
  go_cut [9, 10] from 44 (fun p e W => ∃ G A9 n9 c9 lf9, p = .pointer (some ⟨G, 0, none⟩) ∧ e = .int .i64 (errS ls wh nm to_ lb N false 0) ∧ Hid (Both V V3.heap.size T D M ls 0 false 0 G A9 n9 c9 (outF ls wh nm to_ lb N false 0) (outS ls wh nm to_ lb N false 0 0) lf9 W) ∧ Hid (Below V.heap.size V W))
  case first =>
    go_region_held3 (fun W => W.cell? ⟨w.heap.size, 0, none⟩ = some (.int .i64 wh) ∧ W.cell? ⟨w.heap.size, 1, none⟩ = some (.string nm) ∧ W.cell? ⟨w.heap.size, 2, none⟩ = some (.string to_) ∧ W.cell? ⟨w.heap.size, 3, none⟩ = some (.slice Ab nb cb) ∧ W.cell? ⟨w.heap.size, 4, none⟩ = some (.int .i64 N))
      (first | assumption | (exact ⟨k0, k1, k2, k3, k4⟩) | go_keep | (dsimp only; assumption))
      (first
      | (go_at_call 24; with_reducible (refine (HN0.out _ HBD.out).mono ?_); rintro e wi ⟨rfl, Hi⟩; have HI := Lib.hid Hi; obtain ⟨i0, i1, i2, i3, i4⟩ := HST.out _ Hi; clear Hi)
      | (go_at_call 24; with_reducible (refine (HN1.out _ _ HKD.out).mono ?_); rintro e wi ⟨rfl, Hi⟩; have HI := Lib.hid Hi; obtain ⟨i0, i1, i2, i3, i4⟩ := HST.out _ Hi.bel; clear Hi)
      | (go_at_call 23; with_reducible (refine (HDA.out _ HI.out).mono ?_); rintro e wm ⟨A9, n9, c9, lf9, rfl, hr, ht, hk⟩; have HR := Lib.hid hr; have HT := Lib.hid ht; have HM := Lib.hid (Box.new (A := A9) (n := n9) (c := c9) (st := (((outS ls wh nm to_ lb N false 0 0) : Nat) : Int)) (lf := lf9) hk); have HRF := Lib.hid (fun o => ht.alloc o); obtain ⟨m0, m1, m2, m3, m4⟩ := HST.out _ hk; clear hr ht hk)
      | (go_at_call 23; with_reducible (refine (HDB.out _ _ HI.out).mono ?_); rintro e wm ⟨A9, n9, c9, lf9, rfl, hr, ht, hk⟩; have HR := Lib.hid hr; have HT := Lib.hid ht; have HM := Lib.hid (K1.stored (A := A9) (n := n9) (c := c9) (st := (((outS ls wh nm to_ lb N false 0 0) : Nat) : Int)) (lf := lf9) hk); have HRF := Lib.hid (ht.stored HAV.out hk.ge (lt_of_block HI.out.z)); obtain ⟨m0, m1, m2, m3, m4⟩ := HST.out _ hk.bel; obtain ⟨z0, z1, z2, zf⟩ := row3 hk.z; obtain ⟨k0, k1, k2, k3, k4⟩ := HST.out _ HM.out.bel; clear hr ht hk)
      | (go_at_call 23; with_reducible (refine (HDB.out _ _ (K1.new HI.out)).mono ?_); rintro e wm ⟨A9, n9, c9, lf9, rfl, hr, ht, hk⟩; have HR := Lib.hid hr; have HT := Lib.hid ht; have HM := Lib.hid (K1.stored (A := A9) (n := n9) (c := c9) (st := (((outS ls wh nm to_ lb N false 0 0) : Nat) : Int)) (lf := lf9) hk); have HRF := Lib.hid (ht.stored HAV.out hk.ge (by simp)); obtain ⟨m0, m1, m2, m3, m4⟩ := HST.out _ hk.bel; obtain ⟨z0, z1, z2, zf⟩ := row3 hk.z; obtain ⟨k0, k1, k2, k3, k4⟩ := HST.out _ HM.out.bel; clear hr ht hk)
      | fail)
    · have HWS : Hid (V.heap.size ≤ wi.heap.size) := Lib.hid HI.out.size
      have HRX : Hid (RdF (wm.alloc (.cells #[.slice A9 n9 c9, .int .i64 ((outS ls wh nm to_ lb N false 0 0) : Nat), .int .i64 lf9] 46)) A9 (outF ls wh nm to_ lb N false 0)) := Lib.hid (HRF.out _)
      have HNA := Lib.hid (HT.out.na (T := T) (fun h0 ad e hT => by obtain ⟨b, off, e2, hlt, _⟩ := HA.out h0; rw [e2] at e; cases e; have h1 := HON.out.low _ hT; have h2 := HB3w.out; simp only at h1; omega) (fun b hT => Nat.lt_of_lt_of_le (HON.out.lt b hT) HWS.out))
      have HSD : Hid (Both V V3.heap.size T D M ls 0 false 0 (wm.heap.size) A9 n9 c9 (outF ls wh nm to_ lb N false 0) (outS ls wh nm to_ lb N false 0 0) lf9 (wm.alloc (.cells #[.slice A9 n9 c9, .int .i64 ((outS ls wh nm to_ lb N false 0 0) : Nat), .int .i64 lf9] 46))) := Lib.hid ⟨HON.out.below HM.out.bel, ⟨HM.out.z, HRX.out, fun hT => by have h1 := HON.out.lt _ hT; have h2 := HM.out.ge; omega, HNA.out, HT.out.len, HT.out.cap, HT.out.nil⟩, HM.out.bel.mono HB3.out, HB3.out⟩
      have HBM := Lib.hid HM.out.bel
      clear HRX HNA HRF HWS HM HT
      go_wp2_with fail
      go_meet
      exact ⟨_, _, _, _, _, rfl, rfl, HSD, HBM⟩
    · have HWS : Hid (V.heap.size ≤ (wi.alloc Z46).heap.size) := Lib.hid (by simp; exact Nat.le_succ_of_le HI.out.size)
      have HRX : Hid (RdF (((wm.setCell ⟨wi.heap.size, 0, none⟩ (.slice A9 n9 c9)).setCell ⟨wi.heap.size, 1, none⟩ (.int .i64 ((outS ls wh nm to_ lb N false 0 0) : Nat))).setCell ⟨wi.heap.size, 2, none⟩ (.int .i64 lf9)) A9 (outF ls wh nm to_ lb N false 0)) := Lib.hid (HRF.out _ _ _)
      have HNA := Lib.hid (HT.out.na (T := T) (fun h0 ad e hT => by obtain ⟨b, off, e2, hlt, _⟩ := HA.out h0; rw [e2] at e; cases e; have h1 := HON.out.low _ hT; have h2 := HB3w.out; simp only at h1; omega) (fun b hT => Nat.lt_of_lt_of_le (HON.out.lt b hT) HWS.out))
      have HSD : Hid (Both V V3.heap.size T D M ls 0 false 0 (wi.heap.size) A9 n9 c9 (outF ls wh nm to_ lb N false 0) (outS ls wh nm to_ lb N false 0 0) lf9 (((wm.setCell ⟨wi.heap.size, 0, none⟩ (.slice A9 n9 c9)).setCell ⟨wi.heap.size, 1, none⟩ (.int .i64 ((outS ls wh nm to_ lb N false 0 0) : Nat))).setCell ⟨wi.heap.size, 2, none⟩ (.int .i64 lf9))) := Lib.hid ⟨HON.out.below HM.out.bel, ⟨HM.out.z, HRX.out, fun hT => by have h1 := HON.out.lt _ hT; have h2 := HM.out.ge; omega, HNA.out, HT.out.len, HT.out.cap, HT.out.nil⟩, HM.out.bel.mono HB3.out, HB3.out⟩
      have HBM := Lib.hid HM.out.bel
      clear HRX HNA HRF HWS HM HT
      go_wp2_with fail
      go_meet
      exact ⟨_, _, _, _, _, rfl, rfl, HSD, HBM⟩
    · have HWS : Hid (V.heap.size ≤ wi.heap.size) := Lib.hid HI.out.bel.size
      have HRX : Hid (RdF (((wm.setCell ⟨V.heap.size, 0, none⟩ (.slice A9 n9 c9)).setCell ⟨V.heap.size, 1, none⟩ (.int .i64 ((outS ls wh nm to_ lb N false 0 0) : Nat))).setCell ⟨V.heap.size, 2, none⟩ (.int .i64 lf9)) A9 (outF ls wh nm to_ lb N false 0)) := Lib.hid (HRF.out _ _ _)
      have HNA := Lib.hid (HT.out.na (T := T) (fun h0 ad e hT => by obtain ⟨b, off, e2, hlt, _⟩ := HA.out h0; rw [e2] at e; cases e; have h1 := HON.out.low _ hT; have h2 := HB3w.out; simp only at h1; omega) (fun b hT => Nat.lt_of_lt_of_le (HON.out.lt b hT) HWS.out))
      have HSD : Hid (Both V V3.heap.size T D M ls 0 false 0 (V.heap.size) A9 n9 c9 (outF ls wh nm to_ lb N false 0) (outS ls wh nm to_ lb N false 0 0) lf9 (((wm.setCell ⟨V.heap.size, 0, none⟩ (.slice A9 n9 c9)).setCell ⟨V.heap.size, 1, none⟩ (.int .i64 ((outS ls wh nm to_ lb N false 0 0) : Nat))).setCell ⟨V.heap.size, 2, none⟩ (.int .i64 lf9))) := Lib.hid ⟨HON.out.below HM.out.bel, ⟨HM.out.z, HRX.out, fun hT => by have h1 := HON.out.lt _ hT; have h2 := HM.out.ge; omega, HNA.out, HT.out.len, HT.out.cap, HT.out.nil⟩, HM.out.bel.mono HB3.out, HB3.out⟩
      have HBM := Lib.hid HM.out.bel
      clear HRX HNA HRF HWS HM HT
      go_wp2_with fail
      go_meet
      exact ⟨_, _, _, _, _, rfl, rfl, HSD, HBM⟩
  case rest =>
    obtain ⟨G1, A1, n1, c1, lf1, rfl, rfl, HSD, _⟩ := hcut
    clear HST HN0 HN1 HDA HDB HBD HKD s0 s1 s2 s3 s4 HAV HRBV
    have HLE : Hid (((outF ls wh nm to_ lb N false 0)).length ≤ 301) := Lib.hid (by have := out_len ls wh nm to_ lb N false 0; have := HN.out; omega)
    have HSTB : Hid (∀ Y, Below V3.heap.size V Y → Y.cell? ⟨w.heap.size, 0, none⟩ = some (.int .i64 wh) ∧ Y.cell? ⟨w.heap.size, 1, none⟩ = some (.string nm) ∧ Y.cell? ⟨w.heap.size, 2, none⟩ = some (.string to_) ∧ Y.cell? ⟨w.heap.size, 3, none⟩ = some (.slice Ab nb cb) ∧ Y.cell? ⟨w.heap.size, 4, none⟩ = some (.int .i64 N)) := Lib.hid (fun Y h => row5 ((h.block _ HB3w.out).trans HZ.out))
    obtain ⟨s0, s1, s2, s3, s4⟩ := HSTB.out _ HSD.out.bel
    have HDO := Lib.hid (do_both HSD.out wh N nm to_ (by simp only [maxLen]; omega) (by simp only [maxLen]; omega) Ab nb cb lb HNB.out HOB.out hcb (HRB.out.below (HX.out.trans (HSD.out.bel.mono (Nat.le_of_lt HB3w.out)))) (fun ad e h0 => by obtain ⟨b, off, e2, hlt, _⟩ := HRB.out h0; rw [e2] at e; cases e; have h2 := HB3w.out; simp only; omega) hN0 hN1 (by omega) (by have := HN.out; omega))
    go_wp2_with fail
    refine Calls.mono HDO.out ?_
    rintro e wd ⟨rfl, T9, hq, _⟩
    have HQ := Lib.hid hq
    clear hq HDO HSD s0 s1 s2 s3 s4
    have HHL := Lib.hid (halt_both HQ.out 0 (by omega) (by omega))
    go_wp2_with fail
    refine Calls.mono HHL.out ?_
    rintro e wa ⟨rfl, hq⟩
    rw [show max (0 : Int) 0 = 0 from rfl] at hq
    have HQ6 := Lib.hid hq
    clear hq HHL HQ
    have HXA : Hid (Below w.heap.size w wa) := Lib.hid (HX.out.trans (HQ6.out.bel.mono (Nat.le_of_lt HB3w.out)))
    have HCR := Lib.hid (crash_on wa Ak nk ck lk HQ6.out.on (by have := HLE.out; omega) HNK.out (HRK.out.below HXA.out) hmk)
    obtain ⟨L, hL⟩ : ∃ L, crashL lk (outF ls wh nm to_ lb N false 0) = L := ⟨_, rfl⟩
    rw [hL] at HCR
    have HLQ := Lib.hid hL
    have HLL : Hid (L.length ≤ 301) := Lib.hid (by rw [← hL, crashL_len]; exact HLE.out)
    clear hL
    go_wp2_with fail
    refine Calls.mono HCR.out ?_
    rintro e wb ⟨Tc, Dc, Mc, rfl, hoc, hbb⟩
    have HFC := Lib.hid hoc.fine
    have HQ7 := Lib.hid (HQ6.out.below hbb)
    have HXB := Lib.hid (HXA.out.trans (hbb.mono HXA.out.size))
    have HAB : Hid (wa.heap.size ≤ wb.heap.size) := Lib.hid hbb.size
    have HTA : Hid (∀ b, T9 b → b < wa.heap.size) := Lib.hid HQ6.out.on.lt
    have HTC : Hid (∀ b, Tc b → b < wb.heap.size) := Lib.hid hoc.lt
    have HGA : Hid (G1 < wa.heap.size) := Lib.hid (lt_of_block HQ6.out.side.z)
    have HRA : Hid (RdF wa A1 (outF ls wh nm to_ lb N false 0)) := Lib.hid HQ6.out.side.rd
    have HBA : Hid (V3.heap.size ≤ wa.heap.size) := Lib.hid (Nat.le_trans HB3.out HQ6.out.bel.size)
    have HOB0 := Lib.hid hoc
    clear hoc hbb HCR HQ6
    obtain ⟨g0, g1, g2, gf⟩ := row3 HQ7.out.side.z
    have HRC := Lib.hid (rcrash_any A1 n1 c1 (outF ls wh nm to_ lb N false 0) Ak nk ck lk wb HQ7.out.side.len (by have := HQ7.out.side.len; have := HLE.out; omega) HQ7.out.side.rd HQ7.out.on.fine HNK.out hmk (HRK.out.below HXB.out))
    rw [HLQ.out] at HRC
    go_wp2_with fail
    refine Calls.mono HRC.out ?_
    rintro e wz ⟨vl, rfl, hol, hbl⟩
    obtain ⟨nl, hnl⟩ : ∃ nl, L.length = nl := ⟨_, rfl⟩
    rw [hnl] at hol
    obtain ⟨Al, cl, rfl, hcl, hal, _, hrl, hsl⟩ := own_rdF hol hnl
    have HLN := Lib.hid hnl
    rw [hnl] at HLL
    have HCL := Lib.hid hcl
    have HAL := Lib.hid hal
    have HRL := Lib.hid hrl
    have HSL := Lib.hid hsl
    have HOC := Lib.hid (HOB0.out.below hbl)
    have HQ8 := Lib.hid (HQ7.out.below hbl)
    have HXZ := Lib.hid (HXB.out.trans (hbl.mono HXB.out.size))
    have HAZ : Hid (wa.heap.size ≤ wz.heap.size) := Lib.hid (Nat.le_trans HAB.out hbl.size)
    have HLZ : Hid (w.heap.size < wz.heap.size) := Lib.hid (Nat.lt_of_lt_of_le HB3w.out (Nat.le_trans HBA.out HAZ.out))
    have HZZ := Lib.hid ((HQ8.out.bel.block _ HB3w.out).trans HZ.out)
    have HDQ : Hid (∀ Y, Below wa.heap.size wz Y → Both V V3.heap.size T9 D M (outF ls wh nm to_ lb N false 0) (outS ls wh nm to_ lb N false 0 0) true 0 G1 A1 n1 c1 (outF ls wh nm to_ lb N false 0) (outS ls wh nm to_ lb N false 0 0) lf1 Y) := Lib.hid (fun Y h => HQ8.out.other (T2 := fun b => wa.heap.size ≤ b) ⟨h.os, h.tape, h.output, h.size, fun b _ hn => h.block b (by omega)⟩ (fun b h => h) HTA.out HGA.out HRA.out (Nat.le_refl _) HBA.out)
    clear hnl hcl hal hrl hsl hol hbl HOB0 HQ7 HRC g0 g1 g2 gf HLQ
    have HST : Hid (∀ W, Below wz.heap.size wz W → W.cell? ⟨w.heap.size, 0, none⟩ = some (.int .i64 wh) ∧ W.cell? ⟨w.heap.size, 1, none⟩ = some (.string nm) ∧ W.cell? ⟨w.heap.size, 2, none⟩ = some (.string to_) ∧ W.cell? ⟨w.heap.size, 3, none⟩ = some (.slice Ab nb cb) ∧ W.cell? ⟨w.heap.size, 4, none⟩ = some (.int .i64 N)) := Lib.hid (fun W h => row5 ((h.block _ HLZ.out).trans HZZ.out))
    have HN0 : Hid (∀ W, Below wz.heap.size wz W → Calls Try.prog 24 #[.slice Al nl cl] W fun e w' => e = .returned (.agg #[.slice Al nl cl, .int .i64 0, .int .i64 (-1)]) ∧ Below wz.heap.size wz w') := Lib.hid (rnew_0 Al nl cl wz)
    have HN1 : Hid (∀ W G, K1 wz W G → Calls Try.prog 24 #[.slice Al nl cl] W fun e w' => e = .returned (.agg #[.slice Al nl cl, .int .i64 0, .int .i64 (-1)]) ∧ K1 wz w' G) := Lib.hid (rnew_1 Al nl cl wz)
    have HAV : Hid (RdF wz Al L) := Lib.hid (HRL.out)
    have HRBV : Hid (Rd wz Ab lb) := Lib.hid (HRB.out.below (HXZ.out))
    have HD0 : Hid (∀ W, Below wz.heap.size wz W → Calls Try.prog 23 #[.agg #[.slice Al nl cl, .int .i64 0, .int .i64 (-1)], .agg #[.int .i64 wh, .string nm, .string to_, .slice Ab nb cb, .int .i64 N]] W (RDo2 L wh nm to_ lb N false 0 0 Al (-1) W)) := Lib.hid (fun W h => rdo_rel Al nl cl L 0 false 0 (-1) wh N nm to_ Ab nb cb lb W HLN.out (by have := HLL.out; omega) HCL.out HAL.out (HAV.out.below h) hnm hto HFC.out HNB.out hk3 hcb HOB.out (HRBV.out.below h) (by omega) (by omega) (by omega) (by unfold RelL; simp))
    have HDA : Hid (∀ W, Below wz.heap.size wz W → Calls Try.prog 23 #[.agg #[.slice Al nl cl, .int .i64 0, .int .i64 (-1)], .agg #[.int .i64 wh, .string nm, .string to_, .slice Ab nb cb, .int .i64 N]] W (RP L wh nm to_ lb N false 0 0 Al (-1) wz W (fun X => Below wz.heap.size wz X))) := Lib.hid (fun W h => (HD0.out W h).mono fun _ _ hq => RP.of (fun _ hb => h.trans (hb.mono h.size)) hq)
    have HDB : Hid (∀ W G, K1 wz W G → Calls Try.prog 23 #[.agg #[.slice Al nl cl, .int .i64 0, .int .i64 (-1)], .agg #[.int .i64 wh, .string nm, .string to_, .slice Ab nb cb, .int .i64 N]] W (RP L wh nm to_ lb N false 0 0 Al (-1) wz W (fun X => K1 wz X G))) := Lib.hid (fun W G h => (HD0.out W h.bel).mono fun _ _ hq => RP.of (fun _ hb => h.next hb) hq)
    have HBD : Hid (Below wz.heap.size wz wz.drew) := Lib.hid (Below.refl _ _).drew
    have HKD : Hid (K1 wz (wz.alloc Z46).drew wz.heap.size) := Lib.hid ((K1.new (Below.refl _ _)).next (Below.refl _ _).drew)
    clear HD0
    obtain ⟨s0, s1, s2, s3, s4⟩ := HST.out _ (Below.refl _ _)
    go_upto_region 9 with (fail)
    go_cut [13, 14] from 63 (fun p e W => ∃ G A9 n9 c9 lf9, p = .pointer (some ⟨G, 0, none⟩) ∧ e = .int .i64 (errS L wh nm to_ lb N false 0) ∧ Hid (Both wz wa.heap.size Tc Dc Mc L 0 false 0 G A9 n9 c9 (outF L wh nm to_ lb N false 0) (outS L wh nm to_ lb N false 0 0) lf9 W) ∧ Hid (Below wz.heap.size wz W))
    case first =>
      go_region_held3 (fun W => W.cell? ⟨w.heap.size, 0, none⟩ = some (.int .i64 wh) ∧ W.cell? ⟨w.heap.size, 1, none⟩ = some (.string nm) ∧ W.cell? ⟨w.heap.size, 2, none⟩ = some (.string to_) ∧ W.cell? ⟨w.heap.size, 3, none⟩ = some (.slice Ab nb cb) ∧ W.cell? ⟨w.heap.size, 4, none⟩ = some (.int .i64 N))
        (first | assumption | (exact ⟨k0, k1, k2, k3, k4⟩) | go_keep | (dsimp only; assumption))
        (first
        | (go_at_call 24; with_reducible (refine (HN0.out _ HBD.out).mono ?_); rintro e wi ⟨rfl, Hi⟩; have HI := Lib.hid Hi; obtain ⟨i0, i1, i2, i3, i4⟩ := HST.out _ Hi; clear Hi)
        | (go_at_call 24; with_reducible (refine (HN1.out _ _ HKD.out).mono ?_); rintro e wi ⟨rfl, Hi⟩; have HI := Lib.hid Hi; obtain ⟨i0, i1, i2, i3, i4⟩ := HST.out _ Hi.bel; clear Hi)
        | (go_at_call 23; with_reducible (refine (HDA.out _ HI.out).mono ?_); rintro e wm ⟨A9, n9, c9, lf9, rfl, hr, ht, hk⟩; have HR := Lib.hid hr; have HT := Lib.hid ht; have HM := Lib.hid (Box.new (A := A9) (n := n9) (c := c9) (st := (((outS L wh nm to_ lb N false 0 0) : Nat) : Int)) (lf := lf9) hk); have HRF := Lib.hid (fun o => ht.alloc o); obtain ⟨m0, m1, m2, m3, m4⟩ := HST.out _ hk; clear hr ht hk)
        | (go_at_call 23; with_reducible (refine (HDB.out _ _ HI.out).mono ?_); rintro e wm ⟨A9, n9, c9, lf9, rfl, hr, ht, hk⟩; have HR := Lib.hid hr; have HT := Lib.hid ht; have HM := Lib.hid (K1.stored (A := A9) (n := n9) (c := c9) (st := (((outS L wh nm to_ lb N false 0 0) : Nat) : Int)) (lf := lf9) hk); have HRF := Lib.hid (ht.stored HAV.out hk.ge (lt_of_block HI.out.z)); obtain ⟨m0, m1, m2, m3, m4⟩ := HST.out _ hk.bel; obtain ⟨z0, z1, z2, zf⟩ := row3 hk.z; obtain ⟨k0, k1, k2, k3, k4⟩ := HST.out _ HM.out.bel; clear hr ht hk)
        | (go_at_call 23; with_reducible (refine (HDB.out _ _ (K1.new HI.out)).mono ?_); rintro e wm ⟨A9, n9, c9, lf9, rfl, hr, ht, hk⟩; have HR := Lib.hid hr; have HT := Lib.hid ht; have HM := Lib.hid (K1.stored (A := A9) (n := n9) (c := c9) (st := (((outS L wh nm to_ lb N false 0 0) : Nat) : Int)) (lf := lf9) hk); have HRF := Lib.hid (ht.stored HAV.out hk.ge (by simp)); obtain ⟨m0, m1, m2, m3, m4⟩ := HST.out _ hk.bel; obtain ⟨z0, z1, z2, zf⟩ := row3 hk.z; obtain ⟨k0, k1, k2, k3, k4⟩ := HST.out _ HM.out.bel; clear hr ht hk)
        | fail)
      · have HWS : Hid (wz.heap.size ≤ wi.heap.size) := Lib.hid HI.out.size
        have HRX : Hid (RdF (wm.alloc (.cells #[.slice A9 n9 c9, .int .i64 ((outS L wh nm to_ lb N false 0 0) : Nat), .int .i64 lf9] 46)) A9 (outF L wh nm to_ lb N false 0)) := Lib.hid (HRF.out _)
        have HNA := Lib.hid (HT.out.na (T := Tc) (fun h0 ad e hT => by have h1 := (HSL.out ad e).2.1; have h2 := HTC.out _ hT; omega) (fun b hT => Nat.lt_of_lt_of_le (HOC.out.lt b hT) HWS.out))
        have HSD : Hid (Both wz wa.heap.size Tc Dc Mc L 0 false 0 (wm.heap.size) A9 n9 c9 (outF L wh nm to_ lb N false 0) (outS L wh nm to_ lb N false 0 0) lf9 (wm.alloc (.cells #[.slice A9 n9 c9, .int .i64 ((outS L wh nm to_ lb N false 0 0) : Nat), .int .i64 lf9] 46))) := Lib.hid ⟨HOC.out.below HM.out.bel, ⟨HM.out.z, HRX.out, fun hT => by have h1 := HOC.out.lt _ hT; have h2 := HM.out.ge; omega, HNA.out, HT.out.len, HT.out.cap, HT.out.nil⟩, HM.out.bel.mono HAZ.out, HAZ.out⟩
        have HBM := Lib.hid HM.out.bel
        clear HRX HNA HRF HWS HM HT
        go_wp2_with fail
        go_meet
        exact ⟨_, _, _, _, _, rfl, rfl, HSD, HBM⟩
      · have HWS : Hid (wz.heap.size ≤ (wi.alloc Z46).heap.size) := Lib.hid (by simp; exact Nat.le_succ_of_le HI.out.size)
        have HRX : Hid (RdF (((wm.setCell ⟨wi.heap.size, 0, none⟩ (.slice A9 n9 c9)).setCell ⟨wi.heap.size, 1, none⟩ (.int .i64 ((outS L wh nm to_ lb N false 0 0) : Nat))).setCell ⟨wi.heap.size, 2, none⟩ (.int .i64 lf9)) A9 (outF L wh nm to_ lb N false 0)) := Lib.hid (HRF.out _ _ _)
        have HNA := Lib.hid (HT.out.na (T := Tc) (fun h0 ad e hT => by have h1 := (HSL.out ad e).2.1; have h2 := HTC.out _ hT; omega) (fun b hT => Nat.lt_of_lt_of_le (HOC.out.lt b hT) HWS.out))
        have HSD : Hid (Both wz wa.heap.size Tc Dc Mc L 0 false 0 (wi.heap.size) A9 n9 c9 (outF L wh nm to_ lb N false 0) (outS L wh nm to_ lb N false 0 0) lf9 (((wm.setCell ⟨wi.heap.size, 0, none⟩ (.slice A9 n9 c9)).setCell ⟨wi.heap.size, 1, none⟩ (.int .i64 ((outS L wh nm to_ lb N false 0 0) : Nat))).setCell ⟨wi.heap.size, 2, none⟩ (.int .i64 lf9))) := Lib.hid ⟨HOC.out.below HM.out.bel, ⟨HM.out.z, HRX.out, fun hT => by have h1 := HOC.out.lt _ hT; have h2 := HM.out.ge; omega, HNA.out, HT.out.len, HT.out.cap, HT.out.nil⟩, HM.out.bel.mono HAZ.out, HAZ.out⟩
        have HBM := Lib.hid HM.out.bel
        clear HRX HNA HRF HWS HM HT
        go_wp2_with fail
        go_meet
        exact ⟨_, _, _, _, _, rfl, rfl, HSD, HBM⟩
      · have HWS : Hid (wz.heap.size ≤ wi.heap.size) := Lib.hid HI.out.bel.size
        have HRX : Hid (RdF (((wm.setCell ⟨wz.heap.size, 0, none⟩ (.slice A9 n9 c9)).setCell ⟨wz.heap.size, 1, none⟩ (.int .i64 ((outS L wh nm to_ lb N false 0 0) : Nat))).setCell ⟨wz.heap.size, 2, none⟩ (.int .i64 lf9)) A9 (outF L wh nm to_ lb N false 0)) := Lib.hid (HRF.out _ _ _)
        have HNA := Lib.hid (HT.out.na (T := Tc) (fun h0 ad e hT => by have h1 := (HSL.out ad e).2.1; have h2 := HTC.out _ hT; omega) (fun b hT => Nat.lt_of_lt_of_le (HOC.out.lt b hT) HWS.out))
        have HSD : Hid (Both wz wa.heap.size Tc Dc Mc L 0 false 0 (wz.heap.size) A9 n9 c9 (outF L wh nm to_ lb N false 0) (outS L wh nm to_ lb N false 0 0) lf9 (((wm.setCell ⟨wz.heap.size, 0, none⟩ (.slice A9 n9 c9)).setCell ⟨wz.heap.size, 1, none⟩ (.int .i64 ((outS L wh nm to_ lb N false 0 0) : Nat))).setCell ⟨wz.heap.size, 2, none⟩ (.int .i64 lf9))) := Lib.hid ⟨HOC.out.below HM.out.bel, ⟨HM.out.z, HRX.out, fun hT => by have h1 := HOC.out.lt _ hT; have h2 := HM.out.ge; omega, HNA.out, HT.out.len, HT.out.cap, HT.out.nil⟩, HM.out.bel.mono HAZ.out, HAZ.out⟩
        have HBM := Lib.hid HM.out.bel
        clear HRX HNA HRF HWS HM HT
        go_wp2_with fail
        go_meet
        exact ⟨_, _, _, _, _, rfl, rfl, HSD, HBM⟩
    case rest =>
      obtain ⟨G2, A2, n2, c2, lf2, rfl, rfl, HSC, HBZ⟩ := hcut
      clear HST HN0 HN1 HDA HDB HBD HKD s0 s1 s2 s3 s4 HAV HRBV
      have HWA : Hid (w.heap.size ≤ wa.heap.size) := Lib.hid (Nat.le_trans (Nat.le_of_lt HB3w.out) HBA.out)
      have HSTC : Hid (∀ Y, Below wa.heap.size wz Y → Y.cell? ⟨w.heap.size, 0, none⟩ = some (.int .i64 wh) ∧ Y.cell? ⟨w.heap.size, 1, none⟩ = some (.string nm) ∧ Y.cell? ⟨w.heap.size, 2, none⟩ = some (.string to_) ∧ Y.cell? ⟨w.heap.size, 3, none⟩ = some (.slice Ab nb cb) ∧ Y.cell? ⟨w.heap.size, 4, none⟩ = some (.int .i64 N)) := Lib.hid (fun Y h => row5 ((h.block _ (Nat.lt_of_lt_of_le HB3w.out HBA.out)).trans HZZ.out))
      have HLC : Hid (((outF L wh nm to_ lb N false 0)).length ≤ 302) := Lib.hid (by have := out_len L wh nm to_ lb N false 0; have := HLN.out; have := HLL.out; omega)
      have HF1 := Lib.hid (files_both HSC.out (by have := HLN.out; have := HLL.out; omega))
      rw [HLN.out] at HF1
      go_wp2_with fail
      refine Calls.mono (num_any _ _) ?_
      rintro e wn ⟨rfl, rfl⟩
      go_wp2_with fail
      refine Calls.mono HF1.out ?_
      rintro e wf ⟨Af, cf, rfl, hq, hrf, hbf⟩
      have HS1 := Lib.hid (same_any Af Al nl cf cl L wf HLN.out (by have := HLL.out; omega) hrf (HRL.out.below (HBZ.out.trans (hbf.mono HBZ.out.size))))
      have HQF := Lib.hid hq
      clear hq hrf hbf HF1 HSC
      go_wp2_with fail
      refine Calls.mono HS1.out ?_
      rintro e ws ⟨rfl, qs, rfl⟩
      have HK := Lib.hid (HQF.out.below (below_any qs (Below.refl _ _)))
      clear HS1 HQF
      generalize wf.drewN qs = wk at HK ⊢
      have HSE := Lib.hid (steps_both HK.out)
      obtain ⟨s0, s1, s2, s3, s4⟩ := HSTC.out _ HK.out.bel
      have HDO := Lib.hid (do_both HK.out wh N nm to_ (by simp only [maxLen]; omega) (by simp only [maxLen]; omega) Ab nb cb lb HNB.out HOB.out hcb (HRB.out.below (HXZ.out.trans (HK.out.bel.mono HWA.out))) (fun ad e h0 => by obtain ⟨b, off, e2, hlt, _⟩ := HRB.out h0; rw [e2] at e; cases e; have h2 := HWA.out; simp only; omega) hN0 hN1 (by omega) (by have := HLL.out; have := HLN.out; omega))
      go_wp2_with fail
      refine Calls.mono HSE.out ?_
      rintro e wt ⟨rfl, rfl⟩
      clear HSE
      go_wp2_with fail
      refine Calls.mono HDO.out ?_
      rintro e wo ⟨rfl, T8, hq, _⟩
      have HO0 := Lib.hid hq
      clear hq HDO HK s0 s1 s2 s3 s4
      have HP : Hid (Both wz wa.heap.size T8 Dc Mc (outF L wh nm to_ lb N false 0) (outS L wh nm to_ lb N false 0 0) false (outR L wh nm to_ lb N false 0) G2 A2 n2 c2 (outF L wh nm to_ lb N false 0) (outS L wh nm to_ lb N false 0 0) lf2 wo.drew) := Lib.hid (HO0.out.below (Below.refl _ _).drew)
      obtain ⟨g0, g1, g2, gf⟩ := row3 HO0.out.side.z
      obtain ⟨h0, h1, h2, hf⟩ := row3 (HDQ.out _ HO0.out.bel).side.z
      have HFI : Hid (∀ Y, Both wz wa.heap.size T8 Dc Mc (outF L wh nm to_ lb N false 0) (outS L wh nm to_ lb N false 0 0) false (outR L wh nm to_ lb N false 0) G2 A2 n2 c2 (outF L wh nm to_ lb N false 0) (outS L wh nm to_ lb N false 0 0) lf2 Y → Calls Try.prog 20 #[.pointer (some ⟨Dc, 0, none⟩)] Y fun e Y' => ∃ Af cf, e = .returned (.slice Af n2 cf) ∧ Both wz wa.heap.size T8 Dc Mc (outF L wh nm to_ lb N false 0) (outS L wh nm to_ lb N false 0 0) false (outR L wh nm to_ lb N false 0) G2 A2 n2 c2 (outF L wh nm to_ lb N false 0) (outS L wh nm to_ lb N false 0 0) lf2 Y' ∧ RdF Y' Af (outF L wh nm to_ lb N false 0)) := Lib.hid (fun Y h => (files_both h (by have := HLC.out; omega)).mono fun e Y' ⟨Af, cf, he, h1, h2, _⟩ => ⟨Af, cf, by rw [he, h.side.len], h1, h2⟩)
      have HSA : Hid (∀ Y Af cf, Both wz wa.heap.size T8 Dc Mc (outF L wh nm to_ lb N false 0) (outS L wh nm to_ lb N false 0 0) false (outR L wh nm to_ lb N false 0) G2 A2 n2 c2 (outF L wh nm to_ lb N false 0) (outS L wh nm to_ lb N false 0 0) lf2 Y → RdF Y Af (outF L wh nm to_ lb N false 0) → Calls Try.prog 17 #[.slice Af n2 cf, .slice A2 n2 c2] Y fun e Y' => e = .returned (.bool true) ∧ ∃ q, Y' = Y.drewN q) := Lib.hid (fun Y Af cf h hr => same_any Af A2 n2 cf c2 (outF L wh nm to_ lb N false 0) Y h.side.len (by have := h.side.len; have := HLC.out; omega) hr h.side.rd)
      have HFD : Hid (∀ Y, Both wz wa.heap.size T8 Dc Mc (outF L wh nm to_ lb N false 0) (outS L wh nm to_ lb N false 0 0) false (outR L wh nm to_ lb N false 0) G2 A2 n2 c2 (outF L wh nm to_ lb N false 0) (outS L wh nm to_ lb N false 0 0) lf2 Y → Calls Try.prog 20 #[.pointer (some ⟨D, 0, none⟩)] Y fun e Y' => ∃ Af cf, e = .returned (.slice Af n1 cf) ∧ Both wz wa.heap.size T8 Dc Mc (outF L wh nm to_ lb N false 0) (outS L wh nm to_ lb N false 0 0) false (outR L wh nm to_ lb N false 0) G2 A2 n2 c2 (outF L wh nm to_ lb N false 0) (outS L wh nm to_ lb N false 0 0) lf2 Y' ∧ RdF Y' Af (outF ls wh nm to_ lb N false 0)) := Lib.hid (fun Y h => (files_both (HDQ.out Y h.bel) (by have := HLE.out; omega)).mono fun e Y' ⟨Af, cf, he, h1, h2, h3⟩ => ⟨Af, cf, by rw [he, (HDQ.out Y h.bel).side.len], h.below h3, h2⟩)
      have HSB : Hid (∀ Y Af cf, Both wz wa.heap.size T8 Dc Mc (outF L wh nm to_ lb N false 0) (outS L wh nm to_ lb N false 0 0) false (outR L wh nm to_ lb N false 0) G2 A2 n2 c2 (outF L wh nm to_ lb N false 0) (outS L wh nm to_ lb N false 0 0) lf2 Y → RdF Y Af (outF ls wh nm to_ lb N false 0) → Calls Try.prog 17 #[.slice Af n1 cf, .slice A1 n1 c1] Y fun e Y' => e = .returned (.bool true) ∧ ∃ q, Y' = Y.drewN q) := Lib.hid (fun Y Af cf h hr => same_any Af A1 n1 cf c1 (outF ls wh nm to_ lb N false 0) Y (HDQ.out Y h.bel).side.len (by have := (HDQ.out Y h.bel).side.len; have := HLE.out; omega) hr (HDQ.out Y h.bel).side.rd)
      clear HO0
      go_upto_region 12 with (fail)
      go_region_held3 (fun W => W.cell? ⟨G2, 0, none⟩ = some (.slice A2 n2 c2) ∧ W.cell? ⟨G1, 0, none⟩ = some (.slice A1 n1 c1))
        (first | assumption | (exact ⟨l0, v0⟩) | (exact ⟨j0, t0⟩) | (exact ⟨e0, d0⟩) | go_keep | (dsimp only; assumption))
        (first
          | (go_at_call 20; with_reducible (refine (HFI.out _ HP.out).mono ?_); rintro e wf ⟨Af, cf, rfl, hq, hrf⟩; have HQ := Lib.hid hq; have HRF := Lib.hid hrf; obtain ⟨e0, e1, e2, ef⟩ := row3 hq.side.z; obtain ⟨d0, d1, d2, df⟩ := row3 (HDQ.out _ hq.bel).side.z; clear hq hrf)
          | (go_at_call 17; with_reducible (refine (HSA.out _ _ _ HQ.out HRF.out).mono ?_); rintro e ws ⟨rfl, qs, rfl⟩; have HQ2 := Lib.hid (HQ.out.below (below_any qs (Below.refl _ _))))
          | (go_at_call 20; with_reducible (refine (HFD.out _ HQ2.out).mono ?_); rintro e wg ⟨Ag, cg, rfl, hq, hrf⟩; have HQ3 := Lib.hid hq; have HRG := Lib.hid hrf; obtain ⟨j0, j1, j2, jf⟩ := row3 hq.side.z; obtain ⟨t0, t1, t2, tf⟩ := row3 (HDQ.out _ hq.bel).side.z; clear hq hrf)
          | (go_at_call 17; with_reducible (refine (HSB.out _ _ _ HQ3.out HRG.out).mono ?_); rintro e ws ⟨rfl, qt, rfl⟩; have HQ4 := Lib.hid (HQ3.out.below (below_any qt (Below.refl _ _))))
          | (go_at_call 12; refine (works_any _).mono ?_; rintro e wy ⟨rfl, hbi⟩; have HBI := Lib.hid ((HXZ.out.trans (HQ4.out.bel.mono HWA.out)).trans (hbi.mono (Nat.le_trans HXZ.out.size HQ4.out.bel.size))); have HQ5 := HQ4.out.below hbi; obtain ⟨l0, l1, l2, lf⟩ := row3 HQ5.side.z; obtain ⟨v0, v1, v2, vf⟩ := row3 (HDQ.out _ HQ5.bel).side.z; clear hbi HQ5)
          | fail)
      go_wp2_with fail
      go_ret
      exact ⟨rfl, HBI.out⟩


set_option maxHeartbeats 4000000 in
theorem reads (os : Os) {H : Type} (enc : TypeId × Value → H) : ∃ places, DataW.whole enc Try.prog ((World.holding Try.prog os ⟨#[], #[.slice none 0 0, .agg #[.int .i64 0, .string ⟨#[]⟩, .string ⟨#[]⟩, .slice none 0 0, .int .i64 0], .slice none 0 0], []⟩).forCall (fun _ _ => 0) ⟨#[], #[.slice none 0 0, .agg #[.int .i64 0, .string ⟨#[]⟩, .string ⟨#[]⟩, .slice none 0 0, .int .i64 0], .slice none 0 0], []⟩).memory Try.f7.params.toList Rows.diskCrashesSpec.vars false (#[.slice none 0 0, .agg #[.int .i64 0, .string ⟨#[]⟩, .string ⟨#[]⟩, .slice none 0 0, .int .i64 0], .slice none 0 0] : Array Value).toList 8 = some ([.nil, .agg [.lit (.int .i64 0), .lit (.string []), .lit (.string []), .nil, .lit (.int .i64 0)], .nil], [], places) :=
  ⟨[], by kernel_rfl⟩
theorem laidNone (w : World) : laidMet Try.prog [] w := laidMet_of_run' 8 (by kernel_rfl) (by kernel_rfl)
set_option maxRecDepth 100000 in
theorem lifted (os : Os) (started : os.Started) (H : Type) (enc : TypeId × Value → H) (F : Stop.Interp) :
    ReturnsInHanded {} Try.checked os 7 .any ((OpenSpec.ofChange Rows.diskCrashesSpec).preRow enc Try.prog Try.f7 Rows.diskCrashesRow.domain false Rows.diskCrashesRow.laid) (((OpenSpec.ofChange Rows.diskCrashesSpec).at F).post enc Try.prog Try.f7 false true false false) := by
  obtain ⟨places, hx⟩ := reads os enc
  refine returnsInHanded_of_row (C := Try.checked) (s := OpenSpec.ofChange Rows.diskCrashesSpec) own started (by kernel_rfl) Try.func7
    (witness_row_at (enc := enc) (C := Try.checked) false (World.holding Try.prog os ⟨#[], #[.slice none 0 0, .agg #[.int .i64 0, .string ⟨#[]⟩, .string ⟨#[]⟩, .slice none 0 0, .int .i64 0], .slice none 0 0], []⟩) #[.slice none 0 0, .agg #[.int .i64 0, .string ⟨#[]⟩, .string ⟨#[]⟩, .slice none 0 0, .int .i64 0], .slice none 0 0] rfl (by kernel_rfl) (by kernel_rfl) (by kernel_rfl)
      (OpenSpec.preRow_of_cond 8 hx (by kernel_rfl) (fun k hk => by cases hk) (by kernel_rfl) (laidNone _))) ?_
  intro W base args ds gs before hval0 hW _ _ hZ _ _ _
  show Calls Try.prog 7 args W fun e W' => ∃ v, e = .returned v ∧ Rows.diskCrashesSpec.post enc Try.prog Try.f7 false true false false W args v W'
  have hval : ∀ (j : Nat) t v, Try.f7.params[j]? = some t → args[j]? = some v → Value.okWide Try.prog W .any base t v := hval0
  have hW' := hW
  obtain ⟨p, q, hA0, hV, rfl, hfz, hnd⟩ := hW
  have hA : DataW.TrodAll enc Try.prog W 0 (fun _ => true) true Try.f7.params.toList args.toList ds p := hA0
  have hZ1 : (DataW.weightsEach Try.prog (Try.f7.params.toList ++ (OpenSpec.ofChange Rows.diskCrashesSpec).bare.plain.varTypes Try.prog) (ds ++ gs)).all (· ≤ reachBytes) = true := hZ
  rw [Try.params7] at hZ1
  rw [Try.params7] at hA hval
  obtain ⟨v0, vs0, d0, ds0, p0, q0, hargs, rfl, rfl, h0, r0⟩ := trodAll_cons hA
  obtain ⟨v1, vs1, d1, ds1, p1, q1, rfl, rfl, rfl, h1, r1⟩ := trodAll_cons r0
  obtain ⟨v2, vs2, d2, ds2, p2, q2, rfl, rfl, rfl, h2, r2⟩ := trodAll_cons r1
  obtain ⟨rfl, rfl, rfl⟩ := trodAll_nil r2
  obtain rfl : args = #[v0, v1, v2] := by cases args; simp_all
  obtain ⟨rfl, rfl⟩ := trodVars_none hV
  have k0 := h0
  have lt0 : ∀ x ∈ p0, x.block < W.heap.size := by obtain ⟨m, hm⟩ := k0; exact DataW.trod_lt m _ _ _ hm
  obtain ⟨ca0, na0, ea0, rfl⟩ := okWide_slice Try.underlying24 (hval 0 24 v0 rfl rfl)
  obtain ⟨fu0, hf0⟩ := h0
  obtain ⟨A0, n0, c0, l0, hv0, hn0, hnc0, hcm0, hO0, hr0, hs0⟩ := files_of hf0 (weight_at hZ1 (j := 0) rfl rfl)
  cases hv0
  simp only [maxLen] at hcm0
  have k1 := h1
  have lt1 : ∀ x ∈ p1, x.block < W.heap.size := by obtain ⟨m, hm⟩ := k1; exact DataW.trod_lt m _ _ _ hm
  obtain ⟨fu1, hf1⟩ := h1
  obtain ⟨s1, hv1, hs1⟩ := step_of (hval 1 43 v1 rfl rfl) hf1 (weight_at hZ1 (j := 1) rfl rfl)
  subst hv1
  have k2 := h2
  have lt2 : ∀ x ∈ p2, x.block < W.heap.size := by obtain ⟨m, hm⟩ := k2; exact DataW.trod_lt m _ _ _ hm
  obtain ⟨ca2, na2, ea2, rfl⟩ := okWide_slice Try.underlying55 (hval 2 55 v2 rfl rfl)
  obtain ⟨fu2, hf2⟩ := h2
  obtain ⟨A2, n2, c2, l2, hv2, hn2, hnc2, hcm2, hO2, hr2, hs2⟩ := ints_of hf2
  cases hv2
  simp only [maxLen] at hcm2
  clear hA0 hval0
  refine (walk ca0 na0 ea0 l0 s1.wh s1.N s1.nm s1.to_ s1.A s1.n s1.c s1.l ca2 na2 ea2 l2 W hn0 hnc0 (by omega) hO0 hr0 hs0 hs1.1 hs1.2.1.1 hs1.2.1.2 hs1.2.2.1.1 hs1.2.2.1.2 hs1.2.2.2.1 hs1.2.2.2.2.1 hs1.2.2.2.2.2.2.1 hs1.2.2.2.2.2.2.2 hn2 (by omega) hr2).mono fun e W' ⟨he, bel⟩ => ?_
  subst he
  exact ⟨_, rfl, _, _, _, [], _, [], hW', trodAll_mk1 (shut_bool Try.underlying4 _), (trodAll_cons_mk (Below.trod laidOut (by kernel_rfl) (of_decide_eq_true (by kernel_rfl)) k0 bel lt0) (trodAll_cons_mk (Below.trod laidOut (by kernel_rfl) (of_decide_eq_true (by kernel_rfl)) k1 bel lt1) (trodAll_cons_mk (Below.trod laidOut (by kernel_rfl) (of_decide_eq_true (by kernel_rfl)) k2 bel lt2) trodAll_mk0))), rfl, bel.frame _, fun h => by cases h⟩

/-- The statement. -/
theorem proved : Rows.DiskCrashesSaid :=
  OpenClaim.holds_of_cond 7 Try.f7 rfl rfl rfl rfl rfl rfl rfl ⟨rfl, rfl, rfl, rfl, rfl⟩ rfl rfl rfl rfl rfl (by kernel_rfl) Try.func7 (by kernel_rfl)
    (of_decide_eq_true (by kernel_rfl)) (by unfold Func.isWrapper; first | (rw [if_pos (by decide +kernel)]; kernel_rfl) | (rw [if_neg (by decide +kernel)]; exact ⟨rfl, rfl⟩))
    (fun os started H enc _ F => by rw [OpenClaim.pre_eq_preRow]; exact lifted os started H enc F)
#print axioms proved
end Go.Proofs.Ytcfglgejjmapdaa.diskCrashes
