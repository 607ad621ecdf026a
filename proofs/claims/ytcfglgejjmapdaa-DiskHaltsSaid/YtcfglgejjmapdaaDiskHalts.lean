/- Proved here: 'taborlaw02.DiskHalts' returns true for every input. Conditions: none. -/
import Derived.LaidLaws
import Derived.Test.YtcfglgejjmapdaaFrame
import Derived.Test.YtcfglgejjmapdaaPair
import Derived.Deep.RegionHeld3
import Derived.Deep.CutRange
namespace Go.Proofs.Ytcfglgejjmapdaa.diskHalts
open Go Go.RowKit Go.ChangeShapes Go.WideShapes Go.ChangeAt
open Go.Shelf

set_option maxRecDepth 100000 in
set_option maxHeartbeats 16000000 in
theorem walk (A : Option Addr) (n c : Nat) (ls : List F) (Ak : Option Addr) (nk ck9 : Nat) (lk : List S) (m : Int) (w : World)
    (hn : ls.length = n) (hcc : n ≤ c) (hcm : n ≤ 9223372036854775807) (hO : A = none → c = 0) (ha : RdF w A ls) (hs : ∀ a ∈ ls, a.ok) (hnk : lk.length = nk) (hmk : nk ≤ 9223372036854775807) (hrk : RdS w Ak lk) (hok : ∀ s ∈ lk, S.ok w s) (hm : -9223372036854775808 ≤ m ∧ m ≤ 9223372036854775807) :
    Calls Try.prog 6 #[.slice A n c, .slice Ak nk ck9, .int .i64 m] w fun e w' => e = .returned (.bool true) ∧ Below w.heap.size w w' := by
  have H1 := Lib.hid (few_any A n c ls w hn (by omega) (fun f hf => (hs f hf).1) ha)
  have HN := Lib.hid hn
  have HA := Lib.hid ha
  have HS := Lib.hid hs
  have HO := Lib.hid hO
  have HNK := Lib.hid hnk
  have HRK := Lib.hid hrk
  have HOK := Lib.hid hok
  clear ha hs hn hO hnk hrk hok
  go_enter Try.func6, Try.ntmps6
  go_wp2_with fail
  refine Calls.mono H1.out ?_
  rintro e w1 ⟨rfl, q1, rfl⟩
  have HX1 := Lib.hid (below_any q1 (Below.refl w.heap.size w))
  clear H1
  generalize w.drewN q1 = V1 at HX1 ⊢
  by_cases hf : szF ls ≤ 3000
  rotate_left
  · have d0 : decide (szF ls ≤ 3000) = false := decide_eq_false hf
    clear hf
    go_wp2_with fail
    refine Calls.mono (works_any _) ?_
    rintro e wi ⟨rfl, hbi⟩
    have HBI := Lib.hid (HX1.out.trans (hbi.mono HX1.out.size))
    go_wp2_with fail
    go_ret
    exact ⟨rfl, HBI.out⟩
  have d0 : decide (szF ls ≤ 3000) = true := decide_eq_true hf
  have hn300 : n ≤ 300 := by have := szF_len ls; have := HN.out; omega
  clear hf
  have HCK := Lib.hid (check_any A n c ls V1 HN.out (by omega) (fun f hf => (HS.out f hf).1) (HA.out.below HX1.out))
  obtain ⟨ck, hck⟩ : ∃ ck, checkF ls = ck := ⟨_, rfl⟩
  rw [hck] at HCK
  go_wp2_with fail
  refine Calls.mono HCK.out ?_
  rintro e w3 ⟨rfl, q3, rfl⟩
  have HX3 := Lib.hid (below_any q3 HX1.out)
  clear HCK HX1 d0
  generalize V1.drewN q3 = wq at HX3 ⊢
  by_cases hc0 : ck = 0
  rotate_left
  · have d0 : (ck != 0) = true := by simpa using hc0
    have d1 : decide (ck = 0) = false := decide_eq_false hc0
    clear hck
    go_wp2_with fail
    refine Calls.mono (works_any _) ?_
    rintro e wi ⟨rfl, hbi⟩
    have HBI := Lib.hid (HX3.out.trans (hbi.mono HX3.out.size))
    go_wp2_with fail
    go_ret
    exact ⟨rfl, HBI.out⟩
  subst hc0
  by_cases hk20 : 20 < nk
  · go_wp2_with fail
    refine Calls.mono (works_any _) ?_
    rintro e wi ⟨rfl, hbi⟩
    have HBI := Lib.hid (HX3.out.trans (hbi.mono HX3.out.size))
    go_wp2_with fail
    go_ret
    exact ⟨rfl, HBI.out⟩
  have HC := Lib.hid (from_any A n c ls wq HN.out (by omega) (fun f hf => (HS.out f hf).1) (HA.out.below HX3.out))
  go_wp2_with fail
  refine Calls.mono HC.out ?_
  rintro e wb ⟨hb4, hq⟩
  have HX4 := Lib.hid (HX3.out.trans (hb4.mono HX3.out.size))
  have HB4 : Hid (Below wq.heap.size wq wb) := Lib.hid hb4
  have HBW : Hid (w.heap.size ≤ wq.heap.size) := Lib.hid HX3.out.size
  have HQ := Lib.hid hq
  clear hb4 hq HC
  rcases HQ.out with ⟨hne, rfl⟩ | ⟨hce, T0, D, M, rfl, hon⟩
  · exact absurd hck hne
  have HON := Lib.hid hon
  clear HQ hon hce hck
  have HH1 := Lib.hid (halt_on wb HON.out HB4.out.size 0 (by omega) (by omega))
  go_wp2_with fail
  refine Calls.mono HH1.out ?_
  rintro e wd ⟨rfl, h1, h2⟩
  have HON1 := Lib.hid h1
  have HB5 := Lib.hid (HB4.out.trans (h2.below HON.out.low HB4.out.size))
  clear h1 h2 HH1 HON HB4 HX4
  have HH2 := Lib.hid (halt_on wd HON1.out HB5.out.size m hm.1 hm.2)
  go_wp2_with fail
  refine Calls.mono HH2.out ?_
  rintro e we ⟨rfl, h1, h2⟩
  have HON2 := Lib.hid h1
  have HB6 := Lib.hid (HB5.out.trans (h2.below HON1.out.low HB5.out.size))
  clear h1 h2 HH2 HON1 HB5
  have HNW := Lib.hid (rnew_any A n c we)
  go_wp2_with fail
  refine Calls.mono HNW.out ?_
  rintro e wg ⟨rfl, hb7⟩
  have HON3 := Lib.hid (HON2.out.below hb7)
  have HB7 := Lib.hid (HB6.out.trans (hb7.mono HB6.out.size))
  have HG0 := Lib.hid (heap_alloc_new wg (.cells #[.slice A n c, .int .i64 0, .int .i64 (-1)] 46))
  clear hb7 HNW HON2 HB6
  obtain ⟨p0, p1, p2, pf⟩ := row3 HG0.out
  go_upto_region 8 with (fail)
  clear p0 p1 p2 pf HG0
  have HM0 : Hid (0 ≤ max m 0 ∧ max m 0 ≤ 9223372036854775807) := Lib.hid (by omega)
  have HGV := Lib.hid (heap_alloc_new wg (.cells #[.slice A n c, .int .i64 0, .int .i64 (max m 0)] 46))
  have HBV := Lib.hid (HB7.out.trans ((below_new wg (.cells #[.slice A n c, .int .i64 0, .int .i64 (max m 0)] 46)).mono HB7.out.size))
  have HOV := Lib.hid (HON3.out.below (below_new wg (.cells #[.slice A n c, .int .i64 0, .int .i64 (max m 0)] 46)))
  have HTG : Hid (∀ b, T0 b → b < wg.heap.size) := Lib.hid HON3.out.lt
  have HGB : Hid (wq.heap.size ≤ wg.heap.size) := Lib.hid HB7.out.size
  clear HB7 HON3
  generalize max m 0 = mx at HM0 HGV HBV HOV ⊢
  generalize wg.alloc (.cells #[.slice A n c, .int .i64 0, .int .i64 mx] 46) = V at HGV HBV HOV ⊢
  generalize wg.heap.size = G at HGV HTG HGB ⊢
  have HGV2 : Hid (G < V.heap.size) := Lib.hid (lt_of_block HGV.out)
  have HBVS : Hid (wq.heap.size ≤ V.heap.size) := Lib.hid HBV.out.size
  have HXV := Lib.hid (HX3.out.trans (HBV.out.mono HBW.out))
  have HAVL : Hid (0 < ls.length → ∀ ad, A = some ad → ad.block < w.heap.size) := Lib.hid (fun h0 ad e => by obtain ⟨b, off, e2, hlt, _⟩ := HA.out h0; rw [e2] at e; cases e; exact hlt)
  have HB0 : Hid (Both V wq.heap.size T0 D M ls 0 true mx G A n c ls 0 mx V) := Lib.hid ⟨HOV.out, ⟨HGV.out, HA.out.below HXV.out, fun hT => by have := HTG.out _ hT; omega, fun h0 ad e hT => by have h1 := HOV.out.low _ hT; have h2 := HAVL.out h0 ad e; have h3 := HBW.out; omega, HN.out, hcc, HO.out⟩, Below.refl _ _, HBVS.out⟩
  have HNE0 : Hid (0 < ls.length → ∀ ad, A = some ad → ad.block ≠ G) := Lib.hid (fun h0 ad e => by have h2 := HAVL.out h0 ad e; have h3 := HBW.out; have h4 := HGB.out; omega)
  clear HGV HBV HOV HTG HX3
  go_wp2_with fail
  go_loopw [10] (fun i W => ∃ (k : Nat) (T : Nat → Prop) (fs : List F) (st : Nat) (rm : Int) (A9 : Option Addr) (n9 c9 : Nat) (lf9 : Int), i = .int .i64 k ∧ k ≤ nk ∧ Hid (fs.length ≤ 300 + k) ∧ Hid (st ≤ k) ∧ Hid (RelL true rm lf9 ∧ -1 ≤ lf9 ∧ lf9 ≤ 9223372036854775807) ∧ Hid (0 < fs.length → ∀ ad, A9 = some ad → ad.block ≠ G) ∧ Hid (Both V wq.heap.size T D M fs st true rm G A9 n9 c9 fs st lf9 W)) (fun i _ => nk - (intOf i).toNat)
  case atStart => exact ⟨0, T0, ls, 0, mx, A, n, c, mx, rfl, Nat.zero_le _, Lib.hid (by have := HN.out; omega), Lib.hid (Nat.le_refl _), Lib.hid ⟨by have := HM0.out; unfold RelL; simp; omega, by have := HM0.out; omega, HM0.out.2⟩, HNE0, HB0⟩
  case round =>
    clear HB0 HNE0
    obtain ⟨k, T, fs, st, rm, A9, n9, c9, lf9, rfl, hk, HFK, HSK, HRK9, HNE, HBO⟩ := hrel
    by_cases hlt : k < nk
    rotate_left
    · obtain rfl : k = nk := by omega
      have HFI : Hid (∀ Y, Both V wq.heap.size T D M fs st true rm G A9 n9 c9 fs st lf9 Y → Calls Try.prog 20 #[.pointer (some ⟨D, 0, none⟩)] Y fun e Y' => ∃ Af cf, e = .returned (.slice Af n9 cf) ∧ Both V wq.heap.size T D M fs st true rm G A9 n9 c9 fs st lf9 Y' ∧ RdF Y' Af fs) := Lib.hid (fun Y h => (files_both h (by have := HFK.out; omega)).mono fun e Y' ⟨Af, cf, he, h1, h2, _⟩ => ⟨Af, cf, by rw [he, h.side.len], h1, h2⟩)
      have HSA : Hid (∀ Y Af cf, Both V wq.heap.size T D M fs st true rm G A9 n9 c9 fs st lf9 Y → RdF Y Af fs → Calls Try.prog 17 #[.slice Af n9 cf, .slice A9 n9 c9] Y fun e Y' => e = .returned (.bool true) ∧ ∃ q, Y' = Y.drewN q) := Lib.hid (fun Y Af cf h hr => same_any Af A9 n9 cf c9 fs Y h.side.len (by have := h.side.len; have := HFK.out; omega) hr h.side.rd)
      have HP : Hid (Both V wq.heap.size T D M fs st true rm G A9 n9 c9 fs st lf9 wr.drew) := Lib.hid (HBO.out.below (Below.refl _ _).drew)
      obtain ⟨g0, g1, g2, gf⟩ := row3 HBO.out.side.z
      clear HBO HNE
      go_upto_region 17 with (fail)
      go_region_held3 (fun W => W.cell? ⟨G, 0, none⟩ = some (.slice A9 n9 c9))
        (first | assumption | (exact l0) | (exact f0) | go_keep | (dsimp only; assumption))
        (first
          | (go_at_call 16; refine (num_any _ _).mono ?_; rintro e wn ⟨rfl, rfl⟩)
          | (go_at_call 20; with_reducible (refine (HFI.out _ HP.out).mono ?_); rintro e wf ⟨Af, cf, rfl, hq, hrf⟩; have HQ := Lib.hid hq; have HRF := Lib.hid hrf; obtain ⟨f0, f1, f2, ff⟩ := row3 hq.side.z; clear hq hrf)
          | (go_at_call 17; with_reducible (refine (HSA.out _ _ _ HQ.out HRF.out).mono ?_); rintro e ws ⟨rfl, qs, rfl⟩; have HQ2 := Lib.hid (HQ.out.below (below_any qs (Below.refl _ _))))
          | (go_at_call 12; refine (works_any _).mono ?_; rintro e wy ⟨rfl, hbi⟩; have HBI := Lib.hid ((HXV.out.trans (HQ2.out.bel.mono HBW.out)).trans (hbi.mono (Nat.le_trans HXV.out.size HQ2.out.bel.size))); have HQ5 := HQ2.out.below hbi; obtain ⟨l0, l1, l2, lf⟩ := row3 HQ5.side.z; clear hbi HQ5)
          | fail)
      go_wp2_with fail
      go_ret
      exact ⟨rfl, HBI.out⟩
    have hkl : k < lk.length := by have := HNK.out; omega
    have HXR := Lib.hid (HXV.out.trans (HBO.out.bel.mono HBW.out))
    obtain ⟨b, off, rfl, hbw, hcell⟩ := HRK.out (by omega)
    have HCE := Lib.hid (hcell k hkl)
    have HSOK := Lib.hid (HOK.out _ (List.getElem_mem hkl))
    clear hcell
    obtain ⟨sx, hsx⟩ : ∃ sx, lk[k] = sx := ⟨_, rfl⟩
    rw [hsx] at HCE HSOK
    clear hsx
    obtain ⟨wh, nm, to_, Ab, nb, cb, lb, N⟩ := sx
    have HSC : Hid (∀ W, Below w.heap.size w W → W.cell? ⟨b, off + k * 5, none⟩ = some (.int .i64 wh) ∧ W.cell? ⟨b, off + k * 5 + 1, none⟩ = some (.string nm) ∧ W.cell? ⟨b, off + k * 5 + 2, none⟩ = some (.string to_) ∧ W.cell? ⟨b, off + k * 5 + 3, none⟩ = some (.slice Ab nb cb) ∧ W.cell? ⟨b, off + k * 5 + 4, none⟩ = some (.int .i64 N)) := Lib.hid (fun W h => ⟨(h.cell hbw).trans (HCE.out 0 _ rfl), (h.cell hbw).trans (HCE.out 1 _ rfl), (h.cell hbw).trans (HCE.out 2 _ rfl), (h.cell hbw).trans (HCE.out 3 _ rfl), (h.cell hbw).trans (HCE.out 4 _ rfl)⟩)
    obtain ⟨hwh, hNN, hnmto, hnb, hcb, _, hob, hrb⟩ := HSOK.out
    simp only at hwh hNN hnmto hnb hcb hob hrb
    have HNB := Lib.hid hnb
    have HOB := Lib.hid hob
    have HRB := Lib.hid hrb
    clear hnb hob hrb HCE HSOK
    obtain ⟨s0, s1, s2, s3, s4⟩ := HSC.out wr HXR.out
    have HSM := Lib.hid (small_any wh N nm to_ Ab nb cb wr)
    go_wp2_with fail
    refine Calls.mono HSM.out ?_
    rintro e w2 ⟨rfl, hb2⟩
    have HX2 := Lib.hid (HXR.out.trans (hb2.mono HXR.out.size))
    have HBO2 := Lib.hid (HBO.out.below hb2)
    clear s0 s1 s2 s3 s4 hb2 HSM HXR HBO
    obtain ⟨s0, s1, s2, s3, s4⟩ := HSC.out w2 HX2.out
    by_cases hsm : smallB nm to_ nb = true
    rotate_left
    · have d1 : smallB nm to_ nb = false := by simpa using hsm
      clear hsm
      rw [d1]
      clear d1
      go_wp2_with fail
      refine Calls.mono (works_any _) ?_
      rintro e wi ⟨rfl, hbi⟩
      have HBI := Lib.hid (HX2.out.trans (hbi.mono HX2.out.size))
      go_wp2_with fail
      go_ret
      exact ⟨rfl, HBI.out⟩
    rw [hsm]
    have hnb1 : nm.size ≤ 200 ∧ to_.size ≤ 200 ∧ nb ≤ 1000 := by simpa [smallB, and_assoc] using hsm
    obtain ⟨hk1, hk2, hk3⟩ := hnb1
    clear hsm
    by_cases hw0 : wh < 0
    · have d1 : decide (wh < 0) = true := decide_eq_true hw0
      clear hw0
      go_wp2_with fail
      refine Calls.mono (works_any _) ?_
      rintro e wi ⟨rfl, hbi⟩
      have HBI := Lib.hid (HX2.out.trans (hbi.mono HX2.out.size))
      go_wp2_with fail
      go_ret
      exact ⟨rfl, HBI.out⟩
    have d1 : decide (wh < 0) = false := decide_eq_false hw0
    by_cases hw4 : 4 < wh
    · have d2 : decide (4 < wh) = true := decide_eq_true hw4
      clear hw4 hw0
      go_wp2_with fail
      refine Calls.mono (works_any _) ?_
      rintro e wi ⟨rfl, hbi⟩
      have HBI := Lib.hid (HX2.out.trans (hbi.mono HX2.out.size))
      go_wp2_with fail
      go_ret
      exact ⟨rfl, HBI.out⟩
    have d2 : decide (4 < wh) = false := decide_eq_false hw4
    clear hw0 hw4
    have HN9 : Hid (n9 ≤ 320) := Lib.hid (by have := HBO2.out.side.len; have := HFK.out; omega)
    have HS8 : Hid (∀ W, Below w2.heap.size w2 W → W.cell? ⟨b, off + k * 5, none⟩ = some (.int .i64 wh) ∧ W.cell? ⟨b, off + k * 5 + 1, none⟩ = some (.string nm) ∧ W.cell? ⟨b, off + k * 5 + 2, none⟩ = some (.string to_) ∧ W.cell? ⟨b, off + k * 5 + 3, none⟩ = some (.slice Ab nb cb) ∧ W.cell? ⟨b, off + k * 5 + 4, none⟩ = some (.int .i64 N) ∧ W.cell? ⟨G, 0, none⟩ = some (.slice A9 n9 c9) ∧ W.cell? ⟨G, 1, none⟩ = some (.int .i64 st) ∧ W.cell? ⟨G, 2, none⟩ = some (.int .i64 lf9)) := Lib.hid (fun W h => by have a := HSC.out W (HX2.out.trans (h.mono HX2.out.size)); have z := row3 ((h.block G (lt_of_block HBO2.out.side.z)).trans HBO2.out.side.z); exact ⟨a.1, a.2.1, a.2.2.1, a.2.2.2.1, a.2.2.2.2, z.1, z.2.1, z.2.2.1⟩)
    have HD0 : Hid (∀ W, Below w2.heap.size w2 W → Calls Try.prog 23 #[.agg #[.slice A9 n9 c9, .int .i64 st, .int .i64 lf9], .agg #[.int .i64 wh, .string nm, .string to_, .slice Ab nb cb, .int .i64 N]] W (RDo2 fs wh nm to_ lb N true rm st A9 lf9 W)) := Lib.hid (fun W h => rdo_rel A9 n9 c9 fs st true rm lf9 wh N nm to_ Ab nb cb lb W HBO2.out.side.len (by have := HN9.out; omega) HBO2.out.side.cap HBO2.out.side.nil (HBO2.out.side.rd.below h) hnmto.1 hnmto.2 HBO2.out.on.fine HNB.out hk3 hcb HOB.out ((HRB.out.below HX2.out).below h) (by have := HSK.out; omega) HRK9.out.2.1 HRK9.out.2.2 HRK9.out.1)
    have HDA : Hid (Calls Try.prog 23 #[.agg #[.slice A9 n9 c9, .int .i64 st, .int .i64 lf9], .agg #[.int .i64 wh, .string nm, .string to_, .slice Ab nb cb, .int .i64 N]] w2.drew (RP fs wh nm to_ lb N true rm st A9 lf9 w2 w2.drew (fun X => Below w2.heap.size w2 X))) := Lib.hid ((HD0.out _ (Below.refl _ _).drew).mono fun _ _ hq => RP.of (fun _ hb => (Below.refl _ _).drew.trans (hb.mono (Nat.le_refl _))) hq)
    have HDB : Hid (Calls Try.prog 23 #[.agg #[.slice A9 n9 c9, .int .i64 st, .int .i64 lf9], .agg #[.int .i64 wh, .string nm, .string to_, .slice Ab nb cb, .int .i64 N]] (w2.alloc Z46).drew (RP fs wh nm to_ lb N true rm st A9 lf9 w2 (w2.alloc Z46).drew (fun X => K1 w2 X w2.heap.size))) := Lib.hid ((HD0.out _ ((K1.new (Below.refl _ _)).next (Below.refl _ _).drew).bel).mono fun _ _ hq => RP.of (fun _ hb => ((K1.new (Below.refl _ _)).next (Below.refl _ _).drew).next hb) hq)
    have HRD0 : Hid (RdF w2 A9 fs) := Lib.hid HBO2.out.side.rd
    clear HD0
    obtain ⟨g0, g1, g2, gf⟩ := row3 HBO2.out.side.z
    go_upto_region 13 with (fail)
    clear d1 d2
    go_cut [11, 12] from 42 to 95 (fun p e W => ∃ G8 A8 n8 c8 lf8, p = .pointer (some ⟨G8, 0, none⟩) ∧ e = .int .i64 (errS fs wh nm to_ lb N true rm) ∧ Hid (RelL true (outR fs wh nm to_ lb N true rm) lf8 ∧ -1 ≤ lf8 ∧ lf8 ≤ lf9) ∧ Hid (Side T W G8 A8 n8 c8 (outF fs wh nm to_ lb N true rm) (outS fs wh nm to_ lb N true rm st) lf8) ∧ Hid (0 < ((outF fs wh nm to_ lb N true rm)).length → ∀ ad, A8 = some ad → ad.block ≠ G) ∧ Hid (Below w2.heap.size w2 W))
    case first =>
      go_region_held3 (fun W => W.cell? ⟨b, off + k * 5, none⟩ = some (.int .i64 wh) ∧ W.cell? ⟨b, off + k * 5 + 1, none⟩ = some (.string nm) ∧ W.cell? ⟨b, off + k * 5 + 2, none⟩ = some (.string to_) ∧ W.cell? ⟨b, off + k * 5 + 3, none⟩ = some (.slice Ab nb cb) ∧ W.cell? ⟨b, off + k * 5 + 4, none⟩ = some (.int .i64 N) ∧ W.cell? ⟨G, 0, none⟩ = some (.slice A9 n9 c9) ∧ W.cell? ⟨G, 1, none⟩ = some (.int .i64 st) ∧ W.cell? ⟨G, 2, none⟩ = some (.int .i64 lf9))
        (first | assumption | (exact ⟨k0, k1, k2, k3, k4, k5, k6, k7⟩) | (exact ⟨m0, m1, m2, m3, m4, m5, m6, m7⟩) | go_keep | (dsimp only; assumption))
        (first
        | (go_at_call 23; with_reducible (refine HDA.out.mono ?_); rintro e wm ⟨A8, n8, c8, lf8, rfl, hr, ht, hk⟩; have HR := Lib.hid hr; have HT := Lib.hid ht; have HM := Lib.hid (Box.new (A := A8) (n := n8) (c := c8) (st := (((outS fs wh nm to_ lb N true rm st) : Nat) : Int)) (lf := lf8) hk); have HRF := Lib.hid (fun o => ht.alloc o); obtain ⟨m0, m1, m2, m3, m4, m5, m6, m7⟩ := HS8.out _ hk; clear hr ht hk)
        | (go_at_call 23; with_reducible (refine HDB.out.mono ?_); rintro e wm ⟨A8, n8, c8, lf8, rfl, hr, ht, hk⟩; have HR := Lib.hid hr; have HT := Lib.hid ht; have HM := Lib.hid (K1.stored (A := A8) (n := n8) (c := c8) (st := (((outS fs wh nm to_ lb N true rm st) : Nat) : Int)) (lf := lf8) hk); have HRF := Lib.hid (ht.stored HRD0.out hk.ge (by rw [drew_new]; omega)); obtain ⟨m0, m1, m2, m3, m4, m5, m6, m7⟩ := HS8.out _ hk.bel; obtain ⟨z0, z1, z2, zf⟩ := row3 hk.z; obtain ⟨k0, k1, k2, k3, k4, k5, k6, k7⟩ := HS8.out _ HM.out.bel; clear hr ht hk)
        | fail)
      · have HRX : Hid (RdF (wm.alloc (.cells #[.slice A8 n8 c8, .int .i64 ((outS fs wh nm to_ lb N true rm st) : Nat), .int .i64 lf8] 46)) A8 (outF fs wh nm to_ lb N true rm)) := Lib.hid (HRF.out _)
        have HNA := Lib.hid (HT.out.na (T := T) HBO2.out.side.na (fun b hT => Nat.lt_of_lt_of_le (HBO2.out.on.lt b hT) (by first | (rw [drew_new]; omega) | (rw [drew_size]; omega))))
        have HSI : Hid (Side T (wm.alloc (.cells #[.slice A8 n8 c8, .int .i64 ((outS fs wh nm to_ lb N true rm st) : Nat), .int .i64 lf8] 46)) (wm.heap.size) A8 n8 c8 (outF fs wh nm to_ lb N true rm) (outS fs wh nm to_ lb N true rm st) lf8) := Lib.hid ⟨HM.out.z, HRX.out, fun hT => by have h1 := HBO2.out.on.lt _ hT; have h2 := HM.out.ge; omega, HNA.out, HT.out.len, HT.out.cap, HT.out.nil⟩
        have HNE8 : Hid (0 < ((outF fs wh nm to_ lb N true rm)).length → ∀ ad, A8 = some ad → ad.block ≠ G) := Lib.hid (fun h0 ad e => by
          rcases HT.out.apart with ⟨h1, h2⟩ | h1
          · rw [h2] at h0
            rw [h1] at e
            exact HNE.out h0 ad e
          · have h3 := h1 ad e
            have h4 := lt_of_block HBO2.out.side.z
            first | (rw [drew_new] at h3; omega) | (rw [drew_size] at h3; omega))
        have HBM := Lib.hid HM.out.bel
        clear HRX HNA HRF HM HT
        go_wp2_with fail
        go_meet
        exact ⟨_, _, _, _, _, rfl, rfl, HR, HSI, HNE8, HBM⟩
      · have HRX : Hid (RdF (((wm.setCell ⟨w2.heap.size, 0, none⟩ (.slice A8 n8 c8)).setCell ⟨w2.heap.size, 1, none⟩ (.int .i64 ((outS fs wh nm to_ lb N true rm st) : Nat))).setCell ⟨w2.heap.size, 2, none⟩ (.int .i64 lf8)) A8 (outF fs wh nm to_ lb N true rm)) := Lib.hid (HRF.out _ _ _)
        have HNA := Lib.hid (HT.out.na (T := T) HBO2.out.side.na (fun b hT => Nat.lt_of_lt_of_le (HBO2.out.on.lt b hT) (by first | (rw [drew_new]; omega) | (rw [drew_size]; omega))))
        have HSI : Hid (Side T (((wm.setCell ⟨w2.heap.size, 0, none⟩ (.slice A8 n8 c8)).setCell ⟨w2.heap.size, 1, none⟩ (.int .i64 ((outS fs wh nm to_ lb N true rm st) : Nat))).setCell ⟨w2.heap.size, 2, none⟩ (.int .i64 lf8)) (w2.heap.size) A8 n8 c8 (outF fs wh nm to_ lb N true rm) (outS fs wh nm to_ lb N true rm st) lf8) := Lib.hid ⟨HM.out.z, HRX.out, fun hT => by have h1 := HBO2.out.on.lt _ hT; have h2 := HM.out.ge; omega, HNA.out, HT.out.len, HT.out.cap, HT.out.nil⟩
        have HNE8 : Hid (0 < ((outF fs wh nm to_ lb N true rm)).length → ∀ ad, A8 = some ad → ad.block ≠ G) := Lib.hid (fun h0 ad e => by
          rcases HT.out.apart with ⟨h1, h2⟩ | h1
          · rw [h2] at h0
            rw [h1] at e
            exact HNE.out h0 ad e
          · have h3 := h1 ad e
            have h4 := lt_of_block HBO2.out.side.z
            first | (rw [drew_new] at h3; omega) | (rw [drew_size] at h3; omega))
        have HBM := Lib.hid HM.out.bel
        clear HRX HNA HRF HM HT
        go_wp2_with fail
        go_meet
        exact ⟨_, _, _, _, _, rfl, rfl, HR, HSI, HNE8, HBM⟩
    case rest =>
      obtain ⟨G8, A8, n8, c8, lf8, rfl, rfl, HR8, HSI, HNE8, HB8⟩ := hcut
      clear HDA HDB HRD0 HS8 s0 s1 s2 s3 s4 g0 g1 g2 gf
      have HBO3 := Lib.hid (HBO2.out.below HB8.out)
      clear HBO2 HB8 HX2
      obtain ⟨q0, q1, q2, qf⟩ := row3 HSI.out.z
      obtain ⟨g0, g1, g2, gf⟩ := row3 HBO3.out.side.z
      go_upto_region 15 with (fail)
      have HBC := Lib.hid (HBO3.out.copy HSI.out HNE8.out HGB.out)
      clear q0 q1 q2 qf g0 g1 g2 gf HBO3 HSI
      generalize ((wc.setCell ⟨G, 0, none⟩ (.slice A8 n8 c8)).setCell ⟨G, 1, none⟩ (.int .i64 ((outS fs wh nm to_ lb N true rm st) : Nat))).setCell ⟨G, 2, none⟩ (.int .i64 lf8) = X at HBC ⊢
      have HXX := Lib.hid (HXV.out.trans (HBC.out.bel.mono HBW.out))
      obtain ⟨s0, s1, s2, s3, s4⟩ := HSC.out X HXX.out
      obtain ⟨g0, g1, g2, gf⟩ := row3 HBC.out.side.z
      have HDO := Lib.hid (do_both (HBC.out.below (Below.refl _ _).drew) wh N nm to_ (by simp only [maxLen]; omega) (by simp only [maxLen]; omega) Ab nb cb lb HNB.out HOB.out hcb ((HRB.out.below HXX.out).below (Below.refl _ _).drew) (fun ad e h0 => by obtain ⟨b, off, e2, hlt, _⟩ := HRB.out h0; rw [e2] at e; cases e; have h2 := HBW.out; simp only; omega) hNN.1 hNN.2 (by have := HSK.out; omega) (by have := HFK.out; omega))
      clear HBC HXX
      go_region_held3 (fun W => W.cell? ⟨b, off + k * 5, none⟩ = some (.int .i64 wh) ∧ W.cell? ⟨b, off + k * 5 + 1, none⟩ = some (.string nm) ∧ W.cell? ⟨b, off + k * 5 + 2, none⟩ = some (.string to_) ∧ W.cell? ⟨b, off + k * 5 + 3, none⟩ = some (.slice Ab nb cb) ∧ W.cell? ⟨b, off + k * 5 + 4, none⟩ = some (.int .i64 N) ∧ W.cell? ⟨G, 0, none⟩ = some (.slice A8 n8 c8) ∧ W.cell? ⟨G, 1, none⟩ = some (.int .i64 ((outS fs wh nm to_ lb N true rm st) : Nat)) ∧ W.cell? ⟨G, 2, none⟩ = some (.int .i64 lf8))
        (first | assumption | (exact ⟨d0, d1, d2, d3, d4, e0, e1, e2⟩) | go_keep | (dsimp only; assumption))
        (first
          | (go_at_call 25; with_reducible (refine HDO.out.mono ?_); rintro e wd ⟨rfl, T8, hq, _⟩; have HQ := Lib.hid hq; obtain ⟨d0, d1, d2, d3, d4⟩ := HSC.out wd (HXV.out.trans (hq.bel.mono HBW.out)); obtain ⟨e0, e1, e2, ef⟩ := row3 hq.side.z; clear hq)
          | (go_at_call 21; refine (steps_both HQ.out).mono ?_; rintro e wt ⟨rfl, rfl⟩)
          | fail)
      go_wp2_with fail
      go_roundw
      case rel => exact ⟨k + 1, T8, (outF fs wh nm to_ lb N true rm), (outS fs wh nm to_ lb N true rm st), (outR fs wh nm to_ lb N true rm), A8, n8, c8, lf8, by go_num, by omega, Lib.hid (by have := out_len fs wh nm to_ lb N true rm; have := HFK.out; omega), Lib.hid (by have := out_st fs wh nm to_ lb N true rm st; have := HSK.out; omega), Lib.hid ⟨HR8.out.1, HR8.out.2.1, Int.le_trans HR8.out.2.2 HRK9.out.2.2⟩, HNE8, HQ⟩
      case measure => simp [intOf]; omega



set_option maxHeartbeats 4000000 in
theorem reads (os : Os) {H : Type} (enc : TypeId × Value → H) : ∃ places, DataW.whole enc Try.prog ((World.holding Try.prog os ⟨#[], #[.slice none 0 0, .slice none 0 0, .int .i64 0], []⟩).forCall (fun _ _ => 0) ⟨#[], #[.slice none 0 0, .slice none 0 0, .int .i64 0], []⟩).memory Try.f6.params.toList Rows.diskHaltsSpec.vars false (#[.slice none 0 0, .slice none 0 0, .int .i64 0] : Array Value).toList 8 = some ([.nil, .nil, .lit (.int .i64 0)], [], places) :=
  ⟨[], by kernel_rfl⟩
theorem laidNone (w : World) : laidMet Try.prog [] w := laidMet_of_run' 8 (by kernel_rfl) (by kernel_rfl)
set_option maxRecDepth 100000 in
theorem lifted (os : Os) (started : os.Started) (H : Type) (enc : TypeId × Value → H) (F : Stop.Interp) :
    ReturnsInHanded {} Try.checked os 6 .any ((OpenSpec.ofChange Rows.diskHaltsSpec).preRow enc Try.prog Try.f6 Rows.diskHaltsRow.domain false Rows.diskHaltsRow.laid) (((OpenSpec.ofChange Rows.diskHaltsSpec).at F).post enc Try.prog Try.f6 false true false false) := by
  obtain ⟨places, hx⟩ := reads os enc
  refine returnsInHanded_of_row (C := Try.checked) (s := OpenSpec.ofChange Rows.diskHaltsSpec) own started (by kernel_rfl) Try.func6
    (witness_row_at (enc := enc) (C := Try.checked) false (World.holding Try.prog os ⟨#[], #[.slice none 0 0, .slice none 0 0, .int .i64 0], []⟩) #[.slice none 0 0, .slice none 0 0, .int .i64 0] rfl (by kernel_rfl) (by kernel_rfl) (by kernel_rfl)
      (OpenSpec.preRow_of_cond 8 hx (by kernel_rfl) (fun k hk => by cases hk) (by kernel_rfl) (laidNone _))) ?_
  intro W base args ds gs before hval0 hW _ _ hZ _ _ _
  show Calls Try.prog 6 args W fun e W' => ∃ v, e = .returned v ∧ Rows.diskHaltsSpec.post enc Try.prog Try.f6 false true false false W args v W'
  have hval : ∀ (j : Nat) t v, Try.f6.params[j]? = some t → args[j]? = some v → Value.okWide Try.prog W .any base t v := hval0
  have hW' := hW
  obtain ⟨p, q, hA0, hV, rfl, hfz, hnd⟩ := hW
  have hA : DataW.TrodAll enc Try.prog W 0 (fun _ => true) true Try.f6.params.toList args.toList ds p := hA0
  have hZ1 : (DataW.weightsEach Try.prog (Try.f6.params.toList ++ (OpenSpec.ofChange Rows.diskHaltsSpec).bare.plain.varTypes Try.prog) (ds ++ gs)).all (· ≤ reachBytes) = true := hZ
  rw [Try.params6] at hZ1
  rw [Try.params6] at hA hval
  obtain ⟨v0, vs0, d0, ds0, p0, q0, hargs, rfl, rfl, h0, r0⟩ := trodAll_cons hA
  obtain ⟨v1, vs1, d1, ds1, p1, q1, rfl, rfl, rfl, h1, r1⟩ := trodAll_cons r0
  obtain ⟨v2, vs2, d2, ds2, p2, q2, rfl, rfl, rfl, h2, r2⟩ := trodAll_cons r1
  obtain ⟨rfl, rfl, rfl⟩ := trodAll_nil r2
  obtain rfl : args = #[v0, v1, v2] := by cases args; simp_all
  obtain ⟨rfl, rfl⟩ := trodVars_none hV
  have k0 := h0
  have lt0 : ∀ x ∈ p0, x.block < W.heap.size := by obtain ⟨m, hm⟩ := k0; exact DataW.trod_lt m _ _ _ hm
  obtain ⟨ca0, na0, ea0, rfl⟩ := okWide_slice Try.underlying24 (hval 0 24 v0 rfl rfl)
  obtain ⟨fu0, hf0⟩ := h0
  obtain ⟨A0, n0, c0, l0, hv0, hn0, hnc0, hcm0, hO0, hr0, hs0⟩ := files_of hf0 (weight_at hZ1 (j := 0) rfl rfl)
  cases hv0
  simp only [maxLen] at hcm0
  have k1 := h1
  have lt1 : ∀ x ∈ p1, x.block < W.heap.size := by obtain ⟨m, hm⟩ := k1; exact DataW.trod_lt m _ _ _ hm
  obtain ⟨ca1, na1, ea1, rfl⟩ := okWide_slice Try.underlying52 (hval 1 52 v1 rfl rfl)
  obtain ⟨fu1, hf1⟩ := h1
  obtain ⟨A1, n1, c1, l1, hv1, hn1, hnc1, hcm1, hO1, hr1, hs1⟩ := steps_of hf1 (weight_at hZ1 (j := 1) rfl rfl)
  cases hv1
  simp only [maxLen] at hcm1
  obtain ⟨a2, rfl, rfl, rfl, w2⟩ := open_int Try.underlying3 (hval 2 3 v2 rfl rfl) h2
  have b2 := wf_i64 w2
  clear hA0 hval0
  refine (walk ca0 na0 ea0 l0 ca1 na1 ea1 l1 a2 W hn0 hnc0 (by omega) hO0 hr0 hs0 hn1 (by omega) hr1 hs1 b2).mono fun e W' ⟨he, bel⟩ => ?_
  subst he
  exact ⟨_, rfl, _, _, _, [], _, [], hW', trodAll_mk1 (shut_bool Try.underlying4 _), (trodAll_cons_mk (Below.trod laidOut (by kernel_rfl) (of_decide_eq_true (by kernel_rfl)) k0 bel lt0) (trodAll_cons_mk (Below.trod laidOut (by kernel_rfl) (of_decide_eq_true (by kernel_rfl)) k1 bel lt1) (trodAll_cons_mk (shut_int Try.underlying3 w2) trodAll_mk0))), rfl, bel.frame _, fun h => by cases h⟩

/-- The statement. -/
theorem proved : Rows.DiskHaltsSaid :=
  OpenClaim.holds_of_cond 6 Try.f6 rfl rfl rfl rfl rfl rfl rfl ⟨rfl, rfl, rfl, rfl, rfl⟩ rfl rfl rfl rfl rfl (by kernel_rfl) Try.func6 (by kernel_rfl)
    (of_decide_eq_true (by kernel_rfl)) (by unfold Func.isWrapper; first | (rw [if_pos (by decide +kernel)]; kernel_rfl) | (rw [if_neg (by decide +kernel)]; exact ⟨rfl, rfl⟩))
    (fun os started H enc _ F => by rw [OpenClaim.pre_eq_preRow]; exact lifted os started H enc F)
#print axioms proved
end Go.Proofs.Ytcfglgejjmapdaa.diskHalts
