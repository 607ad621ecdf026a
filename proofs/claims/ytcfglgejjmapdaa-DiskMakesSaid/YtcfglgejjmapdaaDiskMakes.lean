/- Proved here: 'taborlaw02.DiskMakes' returns true for every input. Conditions: none. -/
import Derived.LaidLaws
import Derived.Test.YtcfglgejjmapdaaFrame
import Derived.Test.YtcfglgejjmapdaaLaw
namespace Go.Proofs.Ytcfglgejjmapdaa.diskMakes
open Go Go.RowKit Go.ChangeShapes Go.WideShapes Go.ChangeAt
open Go.Shelf

theorem quiet_S {P : Program} {f : FuncId} {args : Array Value} {w : World} {n : Nat} {v : Value} (h : Calls P f args (w.drewN n) fun e w' => e = .returned v ∧ w.drewN n = w') :
    Calls P f args (w.drewN n) fun e w'' => e = .returned v ∧ ∃ m, w'' = w.drewN m := h.mono fun _ _ ⟨he, hm⟩ => ⟨he, n, hm.symm⟩
def spF : F := ⟨⟨#[115, 112, 97, 114, 101]⟩, ⟨#[]⟩, 0⟩
theorem check_zero {ls : List F} (h : checkF ls = 0) : fineF ⟨#[]⟩ ls = true ∧ longL ls = false := by
  unfold checkF at h
  split at h
  · omega
  · rename_i h1
    split at h
    · omega
    · rename_i h2
      exact ⟨by simpa using h1, by simpa using h2⟩
set_option maxRecDepth 100000 in
set_option maxHeartbeats 16000000 in
theorem walk (A : Option Addr) (n c : Nat) (ls : List F) (nm : ByteArray) (w : World) (hn : ls.length = n) (hc : n ≤ c) (hcm : c ≤ 9223372036854775807) (hO : A = none → c = 0) (ha : RdF w A ls) (hs : ∀ a ∈ ls, a.ok) (hnm : nm.size ≤ 140737488351232) :
    Calls Try.prog 4 #[.slice A n c, .string nm] w fun e w' => e = .returned (.bool true) ∧ Below w.heap.size w w' := by
  have H1 := Lib.hid (few_any A n c ls w hn (by omega) (fun f hf => (hs f hf).1) ha)
  have HN := Lib.hid hn
  have HA := Lib.hid ha
  have HS := Lib.hid hs
  have HO := Lib.hid hO
  clear ha hs hn hO
  go_enter Try.func4, Try.ntmps4
  go_wp2_with fail
  refine Calls.mono H1.out ?_
  rintro e w1 ⟨rfl, q1, rfl⟩
  by_cases hf : szF ls ≤ 3000
  rotate_left
  · have d0 : decide (szF ls ≤ 3000) = false := decide_eq_false hf
    clear hf
    go_wp2_with fail
    refine Calls.mono (works_any _) ?_
    rintro e wi ⟨rfl, hbi⟩
    have HBI := Lib.hid ((below_any q1 (Below.refl w.heap.size w)).trans hbi)
    go_wp2_with fail
    go_ret
    exact ⟨rfl, HBI.out⟩
  have d0 : decide (szF ls ≤ 3000) = true := decide_eq_true hf
  have hn300 : n ≤ 300 := by have := szF_len ls; have := HN.out; omega
  clear hf
  by_cases hn3 : 3000 < nm.size
  · go_wp2_with fail
    refine Calls.mono (works_any _) ?_
    rintro e wi ⟨rfl, hbi⟩
    have HBI := Lib.hid ((below_any q1 (Below.refl w.heap.size w)).trans hbi)
    go_wp2_with fail
    go_ret
    exact ⟨rfl, HBI.out⟩
  have hb1 : Below w.heap.size w (w.drewN q1) := below_any q1 (Below.refl _ _)
  generalize w.drewN q1 = wq at hb1 ⊢
  have HB1 := Lib.hid hb1
  have HA1 := Lib.hid (HA.out.below hb1)
  have HOq := Lib.hid (own_empty3 wq wq.heap.size (Nat.le_refl _))
  clear hb1 H1
  go_wp2_with (first
    | (at_builtin; refine wpList_filesN rfl (.tmp 22) (.tmp 23) rfl wq.heap.size _ [] 0 rfl rfl HOq.out A n c ls HN.out rfl (HA1.out.below (below_new wq _)) HO.out hc (by omega) (by simp) ?_; intro v7 w7 ho7 hb7 hs7; rw [Nat.zero_add, List.nil_append] at ho7; have HO7 := Lib.hid ho7; have HB7 := Lib.hid ((below_new wq (.cells #[] 27)).trans hb7); clear ho7 hb7 hs7)
    | (at_builtin; refine wpList_filesN rfl (.tmp 24) (.tmp 26) rfl wq.heap.size _ ls n HN.out rfl (own_belows HO7.out (below_new w7 _)) (some ⟨w7.heap.size, 0, none⟩) 1 1 [spF] rfl rfl (file_new w7 spF) (fun e => by cases e) (Nat.le_refl _) (by omega) (by have := HB7.out.size; simp; omega) ?_; intro v8 w8 ho8 hb8 hs8; obtain ⟨A8, c8, rfl, hc8, hA8, hcm8, hr8, hsp8⟩ := own_rdF ho8 (by rw [List.length_append, HN.out]; rfl); have HR8 := Lib.hid hr8; have HB8 := Lib.hid (HB7.out.trans (((below_new w7 _).mono HB7.out.size).trans hb8)); have HS8 := Lib.hid hsp8; clear ho8 hb8 hs8 hr8 hsp8 hA8)
    | (refine wpList_hi3 rfl (.tmp 27) (.tmp 29) rfl A8 (n + 1) c8 rfl .i64 n rfl (by omega) ?_)
    | fail)
  have HE0 : Hid ((ls ++ [spF]).take n = ls) := Lib.hid (by rw [← HN.out, List.take_left])
  have hr9 := HR8.out.take n
  rw [HE0.out] at hr9
  have HR9 := Lib.hid hr9
  have HC := Lib.hid (from_any A8 n c8 ls w8 HN.out (by omega) (fun f hf => (HS.out f hf).1) hr9)
  have HX8 := Lib.hid (HB1.out.trans (HB8.out.mono HB1.out.size))
  obtain ⟨b8, o8, hA8, hb8, k0, k1, k2⟩ := HR8.out.at (k := n) (by rw [List.length_append, HN.out]; simp)
  have hk0 : (ls ++ [spF])[n]'(by rw [List.length_append, HN.out]; simp) = spF := by have := HN.out; subst this; simp
  rw [hk0] at k0
  subst hA8
  clear k1 k2 hk0 hr9 HO7 HB7 HOq HB8 HA1
  go_wp2_with fail
  refine Calls.mono HC.out ?_
  rintro e w9 ⟨hb9, hq⟩
  have hr3 := HR9.out.below hb9
  have hk3 : w9.cell? ⟨b8, o8 + n * 3, none⟩ = some (.string spF.name) := (hb9.cell (p := ⟨b8, o8 + n * 3, none⟩) hb8).trans k0
  have HX9 := Lib.hid (HX8.out.trans (hb9.mono HX8.out.size))
  have hCK := check_any A n c ls w9 HN.out (by omega) (fun f hf => (HS.out f hf).1) (HA.out.below HX9.out)
  obtain ⟨ck, hck⟩ : ∃ ck, checkF ls = ck := ⟨_, rfl⟩
  rw [hck] at hq hCK
  have HCK := Lib.hid hCK
  have HR3 := Lib.hid hr3
  have HQ := Lib.hid hq
  have HCE := Lib.hid hck
  clear hr3 hb9 hCK hq hck k0 hb8 HR9 HR8 HC
  rcases HQ.out with ⟨hne, rfl⟩ | ⟨rfl, T, D, M, rfl, hon⟩
  · clear HQ
    go_wp2_with fail
    refine Calls.mono HCK.out ?_
    rintro e w10 ⟨rfl, q2, rfl⟩
    go_wp2_with fail
    refine Calls.mono (num_any _ _) ?_
    rintro e w11 ⟨rfl, rfl⟩
    have HSM := Lib.hid (same_any (some ⟨b8, o8, none⟩) A n c8 c ls (w9.drewN q2) HN.out (by omega) (HR3.out.below (below_any q2 (Below.refl _ _))) (HA.out.below (below_any q2 HX9.out)))
    have hk4 : (w9.drewN q2).cell? ⟨b8, o8 + n * 3, none⟩ = some (.string spF.name) := hk3
    clear hk3
    go_wp2_with fail
    refine Calls.mono HSM.out ?_
    rintro e w12 ⟨rfl, q3, rfl⟩
    have hk5 : ((w9.drewN q2).drewN q3).cell? ⟨b8, o8 + n * 3, none⟩ = some (.string ⟨#[115, 112, 97, 114, 101]⟩) := hk4
    have HB3 := Lib.hid (below_any q3 (below_any q2 HX9.out))
    clear hk4 HSM HCK
    generalize (w9.drewN q2).drewN q3 = w3 at hk5 HB3 ⊢
    go_wp2_with (first
      | (refine wpList_hi3 rfl (.tmp 49) (.tmp 52) rfl (some ⟨b8, o8, none⟩) n c8 rfl .i64 (n + 1) rfl (by omega) ?_)
      | fail)
    refine Calls.mono (works_any _) ?_
    rintro e wi ⟨rfl, hbi⟩
    have HBI := Lib.hid (HB3.out.trans (hbi.mono HB3.out.size))
    go_wp2_with fail
    go_ret
    exact ⟨rfl, HBI.out⟩
  have HON9 := Lib.hid hon
  have HCE2 : Hid (fineF ⟨#[]⟩ ls = true ∧ longL ls = false) := Lib.hid (check_zero HCE.out)
  clear HQ hon HCE
  go_wp2_with fail
  refine Calls.mono HCK.out ?_
  rintro e w10 ⟨rfl, q2, rfl⟩
  go_wp2_with fail
  refine Calls.mono (num_any _ _) ?_
  rintro e w11 ⟨rfl, rfl⟩
  have HSM := Lib.hid (same_any (some ⟨b8, o8, none⟩) A n c8 c ls (w9.drewN q2) HN.out (by omega) (HR3.out.below (below_any q2 (Below.refl _ _))) (HA.out.below (below_any q2 HX9.out)))
  have hk4 : (w9.drewN q2).cell? ⟨b8, o8 + n * 3, none⟩ = some (.string spF.name) := hk3
  clear hk3
  go_wp2_with fail
  refine Calls.mono HSM.out ?_
  rintro e w12 ⟨rfl, q3, rfl⟩
  have hk5 : ((w9.drewN q2).drewN q3).cell? ⟨b8, o8 + n * 3, none⟩ = some (.string ⟨#[115, 112, 97, 114, 101]⟩) := hk4
  have HB3 := Lib.hid (below_any q3 (below_any q2 HX9.out))
  have HON := Lib.hid (HON9.out.below (below_any q3 (below_any q2 (Below.refl w9.heap.size w9))))
  clear hk4 HSM HCK HON9 HR3 HX9
  generalize (w9.drewN q2).drewN q3 = w3 at hk5 HB3 HON ⊢
  go_wp2_with (first
    | (refine wpList_hi3 rfl (.tmp 49) (.tmp 52) rfl (some ⟨b8, o8, none⟩) n c8 rfl .i64 (n + 1) rfl (by omega) ?_)
    | fail)
  clear hk5
  have HRD := Lib.hid (read_on w3 HON.out nm hnm)
  refine Calls.mono HRD.out ?_
  rintro e w4 ⟨v9, rfl, ho9, hb9⟩
  obtain ⟨m, hm⟩ : ∃ m, (bytesN ls nm).length = m := ⟨_, rfl⟩
  rw [hm] at ho9
  obtain ⟨A9, c9, rfl, hc9, hcm9, hA9, hr9, hab9, hrow9⟩ := OwnRow.rowB ho9 hm
  simp only [maxLen] at hcm9
  have HBR := Lib.hid hb9
  have HM := Lib.hid hm
  have HAB := Lib.hid hab9
  have HROW := Lib.hid hrow9
  have HR9 := Lib.hid hr9
  have HA9 := Lib.hid hA9
  have HFI := Lib.hid (find_any A n c ls nm w4 HN.out (by omega) (HA.out.below (HB3.out.trans (hb9.mono HB3.out.size))))
  clear ho9 hb9 hm hab9 hrow9 hr9 hA9 HRD
  go_wp2_with fail
  refine Calls.mono HFI.out ?_
  rintro e w5 ⟨rfl, rfl⟩
  clear HFI
  cases hnb : nameB nm with
  | false =>
    obtain rfl : m = 0 := by rw [← HM.out]; simp [bytesN, hnb]
    have he2 : readE ls nm = 2 := by simp [readE, hnb]
    rw [he2]
    have HNM := Lib.hid (rname_any nm w4 (by omega))
    rw [hnb] at HNM
    clear he2 hnb
    generalize findI ls nm = fi
    go_wp2_with fail
    refine Calls.mono HNM.out ?_
    rintro e w6 ⟨rfl, rfl⟩
    go_wp2_with fail
    refine Calls.mono (num_any _ _) ?_
    rintro e w7 ⟨rfl, rfl⟩
    go_wp2_with fail
    go_loopw [12] (fun i W => ∃ k : Nat, i = .int .i64 k ∧ k ≤ 0 ∧ KeepT (fun b => ∃ ad, A9 = some ad ∧ ad.block = b) w4 W ∧ Hid (0 < 0 → ∃ g, A9 = some ⟨g, 0, none⟩ ∧ RowB W g 0)) (fun i _ => 0 - (intOf i).toNat)
    case atStart => exact ⟨0, rfl, Nat.zero_le _, KeepT.refl _ _, Lib.hid HROW.out⟩
    case round =>
      obtain ⟨k, rfl, hk, hkt, hrow⟩ := hrel
      obtain rfl : k = 0 := by omega
      · have HKT := Lib.hid hkt
        have HON2 := Lib.hid ((HON.out.below HBR.out).other hkt (fun b hb => by rintro ⟨ad, e, rfl⟩; have h1 := HON.out.lt _ hb; have h2 := (HAB.out ad e).1; omega))
        have HF := Lib.hid (files_on _ HON2.out (by have := HN.out; omega))
        clear hrow hkt
        go_wp2_with fail
        refine Calls.mono HF.out ?_
        rintro e wf ⟨vf, rfl, hof, hbf⟩
        obtain ⟨Af, cf, rfl, hcf, hAf, hcmf, hrf, hsf⟩ := own_rdF (HN.out ▸ hof) HN.out
        have HBW := Lib.hid (HB3.out.trans ((HBR.out.mono HB3.out.size).trans ((HKT.out.below (B := w.heap.size) (by rintro b ⟨ad, e, rfl⟩; have h2 := (HAB.out ad e).1; have h3 := HB3.out.size; omega) (Nat.le_trans HB3.out.size HBR.out.size)).trans (hbf.mono (Nat.le_trans HB3.out.size (Nat.le_trans HBR.out.size HKT.out.size))))))
        have HFS := Lib.hid (same_any Af _ n cf c ls wf HN.out (by omega) hrf (HA.out.below HBW.out))
        have HON3 := Lib.hid (HON2.out.below hbf)
        clear hof hcf hAf hcmf hrf hsf hbf
        go_wp2_with fail
        refine Calls.mono HFS.out ?_
        rintro e wg ⟨rfl, qg, rfl⟩
        go_wp2_with fail
        refine Calls.mono (steps_on _ (HON3.out.below (below_any qg (Below.refl _ _)))) ?_
        rintro e wh ⟨rfl, rfl⟩
        go_wp2_with fail
        refine Calls.mono (works_any _) ?_
        rintro e wi ⟨rfl, hbi⟩
        have HBI := Lib.hid ((below_any qg HBW.out).trans (hbi.mono HBW.out.size))
        go_wp2_with fail
        go_ret
        exact ⟨rfl, HBI.out⟩
  | true =>
    have HNM := Lib.hid (rname_any nm w4 (by omega))
    rw [hnb] at HNM
    by_cases hpl : placeF ls nm < ls.length
    · obtain ⟨x, hx1, hx2⟩ := find_at hpl
      have hbn : bytesN ls nm = bl x.bytes := by simp [bytesN, hnb, hx2]
      have he2 : readE ls nm = 0 := by simp [readE, hnb, thereF, hx2]
      have hfi : findI ls nm = placeF ls nm := by unfold findI; rw [if_pos hpl]
      have hpn : placeF ls nm < n := by have := HN.out; omega
      obtain ⟨b1, o1, hA1, hb1, k0, k1, k2⟩ := (HA.out.below (HB3.out.trans (HBR.out.mono HB3.out.size))).at hpl
      have hxe : ls[placeF ls nm]'hpl = x := by rw [List.getElem?_eq_getElem hpl] at hx1; exact Option.some.inj hx1
      rw [hxe] at k1
      have hcv : ∀ k, (convert 35 9 (.slice A9 m c9)).run Try.prog (w4.drewN k) = .ok (.string x.bytes) (w4.drewN k) := fun k => by
        have h1 := conv_rd (w := w4.drewN k) (l := bytesN ls nm) (A := A9) (c := c9) HA9.out (by rw [HM.out]; exact hc9) (HR9.out.below (below_any k (Below.refl _ _)))
        rw [HM.out, hbn] at h1
        exact h1
      rw [he2, hfi]
      generalize placeF ls nm = pl at hpn k1 hb1 ⊢
      subst hA1
      clear hx1 hx2 hbn he2 hfi hxe k0 k2 hpl hnb
      go_wp2_with fail
      refine Calls.mono HNM.out ?_
      rintro e w6 ⟨rfl, rfl⟩
      go_wp2_with fail
      go_quiet ((go_at_call 16; exact quiet_S (num_any _ _)))
      rename_i nq
      have HBR2 := Lib.hid (below_any nq HBR.out)
      have HROW2 : Hid (0 < m → ∃ g, A9 = some ⟨g, 0, none⟩ ∧ RowB (w4.drewN nq) g m) := Lib.hid (fun h => by obtain ⟨g, e, hr⟩ := HROW.out h; exact ⟨g, e, hr.drew nq⟩)
      clear HBR HROW hcv HNM HR9 k1 hb1
      generalize w4.drewN nq = w5 at HBR2 HROW2 ⊢
      go_wp2_with fail
      go_loopw [12] (fun i W => ∃ k : Nat, i = .int .i64 k ∧ k ≤ m ∧ KeepT (fun b => ∃ ad, A9 = some ad ∧ ad.block = b) w5 W ∧ Hid (0 < m → ∃ g, A9 = some ⟨g, 0, none⟩ ∧ RowB W g m)) (fun i _ => m - (intOf i).toNat)
      case atStart => exact ⟨0, rfl, Nat.zero_le _, KeepT.refl _ _, Lib.hid HROW2.out⟩
      case round =>
        obtain ⟨k, rfl, hk, hkt, hrow⟩ := hrel
        by_cases hlt : k < m
        · obtain ⟨g, hA9, hB⟩ := hrow.out (by omega)
          have hAg := hA9
          subst hA9
          obtain ⟨z, hz, z0, z1⟩ := hB.byte hlt
          have hfr := hB.free k
          have HB9 := Lib.hid hB
          have HKT := Lib.hid hkt
          clear hrow hB hkt hAg
          go_wp2_with fail
          go_roundw
          case rel =>
            exact ⟨k + 1, by go_num, by omega, HKT.out.setCell _ _ ⟨_, rfl, rfl⟩, Lib.hid fun _ => ⟨g, rfl, HB9.out.set hlt (by omega) (by omega)⟩⟩
          case measure => simp [intOf]; omega
        · have HKT := Lib.hid hkt
          have HON2 := Lib.hid ((HON.out.below HBR2.out).other hkt (fun b hb => by rintro ⟨ad, e, rfl⟩; have h1 := HON.out.lt _ hb; have h2 := (HAB.out ad e).1; omega))
          have HF := Lib.hid (files_on _ HON2.out (by have := HN.out; omega))
          clear hrow hkt
          go_wp2_with fail
          refine Calls.mono HF.out ?_
          rintro e wf ⟨vf, rfl, hof, hbf⟩
          obtain ⟨Af, cf, rfl, hcf, hAf, hcmf, hrf, hsf⟩ := own_rdF (HN.out ▸ hof) HN.out
          have HBW := Lib.hid (HB3.out.trans ((HBR2.out.mono HB3.out.size).trans ((HKT.out.below (B := w.heap.size) (by rintro b ⟨ad, e, rfl⟩; have h2 := (HAB.out ad e).1; have h3 := HB3.out.size; omega) (Nat.le_trans HB3.out.size HBR2.out.size)).trans (hbf.mono (Nat.le_trans HB3.out.size (Nat.le_trans HBR2.out.size HKT.out.size))))))
          have HFS := Lib.hid (same_any Af _ n cf c ls wf HN.out (by omega) hrf (HA.out.below HBW.out))
          have HON3 := Lib.hid (HON2.out.below hbf)
          clear hof hcf hAf hcmf hrf hsf hbf
          go_wp2_with fail
          refine Calls.mono HFS.out ?_
          rintro e wg ⟨rfl, qg, rfl⟩
          go_wp2_with fail
          refine Calls.mono (steps_on _ (HON3.out.below (below_any qg (Below.refl _ _)))) ?_
          rintro e wh ⟨rfl, rfl⟩
          go_wp2_with fail
          refine Calls.mono (works_any _) ?_
          rintro e wi ⟨rfl, hbi⟩
          have HBI := Lib.hid ((below_any qg HBW.out).trans (hbi.mono HBW.out.size))
          go_wp2_with fail
          go_ret
          exact ⟨rfl, HBI.out⟩
    · have hfn := find_no hpl
      obtain rfl : m = 0 := by rw [← HM.out]; simp [bytesN, hnb, hfn]
      have he2 : readE ls nm = 5 := by simp [readE, hnb, thereF, hfn]
      have hfi : findI ls nm = -1 := by unfold findI; rw [if_neg hpl]
      rw [he2, hfi]
      clear he2 hfi hfn hpl hnb
      go_wp2_with fail
      refine Calls.mono HNM.out ?_
      rintro e w6 ⟨rfl, rfl⟩
      go_wp2_with fail
      refine Calls.mono (num_any _ _) ?_
      rintro e w7 ⟨rfl, rfl⟩
      go_wp2_with fail
      go_loopw [12] (fun i W => ∃ k : Nat, i = .int .i64 k ∧ k ≤ 0 ∧ KeepT (fun b => ∃ ad, A9 = some ad ∧ ad.block = b) w4 W ∧ Hid (0 < 0 → ∃ g, A9 = some ⟨g, 0, none⟩ ∧ RowB W g 0)) (fun i _ => 0 - (intOf i).toNat)
      case atStart => exact ⟨0, rfl, Nat.zero_le _, KeepT.refl _ _, Lib.hid HROW.out⟩
      case round =>
        obtain ⟨k, rfl, hk, hkt, hrow⟩ := hrel
        obtain rfl : k = 0 := by omega
        · have HKT := Lib.hid hkt
          have HON2 := Lib.hid ((HON.out.below HBR.out).other hkt (fun b hb => by rintro ⟨ad, e, rfl⟩; have h1 := HON.out.lt _ hb; have h2 := (HAB.out ad e).1; omega))
          have HF := Lib.hid (files_on _ HON2.out (by have := HN.out; omega))
          clear hrow hkt
          go_wp2_with fail
          refine Calls.mono HF.out ?_
          rintro e wf ⟨vf, rfl, hof, hbf⟩
          obtain ⟨Af, cf, rfl, hcf, hAf, hcmf, hrf, hsf⟩ := own_rdF (HN.out ▸ hof) HN.out
          have HBW := Lib.hid (HB3.out.trans ((HBR.out.mono HB3.out.size).trans ((HKT.out.below (B := w.heap.size) (by rintro b ⟨ad, e, rfl⟩; have h2 := (HAB.out ad e).1; have h3 := HB3.out.size; omega) (Nat.le_trans HB3.out.size HBR.out.size)).trans (hbf.mono (Nat.le_trans HB3.out.size (Nat.le_trans HBR.out.size HKT.out.size))))))
          have HFS := Lib.hid (same_any Af _ n cf c ls wf HN.out (by omega) hrf (HA.out.below HBW.out))
          have HON3 := Lib.hid (HON2.out.below hbf)
          clear hof hcf hAf hcmf hrf hsf hbf
          go_wp2_with fail
          refine Calls.mono HFS.out ?_
          rintro e wg ⟨rfl, qg, rfl⟩
          go_wp2_with fail
          refine Calls.mono (steps_on _ (HON3.out.below (below_any qg (Below.refl _ _)))) ?_
          rintro e wh ⟨rfl, rfl⟩
          go_wp2_with fail
          refine Calls.mono (works_any _) ?_
          rintro e wi ⟨rfl, hbi⟩
          have HBI := Lib.hid ((below_any qg HBW.out).trans (hbi.mono HBW.out.size))
          go_wp2_with fail
          go_ret
          exact ⟨rfl, HBI.out⟩


theorem reads (os : Os) {H : Type} (enc : TypeId × Value → H) : ∃ places, DataW.whole enc Try.prog ((World.holding Try.prog os ⟨#[], #[.slice none 0 0, .string ⟨#[]⟩], []⟩).forCall (fun _ _ => 0) ⟨#[], #[.slice none 0 0, .string ⟨#[]⟩], []⟩).memory Try.f4.params.toList Rows.diskMakesSpec.vars false (#[.slice none 0 0, .string ⟨#[]⟩] : Array Value).toList 8 = some ([.nil, .lit (.string [])], [], places) :=
  ⟨[], by kernel_rfl⟩
theorem laidNone (w : World) : laidMet Try.prog [] w := laidMet_of_run' 8 (by kernel_rfl) (by kernel_rfl)
set_option maxRecDepth 100000 in
theorem lifted (os : Os) (started : os.Started) (H : Type) (enc : TypeId × Value → H) (F : Stop.Interp) :
    ReturnsInHanded {} Try.checked os 4 .any ((OpenSpec.ofChange Rows.diskMakesSpec).preRow enc Try.prog Try.f4 Rows.diskMakesRow.domain false Rows.diskMakesRow.laid) (((OpenSpec.ofChange Rows.diskMakesSpec).at F).post enc Try.prog Try.f4 false true false false) := by
  obtain ⟨places, hx⟩ := reads os enc
  refine returnsInHanded_of_row (C := Try.checked) (s := OpenSpec.ofChange Rows.diskMakesSpec) own started (by kernel_rfl) Try.func4
    (witness_row_at (enc := enc) (C := Try.checked) false (World.holding Try.prog os ⟨#[], #[.slice none 0 0, .string ⟨#[]⟩], []⟩) #[.slice none 0 0, .string ⟨#[]⟩] rfl (by kernel_rfl) (by kernel_rfl) (by kernel_rfl)
      (OpenSpec.preRow_of_cond 8 hx (by kernel_rfl) (fun k hk => by cases hk) (by kernel_rfl) (laidNone _))) ?_
  intro W base args ds gs before hval0 hW _ _ hZ _ _ _
  show Calls Try.prog 4 args W fun e W' => ∃ v, e = .returned v ∧ Rows.diskMakesSpec.post enc Try.prog Try.f4 false true false false W args v W'
  have hval : ∀ (j : Nat) t v, Try.f4.params[j]? = some t → args[j]? = some v → Value.okWide Try.prog W .any base t v := hval0
  have hW' := hW
  obtain ⟨p, q, hA0, hV, rfl, hfz, hnd⟩ := hW
  have hA : DataW.TrodAll enc Try.prog W 0 (fun _ => true) true Try.f4.params.toList args.toList ds p := hA0
  have hZ1 : (DataW.weightsEach Try.prog (Try.f4.params.toList ++ (OpenSpec.ofChange Rows.diskMakesSpec).bare.plain.varTypes Try.prog) (ds ++ gs)).all (· ≤ reachBytes) = true := hZ
  rw [Try.params4] at hZ1
  rw [Try.params4] at hA hval
  obtain ⟨v0, vs0, d0, ds0, p0, q0, hargs, rfl, rfl, h0, r0⟩ := trodAll_cons hA
  obtain ⟨v1, vs1, d1, ds1, p1, q1, rfl, rfl, rfl, h1, r1⟩ := trodAll_cons r0
  obtain ⟨rfl, rfl, rfl⟩ := trodAll_nil r1
  obtain rfl : args = #[v0, v1] := by cases args; simp_all
  obtain ⟨rfl, rfl⟩ := trodVars_none hV
  have k0 := h0
  have lt0 : ∀ x ∈ p0, x.block < W.heap.size := by obtain ⟨m, hm⟩ := k0; exact DataW.trod_lt m _ _ _ hm
  obtain ⟨ca0, na0, ea0, rfl⟩ := okWide_slice Try.underlying24 (hval 0 24 v0 rfl rfl)
  obtain ⟨fu0, hf0⟩ := h0
  obtain ⟨A0, n0, c0, l0, hv0, hn0, hnc0, hcm0, hO0, hr0, hs0⟩ := files_of hf0 (weight_at hZ1 (j := 0) rfl rfl)
  cases hv0
  simp only [maxLen] at hcm0
  obtain ⟨s1, rfl, rfl, rfl, hs1⟩ := Go.ChangeMaps.open_string Try.underlying9 (hval 1 9 v1 rfl rfl) h1
  have z1 := str_size (weight_at hZ1 (j := 1) rfl rfl)
  clear hA0 hval0
  refine (walk ca0 na0 ea0 l0 s1 W hn0 hnc0 (by omega) hO0 hr0 hs0 z1).mono fun e W' ⟨he, bel⟩ => ?_
  subst he
  exact ⟨_, rfl, _, _, _, [], _, [], hW', trodAll_mk1 (shut_bool Try.underlying4 _), (trodAll_cons_mk (Below.trod laidOut (by kernel_rfl) (of_decide_eq_true (by kernel_rfl)) k0 bel lt0) (trodAll_cons_mk (Go.ChangeMaps.shut_string Try.underlying9 hs1) trodAll_mk0)), rfl, bel.frame _, fun h => by cases h⟩

/-- The statement. -/
theorem proved : Rows.DiskMakesSaid :=
  OpenClaim.holds_of_cond 4 Try.f4 rfl rfl rfl rfl rfl rfl rfl ⟨rfl, rfl, rfl, rfl, rfl⟩ rfl rfl rfl rfl rfl (by kernel_rfl) Try.func4 (by kernel_rfl)
    (of_decide_eq_true (by kernel_rfl)) (by unfold Func.isWrapper; first | (rw [if_pos (by decide +kernel)]; kernel_rfl) | (rw [if_neg (by decide +kernel)]; exact ⟨rfl, rfl⟩))
    (fun os started H enc _ F => by rw [OpenClaim.pre_eq_preRow]; exact lifted os started H enc F)
#print axioms proved
end Go.Proofs.Ytcfglgejjmapdaa.diskMakes
