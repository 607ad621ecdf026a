/- Proved here: 'taborlaw02.DiskLasts' returns true for every input. Conditions: none. -/
import Derived.LaidLaws
import Derived.Test.YtcfglgejjmapdaaFrame
import Derived.Test.YtcfglgejjmapdaaLawM
namespace Go.Proofs.Ytcfglgejjmapdaa.diskLasts
open Go Go.RowKit Go.ChangeShapes Go.WideShapes Go.ChangeAt
open Go.Shelf

theorem synced_no {fs : List F} {nm : ByteArray} (h : ¬ (nameB nm = true ∧ ∃ f, fnd F.name fs nm = some f)) : stepErr [nm] (thereF fs nm) false 0 ≠ 0 := by
  unfold stepErr thereF
  cases hn : nameB nm with
  | false => simp [hn]
  | true =>
    cases hf : fnd F.name fs nm with
    | none => simp [hn]
    | some f => exact absurd ⟨hn, f, hf⟩ h
theorem read_no {fs : List F} {nm : ByteArray} (h : ¬ (nameB nm = true ∧ ∃ f, fnd F.name fs nm = some f)) : readE fs nm ≠ 0 := by
  unfold readE thereF
  cases hn : nameB nm with
  | false => simp
  | true =>
    cases hf : fnd F.name fs nm with
    | none => simp
    | some f => exact absurd ⟨hn, f, hf⟩ h
set_option maxRecDepth 100000 in
set_option maxHeartbeats 16000000 in
theorem walk (A : Option Addr) (n c : Nat) (ls : List F) (nm : ByteArray) (Ab : Option Addr) (nb cb : Nat) (lb : List UInt8) (Ak : Option Addr) (nk ck : Nat) (lk : List Int) (w : World)
    (hn : ls.length = n) (hcm : n ≤ 9223372036854775807) (ha : RdF w A ls) (hs : ∀ a ∈ ls, a.ok) (hnm : nm.size ≤ 140737488351232)
    (hnb : lb.length = nb) (hcb : nb ≤ cb) (hob : Ab = none → cb = 0) (hrb : Rd w Ab lb) (hnk : lk.length = nk) (hmk : nk ≤ 9223372036854775807) (hrk : RdV w Ak (intsV lk)) :
    Calls Try.prog 9 #[.slice A n c, .string nm, .slice Ab nb cb, .slice Ak nk ck] w fun e w' => e = .returned (.bool true) ∧ Below w.heap.size w w' := by
  have H1 := Lib.hid (few_any A n c ls w hn (by omega) (fun f hf => (hs f hf).1) ha)
  have HN := Lib.hid hn
  have HA := Lib.hid ha
  have HS := Lib.hid hs
  have HNB := Lib.hid hnb
  have HOB := Lib.hid hob
  have HRB := Lib.hid hrb
  have HNK := Lib.hid hnk
  have HRK := Lib.hid hrk
  clear ha hs hn hnb hob hrb hnk hrk
  go_enter Try.func9, Try.ntmps9
  go_wp2_with fail
  refine Calls.mono H1.out ?_
  rintro e w1 ⟨rfl, q1, rfl⟩
  have hX := below_any q1 (Below.refl w.heap.size w)
  generalize w.drewN q1 = wq at hX ⊢
  have HX := Lib.hid hX
  clear hX H1
  by_cases hf : szF ls ≤ 3000
  rotate_left
  · have d0 : decide (szF ls ≤ 3000) = false := decide_eq_false hf
    clear hf
    go_wp2_with fail
    refine Calls.mono (works_any _) ?_
    rintro e wi ⟨rfl, hbi⟩
    have HBI := Lib.hid (HX.out.trans (hbi.mono HX.out.size))
    go_wp2_with fail
    go_ret
    exact ⟨rfl, HBI.out⟩
  have d0 : decide (szF ls ≤ 3000) = true := decide_eq_true hf
  have hn300 : n ≤ 300 := by have := szF_len ls; have := HN.out; omega
  have HSZ := Lib.hid hf
  clear hf
  by_cases hn3 : 200 < nm.size
  · go_wp2_with fail
    refine Calls.mono (works_any _) ?_
    rintro e wi ⟨rfl, hbi⟩
    have HBI := Lib.hid (HX.out.trans (hbi.mono HX.out.size))
    go_wp2_with fail
    go_ret
    exact ⟨rfl, HBI.out⟩
  by_cases hn4 : 1000 < nb
  · go_wp2_with fail
    refine Calls.mono (works_any _) ?_
    rintro e wi ⟨rfl, hbi⟩
    have HBI := Lib.hid (HX.out.trans (hbi.mono HX.out.size))
    go_wp2_with fail
    go_ret
    exact ⟨rfl, HBI.out⟩
  have HC := Lib.hid (from_any A n c ls wq HN.out (by omega) (fun f hf => (HS.out f hf).1) (HA.out.below HX.out))
  go_wp2_with fail
  refine Calls.mono HC.out ?_
  rintro e w2 ⟨hb2, hq⟩
  have hx2 := HX.out.trans (hb2.mono HX.out.size)
  have HBQ : Hid (w.heap.size ≤ wq.heap.size) := Lib.hid HX.out.size
  have HQL : Hid (wq.heap.size ≤ w2.heap.size) := Lib.hid hb2.size
  have HX2 := Lib.hid hx2
  have HQ := Lib.hid hq
  clear hq hb2 hx2 HC HX
  rcases HQ.out with ⟨hne, rfl⟩ | ⟨hce, T, D, M, rfl, hon⟩
  · obtain ⟨cz, hcz⟩ : ∃ cz, checkF ls = cz := ⟨_, rfl⟩
    rw [hcz] at hne ⊢
    clear HQ hcz
    go_wp2_with fail
    refine Calls.mono (num_any _ _) ?_
    rintro e w3 ⟨rfl, rfl⟩
    go_wp2_with fail
    refine Calls.mono (works_any _) ?_
    rintro e wi ⟨rfl, hbi⟩
    have HBI := Lib.hid (HX2.out.trans (hbi.mono HX2.out.size))
    go_wp2_with fail
    go_ret
    exact ⟨rfl, HBI.out⟩
  have HON := Lib.hid hon
  clear HQ hon hce
  go_wp2_with fail
  refine Calls.mono (num_any _ _) ?_
  rintro e w3 ⟨rfl, rfl⟩
  have HQ2 : Hid (w.heap.size ≤ w2.heap.size) := Lib.hid (Nat.le_trans HBQ.out HQL.out)
  have HFI := Lib.hid HON.out.fine
  have HSY := Lib.hid (sync_on w2 HON.out HQL.out nm (by simp only [maxLen]; omega) (by omega) (by have := HN.out; omega))
  have HLS := Lib.hid (sync_len ls nm)
  by_cases hk : nameB nm = true ∧ ∃ f, fnd F.name ls nm = some f
  · obtain ⟨hnv, f, hfd⟩ := hk
    have HFD := Lib.hid hfd
    have HNV := Lib.hid hnv
    have HFM : Hid (f.bytes.size ≤ 3000) := Lib.hid (by have := szF_mem (fnd_mem hfd).1; have := HSZ.out; omega)
    rw [synced_err hnv hfd] at HSY
    clear hfd hnv
    go_wp2_with fail
    refine Calls.mono HSY.out ?_
    rintro e w4 ⟨rfl, hw4⟩
    obtain ⟨T4, ho4, hk4, ht4⟩ := hw4.zero
    have HX4 := Lib.hid (keep_below HX2.out hk4 (fun b hb => Nat.le_trans HBQ.out (HON.out.low b hb)) HQ2.out)
    have HS4 : Hid (wq.heap.size ≤ w4.heap.size) := Lib.hid (Nat.le_trans HQL.out hk4.size)
    have HO4 := Lib.hid ho4
    have HT4 := Lib.hid HO4.out.lt
    have HFI4 := Lib.hid HO4.out.fine
    clear hw4 ho4 hk4 ht4 HSY HON HX2 HQL HQ2
    have HRD := Lib.hid (read_on w4 HO4.out nm hnm)
    have HF1 := Lib.hid (lasts (nm := nm) (f := f) (fs := ls) HFI.out HFD.out)
    have hbn : bytesN (syncF ls nm) nm = bl f.bytes := by simp [bytesN, HNV.out, HF1.out]
    have he2 : readE (syncF ls nm) nm = 0 := by simp [readE, HNV.out, thereF, HF1.out]
    unfold ReadQ at HRD
    rw [hbn, he2] at HRD
    clear hbn he2
    go_wp2_with fail
    refine Calls.mono HRD.out ?_
    rintro e w5 ⟨v5, rfl, ho5, hb5⟩
    obtain ⟨mw, hmw⟩ : ∃ mw, (bl f.bytes).length = mw := ⟨_, rfl⟩
    rw [hmw] at ho5
    obtain ⟨A5, c5, rfl, hc5, hcm5, hA5, hr5, hab5, hrow5⟩ := OwnRow.rowB ho5 hmw
    have HMW := Lib.hid hmw
    have HA5 := Lib.hid hA5
    have HR5 := Lib.hid hr5
    have HB5 := Lib.hid hab5
    have HB5S : Hid (w4.heap.size ≤ w5.heap.size) := Lib.hid hb5.size
    simp only [maxLen] at hcm5
    have HX5 := Lib.hid (HX4.out.trans (hb5.mono (Nat.le_trans HBQ.out HS4.out)))
    have HO5 := Lib.hid (HO4.out.below hb5)
    have HS5 : Hid (wq.heap.size ≤ w5.heap.size) := Lib.hid (Nat.le_trans HS4.out hb5.size)
    have HAP := Lib.hid (append_on w5 HO5.out HS5.out nm (by simp only [maxLen]; omega) Ab nb cb lb HNB.out HOB.out hcb (HRB.out.below HX5.out) (fun h0 ad e hT => by obtain ⟨b, off, e2, hlt, _⟩ := HRB.out h0; rw [e2] at e; cases e; have h1 := HO5.out.low _ hT; have h2 := HBQ.out; simp only at h1; omega) (by omega) (by have := HN.out; have := HLS.out; omega))
    clear ho5 hb5 hmw hrow5 hab5 hr5 hA5 HRD HO4 HX4 HS4
    have her : stepErr [nm] (longF (syncF ls nm) nm nb) false 0 = 0 := by rw [← HNB.out]; exact appended_err (b := lb) HNV.out HF1.out (by have := HFM.out; have := HNB.out; simp only; omega)
    rw [her] at HAP
    clear her
    go_wp2_with fail
    refine Calls.mono HAP.out ?_
    rintro e w6 ⟨rfl, hw6⟩
    obtain ⟨T6, ho6, hk6, ht6⟩ := hw6.zero
    obtain ⟨fs2, hfs2⟩ : ∃ fs2, appendF (syncF ls nm) nm lb = fs2 := ⟨_, rfl⟩
    have HFL : Hid (fs2.length ≤ 302) := Lib.hid (by rw [← hfs2]; have := append_len (syncF ls nm) nm lb; have := HLS.out; have := HN.out; omega)
    have HKN : Hid (fs2.length ≤ n + 1) := Lib.hid (by rw [← hfs2]; have h1 := append_len_in (b := lb) HF1.out; have h2 := sync_len_in HFD.out; have := HN.out; omega)
    rw [hfs2] at ho6
    have HFE := Lib.hid hfs2
    clear hfs2
    obtain ⟨st2, hst2⟩ : ∃ st2, 0 + 1 + 1 = st2 := ⟨_, rfl⟩
    rw [hst2] at ho6
    clear hst2
    have HX6 := Lib.hid (keep_below HX5.out hk6 (fun b hb => Nat.le_trans HBQ.out (HO5.out.low b hb)) (Nat.le_trans HBQ.out HS5.out))
    have HR6 := Lib.hid (HR5.out.keepT hk6 (fun _ ad e hT => by have h1 := (HB5.out ad e).1; have h2 := HT4.out _ hT; omega))
    have HS6 : Hid (wq.heap.size ≤ w6.heap.size) := Lib.hid (Nat.le_trans HS5.out hk6.size)
    have HO6 := Lib.hid ho6
    clear hw6 ho6 hk6 ht6 HAP HO5 HX5 HS5 HB5S
    have HCR := Lib.hid (crash_on w6 Ak nk ck lk HO6.out (by have := HFL.out; omega) HNK.out (HRK.out.below HX6.out) hmk)
    go_wp2_with fail
    refine Calls.mono HCR.out ?_
    rintro e w7 ⟨Tc, Dc, Mc, rfl, hoc, hb7⟩
    have HX7 := Lib.hid (HX6.out.trans (hb7.mono (Nat.le_trans HBQ.out HS6.out)))
    have HO7 := Lib.hid (HO6.out.below hb7)
    have HOC := Lib.hid hoc
    have HR7 := Lib.hid (HR6.out.below hb7)
    have HS7 : Hid (wq.heap.size ≤ w7.heap.size) := Lib.hid (Nat.le_trans HS6.out hb7.size)
    have HRC := Lib.hid (read_on w7 hoc nm hnm)
    clear hoc hb7 HCR HX6 HO6 HS6
    obtain ⟨mc, hfc, hm1, hm2⟩ := lasts2 (nm := nm) (f := f) (fs := ls) HFI4.out HF1.out lb lk (by rw [HFE.out]; exact HO7.out.fine)
    rw [HFE.out] at hfc
    have hbn : bytesN (crashL lk fs2) nm = (bl f.bytes ++ lb).take mc := by simp [bytesN, HNV.out, hfc, bl]
    have he2 : readE (crashL lk fs2) nm = 0 := by simp [readE, HNV.out, thereF, hfc]
    unfold ReadQ at HRC
    rw [hbn, he2] at HRC
    have hml : ((bl f.bytes ++ lb).take mc).length = mc := by
      have h9 : (bl f.bytes).length = f.bytes.size := by simp [bl]
      rw [List.length_take, List.length_append, h9]
      omega
    rw [hml] at HRC
    clear hbn he2 hfc
    go_wp2_with fail
    refine Calls.mono HRC.out ?_
    rintro e w8 ⟨v8, rfl, ho8, hb8⟩
    obtain ⟨A8, c8, rfl, hc8, hcm8, hA8, hr8, hab8, hrow8⟩ := OwnRow.rowB ho8 hml
    simp only [maxLen] at hcm8
    have HX8 := Lib.hid (HX7.out.trans (hb8.mono (Nat.le_trans HBQ.out HS7.out)))
    have HO8 := Lib.hid (HO7.out.below hb8)
    have HOC8 := Lib.hid (HOC.out.below hb8)
    have hcw : ∀ k, (convert 35 9 (.slice A5 mw c5)).run Try.prog (w8.drewN k) = .ok (.string f.bytes) (w8.drewN k) := fun k => by
      have h1 := conv_rd (w := w8.drewN k) (l := bl f.bytes) (A := A5) (c := c5) HA5.out (by rw [HMW.out]; exact hc5) ((HR7.out.below hb8).below (below_any k (Below.refl _ _)))
      rw [HMW.out] at h1
      exact h1
    have hfw : f.bytes.size = mw := by rw [← HMW.out]; simp [bl]
    rw [hfw] at hm1 hm2
    have hct : ∀ k, (convert 35 9 (.slice A8 mw c8)).run Try.prog (w8.drewN k) = .ok (.string f.bytes) (w8.drewN k) := fun k => by
      have h0 : ((bl f.bytes ++ lb).take mc).take mw = bl f.bytes := by rw [List.take_take, Nat.min_eq_left hm1, ← HMW.out, List.take_left]
      have h1 := conv_rd (w := w8.drewN k) (l := bl f.bytes) (A := A8) (c := c8) hA8 (by rw [HMW.out]; omega) (by rw [← h0]; exact (hr8.take mw).below (below_any k (Below.refl _ _)))
      rw [HMW.out] at h1
      exact h1
    have hlb : lb.length = nb := HNB.out
    rw [hlb] at hm2
    have hml2 : mc ≤ mw + nb := hm2
    have d1 : decide (mc < mw) = false := decide_eq_false (by omega)
    have d2 : decide (mw + nb < mc) = false := decide_eq_false (by omega)
    have d3 : decide ((mw : Int) + (nb : Int) < (mc : Int)) = false := decide_eq_false (by omega)
    have hmwc : mw ≤ c8 := by omega
    have hmw3 : mw ≤ 3000 := by have := HFM.out; omega
    have hsum : IntKind.i64.wrap ((mw : Int) + (nb : Int)) = (mw : Int) + (nb : Int) := IntWalk.i64_in _ ⟨by omega, by omega⟩
    have hsum2 : wrap64 ((mw : Int) + (nb : Int)) = (mw : Int) + (nb : Int) := by unfold wrap64; omega
    have HFI9 := HFI
    clear ho8 hb8 hrow8 hab8 hr8 hA8 hml hlb HRC HX7 HO7 HOC HR7 HR6 HR5 hm2 hfw HFD HNV HF1 HFI HFI4 HFI9 HFE HMW HA5 HB5
    go_wp2_with fail
    go_quiet ((go_at_call 16; exact quiet_S (num_any _ _)))
    rename_i nq
    have HX9 := Lib.hid (below_any nq HX8.out)
    have HO9 := Lib.hid (HO8.out.below (below_any nq (Below.refl _ _)))
    have HOC9 := Lib.hid (HOC8.out.below (below_any nq (Below.refl _ _)))
    have HFI2 := Lib.hid HO8.out.fine
    clear HX8 HO8 HOC8 hcw hct
    generalize w8.drewN nq = w9 at HX9 HO9 HOC9 ⊢
    go_wp2_with fail
    go_loopw [17, 18] (fun v i W => ∃ k : Nat, i = .int .i64 k ∧ k ≤ n + 1 ∧ Hid (W.ownsRow w9.heap.size 3 1 v k (intsV (List.replicate k mostI))) ∧ Hid (Below w9.heap.size w9 W)) (fun _ i _ => n + 1 - (intOf i).toNat)
    case atStart => exact ⟨0, rfl, Nat.zero_le _, Lib.hid (World.ownsRow_nil _ _ _ _), Lib.hid (Below.refl _ _)⟩
    case round =>
      obtain ⟨k, rfl, hk, HV, HBW⟩ := hrel
      by_cases hlt : k ≤ n
      · have hown := own_below HV.out (below_new wr (.cells #[.int .i64 9223372036854775807] 3))
        have HOW := Lib.hid hown
        clear hown
        go_wp2_with (first
          | (at_builtin; refine wpList_ints rfl (.tmp 118) (.tmp 119) rfl w9.heap.size _ (List.replicate k mostI) k rfl HOW.out (some ⟨wr.heap.size, 0, none⟩) 1 1 [mostI] rfl rfl (rd_int wr mostI) (fun e => by cases e) (Nat.le_refl _) (by omega) (by have := HBW.out.size; simp; omega) ?_; intro v2 w2x ho2x hb2x; have HV2 := Lib.hid ho2x; have HBW2 := Lib.hid ((HBW.out.alloc HBW.out.size _).trans hb2x); clear ho2x hb2x)
          | fail)
        go_roundw
        case rel => exact ⟨k + 1, by go_num, by omega, Lib.hid (by have h := HV2.out; rw [← List.replicate_succ'] at h; exact h), HBW2⟩
        case measure => simp [intOf]; omega
      · obtain rfl : k = n + 1 := by omega
        have HO10 := Lib.hid (HO9.out.below HBW.out)
        have HC10 := Lib.hid (HOC9.out.below HBW.out)
        have HX10 := Lib.hid (HX9.out.trans (HBW.out.mono HX9.out.size))
        obtain ⟨Aa, ca, rfl, hca, hAa, hcma, hra⟩ := own_rdV HV.out
        have HRA := Lib.hid hra
        have HAA := Lib.hid hAa
        simp only [maxLen] at hcma
        have HFS := Lib.hid (files_on wr HO10.out (by have := HFL.out; omega))
        clear HV hra hAa
        go_wp2_with fail
        refine Calls.mono HFS.out ?_
        rintro e wa ⟨vf, rfl, hof, hbf⟩
        obtain ⟨nf, hnf⟩ : ∃ nf, fs2.length = nf := ⟨_, rfl⟩
        rw [hnf] at hof
        have HOF := Lib.hid hof
        have HNF := Lib.hid hnf
        have HO11 := Lib.hid (HO10.out.below hbf)
        have HC11 := Lib.hid (HC10.out.below hbf)
        have HX11 := Lib.hid (HX10.out.trans (hbf.mono HX10.out.size))
        have HBF := Lib.hid (hbf)
        have HCR := Lib.hid (crash_on wa Aa (n + 1) ca (List.replicate (n + 1) mostI) HO11.out (by have := HFL.out; omega) (by simp) (HRA.out.below hbf) (by omega))
        clear hof hbf hnf HO10 HC10 HX10
        go_wp2_with fail
        refine Calls.mono HCR.out ?_
        rintro e wb ⟨Tk, Dk, Mk, rfl, hok, hbk⟩
        have HC12 := Lib.hid (HC11.out.below hbk)
        have HX12 := Lib.hid (HX11.out.trans (hbk.mono HX11.out.size))
        have HOF2 := Lib.hid (own_belows HOF.out hbk)
        have HFK := Lib.hid (files_on wb hok (by rw [crashL_len]; have := HFL.out; omega))
        clear hok hbk HC11 HX11 HOF HCR
        go_wp2_with fail
        refine Calls.mono HFK.out ?_
        rintro e wc ⟨vk, rfl, hovk, hbk⟩
        rw [crashL_len, HNF.out] at hovk
        have HOK := Lib.hid hovk
        have HC13 := Lib.hid (HC12.out.below hbk)
        have HX13 := Lib.hid (HX12.out.trans (hbk.mono HX12.out.size))
        have HOF3 := Lib.hid (own_belows HOF2.out hbk)
        have HCA := Lib.hid (crash_on wc none 0 0 [] HC13.out (by rw [crashL_len]; have := HFL.out; omega) rfl (RdV.nil _ _) (by omega))
        clear hovk hbk HC12 HX12 HOF2 HFK
        go_wp2_with fail
        refine Calls.mono HCA.out ?_
        rintro e wd ⟨Ta, Da, Ma, rfl, hoa, hba⟩
        rw [crash_twice HFI2.out] at hoa
        have HC14 := Lib.hid (HC13.out.below hba)
        have HX14 := Lib.hid (HX13.out.trans (hba.mono HX13.out.size))
        have HOF4 := Lib.hid (own_belows HOF3.out hba)
        have HOK4 := Lib.hid (own_belows HOK.out hba)
        have HFA := Lib.hid (files_on wd hoa (by rw [crashL_len]; have := HFL.out; omega))
        clear hoa hba HC13 HX13 HOF3 HOK HCA
        go_wp2_with fail
        refine Calls.mono HFA.out ?_
        rintro e we ⟨va, rfl, hova, hbe⟩
        obtain ⟨fc, hfc⟩ : ∃ fc, crashL lk fs2 = fc := ⟨_, rfl⟩
        have HFC : Hid (fc.length = nf) := Lib.hid (by rw [← hfc, crashL_len]; exact HNF.out)
        rw [hfc] at hova
        rw [HFC.out] at hova
        have HC15 := Lib.hid (HC14.out.below hbe)
        have HX15 := Lib.hid (HX14.out.trans (hbe.mono HX14.out.size))
        have HOF5 := Lib.hid (own_belows HOF4.out hbe)
        have HOK5 := Lib.hid (own_belows HOK4.out hbe)
        rw [hfc] at HC15
        obtain ⟨Aq, cq, rfl, hcq, hAq, hcmq, hrq, hsq⟩ := own_rdF hova HFC.out
        obtain ⟨Af, cf, rfl, hcf, hAf, hcmf, hrf, hsf⟩ := own_rdF HOF5.out HNF.out
        obtain ⟨Al, cl, rfl, hcl, hAl, hcml, hrl, hsl⟩ := own_rdF HOK5.out (by rw [crashL_len]; exact HNF.out)
        have HRQ := Lib.hid hrq
        have HRF := Lib.hid hrf
        have HRL := Lib.hid hrl
        have HFC2 := Lib.hid (files_on we HC15.out (by have := HFC.out; have := HNF.out; have := HFL.out; omega))
        have hnfb : nf ≤ 302 := by have := HNF.out; have := HFL.out; omega
        clear hova hbe hfc HC14 HX14 HOF4 HOK4 HFA hcq hAq hcmq hrq hsq hAf hcmf hrf hsf hAl hcml hrl hsl HOF5 HOK5
        go_wp2_with fail
        refine Calls.mono HFC2.out ?_
        rintro e wf ⟨vg, rfl, hovg, hbg⟩
        rw [HFC.out] at hovg
        obtain ⟨Ag, cg, rfl, hcg, hAg, hcmg, hrg, hsg⟩ := own_rdF hovg HFC.out
        have HSM := Lib.hid (same_any Aq Ag nf cq cg fc wf HFC.out (by omega) (HRQ.out.below hbg) hrg)
        have HX16 := Lib.hid (HX15.out.trans (hbg.mono HX15.out.size))
        have HRF6 := Lib.hid (HRF.out.below hbg)
        have HRL6 := Lib.hid (HRL.out.below hbg)
        clear hovg hcg hAg hcmg hrg hsg hbg HX15 HRF HRL HRQ HFC2 HC15
        go_wp2_with fail
        refine Calls.mono HSM.out ?_
        rintro e wg ⟨rfl, qg, rfl⟩
        have HX17 := Lib.hid (below_any qg HX16.out)
        have HRF7 := Lib.hid (HRF6.out.below (below_any qg (Below.refl _ _)))
        have HRL7 := Lib.hid (HRL6.out.below (below_any qg (Below.refl _ _)))
        clear HX16 HRF6 HRL6 HSM
        generalize wf.drewN qg = wh at HX17 HRF7 HRL7 ⊢
        go_wp2_with fail
        go_loopw [22] (fun i W => ∃ k q : Nat, W = wh.drewN q ∧ i = .int .i64 k ∧ k ≤ nf) (fun i _ => nf - (intOf i).toNat)
        case atStart => exact ⟨0, 0, rfl, rfl, Nat.zero_le _⟩
        case round =>
          obtain ⟨k, q, rfl, rfl, hk⟩ := hrel
          by_cases hlt : k < nf
          · have d2 : decide (k < nf) = true := decide_eq_true hlt
            have hkn : k < fs2.length := by have := HNF.out; omega
            have hkl : k < (crashL (List.replicate (n + 1) mostI) fs2).length := by rw [crashL_len]; exact hkn
            obtain ⟨bf, off, hAf, hbb, k0, k1, k2⟩ := HRF7.out.at hkn
            obtain ⟨bl2, ofl, hAl, hbbl, j0, j1, j2⟩ := HRL7.out.at hkl
            have hce := crash_most HFI2.out HKN.out k hkn
            rw [hce] at j0 j1 j2
            subst hAf
            subst hAl
            obtain ⟨x, hx, hxt⟩ := fil_at hkn
            rw [hx] at k0 k1 k2 j0 j1 j2
            dsimp only at j0 j1 j2
            clear hce hx hxt
            go_wp2_with fail
            go_quiet (fail)
            rename_i nq
            go_wp2_with fail
            go_round
            case rel => exact ⟨k + 1, q + nq, by first | rfl | rw [drew_two], by go_num, by omega⟩
            case measure => simp [intOf]; omega
          · have d2 : decide (k < nf) = false := decide_eq_false hlt
            have HX18 := Lib.hid (below_any q HX17.out)
            go_wp2_with fail
            refine Calls.mono (works_any _) ?_
            rintro e wi ⟨rfl, hbi⟩
            have HBI := Lib.hid (HX18.out.trans (hbi.mono HX18.out.size))
            go_wp2_with fail
            go_ret
            exact ⟨rfl, HBI.out⟩
  · have HNO := Lib.hid hk
    have HR1 : Hid (stepErr [nm] (thereF ls nm) false 0 ≠ 0) := Lib.hid (synced_no hk)
    clear hk
    obtain ⟨r1, hr1⟩ : ∃ r1, stepErr [nm] (thereF ls nm) false 0 = r1 := ⟨_, rfl⟩
    rw [hr1] at HSY HR1
    clear hr1
    go_wp2_with fail
    refine Calls.mono HSY.out ?_
    rintro e w4 ⟨rfl, hw4⟩
    obtain ⟨T4, ho4, hk4, ht4⟩ := hw4.no HR1.out
    have HX4 := Lib.hid (keep_below HX2.out hk4 (fun b hb => Nat.le_trans HBQ.out (HON.out.low b hb)) HQ2.out)
    have HS4 : Hid (wq.heap.size ≤ w4.heap.size) := Lib.hid (Nat.le_trans HQL.out hk4.size)
    have HO4 := Lib.hid ho4
    have HT4 := Lib.hid HO4.out.lt
    clear hw4 ho4 hk4 ht4 HSY HON HX2 HQL HQ2 HR1
    have HRD := Lib.hid (read_on w4 HO4.out nm hnm)
    have HR2 : Hid (readE ls nm ≠ 0) := Lib.hid (read_no HNO.out)
    obtain ⟨r2, hr2⟩ : ∃ r2, readE ls nm = r2 := ⟨_, rfl⟩
    unfold ReadQ at HRD
    rw [hr2] at HRD HR2
    clear hr2
    go_wp2_with fail
    refine Calls.mono HRD.out ?_
    rintro e w5 ⟨v5, rfl, ho5, hb5⟩
    obtain ⟨mw, hmw⟩ : ∃ mw, (bytesN ls nm).length = mw := ⟨_, rfl⟩
    rw [hmw] at ho5
    obtain ⟨A5, c5, rfl, hc5, hcm5, hA5, hr5, hab5, hrow5⟩ := OwnRow.rowB ho5 hmw
    simp only [maxLen] at hcm5
    have HX5 := Lib.hid (HX4.out.trans (hb5.mono (Nat.le_trans HBQ.out HS4.out)))
    have HO5 := Lib.hid (HO4.out.below hb5)
    have HS5 : Hid (wq.heap.size ≤ w5.heap.size) := Lib.hid (Nat.le_trans HS4.out hb5.size)
    have HAP := Lib.hid (append_on w5 HO5.out HS5.out nm (by simp only [maxLen]; omega) Ab nb cb lb HNB.out HOB.out hcb (HRB.out.below HX5.out) (fun h0 ad e hT => by obtain ⟨b, off, e2, hlt, _⟩ := HRB.out h0; rw [e2] at e; cases e; have h1 := HO5.out.low _ hT; have h2 := HBQ.out; simp only at h1; omega) (by omega) (by have := HN.out; have := HLS.out; omega))
    clear ho5 hb5 hmw hrow5 hab5 hr5 hA5 HRD HO4 HX4 HS4
    obtain ⟨r3, hr3⟩ : ∃ r3, stepErr [nm] (longF ls nm nb) false 0 = r3 := ⟨_, rfl⟩
    rw [hr3] at HAP
    clear hr3
    go_wp2_with fail
    refine Calls.mono HAP.out ?_
    rintro e w6 ⟨rfl, hw6⟩
    obtain ⟨T6, fs2, st2, ho6, hfs2, hst2, hk6, ht6⟩ := hw6.free
    have HFL : Hid (fs2.length ≤ 302) := Lib.hid (by rcases hfs2 with h | h <;> subst h; have := HN.out; omega; have := append_len ls nm lb; have := HN.out; omega)
    have HKN : Hid (fs2.length ≤ n + 1) := Lib.hid (by rcases hfs2 with h | h <;> subst h; have := HN.out; omega; have := append_len ls nm lb; have := HN.out; omega)
    clear hfs2 hst2
    have HX6 := Lib.hid (keep_below HX5.out hk6 (fun b hb => Nat.le_trans HBQ.out (HO5.out.low b hb)) (Nat.le_trans HBQ.out HS5.out))
    have HS6 : Hid (wq.heap.size ≤ w6.heap.size) := Lib.hid (Nat.le_trans HS5.out hk6.size)
    have HO6 := Lib.hid ho6
    clear hw6 ho6 hk6 ht6 HAP HO5 HX5 HS5
    have HCR := Lib.hid (crash_on w6 Ak nk ck lk HO6.out (by have := HFL.out; omega) HNK.out (HRK.out.below HX6.out) hmk)
    go_wp2_with fail
    refine Calls.mono HCR.out ?_
    rintro e w7 ⟨Tc, Dc, Mc, rfl, hoc, hb7⟩
    have HX7 := Lib.hid (HX6.out.trans (hb7.mono (Nat.le_trans HBQ.out HS6.out)))
    have HO7 := Lib.hid (HO6.out.below hb7)
    have HOC := Lib.hid hoc
    have HS7 : Hid (wq.heap.size ≤ w7.heap.size) := Lib.hid (Nat.le_trans HS6.out hb7.size)
    have HRC := Lib.hid (read_on w7 hoc nm hnm)
    clear hoc hb7 HCR HX6 HO6 HS6
    unfold ReadQ at HRC
    obtain ⟨r4, hr4⟩ : ∃ r4, readE (crashL lk fs2) nm = r4 := ⟨_, rfl⟩
    rw [hr4] at HRC
    clear hr4
    go_wp2_with fail
    refine Calls.mono HRC.out ?_
    rintro e w8 ⟨v8, rfl, ho8, hb8⟩
    obtain ⟨ml, hml⟩ : ∃ ml, (bytesN (crashL lk fs2) nm).length = ml := ⟨_, rfl⟩
    rw [hml] at ho8
    obtain ⟨A8, c8, rfl, hc8, hcm8, hA8, hr8, hab8, hrow8⟩ := OwnRow.rowB ho8 hml
    simp only [maxLen] at hcm8
    have HX8 := Lib.hid (HX7.out.trans (hb8.mono (Nat.le_trans HBQ.out HS7.out)))
    have HO8 := Lib.hid (HO7.out.below hb8)
    have HOC8 := Lib.hid (HOC.out.below hb8)
    clear ho8 hb8 hrow8 hab8 hr8 hA8 hml HRC HX7 HO7 HOC
    have hr2 : r2 ≠ 0 := HR2.out
    have d0 : decide (r2 = 0) = false := decide_eq_false hr2
    have d0b : (r2 == 0) = false := by simpa using hr2
    clear hr2
    clear HR2
    go_wp2_with fail
    go_quiet ((go_at_call 16; exact quiet_S (num_any _ _)))
    rename_i nq
    have HX9 := Lib.hid (below_any nq HX8.out)
    have HO9 := Lib.hid (HO8.out.below (below_any nq (Below.refl _ _)))
    have HOC9 := Lib.hid (HOC8.out.below (below_any nq (Below.refl _ _)))
    have HFI2 := Lib.hid HO8.out.fine
    clear HX8 HO8 HOC8
    generalize w8.drewN nq = w9 at HX9 HO9 HOC9 ⊢
    go_wp2_with fail
    go_loopw [17, 18] (fun v i W => ∃ k : Nat, i = .int .i64 k ∧ k ≤ n + 1 ∧ Hid (W.ownsRow w9.heap.size 3 1 v k (intsV (List.replicate k mostI))) ∧ Hid (Below w9.heap.size w9 W)) (fun _ i _ => n + 1 - (intOf i).toNat)
    case atStart => exact ⟨0, rfl, Nat.zero_le _, Lib.hid (World.ownsRow_nil _ _ _ _), Lib.hid (Below.refl _ _)⟩
    case round =>
      obtain ⟨k, rfl, hk, HV, HBW⟩ := hrel
      by_cases hlt : k ≤ n
      · have hown := own_below HV.out (below_new wr (.cells #[.int .i64 9223372036854775807] 3))
        have HOW := Lib.hid hown
        clear hown
        go_wp2_with (first
          | (at_builtin; refine wpList_ints rfl (.tmp 118) (.tmp 119) rfl w9.heap.size _ (List.replicate k mostI) k rfl HOW.out (some ⟨wr.heap.size, 0, none⟩) 1 1 [mostI] rfl rfl (rd_int wr mostI) (fun e => by cases e) (Nat.le_refl _) (by omega) (by have := HBW.out.size; simp; omega) ?_; intro v2 w2x ho2x hb2x; have HV2 := Lib.hid ho2x; have HBW2 := Lib.hid ((HBW.out.alloc HBW.out.size _).trans hb2x); clear ho2x hb2x)
          | fail)
        go_roundw
        case rel => exact ⟨k + 1, by go_num, by omega, Lib.hid (by have h := HV2.out; rw [← List.replicate_succ'] at h; exact h), HBW2⟩
        case measure => simp [intOf]; omega
      · obtain rfl : k = n + 1 := by omega
        have HO10 := Lib.hid (HO9.out.below HBW.out)
        have HC10 := Lib.hid (HOC9.out.below HBW.out)
        have HX10 := Lib.hid (HX9.out.trans (HBW.out.mono HX9.out.size))
        obtain ⟨Aa, ca, rfl, hca, hAa, hcma, hra⟩ := own_rdV HV.out
        have HRA := Lib.hid hra
        have HAA := Lib.hid hAa
        simp only [maxLen] at hcma
        have HFS := Lib.hid (files_on wr HO10.out (by have := HFL.out; omega))
        clear HV hra hAa
        go_wp2_with fail
        refine Calls.mono HFS.out ?_
        rintro e wa ⟨vf, rfl, hof, hbf⟩
        obtain ⟨nf, hnf⟩ : ∃ nf, fs2.length = nf := ⟨_, rfl⟩
        rw [hnf] at hof
        have HOF := Lib.hid hof
        have HNF := Lib.hid hnf
        have HO11 := Lib.hid (HO10.out.below hbf)
        have HC11 := Lib.hid (HC10.out.below hbf)
        have HX11 := Lib.hid (HX10.out.trans (hbf.mono HX10.out.size))
        have HBF := Lib.hid (hbf)
        have HCR := Lib.hid (crash_on wa Aa (n + 1) ca (List.replicate (n + 1) mostI) HO11.out (by have := HFL.out; omega) (by simp) (HRA.out.below hbf) (by omega))
        clear hof hbf hnf HO10 HC10 HX10
        go_wp2_with fail
        refine Calls.mono HCR.out ?_
        rintro e wb ⟨Tk, Dk, Mk, rfl, hok, hbk⟩
        have HC12 := Lib.hid (HC11.out.below hbk)
        have HX12 := Lib.hid (HX11.out.trans (hbk.mono HX11.out.size))
        have HOF2 := Lib.hid (own_belows HOF.out hbk)
        have HFK := Lib.hid (files_on wb hok (by rw [crashL_len]; have := HFL.out; omega))
        clear hok hbk HC11 HX11 HOF HCR
        go_wp2_with fail
        refine Calls.mono HFK.out ?_
        rintro e wc ⟨vk, rfl, hovk, hbk⟩
        rw [crashL_len, HNF.out] at hovk
        have HOK := Lib.hid hovk
        have HC13 := Lib.hid (HC12.out.below hbk)
        have HX13 := Lib.hid (HX12.out.trans (hbk.mono HX12.out.size))
        have HOF3 := Lib.hid (own_belows HOF2.out hbk)
        have HCA := Lib.hid (crash_on wc none 0 0 [] HC13.out (by rw [crashL_len]; have := HFL.out; omega) rfl (RdV.nil _ _) (by omega))
        clear hovk hbk HC12 HX12 HOF2 HFK
        go_wp2_with fail
        refine Calls.mono HCA.out ?_
        rintro e wd ⟨Ta, Da, Ma, rfl, hoa, hba⟩
        rw [crash_twice HFI2.out] at hoa
        have HC14 := Lib.hid (HC13.out.below hba)
        have HX14 := Lib.hid (HX13.out.trans (hba.mono HX13.out.size))
        have HOF4 := Lib.hid (own_belows HOF3.out hba)
        have HOK4 := Lib.hid (own_belows HOK.out hba)
        have HFA := Lib.hid (files_on wd hoa (by rw [crashL_len]; have := HFL.out; omega))
        clear hoa hba HC13 HX13 HOF3 HOK HCA
        go_wp2_with fail
        refine Calls.mono HFA.out ?_
        rintro e we ⟨va, rfl, hova, hbe⟩
        obtain ⟨fc, hfc⟩ : ∃ fc, crashL lk fs2 = fc := ⟨_, rfl⟩
        have HFC : Hid (fc.length = nf) := Lib.hid (by rw [← hfc, crashL_len]; exact HNF.out)
        rw [hfc] at hova
        rw [HFC.out] at hova
        have HC15 := Lib.hid (HC14.out.below hbe)
        have HX15 := Lib.hid (HX14.out.trans (hbe.mono HX14.out.size))
        have HOF5 := Lib.hid (own_belows HOF4.out hbe)
        have HOK5 := Lib.hid (own_belows HOK4.out hbe)
        rw [hfc] at HC15
        obtain ⟨Aq, cq, rfl, hcq, hAq, hcmq, hrq, hsq⟩ := own_rdF hova HFC.out
        obtain ⟨Af, cf, rfl, hcf, hAf, hcmf, hrf, hsf⟩ := own_rdF HOF5.out HNF.out
        obtain ⟨Al, cl, rfl, hcl, hAl, hcml, hrl, hsl⟩ := own_rdF HOK5.out (by rw [crashL_len]; exact HNF.out)
        have HRQ := Lib.hid hrq
        have HRF := Lib.hid hrf
        have HRL := Lib.hid hrl
        have HFC2 := Lib.hid (files_on we HC15.out (by have := HFC.out; have := HNF.out; have := HFL.out; omega))
        have hnfb : nf ≤ 302 := by have := HNF.out; have := HFL.out; omega
        clear hova hbe hfc HC14 HX14 HOF4 HOK4 HFA hcq hAq hcmq hrq hsq hAf hcmf hrf hsf hAl hcml hrl hsl HOF5 HOK5
        go_wp2_with fail
        refine Calls.mono HFC2.out ?_
        rintro e wf ⟨vg, rfl, hovg, hbg⟩
        rw [HFC.out] at hovg
        obtain ⟨Ag, cg, rfl, hcg, hAg, hcmg, hrg, hsg⟩ := own_rdF hovg HFC.out
        have HSM := Lib.hid (same_any Aq Ag nf cq cg fc wf HFC.out (by omega) (HRQ.out.below hbg) hrg)
        have HX16 := Lib.hid (HX15.out.trans (hbg.mono HX15.out.size))
        have HRF6 := Lib.hid (HRF.out.below hbg)
        have HRL6 := Lib.hid (HRL.out.below hbg)
        clear hovg hcg hAg hcmg hrg hsg hbg HX15 HRF HRL HRQ HFC2 HC15
        go_wp2_with fail
        refine Calls.mono HSM.out ?_
        rintro e wg ⟨rfl, qg, rfl⟩
        have HX17 := Lib.hid (below_any qg HX16.out)
        have HRF7 := Lib.hid (HRF6.out.below (below_any qg (Below.refl _ _)))
        have HRL7 := Lib.hid (HRL6.out.below (below_any qg (Below.refl _ _)))
        clear HX16 HRF6 HRL6 HSM
        generalize wf.drewN qg = wh at HX17 HRF7 HRL7 ⊢
        go_wp2_with fail
        go_loopw [22] (fun i W => ∃ k q : Nat, W = wh.drewN q ∧ i = .int .i64 k ∧ k ≤ nf) (fun i _ => nf - (intOf i).toNat)
        case atStart => exact ⟨0, 0, rfl, rfl, Nat.zero_le _⟩
        case round =>
          obtain ⟨k, q, rfl, rfl, hk⟩ := hrel
          by_cases hlt : k < nf
          · have d2 : decide (k < nf) = true := decide_eq_true hlt
            have hkn : k < fs2.length := by have := HNF.out; omega
            have hkl : k < (crashL (List.replicate (n + 1) mostI) fs2).length := by rw [crashL_len]; exact hkn
            obtain ⟨bf, off, hAf, hbb, k0, k1, k2⟩ := HRF7.out.at hkn
            obtain ⟨bl2, ofl, hAl, hbbl, j0, j1, j2⟩ := HRL7.out.at hkl
            have hce := crash_most HFI2.out HKN.out k hkn
            rw [hce] at j0 j1 j2
            subst hAf
            subst hAl
            obtain ⟨x, hx, hxt⟩ := fil_at hkn
            rw [hx] at k0 k1 k2 j0 j1 j2
            dsimp only at j0 j1 j2
            clear hce hx hxt
            go_wp2_with fail
            go_quiet (fail)
            rename_i nq
            go_wp2_with fail
            go_round
            case rel => exact ⟨k + 1, q + nq, by first | rfl | rw [drew_two], by go_num, by omega⟩
            case measure => simp [intOf]; omega
          · have d2 : decide (k < nf) = false := decide_eq_false hlt
            have HX18 := Lib.hid (below_any q HX17.out)
            go_wp2_with fail
            refine Calls.mono (works_any _) ?_
            rintro e wi ⟨rfl, hbi⟩
            have HBI := Lib.hid (HX18.out.trans (hbi.mono HX18.out.size))
            go_wp2_with fail
            go_ret
            exact ⟨rfl, HBI.out⟩


theorem reads (os : Os) {H : Type} (enc : TypeId × Value → H) : ∃ places, DataW.whole enc Try.prog ((World.holding Try.prog os ⟨#[], #[.slice none 0 0, .string ⟨#[]⟩, .slice none 0 0, .slice none 0 0], []⟩).forCall (fun _ _ => 0) ⟨#[], #[.slice none 0 0, .string ⟨#[]⟩, .slice none 0 0, .slice none 0 0], []⟩).memory Try.f9.params.toList Rows.diskLastsSpec.vars false (#[.slice none 0 0, .string ⟨#[]⟩, .slice none 0 0, .slice none 0 0] : Array Value).toList 8 = some ([.nil, .lit (.string []), .nil, .nil], [], places) :=
  ⟨[], by kernel_rfl⟩
theorem laidNone (w : World) : laidMet Try.prog [] w := laidMet_of_run' 8 (by kernel_rfl) (by kernel_rfl)
set_option maxRecDepth 100000 in
theorem lifted (os : Os) (started : os.Started) (H : Type) (enc : TypeId × Value → H) (F : Stop.Interp) :
    ReturnsInHanded {} Try.checked os 9 .any ((OpenSpec.ofChange Rows.diskLastsSpec).preRow enc Try.prog Try.f9 Rows.diskLastsRow.domain false Rows.diskLastsRow.laid) (((OpenSpec.ofChange Rows.diskLastsSpec).at F).post enc Try.prog Try.f9 false true false false) := by
  obtain ⟨places, hx⟩ := reads os enc
  refine returnsInHanded_of_row (C := Try.checked) (s := OpenSpec.ofChange Rows.diskLastsSpec) own started (by kernel_rfl) Try.func9
    (witness_row_at (enc := enc) (C := Try.checked) false (World.holding Try.prog os ⟨#[], #[.slice none 0 0, .string ⟨#[]⟩, .slice none 0 0, .slice none 0 0], []⟩) #[.slice none 0 0, .string ⟨#[]⟩, .slice none 0 0, .slice none 0 0] rfl (by kernel_rfl) (by kernel_rfl) (by kernel_rfl)
      (OpenSpec.preRow_of_cond 8 hx (by kernel_rfl) (fun k hk => by cases hk) (by kernel_rfl) (laidNone _))) ?_
  intro W base args ds gs before hval0 hW _ _ hZ _ _ _
  show Calls Try.prog 9 args W fun e W' => ∃ v, e = .returned v ∧ Rows.diskLastsSpec.post enc Try.prog Try.f9 false true false false W args v W'
  have hval : ∀ (j : Nat) t v, Try.f9.params[j]? = some t → args[j]? = some v → Value.okWide Try.prog W .any base t v := hval0
  have hW' := hW
  obtain ⟨p, q, hA0, hV, rfl, hfz, hnd⟩ := hW
  have hA : DataW.TrodAll enc Try.prog W 0 (fun _ => true) true Try.f9.params.toList args.toList ds p := hA0
  have hZ1 : (DataW.weightsEach Try.prog (Try.f9.params.toList ++ (OpenSpec.ofChange Rows.diskLastsSpec).bare.plain.varTypes Try.prog) (ds ++ gs)).all (· ≤ reachBytes) = true := hZ
  rw [Try.params9] at hZ1
  rw [Try.params9] at hA hval
  obtain ⟨v0, vs0, d0, ds0, p0, q0, hargs, rfl, rfl, h0, r0⟩ := trodAll_cons hA
  obtain ⟨v1, vs1, d1, ds1, p1, q1, rfl, rfl, rfl, h1, r1⟩ := trodAll_cons r0
  obtain ⟨v2, vs2, d2, ds2, p2, q2, rfl, rfl, rfl, h2, r2⟩ := trodAll_cons r1
  obtain ⟨v3, vs3, d3, ds3, p3, q3, rfl, rfl, rfl, h3, r3⟩ := trodAll_cons r2
  obtain ⟨rfl, rfl, rfl⟩ := trodAll_nil r3
  obtain rfl : args = #[v0, v1, v2, v3] := by cases args; simp_all
  obtain ⟨rfl, rfl⟩ := trodVars_none hV
  have k0 := h0
  have lt0 : ∀ x ∈ p0, x.block < W.heap.size := by obtain ⟨m, hm⟩ := k0; exact DataW.trod_lt m _ _ _ hm
  obtain ⟨ca0, na0, ea0, rfl⟩ := okWide_slice Try.underlying24 (hval 0 24 v0 rfl rfl)
  obtain ⟨fu0, hf0⟩ := h0
  obtain ⟨A0, n0, c0, l0, hv0, hn0, hnc0, hcm0, hO0, hr0, hs0⟩ := files_of hf0 (weight_at hZ1 (j := 0) rfl rfl)
  cases hv0
  simp only [maxLen] at hcm0
  obtain ⟨s1, rfl, rfl, rfl, hs1⟩ := Go.ChangeMaps.open_string Try.underlying9 (hval 1 9 v1 rfl rfl) h1
  have z1 := str_size (weight_at hZ1 (j := 1) rfl rfl)
  have k2 := h2
  have lt2 : ∀ x ∈ p2, x.block < W.heap.size := by obtain ⟨m, hm⟩ := k2; exact DataW.trod_lt m _ _ _ hm
  obtain ⟨ca2, na2, ea2, rfl⟩ := okWide_slice Try.underlying35 (hval 2 35 v2 rfl rfl)
  obtain ⟨fu2, hf2⟩ := h2
  obtain ⟨A2, n2, c2, l2, hv2, hn2, hnc2, hcm2, hO2, hr2⟩ := bytes_of hf2
  cases hv2
  simp only [maxLen] at hcm2
  have k3 := h3
  have lt3 : ∀ x ∈ p3, x.block < W.heap.size := by obtain ⟨m, hm⟩ := k3; exact DataW.trod_lt m _ _ _ hm
  obtain ⟨ca3, na3, ea3, rfl⟩ := okWide_slice Try.underlying55 (hval 3 55 v3 rfl rfl)
  obtain ⟨fu3, hf3⟩ := h3
  obtain ⟨A3, n3, c3, l3, hv3, hn3, hnc3, hcm3, hO3, hr3, hs3⟩ := ints_of hf3
  cases hv3
  simp only [maxLen] at hcm3
  clear hA0 hval0
  refine (walk ca0 na0 ea0 l0 s1 ca2 na2 ea2 l2 ca3 na3 ea3 l3 W hn0 (by omega) hr0 hs0 z1 hn2 hnc2 hO2 hr2 hn3 (by omega) hr3).mono fun e W' ⟨he, bel⟩ => ?_
  subst he
  exact ⟨_, rfl, _, _, _, [], _, [], hW', trodAll_mk1 (shut_bool Try.underlying4 _), (trodAll_cons_mk (Below.trod laidOut (by kernel_rfl) (of_decide_eq_true (by kernel_rfl)) k0 bel lt0) (trodAll_cons_mk (Go.ChangeMaps.shut_string Try.underlying9 hs1) (trodAll_cons_mk (Below.trod laidOut (by kernel_rfl) (of_decide_eq_true (by kernel_rfl)) k2 bel lt2) (trodAll_cons_mk (Below.trod laidOut (by kernel_rfl) (of_decide_eq_true (by kernel_rfl)) k3 bel lt3) trodAll_mk0)))), rfl, bel.frame _, fun h => by cases h⟩

/-- The statement. -/
theorem proved : Rows.DiskLastsSaid :=
  OpenClaim.holds_of_cond 9 Try.f9 rfl rfl rfl rfl rfl rfl rfl ⟨rfl, rfl, rfl, rfl, rfl⟩ rfl rfl rfl rfl rfl (by kernel_rfl) Try.func9 (by kernel_rfl)
    (of_decide_eq_true (by kernel_rfl)) (by unfold Func.isWrapper; first | (rw [if_pos (by decide +kernel)]; kernel_rfl) | (rw [if_neg (by decide +kernel)]; exact ⟨rfl, rfl⟩))
    (fun os started H enc _ F => by rw [OpenClaim.pre_eq_preRow]; exact lifted os started H enc F)
#print axioms proved
end Go.Proofs.Ytcfglgejjmapdaa.diskLasts
