/- Proved here: 'taborlaw04.RespAgain' returns true for any two slices of bytes, which read behind the call as they read before. Conditions: those of the given card (the three listed tables hold what the program's text lays; nothing else). -/
import Derived.Test.YtglicojojpggmaaDoorFrame
import Derived.Test.YtglicojojpggmaaDoorMaA
import Derived.Test.YtglicojojpggmaaDoorWorks
import Derived.Test.YtglicojojpggmaaDoorCopy
namespace Go.Proofs.YtglicojojpggmaaDoor.respAgain
open Go Go.RowKit Go.ChangeShapes Go.WideShapes Go.ChangeAt
open Go.ChangeMaps (open_string shut_string)

set_option maxHeartbeats 8000000 in
set_option maxRecDepth 100000 in
theorem walk (A B : Option Addr) (n c m d : Nat) (l lb : List UInt8) (w : World) (hn : l.length = n) (hnc : n ≤ c) (hA : A = none → c = 0) (hr : Rd w A l) (hab : ∀ ad, A = some ad → ad.block < w.heap.size) (hm : lb.length = m) (hmd : m ≤ d) (hB : B = none → d = 0) (hrb : Rd w B lb) (bn : n ≤ 9223372036854775807) (bm : m ≤ 9223372036854775807) (hg : TAB w) :
    Calls Tryd.prog 11 #[.slice A n c, .slice B m d] w fun e w' => e = .returned (.bool true) ∧ Below w.heap.size w w' := by
  have HN := Lib.hid hn
  have HA := Lib.hid hA
  have HR := Lib.hid hr
  have HG := Lib.hid hg
  have HAB := Lib.hid hab
  have HMM := Lib.hid hm
  have HBN := Lib.hid hB
  have HRB := Lib.hid hrb
  clear hn hA hr hab hm hB hrb
  by_cases hb : 3000 < n
  · have HW := Lib.hid (works_any w hg)
    clear hg
    go_enter Tryd.func11, Tryd.ntmps11
    go_wp2_with fail
    refine HW.out.mono ?_
    rintro e w2 ⟨rfl, hb2⟩
    go_wp2
    go_ret
    exact ⟨rfl, hb2⟩
  by_cases hb3 : 3000 < m
  · have HW := Lib.hid (works_any w hg)
    clear hg
    go_enter Tryd.func11, Tryd.ntmps11
    go_wp2_with fail
    refine HW.out.mono ?_
    rintro e w2 ⟨rfl, hb2⟩
    go_wp2
    go_ret
    exact ⟨rfl, hb2⟩
  have bn' : n ≤ 3000 := by omega
  have bm' : m ≤ 3000 := by omega
  clear bn bm hg
  go_enter Tryd.func11, Tryd.ntmps11
  go_wp2_with (first
    | (at_builtin; refine wpList_bytes rfl (.tmp 26) (.tmp 27) rfl w.heap.size _ [] rfl (own_empty w 5 w.heap.size (Nat.le_refl _)) A n c l HN.out rfl (HR.out.below (below_new w _)) HA.out hnc (by simp; omega) (by simp) ?_; intro v5 w5 ho5 hb5 hs5; have HB5 := Lib.hid ((below_new w (.cells #[] 5)).trans hb5); have hs5' := HB5.out.size; have HO5 := Lib.hid ho5; clear ho5 hb5 hs5)
    | (at_builtin; refine wpList_bytes rfl (.tmp 28) (.tmp 29) rfl w.heap.size v5 _ rfl HO5.out B m d lb HMM.out rfl (HRB.out.below HB5.out) HBN.out hmd (by rw [List.nil_append, HN.out]; omega) (by omega) ?_; intro v7 w7 ho7 hb7 hs7; rw [List.nil_append] at ho7; have HO7 := Lib.hid ho7; have HB7 := Lib.hid (HB5.out.trans hb7); clear ho7 hb7 hs7))
  clear hb hb3
  have HLM : Hid ((l ++ lb).length = n + m) := Lib.hid (by rw [List.length_append, HN.out, HMM.out])
  obtain ⟨A7, c7, rfl, hcm, hn7, hr7, hA7⟩ := HO7.out.form (n := n + m) HLM.out
  have HR7 := Lib.hid hr7
  have HA7 : Hid (∀ ad, A7 = some ad → ad.block < w7.heap.size) := Lib.hid (fun ad e => (hA7 ad e).2)
  clear hr7 hA7 HO7 HO5 HB5
  refine (parse_any A n c l w7 HN.out hnc HA.out (HR.out.below HB7.out) (fun ad e => Nat.lt_of_lt_of_le (HAB.out ad e) HB7.out.size) (by omega)).mono ?_
  rintro e w8 ⟨v8, rfl, ho8, hb8⟩
  obtain ⟨R, hR⟩ : ∃ R, parseR l = R := ⟨_, rfl⟩
  rw [hR] at ho8 ⊢
  have HPR := Lib.hid hR
  obtain ⟨e1, ls, p⟩ := R
  have HB8 := Lib.hid (HB7.out.trans (hb8.mono HB7.out.size))
  have HM8 := Lib.hid (HR7.out.below hb8)
  have HA8 : Hid (∀ ad, A7 = some ad → ad.block < w8.heap.size) := Lib.hid (fun ad e => Nat.lt_of_lt_of_le (HA7.out ad e) hb8.size)
  have HO8 := Lib.hid ho8
  clear hR ho8 hb8 HR7 HA7
  have HP2 := Lib.hid (parse_any A7 (n + m) c7 (l ++ lb) w8 HLM.out hcm hn7 HM8.out HA8.out (by omega))
  go_wp2_with fail
  refine HP2.out.mono ?_
  rintro e w9 ⟨v9, rfl, ho9, hb9⟩
  have HMO : Hid (e1 ≠ 130 → parseR (l ++ lb) = (e1, ls, p)) := Lib.hid (fun h => by have h2 := parseR_mono (l := l) lb (by rw [HPR.out]; exact h); rw [h2, HPR.out])
  have HON : Hid (e1 ≠ 0 → (e1 = 130 ∨ e1 = 131) ∧ p = 0) := Lib.hid (fun h => by
    have h2 := parse_only (l := l) (by rw [HPR.out]; exact h)
    rw [HPR.out] at h2
    exact ⟨h2.1, congrArg Prod.snd h2.2⟩)
  have HB9 := Lib.hid (HB8.out.trans (hb9.mono HB8.out.size))
  have HM9 := Lib.hid (HM8.out.below hb9)
  have HA9 : Hid (∀ ad, A7 = some ad → ad.block < w9.heap.size) := Lib.hid (fun ad e => Nat.lt_of_lt_of_le (HA8.out ad e) hb9.size)
  have HO89 : Hid (w9.ownsRow w7.heap.size 9 1 v8 ls.length (cellsS ls)) := Lib.hid (own_below HO8.out hb9)
  have HO9 := Lib.hid ho9
  clear ho9 hb9 HP2 HO8 HM8 HA8 HB8
  by_cases he0 : e1 = 0
  · subst he0
    have h2 := HMO.out (by decide)
    rw [h2] at HO9 ⊢
    obtain ⟨q1, q2, q3, q4⟩ := parse_laid HPR.out
    have HQE := Lib.hid q1
    have HQL := Lib.hid q4
    have hp1 : 1 ≤ p := q2
    have hpn : p ≤ n := by have := HN.out; omega
    have HLK : Hid ((l.take p).length = p) := Lib.hid (by rw [List.length_take, HN.out]; omega)
    obtain ⟨k, hk⟩ : ∃ k, ls.length = k := ⟨_, rfl⟩
    have h89 := HO89.out
    have h99 : w9.ownsRow w8.heap.size 9 1 v9 ls.length (cellsS ls) := HO9.out
    rw [hk] at h89 h99
    obtain ⟨S8, d8, rfl, hsd8, hsn8, hsr8, _⟩ := ownS_form h89
    obtain ⟨S9, d9, rfl, hsd9, hsn9, hsr9, _⟩ := ownS_form h99
    have hkm := own_max h89
    have HKK := Lib.hid hk
    have HS8 := Lib.hid hsr8
    have HS9 := Lib.hid hsr9
    have HSZ : Hid (szS ls ≤ 10000000) := Lib.hid (by have h1 := szS_req ls.length ls; rw [HQL.out, HLK.out] at h1; omega)
    clear q1 q2 q3 q4 h89 h99 hsr8 hsr9 HO89 HO9 HMO HON h2
    have HRQ := Lib.hid (request_any S8 k d8 ls w9 HKK.out HS8.out HSZ.out (tab_below HG.out HB9.out))
    have HN1 := Lib.hid (num_any2 0 w9)
    go_wp2_with fail
    refine HN1.out.mono ?_
    rintro e w' ⟨rfl, rfl⟩
    go_wp2_with fail
    refine HRQ.out.mono ?_
    rintro e w10 ⟨v10, rfl, ho10, hb10⟩
    rw [if_pos HQE.out, HQL.out] at ho10
    rw [HQE.out]
    obtain ⟨A10, c10, rfl, hc10, hn10, hr10, _⟩ := ho10.form (n := p) HLK.out
    have HR10 := Lib.hid hr10
    have HC10 := Lib.hid hc10
    have HN10 := Lib.hid hn10
    have HB10 := Lib.hid (HB9.out.trans (hb10.mono HB9.out.size))
    have HM10 := Lib.hid (HM9.out.below hb10)
    have HA10 : Hid (∀ ad, A7 = some ad → ad.block < w10.heap.size) := Lib.hid (fun ad e => Nat.lt_of_lt_of_le (HA9.out ad e) hb10.size)
    have HS10 := Lib.hid (HS8.out.below hb10)
    have HS11 := Lib.hid (HS9.out.below hb10)
    clear ho10 hb10 hc10 hn10 hr10 HRQ HN1 HM9 HA9 HB9 HS8 HS9
    have hcv1 : ∀ x : InW (Grown w10), (convert 25 9 (.slice A10 p c10)).run Tryd.prog x.w = .ok (.string (ofL (l.take p))) x.w := fun x => conv_n HLK.out HN10.out HC10.out (HR10.out.below x.h)
    have hcv2 : ∀ x : InW (Grown w10), (convert 25 9 (.slice A p c)).run Tryd.prog x.w = .ok (.string (ofL (l.take p))) x.w := fun x => conv_n HLK.out HA.out (by omega) (((HR.out.below HB10.out).below x.h).take p)
    have hct := cut_run A n c p (by omega)
    have H1 : Hid (∀ x : InW (Grown w10), Calls Tryd.prog 16 #[.int .i64 0] x.w (RetIn (Grown w10) (.int .i64 0))) := Lib.hid fun x => ret_same (num_any2 0 x.w)
    have H2 : Hid (∀ x : InW (Grown w10), Calls Tryd.prog 17 #[.slice S9 k d9, .slice S8 k d8] x.w (RetIn (Grown w10) (.bool true))) := Lib.hid fun x => ret_drew (by have h := one_any S9 S8 k k d9 d8 ls ls x.w HKK.out HKK.out hkm hkm (HS11.out.below x.h) (HS10.out.below x.h); rw [eqS_refl] at h; exact h)
    have HIN : Nonempty (InW (Grown w10)) := ⟨⟨w10, Below.refl _ _⟩⟩
    have hS1 : ((ofL (l.take p)).toList == (ofL (l.take p)).toList) = true := by simp
    have hS2 : ((ofL (l.take p)).toList != (ofL (l.take p)).toList) = false := by simp
    have d1 : decide ((p : Int) < 1) = false := decide_eq_false (by omega)
    have d2 : decide ((n : Int) < (p : Int)) = false := decide_eq_false (by omega)
    have d3 : decide (n < p) = false := decide_eq_false (by omega)
    have d4 : decide (p < 1) = false := decide_eq_false (by omega)
    go_wp2_with fail
    refine region_in (Grown w10) (by kernel_rfl) (by kernel_rfl) (Below.refl _ _).drew ?_
    repeat (go_big_quiet_step ((rename_i x; with_reducible (first | exact H1.out x | exact H2.out x))))
    refine wpQuiet_nil ?_
    rintro _ ⟨x, rfl⟩
    have HBP := Lib.hid (HB10.out.trans (x.h.mono HB10.out.size))
    have HMP := Lib.hid (HM10.out.below x.h)
    have HAP : Hid (∀ ad, A7 = some ad → ad.block < x.w.heap.size) := Lib.hid (fun ad e => Nat.lt_of_lt_of_le (HA10.out ad e) x.h.size)
    clear HIN H1 H2 hcv1 hcv2 hct hS1 hS2 d1 d2 d3 d4 HM10 HA10 HB10 HS10 HS11 HR10 HC10 HN10
    generalize x.w = wp at *
    clear x
    have HA7 := HAP
    -- the reply
    have HDA := Lib.hid (decode_any A n c l wp HN.out hnc HA.out (HR.out.below HBP.out) (fun ad e => Nat.lt_of_lt_of_le (HAB.out ad e) HBP.out.size) (by omega))
    go_wp2_with fail
    refine HDA.out.mono ?_
    rintro e q1 ⟨A14, c14, rfl, hk14, hb14⟩
    obtain ⟨D, hD⟩ : ∃ D, decR l = D := ⟨_, rfl⟩
    rw [hD] at hk14 ⊢
    have HDD := Lib.hid hD
    have hb15 := below_new q1 (.cells (rpV D.r A14 c14) 41)
    have HK15 := Lib.hid (hk14.old.below hb15)
    have HX15 := Lib.hid (heap_alloc_new q1 (.cells (rpV D.r A14 c14) 41))
    have HB15 := Lib.hid (HBP.out.trans ((hb14.trans (hb15.mono hb14.size)).mono HBP.out.size))
    have HM15 := Lib.hid (HMP.out.below (hb14.trans (hb15.mono hb14.size)))
    have HSZ15 : Hid (wp.heap.size ≤ (q1.alloc (.cells (rpV D.r A14 c14) 41)).heap.size) := Lib.hid (Nat.le_trans hb14.size hb15.size)
    clear hD HDA hk14 hb14 hb15
    have HDB := Lib.hid (decode_any A7 (n + m) c7 (l ++ lb) (q1.alloc (.cells (rpV D.r A14 c14) 41)) HLM.out hcm hn7 HM15.out (fun ad e => Nat.lt_of_lt_of_le (HA7.out ad e) HSZ15.out) (by omega))
    go_wp2_with fail
    generalize (q1.alloc (.cells (rpV D.r A14 c14) 41)) = q2 at *
    generalize q1.heap.size = X at *
    refine HDB.out.mono ?_
    rintro e q3 ⟨A16, c16, rfl, hk16, hb16⟩
    have HMON := Lib.hid (decR_mono (l := l) lb)
    rw [HDD.out] at HMON
    have HX16 := Lib.hid ((hb16.block _ (lt_of_block HX15.out)).trans HX15.out)
    have hx0 := lt_of_block HX15.out
    have HK16 : Hid (RpK (fun _ => True) q3 D.r A14 c14) := Lib.hid ((HK15.out.imp (Q := fun b => b < q2.heap.size) (Nat.le_refl _) (fun b hb _ => ⟨rfl, by omega⟩)).below hb16 |>.imp (Nat.le_refl _) (fun _ _ _ => ⟨rfl, trivial⟩))
    have HB16 := Lib.hid (HB15.out.trans (hb16.mono HB15.out.size))
    clear HDB hk16 hb16 HK15 HX15 HB15 HM15 HSZ15 hx0
    have HT16 := Lib.hid (tab_below HG.out HB16.out)
    have HW16 := Lib.hid (works_any q3 HT16.out)
    generalize decR (l ++ lb) = D2 at *
    by_cases he0 : D.e = 0
    · have hd2 := HMON.out.2 he0
      subst hd2
      have hl := decode_laid (l := l) (by rw [HDD.out]; exact he0)
      rw [HDD.out] at hl
      have HLD := Lib.hid hl
      have HE0 := Lib.hid he0
      have x0 : q3.cell? ⟨X, 0, none⟩ = some (.int .i64 D2.r.kind) := by simp only [World.cell?, HX16.out]; rfl
      have x1 : q3.cell? ⟨X, 1, none⟩ = some (.int .i64 D2.r.num) := by simp only [World.cell?, HX16.out]; rfl
      have x2 : q3.cell? ⟨X, 2, none⟩ = some (.string D2.r.text) := by simp only [World.cell?, HX16.out]; rfl
      have x3 : q3.cell? ⟨X, 3, none⟩ = some (.slice A14 D2.r.kids.length c14) := by simp only [World.cell?, HX16.out]; rfl
      have HEN := Lib.hid (encode_any _ D2.r A14 c14 q3 HK16.out HT16.out)
      have HN1 := Lib.hid (num_any2 D2.e q3)
      rw [he0] at HN1 ⊢
      clear hl he0
      go_wp2_with fail
      refine HN1.out.mono ?_
      rintro e w' ⟨rfl, rfl⟩
      go_wp2_with fail
      refine HEN.out.mono ?_
      rintro e q4 ⟨v, rfl, ho, hb⟩
      rw [if_pos HLD.out.1, HLD.out.2.2.2] at ho
      rw [HLD.out.1]
      obtain ⟨k, hk⟩ : ∃ k, D2.a = k := ⟨_, rfl⟩
      rw [hk] at ho HLD ⊢
      have hk1 : 1 ≤ k := HLD.out.2.1
      have hkn : k ≤ n := by have := HLD.out.2.2.1; have := HN.out; omega
      have HLK : Hid ((l.take k).length = k) := Lib.hid (by rw [List.length_take, HN.out]; omega)
      obtain ⟨A17, c17, rfl, hc17, hn17, hr17, _⟩ := ho.form (n := k) HLK.out
      have HR17 := Lib.hid hr17
      have HC17 := Lib.hid hc17
      have HN17 := Lib.hid hn17
      have HB17 := Lib.hid (HB16.out.trans (hb.mono HB16.out.size))
      clear ho hb hc17 hn17 hr17 HEN HN1 x0 x1 x2 x3 HX16 HK16 HW16 HLD
      have hcv1 : ∀ x : InW (Grown q4), (convert 25 9 (.slice A17 k c17)).run Tryd.prog x.w = .ok (.string (ofL (l.take k))) x.w := fun x => conv_n HLK.out HN17.out HC17.out (HR17.out.below x.h)
      have hcv2 : ∀ x : InW (Grown q4), (convert 25 9 (.slice A k c)).run Tryd.prog x.w = .ok (.string (ofL (l.take k))) x.w := fun x => conv_n HLK.out HA.out (by omega) (((HR.out.below HB17.out).below x.h).take k)
      have hct := cut_run A n c k (by omega)
      have H1 : Hid (∀ x : InW (Grown q4), Calls Tryd.prog 16 #[.int .i64 0] x.w (RetIn (Grown q4) (.int .i64 0))) := Lib.hid fun x => ret_same (num_any2 0 x.w)
      have H4 : Hid (∀ x : InW (Grown q4), Calls Tryd.prog 13 #[] x.w (RetIn (Grown q4) (.bool true))) := Lib.hid fun x => ret_below (works_any x.w (tab_below HG.out (HB17.out.trans (x.h.mono HB17.out.size))))
      have HIN : Nonempty (InW (Grown q4)) := ⟨⟨q4, Below.refl _ _⟩⟩
      have hS : ((ofL (l.take k)).toList == (ofL (l.take k)).toList) = true := by simp
      have d1 : decide ((1 : Int) ≤ (k : Int)) = true := decide_eq_true (by omega)
      have d2 : decide ((k : Int) ≤ (n : Int)) = true := decide_eq_true (by omega)
      have d3 : decide (k ≤ n) = true := decide_eq_true hkn
      have d4 : decide (1 ≤ k) = true := decide_eq_true hk1
      go_wp2_with fail
      refine region_in (Grown q4) (by kernel_rfl) (by kernel_rfl) (Below.refl _ _).drew ?_
      repeat (go_big_quiet_step ((rename_i x; with_reducible (first | exact H1.out x | exact H4.out x))))
      refine wpQuiet_nil ?_
      rintro _ ⟨x, rfl⟩
      have HBX := Lib.hid (HB17.out.trans (x.h.mono HB17.out.size))
      clear HIN H1 H4 hcv1 hcv2 hct
      go_wp2
      go_ret
      exact ⟨rfl, HBX.out⟩
    · obtain ⟨ho1, ho2⟩ := decode_only (l := l) (by rw [HDD.out]; exact he0)
      rw [HDD.out] at ho1 ho2
      rw [ho2]
      rcases ho1 with h130 | h131
      · rw [h130]
        have HN1 := Lib.hid (num_any2 130 q3)
        clear HMON he0 ho2 h130
        go_wp2_with fail
        refine HN1.out.mono ?_
        rintro e w' ⟨rfl, rfl⟩
        go_wp2_with fail
        refine HN1.out.mono ?_
        rintro e w' ⟨rfl, rfl⟩
        go_wp2_with fail
        refine HW16.out.mono ?_
        rintro e q5 ⟨rfl, hb5⟩
        go_wp2
        go_ret
        exact ⟨rfl, HB16.out.trans (hb5.mono HB16.out.size)⟩
      · have h2 := HMON.out.1 (by rw [h131]; decide)
        rw [h131] at h2 ⊢
        rw [h2]
        have HN1 := Lib.hid (num_any2 131 q3)
        clear HMON he0 ho2 h131 h2
        go_wp2_with fail
        refine HN1.out.mono ?_
        rintro e w' ⟨rfl, rfl⟩
        go_wp2_with fail
        refine HN1.out.mono ?_
        rintro e w' ⟨rfl, rfl⟩
        go_wp2_with fail
        refine HW16.out.mono ?_
        rintro e q5 ⟨rfl, hb5⟩
        go_wp2
        go_ret
        exact ⟨rfl, HB16.out.trans (hb5.mono HB16.out.size)⟩
  · obtain ⟨ho, rfl⟩ := HON.out he0
    rcases ho with rfl | rfl
    · have HN1 := Lib.hid (num_any2 130 w9)
      have HN2 := Lib.hid (num_any2 (parseR (l ++ lb)).1 w9)
      generalize parseR (l ++ lb) = R2 at *
      clear HMO HON he0 HO9 HO89
      go_wp2_with fail
      refine HN1.out.mono ?_
      rintro e w' ⟨rfl, rfl⟩
      go_wp2_with fail
      refine HN1.out.mono ?_
      rintro e w' ⟨rfl, rfl⟩
      clear HN1 HN2
      have HBP := HB9
      have HMP := HM9
      have HA7 := HA9
      clear HB9 HM9 HA9
      generalize w9 = wp at *
      -- the reply
      have HDA := Lib.hid (decode_any A n c l wp HN.out hnc HA.out (HR.out.below HBP.out) (fun ad e => Nat.lt_of_lt_of_le (HAB.out ad e) HBP.out.size) (by omega))
      go_wp2_with fail
      refine HDA.out.mono ?_
      rintro e q1 ⟨A14, c14, rfl, hk14, hb14⟩
      obtain ⟨D, hD⟩ : ∃ D, decR l = D := ⟨_, rfl⟩
      rw [hD] at hk14 ⊢
      have HDD := Lib.hid hD
      have hb15 := below_new q1 (.cells (rpV D.r A14 c14) 41)
      have HK15 := Lib.hid (hk14.old.below hb15)
      have HX15 := Lib.hid (heap_alloc_new q1 (.cells (rpV D.r A14 c14) 41))
      have HB15 := Lib.hid (HBP.out.trans ((hb14.trans (hb15.mono hb14.size)).mono HBP.out.size))
      have HM15 := Lib.hid (HMP.out.below (hb14.trans (hb15.mono hb14.size)))
      have HSZ15 : Hid (wp.heap.size ≤ (q1.alloc (.cells (rpV D.r A14 c14) 41)).heap.size) := Lib.hid (Nat.le_trans hb14.size hb15.size)
      clear hD HDA hk14 hb14 hb15
      have HDB := Lib.hid (decode_any A7 (n + m) c7 (l ++ lb) (q1.alloc (.cells (rpV D.r A14 c14) 41)) HLM.out hcm hn7 HM15.out (fun ad e => Nat.lt_of_lt_of_le (HA7.out ad e) HSZ15.out) (by omega))
      go_wp2_with fail
      generalize (q1.alloc (.cells (rpV D.r A14 c14) 41)) = q2 at *
      generalize q1.heap.size = X at *
      refine HDB.out.mono ?_
      rintro e q3 ⟨A16, c16, rfl, hk16, hb16⟩
      have HMON := Lib.hid (decR_mono (l := l) lb)
      rw [HDD.out] at HMON
      have HX16 := Lib.hid ((hb16.block _ (lt_of_block HX15.out)).trans HX15.out)
      have hx0 := lt_of_block HX15.out
      have HK16 : Hid (RpK (fun _ => True) q3 D.r A14 c14) := Lib.hid ((HK15.out.imp (Q := fun b => b < q2.heap.size) (Nat.le_refl _) (fun b hb _ => ⟨rfl, by omega⟩)).below hb16 |>.imp (Nat.le_refl _) (fun _ _ _ => ⟨rfl, trivial⟩))
      have HB16 := Lib.hid (HB15.out.trans (hb16.mono HB15.out.size))
      clear HDB hk16 hb16 HK15 HX15 HB15 HM15 HSZ15 hx0
      have HT16 := Lib.hid (tab_below HG.out HB16.out)
      have HW16 := Lib.hid (works_any q3 HT16.out)
      generalize decR (l ++ lb) = D2 at *
      by_cases he0 : D.e = 0
      · have hd2 := HMON.out.2 he0
        subst hd2
        have hl := decode_laid (l := l) (by rw [HDD.out]; exact he0)
        rw [HDD.out] at hl
        have HLD := Lib.hid hl
        have HE0 := Lib.hid he0
        have x0 : q3.cell? ⟨X, 0, none⟩ = some (.int .i64 D2.r.kind) := by simp only [World.cell?, HX16.out]; rfl
        have x1 : q3.cell? ⟨X, 1, none⟩ = some (.int .i64 D2.r.num) := by simp only [World.cell?, HX16.out]; rfl
        have x2 : q3.cell? ⟨X, 2, none⟩ = some (.string D2.r.text) := by simp only [World.cell?, HX16.out]; rfl
        have x3 : q3.cell? ⟨X, 3, none⟩ = some (.slice A14 D2.r.kids.length c14) := by simp only [World.cell?, HX16.out]; rfl
        have HEN := Lib.hid (encode_any _ D2.r A14 c14 q3 HK16.out HT16.out)
        have HN1 := Lib.hid (num_any2 D2.e q3)
        rw [he0] at HN1 ⊢
        clear hl he0
        go_wp2_with fail
        refine HN1.out.mono ?_
        rintro e w' ⟨rfl, rfl⟩
        go_wp2_with fail
        refine HEN.out.mono ?_
        rintro e q4 ⟨v, rfl, ho, hb⟩
        rw [if_pos HLD.out.1, HLD.out.2.2.2] at ho
        rw [HLD.out.1]
        obtain ⟨k, hk⟩ : ∃ k, D2.a = k := ⟨_, rfl⟩
        rw [hk] at ho HLD ⊢
        have hk1 : 1 ≤ k := HLD.out.2.1
        have hkn : k ≤ n := by have := HLD.out.2.2.1; have := HN.out; omega
        have HLK : Hid ((l.take k).length = k) := Lib.hid (by rw [List.length_take, HN.out]; omega)
        obtain ⟨A17, c17, rfl, hc17, hn17, hr17, _⟩ := ho.form (n := k) HLK.out
        have HR17 := Lib.hid hr17
        have HC17 := Lib.hid hc17
        have HN17 := Lib.hid hn17
        have HB17 := Lib.hid (HB16.out.trans (hb.mono HB16.out.size))
        clear ho hb hc17 hn17 hr17 HEN HN1 x0 x1 x2 x3 HX16 HK16 HW16 HLD
        have hcv1 : ∀ x : InW (Grown q4), (convert 25 9 (.slice A17 k c17)).run Tryd.prog x.w = .ok (.string (ofL (l.take k))) x.w := fun x => conv_n HLK.out HN17.out HC17.out (HR17.out.below x.h)
        have hcv2 : ∀ x : InW (Grown q4), (convert 25 9 (.slice A k c)).run Tryd.prog x.w = .ok (.string (ofL (l.take k))) x.w := fun x => conv_n HLK.out HA.out (by omega) (((HR.out.below HB17.out).below x.h).take k)
        have hct := cut_run A n c k (by omega)
        have H1 : Hid (∀ x : InW (Grown q4), Calls Tryd.prog 16 #[.int .i64 0] x.w (RetIn (Grown q4) (.int .i64 0))) := Lib.hid fun x => ret_same (num_any2 0 x.w)
        have H4 : Hid (∀ x : InW (Grown q4), Calls Tryd.prog 13 #[] x.w (RetIn (Grown q4) (.bool true))) := Lib.hid fun x => ret_below (works_any x.w (tab_below HG.out (HB17.out.trans (x.h.mono HB17.out.size))))
        have HIN : Nonempty (InW (Grown q4)) := ⟨⟨q4, Below.refl _ _⟩⟩
        have hS : ((ofL (l.take k)).toList == (ofL (l.take k)).toList) = true := by simp
        have d1 : decide ((1 : Int) ≤ (k : Int)) = true := decide_eq_true (by omega)
        have d2 : decide ((k : Int) ≤ (n : Int)) = true := decide_eq_true (by omega)
        have d3 : decide (k ≤ n) = true := decide_eq_true hkn
        have d4 : decide (1 ≤ k) = true := decide_eq_true hk1
        go_wp2_with fail
        refine region_in (Grown q4) (by kernel_rfl) (by kernel_rfl) (Below.refl _ _).drew ?_
        repeat (go_big_quiet_step ((rename_i x; with_reducible (first | exact H1.out x | exact H4.out x))))
        refine wpQuiet_nil ?_
        rintro _ ⟨x, rfl⟩
        have HBX := Lib.hid (HB17.out.trans (x.h.mono HB17.out.size))
        clear HIN H1 H4 hcv1 hcv2 hct
        go_wp2
        go_ret
        exact ⟨rfl, HBX.out⟩
      · obtain ⟨ho1, ho2⟩ := decode_only (l := l) (by rw [HDD.out]; exact he0)
        rw [HDD.out] at ho1 ho2
        rw [ho2]
        rcases ho1 with h130 | h131
        · rw [h130]
          have HN1 := Lib.hid (num_any2 130 q3)
          clear HMON he0 ho2 h130
          go_wp2_with fail
          refine HN1.out.mono ?_
          rintro e w' ⟨rfl, rfl⟩
          go_wp2_with fail
          refine HN1.out.mono ?_
          rintro e w' ⟨rfl, rfl⟩
          go_wp2_with fail
          refine HW16.out.mono ?_
          rintro e q5 ⟨rfl, hb5⟩
          go_wp2
          go_ret
          exact ⟨rfl, HB16.out.trans (hb5.mono HB16.out.size)⟩
        · have h2 := HMON.out.1 (by rw [h131]; decide)
          rw [h131] at h2 ⊢
          rw [h2]
          have HN1 := Lib.hid (num_any2 131 q3)
          clear HMON he0 ho2 h131 h2
          go_wp2_with fail
          refine HN1.out.mono ?_
          rintro e w' ⟨rfl, rfl⟩
          go_wp2_with fail
          refine HN1.out.mono ?_
          rintro e w' ⟨rfl, rfl⟩
          go_wp2_with fail
          refine HW16.out.mono ?_
          rintro e q5 ⟨rfl, hb5⟩
          go_wp2
          go_ret
          exact ⟨rfl, HB16.out.trans (hb5.mono HB16.out.size)⟩
    · have h2 := HMO.out (by decide)
      rw [h2] at HO9 ⊢
      have HN1 := Lib.hid (num_any2 131 w9)
      clear HMO HON he0 HO9 HO89 h2
      go_wp2_with fail
      refine HN1.out.mono ?_
      rintro e w' ⟨rfl, rfl⟩
      go_wp2_with fail
      refine HN1.out.mono ?_
      rintro e w' ⟨rfl, rfl⟩
      clear HN1
      have HBP := HB9
      have HMP := HM9
      have HA7 := HA9
      clear HB9 HM9 HA9
      generalize w9 = wp at *
      -- the reply
      have HDA := Lib.hid (decode_any A n c l wp HN.out hnc HA.out (HR.out.below HBP.out) (fun ad e => Nat.lt_of_lt_of_le (HAB.out ad e) HBP.out.size) (by omega))
      go_wp2_with fail
      refine HDA.out.mono ?_
      rintro e q1 ⟨A14, c14, rfl, hk14, hb14⟩
      obtain ⟨D, hD⟩ : ∃ D, decR l = D := ⟨_, rfl⟩
      rw [hD] at hk14 ⊢
      have HDD := Lib.hid hD
      have hb15 := below_new q1 (.cells (rpV D.r A14 c14) 41)
      have HK15 := Lib.hid (hk14.old.below hb15)
      have HX15 := Lib.hid (heap_alloc_new q1 (.cells (rpV D.r A14 c14) 41))
      have HB15 := Lib.hid (HBP.out.trans ((hb14.trans (hb15.mono hb14.size)).mono HBP.out.size))
      have HM15 := Lib.hid (HMP.out.below (hb14.trans (hb15.mono hb14.size)))
      have HSZ15 : Hid (wp.heap.size ≤ (q1.alloc (.cells (rpV D.r A14 c14) 41)).heap.size) := Lib.hid (Nat.le_trans hb14.size hb15.size)
      clear hD HDA hk14 hb14 hb15
      have HDB := Lib.hid (decode_any A7 (n + m) c7 (l ++ lb) (q1.alloc (.cells (rpV D.r A14 c14) 41)) HLM.out hcm hn7 HM15.out (fun ad e => Nat.lt_of_lt_of_le (HA7.out ad e) HSZ15.out) (by omega))
      go_wp2_with fail
      generalize (q1.alloc (.cells (rpV D.r A14 c14) 41)) = q2 at *
      generalize q1.heap.size = X at *
      refine HDB.out.mono ?_
      rintro e q3 ⟨A16, c16, rfl, hk16, hb16⟩
      have HMON := Lib.hid (decR_mono (l := l) lb)
      rw [HDD.out] at HMON
      have HX16 := Lib.hid ((hb16.block _ (lt_of_block HX15.out)).trans HX15.out)
      have hx0 := lt_of_block HX15.out
      have HK16 : Hid (RpK (fun _ => True) q3 D.r A14 c14) := Lib.hid ((HK15.out.imp (Q := fun b => b < q2.heap.size) (Nat.le_refl _) (fun b hb _ => ⟨rfl, by omega⟩)).below hb16 |>.imp (Nat.le_refl _) (fun _ _ _ => ⟨rfl, trivial⟩))
      have HB16 := Lib.hid (HB15.out.trans (hb16.mono HB15.out.size))
      clear HDB hk16 hb16 HK15 HX15 HB15 HM15 HSZ15 hx0
      have HT16 := Lib.hid (tab_below HG.out HB16.out)
      have HW16 := Lib.hid (works_any q3 HT16.out)
      generalize decR (l ++ lb) = D2 at *
      by_cases he0 : D.e = 0
      · have hd2 := HMON.out.2 he0
        subst hd2
        have hl := decode_laid (l := l) (by rw [HDD.out]; exact he0)
        rw [HDD.out] at hl
        have HLD := Lib.hid hl
        have HE0 := Lib.hid he0
        have x0 : q3.cell? ⟨X, 0, none⟩ = some (.int .i64 D2.r.kind) := by simp only [World.cell?, HX16.out]; rfl
        have x1 : q3.cell? ⟨X, 1, none⟩ = some (.int .i64 D2.r.num) := by simp only [World.cell?, HX16.out]; rfl
        have x2 : q3.cell? ⟨X, 2, none⟩ = some (.string D2.r.text) := by simp only [World.cell?, HX16.out]; rfl
        have x3 : q3.cell? ⟨X, 3, none⟩ = some (.slice A14 D2.r.kids.length c14) := by simp only [World.cell?, HX16.out]; rfl
        have HEN := Lib.hid (encode_any _ D2.r A14 c14 q3 HK16.out HT16.out)
        have HN1 := Lib.hid (num_any2 D2.e q3)
        rw [he0] at HN1 ⊢
        clear hl he0
        go_wp2_with fail
        refine HN1.out.mono ?_
        rintro e w' ⟨rfl, rfl⟩
        go_wp2_with fail
        refine HEN.out.mono ?_
        rintro e q4 ⟨v, rfl, ho, hb⟩
        rw [if_pos HLD.out.1, HLD.out.2.2.2] at ho
        rw [HLD.out.1]
        obtain ⟨k, hk⟩ : ∃ k, D2.a = k := ⟨_, rfl⟩
        rw [hk] at ho HLD ⊢
        have hk1 : 1 ≤ k := HLD.out.2.1
        have hkn : k ≤ n := by have := HLD.out.2.2.1; have := HN.out; omega
        have HLK : Hid ((l.take k).length = k) := Lib.hid (by rw [List.length_take, HN.out]; omega)
        obtain ⟨A17, c17, rfl, hc17, hn17, hr17, _⟩ := ho.form (n := k) HLK.out
        have HR17 := Lib.hid hr17
        have HC17 := Lib.hid hc17
        have HN17 := Lib.hid hn17
        have HB17 := Lib.hid (HB16.out.trans (hb.mono HB16.out.size))
        clear ho hb hc17 hn17 hr17 HEN HN1 x0 x1 x2 x3 HX16 HK16 HW16 HLD
        have hcv1 : ∀ x : InW (Grown q4), (convert 25 9 (.slice A17 k c17)).run Tryd.prog x.w = .ok (.string (ofL (l.take k))) x.w := fun x => conv_n HLK.out HN17.out HC17.out (HR17.out.below x.h)
        have hcv2 : ∀ x : InW (Grown q4), (convert 25 9 (.slice A k c)).run Tryd.prog x.w = .ok (.string (ofL (l.take k))) x.w := fun x => conv_n HLK.out HA.out (by omega) (((HR.out.below HB17.out).below x.h).take k)
        have hct := cut_run A n c k (by omega)
        have H1 : Hid (∀ x : InW (Grown q4), Calls Tryd.prog 16 #[.int .i64 0] x.w (RetIn (Grown q4) (.int .i64 0))) := Lib.hid fun x => ret_same (num_any2 0 x.w)
        have H4 : Hid (∀ x : InW (Grown q4), Calls Tryd.prog 13 #[] x.w (RetIn (Grown q4) (.bool true))) := Lib.hid fun x => ret_below (works_any x.w (tab_below HG.out (HB17.out.trans (x.h.mono HB17.out.size))))
        have HIN : Nonempty (InW (Grown q4)) := ⟨⟨q4, Below.refl _ _⟩⟩
        have hS : ((ofL (l.take k)).toList == (ofL (l.take k)).toList) = true := by simp
        have d1 : decide ((1 : Int) ≤ (k : Int)) = true := decide_eq_true (by omega)
        have d2 : decide ((k : Int) ≤ (n : Int)) = true := decide_eq_true (by omega)
        have d3 : decide (k ≤ n) = true := decide_eq_true hkn
        have d4 : decide (1 ≤ k) = true := decide_eq_true hk1
        go_wp2_with fail
        refine region_in (Grown q4) (by kernel_rfl) (by kernel_rfl) (Below.refl _ _).drew ?_
        repeat (go_big_quiet_step ((rename_i x; with_reducible (first | exact H1.out x | exact H4.out x))))
        refine wpQuiet_nil ?_
        rintro _ ⟨x, rfl⟩
        have HBX := Lib.hid (HB17.out.trans (x.h.mono HB17.out.size))
        clear HIN H1 H4 hcv1 hcv2 hct
        go_wp2
        go_ret
        exact ⟨rfl, HBX.out⟩
      · obtain ⟨ho1, ho2⟩ := decode_only (l := l) (by rw [HDD.out]; exact he0)
        rw [HDD.out] at ho1 ho2
        rw [ho2]
        rcases ho1 with h130 | h131
        · rw [h130]
          have HN1 := Lib.hid (num_any2 130 q3)
          clear HMON he0 ho2 h130
          go_wp2_with fail
          refine HN1.out.mono ?_
          rintro e w' ⟨rfl, rfl⟩
          go_wp2_with fail
          refine HN1.out.mono ?_
          rintro e w' ⟨rfl, rfl⟩
          go_wp2_with fail
          refine HW16.out.mono ?_
          rintro e q5 ⟨rfl, hb5⟩
          go_wp2
          go_ret
          exact ⟨rfl, HB16.out.trans (hb5.mono HB16.out.size)⟩
        · have h2 := HMON.out.1 (by rw [h131]; decide)
          rw [h131] at h2 ⊢
          rw [h2]
          have HN1 := Lib.hid (num_any2 131 q3)
          clear HMON he0 ho2 h131 h2
          go_wp2_with fail
          refine HN1.out.mono ?_
          rintro e w' ⟨rfl, rfl⟩
          go_wp2_with fail
          refine HN1.out.mono ?_
          rintro e w' ⟨rfl, rfl⟩
          go_wp2_with fail
          refine HW16.out.mono ?_
          rintro e q5 ⟨rfl, hb5⟩
          go_wp2
          go_ret
          exact ⟨rfl, HB16.out.trans (hb5.mono HB16.out.size)⟩


set_option maxRecDepth 20000 in
theorem contract (H : Type) (enc : TypeId × Value → H) (W : World) (base : Nat) (args : Array Value) (ds gs : List (DataW H)) (before : List MemPlace)
    (hval : ∀ (j : Nat) t v, Tryd.f11.params[j]? = some t → args[j]? = some v → Value.okWide Tryd.prog W .any base t v)
    (hW : DataW.Whole enc Tryd.prog Tryd.f11.params.toList Rows.respAgainSpec.vars false W args.toList ds gs before) 
    (hZ : (DataW.weightsEach Tryd.prog (Tryd.f11.params.toList ++ (OpenSpec.ofChange Rows.respAgainSpec).bare.plain.varTypes Tryd.prog) (ds ++ gs)).all (· ≤ reachBytes) = true) (hL : laidMetH Tryd.prog Rows.respAgainRow.laid W) :
    Calls Tryd.prog 11 args W fun e W' => ∃ v, e = .returned v ∧ Rows.respAgainSpec.post enc Tryd.prog Tryd.f11 false true false false W args v W' := by
  have hW' := hW
  obtain ⟨p, q, hA0, hV, rfl, hfz, hnd⟩ := hW
  have hA : DataW.TrodAll enc Tryd.prog W 0 (fun _ => true) true Tryd.f11.params.toList args.toList ds p := hA0
  rw [Tryd.params11] at hA hval hZ
  obtain ⟨v0, vs0, d0, ds0, p0, q0, hargs, rfl, rfl, h0, r0⟩ := trodAll_cons hA
  obtain ⟨v1, vs1, d1, ds1, p1, q1, rfl, rfl, rfl, h1, r1⟩ := trodAll_cons r0
  obtain ⟨rfl, rfl, rfl⟩ := trodAll_nil r1
  obtain rfl : args = #[v0, v1] := by cases args; simp_all
  obtain ⟨rfl, rfl⟩ := trodVars_none hV
  have k0 := h0
  have lt0 : ∀ x ∈ p0, x.block < W.heap.size := by obtain ⟨m, hm⟩ := k0; exact DataW.trod_lt m _ _ _ hm
  have hok0 := hval 0 25 v0 rfl rfl
  obtain ⟨ca0, na0, ea0, rfl⟩ := okWide_slice Tryd.underlying25 (hval 0 25 v0 rfl rfl)
  obtain ⟨fu0, hf0⟩ := h0
  obtain ⟨A0, n0, c0, l0, hv0, hn0, hnc0, hcm0, hO0, hr0⟩ := bytes_of hf0
  cases hv0
  simp only [maxLen] at hcm0
  have k1 := h1
  have lt1 : ∀ x ∈ p1, x.block < W.heap.size := by obtain ⟨m, hm⟩ := k1; exact DataW.trod_lt m _ _ _ hm
  have hok1 := hval 1 25 v1 rfl rfl
  obtain ⟨ca1, na1, ea1, rfl⟩ := okWide_slice Tryd.underlying25 (hval 1 25 v1 rfl rfl)
  obtain ⟨fu1, hf1⟩ := h1
  obtain ⟨A1, n1, c1, l1, hv1, hn1, hnc1, hcm1, hO1, hr1⟩ := bytes_of hf1
  cases hv1
  simp only [maxLen] at hcm1
  clear hA0
  refine (walk _ _ _ _ _ _ l0 l1 W hn0 hnc0 hO0 hr0 (fun ad e => by subst e; exact arg_lt hok0) hn1 hnc1 hO1 hr1 (by omega) (by omega) (laid_pow hL)).mono fun e W' ⟨he, bel⟩ => ?_
  subst he
  exact ⟨_, rfl, _, _, _, [], _, [], hW', trodAll_mk1 (shut_bool Tryd.underlying4 _), (trodAll_cons_mk (Below.trod laidOut (by kernel_rfl) (of_decide_eq_true (by kernel_rfl)) k0 bel lt0) (trodAll_cons_mk (Below.trod laidOut (by kernel_rfl) (of_decide_eq_true (by kernel_rfl)) k1 bel lt1) trodAll_mk0)), rfl, bel.frame _, fun h => by cases h⟩

theorem reads (os : Os) {H : Type} (enc : TypeId × Value → H) : ∃ places, DataW.whole enc Tryd.prog ((laidWorld os).forCall (fun _ _ => 0) ⟨#[], #[.slice none 0 0, .slice none 0 0], []⟩).memory Tryd.f11.params.toList Rows.respAgainSpec.vars false (#[.slice none 0 0, .slice none 0 0] : Array Value).toList 8 = some ([.nil, .nil], [], places) :=
  ⟨[], by kernel_rfl⟩

set_option maxRecDepth 100000 in
theorem lifted (os : Os) (started : os.Started) (H : Type) (enc : TypeId × Value → H) (F : Stop.Interp) :
    ReturnsInHanded {} Tryd.checked os 11 .any ((OpenSpec.ofChange Rows.respAgainSpec).preRow enc Tryd.prog Tryd.f11 Rows.respAgainRow.domain false Rows.respAgainRow.laid) (((OpenSpec.ofChange Rows.respAgainSpec).at F).post enc Tryd.prog Tryd.f11 false true false false) := by
  obtain ⟨places, hx⟩ := reads os enc
  refine returnsInHanded_of_row (C := Tryd.checked) (s := OpenSpec.ofChange Rows.respAgainSpec) own started (by kernel_rfl) Tryd.func11
    (witness_row_at (enc := enc) (C := Tryd.checked) false (laidWorld os) #[.slice none 0 0, .slice none 0 0] rfl (by kernel_rfl) (by kernel_rfl) (by kernel_rfl)
      (OpenSpec.preRow_of_cond 8 hx (by kernel_rfl) (fun k hk => by cases hk) (by kernel_rfl) (laid_met os _))) ?_
  intro W base args ds gs before hval hW _ _ hZ hL _ _
  exact contract H enc W base args ds gs before hval hW hZ hL

theorem said : Rows.RespAgainSaid :=
  OpenClaim.holds_of_cond 11 Tryd.f11 rfl rfl rfl rfl rfl rfl rfl ⟨rfl, rfl, rfl, rfl, rfl⟩ rfl rfl rfl rfl rfl (by kernel_rfl) Tryd.func11 (by kernel_rfl)
    (of_decide_eq_true (by kernel_rfl)) (by unfold Func.isWrapper; first | (rw [if_pos (by decide +kernel)]; kernel_rfl) | (rw [if_neg (by decide +kernel)]; exact ⟨rfl, rfl⟩))
    (fun os started H enc _ F => by rw [OpenClaim.pre_eq_preRow]; exact lifted os started H enc F)

theorem plain (f : FuncId) (fn : Func) (hf : Tryd.pinned.checked.prog.funcNamed "tabor/taborlaw04.RespAgain" = some f) (hfn : Tryd.pinned.checked.prog.funcs[f]? = some fn) :
    true = Tryd.pinned.checked.prog.looks [] ∧ ∀ (j : Nat) t, fn.params[j]? = some t → Tryd.pinned.checked.prog.wantsStandIn t = false := by
  obtain rfl : f = 11 := Option.some.inj ((show Tryd.prog.funcNamed "tabor/taborlaw04.RespAgain" = some 11 by kernel_rfl).symm.trans hf) |>.symm
  obtain rfl : fn = Tryd.f11 := (Option.some.inj (Tryd.func11.symm.trans hfn)).symm
  refine ⟨by kernel_rfl, fun j t ht => ?_⟩
  rw [Tryd.params11] at ht
  obtain rfl : t = 25 := by simpa using Array.mem_of_getElem? ht
  exact (show Tryd.prog.wantsStandIn 25 = false by kernel_rfl)

/-- The card. -/
theorem card : Rows.RespAgainCardSaid :=
  Claim7.holds_tied_plain_at .later [] _ _ _ _ said (fun _ h => by cases h) (by kernel_rfl) (fun _ h => by cases h) respAgain_row_tie rfl ⟨rfl, rfl⟩ (by kernel_rfl) rfl plain (by kernel_rfl)
#print axioms card
end Go.Proofs.YtglicojojpggmaaDoor.respAgain
