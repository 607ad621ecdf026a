/- Proved here: 'taborlaw03.FramesRows' returns true for every rows of lists of texts, a list behind them that is cut anywhere, and every slice of bytes. Conditions: those of the given card (the listed table holds what the program's text lays; nothing else). -/
import Derived.Test.YthbhbjfmlmgeeaaDoorFrame
import Derived.Test.YthbhbjfmlmgeeaaDoorRowz
namespace Go.Proofs.YthbhbjfmlmgeeaaDoor.framesRows
open Go Go.RowKit Go.ChangeShapes Go.WideShapes Go.ChangeAt
open Go.ChangeMaps (open_string shut_string)

set_option maxHeartbeats 8000000 in
set_option maxRecDepth 100000 in
theorem walk (A : Option Addr) (n c : Nat) (rs : List Row) (A2 : Option Addr) (n2 c2 : Nat) (ms : List ByteArray) (cut : Int) (A3 : Option Addr) (n3 c3 : Nat) (l : List UInt8) (w : World)
    (hn : rs.length = n) (bn : n ≤ 9223372036854775807) (hs : ∀ r ∈ rs, ∀ s ∈ r.ls, s.size ≤ 140737488351232) (ha : RdR w A rs)
    (hn2 : ms.length = n2) (bn2 : n2 ≤ 9223372036854775807) (hs2 : ∀ s ∈ ms, s.size ≤ 140737488351232) (ha2 : RdV w A2 (cellsS ms))
    (hn3 : l.length = n3) (hnc3 : n3 ≤ c3) (bn3 : n3 ≤ 9223372036854775807) (hA3 : A3 = none → c3 = 0) (ha3 : Rd w A3 l) (hg : Tabs w) (h0 : 0 < w.heap.size) :
    Calls Tryd.prog 9 #[.slice A n c, .slice A2 n2 c2, .int .i64 cut, .slice A3 n3 c3] w fun e w' => e = .returned (.bool true) ∧ Below w.heap.size w w' := by
  have H1 := Lib.hid (all_any A n c rs w hn bn hs ha)
  have hcall := few_any A2 n2 c2 ms w hn2 bn2 hs2 ha2
  have HW := Lib.hid (works_any w hg h0)
  have HN := Lib.hid hn
  have HN2 := Lib.hid hn2
  have HN3 := Lib.hid hn3
  have HA := Lib.hid ha
  have HA2 := Lib.hid ha2
  have HO3 := Lib.hid hA3
  have HA3 := Lib.hid ha3
  have HG := Lib.hid hg
  clear hn hs ha hn2 hs2 ha2 hn3 hA3 ha3 hg
  by_cases hf : szS ms ≤ 3000
  rotate_left
  · rw [decide_eq_false hf] at hcall
    have HC := Lib.hid hcall
    clear hcall hf
    go_enter Tryd.func9, Tryd.ntmps9
    go_wp2_with fail
    refine H1.out.mono ?_
    rintro e w1 ⟨⟨b1, rfl, -⟩, rfl⟩
    cases b1
    · go_wp2_with fail
      refine HW.out.mono ?_
      rintro e w2 ⟨rfl, hb2⟩
      go_wp2
      go_ret
      exact ⟨rfl, hb2⟩
    go_wp2_with fail
    refine HC.out.mono ?_
    rintro e w2 ⟨rfl, rfl⟩
    go_wp2_with fail
    refine HW.out.mono ?_
    rintro e w2 ⟨rfl, hb2⟩
    go_wp2
    go_ret
    exact ⟨rfl, hb2⟩
  rw [decide_eq_true hf] at hcall
  have HC := Lib.hid hcall
  have HFW := Lib.hid hf
  have hln := szS_len ms
  have bm2 : n2 ≤ 750 := by have := HN2.out; omega
  have HMAY2 := Lib.hid (may_few hf)
  have hL0 : 12 ≤ (frameL (bl ms)).length ∧ (frameL (bl ms)).length ≤ 4000 := by rw [frameL_len, body_size]; omega
  obtain ⟨L, hL⟩ : ∃ L, (frameL (bl ms)).length = L := ⟨_, rfl⟩
  rw [hL] at hL0
  obtain ⟨hL1, hL2⟩ := hL0
  have HL := Lib.hid hL
  clear hcall hf hln hL
  go_enter Tryd.func9, Tryd.ntmps9
  go_wp2_with fail
  refine H1.out.mono ?_
  rintro e w1 ⟨⟨b1, rfl, hsz⟩, rfl⟩
  cases b1
  · go_wp2_with fail
    refine HW.out.mono ?_
    rintro e w2 ⟨rfl, hb2⟩
    go_wp2
    go_ret
    exact ⟨rfl, hb2⟩
  have hsz' := hsz rfl
  have hlr := szR_len (lsOf rs)
  have bn' : n ≤ 250 := by rw [lsOf_len] at hlr; have := HN.out; omega
  have HSZ := Lib.hid hsz'
  clear hsz hsz' hlr
  go_wp2_with fail
  refine HC.out.mono ?_
  rintro e w2 ⟨rfl, rfl⟩
  by_cases h3 : 3000 < n3
  · go_wp2_with fail
    refine HW.out.mono ?_
    rintro e w2 ⟨rfl, hb2⟩
    go_wp2
    go_ret
    exact ⟨rfl, hb2⟩
  have bn3' : n3 ≤ 3000 := by omega
  clear h3 bn3 bn2 bn
  go_wp2_with fail
  have HLS : Hid ((lsOf rs).length = n) := Lib.hid (by rw [lsOf_len, HN.out])
  go_loopw [9, 10] (fun v i W => ∃ k : Nat, k ≤ n ∧ i = .int .i64 k ∧ Hid (OwnB W w2.heap.size v (frs ((lsOf rs).take k))) ∧ Hid (Below w2.heap.size w2 W)) (fun _ i _ => n - (intOf i).toNat)
  case atStart => exact ⟨0, Nat.zero_le _, rfl, Lib.hid (OwnB.nil _ _), Lib.hid (Below.refl _ _)⟩
  case round =>
    obtain ⟨k, hk, rfl, HOW, HBW⟩ := hrel
    by_cases hlt : k < n
    · obtain ⟨b, off, Ar, cr, x, nx, rfl, hbb, hca, hxl, hra, hxb, hxt, hxm⟩ := HA.out.at (k := k) (by have := HN.out; omega)
      have HX := Lib.hid (frs_next hxt)
      have HXM := Lib.hid (may_rows HSZ.out x hxm)
      have HXZ : Hid (szS x ≤ 3000) := Lib.hid (by have := szR_mem hxm; have := HSZ.out; omega)
      have HXL := Lib.hid hxl
      have HRA := Lib.hid (hra.below HBW.out)
      have hcell := (HBW.out.cell (p := ⟨b, off + k, none⟩) hbb).trans hca
      clear hxt hxm hxl hra hca
      have hj0 : (0 : Int) ≤ (k : Int) := by omega
      have hj1 : (k : Int) < (n : Int) := by omega
      have hfl := frs_take_len (lsOf rs) k
      have hfl' : (frs ((lsOf rs).take k)).length ≤ 3000 := by have := HSZ.out; omega
      have HFL := Lib.hid hfl'
      clear hfl hfl'
      go_wp2_with fail
      clear hcell
      refine (put_yes Ar nx cr x wr HXL.out HRA.out (HG.out.below h0 HBW.out) (Nat.lt_of_lt_of_le h0 HBW.out.size) HXM.out).mono ?_
      intro e w3 hput
      obtain ⟨LX, hLX⟩ : ∃ LX, (frameL (bl x)).length = LX := ⟨_, rfl⟩
      obtain ⟨A9, c9, rfl, k9, n9, ho9, hr9, -, hb9⟩ := hput.back HBW.out hLX
      have hLXb : LX ≤ 4000 := by rw [← hLX, frameL_len, body_size]; have := HXZ.out; omega
      have HOW9 := Lib.hid (HOW.out.below hb9)
      have HBW9 := Lib.hid (HBW.out.trans (hb9.mono HBW.out.size))
      have HN9 := Lib.hid n9
      have HR9 := Lib.hid hr9
      have HLX := Lib.hid hLX
      have hsz9 : w2.heap.size ≤ w3.heap.size := HBW9.out.size
      clear hput ho9 hr9 hb9 n9 hLX HRA HOW HBW
      go_wp2_with fail
      refine (num_any 0 w3).mono ?_
      rintro e w' ⟨rfl, rfl⟩
      go_wp2_with (at_builtin; refine wpList_bytes rfl (.tmp 55) (.tmp 56) rfl w2.heap.size u9 _ rfl HOW9.out A9 LX c9 (frameL (bl x)) HLX.out rfl HR9.out HN9.out k9 (by have := HFL.out; omega) hsz9 ?_; intro v10 w10 ho10 hb10 hs10)
      go_roundw
      case rel => exact ⟨k + 1, by omega, by go_num, Lib.hid (by rw [HX.out]; exact ho10), Lib.hid (HBW9.out.trans hb10)⟩
      case measure => simp [intOf]; omega
    · obtain rfl : k = n := by omega
      have hfull : (lsOf rs).take k = lsOf rs := List.take_of_length_le (by have := HLS.out; omega)
      have HOX : Hid (OwnB wr w2.heap.size u9 (frs (lsOf rs))) := Lib.hid (by have h := HOW.out; rw [hfull] at h; exact h)
      obtain ⟨AA, T, cA, rfl, hT, kA, hnA, hrA⟩ := HOX.out.forms
      have hTb : T ≤ 3000 := by rw [← hT, frs_len]; exact HSZ.out
      have HT := Lib.hid hT
      have HNA := Lib.hid hnA
      have HRA := Lib.hid hrA
      clear hfull HOW hT hnA hrA
      go_wp2_with fail
      refine (put_yes A2 n2 c2 ms wr HN2.out (HA2.out.below HBW.out) (HG.out.below h0 HBW.out) (Nat.lt_of_lt_of_le h0 HBW.out.size) HMAY2.out).mono ?_
      intro e w3 hput
      obtain ⟨A4, c4, rfl, k4, n4, -, hr4, hb4, hb4'⟩ := hput.back HBW.out HL.out
      have HBZ := Lib.hid hb4
      have HRZ := Lib.hid (HRA.out.below hb4')
      have HOZ := Lib.hid (HOX.out.below hb4')
      have HN4 := Lib.hid n4
      have HR4 := Lib.hid hr4
      have hsz3 : w2.heap.size ≤ w3.heap.size := hb4.size
      clear hput hr4 hb4 hb4' n4 HOX HRA HBW
      have HS0 : Hid (scanL (frs (lsOf rs)) = ((lsOf rs).map bl, T)) := Lib.hid (by have h := scan_frs (tail := []) (may_rows HSZ.out) (by rw [readL_nil]; omega); rw [List.append_nil] at h; rw [h, HT.out])
      go_wp2_with fail
      refine (num_any 0 w3).mono ?_
      rintro e w' ⟨rfl, rfl⟩
      by_cases hc0 : 0 ≤ cut
      · by_cases hc1 : cut < (L : Int)
        · obtain ⟨j, hj⟩ : ∃ j : Nat, (j : Int) = cut := ⟨cut.toNat, by omega⟩
          subst hj
          have hjL : j < L := by omega
          have HLJ : Hid (((frameL (bl ms)).take j).length = j) := Lib.hid (by rw [List.length_take, HL.out]; omega)
          have HS1 : Hid (scanL (frs (lsOf rs) ++ (frameL (bl ms)).take j) = ((lsOf rs).map bl, T)) := Lib.hid (by rw [scan_frs (may_rows HSZ.out) (by rw [readL_short (bl ms) j HMAY2.out (by rw [HL.out]; exact hjL)]; omega), HT.out])
          clear hc0 hc1
          have hj0 : (0 : Int) ≤ (j : Int) := by omega
          have hj1 : (j : Int) < (L : Int) := by omega
          go_wp2_with (first
            | (refine wpList_up (by rfl) (.tmp 79) (.tmp 80) rfl A4 L c4 rfl j rfl (by omega) ?_)
            | (at_builtin; refine wpList_bytes rfl (.tmp 78) (.tmp 81) rfl w2.heap.size _ _ rfl HOZ.out A4 j c4 ((frameL (bl ms)).take j) HLJ.out rfl (HR4.out.take j) HN4.out (by omega) (by rw [HT.out]; omega) hsz3 ?_; intro vz wz hoz hbz hsz; obtain ⟨A5, TT, c5, hvz, hTT, k5, n5, hr5⟩ := OwnB.forms hoz; subst hvz; have HBZ' := Lib.hid (HBZ.out.trans hbz); have HRZ' := Lib.hid hr5; have HNA' := Lib.hid n5; have HTT := Lib.hid hTT; have bTT : TT ≤ 2000000000 := (by rw [← hTT, List.length_append, HT.out, HLJ.out]; omega); clear hoz hbz hsz hr5 n5 hTT))
          clear HBZ HRZ HNA kA HOZ HR4 HN4 HS0
          -- what is scanned
          refine (scan_any A5 TT c5 (frs (lsOf rs) ++ (frameL (bl ms)).take j) wz HTT.out k5 bTT HNA'.out HRZ'.out (HG.out.below h0 HBZ'.out) (Nat.lt_of_lt_of_le h0 HBZ'.out.size)).mono ?_
          intro e w5 hscan
          obtain ⟨v5, xs, rfl, hx5, ho5, hi5, hb5⟩ := hscan
          have hk2 : (scanL (frs (lsOf rs) ++ (frameL (bl ms)).take j)).2 = T := by rw [HS1.out]
          rw [hk2]
          obtain ⟨A6, n6, c6, r6, rfl, hl6, -, b6, hr6, he6⟩ := rows_items ho5 hi5
          have HE : Hid (eqR (lsOf r6) (lsOf rs) = true) := Lib.hid (by rw [he6, scanned_ls hx5 HS1.out]; simp [eqR])
          have HB5 := Lib.hid (HBZ'.out.trans (hb5.mono HBZ'.out.size))
          have HL6 := Lib.hid hl6
          have HR6 := Lib.hid hr6
          clear hk2 hx5 ho5 hi5 hb5 hl6 hr6 he6 HBZ' HRZ'
          go_wp2_with fail
          refine (rsame_any A6 A n6 k c6 c r6 rs w5 HL6.out HN.out b6 (by omega) HR6.out (HA.out.below HB5.out)).mono ?_
          rintro e w6 ⟨he, q6, rfl⟩
          rw [HE.out] at he
          subst he
          have HB6 := Lib.hid (HB5.out.trans ((below_any q6 (Below.refl w5.heap.size w5)).mono HB5.out.size))
          generalize w5.drewN q6 = w6 at *
          clear HB5 HR6
          go_wp2_with fail
          refine (scan_any A3 n3 c3 l w6 HN3.out hnc3 (by omega) HO3.out (HA3.out.below HB6.out) (HG.out.below h0 HB6.out) (Nat.lt_of_lt_of_le h0 HB6.out.size)).mono ?_
          intro e w7 hscan
          obtain ⟨v7, ys, rfl, hx7, ho7, hi7, hb7⟩ := hscan
          obtain ⟨K, hK⟩ : ∃ K, K = (scanL l).2 := ⟨_, rfl⟩
          rw [← hK]
          have hKl : K ≤ n3 := by rw [hK, ← HN3.out]; exact scanL_le l
          obtain ⟨A8, n8, c8, r8, rfl, hl8, -, b8, hr8, he8⟩ := rows_items ho7 hi7
          have HFR : Hid (frs (lsOf r8) = l.take K) := Lib.hid (by rw [he8, scanned_frs hx7, hK])
          have HMY : Hid (∀ r ∈ lsOf r8, mayL (bl r) = true) := Lib.hid (by rw [he8]; exact scanned_may hx7)
          have HB7 := Lib.hid (HB6.out.trans (hb7.mono HB6.out.size))
          have HL8 := Lib.hid hl8
          have HLS8 : Hid ((lsOf r8).length = n8) := Lib.hid (by rw [lsOf_len, hl8])
          have HR8 := Lib.hid hr8
          have HSZ8 : Hid (szR (lsOf r8) ≤ 3000) := Lib.hid (by rw [← frs_len, HFR.out, List.length_take, HN3.out]; omega)
          clear hK hx7 ho7 hi7 hb7 hl8 hr8 he8 HB6
          go_wp2_with fail
          go_loopw [20, 21] (fun v i W => ∃ k : Nat, k ≤ n8 ∧ i = .int .i64 k ∧ Hid (OwnB W w7.heap.size v (frs ((lsOf r8).take k))) ∧ Hid (Below w7.heap.size w7 W)) (fun _ i _ => n8 - (intOf i).toNat)
          case atStart => exact ⟨0, Nat.zero_le _, rfl, Lib.hid (OwnB.nil _ _), Lib.hid (Below.refl _ _)⟩
          case round =>
            obtain ⟨k, hk, rfl, HOV, HBV⟩ := hrel
            by_cases hlt : k < n8
            · obtain ⟨b, off, Ar, cr, x, nx, rfl, hbb, hca, hxl, hra, hxb, hxt, hxm⟩ := HR8.out.at (k := k) (by have := HL8.out; omega)
              have HX := Lib.hid (frs_next hxt)
              have HXM := Lib.hid (HMY.out x hxm)
              have HXZ : Hid (szS x ≤ 3000) := Lib.hid (by have := szR_mem hxm; have := HSZ8.out; omega)
              have HXL := Lib.hid hxl
              have HRA := Lib.hid (hra.below HBV.out)
              have HBU := Lib.hid (HB7.out.trans (HBV.out.mono HB7.out.size))
              have hcell := (HBV.out.cell (p := ⟨b, off + k, none⟩) hbb).trans hca
              have hfl := frs_take_len (lsOf r8) k
              have hfl' : (frs ((lsOf r8).take k)).length ≤ 3000 := by have := HSZ8.out; omega
              have HFL := Lib.hid hfl'
              clear hxt hxm hxl hra hca hfl hfl'
              have hj0 : (0 : Int) ≤ (k : Int) := by omega
              have hj1 : (k : Int) < (n8 : Int) := by omega
              go_wp2_with fail
              clear hcell
              refine (put_yes Ar nx cr x wr HXL.out HRA.out (HG.out.below h0 HBU.out) (Nat.lt_of_lt_of_le h0 HBU.out.size) HXM.out).mono ?_
              intro e w9 hput
              obtain ⟨LX, hLX⟩ : ∃ LX, (frameL (bl x)).length = LX := ⟨_, rfl⟩
              obtain ⟨A9, c9, rfl, k9, n9, ho9, hr9, -, hb9⟩ := hput.back HBV.out hLX
              have hLXb : LX ≤ 4000 := by rw [← hLX, frameL_len, body_size]; have := HXZ.out; omega
              have HOV9 := Lib.hid (HOV.out.below hb9)
              have HBV9 := Lib.hid (HBV.out.trans (hb9.mono HBV.out.size))
              have HN9 := Lib.hid n9
              have HR9 := Lib.hid hr9
              have HLX := Lib.hid hLX
              have hsz9 : w7.heap.size ≤ w9.heap.size := HBV9.out.size
              clear hput ho9 hr9 hb9 n9 hLX HRA HOV HBV
              go_wp2_with fail
              refine (num_any 0 w9).mono ?_
              rintro e w' ⟨rfl, rfl⟩
              go_wp2_with (at_builtin; refine wpList_bytes rfl (.tmp 119) (.tmp 120) rfl w7.heap.size u20 _ rfl HOV9.out A9 LX c9 (frameL (bl x)) HLX.out rfl HR9.out HN9.out k9 (by have := HFL.out; omega) hsz9 ?_; intro v10 w10 ho10 hb10 hs10)
              go_roundw
              case rel => exact ⟨k + 1, by omega, by go_num, Lib.hid (by rw [HX.out]; exact ho10), Lib.hid (HBV9.out.trans hb10)⟩
              case measure => simp [intOf]; omega
            · obtain rfl : k = n8 := by omega
              have hfull : (lsOf r8).take k = lsOf r8 := List.take_of_length_le (by have := HLS8.out; omega)
              have HOX : Hid (OwnB wr w7.heap.size u20 (l.take K)) := Lib.hid (by have h := HOV.out; rw [hfull, HFR.out] at h; exact h)
              obtain ⟨A11, n11, c11, rfl, hl11, k11, hn11, hr11⟩ := HOX.out.forms
              have HBX := Lib.hid (HB7.out.trans (HBV.out.mono HB7.out.size))
              have hconv1 := conv_n hl11 hn11 k11 hr11
              have hconv2 := conv_n (n := K) (l := l.take K) (by rw [List.length_take, HN3.out]; omega) HO3.out (by omega) ((HA3.out.below HBX.out).take K)
              have HL11 := Lib.hid hl11
              have HN11 := Lib.hid hn11
              have HR11 := Lib.hid hr11
              have HTK : Hid ((l.take K).length = K) := Lib.hid (by rw [List.length_take, HN3.out]; omega)
              have hKc : K ≤ c3 := by omega
              clear hfull HOV HBV hl11 hn11 hr11
              have hK0 : (0 : Int) ≤ (K : Int) := by omega
              have hK1 : (K : Int) ≤ (c3 : Int) := by omega
              have hK2 : (K : Int) ≤ (n3 : Int) := by omega
              go_wp2_with fail
              go_region_held3 (fun W => (convert 25 9 (.slice A11 n11 c11)).run Tryd.prog W = .ok (.string ⟨(l.take K).toArray⟩) W ∧ (convert 25 9 (.slice A3 K c3)).run Tryd.prog W = .ok (.string ⟨(l.take K).toArray⟩) W)
                (first
                  | exact ⟨hconv1, hconv2⟩
                  | exact ⟨conv_n HL11.out HN11.out k11 (HR11.out.below (Below.refl _ _).drew), conv_n HTK.out HO3.out hKc ((HA3.out.below HBX.out.drew).take K)⟩
                  | exact ⟨conv_n HL11.out HN11.out k11 ((HR11.out.below (Below.refl _ _).drew).below hbq), conv_n HTK.out HO3.out hKc (((HA3.out.below HBX.out.drew).below hbq).take K)⟩)
                ((go_at_call 11; refine (works_any _ (HG.out.below h0 HBX.out.drew) (Nat.lt_of_lt_of_le h0 HBX.out.drew.size)).mono ?_; rintro e wq ⟨rfl, hbq⟩))
              go_wp2
              go_ret
              exact ⟨rfl, HBX.out.drew.trans (hbq.mono HBX.out.drew.size)⟩
        · have dc1 : decide (cut < (L : Int)) = false := by simpa using hc1
          clear HOZ HR4 HN4
          go_wp2_with fail
          -- what is scanned
          refine (scan_any AA T cA (frs (lsOf rs)) w3 HT.out kA (by omega) HNA.out HRZ.out (HG.out.below h0 HBZ.out) (Nat.lt_of_lt_of_le h0 HBZ.out.size)).mono ?_
          intro e w5 hscan
          obtain ⟨v5, xs, rfl, hx5, ho5, hi5, hb5⟩ := hscan
          have hk2 : (scanL (frs (lsOf rs))).2 = T := by rw [HS0.out]
          rw [hk2]
          obtain ⟨A6, n6, c6, r6, rfl, hl6, -, b6, hr6, he6⟩ := rows_items ho5 hi5
          have HE : Hid (eqR (lsOf r6) (lsOf rs) = true) := Lib.hid (by rw [he6, scanned_ls hx5 HS0.out]; simp [eqR])
          have HB5 := Lib.hid (HBZ.out.trans (hb5.mono HBZ.out.size))
          have HL6 := Lib.hid hl6
          have HR6 := Lib.hid hr6
          clear hk2 hx5 ho5 hi5 hb5 hl6 hr6 he6 HBZ HRZ
          go_wp2_with fail
          refine (rsame_any A6 A n6 k c6 c r6 rs w5 HL6.out HN.out b6 (by omega) HR6.out (HA.out.below HB5.out)).mono ?_
          rintro e w6 ⟨he, q6, rfl⟩
          rw [HE.out] at he
          subst he
          have HB6 := Lib.hid (HB5.out.trans ((below_any q6 (Below.refl w5.heap.size w5)).mono HB5.out.size))
          generalize w5.drewN q6 = w6 at *
          clear HB5 HR6
          go_wp2_with fail
          refine (scan_any A3 n3 c3 l w6 HN3.out hnc3 (by omega) HO3.out (HA3.out.below HB6.out) (HG.out.below h0 HB6.out) (Nat.lt_of_lt_of_le h0 HB6.out.size)).mono ?_
          intro e w7 hscan
          obtain ⟨v7, ys, rfl, hx7, ho7, hi7, hb7⟩ := hscan
          obtain ⟨K, hK⟩ : ∃ K, K = (scanL l).2 := ⟨_, rfl⟩
          rw [← hK]
          have hKl : K ≤ n3 := by rw [hK, ← HN3.out]; exact scanL_le l
          obtain ⟨A8, n8, c8, r8, rfl, hl8, -, b8, hr8, he8⟩ := rows_items ho7 hi7
          have HFR : Hid (frs (lsOf r8) = l.take K) := Lib.hid (by rw [he8, scanned_frs hx7, hK])
          have HMY : Hid (∀ r ∈ lsOf r8, mayL (bl r) = true) := Lib.hid (by rw [he8]; exact scanned_may hx7)
          have HB7 := Lib.hid (HB6.out.trans (hb7.mono HB6.out.size))
          have HL8 := Lib.hid hl8
          have HLS8 : Hid ((lsOf r8).length = n8) := Lib.hid (by rw [lsOf_len, hl8])
          have HR8 := Lib.hid hr8
          have HSZ8 : Hid (szR (lsOf r8) ≤ 3000) := Lib.hid (by rw [← frs_len, HFR.out, List.length_take, HN3.out]; omega)
          clear hK hx7 ho7 hi7 hb7 hl8 hr8 he8 HB6
          go_wp2_with fail
          go_loopw [20, 21] (fun v i W => ∃ k : Nat, k ≤ n8 ∧ i = .int .i64 k ∧ Hid (OwnB W w7.heap.size v (frs ((lsOf r8).take k))) ∧ Hid (Below w7.heap.size w7 W)) (fun _ i _ => n8 - (intOf i).toNat)
          case atStart => exact ⟨0, Nat.zero_le _, rfl, Lib.hid (OwnB.nil _ _), Lib.hid (Below.refl _ _)⟩
          case round =>
            obtain ⟨k, hk, rfl, HOV, HBV⟩ := hrel
            by_cases hlt : k < n8
            · obtain ⟨b, off, Ar, cr, x, nx, rfl, hbb, hca, hxl, hra, hxb, hxt, hxm⟩ := HR8.out.at (k := k) (by have := HL8.out; omega)
              have HX := Lib.hid (frs_next hxt)
              have HXM := Lib.hid (HMY.out x hxm)
              have HXZ : Hid (szS x ≤ 3000) := Lib.hid (by have := szR_mem hxm; have := HSZ8.out; omega)
              have HXL := Lib.hid hxl
              have HRA := Lib.hid (hra.below HBV.out)
              have HBU := Lib.hid (HB7.out.trans (HBV.out.mono HB7.out.size))
              have hcell := (HBV.out.cell (p := ⟨b, off + k, none⟩) hbb).trans hca
              have hfl := frs_take_len (lsOf r8) k
              have hfl' : (frs ((lsOf r8).take k)).length ≤ 3000 := by have := HSZ8.out; omega
              have HFL := Lib.hid hfl'
              clear hxt hxm hxl hra hca hfl hfl'
              have hj0 : (0 : Int) ≤ (k : Int) := by omega
              have hj1 : (k : Int) < (n8 : Int) := by omega
              go_wp2_with fail
              clear hcell
              refine (put_yes Ar nx cr x wr HXL.out HRA.out (HG.out.below h0 HBU.out) (Nat.lt_of_lt_of_le h0 HBU.out.size) HXM.out).mono ?_
              intro e w9 hput
              obtain ⟨LX, hLX⟩ : ∃ LX, (frameL (bl x)).length = LX := ⟨_, rfl⟩
              obtain ⟨A9, c9, rfl, k9, n9, ho9, hr9, -, hb9⟩ := hput.back HBV.out hLX
              have hLXb : LX ≤ 4000 := by rw [← hLX, frameL_len, body_size]; have := HXZ.out; omega
              have HOV9 := Lib.hid (HOV.out.below hb9)
              have HBV9 := Lib.hid (HBV.out.trans (hb9.mono HBV.out.size))
              have HN9 := Lib.hid n9
              have HR9 := Lib.hid hr9
              have HLX := Lib.hid hLX
              have hsz9 : w7.heap.size ≤ w9.heap.size := HBV9.out.size
              clear hput ho9 hr9 hb9 n9 hLX HRA HOV HBV
              go_wp2_with fail
              refine (num_any 0 w9).mono ?_
              rintro e w' ⟨rfl, rfl⟩
              go_wp2_with (at_builtin; refine wpList_bytes rfl (.tmp 119) (.tmp 120) rfl w7.heap.size u20 _ rfl HOV9.out A9 LX c9 (frameL (bl x)) HLX.out rfl HR9.out HN9.out k9 (by have := HFL.out; omega) hsz9 ?_; intro v10 w10 ho10 hb10 hs10)
              go_roundw
              case rel => exact ⟨k + 1, by omega, by go_num, Lib.hid (by rw [HX.out]; exact ho10), Lib.hid (HBV9.out.trans hb10)⟩
              case measure => simp [intOf]; omega
            · obtain rfl : k = n8 := by omega
              have hfull : (lsOf r8).take k = lsOf r8 := List.take_of_length_le (by have := HLS8.out; omega)
              have HOX : Hid (OwnB wr w7.heap.size u20 (l.take K)) := Lib.hid (by have h := HOV.out; rw [hfull, HFR.out] at h; exact h)
              obtain ⟨A11, n11, c11, rfl, hl11, k11, hn11, hr11⟩ := HOX.out.forms
              have HBX := Lib.hid (HB7.out.trans (HBV.out.mono HB7.out.size))
              have hconv1 := conv_n hl11 hn11 k11 hr11
              have hconv2 := conv_n (n := K) (l := l.take K) (by rw [List.length_take, HN3.out]; omega) HO3.out (by omega) ((HA3.out.below HBX.out).take K)
              have HL11 := Lib.hid hl11
              have HN11 := Lib.hid hn11
              have HR11 := Lib.hid hr11
              have HTK : Hid ((l.take K).length = K) := Lib.hid (by rw [List.length_take, HN3.out]; omega)
              have hKc : K ≤ c3 := by omega
              clear hfull HOV HBV hl11 hn11 hr11
              have hK0 : (0 : Int) ≤ (K : Int) := by omega
              have hK1 : (K : Int) ≤ (c3 : Int) := by omega
              have hK2 : (K : Int) ≤ (n3 : Int) := by omega
              go_wp2_with fail
              go_region_held3 (fun W => (convert 25 9 (.slice A11 n11 c11)).run Tryd.prog W = .ok (.string ⟨(l.take K).toArray⟩) W ∧ (convert 25 9 (.slice A3 K c3)).run Tryd.prog W = .ok (.string ⟨(l.take K).toArray⟩) W)
                (first
                  | exact ⟨hconv1, hconv2⟩
                  | exact ⟨conv_n HL11.out HN11.out k11 (HR11.out.below (Below.refl _ _).drew), conv_n HTK.out HO3.out hKc ((HA3.out.below HBX.out.drew).take K)⟩
                  | exact ⟨conv_n HL11.out HN11.out k11 ((HR11.out.below (Below.refl _ _).drew).below hbq), conv_n HTK.out HO3.out hKc (((HA3.out.below HBX.out.drew).below hbq).take K)⟩)
                ((go_at_call 11; refine (works_any _ (HG.out.below h0 HBX.out.drew) (Nat.lt_of_lt_of_le h0 HBX.out.drew.size)).mono ?_; rintro e wq ⟨rfl, hbq⟩))
              go_wp2
              go_ret
              exact ⟨rfl, HBX.out.drew.trans (hbq.mono HBX.out.drew.size)⟩
      · have dc0 : decide (0 ≤ cut) = false := by simpa using hc0
        clear HOZ HR4 HN4
        go_wp2_with fail
        -- what is scanned
        refine (scan_any AA T cA (frs (lsOf rs)) w3 HT.out kA (by omega) HNA.out HRZ.out (HG.out.below h0 HBZ.out) (Nat.lt_of_lt_of_le h0 HBZ.out.size)).mono ?_
        intro e w5 hscan
        obtain ⟨v5, xs, rfl, hx5, ho5, hi5, hb5⟩ := hscan
        have hk2 : (scanL (frs (lsOf rs))).2 = T := by rw [HS0.out]
        rw [hk2]
        obtain ⟨A6, n6, c6, r6, rfl, hl6, -, b6, hr6, he6⟩ := rows_items ho5 hi5
        have HE : Hid (eqR (lsOf r6) (lsOf rs) = true) := Lib.hid (by rw [he6, scanned_ls hx5 HS0.out]; simp [eqR])
        have HB5 := Lib.hid (HBZ.out.trans (hb5.mono HBZ.out.size))
        have HL6 := Lib.hid hl6
        have HR6 := Lib.hid hr6
        clear hk2 hx5 ho5 hi5 hb5 hl6 hr6 he6 HBZ HRZ
        go_wp2_with fail
        refine (rsame_any A6 A n6 k c6 c r6 rs w5 HL6.out HN.out b6 (by omega) HR6.out (HA.out.below HB5.out)).mono ?_
        rintro e w6 ⟨he, q6, rfl⟩
        rw [HE.out] at he
        subst he
        have HB6 := Lib.hid (HB5.out.trans ((below_any q6 (Below.refl w5.heap.size w5)).mono HB5.out.size))
        generalize w5.drewN q6 = w6 at *
        clear HB5 HR6
        go_wp2_with fail
        refine (scan_any A3 n3 c3 l w6 HN3.out hnc3 (by omega) HO3.out (HA3.out.below HB6.out) (HG.out.below h0 HB6.out) (Nat.lt_of_lt_of_le h0 HB6.out.size)).mono ?_
        intro e w7 hscan
        obtain ⟨v7, ys, rfl, hx7, ho7, hi7, hb7⟩ := hscan
        obtain ⟨K, hK⟩ : ∃ K, K = (scanL l).2 := ⟨_, rfl⟩
        rw [← hK]
        have hKl : K ≤ n3 := by rw [hK, ← HN3.out]; exact scanL_le l
        obtain ⟨A8, n8, c8, r8, rfl, hl8, -, b8, hr8, he8⟩ := rows_items ho7 hi7
        have HFR : Hid (frs (lsOf r8) = l.take K) := Lib.hid (by rw [he8, scanned_frs hx7, hK])
        have HMY : Hid (∀ r ∈ lsOf r8, mayL (bl r) = true) := Lib.hid (by rw [he8]; exact scanned_may hx7)
        have HB7 := Lib.hid (HB6.out.trans (hb7.mono HB6.out.size))
        have HL8 := Lib.hid hl8
        have HLS8 : Hid ((lsOf r8).length = n8) := Lib.hid (by rw [lsOf_len, hl8])
        have HR8 := Lib.hid hr8
        have HSZ8 : Hid (szR (lsOf r8) ≤ 3000) := Lib.hid (by rw [← frs_len, HFR.out, List.length_take, HN3.out]; omega)
        clear hK hx7 ho7 hi7 hb7 hl8 hr8 he8 HB6
        go_wp2_with fail
        go_loopw [20, 21] (fun v i W => ∃ k : Nat, k ≤ n8 ∧ i = .int .i64 k ∧ Hid (OwnB W w7.heap.size v (frs ((lsOf r8).take k))) ∧ Hid (Below w7.heap.size w7 W)) (fun _ i _ => n8 - (intOf i).toNat)
        case atStart => exact ⟨0, Nat.zero_le _, rfl, Lib.hid (OwnB.nil _ _), Lib.hid (Below.refl _ _)⟩
        case round =>
          obtain ⟨k, hk, rfl, HOV, HBV⟩ := hrel
          by_cases hlt : k < n8
          · obtain ⟨b, off, Ar, cr, x, nx, rfl, hbb, hca, hxl, hra, hxb, hxt, hxm⟩ := HR8.out.at (k := k) (by have := HL8.out; omega)
            have HX := Lib.hid (frs_next hxt)
            have HXM := Lib.hid (HMY.out x hxm)
            have HXZ : Hid (szS x ≤ 3000) := Lib.hid (by have := szR_mem hxm; have := HSZ8.out; omega)
            have HXL := Lib.hid hxl
            have HRA := Lib.hid (hra.below HBV.out)
            have HBU := Lib.hid (HB7.out.trans (HBV.out.mono HB7.out.size))
            have hcell := (HBV.out.cell (p := ⟨b, off + k, none⟩) hbb).trans hca
            have hfl := frs_take_len (lsOf r8) k
            have hfl' : (frs ((lsOf r8).take k)).length ≤ 3000 := by have := HSZ8.out; omega
            have HFL := Lib.hid hfl'
            clear hxt hxm hxl hra hca hfl hfl'
            have hj0 : (0 : Int) ≤ (k : Int) := by omega
            have hj1 : (k : Int) < (n8 : Int) := by omega
            go_wp2_with fail
            clear hcell
            refine (put_yes Ar nx cr x wr HXL.out HRA.out (HG.out.below h0 HBU.out) (Nat.lt_of_lt_of_le h0 HBU.out.size) HXM.out).mono ?_
            intro e w9 hput
            obtain ⟨LX, hLX⟩ : ∃ LX, (frameL (bl x)).length = LX := ⟨_, rfl⟩
            obtain ⟨A9, c9, rfl, k9, n9, ho9, hr9, -, hb9⟩ := hput.back HBV.out hLX
            have hLXb : LX ≤ 4000 := by rw [← hLX, frameL_len, body_size]; have := HXZ.out; omega
            have HOV9 := Lib.hid (HOV.out.below hb9)
            have HBV9 := Lib.hid (HBV.out.trans (hb9.mono HBV.out.size))
            have HN9 := Lib.hid n9
            have HR9 := Lib.hid hr9
            have HLX := Lib.hid hLX
            have hsz9 : w7.heap.size ≤ w9.heap.size := HBV9.out.size
            clear hput ho9 hr9 hb9 n9 hLX HRA HOV HBV
            go_wp2_with fail
            refine (num_any 0 w9).mono ?_
            rintro e w' ⟨rfl, rfl⟩
            go_wp2_with (at_builtin; refine wpList_bytes rfl (.tmp 119) (.tmp 120) rfl w7.heap.size u20 _ rfl HOV9.out A9 LX c9 (frameL (bl x)) HLX.out rfl HR9.out HN9.out k9 (by have := HFL.out; omega) hsz9 ?_; intro v10 w10 ho10 hb10 hs10)
            go_roundw
            case rel => exact ⟨k + 1, by omega, by go_num, Lib.hid (by rw [HX.out]; exact ho10), Lib.hid (HBV9.out.trans hb10)⟩
            case measure => simp [intOf]; omega
          · obtain rfl : k = n8 := by omega
            have hfull : (lsOf r8).take k = lsOf r8 := List.take_of_length_le (by have := HLS8.out; omega)
            have HOX : Hid (OwnB wr w7.heap.size u20 (l.take K)) := Lib.hid (by have h := HOV.out; rw [hfull, HFR.out] at h; exact h)
            obtain ⟨A11, n11, c11, rfl, hl11, k11, hn11, hr11⟩ := HOX.out.forms
            have HBX := Lib.hid (HB7.out.trans (HBV.out.mono HB7.out.size))
            have hconv1 := conv_n hl11 hn11 k11 hr11
            have hconv2 := conv_n (n := K) (l := l.take K) (by rw [List.length_take, HN3.out]; omega) HO3.out (by omega) ((HA3.out.below HBX.out).take K)
            have HL11 := Lib.hid hl11
            have HN11 := Lib.hid hn11
            have HR11 := Lib.hid hr11
            have HTK : Hid ((l.take K).length = K) := Lib.hid (by rw [List.length_take, HN3.out]; omega)
            have hKc : K ≤ c3 := by omega
            clear hfull HOV HBV hl11 hn11 hr11
            have hK0 : (0 : Int) ≤ (K : Int) := by omega
            have hK1 : (K : Int) ≤ (c3 : Int) := by omega
            have hK2 : (K : Int) ≤ (n3 : Int) := by omega
            go_wp2_with fail
            go_region_held3 (fun W => (convert 25 9 (.slice A11 n11 c11)).run Tryd.prog W = .ok (.string ⟨(l.take K).toArray⟩) W ∧ (convert 25 9 (.slice A3 K c3)).run Tryd.prog W = .ok (.string ⟨(l.take K).toArray⟩) W)
              (first
                | exact ⟨hconv1, hconv2⟩
                | exact ⟨conv_n HL11.out HN11.out k11 (HR11.out.below (Below.refl _ _).drew), conv_n HTK.out HO3.out hKc ((HA3.out.below HBX.out.drew).take K)⟩
                | exact ⟨conv_n HL11.out HN11.out k11 ((HR11.out.below (Below.refl _ _).drew).below hbq), conv_n HTK.out HO3.out hKc (((HA3.out.below HBX.out.drew).below hbq).take K)⟩)
              ((go_at_call 11; refine (works_any _ (HG.out.below h0 HBX.out.drew) (Nat.lt_of_lt_of_le h0 HBX.out.drew.size)).mono ?_; rintro e wq ⟨rfl, hbq⟩))
            go_wp2
            go_ret
            exact ⟨rfl, HBX.out.drew.trans (hbq.mono HBX.out.drew.size)⟩


set_option maxRecDepth 20000 in
theorem contract (H : Type) (enc : TypeId × Value → H) (W : World) (base : Nat) (args : Array Value) (ds gs : List (DataW H)) (before : List MemPlace)
    (hval : ∀ (j : Nat) t v, Tryd.f9.params[j]? = some t → args[j]? = some v → Value.okWide Tryd.prog W .any base t v)
    (hW : DataW.Whole enc Tryd.prog Tryd.f9.params.toList Rows.framesRowsSpec.vars false W args.toList ds gs before) 
    (hZ : (DataW.weightsEach Tryd.prog (Tryd.f9.params.toList ++ (OpenSpec.ofChange Rows.framesRowsSpec).bare.plain.varTypes Tryd.prog) (ds ++ gs)).all (· ≤ reachBytes) = true) (hL : laidMetH Tryd.prog Rows.framesRowsRow.laid W) :
    Calls Tryd.prog 9 args W fun e W' => ∃ v, e = .returned v ∧ Rows.framesRowsSpec.post enc Tryd.prog Tryd.f9 false true false false W args v W' := by
  have hW' := hW
  obtain ⟨p, q, hA0, hV, rfl, hfz, hnd⟩ := hW
  have hA : DataW.TrodAll enc Tryd.prog W 0 (fun _ => true) true Tryd.f9.params.toList args.toList ds p := hA0
  rw [Tryd.params9] at hA hval hZ
  obtain ⟨v0, vs0, d0, ds0, p0, q0, hargs, rfl, rfl, h0, r0⟩ := trodAll_cons hA
  obtain ⟨v1, vs1, d1, ds1, p1, q1, rfl, rfl, rfl, h1, r1⟩ := trodAll_cons r0
  obtain ⟨v2, vs2, d2, ds2, p2, q2, rfl, rfl, rfl, h2, r2⟩ := trodAll_cons r1
  obtain ⟨v3, vs3, d3, ds3, p3, q3, rfl, rfl, rfl, h3, r3⟩ := trodAll_cons r2
  obtain ⟨rfl, rfl, rfl⟩ := trodAll_nil r3
  obtain rfl : args = #[v0, v1, v2, v3] := by cases args; simp_all
  obtain ⟨rfl, rfl⟩ := trodVars_none hV
  have k0 := h0
  have lt0 : ∀ x ∈ p0, x.block < W.heap.size := by obtain ⟨m, hm⟩ := k0; exact DataW.trod_lt m _ _ _ hm
  obtain ⟨ca0, na0, ea0, rfl⟩ := okWide_slice Tryd.underlying39 (hval 0 39 v0 rfl rfl)
  obtain ⟨fu0, hf0⟩ := h0
  obtain ⟨A0, n0, c0, l0, hv0, hn0, hnc0, hcm0, hO0, hr0, hs0⟩ := rows_of hf0 (weight_at hZ (j := 0) rfl rfl)
  cases hv0
  simp only [maxLen] at hcm0
  have k1 := h1
  have lt1 : ∀ x ∈ p1, x.block < W.heap.size := by obtain ⟨m, hm⟩ := k1; exact DataW.trod_lt m _ _ _ hm
  obtain ⟨ca1, na1, ea1, rfl⟩ := okWide_slice Tryd.underlying22 (hval 1 22 v1 rfl rfl)
  obtain ⟨fu1, hf1⟩ := h1
  obtain ⟨A1, n1, c1, l1, hv1, hn1, hnc1, hcm1, hO1, hr1, hs1⟩ := strs_of hf1 (weight_at hZ (j := 1) rfl rfl)
  cases hv1
  simp only [maxLen] at hcm1
  obtain ⟨n2, rfl, rfl, rfl, hn2⟩ := open_int Tryd.underlying3 (hval 2 3 v2 rfl rfl) h2
  have k3 := h3
  have lt3 : ∀ x ∈ p3, x.block < W.heap.size := by obtain ⟨m, hm⟩ := k3; exact DataW.trod_lt m _ _ _ hm
  obtain ⟨ca3, na3, ea3, rfl⟩ := okWide_slice Tryd.underlying25 (hval 3 25 v3 rfl rfl)
  obtain ⟨fu3, hf3⟩ := h3
  obtain ⟨A3, n3, c3, l3, hv3, hn3, hnc3, hcm3, hO3, hr3⟩ := bytes_of hf3
  cases hv3
  simp only [maxLen] at hcm3
  clear hA0
  refine (walk _ _ _ l0 _ _ _ l1 _ _ _ _ l3 W hn0 (by omega) hs0 hr0 hn1 (by omega) hs1 hr1 hn3 hnc3 (by omega) hO3 hr3 (tabs_of hL) (pos_of hL)).mono fun e W' ⟨he, bel⟩ => ?_
  subst he
  exact ⟨_, rfl, _, _, _, [], _, [], hW', trodAll_mk1 (shut_bool Tryd.underlying4 _), (trodAll_cons_mk (Below.trod laidOut (by kernel_rfl) (of_decide_eq_true (by kernel_rfl)) k0 bel lt0) (trodAll_cons_mk (Below.trod laidOut (by kernel_rfl) (of_decide_eq_true (by kernel_rfl)) k1 bel lt1) (trodAll_cons_mk (shut_int Tryd.underlying3 hn2) (trodAll_cons_mk (Below.trod laidOut (by kernel_rfl) (of_decide_eq_true (by kernel_rfl)) k3 bel lt3) trodAll_mk0)))), rfl, bel.frame _, fun h => by cases h⟩

theorem reads (os : Os) {H : Type} (enc : TypeId × Value → H) : ∃ places, DataW.whole enc Tryd.prog ((laidWorld os).forCall (fun _ _ => 0) ⟨#[], #[.slice none 0 0, .slice none 0 0, .int .i64 0, .slice none 0 0], []⟩).memory Tryd.f9.params.toList Rows.framesRowsSpec.vars false (#[.slice none 0 0, .slice none 0 0, .int .i64 0, .slice none 0 0] : Array Value).toList 8 = some ([.nil, .nil, .lit (.int .i64 0), .nil], [], places) :=
  ⟨[], by kernel_rfl⟩

set_option maxRecDepth 100000 in
theorem lifted (os : Os) (started : os.Started) (H : Type) (enc : TypeId × Value → H) (F : Stop.Interp) :
    ReturnsInHanded {} Tryd.checked os 9 .any ((OpenSpec.ofChange Rows.framesRowsSpec).preRow enc Tryd.prog Tryd.f9 Rows.framesRowsRow.domain false Rows.framesRowsRow.laid) (((OpenSpec.ofChange Rows.framesRowsSpec).at F).post enc Tryd.prog Tryd.f9 false true false false) := by
  obtain ⟨places, hx⟩ := reads os enc
  refine returnsInHanded_of_row (C := Tryd.checked) (s := OpenSpec.ofChange Rows.framesRowsSpec) own started (by kernel_rfl) Tryd.func9
    (witness_row_at (enc := enc) (C := Tryd.checked) false (laidWorld os) #[.slice none 0 0, .slice none 0 0, .int .i64 0, .slice none 0 0] rfl (by kernel_rfl) (by kernel_rfl) (by kernel_rfl)
      (OpenSpec.preRow_of_cond 8 hx (by kernel_rfl) (fun k hk => by cases hk) (by kernel_rfl) (laid_met os _))) ?_
  intro W base args ds gs before hval hW _ _ hZ hL _ _
  exact contract H enc W base args ds gs before hval hW hZ hL

theorem said : Rows.FramesRowsSaid :=
  OpenClaim.holds_of_cond 9 Tryd.f9 rfl rfl rfl rfl rfl rfl rfl ⟨rfl, rfl, rfl, rfl, rfl⟩ rfl rfl rfl rfl rfl (by kernel_rfl) Tryd.func9 (by kernel_rfl)
    (of_decide_eq_true (by kernel_rfl)) (by unfold Func.isWrapper; first | (rw [if_pos (by decide +kernel)]; kernel_rfl) | (rw [if_neg (by decide +kernel)]; exact ⟨rfl, rfl⟩))
    (fun os started H enc _ F => by rw [OpenClaim.pre_eq_preRow]; exact lifted os started H enc F)

theorem plain (f : FuncId) (fn : Func) (hf : Tryd.pinned.checked.prog.funcNamed "tabor/taborlaw03.FramesRows" = some f) (hfn : Tryd.pinned.checked.prog.funcs[f]? = some fn) :
    true = Tryd.pinned.checked.prog.looks [] ∧ ∀ (j : Nat) t, fn.params[j]? = some t → Tryd.pinned.checked.prog.wantsStandIn t = false := by
  obtain rfl : f = 9 := Option.some.inj ((show Tryd.prog.funcNamed "tabor/taborlaw03.FramesRows" = some 9 by kernel_rfl).symm.trans hf) |>.symm
  obtain rfl : fn = Tryd.f9 := (Option.some.inj (Tryd.func9.symm.trans hfn)).symm
  refine ⟨by kernel_rfl, fun j t ht => ?_⟩
  rw [Tryd.params9] at ht
  have hm : t = 39 ∨ t = 22 ∨ t = 3 ∨ t = 25 := by simpa using Array.mem_of_getElem? ht
  rcases hm with rfl | rfl | rfl | rfl
  · exact (show Tryd.prog.wantsStandIn 39 = false by kernel_rfl)
  · exact (show Tryd.prog.wantsStandIn 22 = false by kernel_rfl)
  · exact (show Tryd.prog.wantsStandIn 3 = false by kernel_rfl)
  · exact (show Tryd.prog.wantsStandIn 25 = false by kernel_rfl)

/-- The card. -/
theorem card : Rows.FramesRowsCardSaid :=
  Claim7.holds_tied_plain_at .later [] _ _ _ _ said (fun _ h => by cases h) (by kernel_rfl) (fun _ h => by cases h) framesRows_row_tie rfl ⟨rfl, rfl⟩ (by kernel_rfl) rfl plain (by kernel_rfl)
#print axioms card
end Go.Proofs.YthbhbjfmlmgeeaaDoor.framesRows
