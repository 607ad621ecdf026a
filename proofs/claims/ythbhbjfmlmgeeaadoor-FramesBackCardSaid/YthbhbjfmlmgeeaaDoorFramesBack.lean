/- Proved here: 'taborlaw03.FramesBack' returns true for every list of texts and whatever stands behind, is cut off or is another byte. Conditions: those of the given card (the listed table holds what the program's text lays; nothing else). -/
import Derived.Test.YthbhbjfmlmgeeaaDoorFrame
import Derived.Test.YthbhbjfmlmgeeaaDoorBack
namespace Go.Proofs.YthbhbjfmlmgeeaaDoor.framesBack
open Go Go.RowKit Go.ChangeShapes Go.WideShapes Go.ChangeAt
open Go.ChangeMaps (open_string shut_string)

set_option maxHeartbeats 8000000 in
set_option maxRecDepth 100000 in
theorem walk (A : Option Addr) (n c : Nat) (ls : List ByteArray) (B : Option Addr) (m d : Nat) (l : List UInt8) (cut at_ x : Int) (w : World) (hn : ls.length = n) (hnc : n ≤ c) (bn : n ≤ 9223372036854775807) (hs : ∀ s ∈ ls, s.size ≤ 140737488351232) (hA : A = none → c = 0) (hr : RdV w A (cellsS ls))
    (hm : l.length = m) (hmd : m ≤ d) (bm : m ≤ 9223372036854775807) (hB : B = none → d = 0) (hr2 : Rd w B l) (hx8 : 0 ≤ x ∧ x ≤ 255) (hg : Tabs w) (h0 : 0 < w.heap.size) :
    Calls Tryd.prog 8 #[.slice A n c, .agg #[.slice B m d, .int .i64 cut, .int .i64 at_, .int .u8 x]] w fun e w' => e = .returned (.bool true) ∧ Below w.heap.size w w' := by
  have HN := Lib.hid hn
  have HO := Lib.hid hA
  have HR := Lib.hid hr
  have HS := Lib.hid hs
  have HM := Lib.hid hm
  have HOB := Lib.hid hB
  have HRB := Lib.hid hr2
  have HG := Lib.hid hg
  have HX8 := Lib.hid hx8
  have HB1 := Lib.hid (below_new w (.cells #[.slice B m d, .int .i64 cut, .int .i64 at_, .int .u8 x] 45))
  have HX1 := Lib.hid (box_new w B m d cut at_ x)
  have HT1 := Lib.hid (show w.heap.size < (w.alloc (.cells #[.slice B m d, .int .i64 cut, .int .i64 at_, .int .u8 x] 45)).heap.size by simp)
  obtain ⟨g, hgs⟩ : ∃ g, g = w.heap.size := ⟨_, rfl⟩
  rw [← hgs] at HX1
  have HGS := Lib.hid hgs
  clear hn hA hr hs hm hB hr2 hg hx8
  by_cases hf : szS ls ≤ 3000
  rotate_left
  · have HF := Lib.hid (decide_eq_false hf)
    clear hf
    go_enter Tryd.func8, Tryd.ntmps8
    go_wp2_with fail
    refine (few_any A n c ls _ HN.out bn HS.out (HR.out.below HB1.out)).mono ?_
    rintro e w' ⟨rfl, rfl⟩
    rw [HF.out]
    go_wp2_with fail
    refine (works_any _ (HG.out.below h0 HB1.out) (Nat.lt_of_lt_of_le h0 HB1.out.size)).mono ?_
    rintro e w2 ⟨rfl, hb2⟩
    go_wp2
    go_ret
    exact ⟨rfl, HB1.out.trans (hb2.mono HB1.out.size)⟩
  by_cases hm3 : 3000 < m
  · have HF := Lib.hid (decide_eq_true hf)
    clear hf
    go_enter Tryd.func8, Tryd.ntmps8
    go_wp2_with fail
    refine (few_any A n c ls _ HN.out bn HS.out (HR.out.below HB1.out)).mono ?_
    rintro e w' ⟨rfl, rfl⟩
    rw [HF.out]
    go_wp2_with fail
    refine (works_any _ (HG.out.below h0 HB1.out) (Nat.lt_of_lt_of_le h0 HB1.out.size)).mono ?_
    rintro e w2 ⟨rfl, hb2⟩
    go_wp2
    go_ret
    exact ⟨rfl, HB1.out.trans (hb2.mono HB1.out.size)⟩
  have bm' : m ≤ 3000 := by omega
  have HF := Lib.hid (decide_eq_true hf)
  have HMAY := Lib.hid (may_few hf)
  have hln := szS_len ls
  have bn' : n ≤ 750 := by have := HN.out; omega
  have hL0 : 12 ≤ (frameL (bl ls)).length ∧ (frameL (bl ls)).length ≤ 4000 := by rw [frameL_len, body_size]; omega
  obtain ⟨L, hL⟩ : ∃ L, (frameL (bl ls)).length = L := ⟨_, rfl⟩
  rw [hL] at hL0
  obtain ⟨hL1, hL2⟩ := hL0
  have HL := Lib.hid hL
  have HLE : Hid (([] ++ frameL (bl ls)).length = L) := HL
  clear hf hL hln hm3 bm bn hgs
  go_enter Tryd.func8, Tryd.ntmps8
  go_wp2_with fail
  refine (few_any A n c ls _ HN.out (by omega) HS.out (HR.out.below HB1.out)).mono ?_
  rintro e w' ⟨rfl, rfl⟩
  rw [HF.out, ← HGS.out]
  have HGS' := HGS.out
  generalize hw1 : World.alloc w _ = w1 at *
  clear hw1
  have HRA1 := Lib.hid (HR.out.below HB1.out)
  have HRB1 := Lib.hid (HRB.out.below HB1.out)
  have hc1 := HX1.out.c0
  have hgw1 : g < w1.heap.size := by rw [HGS']; exact HT1.out
  clear HGS' HR HRB
  go_wp2_with fail
  clear hc1
  refine (put_yes A n c ls w1 HN.out HRA1.out (HG.out.below h0 HB1.out) (Nat.lt_of_lt_of_le h0 HB1.out.size) HMAY.out).mono ?_
  intro e w2 hput
  obtain ⟨A2, c2, rfl, k2, n2, ho2, hr2, hb2, hb2'⟩ := hput.back HB1.out HL.out
  have HB2 := Lib.hid hb2
  have HR2 := Lib.hid hr2
  have HN2 := Lib.hid n2
  have HRA2 := Lib.hid (HRA1.out.below hb2')
  have HRB2 := Lib.hid (HRB1.out.below hb2')
  have HX2 := Lib.hid (HX1.out.below hgw1 hb2')
  have hgw2 := Nat.lt_of_lt_of_le hgw1 hb2'.size
  clear hput ho2 hb2 hr2 n2 hb2' HRA1 HRB1 HX1
  have hc2 := HX2.out.c0
  go_wp2_with fail
  obtain ⟨b0, off0, hA0, hlt0, -⟩ := HR2.out (by rw [HL.out]; omega)
  subst hA0
  have HP0 : Hid (Ph w2 w2.heap.size 0 (.slice (some ⟨w2.heap.size, 0, none⟩) 0 0) [] (w2.alloc (.cells #[] 5)).drew) := Lib.hid (Ph.new (W := w2.alloc (.cells #[] 5)) ⟨own_empty w2 5 _ (Nat.le_refl _), below_new w2 _, (below_new w2 _).size, Nat.zero_le _⟩ (Below.refl _ _).drew)
  have HLEN : Hid (([] ++ frameL (bl ls) ++ l).length = L + m) := Lib.hid (by rw [List.nil_append, List.length_append, HL.out, HM.out])
  have HL0 : Hid (([] ++ frameL (bl ls)).length = L) := Lib.hid (by rw [List.nil_append, HL.out])
  go_region_held3 (fun W => W.cell? ⟨g, 0, none⟩ = some (.slice B m d))
    (first
      | go_keep
      | exact (((HP0.out.app ho7 hg7).2.1).cell (p := ⟨g, 0, none⟩) hgw2).trans hc2
      | exact ((((HP0.out.app ho7 hg7).app ho8 hg8).2.1).cell (p := ⟨g, 0, none⟩) hgw2).trans hc2
      | exact (((((HP0.out.app ho7 hg7).app ho8 hg8).new hb9).2.1).cell (p := ⟨g, 0, none⟩) hgw2).trans hc2)
    (first
      | ((refine step_bytesO (by rfl) (.tmp 33) (.tmp 34) (by rfl) w2.heap.size _ [] (by rfl) HP0.out.1 (some ⟨b0, off0, none⟩) L c2 (frameL (bl ls)) HL.out (by rfl) (HR2.out.below (below_new w2 _).drew) HN2.out k2 (by simp; omega) (by simp) ?_; intro v7 w7 ho7 hg7))
      | ((refine step_bytesO (by rfl) (.tmp 35) (.tmp 37) (by rfl) w2.heap.size v7 _ (by rfl) ho7 B m d l HM.out (by rfl) (HRB2.out.below (HP0.out.app ho7 hg7).2.1) HOB.out hmd (by rw [HL0.out]; omega) (HP0.out.app ho7 hg7).2.2.1 ?_; intro v8 w8 ho8 hg8; obtain ⟨A8, c8, hv8, k8, n8, hr8⟩ := OwnB.form ho8 HLEN.out; subst hv8))
      | ((go_at_call 17; refine (fread_any A8 (L + m) c8 (frameL (bl ls) ++ l) w8 HLEN.out k8 (by omega) n8 hr8 (HG.out.below h0 (HB2.out.trans (((HP0.out.app ho7 hg7).app ho8 hg8).2.1.mono HB2.out.size))) (Nat.lt_of_lt_of_le h0 (Nat.le_trans HB2.out.size ((HP0.out.app ho7 hg7).app ho8 hg8).2.2.1))).mono ?_; intro e w9 hread; obtain ⟨A9, c9, n9, he9, hn9, hr9, hb9⟩ := ReadEnd.back hread HMAY.out HL.out; subst he9)))
  obtain rfl : n = n9 := HN.out.symm.trans hn9
  have hb29 : Below w2.heap.size w2 w9 := ((HP0.out.app ho7 hg7).app ho8 hg8).2.1.trans (hb9.mono ((HP0.out.app ho7 hg7).app ho8 hg8).2.2.1)
  have HB9 := Lib.hid (HB2.out.trans (hb29.mono HB2.out.size))
  have HX9 := Lib.hid (HX2.out.below hgw2 hb29)
  have hgw9 := Nat.lt_of_lt_of_le hgw2 hb29.size
  have HR9 := Lib.hid hr9
  have HRb := Lib.hid (HR2.out.below hb29)
  have HRA9 := Lib.hid (HRA2.out.below hb29)
  clear hb29 hread hr9 hb9 hn9 hr8 n8 k8 ho8 hg8 ho7 hg7 HP0 HLEN HL0 hc2 HX2 HR2 HRA2 HRB2 HB2 hgw2 HM
  go_wp2_with fail
  refine (num_any 0 w9).mono ?_
  rintro e w' ⟨rfl, rfl⟩
  go_wp2_with fail
  refine (num_any 0 w9).mono ?_
  rintro e w' ⟨rfl, rfl⟩
  go_wp2_with fail
  refine (one_any A9 A n n c9 c ls ls w9 HN.out HN.out (by omega) (by omega) HR9.out HRA9.out).mono ?_
  rintro e w10 ⟨he, q10, rfl⟩
  rw [eqS_refl] at he
  subst he
  have hb10 := below_any q10 (Below.refl w9.heap.size w9)
  have HB10 := Lib.hid (HB9.out.trans (hb10.mono HB9.out.size))
  have HX10 := Lib.hid (HX9.out.below hgw9 hb10)
  have hgw10 := Nat.lt_of_lt_of_le hgw9 hb10.size
  have HR10 := Lib.hid (HRb.out.below hb10)
  generalize w9.drewN q10 = w10 at *
  clear hb10 HB9 HX9 HR9 HRb HRA9 hgw9
  by_cases hc0 : 0 ≤ cut
  · by_cases hc1 : cut < (L : Int)
    · obtain ⟨j, hj⟩ : ∃ j : Nat, (j : Int) = cut := ⟨cut.toNat, by omega⟩
      subst hj
      have hjL : j < L := by omega
      have hct := HX10.out.c1
      have HSH := Lib.hid (readL_short (bl ls) j HMAY.out (by rw [HL.out]; exact hjL))
      have HLJ : Hid (((frameL (bl ls)).take j).length = j) := Lib.hid (by rw [List.length_take, HL.out]; omega)
      clear hc0 hc1
      have hj0 : (0 : Int) ≤ (j : Int) := by omega
      have hj1 : (j : Int) < (L : Int) := by omega
      go_wp2_with (refine wpList_up (by rfl) (.tmp 75) (.tmp 77) rfl (some ⟨b0, off0, none⟩) L c2 rfl j rfl (by omega) ?_)
      clear hct
      refine (fread_any (some ⟨b0, off0, none⟩) j c2 ((frameL (bl ls)).take j) w10 HLJ.out (by omega) (by omega) (fun h => by cases h) (HR10.out.take j) (HG.out.below h0 HB10.out) (Nat.lt_of_lt_of_le h0 HB10.out.size)).mono ?_
      intro e wz hread
      obtain ⟨vz, mz, rfl, hbz⟩ := hread.err HSH.out
      have HBZ := Lib.hid (HB10.out.trans (hbz.mono HB10.out.size))
      have HXZ := Lib.hid (HX10.out.below hgw10 hbz)
      have HRZ := Lib.hid (HR10.out.below hbz)
      have hgz := Nat.lt_of_lt_of_le hgw10 hbz.size
      clear hread hbz HB10 HX10 HR10 hgw10 HSH HLJ hj0 hj1 hjL
      have hcz2 := HXZ.out.c2
      have hcz3 := HXZ.out.c3
      go_wp2_with fail
      refine (num_any 120 wz).mono ?_
      rintro e w' ⟨rfl, rfl⟩
      -- another byte
      by_cases h4 : 4 ≤ at_
      rotate_left
      · have d4 : decide (4 ≤ at_) = false := by simpa using h4
        go_wp2_with fail
        go_quiet (fail)
        go_wp2_with fail
        refine (works_any _ (HG.out.below h0 (below_any _ HBZ.out)) (Nat.lt_of_lt_of_le h0 (below_any _ HBZ.out).size)).mono ?_
        rintro e w12 ⟨rfl, hb12⟩
        go_wp2
        go_ret
        exact ⟨rfl, (below_any _ HBZ.out).trans (hb12.mono (below_any _ HBZ.out).size)⟩
      have d4 : decide (4 ≤ at_) = true := by simpa using h4
      by_cases h5 : at_ < (L : Int)
      rotate_left
      · have d5 : decide (at_ < (L : Int)) = false := by simpa using h5
        go_wp2_with fail
        go_quiet (fail)
        go_wp2_with fail
        refine (works_any _ (HG.out.below h0 (below_any _ HBZ.out)) (Nat.lt_of_lt_of_le h0 (below_any _ HBZ.out).size)).mono ?_
        rintro e w12 ⟨rfl, hb12⟩
        go_wp2
        go_ret
        exact ⟨rfl, (below_any _ HBZ.out).trans (hb12.mono (below_any _ HBZ.out).size)⟩
      have d5 : decide (at_ < (L : Int)) = true := by simpa using h5
      obtain ⟨k, hk⟩ : ∃ k : Nat, (k : Int) = at_ := ⟨at_.toNat, by omega⟩
      subst hk
      have hkL : k < L := by omega
      obtain ⟨b1, off1, hA1, hlt0, hc0⟩ := HRZ.out (by rw [HL.out]; omega)
      obtain ⟨rfl, rfl⟩ : b0 = b1 ∧ off0 = off1 := by simpa using hA1
      clear hA1
      have hcell := hc0 k (by rw [HL.out]; exact hkL)
      obtain ⟨z, hz⟩ : ∃ z, (frameL (bl ls))[k]'(by rw [HL.out]; exact hkL) = z := ⟨_, rfl⟩
      rw [hz] at hcell
      have HZ := Lib.hid hz
      clear hc0 hz
      have hk0 : (0 : Int) ≤ (k : Int) := by omega
      have hkl : (k : Int) < (L : Int) := by omega
      by_cases hx : (z.toNat : Int) = x
      · have dx : ((z.toNat : Int) != x) = false := by simpa using hx
        have dx1 : ((z.toNat : Int) == x) = true := by simpa using hx
        clear hx
        go_wp2_with fail
        go_quiet (fail)
        go_wp2_with fail
        refine (works_any _ (HG.out.below h0 (below_any _ HBZ.out)) (Nat.lt_of_lt_of_le h0 (below_any _ HBZ.out).size)).mono ?_
        rintro e w12 ⟨rfl, hb12⟩
        go_wp2
        go_ret
        exact ⟨rfl, (below_any _ HBZ.out).trans (hb12.mono (below_any _ HBZ.out).size)⟩
      have dx : ((z.toNat : Int) != x) = true := by simpa using hx
      have dx1 : ((z.toNat : Int) == x) = false := by simpa using hx
      obtain ⟨y, hy⟩ : ∃ y : UInt8, x = (y.toNat : Int) := ⟨UInt8.ofNat x.toNat, by have := HX8.out; rw [UInt8.toNat_ofNat']; omega⟩
      have HY := Lib.hid hy
      have HZY := Lib.hid (show z ≠ y by rintro rfl; exact hx hy.symm)
      clear hx hy
      go_wp2_with fail
      go_quiet (fail)
      have HBQ := Lib.hid (below_any nq HBZ.out)
      have HRQ := Lib.hid (HRZ.out.below (below_any nq (Below.refl wz.heap.size wz)))
      have HXQ := Lib.hid (HXZ.out.below hgz (below_any nq (Below.refl wz.heap.size wz)))
      have hgq : g < (wz.drewN nq).heap.size := hgz
      generalize wz.drewN nq = wq at *
      clear HBZ HRZ HXZ hgz hcz2 hcz3 hcell hlt0
      go_wp2_with (at_builtin; refine wpList_bytes rfl (.tmp 105) (.tmp 106) rfl wq.heap.size _ [] rfl (own_empty wq 5 wq.heap.size (Nat.le_refl _)) (some ⟨b0, off0, none⟩) L c2 (frameL (bl ls)) HL.out rfl (HRQ.out.below (below_new wq _)) (fun h => by cases h) k2 (by simp; omega) (by simp) ?_; intro v13 w13 ho13 hb13 hs13; have HB13 := Lib.hid ((below_new wq (.cells #[] 5)).trans hb13); obtain ⟨g13, c13, hv13, k13, hg13, hl13, hr13, hf13⟩ := OwnB.at ho13 (n := L) HL.out (by omega); subst hv13; have HR13 := Lib.hid hr13; have HX13 := Lib.hid (HXQ.out.below hgq HB13.out); have hcc2 := HX13.out.c2; have hcc3 := HX13.out.c3; obtain ⟨bb, oo, hAA, hll, hcc⟩ := hr13 (by rw [HLE.out]; omega); cases hAA; have hck := hcc k (by rw [HLE.out]; exact hkL); rw [Nat.zero_add] at hck; have hfk := hf13 k; clear hcc ho13 hb13 hs13 hf13 hr13)
      have hBS := (HBQ.out.trans (HB13.out.mono HBQ.out.size)).setCell (p := ⟨g13, k, none⟩) (Nat.le_trans HBQ.out.size hg13) (.int .u8 x)
      have HBS := Lib.hid hBS
      have HSP := Lib.hid (readL_spoilt (bl ls) k y HMAY.out (by omega) (by rw [HL.out]; exact hkL) (by rw [HZ.out]; exact HZY.out))
      refine (fread_any (some ⟨g13, 0, none⟩) L c13 ((frameL (bl ls)).set k y) _ (by rw [List.length_set, HL.out]) k13 (by omega) (fun h => by cases h) (rd_set0 HR13.out HLE.out hkL HY.out) (HG.out.below h0 hBS) (Nat.lt_of_lt_of_le h0 hBS.size)).mono ?_
      intro e w14 hread
      obtain ⟨v14, m14, rfl, hb14⟩ := hread.err HSP.out
      have HB14 := Lib.hid (HBS.out.trans (hb14.mono HBS.out.size))
      clear hBS hread hb14 hcc2 hcc3 hck hfk
      go_wp2_with fail
      refine (num_any 121 w14).mono ?_
      rintro e w' ⟨rfl, rfl⟩
      go_wp2_with fail
      refine (works_any w14 (HG.out.below h0 HB14.out) (Nat.lt_of_lt_of_le h0 HB14.out.size)).mono ?_
      rintro e w15 ⟨rfl, hb15⟩
      go_wp2
      go_ret
      exact ⟨rfl, HB14.out.trans (hb15.mono HB14.out.size)⟩
    · have dc1 : decide (cut < (L : Int)) = false := by simpa using hc1
      have hct := HX10.out.c1
      have HBZ := HB10
      have HXZ := HX10
      have HRZ := HR10
      have hgz := hgw10
      generalize w10 = wz at *
      have hcz2 := HXZ.out.c2
      have hcz3 := HXZ.out.c3
      clear HB10 HX10 HR10 hgw10
      -- another byte
      by_cases h4 : 4 ≤ at_
      rotate_left
      · have d4 : decide (4 ≤ at_) = false := by simpa using h4
        go_wp2_with fail
        go_quiet (fail)
        go_wp2_with fail
        refine (works_any _ (HG.out.below h0 (below_any _ HBZ.out)) (Nat.lt_of_lt_of_le h0 (below_any _ HBZ.out).size)).mono ?_
        rintro e w12 ⟨rfl, hb12⟩
        go_wp2
        go_ret
        exact ⟨rfl, (below_any _ HBZ.out).trans (hb12.mono (below_any _ HBZ.out).size)⟩
      have d4 : decide (4 ≤ at_) = true := by simpa using h4
      by_cases h5 : at_ < (L : Int)
      rotate_left
      · have d5 : decide (at_ < (L : Int)) = false := by simpa using h5
        go_wp2_with fail
        go_quiet (fail)
        go_wp2_with fail
        refine (works_any _ (HG.out.below h0 (below_any _ HBZ.out)) (Nat.lt_of_lt_of_le h0 (below_any _ HBZ.out).size)).mono ?_
        rintro e w12 ⟨rfl, hb12⟩
        go_wp2
        go_ret
        exact ⟨rfl, (below_any _ HBZ.out).trans (hb12.mono (below_any _ HBZ.out).size)⟩
      have d5 : decide (at_ < (L : Int)) = true := by simpa using h5
      obtain ⟨k, hk⟩ : ∃ k : Nat, (k : Int) = at_ := ⟨at_.toNat, by omega⟩
      subst hk
      have hkL : k < L := by omega
      obtain ⟨b1, off1, hA1, hlt0, hc0⟩ := HRZ.out (by rw [HL.out]; omega)
      obtain ⟨rfl, rfl⟩ : b0 = b1 ∧ off0 = off1 := by simpa using hA1
      clear hA1
      have hcell := hc0 k (by rw [HL.out]; exact hkL)
      obtain ⟨z, hz⟩ : ∃ z, (frameL (bl ls))[k]'(by rw [HL.out]; exact hkL) = z := ⟨_, rfl⟩
      rw [hz] at hcell
      have HZ := Lib.hid hz
      clear hc0 hz
      have hk0 : (0 : Int) ≤ (k : Int) := by omega
      have hkl : (k : Int) < (L : Int) := by omega
      by_cases hx : (z.toNat : Int) = x
      · have dx : ((z.toNat : Int) != x) = false := by simpa using hx
        have dx1 : ((z.toNat : Int) == x) = true := by simpa using hx
        clear hx
        go_wp2_with fail
        go_quiet (fail)
        go_wp2_with fail
        refine (works_any _ (HG.out.below h0 (below_any _ HBZ.out)) (Nat.lt_of_lt_of_le h0 (below_any _ HBZ.out).size)).mono ?_
        rintro e w12 ⟨rfl, hb12⟩
        go_wp2
        go_ret
        exact ⟨rfl, (below_any _ HBZ.out).trans (hb12.mono (below_any _ HBZ.out).size)⟩
      have dx : ((z.toNat : Int) != x) = true := by simpa using hx
      have dx1 : ((z.toNat : Int) == x) = false := by simpa using hx
      obtain ⟨y, hy⟩ : ∃ y : UInt8, x = (y.toNat : Int) := ⟨UInt8.ofNat x.toNat, by have := HX8.out; rw [UInt8.toNat_ofNat']; omega⟩
      have HY := Lib.hid hy
      have HZY := Lib.hid (show z ≠ y by rintro rfl; exact hx hy.symm)
      clear hx hy
      go_wp2_with fail
      go_quiet (fail)
      have HBQ := Lib.hid (below_any nq HBZ.out)
      have HRQ := Lib.hid (HRZ.out.below (below_any nq (Below.refl wz.heap.size wz)))
      have HXQ := Lib.hid (HXZ.out.below hgz (below_any nq (Below.refl wz.heap.size wz)))
      have hgq : g < (wz.drewN nq).heap.size := hgz
      generalize wz.drewN nq = wq at *
      clear HBZ HRZ HXZ hgz hcz2 hcz3 hcell hlt0
      go_wp2_with (at_builtin; refine wpList_bytes rfl (.tmp 105) (.tmp 106) rfl wq.heap.size _ [] rfl (own_empty wq 5 wq.heap.size (Nat.le_refl _)) (some ⟨b0, off0, none⟩) L c2 (frameL (bl ls)) HL.out rfl (HRQ.out.below (below_new wq _)) (fun h => by cases h) k2 (by simp; omega) (by simp) ?_; intro v13 w13 ho13 hb13 hs13; have HB13 := Lib.hid ((below_new wq (.cells #[] 5)).trans hb13); obtain ⟨g13, c13, hv13, k13, hg13, hl13, hr13, hf13⟩ := OwnB.at ho13 (n := L) HL.out (by omega); subst hv13; have HR13 := Lib.hid hr13; have HX13 := Lib.hid (HXQ.out.below hgq HB13.out); have hcc2 := HX13.out.c2; have hcc3 := HX13.out.c3; obtain ⟨bb, oo, hAA, hll, hcc⟩ := hr13 (by rw [HLE.out]; omega); cases hAA; have hck := hcc k (by rw [HLE.out]; exact hkL); rw [Nat.zero_add] at hck; have hfk := hf13 k; clear hcc ho13 hb13 hs13 hf13 hr13)
      have hBS := (HBQ.out.trans (HB13.out.mono HBQ.out.size)).setCell (p := ⟨g13, k, none⟩) (Nat.le_trans HBQ.out.size hg13) (.int .u8 x)
      have HBS := Lib.hid hBS
      have HSP := Lib.hid (readL_spoilt (bl ls) k y HMAY.out (by omega) (by rw [HL.out]; exact hkL) (by rw [HZ.out]; exact HZY.out))
      refine (fread_any (some ⟨g13, 0, none⟩) L c13 ((frameL (bl ls)).set k y) _ (by rw [List.length_set, HL.out]) k13 (by omega) (fun h => by cases h) (rd_set0 HR13.out HLE.out hkL HY.out) (HG.out.below h0 hBS) (Nat.lt_of_lt_of_le h0 hBS.size)).mono ?_
      intro e w14 hread
      obtain ⟨v14, m14, rfl, hb14⟩ := hread.err HSP.out
      have HB14 := Lib.hid (HBS.out.trans (hb14.mono HBS.out.size))
      clear hBS hread hb14 hcc2 hcc3 hck hfk
      go_wp2_with fail
      refine (num_any 121 w14).mono ?_
      rintro e w' ⟨rfl, rfl⟩
      go_wp2_with fail
      refine (works_any w14 (HG.out.below h0 HB14.out) (Nat.lt_of_lt_of_le h0 HB14.out.size)).mono ?_
      rintro e w15 ⟨rfl, hb15⟩
      go_wp2
      go_ret
      exact ⟨rfl, HB14.out.trans (hb15.mono HB14.out.size)⟩
  · have dc0 : decide (0 ≤ cut) = false := by simpa using hc0
    have hct := HX10.out.c1
    have HBZ := HB10
    have HXZ := HX10
    have HRZ := HR10
    have hgz := hgw10
    generalize w10 = wz at *
    have hcz2 := HXZ.out.c2
    have hcz3 := HXZ.out.c3
    clear HB10 HX10 HR10 hgw10
    -- another byte
    by_cases h4 : 4 ≤ at_
    rotate_left
    · have d4 : decide (4 ≤ at_) = false := by simpa using h4
      go_wp2_with fail
      go_quiet (fail)
      go_wp2_with fail
      refine (works_any _ (HG.out.below h0 (below_any _ HBZ.out)) (Nat.lt_of_lt_of_le h0 (below_any _ HBZ.out).size)).mono ?_
      rintro e w12 ⟨rfl, hb12⟩
      go_wp2
      go_ret
      exact ⟨rfl, (below_any _ HBZ.out).trans (hb12.mono (below_any _ HBZ.out).size)⟩
    have d4 : decide (4 ≤ at_) = true := by simpa using h4
    by_cases h5 : at_ < (L : Int)
    rotate_left
    · have d5 : decide (at_ < (L : Int)) = false := by simpa using h5
      go_wp2_with fail
      go_quiet (fail)
      go_wp2_with fail
      refine (works_any _ (HG.out.below h0 (below_any _ HBZ.out)) (Nat.lt_of_lt_of_le h0 (below_any _ HBZ.out).size)).mono ?_
      rintro e w12 ⟨rfl, hb12⟩
      go_wp2
      go_ret
      exact ⟨rfl, (below_any _ HBZ.out).trans (hb12.mono (below_any _ HBZ.out).size)⟩
    have d5 : decide (at_ < (L : Int)) = true := by simpa using h5
    obtain ⟨k, hk⟩ : ∃ k : Nat, (k : Int) = at_ := ⟨at_.toNat, by omega⟩
    subst hk
    have hkL : k < L := by omega
    obtain ⟨b1, off1, hA1, hlt0, hc0⟩ := HRZ.out (by rw [HL.out]; omega)
    obtain ⟨rfl, rfl⟩ : b0 = b1 ∧ off0 = off1 := by simpa using hA1
    clear hA1
    have hcell := hc0 k (by rw [HL.out]; exact hkL)
    obtain ⟨z, hz⟩ : ∃ z, (frameL (bl ls))[k]'(by rw [HL.out]; exact hkL) = z := ⟨_, rfl⟩
    rw [hz] at hcell
    have HZ := Lib.hid hz
    clear hc0 hz
    have hk0 : (0 : Int) ≤ (k : Int) := by omega
    have hkl : (k : Int) < (L : Int) := by omega
    by_cases hx : (z.toNat : Int) = x
    · have dx : ((z.toNat : Int) != x) = false := by simpa using hx
      have dx1 : ((z.toNat : Int) == x) = true := by simpa using hx
      clear hx
      go_wp2_with fail
      go_quiet (fail)
      go_wp2_with fail
      refine (works_any _ (HG.out.below h0 (below_any _ HBZ.out)) (Nat.lt_of_lt_of_le h0 (below_any _ HBZ.out).size)).mono ?_
      rintro e w12 ⟨rfl, hb12⟩
      go_wp2
      go_ret
      exact ⟨rfl, (below_any _ HBZ.out).trans (hb12.mono (below_any _ HBZ.out).size)⟩
    have dx : ((z.toNat : Int) != x) = true := by simpa using hx
    have dx1 : ((z.toNat : Int) == x) = false := by simpa using hx
    obtain ⟨y, hy⟩ : ∃ y : UInt8, x = (y.toNat : Int) := ⟨UInt8.ofNat x.toNat, by have := HX8.out; rw [UInt8.toNat_ofNat']; omega⟩
    have HY := Lib.hid hy
    have HZY := Lib.hid (show z ≠ y by rintro rfl; exact hx hy.symm)
    clear hx hy
    go_wp2_with fail
    go_quiet (fail)
    have HBQ := Lib.hid (below_any nq HBZ.out)
    have HRQ := Lib.hid (HRZ.out.below (below_any nq (Below.refl wz.heap.size wz)))
    have HXQ := Lib.hid (HXZ.out.below hgz (below_any nq (Below.refl wz.heap.size wz)))
    have hgq : g < (wz.drewN nq).heap.size := hgz
    generalize wz.drewN nq = wq at *
    clear HBZ HRZ HXZ hgz hcz2 hcz3 hcell hlt0
    go_wp2_with (at_builtin; refine wpList_bytes rfl (.tmp 105) (.tmp 106) rfl wq.heap.size _ [] rfl (own_empty wq 5 wq.heap.size (Nat.le_refl _)) (some ⟨b0, off0, none⟩) L c2 (frameL (bl ls)) HL.out rfl (HRQ.out.below (below_new wq _)) (fun h => by cases h) k2 (by simp; omega) (by simp) ?_; intro v13 w13 ho13 hb13 hs13; have HB13 := Lib.hid ((below_new wq (.cells #[] 5)).trans hb13); obtain ⟨g13, c13, hv13, k13, hg13, hl13, hr13, hf13⟩ := OwnB.at ho13 (n := L) HL.out (by omega); subst hv13; have HR13 := Lib.hid hr13; have HX13 := Lib.hid (HXQ.out.below hgq HB13.out); have hcc2 := HX13.out.c2; have hcc3 := HX13.out.c3; obtain ⟨bb, oo, hAA, hll, hcc⟩ := hr13 (by rw [HLE.out]; omega); cases hAA; have hck := hcc k (by rw [HLE.out]; exact hkL); rw [Nat.zero_add] at hck; have hfk := hf13 k; clear hcc ho13 hb13 hs13 hf13 hr13)
    have hBS := (HBQ.out.trans (HB13.out.mono HBQ.out.size)).setCell (p := ⟨g13, k, none⟩) (Nat.le_trans HBQ.out.size hg13) (.int .u8 x)
    have HBS := Lib.hid hBS
    have HSP := Lib.hid (readL_spoilt (bl ls) k y HMAY.out (by omega) (by rw [HL.out]; exact hkL) (by rw [HZ.out]; exact HZY.out))
    refine (fread_any (some ⟨g13, 0, none⟩) L c13 ((frameL (bl ls)).set k y) _ (by rw [List.length_set, HL.out]) k13 (by omega) (fun h => by cases h) (rd_set0 HR13.out HLE.out hkL HY.out) (HG.out.below h0 hBS) (Nat.lt_of_lt_of_le h0 hBS.size)).mono ?_
    intro e w14 hread
    obtain ⟨v14, m14, rfl, hb14⟩ := hread.err HSP.out
    have HB14 := Lib.hid (HBS.out.trans (hb14.mono HBS.out.size))
    clear hBS hread hb14 hcc2 hcc3 hck hfk
    go_wp2_with fail
    refine (num_any 121 w14).mono ?_
    rintro e w' ⟨rfl, rfl⟩
    go_wp2_with fail
    refine (works_any w14 (HG.out.below h0 HB14.out) (Nat.lt_of_lt_of_le h0 HB14.out.size)).mono ?_
    rintro e w15 ⟨rfl, hb15⟩
    go_wp2
    go_ret
    exact ⟨rfl, HB14.out.trans (hb15.mono HB14.out.size)⟩


set_option maxRecDepth 20000 in
theorem contract (H : Type) (enc : TypeId × Value → H) (W : World) (base : Nat) (args : Array Value) (ds gs : List (DataW H)) (before : List MemPlace)
    (hval : ∀ (j : Nat) t v, Tryd.f8.params[j]? = some t → args[j]? = some v → Value.okWide Tryd.prog W .any base t v)
    (hW : DataW.Whole enc Tryd.prog Tryd.f8.params.toList Rows.framesBackSpec.vars false W args.toList ds gs before) 
    (hZ : (DataW.weightsEach Tryd.prog (Tryd.f8.params.toList ++ (OpenSpec.ofChange Rows.framesBackSpec).bare.plain.varTypes Tryd.prog) (ds ++ gs)).all (· ≤ reachBytes) = true) (hL : laidMetH Tryd.prog Rows.framesBackRow.laid W) :
    Calls Tryd.prog 8 args W fun e W' => ∃ v, e = .returned v ∧ Rows.framesBackSpec.post enc Tryd.prog Tryd.f8 false true false false W args v W' := by
  have hW' := hW
  obtain ⟨p, q, hA0, hV, rfl, hfz, hnd⟩ := hW
  have hA : DataW.TrodAll enc Tryd.prog W 0 (fun _ => true) true Tryd.f8.params.toList args.toList ds p := hA0
  rw [Tryd.params8] at hA hval hZ
  obtain ⟨v0, vs0, d0, ds0, p0, q0, hargs, rfl, rfl, h0, r0⟩ := trodAll_cons hA
  obtain ⟨v1, vs1, d1, ds1, p1, q1, rfl, rfl, rfl, h1, r1⟩ := trodAll_cons r0
  obtain ⟨rfl, rfl, rfl⟩ := trodAll_nil r1
  obtain rfl : args = #[v0, v1] := by cases args; simp_all
  obtain ⟨rfl, rfl⟩ := trodVars_none hV
  have k0 := h0
  have lt0 : ∀ x ∈ p0, x.block < W.heap.size := by obtain ⟨m, hm⟩ := k0; exact DataW.trod_lt m _ _ _ hm
  obtain ⟨ca0, na0, ea0, rfl⟩ := okWide_slice Tryd.underlying22 (hval 0 22 v0 rfl rfl)
  obtain ⟨fu0, hf0⟩ := h0
  obtain ⟨A0, n0, c0, l0, hv0, hn0, hnc0, hcm0, hO0, hr0, hs0⟩ := strs_of hf0 (weight_at hZ (j := 0) rfl rfl)
  cases hv0
  simp only [maxLen] at hcm0
  have k1 := h1
  have lt1 : ∀ x ∈ p1, x.block < W.heap.size := by obtain ⟨m, hm⟩ := k1; exact DataW.trod_lt m _ _ _ hm
  obtain ⟨B1, n1, c1, l1, cut1, at1, x1, rfl, hn1, hnc1, hcm1, hO1, hr1, hx1, hy1⟩ := spoilt_of (hval 1 45 v1 rfl rfl) h1
  simp only [maxLen] at hcm1
  clear hA0
  refine (walk _ _ _ l0 _ _ _ l1 _ _ _ W hn0 hnc0 (by omega) hs0 hO0 hr0 hn1 hnc1 (by omega) hO1 hr1 ⟨hx1, hy1⟩ (tabs_of hL) (pos_of hL)).mono fun e W' ⟨he, bel⟩ => ?_
  subst he
  exact ⟨_, rfl, _, _, _, [], _, [], hW', trodAll_mk1 (shut_bool Tryd.underlying4 _), (trodAll_cons_mk (Below.trod laidOut (by kernel_rfl) (of_decide_eq_true (by kernel_rfl)) k0 bel lt0) (trodAll_cons_mk (Below.trod laidOut (by kernel_rfl) (of_decide_eq_true (by kernel_rfl)) k1 bel lt1) trodAll_mk0)), rfl, bel.frame _, fun h => by cases h⟩

theorem reads (os : Os) {H : Type} (enc : TypeId × Value → H) : ∃ places, DataW.whole enc Tryd.prog ((laidWorld os).forCall (fun _ _ => 0) ⟨#[], #[.slice none 0 0, .agg #[.slice none 0 0, .int .i64 0, .int .i64 0, .int .u8 0]], []⟩).memory Tryd.f8.params.toList Rows.framesBackSpec.vars false (#[.slice none 0 0, .agg #[.slice none 0 0, .int .i64 0, .int .i64 0, .int .u8 0]] : Array Value).toList 8 = some ([.nil, .agg [.nil, .lit (.int .i64 0), .lit (.int .i64 0), .lit (.int .u8 0)]], [], places) :=
  ⟨[], by kernel_rfl⟩

set_option maxRecDepth 100000 in
theorem lifted (os : Os) (started : os.Started) (H : Type) (enc : TypeId × Value → H) (F : Stop.Interp) :
    ReturnsInHanded {} Tryd.checked os 8 .any ((OpenSpec.ofChange Rows.framesBackSpec).preRow enc Tryd.prog Tryd.f8 Rows.framesBackRow.domain false Rows.framesBackRow.laid) (((OpenSpec.ofChange Rows.framesBackSpec).at F).post enc Tryd.prog Tryd.f8 false true false false) := by
  obtain ⟨places, hx⟩ := reads os enc
  refine returnsInHanded_of_row (C := Tryd.checked) (s := OpenSpec.ofChange Rows.framesBackSpec) own started (by kernel_rfl) Tryd.func8
    (witness_row_at (enc := enc) (C := Tryd.checked) false (laidWorld os) #[.slice none 0 0, .agg #[.slice none 0 0, .int .i64 0, .int .i64 0, .int .u8 0]] rfl (by kernel_rfl) (by kernel_rfl) (by kernel_rfl)
      (OpenSpec.preRow_of_cond 8 hx (by kernel_rfl) (fun k hk => by cases hk) (by kernel_rfl) (laid_met os _))) ?_
  intro W base args ds gs before hval hW _ _ hZ hL _ _
  exact contract H enc W base args ds gs before hval hW hZ hL

theorem said : Rows.FramesBackSaid :=
  OpenClaim.holds_of_cond 8 Tryd.f8 rfl rfl rfl rfl rfl rfl rfl ⟨rfl, rfl, rfl, rfl, rfl⟩ rfl rfl rfl rfl rfl (by kernel_rfl) Tryd.func8 (by kernel_rfl)
    (of_decide_eq_true (by kernel_rfl)) (by unfold Func.isWrapper; first | (rw [if_pos (by decide +kernel)]; kernel_rfl) | (rw [if_neg (by decide +kernel)]; exact ⟨rfl, rfl⟩))
    (fun os started H enc _ F => by rw [OpenClaim.pre_eq_preRow]; exact lifted os started H enc F)

theorem plain (f : FuncId) (fn : Func) (hf : Tryd.pinned.checked.prog.funcNamed "tabor/taborlaw03.FramesBack" = some f) (hfn : Tryd.pinned.checked.prog.funcs[f]? = some fn) :
    true = Tryd.pinned.checked.prog.looks [] ∧ ∀ (j : Nat) t, fn.params[j]? = some t → Tryd.pinned.checked.prog.wantsStandIn t = false := by
  obtain rfl : f = 8 := Option.some.inj ((show Tryd.prog.funcNamed "tabor/taborlaw03.FramesBack" = some 8 by kernel_rfl).symm.trans hf) |>.symm
  obtain rfl : fn = Tryd.f8 := (Option.some.inj (Tryd.func8.symm.trans hfn)).symm
  refine ⟨by kernel_rfl, fun j t ht => ?_⟩
  rw [Tryd.params8] at ht
  have hm : t = 22 ∨ t = 45 := by simpa using Array.mem_of_getElem? ht
  rcases hm with rfl | rfl
  · exact (show Tryd.prog.wantsStandIn 22 = false by kernel_rfl)
  · exact (show Tryd.prog.wantsStandIn 45 = false by kernel_rfl)

/-- The card. -/
theorem card : Rows.FramesBackCardSaid :=
  Claim7.holds_tied_plain_at .later [] _ _ _ _ said (fun _ h => by cases h) (by kernel_rfl) (fun _ h => by cases h) framesBack_row_tie rfl ⟨rfl, rfl⟩ (by kernel_rfl) rfl plain (by kernel_rfl)
#print axioms card
end Go.Proofs.YthbhbjfmlmgeeaaDoor.framesBack
