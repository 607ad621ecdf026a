/- The request with which bytes begin. -/
import Derived.Test.YtglicojojpggmaaDoorPsw
namespace Go.Proofs.YtglicojojpggmaaDoor
open Go Go.RowKit
theorem three (w : World) : (((w.alloc (.cells #[.slice none 0 0] 22)).alloc (.cells #[.int .i64 0] 3)).alloc (.cells #[.int .i64 0] 26)).heap.size = w.heap.size + 3 := by simp
set_option maxRecDepth 100000 in
set_option maxHeartbeats 8000000 in
theorem parse_any (A : Option Addr) (n c : Nat) (l : List UInt8) (w : World) (hn : l.length = n) (hc : n ≤ c) (hA : A = none → c = 0) (hr : Rd w A l) (hb : ∀ ad, A = some ad → ad.block < w.heap.size) (hm : n ≤ 1000000000) :
    Calls Tryd.prog 18 #[.slice A n c] w (ParseEnd w (parseR l)) := by
  obtain ⟨R, hR⟩ : ∃ R, parseR l = R := ⟨_, rfl⟩
  rw [hR]
  have HR := Lib.hid hR
  clear hR
  have hmf : ∀ (fn : Fn) (first cap : Array Value) (w : World), (Instr.makeFunc fn first cap).run Tryd.prog w = .ok (.func fn first cap) w := fun _ _ _ _ => rfl
  have HV := Lib.hid (Vars.new w)
  have HRD := Lib.hid hr
  have HN := Lib.hid hn
  have HA := Lib.hid hA
  have HB := Lib.hid hb
  clear hn hA hr hb
  go_enter_defers Tryd.func18, Tryd.ntmps18
  go_wp2_with fail
  generalize hW : ((w.alloc (.cells #[.slice none 0 0] 22)).alloc (.cells #[.int .i64 0] 3)).alloc (.cells #[.int .i64 0] 26) = W at HV ⊢
  have HO := Lib.hid (over_any A n c W)
  refine HO.out.mono ?_
  rintro e w1 ⟨rfl, rfl⟩
  have HI0 := Lib.hid (over_inp A n c l W (HRD.out.below HV.out.2.2.2.1) HN.out hc HA.out (fun ad e => Nat.lt_of_lt_of_le (HB.out ad e) HV.out.2.2.2.1.size) (by omega))
  have HV1 := Lib.hid (HV.out.below ((below_new W (Over A n c)).mono HV.out.2.2.2.2))
  have HG3 : Hid (w.heap.size + 3 ≤ W.heap.size) := Lib.hid HV.out.2.2.2.2
  have HG1 : Hid (W.heap.size < (W.alloc (Over A n c)).heap.size) := Lib.hid (by simp)
  clear HO HV HRD HN HA hW
  generalize W.alloc (Over A n c) = W1 at HI0 HV1 HG1 ⊢
  generalize W.heap.size = G at HI0 HG1 HG3 ⊢
  have HT := Lib.hid (taker_any G W1)
  go_wp2_with fail
  refine HT.out.mono ?_
  rintro e w2 ⟨rfl, hb2⟩
  have HV2 := Lib.hid (HV1.out.below (hb2.mono (Nat.le_trans HG3.out (Nat.le_of_lt HG1.out))))
  have HI2 : Hid (Inp w2 G A n c l 0 1048576 65536 0) := Lib.hid ⟨(hb2.block _ HG1.out).trans HI0.out.z, HI0.out.rd.below hb2, HI0.out.len, HI0.out.cap, HI0.out.nil, HI0.out.ne, HI0.out.max, HI0.out.pos⟩
  have HG2 : Hid (G < w2.heap.size) := Lib.hid (Nat.lt_of_lt_of_le HG1.out hb2.size)
  clear hb2 HT HV1 HI0 HG1
  have HZ := Lib.hid (heap_alloc_new w2 (.cells #[.nilFunc, .nilFunc, .nilFunc, .nilFunc, .nilFunc, .nilFunc] 81))
  have hone : ((takerV G).all fun x => x.oneCell') = true := by simp [takerV, mv, Value.oneCell']
  go_upto_region 4 with (refine wpList_store_row rfl 81 (.tmp 6) (.tmp 11) rfl w2.heap.size (takerV G) rfl rfl 81 #[.nilFunc, .nilFunc, .nilFunc, .nilFunc, .nilFunc, .nilFunc] HZ.out size81 rfl hone ?_)
  have hb3 : Below w2.heap.size w2 ((w2.alloc (.cells #[.nilFunc, .nilFunc, .nilFunc, .nilFunc, .nilFunc, .nilFunc] 81)).setRow w2.heap.size (takerV G)) := by
    have HW := below_new w2 (.cells #[.nilFunc, .nilFunc, .nilFunc, .nilFunc, .nilFunc, .nilFunc] 81)
    exact ⟨HW.os, HW.tape, HW.output, by simp, fun k hk => (setRow_other _ _ _ _ (by omega)).trans (HW.block k hk)⟩
  have HBX : Hid (((w2.alloc (.cells #[.nilFunc, .nilFunc, .nilFunc, .nilFunc, .nilFunc, .nilFunc] 81)).setRow w2.heap.size (takerV G)).heap[w2.heap.size]? = some (.cells (takerV G) 81 (0, 0))) := Lib.hid (setRow_heap _ _ _ _ _ _ HZ.out)
  have HV3 := Lib.hid (HV2.out.below (hb3.mono (Nat.le_trans HG3.out (Nat.le_of_lt HG2.out))))
  have HI3 : Hid (Inp ((w2.alloc (.cells #[.nilFunc, .nilFunc, .nilFunc, .nilFunc, .nilFunc, .nilFunc] 81)).setRow w2.heap.size (takerV G)) G A n c l 0 1048576 65536 0) := Lib.hid ⟨(hb3.block _ HG2.out).trans HI2.out.z, HI2.out.rd.below hb3, HI2.out.len, HI2.out.cap, HI2.out.nil, HI2.out.ne, HI2.out.max, HI2.out.pos⟩
  clear hb3 HZ HV2 HI2 hone
  generalize (w2.alloc (.cells #[.nilFunc, .nilFunc, .nilFunc, .nilFunc, .nilFunc, .nilFunc] 81)).setRow w2.heap.size (takerV G) = X at HBX HV3 HI3 ⊢
  generalize w2.heap.size = B at HBX HG2 ⊢
  have HPS : Hid (PS w X G B A n c l (.slice none 0 0) [] 0 1048576) := Lib.hid ⟨HV3.out.1, HV3.out.2.1, HV3.out.2.2.1, HV3.out.2.2.2.1, HBX.out, HI3.out, World.ownsRow_nil _ _ _ _, HG2.out, HG3.out⟩
  clear HV3 HBX HI3 HG2 HG3
  obtain ⟨m0, m1, m2, m4⟩ := HPS.out.takes
  have HX := Lib.hid (expect_any X 42 HPS.out.inp)
  go_wp2_with fail
  refine HX.out.mono ?_
  rintro e w3 ⟨⟨he, rfl, hi⟩ | ⟨he, rfl⟩, ho⟩
  rotate_left
  · exact HPS.out.stop ho R _ he (by rw [← HR.out]; unfold parseR; rw [if_pos he]) _ rfl rfl rfl
  have HP3 := Lib.hid (HPS.out.only ho hi)
  have HE1 := Lib.hid he
  clear ho hi he HX HPS m0 m1 m2 m4
  obtain ⟨m0, m1, m2, m4⟩ := HP3.out.takes
  by_cases h1 : 1 < l.length
  rotate_left
  · have HK := Lib.hid (peek_no w3 HP3.out.inp (by have := HP3.out.inp.len; have := HP3.out.inp.pos; omega))
    go_wp2_with fail
    refine HK.out.mono ?_
    rintro e w4 ⟨rfl, q, rfl⟩
    have hr130 : R = (130, [], 0) := by rw [← HR.out]; unfold parseR; rw [if_neg (by rw [HE1.out]; decide), List.getElem?_eq_none (by omega)]
    refine HP3.out.stop (only_drew G w3 q) R 130 (by decide) hr130 _ ?_ ?_ ?_ <;> rfl
  have HK := Lib.hid (peek_yes w3 HP3.out.inp h1)
  obtain ⟨x, hx⟩ : ∃ x, l[1] = x := ⟨_, rfl⟩
  rw [hx] at HK
  have hpr : parseR l = if x = 48 then (131, [], 0) else if lenE 65536 l 1 ≠ 0 then (lenE 65536 l 1, [], 0) else itemsF (digR 65536 l 1).2.1 l ((digR 65536 l 1).2.2 + 2) 1048576 [] := by
    unfold parseR
    rw [if_neg (by rw [HE1.out]; decide), List.getElem?_eq_getElem h1, hx]
  rw [HR.out] at hpr
  have HPR := Lib.hid hpr
  clear hpr hx h1 HR HE1
  by_cases h48 : x = 48
  · subst h48
    go_wp2_with fail
    refine HK.out.mono ?_
    rintro e w4 ⟨rfl, q, rfl⟩
    go_wp2_with fail
    have hr131 : R = (131, [], 0) := by rw [HPR.out]; simp
    refine HP3.out.stop (only_drew G w3 q) R 131 (by decide) hr131 _ ?_ ?_ ?_ <;> rfl
  have HPR2 := Lib.hid (HPR.out.trans (if_neg h48))
  have h48n : x.toNat ≠ 48 := fun e => h48 (UInt8.toNat_inj.1 (by simpa using e))
  generalize x.toNat = y at HK h48n
  have d48 : ((y : Int) == 48) = false := by simp; omega
  have d48d : decide ((y : Int) = 48) = false := decide_eq_false (by omega)
  clear HPR h48 h48n
  go_wp2_with fail
  refine HK.out.mono ?_
  rintro e w4 ⟨rfl, q, rfl⟩
  have HP4 := Lib.hid (HP3.out.drew q)
  clear HK HP3 m0 m1 m2 m4
  obtain ⟨m0, m1, m2, m4⟩ := HP4.out.takes
  have HL := Lib.hid (length_any _ 65536 HP4.out.inp (by omega))
  go_wp2_with fail
  refine HL.out.mono ?_
  rintro e w5 ⟨⟨he, rfl, hi⟩ | ⟨he, rfl⟩, ho⟩
  rotate_left
  · have he2 : lenE 65536 l 1 ≠ 0 := he
    have hr2 : R = (lenE 65536 l 1, [], 0) := by rw [HPR2.out, if_pos he2]
    refine HP4.out.stop ho R (lenE 65536 l 1) he2 hr2 _ ?_ ?_ ?_ <;> rfl
  have hm0 := digR_le (most := 65536) (l := l) (a := 1)
  have hl0 := lenE_zero (most := 65536) (l := l) (a := 1) he
  have hm1 := hm0 hl0
  have hr5 : itemsF (digR 65536 l 1).2.1 l ((digR 65536 l 1).2.2 + 2) 1048576 [] = R := by
    rw [HPR2.out, if_neg (by have h1 : lenE 65536 l 1 = 0 := he; rw [h1]; decide)]
  have HP5 := Lib.hid (HP4.out.only ho hi)
  have HR5 := Lib.hid hr5
  clear hm0 hl0 hr5 he hi ho HL HPR2 HP4 m0 m1 m2 m4 d48 d48d
  change Hid (PS w w5 G B A n c l (.slice none 0 0) [] ((digR 65536 l 1).2.2 + 2) (1048576 : Nat)) at HP5
  have e01 : digR 65536 l (0 + 1) = digR 65536 l 1 := rfl
  rw [e01]
  clear e01
  generalize (digR 65536 l 1).2.1 = m at HR5 hm1 ⊢
  generalize (digR 65536 l 1).2.2 + 2 = a0 at HR5 HP5
  obtain ⟨i0, hi, hz0, hz1, hz2⟩ := info_parts str_info
  go_wp2_with fail
  go_loopw [24] (fun i wr => ∃ (k : Nat) (v : Value) (ls : List ByteArray) (a tx : Nat), k ≤ m ∧ i = .int .i64 k ∧ Hid (PS w wr G B A n c l v ls a (tx : Nat)) ∧ Hid (ls.length = k) ∧ Hid (itemsF (m - k) l a tx ls = R) ∧ tx ≤ 1048576) (fun i _ => m - (intOf i).toNat)
  case atStart => exact ⟨0, _, [], a0, 1048576, Nat.zero_le _, rfl, HP5, rfl, HR5, Nat.le_refl _⟩
  case round =>
    clear HP5 HR5
    obtain ⟨k, v, ls, a, tx, hk, rfl, HPS, HLS, HIT, htx⟩ := hrel
    by_cases hlt : k < m
    · obtain ⟨m0, m1, m2, m4⟩ := HPS.out.takes
      have HX := Lib.hid (expect_any wr 36 HPS.out.inp)
      have hit : (if expE l a 36 ≠ 0 then (expE l a 36, [], 0)
        else if lenE tx l (a + 1) ≠ 0 then (lenE tx l (a + 1), [], 0)
        else if textE l ((digR tx l (a + 1)).2.2 + 2) (digR tx l (a + 1)).2.1 ≠ 0 then (textE l ((digR tx l (a + 1)).2.2 + 2) (digR tx l (a + 1)).2.1, [], 0)
        else itemsF (m - (k + 1)) l ((digR tx l (a + 1)).2.2 + 2 + (digR tx l (a + 1)).2.1 + 2) (tx - (digR tx l (a + 1)).2.1) (ls ++ [cutT l ((digR tx l (a + 1)).2.2 + 2) (digR tx l (a + 1)).2.1])) = R := by
        rw [← HIT.out, show m - k = (m - (k + 1)) + 1 by omega]
        rfl
      have HI2 := Lib.hid hit
      clear hit HIT
      go_wp2_with fail
      refine HX.out.mono ?_
      rintro e w6 ⟨⟨he, rfl, hi6⟩ | ⟨he, rfl⟩, ho⟩
      rotate_left
      · have hr6 : R = (expE l a 36, [], 0) := by rw [← HI2.out, if_pos he]
        exact HPS.out.stop ho R _ he hr6 _ rfl rfl rfl
      have hit : (if lenE tx l (a + 1) ≠ 0 then (lenE tx l (a + 1), [], 0)
        else if textE l ((digR tx l (a + 1)).2.2 + 2) (digR tx l (a + 1)).2.1 ≠ 0 then (textE l ((digR tx l (a + 1)).2.2 + 2) (digR tx l (a + 1)).2.1, [], 0)
        else itemsF (m - (k + 1)) l ((digR tx l (a + 1)).2.2 + 2 + (digR tx l (a + 1)).2.1 + 2) (tx - (digR tx l (a + 1)).2.1) (ls ++ [cutT l ((digR tx l (a + 1)).2.2 + 2) (digR tx l (a + 1)).2.1])) = R := by
        exact (if_neg (by rw [he]; decide)).symm.trans HI2.out
      have HI3 := Lib.hid hit
      have HP6 := Lib.hid (HPS.out.only ho hi6)
      clear hit HI2 HX he hi6 ho HPS m0 m1 m2 m4
      have HLN := Lib.hid (length_any w6.drew tx (HP6.out.drew 1).inp (by omega))
      have htc := (HP6.out.drew 1).txs.1
      change w6.drew.cell? _ = _ at htc
      have HDL := Lib.hid (digR_le (most := tx) (l := l) (a := a + 1))
      have HQ6 : Hid (PS w w6.drew G B A n c l v ls (a + 1) (tx : Nat)) := Lib.hid (HP6.out.drew 1)
      go_wp2_with fail
      refine wp_region_held_drew (S := SB B G) (by kernel_rfl) (HP6.out.drew 1).sb (fun hHeld => ?_)
      refine wpAnyH_take (i := 1) (v := ?_) rfl (by kernel_rfl) (by kernel_rfl) (by kernel_rfl) (fun c a w h => stop_put 30 (by decide) (by decide) (by decide) c a _ w h) (Or.inl ⟨by rfl, ?_⟩) (by assumption) ?_
      rotate_left
      · intro w hSw
        obtain ⟨s1, s2⟩ := hSw
        go_simp
        try with_reducible rfl
      try simp only [Act.put, List.setIfInBounds_toArray, List.set_cons_zero, List.set_cons_succ]
      refine wpAnyH_take (i := 2) (v := mv 65 G) rfl (by kernel_rfl) (by kernel_rfl) (by kernel_rfl) (fun c a w h => stop_put 31 (by decide) (by decide) (by decide) c a _ w h) (Or.inl ⟨by rfl, ?_⟩) (by assumption) ?_
      · intro w hSw
        obtain ⟨s1, s2⟩ := hSw
        go_simp
        try with_reducible rfl
      try simp only [Act.put, List.setIfInBounds_toArray, List.set_cons_zero, List.set_cons_succ]
      refine wpAnyH_take (i := 3) (v := ?_) rfl (by kernel_rfl) (by kernel_rfl) (by kernel_rfl) (fun c a w h => stop_put 32 (by decide) (by decide) (by decide) c a _ w h) (Or.inl ⟨by rfl, ?_⟩) (by assumption) ?_
      rotate_left
      · intro w hSw
        obtain ⟨s1, s2⟩ := hSw
        go_simp
        try with_reducible rfl
      try simp only [Act.put, List.setIfInBounds_toArray, List.set_cons_zero, List.set_cons_succ]
      refine wpAnyH_take (i := 4) (v := mv 63 G) rfl (by kernel_rfl) (by kernel_rfl) (by kernel_rfl) (fun c a w h => stop_put 33 (by decide) (by decide) (by decide) c a _ w h) (Or.inl ⟨by rfl, ?_⟩) (by assumption) ?_
      · intro w hSw
        obtain ⟨s1, s2⟩ := hSw
        go_simp
        try with_reducible rfl
      try simp only [Act.put, List.setIfInBounds_toArray, List.set_cons_zero, List.set_cons_succ]
      refine wpAnyH_take (i := 5) (v := ?_) rfl (by kernel_rfl) (by kernel_rfl) (by kernel_rfl) (fun c a w h => stop_put 34 (by decide) (by decide) (by decide) c a _ w h) (Or.inl ⟨by rfl, ?_⟩) (by assumption) ?_
      rotate_left
      · intro w hSw
        obtain ⟨s1, s2⟩ := hSw
        go_simp
        try with_reducible rfl
      try simp only [Act.put, List.setIfInBounds_toArray, List.set_cons_zero, List.set_cons_succ]
      refine wpAnyH_take (i := 6) (v := ?_) rfl (by kernel_rfl) (by kernel_rfl) (by kernel_rfl) (fun c a w h => stop_put 35 (by decide) (by decide) (by decide) c a _ w h) (Or.inl ⟨by rfl, ?_⟩) (by assumption) ?_
      rotate_left
      · intro w hSw
        obtain ⟨s1, s2⟩ := hSw
        go_simp
        try with_reducible rfl
      try simp only [Act.put, List.setIfInBounds_toArray, List.set_cons_zero, List.set_cons_succ]
      refine wpAnyH_take (i := 7) (v := ?_) rfl (by kernel_rfl) (by kernel_rfl) (by kernel_rfl) (fun c a w h => stop_put 36 (by decide) (by decide) (by decide) c a _ w h) (Or.inl ⟨by rfl, ?_⟩) (by assumption) ?_
      rotate_left
      · intro w hSw
        obtain ⟨s1, s2⟩ := hSw
        go_simp
        try with_reducible rfl
      try simp only [Act.put, List.setIfInBounds_toArray, List.set_cons_zero, List.set_cons_succ]
      refine wpAnyH_ready (rs := [0, 8]) (by kernel_rfl) (by simp) ?_
      refine AllReadyH.cons rfl (fun K hK => ?_) (AllReadyH.cons rfl (fun K hK => ?_) AllReadyH.nil)
      · have hs0 := HQ6.out.ss.1
        go_simp
        refine hK.out _ _ hHeld (fun hHeld => ?_)
        clear hK K hs0
        try simp only [Act.put, List.setIfInBounds_toArray, List.set_cons_zero, List.set_cons_succ]
        refine wpAnyH_ready (rs := [8]) (by kernel_rfl) (by simp) ?_
        refine AllReadyH.cons rfl (fun K hK => ?_) AllReadyH.nil
        have htc := HQ6.out.txs.1
        go_simp
        refine hK.out _ _ hHeld (fun hHeld => ?_)
        clear hK K htc
        try simp only [Act.put, List.setIfInBounds_toArray, List.set_cons_zero, List.set_cons_succ]
        refine wpAnyH_ready (rs := [9]) (by kernel_rfl) (by simp) ?_
        refine AllReadyH.cons rfl (fun K hK => ?_) AllReadyH.nil
        go_simp
        refine HLN.out.mono ?_
        rintro e w7 ⟨⟨he, rfl, hi7⟩ | ⟨he, rfl⟩, ho⟩
        rotate_left
        · have hr7 : R = (lenE tx l (a + 1), [], 0) := (((if_pos he).symm).trans HI3.out).symm
          exact (HP6.out.drew 1).stop ho R _ he hr7 _ rfl rfl rfl
        have HI7 := Lib.hid (((if_neg (by rw [he]; decide)).symm).trans HI3.out)
        have hd7 := HDL.out (lenE_zero he)
        have HP7 := Lib.hid ((HP6.out.drew 1).only ho hi7)
        clear he hi7 ho HI3 HLN HDL
        have HTT := Lib.hid (text_any w7 _ HP7.out.inp (show (digR tx l (a + 1)).2.1 ≤ 1000000000 by omega) (by omega) (by omega))
        refine hK.out _ _ HP7.out.sb (fun hHeld => ?_)
        clear hK K
        try simp only [Act.put, List.setIfInBounds_toArray, List.set_cons_zero, List.set_cons_succ]
        refine wpAnyH_ready (rs := [10]) (by kernel_rfl) (by simp) ?_
        refine AllReadyH.cons rfl (fun K hK => ?_) AllReadyH.nil
        go_simp
        refine HTT.out.mono ?_
        rintro e w8 ⟨⟨he, rfl, hi8⟩ | ⟨he, rfl⟩, ho⟩
        rotate_left
        · have hr8 : R = (textE l ((digR tx l (a + 1)).2.2 + 2) (digR tx l (a + 1)).2.1, [], 0) := (((if_pos he).symm).trans HI7.out).symm
          exact HP7.out.stop ho R _ he hr8 _ rfl rfl rfl
        have HI8 := Lib.hid (((if_neg (by rw [he]; decide)).symm).trans HI7.out)
        have HP8 := Lib.hid (HP7.out.only ho hi8)
        clear he hi8 ho HI7 HTT
        refine hK.out _ _ HP8.out.sb (fun hHeld => ?_)
        clear hK K
        try simp only [Act.put, List.setIfInBounds_toArray, List.set_cons_zero, List.set_cons_succ]
        refine wpAnyH_ready (rs := [11]) (by kernel_rfl) (by simp) ?_
        refine AllReadyH.cons rfl (fun K hK => ?_) AllReadyH.nil
        have HP9 := Lib.hid (HP8.out.below (below_new w8 (.cells #[.string (cutT l ((digR tx l (a + 1)).2.2 + 2) (digR tx l (a + 1)).2.1)] 9)))
        go_simp
        refine hK.out _ _ HP9.out.sb (fun hHeld => ?_)
        clear hK K
        try simp only [Act.put, List.setIfInBounds_toArray, List.set_cons_zero, List.set_cons_succ]
        refine wpAnyH_ready (rs := [12]) (by kernel_rfl) (by simp) ?_
        refine AllReadyH.cons rfl (fun K hK => ?_) AllReadyH.nil
        refine step_append_lies _ (by rfl) _ _ _ (by rfl) (B + 1) 9 i0 _ 1 16 Tryd.underlying22 hi hz0 hz1 hz2 rfl (by omega) v k (cellsS ls) (by rfl) (HLS.out ▸ HP9.out.own) ⟨w8.heap.size, 0, none⟩ 1 1 [.string (cutT l ((digR tx l (a + 1)).2.2 + 2) (digR tx l (a + 1)).2.1)] (by rfl) (by rfl) (World.news_of_block (cs := #[.string (cutT l ((digR tx l (a + 1)).2.2 + 2) (digR tx l (a + 1)).2.1)]) (t := 9) (fr := (0, 0)) (heap_alloc_new w8 _)) (by simp [Value.oneCell']) (by omega) (by simp only [maxLen]; omega) (by omega) (HP9.out.bx) (w8.heap.size + 1) (by simp) ?_
        intro g1 c1 w9 hown9 hgr9 hat hlt9
        have HR9 := Lib.hid (HP8.out.app k _ _ HB.out hown9 HLS.out hgr9)
        clear hown9 hgr9 hat hlt9
        refine hK.out _ _ HR9.out.1.2 (fun hHeld => ?_)
        clear hK K
        try simp only [Act.put, List.setIfInBounds_toArray, List.set_cons_zero, List.set_cons_succ]
        refine wpAnyH_ready (rs := [13]) (by kernel_rfl) (by simp) ?_
        refine AllReadyH.cons rfl (fun K hK => ?_) AllReadyH.nil
        have hc9 := HR9.out.1.1
        have hf9 := HR9.out.2.1
        go_simp
        refine hK.out _ _ HR9.out.2.2.sb (fun hHeld => ?_)
        clear hK K hc9 hf9
        try simp only [Act.put, List.setIfInBounds_toArray, List.set_cons_zero, List.set_cons_succ]
        refine wpAnyH_done (by kernel_rfl) ?_ _
        go_wp2_with fail
        go_roundw
        case rel => exact ⟨k + 1, _, _, _, tx - (digR tx l (a + 1)).2.1, by omega, by go_num, by have h := HR9.out.2.2; rw [show ((tx : Int) - ((digR tx l (a + 1)).2.1 : Int)) = ((tx - (digR tx l (a + 1)).2.1 : Nat) : Int) by omega] at h; exact Lib.hid h, by show _ = _; rw [List.length_append, HLS.out]; rfl, HI8, by omega⟩
        case measure => simp [intOf]; omega
      · have htc := HQ6.out.txs.1
        go_simp
        refine hK.out _ _ hHeld (fun hHeld => ?_)
        clear hK K htc
        try simp only [Act.put, List.setIfInBounds_toArray, List.set_cons_zero, List.set_cons_succ]
        refine wpAnyH_ready (rs := [0, 9]) (by kernel_rfl) (by simp) ?_
        refine AllReadyH.cons rfl (fun K hK => ?_) (AllReadyH.cons rfl (fun K hK => ?_) AllReadyH.nil)
        · have hs0 := HQ6.out.ss.1
          go_simp
          refine hK.out _ _ hHeld (fun hHeld => ?_)
          clear hK K hs0
          try simp only [Act.put, List.setIfInBounds_toArray, List.set_cons_zero, List.set_cons_succ]
          refine wpAnyH_ready (rs := [9]) (by kernel_rfl) (by simp) ?_
          refine AllReadyH.cons rfl (fun K hK => ?_) AllReadyH.nil
          go_simp
          refine HLN.out.mono ?_
          rintro e w7 ⟨⟨he, rfl, hi7⟩ | ⟨he, rfl⟩, ho⟩
          rotate_left
          · have hr7 : R = (lenE tx l (a + 1), [], 0) := (((if_pos he).symm).trans HI3.out).symm
            exact (HP6.out.drew 1).stop ho R _ he hr7 _ rfl rfl rfl
          have HI7 := Lib.hid (((if_neg (by rw [he]; decide)).symm).trans HI3.out)
          have hd7 := HDL.out (lenE_zero he)
          have HP7 := Lib.hid ((HP6.out.drew 1).only ho hi7)
          clear he hi7 ho HI3 HLN HDL
          have HTT := Lib.hid (text_any w7 _ HP7.out.inp (show (digR tx l (a + 1)).2.1 ≤ 1000000000 by omega) (by omega) (by omega))
          refine hK.out _ _ HP7.out.sb (fun hHeld => ?_)
          clear hK K
          try simp only [Act.put, List.setIfInBounds_toArray, List.set_cons_zero, List.set_cons_succ]
          refine wpAnyH_ready (rs := [10]) (by kernel_rfl) (by simp) ?_
          refine AllReadyH.cons rfl (fun K hK => ?_) AllReadyH.nil
          go_simp
          refine HTT.out.mono ?_
          rintro e w8 ⟨⟨he, rfl, hi8⟩ | ⟨he, rfl⟩, ho⟩
          rotate_left
          · have hr8 : R = (textE l ((digR tx l (a + 1)).2.2 + 2) (digR tx l (a + 1)).2.1, [], 0) := (((if_pos he).symm).trans HI7.out).symm
            exact HP7.out.stop ho R _ he hr8 _ rfl rfl rfl
          have HI8 := Lib.hid (((if_neg (by rw [he]; decide)).symm).trans HI7.out)
          have HP8 := Lib.hid (HP7.out.only ho hi8)
          clear he hi8 ho HI7 HTT
          refine hK.out _ _ HP8.out.sb (fun hHeld => ?_)
          clear hK K
          try simp only [Act.put, List.setIfInBounds_toArray, List.set_cons_zero, List.set_cons_succ]
          refine wpAnyH_ready (rs := [11]) (by kernel_rfl) (by simp) ?_
          refine AllReadyH.cons rfl (fun K hK => ?_) AllReadyH.nil
          have HP9 := Lib.hid (HP8.out.below (below_new w8 (.cells #[.string (cutT l ((digR tx l (a + 1)).2.2 + 2) (digR tx l (a + 1)).2.1)] 9)))
          go_simp
          refine hK.out _ _ HP9.out.sb (fun hHeld => ?_)
          clear hK K
          try simp only [Act.put, List.setIfInBounds_toArray, List.set_cons_zero, List.set_cons_succ]
          refine wpAnyH_ready (rs := [12]) (by kernel_rfl) (by simp) ?_
          refine AllReadyH.cons rfl (fun K hK => ?_) AllReadyH.nil
          refine step_append_lies _ (by rfl) _ _ _ (by rfl) (B + 1) 9 i0 _ 1 16 Tryd.underlying22 hi hz0 hz1 hz2 rfl (by omega) v k (cellsS ls) (by rfl) (HLS.out ▸ HP9.out.own) ⟨w8.heap.size, 0, none⟩ 1 1 [.string (cutT l ((digR tx l (a + 1)).2.2 + 2) (digR tx l (a + 1)).2.1)] (by rfl) (by rfl) (World.news_of_block (cs := #[.string (cutT l ((digR tx l (a + 1)).2.2 + 2) (digR tx l (a + 1)).2.1)]) (t := 9) (fr := (0, 0)) (heap_alloc_new w8 _)) (by simp [Value.oneCell']) (by omega) (by simp only [maxLen]; omega) (by omega) (HP9.out.bx) (w8.heap.size + 1) (by simp) ?_
          intro g1 c1 w9 hown9 hgr9 hat hlt9
          have HR9 := Lib.hid (HP8.out.app k _ _ HB.out hown9 HLS.out hgr9)
          clear hown9 hgr9 hat hlt9
          refine hK.out _ _ HR9.out.1.2 (fun hHeld => ?_)
          clear hK K
          try simp only [Act.put, List.setIfInBounds_toArray, List.set_cons_zero, List.set_cons_succ]
          refine wpAnyH_ready (rs := [13]) (by kernel_rfl) (by simp) ?_
          refine AllReadyH.cons rfl (fun K hK => ?_) AllReadyH.nil
          have hc9 := HR9.out.1.1
          have hf9 := HR9.out.2.1
          go_simp
          refine hK.out _ _ HR9.out.2.2.sb (fun hHeld => ?_)
          clear hK K hc9 hf9
          try simp only [Act.put, List.setIfInBounds_toArray, List.set_cons_zero, List.set_cons_succ]
          refine wpAnyH_done (by kernel_rfl) ?_ _
          go_wp2_with fail
          go_roundw
          case rel => exact ⟨k + 1, _, _, _, tx - (digR tx l (a + 1)).2.1, by omega, by go_num, by have h := HR9.out.2.2; rw [show ((tx : Int) - ((digR tx l (a + 1)).2.1 : Int)) = ((tx - (digR tx l (a + 1)).2.1 : Nat) : Int) by omega] at h; exact Lib.hid h, by show _ = _; rw [List.length_append, HLS.out]; rfl, HI8, by omega⟩
          case measure => simp [intOf]; omega
        · go_simp
          refine HLN.out.mono ?_
          rintro e w7 ⟨⟨he, rfl, hi7⟩ | ⟨he, rfl⟩, ho⟩
          rotate_left
          · have hr7 : R = (lenE tx l (a + 1), [], 0) := (((if_pos he).symm).trans HI3.out).symm
            exact (HP6.out.drew 1).stop ho R _ he hr7 _ rfl rfl rfl
          have HI7 := Lib.hid (((if_neg (by rw [he]; decide)).symm).trans HI3.out)
          have hd7 := HDL.out (lenE_zero he)
          have HP7 := Lib.hid ((HP6.out.drew 1).only ho hi7)
          clear he hi7 ho HI3 HLN HDL
          have HTT := Lib.hid (text_any w7 _ HP7.out.inp (show (digR tx l (a + 1)).2.1 ≤ 1000000000 by omega) (by omega) (by omega))
          refine hK.out _ _ HP7.out.sb (fun hHeld => ?_)
          clear hK K
          try simp only [Act.put, List.setIfInBounds_toArray, List.set_cons_zero, List.set_cons_succ]
          refine wpAnyH_ready (rs := [0, 10]) (by kernel_rfl) (by simp) ?_
          refine AllReadyH.cons rfl (fun K hK => ?_) (AllReadyH.cons rfl (fun K hK => ?_) AllReadyH.nil)
          · have hs0 := HP7.out.ss.1
            go_simp
            refine hK.out _ _ hHeld (fun hHeld => ?_)
            clear hK K hs0
            try simp only [Act.put, List.setIfInBounds_toArray, List.set_cons_zero, List.set_cons_succ]
            refine wpAnyH_ready (rs := [10]) (by kernel_rfl) (by simp) ?_
            refine AllReadyH.cons rfl (fun K hK => ?_) AllReadyH.nil
            go_simp
            refine HTT.out.mono ?_
            rintro e w8 ⟨⟨he, rfl, hi8⟩ | ⟨he, rfl⟩, ho⟩
            rotate_left
            · have hr8 : R = (textE l ((digR tx l (a + 1)).2.2 + 2) (digR tx l (a + 1)).2.1, [], 0) := (((if_pos he).symm).trans HI7.out).symm
              exact HP7.out.stop ho R _ he hr8 _ rfl rfl rfl
            have HI8 := Lib.hid (((if_neg (by rw [he]; decide)).symm).trans HI7.out)
            have HP8 := Lib.hid (HP7.out.only ho hi8)
            clear he hi8 ho HI7 HTT
            refine hK.out _ _ HP8.out.sb (fun hHeld => ?_)
            clear hK K
            try simp only [Act.put, List.setIfInBounds_toArray, List.set_cons_zero, List.set_cons_succ]
            refine wpAnyH_ready (rs := [11]) (by kernel_rfl) (by simp) ?_
            refine AllReadyH.cons rfl (fun K hK => ?_) AllReadyH.nil
            have HP9 := Lib.hid (HP8.out.below (below_new w8 (.cells #[.string (cutT l ((digR tx l (a + 1)).2.2 + 2) (digR tx l (a + 1)).2.1)] 9)))
            go_simp
            refine hK.out _ _ HP9.out.sb (fun hHeld => ?_)
            clear hK K
            try simp only [Act.put, List.setIfInBounds_toArray, List.set_cons_zero, List.set_cons_succ]
            refine wpAnyH_ready (rs := [12]) (by kernel_rfl) (by simp) ?_
            refine AllReadyH.cons rfl (fun K hK => ?_) AllReadyH.nil
            refine step_append_lies _ (by rfl) _ _ _ (by rfl) (B + 1) 9 i0 _ 1 16 Tryd.underlying22 hi hz0 hz1 hz2 rfl (by omega) v k (cellsS ls) (by rfl) (HLS.out ▸ HP9.out.own) ⟨w8.heap.size, 0, none⟩ 1 1 [.string (cutT l ((digR tx l (a + 1)).2.2 + 2) (digR tx l (a + 1)).2.1)] (by rfl) (by rfl) (World.news_of_block (cs := #[.string (cutT l ((digR tx l (a + 1)).2.2 + 2) (digR tx l (a + 1)).2.1)]) (t := 9) (fr := (0, 0)) (heap_alloc_new w8 _)) (by simp [Value.oneCell']) (by omega) (by simp only [maxLen]; omega) (by omega) (HP9.out.bx) (w8.heap.size + 1) (by simp) ?_
            intro g1 c1 w9 hown9 hgr9 hat hlt9
            have HR9 := Lib.hid (HP8.out.app k _ _ HB.out hown9 HLS.out hgr9)
            clear hown9 hgr9 hat hlt9
            refine hK.out _ _ HR9.out.1.2 (fun hHeld => ?_)
            clear hK K
            try simp only [Act.put, List.setIfInBounds_toArray, List.set_cons_zero, List.set_cons_succ]
            refine wpAnyH_ready (rs := [13]) (by kernel_rfl) (by simp) ?_
            refine AllReadyH.cons rfl (fun K hK => ?_) AllReadyH.nil
            have hc9 := HR9.out.1.1
            have hf9 := HR9.out.2.1
            go_simp
            refine hK.out _ _ HR9.out.2.2.sb (fun hHeld => ?_)
            clear hK K hc9 hf9
            try simp only [Act.put, List.setIfInBounds_toArray, List.set_cons_zero, List.set_cons_succ]
            refine wpAnyH_done (by kernel_rfl) ?_ _
            go_wp2_with fail
            go_roundw
            case rel => exact ⟨k + 1, _, _, _, tx - (digR tx l (a + 1)).2.1, by omega, by go_num, by have h := HR9.out.2.2; rw [show ((tx : Int) - ((digR tx l (a + 1)).2.1 : Int)) = ((tx - (digR tx l (a + 1)).2.1 : Nat) : Int) by omega] at h; exact Lib.hid h, by show _ = _; rw [List.length_append, HLS.out]; rfl, HI8, by omega⟩
            case measure => simp [intOf]; omega
          · go_simp
            refine HTT.out.mono ?_
            rintro e w8 ⟨⟨he, rfl, hi8⟩ | ⟨he, rfl⟩, ho⟩
            rotate_left
            · have hr8 : R = (textE l ((digR tx l (a + 1)).2.2 + 2) (digR tx l (a + 1)).2.1, [], 0) := (((if_pos he).symm).trans HI7.out).symm
              exact HP7.out.stop ho R _ he hr8 _ rfl rfl rfl
            have HI8 := Lib.hid (((if_neg (by rw [he]; decide)).symm).trans HI7.out)
            have HP8 := Lib.hid (HP7.out.only ho hi8)
            clear he hi8 ho HI7 HTT
            refine hK.out _ _ HP8.out.sb (fun hHeld => ?_)
            clear hK K
            try simp only [Act.put, List.setIfInBounds_toArray, List.set_cons_zero, List.set_cons_succ]
            refine wpAnyH_ready (rs := [0, 11]) (by kernel_rfl) (by simp) ?_
            refine AllReadyH.cons rfl (fun K hK => ?_) (AllReadyH.cons rfl (fun K hK => ?_) AllReadyH.nil)
            · have hs0 := HP8.out.ss.1
              go_simp
              refine hK.out _ _ hHeld (fun hHeld => ?_)
              clear hK K hs0
              try simp only [Act.put, List.setIfInBounds_toArray, List.set_cons_zero, List.set_cons_succ]
              refine wpAnyH_ready (rs := [11]) (by kernel_rfl) (by simp) ?_
              refine AllReadyH.cons rfl (fun K hK => ?_) AllReadyH.nil
              have HP9 := Lib.hid (HP8.out.below (below_new w8 (.cells #[.string (cutT l ((digR tx l (a + 1)).2.2 + 2) (digR tx l (a + 1)).2.1)] 9)))
              go_simp
              refine hK.out _ _ HP9.out.sb (fun hHeld => ?_)
              clear hK K
              try simp only [Act.put, List.setIfInBounds_toArray, List.set_cons_zero, List.set_cons_succ]
              refine wpAnyH_ready (rs := [12]) (by kernel_rfl) (by simp) ?_
              refine AllReadyH.cons rfl (fun K hK => ?_) AllReadyH.nil
              refine step_append_lies _ (by rfl) _ _ _ (by rfl) (B + 1) 9 i0 _ 1 16 Tryd.underlying22 hi hz0 hz1 hz2 rfl (by omega) v k (cellsS ls) (by rfl) (HLS.out ▸ HP9.out.own) ⟨w8.heap.size, 0, none⟩ 1 1 [.string (cutT l ((digR tx l (a + 1)).2.2 + 2) (digR tx l (a + 1)).2.1)] (by rfl) (by rfl) (World.news_of_block (cs := #[.string (cutT l ((digR tx l (a + 1)).2.2 + 2) (digR tx l (a + 1)).2.1)]) (t := 9) (fr := (0, 0)) (heap_alloc_new w8 _)) (by simp [Value.oneCell']) (by omega) (by simp only [maxLen]; omega) (by omega) (HP9.out.bx) (w8.heap.size + 1) (by simp) ?_
              intro g1 c1 w9 hown9 hgr9 hat hlt9
              have HR9 := Lib.hid (HP8.out.app k _ _ HB.out hown9 HLS.out hgr9)
              clear hown9 hgr9 hat hlt9
              refine hK.out _ _ HR9.out.1.2 (fun hHeld => ?_)
              clear hK K
              try simp only [Act.put, List.setIfInBounds_toArray, List.set_cons_zero, List.set_cons_succ]
              refine wpAnyH_ready (rs := [13]) (by kernel_rfl) (by simp) ?_
              refine AllReadyH.cons rfl (fun K hK => ?_) AllReadyH.nil
              have hc9 := HR9.out.1.1
              have hf9 := HR9.out.2.1
              go_simp
              refine hK.out _ _ HR9.out.2.2.sb (fun hHeld => ?_)
              clear hK K hc9 hf9
              try simp only [Act.put, List.setIfInBounds_toArray, List.set_cons_zero, List.set_cons_succ]
              refine wpAnyH_done (by kernel_rfl) ?_ _
              go_wp2_with fail
              go_roundw
              case rel => exact ⟨k + 1, _, _, _, tx - (digR tx l (a + 1)).2.1, by omega, by go_num, by have h := HR9.out.2.2; rw [show ((tx : Int) - ((digR tx l (a + 1)).2.1 : Int)) = ((tx - (digR tx l (a + 1)).2.1 : Nat) : Int) by omega] at h; exact Lib.hid h, by show _ = _; rw [List.length_append, HLS.out]; rfl, HI8, by omega⟩
              case measure => simp [intOf]; omega
            · have HP9 := Lib.hid (HP8.out.below (below_new w8 (.cells #[.string (cutT l ((digR tx l (a + 1)).2.2 + 2) (digR tx l (a + 1)).2.1)] 9)))
              go_simp
              refine hK.out _ _ HP9.out.sb (fun hHeld => ?_)
              clear hK K
              try simp only [Act.put, List.setIfInBounds_toArray, List.set_cons_zero, List.set_cons_succ]
              refine wpAnyH_ready (rs := [0]) (by kernel_rfl) (by simp) ?_
              refine AllReadyH.cons rfl (fun K hK => ?_) AllReadyH.nil
              have hs0 := HP9.out.ss.1
              go_simp
              refine hK.out _ _ hHeld (fun hHeld => ?_)
              clear hK K hs0
              try simp only [Act.put, List.setIfInBounds_toArray, List.set_cons_zero, List.set_cons_succ]
              refine wpAnyH_ready (rs := [12]) (by kernel_rfl) (by simp) ?_
              refine AllReadyH.cons rfl (fun K hK => ?_) AllReadyH.nil
              refine step_append_lies _ (by rfl) _ _ _ (by rfl) (B + 1) 9 i0 _ 1 16 Tryd.underlying22 hi hz0 hz1 hz2 rfl (by omega) v k (cellsS ls) (by rfl) (HLS.out ▸ HP9.out.own) ⟨w8.heap.size, 0, none⟩ 1 1 [.string (cutT l ((digR tx l (a + 1)).2.2 + 2) (digR tx l (a + 1)).2.1)] (by rfl) (by rfl) (World.news_of_block (cs := #[.string (cutT l ((digR tx l (a + 1)).2.2 + 2) (digR tx l (a + 1)).2.1)]) (t := 9) (fr := (0, 0)) (heap_alloc_new w8 _)) (by simp [Value.oneCell']) (by omega) (by simp only [maxLen]; omega) (by omega) (HP9.out.bx) (w8.heap.size + 1) (by simp) ?_
              intro g1 c1 w9 hown9 hgr9 hat hlt9
              have HR9 := Lib.hid (HP8.out.app k _ _ HB.out hown9 HLS.out hgr9)
              clear hown9 hgr9 hat hlt9
              refine hK.out _ _ HR9.out.1.2 (fun hHeld => ?_)
              clear hK K
              try simp only [Act.put, List.setIfInBounds_toArray, List.set_cons_zero, List.set_cons_succ]
              refine wpAnyH_ready (rs := [13]) (by kernel_rfl) (by simp) ?_
              refine AllReadyH.cons rfl (fun K hK => ?_) AllReadyH.nil
              have hc9 := HR9.out.1.1
              have hf9 := HR9.out.2.1
              go_simp
              refine hK.out _ _ HR9.out.2.2.sb (fun hHeld => ?_)
              clear hK K hc9 hf9
              try simp only [Act.put, List.setIfInBounds_toArray, List.set_cons_zero, List.set_cons_succ]
              refine wpAnyH_done (by kernel_rfl) ?_ _
              go_wp2_with fail
              go_roundw
              case rel => exact ⟨k + 1, _, _, _, tx - (digR tx l (a + 1)).2.1, by omega, by go_num, by have h := HR9.out.2.2; rw [show ((tx : Int) - ((digR tx l (a + 1)).2.1 : Int)) = ((tx - (digR tx l (a + 1)).2.1 : Nat) : Int) by omega] at h; exact Lib.hid h, by show _ = _; rw [List.length_append, HLS.out]; rfl, HI8, by omega⟩
              case measure => simp [intOf]; omega
    · obtain rfl : k = m := by omega
      obtain ⟨A9, c9, rfl, _⟩ := own_rdV HPS.out.own
      have hr0 : (0, ls, a) = R := by
        have h := HIT.out
        rw [Nat.sub_self] at h
        exact h
      have HR0 := Lib.hid hr0
      have hG1 := HPS.out.txs.2
      have hs0 := HPS.out.ss.1
      have hs1 := cell_one HPS.out.v1
      have hs2 := cell_one HPS.out.v2
      have hf0 := free_row HPS.out.v0 0
      have hf1 := free_row HPS.out.v1 0
      have hf2 := free_row HPS.out.v2 0
      have hgs : w.heap.size + 3 ≤ G := HPS.out.g3
      clear hr0 HIT
      go_wp2_with fail
      refine wp_region_held_drew (S := SV w.heap.size G (.slice A9 ls.length c9) a) (by kernel_rfl) ⟨hs0, hG1⟩ (fun hHeld => ?_)
      refine wpAnyH_take (i := 0) (v := .slice A9 ls.length c9) rfl (by kernel_rfl) (by kernel_rfl) (by kernel_rfl) (fun c a w h => stop_put 43 (by decide) (by decide) (by decide) c a _ w h) (Or.inl ⟨by rfl, ?_⟩) (by assumption) ?_
      · intro w hSw
        obtain ⟨s1, s2⟩ := hSw
        go_simp
        try with_reducible rfl
      try simp only [Act.put, List.setIfInBounds_toArray, List.set_cons_zero, List.set_cons_succ]
      refine wpAnyH_take (i := 1) (v := ?_) rfl (by kernel_rfl) (by kernel_rfl) (by kernel_rfl) (fun c a w h => stop_put 44 (by decide) (by decide) (by decide) c a _ w h) (Or.inl ⟨by rfl, ?_⟩) (by assumption) ?_
      rotate_left
      · intro w hSw
        obtain ⟨s1, s2⟩ := hSw
        go_simp
        try with_reducible rfl
      try simp only [Act.put, List.setIfInBounds_toArray, List.set_cons_zero, List.set_cons_succ]
      refine wpAnyH_take (i := 2) (v := ?_) rfl (by kernel_rfl) (by kernel_rfl) (by kernel_rfl) (fun c a w h => stop_put 45 (by decide) (by decide) (by decide) c a _ w h) (Or.inl ⟨by rfl, ?_⟩) (by assumption) ?_
      rotate_left
      · intro w hSw
        obtain ⟨s1, s2⟩ := hSw
        go_simp
        try with_reducible rfl
      try simp only [Act.put, List.setIfInBounds_toArray, List.set_cons_zero, List.set_cons_succ]
      refine wpAnyH_take (i := 3) (v := ?_) rfl (by kernel_rfl) (by kernel_rfl) (by kernel_rfl) (fun c a w h => stop_put 46 (by decide) (by decide) (by decide) c a _ w h) (Or.inl ⟨by rfl, ?_⟩) (by assumption) ?_
      rotate_left
      · intro w hSw
        obtain ⟨s1, s2⟩ := hSw
        go_simp
        try with_reducible rfl
      try simp only [Act.put, List.setIfInBounds_toArray, List.set_cons_zero, List.set_cons_succ]
      refine wpAnyH_take (i := 4) (v := .int .i64 a) rfl (by kernel_rfl) (by kernel_rfl) (by kernel_rfl) (fun c a w h => stop_put 47 (by decide) (by decide) (by decide) c a _ w h) (Or.inl ⟨by rfl, ?_⟩) (by assumption) ?_
      · intro w hSw
        obtain ⟨s1, s2⟩ := hSw
        go_simp
        try with_reducible rfl
      try simp only [Act.put, List.setIfInBounds_toArray, List.set_cons_zero, List.set_cons_succ]
      refine wpAnyH_ready (rs := [5]) (by kernel_rfl) (by simp) ?_
      refine AllReadyH.cons rfl (fun K hK => ?_) AllReadyH.nil
      go_simp
      refine hK.out _ _ (hHeld.same hgs) (fun hHeld => ?_)
      clear hK K
      try simp only [Act.put, List.setIfInBounds_toArray, List.set_cons_zero, List.set_cons_succ]
      refine wpAnyH_ready (rs := [6]) (by kernel_rfl) (by simp) ?_
      refine AllReadyH.cons rfl (fun K hK => ?_) AllReadyH.nil
      go_simp
      refine hK.out _ _ (hHeld.other hgs (by omega) (by omega)) (fun hHeld => ?_)
      clear hK K
      try simp only [Act.put, List.setIfInBounds_toArray, List.set_cons_zero, List.set_cons_succ]
      refine wpAnyH_ready (rs := [7]) (by kernel_rfl) (by simp) ?_
      refine AllReadyH.cons rfl (fun K hK => ?_) AllReadyH.nil
      go_simp
      refine hK.out _ _ (hHeld.other hgs (by omega) (by omega)) (fun hHeld => ?_)
      clear hK K
      try simp only [Act.put, List.setIfInBounds_toArray, List.set_cons_zero, List.set_cons_succ]
      refine wpAnyH_done (by kernel_rfl) ?_ _
      go_wp2_with fail
      exact HPS.out.fin R HR0.out _ rfl rfl rfl
end Go.Proofs.YtglicojojpggmaaDoor
