/- A reply that is none, or begins none. -/
import Derived.Test.YtglicojojpggmaaDoorRp2
namespace Go.Proofs.YtglicojojpggmaaDoor
open Go Go.RowKit
section
variable {G : Nat} {A : Option Addr} {n c : Nat} {l : List UInt8} {a : Nat} {li : Int}
set_option maxRecDepth 100000 in
set_option maxHeartbeats 8000000 in
theorem rep_none (w : World) (lst : Option (List UInt8 → Nat → Nat → Nat → DR)) (tx it : Nat) (h : Inp w G A n c l a (tx : Nat) (it : Nat) li) (ha : ¬ a < l.length) :
    Calls Tryd.prog 57 #[.pointer (some ⟨G, 0, none⟩), .agg (takerV G)] w (RepQ w G A n c l (repS lst l a tx it) li) := by
  have HRV := Lib.hid (RV.new h)
  obtain ⟨D, hD⟩ : ∃ D, repS lst l a tx it = D := ⟨_, rfl⟩
  rw [hD]
  unfold repS at hD
  rw [List.getElem?_eq_none (by omega)] at hD
  have HEK : Hid (D.e = 130) := Lib.hid (by rw [← hD]; rfl)
  have hlen := h.len
  have hpos := h.pos
  clear hD h
  go_enter Tryd.func57, Tryd.ntmps57
  go_upto_region 1 with (fail)
  generalize (w.alloc (.cells (takerV G) 81)).alloc (.cells zero41 41) = W at *
  generalize hB : w.heap.size = B at *
  have HB := Lib.hid hB
  clear hB
  obtain ⟨m0, m1, m2, m3, m4, m5⟩ := HRV.out.takes
  have HPW := Lib.hid (peek_no W HRV.out.inp (by omega))
  go_wp2_with fail
  refine HPW.out.mono ?_
  rintro e w1 ⟨rfl, q, rfl⟩
  exact post_panic (P := Tryd.prog) (fn := Tryd.f57) rfl ⟨.inr ⟨by rw [HEK.out]; decide, by rw [HEK.out]⟩, only_trans HRV.out.only (only_drew G W q)⟩
set_option maxRecDepth 100000 in
set_option maxHeartbeats 8000000 in
theorem rep_bad (w : World) (lst : Option (List UInt8 → Nat → Nat → Nat → DR)) (tx it : Nat) (h : Inp w G A n c l a (tx : Nat) (it : Nat) li) (ha : a < l.length) (h1 : l[a].toNat ≠ 43) (h2 : l[a].toNat ≠ 45) (h3 : l[a].toNat ≠ 58) (h4 : l[a].toNat ≠ 36) (h5 : l[a].toNat ≠ 42) :
    Calls Tryd.prog 57 #[.pointer (some ⟨G, 0, none⟩), .agg (takerV G)] w (RepQ w G A n c l (repS lst l a tx it) li) := by
  have HRV := Lib.hid (RV.new h)
  obtain ⟨D, hD⟩ : ∃ D, repS lst l a tx it = D := ⟨_, rfl⟩
  rw [hD]
  unfold repS at hD
  rw [List.getElem?_eq_getElem ha] at hD
  simp only at hD
  rw [if_neg h1, if_neg h2, if_neg h3, if_neg h4, if_neg h5] at hD
  have HEK : Hid (D.e = 131) := Lib.hid (by rw [← hD]; rfl)
  clear hD
  have HP : Hid (∀ W, Inp W G A n c l a (tx : Nat) (it : Nat) li → Calls Tryd.prog 61 #[.pointer (some ⟨G, 0, none⟩)] W fun e w' => e = .returned (.int .u8 l[a].toNat) ∧ ∃ q, w' = W.drewN q) := Lib.hid (fun W hW => peek_yes W hW ha)
  generalize l[a].toNat = y at HP h1 h2 h3 h4 h5
  have a1 : ((y : Int) == 43) = false := by simp; omega
  have b1 : decide ((y : Int) = 43) = false := decide_eq_false (by omega)
  have a2 : ((y : Int) == 45) = false := by simp; omega
  have b2 : decide ((y : Int) = 45) = false := decide_eq_false (by omega)
  have a3 : ((y : Int) == 58) = false := by simp; omega
  have b3 : decide ((y : Int) = 58) = false := decide_eq_false (by omega)
  have a4 : ((y : Int) == 36) = false := by simp; omega
  have b4 : decide ((y : Int) = 36) = false := decide_eq_false (by omega)
  have a5 : ((y : Int) == 42) = false := by simp; omega
  have b5 : decide ((y : Int) = 42) = false := decide_eq_false (by omega)
  clear h h1 h2 h3 h4 h5
  go_enter Tryd.func57, Tryd.ntmps57
  go_upto_region 1 with (fail)
  generalize (w.alloc (.cells (takerV G) 81)).alloc (.cells zero41 41) = W at *
  generalize hB : w.heap.size = B at *
  have HB := Lib.hid hB
  clear hB
  obtain ⟨m0, m1, m2, m3, m4, m5⟩ := HRV.out.takes
  have HPW := Lib.hid (HP.out W HRV.out.inp)
  go_wp2_with fail
  refine HPW.out.mono ?_
  rintro e w1 ⟨rfl, q, rfl⟩
  go_wp2_with fail
  exact post_panic (P := Tryd.prog) (fn := Tryd.f57) rfl ⟨.inr ⟨by rw [HEK.out]; decide, by rw [HEK.out]⟩, only_trans HRV.out.only (only_drew G W q)⟩
set_option maxRecDepth 100000 in
set_option maxHeartbeats 8000000 in
/-- One list more than may be opened. -/
theorem rep_deep (w : World) (tx it : Nat) (h : Inp w G A n c l a (tx : Nat) (it : Nat) 100) (ha : a < l.length) (hx : l[a].toNat = 42) :
    Calls Tryd.prog 57 #[.pointer (some ⟨G, 0, none⟩), .agg (takerV G)] w (RepQ w G A n c l (repS none l a tx it) 100) := by
  have HRV := Lib.hid (RV.new h)
  obtain ⟨D, hD⟩ : ∃ D, repS none l a tx it = D := ⟨_, rfl⟩
  rw [hD]
  unfold repS at hD
  rw [List.getElem?_eq_getElem ha] at hD
  simp only at hD
  rw [if_neg (by omega), if_neg (by omega), if_neg (by omega), if_neg (by omega), if_pos hx] at hD
  have HEK : Hid (D.e = 131) := Lib.hid (by rw [← hD]; rfl)
  clear hD
  have HP : Hid (∀ W, Inp W G A n c l a (tx : Nat) (it : Nat) 100 → Calls Tryd.prog 61 #[.pointer (some ⟨G, 0, none⟩)] W fun e w' => e = .returned (.int .u8 42) ∧ ∃ q, w' = W.drewN q) := Lib.hid (fun W hW => by have := peek_yes W hW ha; rw [hx] at this; exact this)
  clear h hx
  go_enter Tryd.func57, Tryd.ntmps57
  go_upto_region 1 with (fail)
  generalize (w.alloc (.cells (takerV G) 81)).alloc (.cells zero41 41) = W at *
  generalize hB : w.heap.size = B at *
  have HB := Lib.hid hB
  clear hB
  obtain ⟨m0, m1, m2, m3, m4, m5⟩ := HRV.out.takes
  have HPW := Lib.hid (HP.out W HRV.out.inp)
  go_wp2_with fail
  refine HPW.out.mono ?_
  rintro e w1 ⟨rfl, q, rfl⟩
  obtain ⟨z0, z1, z2, z3, z4, zf⟩ := (HRV.out.inp.drew q).rows
  go_wp2_with fail
  exact post_panic (P := Tryd.prog) (fn := Tryd.f57) rfl ⟨.inr ⟨by rw [HEK.out]; decide, by rw [HEK.out]⟩, only_trans HRV.out.only (only_drew G W q)⟩
set_option maxRecDepth 100000 in
set_option maxHeartbeats 8000000 in
theorem rep_short (w : World) (lst : Option (List UInt8 → Nat → Nat → Nat → DR)) (tx it : Nat) (h : Inp w G A n c l a (tx : Nat) (it : Nat) li) (htx : tx ≤ 1000000000) (hn : n ≤ 1000000000) (ha : a < l.length) (hx : l[a].toNat = 36) (ha1 : ¬ a + 1 < l.length) :
    Calls Tryd.prog 57 #[.pointer (some ⟨G, 0, none⟩), .agg (takerV G)] w (RepQ w G A n c l (repS lst l a tx it) li) := by
  have HRV := Lib.hid (RV.new h)
  obtain ⟨D, hD⟩ : ∃ D, repS lst l a tx it = D := ⟨_, rfl⟩
  rw [hD]
  unfold repS at hD
  rw [List.getElem?_eq_getElem ha] at hD
  simp only at hD
  rw [if_neg (by omega), if_neg (by omega), if_neg (by omega), if_pos hx] at hD
  rw [List.getElem?_eq_none (by omega)] at hD
  simp only at hD
  have HEK : Hid (D.e = 130) := Lib.hid (by rw [← hD]; rfl)
  have HP : Hid (∀ W, Inp W G A n c l a (tx : Nat) (it : Nat) li → Calls Tryd.prog 61 #[.pointer (some ⟨G, 0, none⟩)] W fun e w' => e = .returned (.int .u8 36) ∧ ∃ q, w' = W.drewN q) := Lib.hid (fun W hW => by have := peek_yes W hW ha; rw [hx] at this; exact this)
  have hlen := h.len
  have hpos := h.pos
  clear hD hx h
  go_enter Tryd.func57, Tryd.ntmps57
  go_upto_region 1 with (fail)
  generalize (w.alloc (.cells (takerV G) 81)).alloc (.cells zero41 41) = W at *
  generalize hB : w.heap.size = B at *
  have HB := Lib.hid hB
  clear hB
  obtain ⟨m0, m1, m2, m3, m4, m5⟩ := HRV.out.takes
  have HPW := Lib.hid (HP.out W HRV.out.inp)
  go_wp2_with fail
  refine HPW.out.mono ?_
  rintro e w1 ⟨rfl, q, hq⟩
  have HV1 : Hid (RV w w1 B G A n c l a (tx : Nat) (it : Nat) li) := Lib.hid (by rw [hq]; exact HRV.out.drew q)
  clear hq HPW HP HRV m0 m1 m2 m3 m4 m5
  obtain ⟨z0, z1, z2, z3, z4, zf⟩ := HV1.out.inp.rows
  have hi := HV1.out.inp.at (a + 1) (by omega)
  have hv := HV1.out.next (only_set G 1 w1 (.int .i64 ((a + 1 : Nat) : Int))) hi
  rw [show ((a + 1 : Nat) : Int) = (a : Int) + 1 by omega] at hv
  have HV2 := Lib.hid hv
  clear hi hv
  go_upto_region 21 with (fail)
  clear HV1 z0 z1 z2 z3 z4 zf
  generalize w1.setCell ⟨G, 1, none⟩ (.int .i64 ((a : Int) + 1)) = w2 at *
  obtain ⟨m0, m1, m2, m3, m4, m5⟩ := HV2.out.takes
  have HP2 := Lib.hid (peek_no w2 HV2.out.inp (by omega))
  go_wp2_with fail
  refine HP2.out.mono ?_
  rintro e w3 ⟨rfl, q2, rfl⟩
  exact post_panic (P := Tryd.prog) (fn := Tryd.f57) rfl ⟨.inr ⟨by rw [HEK.out]; decide, by rw [HEK.out]⟩, only_trans HV2.out.only (only_drew G w2 q2)⟩
set_option maxRecDepth 100000 in
set_option maxHeartbeats 8000000 in
theorem rep_nil (w : World) (lst : Option (List UInt8 → Nat → Nat → Nat → DR)) (tx it : Nat) (h : Inp w G A n c l a (tx : Nat) (it : Nat) li) (htx : tx ≤ 1000000000) (hn : n ≤ 1000000000) (ha : a < l.length) (hx : l[a].toNat = 36) (ha1 : a + 1 < l.length) (hy : l[a + 1].toNat = 45) :
    Calls Tryd.prog 57 #[.pointer (some ⟨G, 0, none⟩), .agg (takerV G)] w (RepQ w G A n c l (repS lst l a tx it) li) := by
  have HRV := Lib.hid (RV.new h)
  obtain ⟨D, hD⟩ : ∃ D, repS lst l a tx it = D := ⟨_, rfl⟩
  rw [hD]
  unfold repS at hD
  rw [List.getElem?_eq_getElem ha] at hD
  simp only at hD
  rw [if_neg (by omega), if_neg (by omega), if_neg (by omega), if_pos hx] at hD
  rw [List.getElem?_eq_getElem ha1] at hD
  simp only at hD
  rw [if_neg (by omega)] at hD
  have HD := Lib.hid hD.symm
  have HX0 : Hid (expE l (a + 1) 45 = 0) := Lib.hid (by unfold expE; rw [List.getElem?_eq_getElem ha1]; exact if_pos (UInt8.toNat_inj.1 hy))
  have HP : Hid (∀ W, Inp W G A n c l a (tx : Nat) (it : Nat) li → Calls Tryd.prog 61 #[.pointer (some ⟨G, 0, none⟩)] W fun e w' => e = .returned (.int .u8 36) ∧ ∃ q, w' = W.drewN q) := Lib.hid (fun W hW => by have := peek_yes W hW ha; rw [hx] at this; exact this)
  have hlen := h.len
  have hpos := h.pos
  clear hD hx h
  go_enter Tryd.func57, Tryd.ntmps57
  go_upto_region 1 with (fail)
  generalize (w.alloc (.cells (takerV G) 81)).alloc (.cells zero41 41) = W at *
  generalize hB : w.heap.size = B at *
  have HB := Lib.hid hB
  clear hB
  obtain ⟨m0, m1, m2, m3, m4, m5⟩ := HRV.out.takes
  have HPW := Lib.hid (HP.out W HRV.out.inp)
  go_wp2_with fail
  refine HPW.out.mono ?_
  rintro e w1 ⟨rfl, q, hq⟩
  have HV1 : Hid (RV w w1 B G A n c l a (tx : Nat) (it : Nat) li) := Lib.hid (by rw [hq]; exact HRV.out.drew q)
  clear hq HPW HP HRV m0 m1 m2 m3 m4 m5
  obtain ⟨z0, z1, z2, z3, z4, zf⟩ := HV1.out.inp.rows
  have hi := HV1.out.inp.at (a + 1) (by omega)
  have hv := HV1.out.next (only_set G 1 w1 (.int .i64 ((a + 1 : Nat) : Int))) hi
  rw [show ((a + 1 : Nat) : Int) = (a : Int) + 1 by omega] at hv
  have HV2 := Lib.hid hv
  clear hi hv
  go_upto_region 21 with (fail)
  clear HV1 z0 z1 z2 z3 z4 zf
  generalize w1.setCell ⟨G, 1, none⟩ (.int .i64 ((a : Int) + 1)) = w2 at *
  obtain ⟨m0, m1, m2, m3, m4, m5⟩ := HV2.out.takes
  have HP2 := Lib.hid (peek_yes w2 HV2.out.inp ha1)
  rw [hy] at HP2
  clear hy
  go_wp2_with fail
  refine HP2.out.mono ?_
  rintro e w3 ⟨rfl, q2, hq2⟩
  have HV3 : Hid (RV w w3 B G A n c l (a + 1) (tx : Nat) (it : Nat) li) := Lib.hid (by rw [hq2]; exact HV2.out.drew q2)
  clear hq2 HP2 HV2 m0 m1 m2 m3 m4 m5
  obtain ⟨m0, m1, m2, m3, m4, m5⟩ := HV3.out.takes
  have HX1 := Lib.hid (expect_any w3 45 HV3.out.inp)
  go_wp2_with fail
  refine HX1.out.mono ?_
  rintro e w4 ⟨⟨he, rfl, hi4⟩ | ⟨he, rfl⟩, ho4⟩
  rotate_left
  · exact absurd HX0.out he
  have HV4 := Lib.hid (HV3.out.next ho4 hi4)
  clear he hi4 ho4 HX1 HX0 HV3 m0 m1 m2 m3 m4 m5
  obtain ⟨m0, m1, m2, m3, m4, m5⟩ := HV4.out.takes
  have HX2 := Lib.hid (expect_any w4 49 HV4.out.inp)
  go_wp2_with fail
  refine HX2.out.mono ?_
  rintro e w5 ⟨⟨he, rfl, hi5⟩ | ⟨he, rfl⟩, ho5⟩
  rotate_left
  · have HEK : Hid (D.e = expE l (a + 2) 49) := Lib.hid (by rw [HD.out]; exact if_pos he)
    exact post_panic (P := Tryd.prog) (fn := Tryd.f57) rfl ⟨.inr ⟨by rw [HEK.out]; exact he, by rw [HEK.out]⟩, only_trans HV4.out.only ho5⟩
  have HEN : Hid (D.e = endE l (a + 2 + 1)) := Lib.hid (by rw [HD.out]; exact if_neg (by simpa using he))
  have HV5 := Lib.hid (HV4.out.next ho5 hi5)
  clear he hi5 ho5 HX2 HV4 m0 m1 m2 m3 m4 m5
  have HX3 := Lib.hid (end_any w5 HV5.out.inp)
  go_wp2_with fail
  refine HX3.out.mono ?_
  rintro e w6 ⟨⟨he, rfl, hi6⟩ | ⟨he, rfl⟩, ho6⟩
  rotate_left
  · exact post_panic (P := Tryd.prog) (fn := Tryd.f57) rfl ⟨.inr ⟨by rw [HEN.out]; exact he, by rw [HEN.out]⟩, only_trans HV5.out.only ho6⟩
  have HE0 : Hid (D.e = 0) := Lib.hid (HEN.out.trans he)
  have HV6 := Lib.hid (HV5.out.next ho6 hi6)
  have HZ := Lib.hid HV6.out.rv
  have HFT : Hid (Fits noR) := Lib.hid ⟨by decide, by decide, by decide, by decide, by decide, by decide⟩
  clear he hi6 ho6 HX3 HV5
  go_wp2_with (refine wpList_store_row rfl 41 (.tmp 4) (.tmp 80) rfl (B + 1) (rpV noR none 0) rfl rfl 41 zero41 HZ.out size41 rfl (by simp [Value.oneCell']) ?_)
  have hr := HV6.out.ret (rpV noR none 0)
  refine bodyPost_ret (v := .agg (rpV noR none 0)) (res57 _ _ (B + 1) _ rfl hr.1) rfl ⟨.inl ⟨HE0.out, none, 0, ?_, ?_, ?_⟩, hr.2.2⟩
  · rw [HD.out]
  · rw [HD.out]
    exact ⟨HFT.out, fun _ => rfl, Nat.zero_le _, by rw [show Rp.kids _ = [] from rfl, RpL]; trivial⟩
  · rw [HD.out]
    exact hr.2.1
end
end Go.Proofs.YtglicojojpggmaaDoor
