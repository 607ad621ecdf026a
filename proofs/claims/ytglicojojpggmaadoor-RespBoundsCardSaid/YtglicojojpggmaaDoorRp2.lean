/- A reply that is taken: lines, numbers, texts. -/
import Derived.Test.YtglicojojpggmaaDoorRp1
namespace Go.Proofs.YtglicojojpggmaaDoor
open Go Go.RowKit
theorem lineE_zero {tx : Nat} {l : List UInt8} {a : Nat} (h : lineE tx l a = 0) : (lnR tx l a).1 = 0 := by
  unfold lineE at h
  by_cases h1 : (lnR tx l a).1 = 0
  · exact h1
  · rw [if_pos h1] at h
    exact h
theorem cutT_size (l : List UInt8) (a k : Nat) : (cutT l a k).size ≤ l.length := by
  show ((l.drop a).take k).toArray.size ≤ _
  simp
  omega
theorem step_store_row {P : Program} {ops : Array Oper} {o : Oper} {a : Act} {w : World} {K : Act → World → Prop} {Q : Exit → Act → World → Prop} {E : Prop} (hgd : o.guard = none) (ty : TypeId) (x y : Operand) (ho : o.op = .store ty x y)
    (g : Nat) (cells : Array Value) (hx : a.eval x = .pointer (some ⟨g, 0, none⟩)) (hy : a.eval y = .agg cells)
    (t : TypeId) (old : Array Value) (hg : w.heap[g]? = some (.cells old t (0, 0))) (hi : (P.info? ty).map (·.size) = some cells.size)
    (hold : old.size = cells.size) (h1 : cells.all (·.oneCell') = true)
    (h : K (a.put o.dst undef) (w.setRow g cells)) : if Region.wanted o (yielded ops a.tmps) = true then Oper.wp P o a w K Q else E := by
  have hw : Region.wanted o (yielded ops a.tmps) = true := by simp [Region.wanted, hgd]
  rw [if_pos hw]
  exact wp_store_row ty x y ho g cells hx hy t old hg hi hold h1 h
section
variable {G : Nat} {A : Option Addr} {n c : Nat} {l : List UInt8} {a : Nat} {li : Int}
set_option maxRecDepth 100000 in
set_option maxHeartbeats 8000000 in
theorem rep_plus (w : World) (lst : Option (List UInt8 → Nat → Nat → Nat → DR)) (tx it : Nat) (h : Inp w G A n c l a (tx : Nat) (it : Nat) li) (htx : tx ≤ 1000000000) (hn : n ≤ 1000000000) (ha : a < l.length) (hx : l[a].toNat = 43) :
    Calls Tryd.prog 57 #[.pointer (some ⟨G, 0, none⟩), .agg (takerV G)] w (RepQ w G A n c l (repS lst l a tx it) li) := by
  have HRV := Lib.hid (RV.new h)
  obtain ⟨D, hD⟩ : ∃ D, repS lst l a tx it = D := ⟨_, rfl⟩
  rw [hD]
  unfold repS at hD
  rw [List.getElem?_eq_getElem ha] at hD
  simp only at hD
  rw [if_pos hx] at hD
  have HD := Lib.hid hD.symm
  have HP : Hid (∀ W, Inp W G A n c l a (tx : Nat) (it : Nat) li → Calls Tryd.prog 61 #[.pointer (some ⟨G, 0, none⟩)] W fun e w' => e = .returned (.int .u8 43) ∧ ∃ q, w' = W.drewN q) := Lib.hid (fun W hW => by have := peek_yes W hW ha; rw [hx] at this; exact this)
  have hlen := h.len
  have hpos := h.pos
  clear hD hx h
  go_enter Tryd.func57, Tryd.ntmps57
  go_upto_region 1 with (fail)
  generalize (w.alloc (.cells (takerV G) 81)).alloc (.cells zero41 41) = W at *
  generalize hB : w.heap.size = B at *
  have HB := Lib.hid hB
  clear hB
  obtain ⟨m0, m1, m2, m3, m4, m5⟩ := HRV.out.takes
  have HPW := Lib.hid (HP.out W HRV.out.inp)
  go_wp2_with fail
  refine HPW.out.mono ?_
  rintro e w1 ⟨rfl, q, hq⟩
  have HV1 : Hid (RV w w1 B G A n c l a (tx : Nat) (it : Nat) li) := Lib.hid (by rw [hq]; exact HRV.out.drew q)
  clear hq HPW HP HRV m0 m1 m2 m3 m4 m5
  obtain ⟨z0, z1, z2, z3, z4, zf⟩ := HV1.out.inp.rows
  have hi := HV1.out.inp.at (a + 1) (by omega)
  have hv := HV1.out.next (only_set G 1 w1 (.int .i64 ((a + 1 : Nat) : Int))) hi
  rw [show ((a + 1 : Nat) : Int) = (a : Int) + 1 by omega] at hv
  have HV2 := Lib.hid hv
  clear hi hv
  go_upto_region 14 with (fail)
  clear HV1 z0 z1 z2 z3 z4 zf
  generalize w1.setCell ⟨G, 1, none⟩ (.int .i64 ((a : Int) + 1)) = w2 at *
  obtain ⟨m0, m1, m2, m3, m4, m5⟩ := HV2.out.takes
  have HL := Lib.hid (line_anyP w2 tx HV2.out.inp htx)
  go_wp2_with fail
  refine HL.out.mono ?_
  rintro e w3 ⟨⟨he, rfl, hi3⟩ | ⟨he, rfl⟩, ho3⟩
  rotate_left
  · have HEK : Hid (D.e = lineE tx l (a + 1)) := Lib.hid (by rw [HD.out])
    exact post_panic (P := Tryd.prog) (fn := Tryd.f57) rfl ⟨.inr ⟨by rw [HEK.out]; exact he, by rw [HEK.out]⟩, only_trans HV2.out.only ho3⟩
  have hln := lnF_le (l.length + 1 - (a + 1)) (a + 1) (show lnF (l.length + 1 - (a + 1)) tx (a + 1) l (a + 1) = (0, (lnR tx l (a + 1)).2) from Prod.ext (lineE_zero he) rfl)
  have hk := hln.2.2 (Nat.le_refl _) (by omega)
  have hcz := cutT_size l (a + 1) ((lnR tx l (a + 1)).2 - (a + 1))
  rw [show ((tx : Int) - (((lnR tx l (a + 1)).2 - (a + 1) : Nat) : Int)) = ((tx - ((lnR tx l (a + 1)).2 - (a + 1)) : Nat) : Int) by omega] at hi3
  have HV3 := Lib.hid (HV2.out.next ho3 hi3)
  have HE0 : Hid (D.e = 0) := Lib.hid (by rw [HD.out]; exact he)
  have HZ := Lib.hid HV3.out.rv
  have HFT : Hid (Fits (.mk 1 0 (cutT l (a + 1) ((lnR tx l (a + 1)).2 - (a + 1))) [])) := Lib.hid ⟨by show _ ≤ (0 : Int); decide, by show (0 : Int) ≤ _; decide, by show _ ≤ (1 : Int); decide, by show (1 : Int) ≤ _; decide, by show (cutT _ _ _).size ≤ _; omega, Nat.zero_le _⟩
  clear hi3 ho3 he HL m0 m1 m2 m3 m4 m5
  go_wp2_with (refine wpList_store_row rfl 41 (.tmp 4) (.tmp 39) rfl (B + 1) (rpV (.mk 1 0 (cutT l (a + 1) ((lnR tx l (a + 1)).2 - (a + 1))) []) none 0) rfl rfl 41 zero41 HZ.out size41 rfl (by simp [Value.oneCell']) ?_)
  have hr := HV3.out.ret (rpV (.mk 1 0 (cutT l (a + 1) ((lnR tx l (a + 1)).2 - (a + 1))) []) none 0)
  refine bodyPost_ret (v := .agg (rpV (.mk 1 0 (cutT l (a + 1) ((lnR tx l (a + 1)).2 - (a + 1))) []) none 0)) (res57 _ _ (B + 1) _ rfl hr.1) rfl ⟨.inl ⟨HE0.out, none, 0, ?_, ?_, ?_⟩, hr.2.2⟩
  · rw [HD.out]
  · rw [HD.out]
    exact ⟨HFT.out, fun _ => rfl, Nat.zero_le _, by rw [show Rp.kids _ = [] from rfl, RpL]; trivial⟩
  · rw [HD.out]
    exact hr.2.1
set_option maxRecDepth 100000 in
set_option maxHeartbeats 8000000 in
theorem rep_minus (w : World) (lst : Option (List UInt8 → Nat → Nat → Nat → DR)) (tx it : Nat) (h : Inp w G A n c l a (tx : Nat) (it : Nat) li) (htx : tx ≤ 1000000000) (hn : n ≤ 1000000000) (ha : a < l.length) (hx : l[a].toNat = 45) :
    Calls Tryd.prog 57 #[.pointer (some ⟨G, 0, none⟩), .agg (takerV G)] w (RepQ w G A n c l (repS lst l a tx it) li) := by
  have HRV := Lib.hid (RV.new h)
  obtain ⟨D, hD⟩ : ∃ D, repS lst l a tx it = D := ⟨_, rfl⟩
  rw [hD]
  unfold repS at hD
  rw [List.getElem?_eq_getElem ha] at hD
  simp only at hD
  rw [if_neg (by omega), if_pos hx] at hD
  have HD := Lib.hid hD.symm
  have HP : Hid (∀ W, Inp W G A n c l a (tx : Nat) (it : Nat) li → Calls Tryd.prog 61 #[.pointer (some ⟨G, 0, none⟩)] W fun e w' => e = .returned (.int .u8 45) ∧ ∃ q, w' = W.drewN q) := Lib.hid (fun W hW => by have := peek_yes W hW ha; rw [hx] at this; exact this)
  have hlen := h.len
  have hpos := h.pos
  clear hD hx h
  go_enter Tryd.func57, Tryd.ntmps57
  go_upto_region 1 with (fail)
  generalize (w.alloc (.cells (takerV G) 81)).alloc (.cells zero41 41) = W at *
  generalize hB : w.heap.size = B at *
  have HB := Lib.hid hB
  clear hB
  obtain ⟨m0, m1, m2, m3, m4, m5⟩ := HRV.out.takes
  have HPW := Lib.hid (HP.out W HRV.out.inp)
  go_wp2_with fail
  refine HPW.out.mono ?_
  rintro e w1 ⟨rfl, q, hq⟩
  have HV1 : Hid (RV w w1 B G A n c l a (tx : Nat) (it : Nat) li) := Lib.hid (by rw [hq]; exact HRV.out.drew q)
  clear hq HPW HP HRV m0 m1 m2 m3 m4 m5
  obtain ⟨z0, z1, z2, z3, z4, zf⟩ := HV1.out.inp.rows
  have hi := HV1.out.inp.at (a + 1) (by omega)
  have hv := HV1.out.next (only_set G 1 w1 (.int .i64 ((a + 1 : Nat) : Int))) hi
  rw [show ((a + 1 : Nat) : Int) = (a : Int) + 1 by omega] at hv
  have HV2 := Lib.hid hv
  clear hi hv
  go_upto_region 16 with (fail)
  clear HV1 z0 z1 z2 z3 z4 zf
  generalize w1.setCell ⟨G, 1, none⟩ (.int .i64 ((a : Int) + 1)) = w2 at *
  obtain ⟨m0, m1, m2, m3, m4, m5⟩ := HV2.out.takes
  have HL := Lib.hid (line_anyP w2 tx HV2.out.inp htx)
  go_wp2_with fail
  refine HL.out.mono ?_
  rintro e w3 ⟨⟨he, rfl, hi3⟩ | ⟨he, rfl⟩, ho3⟩
  rotate_left
  · have HEK : Hid (D.e = lineE tx l (a + 1)) := Lib.hid (by rw [HD.out])
    exact post_panic (P := Tryd.prog) (fn := Tryd.f57) rfl ⟨.inr ⟨by rw [HEK.out]; exact he, by rw [HEK.out]⟩, only_trans HV2.out.only ho3⟩
  have hln := lnF_le (l.length + 1 - (a + 1)) (a + 1) (show lnF (l.length + 1 - (a + 1)) tx (a + 1) l (a + 1) = (0, (lnR tx l (a + 1)).2) from Prod.ext (lineE_zero he) rfl)
  have hk := hln.2.2 (Nat.le_refl _) (by omega)
  have hcz := cutT_size l (a + 1) ((lnR tx l (a + 1)).2 - (a + 1))
  rw [show ((tx : Int) - (((lnR tx l (a + 1)).2 - (a + 1) : Nat) : Int)) = ((tx - ((lnR tx l (a + 1)).2 - (a + 1)) : Nat) : Int) by omega] at hi3
  have HV3 := Lib.hid (HV2.out.next ho3 hi3)
  have HE0 : Hid (D.e = 0) := Lib.hid (by rw [HD.out]; exact he)
  have HZ := Lib.hid HV3.out.rv
  have HFT : Hid (Fits (.mk 2 0 (cutT l (a + 1) ((lnR tx l (a + 1)).2 - (a + 1))) [])) := Lib.hid ⟨by show _ ≤ (0 : Int); decide, by show (0 : Int) ≤ _; decide, by show _ ≤ (2 : Int); decide, by show (2 : Int) ≤ _; decide, by show (cutT _ _ _).size ≤ _; omega, Nat.zero_le _⟩
  clear hi3 ho3 he HL m0 m1 m2 m3 m4 m5
  go_wp2_with (refine wpList_store_row rfl 41 (.tmp 4) (.tmp 45) rfl (B + 1) (rpV (.mk 2 0 (cutT l (a + 1) ((lnR tx l (a + 1)).2 - (a + 1))) []) none 0) rfl rfl 41 zero41 HZ.out size41 rfl (by simp [Value.oneCell']) ?_)
  have hr := HV3.out.ret (rpV (.mk 2 0 (cutT l (a + 1) ((lnR tx l (a + 1)).2 - (a + 1))) []) none 0)
  refine bodyPost_ret (v := .agg (rpV (.mk 2 0 (cutT l (a + 1) ((lnR tx l (a + 1)).2 - (a + 1))) []) none 0)) (res57 _ _ (B + 1) _ rfl hr.1) rfl ⟨.inl ⟨HE0.out, none, 0, ?_, ?_, ?_⟩, hr.2.2⟩
  · rw [HD.out]
  · rw [HD.out]
    exact ⟨HFT.out, fun _ => rfl, Nat.zero_le _, by rw [show Rp.kids _ = [] from rfl, RpL]; trivial⟩
  · rw [HD.out]
    exact hr.2.1
theorem numR_fits {l : List UInt8} {a : Nat} (h : (numR l a).1 = 0) : -9223372036854775808 ≤ (numR l a).2.1 ∧ (numR l a).2.1 ≤ 9223372036854775807 := by
  unfold numR at *
  split at h
  · exact absurd h (by decide)
  · rename_i x hx
    split at h
    · rename_i h1
      have h2 := digR_le (lenE_zero (most := 9223372036854775807) (l := l) (a := a) h)
      rw [if_pos h1]
      show _ ≤ (((digR 9223372036854775807 l a).2.1 : Nat) : Int) ∧ (((digR 9223372036854775807 l a).2.1 : Nat) : Int) ≤ _
      omega
    · rename_i h1
      rw [if_neg h1]
      split at h
      · exact absurd h (by decide)
      · rename_i y hy
        split at h
        · exact absurd h (by decide)
        · rename_i h2
          have h3 := digR_le (lenE_zero (most := 9223372036854775808) (l := l) (a := a + 1) h)
          rw [if_neg h2]
          show _ ≤ -(((digR 9223372036854775808 l (a + 1)).2.1 : Nat) : Int) ∧ -(((digR 9223372036854775808 l (a + 1)).2.1 : Nat) : Int) ≤ _
          omega
set_option maxRecDepth 100000 in
set_option maxHeartbeats 8000000 in
theorem rep_colon (w : World) (lst : Option (List UInt8 → Nat → Nat → Nat → DR)) (tx it : Nat) (h : Inp w G A n c l a (tx : Nat) (it : Nat) li) (htx : tx ≤ 1000000000) (hn : n ≤ 1000000000) (ha : a < l.length) (hx : l[a].toNat = 58) :
    Calls Tryd.prog 57 #[.pointer (some ⟨G, 0, none⟩), .agg (takerV G)] w (RepQ w G A n c l (repS lst l a tx it) li) := by
  have HRV := Lib.hid (RV.new h)
  obtain ⟨D, hD⟩ : ∃ D, repS lst l a tx it = D := ⟨_, rfl⟩
  rw [hD]
  unfold repS at hD
  rw [List.getElem?_eq_getElem ha] at hD
  simp only at hD
  rw [if_neg (by omega), if_neg (by omega), if_pos hx] at hD
  have HD := Lib.hid hD.symm
  have HP : Hid (∀ W, Inp W G A n c l a (tx : Nat) (it : Nat) li → Calls Tryd.prog 61 #[.pointer (some ⟨G, 0, none⟩)] W fun e w' => e = .returned (.int .u8 58) ∧ ∃ q, w' = W.drewN q) := Lib.hid (fun W hW => by have := peek_yes W hW ha; rw [hx] at this; exact this)
  have hlen := h.len
  have hpos := h.pos
  clear hD hx h
  go_enter Tryd.func57, Tryd.ntmps57
  go_upto_region 1 with (fail)
  generalize (w.alloc (.cells (takerV G) 81)).alloc (.cells zero41 41) = W at *
  generalize hB : w.heap.size = B at *
  have HB := Lib.hid hB
  clear hB
  obtain ⟨m0, m1, m2, m3, m4, m5⟩ := HRV.out.takes
  have HPW := Lib.hid (HP.out W HRV.out.inp)
  go_wp2_with fail
  refine HPW.out.mono ?_
  rintro e w1 ⟨rfl, q, hq⟩
  have HV1 : Hid (RV w w1 B G A n c l a (tx : Nat) (it : Nat) li) := Lib.hid (by rw [hq]; exact HRV.out.drew q)
  clear hq HPW HP HRV m0 m1 m2 m3 m4 m5
  obtain ⟨z0, z1, z2, z3, z4, zf⟩ := HV1.out.inp.rows
  have hi := HV1.out.inp.at (a + 1) (by omega)
  have hv := HV1.out.next (only_set G 1 w1 (.int .i64 ((a + 1 : Nat) : Int))) hi
  rw [show ((a + 1 : Nat) : Int) = (a : Int) + 1 by omega] at hv
  have HV2 := Lib.hid hv
  clear hi hv
  go_upto_region 18 with (fail)
  clear HV1 z0 z1 z2 z3 z4 zf
  generalize w1.setCell ⟨G, 1, none⟩ (.int .i64 ((a : Int) + 1)) = w2 at *
  obtain ⟨m0, m1, m2, m3, m4, m5⟩ := HV2.out.takes
  have HL := Lib.hid (number_any w2 HV2.out.inp)
  go_wp2_with fail
  refine HL.out.mono ?_
  rintro e w3 ⟨⟨he, rfl, hi3⟩ | ⟨he, rfl⟩, ho3⟩
  rotate_left
  · have HEK : Hid (D.e = (numR l (a + 1)).1) := Lib.hid (by rw [HD.out])
    exact post_panic (P := Tryd.prog) (fn := Tryd.f57) rfl ⟨.inr ⟨by rw [HEK.out]; exact he, by rw [HEK.out]⟩, only_trans HV2.out.only ho3⟩
  have hnb := numR_fits he
  have HV3 := Lib.hid (HV2.out.next ho3 hi3)
  have HE0 : Hid (D.e = 0) := Lib.hid (by rw [HD.out]; exact he)
  have HZ := Lib.hid HV3.out.rv
  have HFT : Hid (Fits (.mk 3 (numR l (a + 1)).2.1 noT [])) := Lib.hid ⟨hnb.1, hnb.2, by show _ ≤ (3 : Int); decide, by show (3 : Int) ≤ _; decide, by show (0 : Nat) ≤ _; omega, Nat.zero_le _⟩
  clear hi3 ho3 he HL m0 m1 m2 m3 m4 m5
  go_wp2_with (refine wpList_store_row rfl 41 (.tmp 4) (.tmp 51) rfl (B + 1) (rpV (.mk 3 (numR l (a + 1)).2.1 noT []) none 0) rfl rfl 41 zero41 HZ.out size41 rfl (by simp [Value.oneCell']) ?_)
  have hr := HV3.out.ret (rpV (.mk 3 (numR l (a + 1)).2.1 noT []) none 0)
  refine bodyPost_ret (v := .agg (rpV (.mk 3 (numR l (a + 1)).2.1 noT []) none 0)) (res57 _ _ (B + 1) _ rfl hr.1) rfl ⟨.inl ⟨HE0.out, none, 0, ?_, ?_, ?_⟩, hr.2.2⟩
  · rw [HD.out]
  · rw [HD.out]
    exact ⟨HFT.out, fun _ => rfl, Nat.zero_le _, by rw [show Rp.kids _ = [] from rfl, RpL]; trivial⟩
  · rw [HD.out]
    exact hr.2.1
set_option maxRecDepth 100000 in
set_option maxHeartbeats 8000000 in
theorem rep_text (w : World) (lst : Option (List UInt8 → Nat → Nat → Nat → DR)) (tx it : Nat) (h : Inp w G A n c l a (tx : Nat) (it : Nat) li) (htx : tx ≤ 1000000000) (hn : n ≤ 1000000000) (ha : a < l.length) (hx : l[a].toNat = 36) (ha1 : a + 1 < l.length) (hy : l[a + 1].toNat ≠ 45) :
    Calls Tryd.prog 57 #[.pointer (some ⟨G, 0, none⟩), .agg (takerV G)] w (RepQ w G A n c l (repS lst l a tx it) li) := by
  have HRV := Lib.hid (RV.new h)
  obtain ⟨D, hD⟩ : ∃ D, repS lst l a tx it = D := ⟨_, rfl⟩
  rw [hD]
  unfold repS at hD
  rw [List.getElem?_eq_getElem ha] at hD
  simp only at hD
  rw [if_neg (by omega), if_neg (by omega), if_neg (by omega), if_pos hx] at hD
  rw [List.getElem?_eq_getElem ha1] at hD
  simp only at hD
  rw [if_pos hy] at hD
  have HD := Lib.hid hD.symm
  have HP : Hid (∀ W, Inp W G A n c l a (tx : Nat) (it : Nat) li → Calls Tryd.prog 61 #[.pointer (some ⟨G, 0, none⟩)] W fun e w' => e = .returned (.int .u8 36) ∧ ∃ q, w' = W.drewN q) := Lib.hid (fun W hW => by have := peek_yes W hW ha; rw [hx] at this; exact this)
  have hlen := h.len
  have hpos := h.pos
  clear hD hx h
  go_enter Tryd.func57, Tryd.ntmps57
  go_upto_region 1 with (fail)
  generalize (w.alloc (.cells (takerV G) 81)).alloc (.cells zero41 41) = W at *
  generalize hB : w.heap.size = B at *
  have HB := Lib.hid hB
  clear hB
  obtain ⟨m0, m1, m2, m3, m4, m5⟩ := HRV.out.takes
  have HPW := Lib.hid (HP.out W HRV.out.inp)
  go_wp2_with fail
  refine HPW.out.mono ?_
  rintro e w1 ⟨rfl, q, hq⟩
  have HV1 : Hid (RV w w1 B G A n c l a (tx : Nat) (it : Nat) li) := Lib.hid (by rw [hq]; exact HRV.out.drew q)
  clear hq HPW HP HRV m0 m1 m2 m3 m4 m5
  obtain ⟨z0, z1, z2, z3, z4, zf⟩ := HV1.out.inp.rows
  have hi := HV1.out.inp.at (a + 1) (by omega)
  have hv := HV1.out.next (only_set G 1 w1 (.int .i64 ((a + 1 : Nat) : Int))) hi
  rw [show ((a + 1 : Nat) : Int) = (a : Int) + 1 by omega] at hv
  have HV2 := Lib.hid hv
  clear hi hv
  go_upto_region 21 with (fail)
  clear HV1 z0 z1 z2 z3 z4 zf
  generalize w1.setCell ⟨G, 1, none⟩ (.int .i64 ((a : Int) + 1)) = w2 at *
  obtain ⟨m0, m1, m2, m3, m4, m5⟩ := HV2.out.takes
  have HP2 := Lib.hid (peek_yes w2 HV2.out.inp ha1)
  have t1 : ((l[a + 1].toNat : Int) != 45) = true := by simp; omega
  have t2 : decide ((l[a + 1].toNat : Int) = 45) = false := decide_eq_false (by omega)
  generalize l[a + 1].toNat = yy at HP2 t1 t2
  clear hy
  go_wp2_with fail
  refine HP2.out.mono ?_
  rintro e w3 ⟨rfl, q2, hq2⟩
  have HV3 : Hid (RV w w3 B G A n c l (a + 1) (tx : Nat) (it : Nat) li) := Lib.hid (by rw [hq2]; exact HV2.out.drew q2)
  clear hq2 HP2 HV2 m0 m1 m2 m3 m4 m5
  have HVD : Hid (RV w w3.drew B G A n c l (a + 1) (tx : Nat) (it : Nat) li) := Lib.hid (HV3.out.drew 1)
  have hs2 := HVD.out.takes.2.2.1
  have hs4 := HVD.out.takes.2.2.2.2.1
  have htc := HVD.out.inp.rows.2.2.1
  have HLN := Lib.hid (length_any w3.drew tx HVD.out.inp (by omega))
  have HDL := Lib.hid (digR_le (most := tx) (l := l) (a := a + 1))
  clear HV3
  go_wp2_with fail
  refine wp_region_held_drew (S := fun W => W.cell? ⟨B, 2, none⟩ = some (mv 63 G) ∧ W.cell? ⟨B, 4, none⟩ = some (mv 65 G)) (by kernel_rfl) ⟨hs2, hs4⟩ (fun hHeld => ?_)
  refine wpAnyH_take (i := 0) (v := ?_) rfl (by kernel_rfl) (by kernel_rfl) (by kernel_rfl) (fun _ _ _ h => h) (Or.inl ⟨by rfl, ?_⟩) (by assumption) ?_
  rotate_left
  · intro w hSw
    obtain ⟨s2, s4⟩ := hSw
    go_simp
    try with_reducible rfl
  try simp only [Act.put, List.setIfInBounds_toArray, List.set_cons_zero, List.set_cons_succ]
  refine wpAnyH_take (i := 1) (v := mv 65 G) rfl (by kernel_rfl) (by kernel_rfl) (by kernel_rfl) (fun _ _ _ h => h) (Or.inl ⟨by rfl, ?_⟩) (by assumption) ?_
  · intro w hSw
    obtain ⟨s2, s4⟩ := hSw
    go_simp
    try with_reducible rfl
  try simp only [Act.put, List.setIfInBounds_toArray, List.set_cons_zero, List.set_cons_succ]
  refine wpAnyH_take (i := 2) (v := ?_) rfl (by kernel_rfl) (by kernel_rfl) (by kernel_rfl) (fun _ _ _ h => h) (Or.inl ⟨by rfl, ?_⟩) (by assumption) ?_
  rotate_left
  · intro w hSw
    obtain ⟨s2, s4⟩ := hSw
    go_simp
    try with_reducible rfl
  try simp only [Act.put, List.setIfInBounds_toArray, List.set_cons_zero, List.set_cons_succ]
  refine wpAnyH_take (i := 3) (v := mv 63 G) rfl (by kernel_rfl) (by kernel_rfl) (by kernel_rfl) (fun _ _ _ h => h) (Or.inl ⟨by rfl, ?_⟩) (by assumption) ?_
  · intro w hSw
    obtain ⟨s2, s4⟩ := hSw
    go_simp
    try with_reducible rfl
  try simp only [Act.put, List.setIfInBounds_toArray, List.set_cons_zero, List.set_cons_succ]
  refine wpAnyH_take (i := 4) (v := ?_) rfl (by kernel_rfl) (by kernel_rfl) (by kernel_rfl) (fun _ _ _ h => h) (Or.inl ⟨by rfl, ?_⟩) (by assumption) ?_
  rotate_left
  · intro w hSw
    obtain ⟨s2, s4⟩ := hSw
    go_simp
    try with_reducible rfl
  try simp only [Act.put, List.setIfInBounds_toArray, List.set_cons_zero, List.set_cons_succ]
  refine wpAnyH_take (i := 5) (v := ?_) rfl (by kernel_rfl) (by kernel_rfl) (by kernel_rfl) (fun _ _ _ h => h) (Or.inl ⟨by rfl, ?_⟩) (by assumption) ?_
  rotate_left
  · intro w hSw
    obtain ⟨s2, s4⟩ := hSw
    go_simp
    try with_reducible rfl
  try simp only [Act.put, List.setIfInBounds_toArray, List.set_cons_zero, List.set_cons_succ]
  refine wpAnyH_take (i := 6) (v := ?_) rfl (by kernel_rfl) (by kernel_rfl) (by kernel_rfl) (fun _ _ _ h => h) (Or.inl ⟨by rfl, ?_⟩) (by assumption) ?_
  rotate_left
  · intro w hSw
    obtain ⟨s2, s4⟩ := hSw
    go_simp
    try with_reducible rfl
  try simp only [Act.put, List.setIfInBounds_toArray, List.set_cons_zero, List.set_cons_succ]
  refine wpAnyH_ready (rs := [7]) (by kernel_rfl) (by simp) ?_
  refine AllReadyH.cons rfl (fun K hK => ?_) AllReadyH.nil
  go_simp
  refine hK.out _ _ hHeld (fun hHeld => ?_)
  clear hK K htc
  try simp only [Act.put, List.setIfInBounds_toArray, List.set_cons_zero, List.set_cons_succ]
  refine wpAnyH_ready (rs := [8]) (by kernel_rfl) (by simp) ?_
  refine AllReadyH.cons rfl (fun K hK => ?_) AllReadyH.nil
  go_simp
  refine HLN.out.mono ?_
  rintro e w4 ⟨⟨he, rfl, hi4⟩ | ⟨he, rfl⟩, ho⟩
  rotate_left
  · have HEK : Hid (D.e = lenE tx l (a + 1)) := Lib.hid (by rw [HD.out]; exact if_pos he)
    exact post_panic (P := Tryd.prog) (fn := Tryd.f57) rfl ⟨.inr ⟨by rw [HEK.out]; exact he, by rw [HEK.out]⟩, only_trans HVD.out.only ho⟩
  have hd4 := HDL.out (lenE_zero he)
  have HE4 : Hid (D.e = textE l ((digR tx l (a + 1)).2.2 + 2) (digR tx l (a + 1)).2.1) := Lib.hid (by rw [HD.out]; exact if_neg (by rw [he]; decide))
  have HV4 := Lib.hid (HVD.out.next ho hi4)
  clear he hi4 ho HLN HDL HVD
  have HTT := Lib.hid (text_any w4 _ HV4.out.inp (show (digR tx l (a + 1)).2.1 ≤ 1000000000 by omega) (by omega) (by omega))
  refine hK.out _ _ ⟨HV4.out.takes.2.2.1, HV4.out.takes.2.2.2.2.1⟩ (fun hHeld => ?_)
  clear hK K
  try simp only [Act.put, List.setIfInBounds_toArray, List.set_cons_zero, List.set_cons_succ]
  refine wpAnyH_ready (rs := [9]) (by kernel_rfl) (by simp) ?_
  refine AllReadyH.cons rfl (fun K hK => ?_) AllReadyH.nil
  go_simp
  refine HTT.out.mono ?_
  rintro e w5 ⟨⟨he, rfl, hi5⟩ | ⟨he, rfl⟩, ho⟩
  rotate_left
  · exact post_panic (P := Tryd.prog) (fn := Tryd.f57) rfl ⟨.inr ⟨by rw [HE4.out]; exact he, by rw [HE4.out]⟩, only_trans HV4.out.only ho⟩
  have hcz := cutT_size l ((digR tx l (a + 1)).2.2 + 2) (digR tx l (a + 1)).2.1
  rw [show ((tx : Int) - (((digR tx l (a + 1)).2.1 : Nat) : Int)) = ((tx - (digR tx l (a + 1)).2.1 : Nat) : Int) by omega] at hi5
  have HV5 := Lib.hid (HV4.out.next ho hi5)
  have HE0 : Hid (D.e = 0) := Lib.hid (HE4.out.trans he)
  have HZ := Lib.hid HV5.out.rv
  have HFT : Hid (Fits (.mk 4 0 (cutT l ((digR tx l (a + 1)).2.2 + 2) (digR tx l (a + 1)).2.1) [])) := Lib.hid ⟨by show _ ≤ (0 : Int); decide, by show (0 : Int) ≤ _; decide, by show _ ≤ (4 : Int); decide, by show (4 : Int) ≤ _; decide, by show (cutT _ _ _).size ≤ _; omega, Nat.zero_le _⟩
  clear he hi5 ho HTT HV4 HE4
  refine hK.out _ _ ⟨HV5.out.takes.2.2.1, HV5.out.takes.2.2.2.2.1⟩ (fun hHeld => ?_)
  clear hK K
  try simp only [Act.put, List.setIfInBounds_toArray, List.set_cons_zero, List.set_cons_succ]
  refine wpAnyH_ready (rs := [10]) (by kernel_rfl) (by simp) ?_
  refine AllReadyH.cons rfl (fun K hK => ?_) AllReadyH.nil
  go_simp
  refine hK.out _ _ ⟨HV5.out.takes.2.2.1, HV5.out.takes.2.2.2.2.1⟩ (fun hHeld => ?_)
  clear hK K
  try simp only [Act.put, List.setIfInBounds_toArray, List.set_cons_zero, List.set_cons_succ]
  refine wpAnyH_ready (rs := [11]) (by kernel_rfl) (by simp) ?_
  refine AllReadyH.cons rfl (fun K hK => ?_) AllReadyH.nil
  refine step_store_row rfl 41 (.tmp 4) (.tmp 71) rfl (B + 1) (rpV (.mk 4 0 (cutT l ((digR tx l (a + 1)).2.2 + 2) (digR tx l (a + 1)).2.1) []) none 0) rfl rfl 41 zero41 HZ.out size41 rfl (by simp [Value.oneCell']) ?_
  have hr := HV5.out.ret (rpV (.mk 4 0 (cutT l ((digR tx l (a + 1)).2.2 + 2) (digR tx l (a + 1)).2.1) []) none 0)
  refine hK.out _ _ ⟨(HV5.out.retk _ 2).trans HV5.out.takes.2.2.1, (HV5.out.retk _ 4).trans HV5.out.takes.2.2.2.2.1⟩ (fun hHeld => ?_)
  clear hK K
  try simp only [Act.put, List.setIfInBounds_toArray, List.set_cons_zero, List.set_cons_succ]
  refine wpAnyH_done (by kernel_rfl) ?_ _
  go_wp2_with fail
  refine bodyPost_ret (v := .agg (rpV (.mk 4 0 (cutT l ((digR tx l (a + 1)).2.2 + 2) (digR tx l (a + 1)).2.1) []) none 0)) (res57 _ _ (B + 1) _ rfl hr.1) rfl ⟨.inl ⟨HE0.out, none, 0, ?_, ?_, ?_⟩, hr.2.2⟩
  · rw [HD.out]
  · rw [HD.out]
    exact ⟨HFT.out, fun _ => rfl, Nat.zero_le _, by rw [show Rp.kids _ = [] from rfl, RpL]; trivial⟩
  · rw [HD.out]
    exact hr.2.1
end
end Go.Proofs.YtglicojojpggmaaDoor
