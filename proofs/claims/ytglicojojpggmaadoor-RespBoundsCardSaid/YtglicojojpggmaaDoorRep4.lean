/- A reply that is taken. -/
import Derived.Test.YtglicojojpggmaaDoorList
namespace Go.Proofs.YtglicojojpggmaaDoor
open Go Go.RowKit
section
variable {G : Nat} {A : Option Addr} {n c : Nat} {l : List UInt8} {a : Nat} {li : Int}
set_option maxRecDepth 100000 in
set_option maxHeartbeats 8000000 in
theorem rep_list (w : World) (f : List UInt8 → Nat → Nat → Nat → DR) (hli : li ≠ 100) (hlst : ∀ (w : World) (a tx it : Nat), Inp w G A n c l a (tx : Nat) (it : Nat) li → tx ≤ 1000000000 → it ≤ 1000000000 → n ≤ 1000000000 → Calls Tryd.prog 75 #[.pointer (some ⟨G, 0, none⟩), .agg (takerV G)] w (RepQ w G A n c l (f l a tx it) li)) (tx it : Nat) (h : Inp w G A n c l a (tx : Nat) (it : Nat) li) (htx : tx ≤ 1000000000) (hit : it ≤ 1000000000) (hn : n ≤ 1000000000) (ha : a < l.length) (hx : l[a].toNat = 42) :
    Calls Tryd.prog 57 #[.pointer (some ⟨G, 0, none⟩), .agg (takerV G)] w (RepQ w G A n c l (repS (some f) l a tx it) li) := by
  have HRV := Lib.hid (RV.new h)
  obtain ⟨D, hD⟩ : ∃ D, repS (some f) l a tx it = D := ⟨_, rfl⟩
  rw [hD]
  unfold repS at hD
  rw [List.getElem?_eq_getElem ha] at hD
  simp only at hD
  rw [if_neg (by omega), if_neg (by omega), if_neg (by omega), if_neg (by omega), if_pos hx] at hD
  have HD := Lib.hid hD.symm
  have HLST := Lib.hid hlst
  have l1 : (li == 100) = false := by simpa using hli
  have l2 : decide (li = 100) = false := decide_eq_false hli
  clear hlst hli
  have HP : Hid (∀ W, Inp W G A n c l a (tx : Nat) (it : Nat) li → Calls Tryd.prog 61 #[.pointer (some ⟨G, 0, none⟩)] W fun e w' => e = .returned (.int .u8 42) ∧ ∃ q, w' = W.drewN q) := Lib.hid (fun W hW => by have := peek_yes W hW ha; rw [hx] at this; exact this)
  have hlen := h.len
  have hpos := h.pos
  clear hD hx h
  go_enter Tryd.func57, Tryd.ntmps57
  go_upto_region 1 with (fail)
  generalize (w.alloc (.cells (takerV G) 81)).alloc (.cells zero41 41) = W at *
  generalize hB : w.heap.size = B at *
  have HB := Lib.hid hB
  clear hB
  obtain ⟨m0, m1, m2, m3, m4, m5⟩ := HRV.out.takes
  have HPW := Lib.hid (HP.out W HRV.out.inp)
  go_wp2_with fail
  refine HPW.out.mono ?_
  rintro e w1 ⟨rfl, q, hq⟩
  have HV1 : Hid (RV w w1 B G A n c l a (tx : Nat) (it : Nat) li) := Lib.hid (by rw [hq]; exact HRV.out.drew q)
  clear hq HPW HP HRV m0 m1 m2 m3 m4 m5
  obtain ⟨z0, z1, z2, z3, z4, zf⟩ := HV1.out.inp.rows
  have hi := HV1.out.inp.at (a + 1) (by omega)
  have hv := HV1.out.next (only_set G 1 w1 (.int .i64 ((a + 1 : Nat) : Int))) hi
  rw [show ((a + 1 : Nat) : Int) = (a : Int) + 1 by omega] at hv
  have HV2 := Lib.hid hv
  clear hi hv
  go_upto_region 20 with (fail)
  clear HV1 z0 z1 z2 z3 z4 zf
  generalize w1.setCell ⟨G, 1, none⟩ (.int .i64 ((a : Int) + 1)) = w2 at *
  obtain ⟨m0, m1, m2, m3, m4, m5⟩ := HV2.out.takes
  have hB := HB.out
  subst hB
  have HLC := Lib.hid (HLST.out w2 (a + 1) tx it HV2.out.inp htx hit hn)
  have HKD : Hid (D = f l (a + 1) tx it) := Lib.hid HD.out
  rw [← HKD.out] at HLC
  clear HD HLST
  go_wp2_with fail
  refine HLC.out.mono ?_
  rintro e w3 ⟨⟨he, A1, c1, rfl, hk1, hi3⟩ | ⟨he, rfl⟩, ho3⟩
  rotate_left
  · exact post_panic (P := Tryd.prog) (fn := Tryd.f57) rfl ⟨.inr ⟨he, rfl⟩, only_trans HV2.out.only ho3⟩
  have HV3 := Lib.hid (HV2.out.next ho3 hi3)
  have HK3 := Lib.hid hk1
  have HE0 := Lib.hid he
  have HZ := Lib.hid HV3.out.rv
  have hsz := lt_of_block HV2.out.rv
  have hbz := HV2.out.bz
  clear hi3 ho3 he hk1 HLC m0 m1 m2 m3 m4 m5
  go_wp2_with (refine wpList_store_row rfl 41 (.tmp 4) (.tmp 56) rfl (w.heap.size + 1) (rpV D.r A1 c1) rfl rfl 41 zero41 HZ.out size41 rfl (by simp [Value.oneCell']) ?_)
  have hr := HV3.out.ret (rpV D.r A1 c1)
  refine bodyPost_ret (v := .agg (rpV D.r A1 c1)) (res57 _ _ (w.heap.size + 1) _ rfl hr.1) rfl ⟨.inl ⟨HE0.out, A1, c1, rfl, ?_, hr.2.1⟩, hr.2.2⟩
  exact HK3.out.imp (by simp) (fun b hb hl => ⟨setRow_other _ _ _ _ (by omega), by omega⟩)
theorem rep_all (lst : Option (List UInt8 → Nat → Nat → Nat → DR)) (hl : ∀ f, lst = some f → li ≠ 100 ∧ ∀ (G : Nat) (A : Option Addr) (n c : Nat) (l : List UInt8) (w : World) (a tx it : Nat), Inp w G A n c l a (tx : Nat) (it : Nat) li → tx ≤ 1000000000 → it ≤ 1000000000 → n ≤ 1000000000 → Calls Tryd.prog 75 #[.pointer (some ⟨G, 0, none⟩), .agg (takerV G)] w (RepQ w G A n c l (f l a tx it) li)) (h0 : lst = none → li = 100) : RepC (repS lst) li := by
  intro G A n c l a tx it w h htx hit hn
  by_cases ha : a < l.length
  rotate_left
  · exact rep_none w lst tx it h ha
  by_cases h1 : l[a].toNat = 43
  · exact rep_plus w lst tx it h htx hn ha h1
  by_cases h2 : l[a].toNat = 45
  · exact rep_minus w lst tx it h htx hn ha h2
  by_cases h3 : l[a].toNat = 58
  · exact rep_colon w lst tx it h htx hn ha h3
  by_cases h4 : l[a].toNat = 36
  · by_cases ha1 : a + 1 < l.length
    · by_cases hy : l[a + 1].toNat = 45
      · exact rep_nil w lst tx it h htx hn ha h4 ha1 hy
      · exact rep_text w lst tx it h htx hn ha h4 ha1 hy
    · exact rep_short w lst tx it h htx hn ha h4 ha1
  by_cases h5 : l[a].toNat = 42
  · cases lst with
    | none =>
      obtain rfl := h0 rfl
      exact rep_deep w tx it h ha h5
    | some f =>
      obtain ⟨g1, g2⟩ := hl f rfl
      exact rep_list w f g1 (fun w a tx it => g2 G A n c l w a tx it) tx it h htx hit hn ha h5
  exact rep_bad w lst tx it h ha h1 h2 h3 h4 h5
end
theorem repF_all : ∀ (d : Nat), d ≤ 100 → RepC (repF d) (100 - (d : Int))
  | 0, _ => rep_all none (fun f e => by cases e) (fun _ => by omega)
  | d + 1, hd => rep_all (some (listS (repF d))) (fun f e => by
      cases e
      refine ⟨by omega, fun G A n c l w a tx it h htx hit hn => list_any (repF d) (repF_le d) _ (by omega) (by omega) ?_ w a tx it h htx hit hn⟩
      have := repF_all d (by omega)
      rw [show (100 : Int) - ((d + 1 : Nat) : Int) + 1 = 100 - (d : Int) by omega]
      exact this) (fun e => by cases e)
end Go.Proofs.YtglicojojpggmaaDoor
