/- A list that is taken. -/
import Derived.Test.YtglicojojpggmaaDoorLv
import Derived.Test.YtglicojojpggmaaDoorRp3
namespace Go.Proofs.YtglicojojpggmaaDoor
open Go Go.RowKit
/-- A reading leaves no more of the bounds than there was. -/
def LeR (rep : List UInt8 → Nat → Nat → Nat → DR) : Prop := ∀ l a tx it, (rep l a tx it).tx ≤ tx ∧ (rep l a tx it).it ≤ it
theorem items_le {rep : List UInt8 → Nat → Nat → Nat → DR} (h : LeR rep) : ∀ (m : Nat) (l : List UInt8) (a tx it : Nat) (acc : List Rp), (itemsS rep m l a tx it acc).2.2.2.1 ≤ tx ∧ (itemsS rep m l a tx it acc).2.2.2.2 ≤ it
  | 0, _, _, _, _, _ => ⟨Nat.le_refl _, Nat.le_refl _⟩
  | m + 1, l, a, tx, it, acc => by
    unfold itemsS
    split
    · exact ⟨Nat.zero_le _, Nat.zero_le _⟩
    · have h1 := h l a tx it
      have h2 := items_le h m l (rep l a tx it).a (rep l a tx it).tx (rep l a tx it).it (acc ++ [(rep l a tx it).r])
      omega
theorem list_le {rep : List UInt8 → Nat → Nat → Nat → DR} (h : LeR rep) : LeR (listS rep) := fun l a tx it => by
  unfold listS
  split
  · exact ⟨Nat.zero_le _, Nat.zero_le _⟩
  · split
    · exact ⟨Nat.zero_le _, Nat.zero_le _⟩
    · have h2 := items_le h (digR it l a).2.1 l ((digR it l a).2.2 + 2) tx (it - (digR it l a).2.1) []
      exact ⟨h2.1, Nat.le_trans h2.2 (Nat.sub_le _ _)⟩
theorem repS_le {lst : Option (List UInt8 → Nat → Nat → Nat → DR)} (h : ∀ f, lst = some f → LeR f) : LeR (repS lst) := fun l a tx it => by
  unfold repS
  split
  · exact ⟨Nat.zero_le _, Nat.zero_le _⟩
  · split
    · exact ⟨Nat.sub_le _ _, Nat.le_refl _⟩
    split
    · exact ⟨Nat.sub_le _ _, Nat.le_refl _⟩
    split
    · exact ⟨Nat.le_refl _, Nat.le_refl _⟩
    split
    · split
      · exact ⟨Nat.zero_le _, Nat.zero_le _⟩
      · split
        · exact ⟨Nat.sub_le _ _, Nat.le_refl _⟩
        · exact ⟨Nat.le_refl _, Nat.le_refl _⟩
    split
    · split
      · exact ⟨Nat.zero_le _, Nat.zero_le _⟩
      · rename_i f
        exact h f rfl l (a + 1) tx it
    · exact ⟨Nat.zero_le _, Nat.zero_le _⟩
theorem repF_le : ∀ d, LeR (repF d)
  | 0 => repS_le (fun f e => by cases e)
  | d + 1 => repS_le (fun f e => by cases e; exact list_le (repF_le d))
theorem ownR_below {w w' : World} {base n : Nat} {e : TypeId} {sz : Nat} {v : Value} {xs : List Value} (h : w.ownsRow base e sz v n xs) (hb : Below w.heap.size w w') : w'.ownsRow base e sz v n xs :=
  h.kept (row := none) ⟨hb.os, hb.tape, hb.output, hb.size, fun k hk _ => hb.block k hk⟩ (by cases v.ownBlock <;> simp)
theorem rep_info : (Tryd.prog.info? 41).map (fun i => (i.zero, i.size, i.bytes)) = some (some (.agg zero41), 4, 56) := by kernel_rfl
section
variable {W : World} {G : Nat} {A : Option Addr} {n c : Nat} {l : List UInt8} {a : Nat} {tx it li : Int}
theorem Inp.its (h : Inp W G A n c l a tx it li) (t : Int) : Inp (W.setCell ⟨G, 3, none⟩ (.int .i64 t)) G A n c l a tx t li :=
  ⟨row_set h.z, fun h0 => by
    obtain ⟨g, off, e, hlt, hc⟩ := h.rd h0
    exact ⟨g, off, e, by simpa [World.setCell] using hlt, fun j hj => (World.cell?_setCell_other W ⟨G, 3, none⟩ ⟨g, off + j, none⟩ _ (fun e2 => h.ne _ e (by injection e2 with e3; exact e3.symm))).trans (hc j hj)⟩, h.len, h.cap, h.nil, h.ne, h.max, h.pos⟩
theorem Inp.lis (h : Inp W G A n c l a tx it li) (t : Int) : Inp (W.setCell ⟨G, 4, none⟩ (.int .i64 t)) G A n c l a tx it t :=
  ⟨row_set h.z, fun h0 => by
    obtain ⟨g, off, e, hlt, hc⟩ := h.rd h0
    exact ⟨g, off, e, by simpa [World.setCell] using hlt, fun j hj => (World.cell?_setCell_other W ⟨G, 4, none⟩ ⟨g, off + j, none⟩ _ (fun e2 => h.ne _ e (by injection e2 with e3; exact e3.symm))).trans (hc j hj)⟩, h.len, h.cap, h.nil, h.ne, h.max, h.pos⟩
/-- What the contract of a reading says. -/
def RepC (rep : List UInt8 → Nat → Nat → Nat → DR) (li : Int) : Prop := ∀ (G : Nat) (A : Option Addr) (n c : Nat) (l : List UInt8) (a tx it : Nat) (w : World), Inp w G A n c l a (tx : Nat) (it : Nat) li → tx ≤ 1000000000 → it ≤ 1000000000 → n ≤ 1000000000 →
  Calls Tryd.prog 57 #[.pointer (some ⟨G, 0, none⟩), .agg (takerV G)] w (RepQ w G A n c l (rep l a tx it) li)
set_option maxRecDepth 100000 in
set_option maxHeartbeats 8000000 in
theorem list_any (rep : List UInt8 → Nat → Nat → Nat → DR) (hle : LeR rep) (li : Int) (hl0 : 0 ≤ li) (hl1 : li ≤ 1000) (IH : RepC rep (li + 1)) (w : World) (a tx it : Nat) (h : Inp w G A n c l a (tx : Nat) (it : Nat) li) (htx : tx ≤ 1000000000) (hit : it ≤ 1000000000) (hn : n ≤ 1000000000) :
    Calls Tryd.prog 75 #[.pointer (some ⟨G, 0, none⟩), .agg (takerV G)] w (RepQ w G A n c l (listS rep l a tx it) li) := by
  obtain ⟨i0, hi, hz0, hz1, hz2⟩ := info_parts rep_info
  have HRV := Lib.hid (RV.new h)
  have HIH := Lib.hid IH
  have HLEE := Lib.hid hle
  obtain ⟨D, hD⟩ : ∃ D, listS rep l a tx it = D := ⟨_, rfl⟩
  rw [hD]
  unfold listS at hD
  have HD := Lib.hid hD.symm
  clear hD h IH hle
  go_enter Tryd.func75, Tryd.ntmps75
  go_upto_region 1 with (fail)
  generalize (w.alloc (.cells (takerV G) 81)).alloc (.cells zero41 41) = W at *
  generalize hB : w.heap.size = B at *
  have HB := Lib.hid hB
  clear hB
  have HVD : Hid (RV w W.drew B G A n c l a (tx : Nat) (it : Nat) li) := Lib.hid (HRV.out.drew 1)
  have hs2 := HVD.out.takes.2.2.1
  have hs4 := HVD.out.inp.rows.2.2.2.1
  have HLN := Lib.hid (length_any W.drew it HVD.out.inp (by omega))
  have HDL := Lib.hid (digR_le (most := it) (l := l) (a := a))
  clear HRV
  refine wp_region_held_drew (S := fun W => W.cell? ⟨B, 2, none⟩ = some (mv 63 G) ∧ W.cell? ⟨G, 3, none⟩ = some (.int .i64 (it : Nat))) (by kernel_rfl) ⟨hs2, hs4⟩ (fun hHeld => ?_)
  refine wpAnyH_take (i := 0) (v := ?_) rfl (by kernel_rfl) (by kernel_rfl) (by kernel_rfl) (fun _ _ _ h => h) (Or.inl ⟨by rfl, ?_⟩) (by assumption) ?_
  rotate_left
  · intro w hSw
    obtain ⟨s2, s4⟩ := hSw
    go_simp
    try with_reducible rfl
  try simp only [Act.put, List.setIfInBounds_toArray, List.set_cons_zero, List.set_cons_succ]
  refine wpAnyH_take (i := 1) (v := mv 63 G) rfl (by kernel_rfl) (by kernel_rfl) (by kernel_rfl) (fun _ _ _ h => h) (Or.inl ⟨by rfl, ?_⟩) (by assumption) ?_
  · intro w hSw
    obtain ⟨s2, s4⟩ := hSw
    go_simp
    try with_reducible rfl
  try simp only [Act.put, List.setIfInBounds_toArray, List.set_cons_zero, List.set_cons_succ]
  refine wpAnyH_take (i := 2) (v := ?_) rfl (by kernel_rfl) (by kernel_rfl) (by kernel_rfl) (fun _ _ _ h => h) (Or.inl ⟨by rfl, ?_⟩) (by assumption) ?_
  rotate_left
  · intro w hSw
    obtain ⟨s2, s4⟩ := hSw
    go_simp
    try with_reducible rfl
  try simp only [Act.put, List.setIfInBounds_toArray, List.set_cons_zero, List.set_cons_succ]
  refine wpAnyH_take (i := 3) (v := ?_) rfl (by kernel_rfl) (by kernel_rfl) (by kernel_rfl) (fun _ _ _ h => h) (Or.inl ⟨by rfl, ?_⟩) (by assumption) ?_
  rotate_left
  · intro w hSw
    obtain ⟨s2, s4⟩ := hSw
    go_simp
    try with_reducible rfl
  try simp only [Act.put, List.setIfInBounds_toArray, List.set_cons_zero, List.set_cons_succ]
  refine wpAnyH_take (i := 4) (v := ?_) rfl (by kernel_rfl) (by kernel_rfl) (by kernel_rfl) (fun _ _ _ h => h) (Or.inl ⟨by rfl, ?_⟩) (by assumption) ?_
  rotate_left
  · intro w hSw
    obtain ⟨s2, s4⟩ := hSw
    go_simp
    try with_reducible rfl
  try simp only [Act.put, List.setIfInBounds_toArray, List.set_cons_zero, List.set_cons_succ]
  refine wpAnyH_take (i := 5) (v := .int .i64 (it : Nat)) rfl (by kernel_rfl) (by kernel_rfl) (by kernel_rfl) (fun _ _ _ h => h) (Or.inl ⟨by rfl, ?_⟩) (by assumption) ?_
  · intro w hSw
    obtain ⟨s2, s4⟩ := hSw
    go_simp
    try with_reducible rfl
  try simp only [Act.put, List.setIfInBounds_toArray, List.set_cons_zero, List.set_cons_succ]
  refine wpAnyH_ready (rs := [6]) (by kernel_rfl) (by simp) ?_
  refine AllReadyH.cons rfl (fun K hK => ?_) AllReadyH.nil
  go_simp
  refine HLN.out.mono ?_
  rintro e w4 ⟨⟨he, rfl, hi4⟩ | ⟨he, rfl⟩, ho⟩
  rotate_left
  · have HEK : Hid (D.e = lenE it l a) := Lib.hid (by rw [HD.out, if_pos he]; rfl)
    exact post_panic (P := Tryd.prog) (fn := Tryd.f75) rfl ⟨.inr ⟨by rw [HEK.out]; exact he, by rw [HEK.out]⟩, only_trans HVD.out.only ho⟩
  have hd4 := HDL.out (lenE_zero he)
  have hd := HD.out
  rw [if_neg (by rw [he]; decide)] at hd
  have HD2 := Lib.hid hd
  have HV4 := Lib.hid (HVD.out.next ho hi4)
  clear he hi4 ho HLN HDL HVD hs2 hs4 hd HD
  refine hK.out _ _ ⟨HV4.out.takes.2.2.1, HV4.out.inp.rows.2.2.2.1⟩ (fun hHeld => ?_)
  clear hK K
  generalize (digR it l a).2.1 = m at *
  generalize (digR it l a).2.2 + 2 = a0 at *
  try simp only [Act.put, List.setIfInBounds_toArray, List.set_cons_zero, List.set_cons_succ]
  refine wpAnyH_ready (rs := [7]) (by kernel_rfl) (by simp) ?_
  refine AllReadyH.cons rfl (fun K hK => ?_) AllReadyH.nil
  go_simp
  refine hK.out _ _ hHeld (fun hHeld => ?_)
  clear hK K
  try simp only [Act.put, List.setIfInBounds_toArray, List.set_cons_zero, List.set_cons_succ]
  refine wpAnyH_done (by kernel_rfl) ?_ _
  obtain ⟨z0, z1, z2, z3, z4, zf⟩ := HV4.out.inp.rows
  have hv1 := HV4.out.next (only_set G 3 w4 (.int .i64 ((it : Int) - (m : Int)))) (HV4.out.inp.its _)
  have hv2 := hv1.next (only_set G 4 _ (.int .i64 (li + 1))) (hv1.inp.lis _)
  rw [show ((it : Int) - (m : Int)) = ((it - m : Nat) : Int) by omega] at hv2
  have HL0 := Lib.hid (LV.start hv2)
  have hw1 : IntKind.i64.wrap ((it : Int) - (m : Int)) = ((it - m : Nat) : Int) := by rw [IntWalk.i64_in _ (by omega)]; omega
  have hw2 : (it : Int) - (m : Int) = ((it - m : Nat) : Int) := by omega
  have hw3 : IntKind.i64.wrap (li + 1) = li + 1 := IntWalk.i64_in _ (by omega)
  clear hv1 hv2 HV4
  go_wp2_with fail
  clear hw1 hw2 hw3 z0 z1 z2 z3 z4 zf
  have hsz : ((w4.setCell ⟨G, 3, none⟩ (.int .i64 ((it - m : Nat) : Int))).setCell ⟨G, 4, none⟩ (.int .i64 (li + 1))).heap.size = w4.heap.size := by simp [World.setCell]
  rw [hsz] at HL0
  clear hsz
  generalize w4.heap.size = R at *
  obtain ⟨RR, hRR⟩ : ∃ RR, itemsS rep m l a0 tx (it - m) [] = RR := ⟨_, rfl⟩
  rw [hRR] at HD2
  have HRR := Lib.hid hRR
  clear hRR
  have HBAD : Hid (∀ (k : Int) w', RR.1 = k → k ≠ 0 → Only G w w' → RepQ w G A n c l D li (.panicked (stopP k)) w') := Lib.hid (fun k w' h1 h2 h3 => ⟨.inr ⟨by rw [HD2.out, if_pos (by rw [h1]; exact h2)]; show RR.1 ≠ 0; rw [h1]; exact h2, by rw [HD2.out, if_pos (by rw [h1]; exact h2)]; show _ = Ending.panicked (stopP RR.1); rw [h1]⟩, h3⟩)
  go_loopw [31] (fun i wr => ∃ (k : Nat) (v : Value) (ps : List Got) (a1 tx1 it1 : Nat), k ≤ m ∧ i = .int .i64 k ∧ Hid (LV w wr B R G A n c l a1 (tx1 : Nat) (it1 : Nat) (li + 1) v ps) ∧ Hid (ps.length = k) ∧ Hid (itemsS rep (m - k) l a1 tx1 it1 (ps.map Got.r) = RR) ∧ tx1 ≤ 1000000000 ∧ it1 ≤ 1000000000) (fun i _ => m - (intOf i).toNat)
  case atStart => exact ⟨0, _, [], a0, tx, it - m, Nat.zero_le _, rfl, HL0, rfl, HRR, htx, by omega⟩
  case round =>
    clear HL0 HRR
    obtain ⟨k, v, ps, a1, tx1, it1, hk, rfl, HL, HLS, HIT, htx1, hit1⟩ := hrel
    by_cases hlt : k < m
    · have HL1 : Hid (LV w wr.drew B R G A n c l a1 (tx1 : Nat) (it1 : Nat) (li + 1) v ps) := Lib.hid (HL.out.drew 1)
      have HC := Lib.hid (HIH.out G A n c l a1 tx1 it1 wr.drew HL1.out.rv.inp htx1 hit1 hn)
      have HLE1 := Lib.hid (HLEE.out l a1 tx1 it1)
      have hit := HIT.out
      rw [show m - k = (m - (k + 1)) + 1 by omega, itemsS] at hit
      have HI2 := Lib.hid hit
      obtain ⟨t0, t1, t2, t3, t4, t5⟩ := HL1.out.rv.takes
      clear hit HIT HL
      generalize rep l a1 tx1 it1 = D1 at *
      go_wp2_with fail
      refine wp_region_held_drew (S := fun W => W.cell? ⟨B, 0, none⟩ = some (mv 61 G) ∧ W.cell? ⟨B, 1, none⟩ = some (mv 62 G) ∧ W.cell? ⟨B, 2, none⟩ = some (mv 63 G) ∧ W.cell? ⟨B, 3, none⟩ = some (mv 64 G) ∧ W.cell? ⟨B, 4, none⟩ = some (mv 65 G) ∧ W.cell? ⟨B, 5, none⟩ = some (mv 66 G)) (by kernel_rfl) ⟨t0, t1, t2, t3, t4, t5⟩ (fun hHeld => ?_)
      refine wpAnyH_take (i := 0) (v := ?_) rfl (by kernel_rfl) (by kernel_rfl) (by kernel_rfl) (fun _ _ _ h => h) (Or.inl ⟨by rfl, ?_⟩) (by assumption) ?_
      rotate_left
      · intro w hSw
        obtain ⟨s0, s1, s2, s3, s4, s5⟩ := hSw
        go_simp
        try with_reducible rfl
      try simp only [Act.put, List.setIfInBounds_toArray, List.set_cons_zero, List.set_cons_succ]
      refine wpAnyH_take (i := 2) (v := ?_) rfl (by kernel_rfl) (by kernel_rfl) (by kernel_rfl) (fun _ _ _ h => h) (Or.inl ⟨by rfl, ?_⟩) (by assumption) ?_
      rotate_left
      · intro w hSw
        obtain ⟨s0, s1, s2, s3, s4, s5⟩ := hSw
        go_simp
        try with_reducible rfl
      try simp only [Act.put, List.setIfInBounds_toArray, List.set_cons_zero, List.set_cons_succ]
      refine wpAnyH_take (i := 3) (v := .agg (takerV G)) rfl (by kernel_rfl) (by kernel_rfl) (by kernel_rfl) (fun _ _ _ h => h) (Or.inl ⟨by rfl, ?_⟩) (by assumption) ?_
      · intro w hSw
        obtain ⟨s0, s1, s2, s3, s4, s5⟩ := hSw
        go_simp
        try with_reducible rfl
      try simp only [Act.put, List.setIfInBounds_toArray, List.set_cons_zero, List.set_cons_succ]
      refine wpAnyH_ready (rs := [1, 4]) (by kernel_rfl) (by simp) ?_
      refine AllReadyH.cons rfl (fun K hK => ?_) (AllReadyH.cons rfl (fun K hK => ?_) AllReadyH.nil)
      · have hr3 := HL1.out.rows.2.2.2.1
        go_simp
        refine hK.out _ _ hHeld (fun hHeld => ?_)
        clear hK K hr3
        try simp only [Act.put, List.setIfInBounds_toArray, List.set_cons_zero, List.set_cons_succ]
        refine wpAnyH_ready (rs := [4]) (by kernel_rfl) (by simp) ?_
        refine AllReadyH.cons rfl (fun K hK => ?_) AllReadyH.nil
        go_simp
        refine HC.out.mono ?_
        rintro e w5 ⟨⟨he, A1, c1, rfl, hk1, hi5⟩ | ⟨he, rfl⟩, ho5⟩
        rotate_left
        · have HEK : Hid (RR.1 = D1.e) := Lib.hid (by rw [← HI2.out, if_pos he])
          exact post_panic (P := Tryd.prog) (fn := Tryd.f75) rfl (HBAD.out _ _ HEK.out he (only_trans HL1.out.rv.only ho5))
        have HI3 := Lib.hid (((if_neg (by rw [he]; decide)).symm).trans HI2.out)
        have HL5 := Lib.hid (HL1.out.next ho5 hi5)
        have HK5 : Hid (RpK (fun b => v.ownBlock ≠ some b ∧ R + 1 ≤ b) w5 D1.r A1 c1) := Lib.hid (hk1.imp (Nat.le_refl _) (fun b hb _ => ⟨rfl, fun e => by have := (HL1.out.own.lt b e).2; omega, by have := lt_of_block HL1.out.rb; omega⟩))
        clear he hk1 hi5 ho5 HC HI2
        refine hK.out _ _ HL5.out.rv.takes (fun hHeld => ?_)
        clear hK K
        try simp only [Act.put, List.setIfInBounds_toArray, List.set_cons_zero, List.set_cons_succ]
        refine wpAnyH_ready (rs := [5]) (by kernel_rfl) (by simp) ?_
        refine AllReadyH.cons rfl (fun K hK => ?_) AllReadyH.nil
        go_simp
        refine hK.out _ _ (HL5.out.rv.next (only_below2 (below_new w5 _)) (HL5.out.rv.inp.below (below_new w5 _))).takes (fun hHeld => ?_)
        clear hK K
        try simp only [Act.put, List.setIfInBounds_toArray, List.set_cons_zero, List.set_cons_succ]
        refine wpAnyH_ready (rs := [6]) (by kernel_rfl) (by simp) ?_
        refine AllReadyH.cons rfl (fun K hK => ?_) AllReadyH.nil
        refine step_append_lies _ (by rfl) _ _ _ (by rfl) (R + 1) 41 i0 (.agg zero41) 4 56 Tryd.underlying39 hi hz0 hz1 hz2 rfl (by omega) v k (rowOf ps) (by rfl) (HLS.out ▸ ownR_below HL5.out.own (below_new w5 _)) ⟨w5.heap.size, 0, none⟩ 1 1 [.int .i64 D1.r.kind, .int .i64 D1.r.num, .string D1.r.text, .slice A1 D1.r.kids.length c1] (by rfl) (by rfl) (World.news_of_block (cs := rpV D1.r A1 c1) (t := 41) (fr := (0, 0)) (heap_alloc_new w5 _)) (by simp [Value.oneCell']) (by omega) (by simp only [maxLen]; omega) (by omega) (by have := lt_of_block HL5.out.rb; simp; omega) (w5.heap.size + 1) (by simp) ?_
        intro g1 c6 w6 hown6 hgr6 hat hlt6
        have HA6 := Lib.hid (HL5.out.app ⟨D1.r, A1, c1⟩ _ g1 k HLS.out HK5.out hown6 hgr6 rfl hat)
        clear hown6 hgr6 hat hlt6
        refine hK.out _ _ HA6.out.1.takes (fun hHeld => ?_)
        clear hK K
        try simp only [Act.put, List.setIfInBounds_toArray, List.set_cons_zero, List.set_cons_succ]
        refine wpAnyH_ready (rs := [7]) (by kernel_rfl) (by simp) ?_
        refine AllReadyH.cons rfl (fun K hK => ?_) AllReadyH.nil
        go_simp
        refine hK.out _ _ hHeld (fun hHeld => ?_)
        clear hK K
        try simp only [Act.put, List.setIfInBounds_toArray, List.set_cons_zero, List.set_cons_succ]
        refine wpAnyH_ready (rs := [8]) (by kernel_rfl) (by simp) ?_
        refine AllReadyH.cons rfl (fun K hK => ?_) AllReadyH.nil
        have hrb6 := HA6.out.2.1
        have hc6 : w6.cell? ⟨R, 3, none⟩ = some v := by simp only [World.cell?, hrb6]; rfl
        have hf6 : ∀ j, w6.frozen? ⟨R, j, none⟩ = false := fun j => free_row hrb6 j
        clear hrb6
        go_simp
        refine hK.out _ _ HA6.out.2.2.rv.takes (fun hHeld => ?_)
        clear hK K hc6 hf6
        try simp only [Act.put, List.setIfInBounds_toArray, List.set_cons_zero, List.set_cons_succ]
        refine wpAnyH_done (by kernel_rfl) ?_ _
        go_wp2_with fail
        go_roundw
        case rel => exact ⟨k + 1, _, ps ++ [⟨D1.r, A1, c1⟩], D1.a, D1.tx, D1.it, by omega, by go_num, Lib.hid HA6.out.2.2, by show _ = _; rw [List.length_append, HLS.out]; rfl, by rw [List.map_append]; exact HI3, by have := HLE1.out; omega, by have := HLE1.out; omega⟩
        case measure => simp [intOf]; omega
      · go_simp
        refine HC.out.mono ?_
        rintro e w5 ⟨⟨he, A1, c1, rfl, hk1, hi5⟩ | ⟨he, rfl⟩, ho5⟩
        rotate_left
        · have HEK : Hid (RR.1 = D1.e) := Lib.hid (by rw [← HI2.out, if_pos he])
          exact post_panic (P := Tryd.prog) (fn := Tryd.f75) rfl (HBAD.out _ _ HEK.out he (only_trans HL1.out.rv.only ho5))
        have HI3 := Lib.hid (((if_neg (by rw [he]; decide)).symm).trans HI2.out)
        have HL5 := Lib.hid (HL1.out.next ho5 hi5)
        have HK5 : Hid (RpK (fun b => v.ownBlock ≠ some b ∧ R + 1 ≤ b) w5 D1.r A1 c1) := Lib.hid (hk1.imp (Nat.le_refl _) (fun b hb _ => ⟨rfl, fun e => by have := (HL1.out.own.lt b e).2; omega, by have := lt_of_block HL1.out.rb; omega⟩))
        clear he hk1 hi5 ho5 HC HI2
        refine hK.out _ _ HL5.out.rv.takes (fun hHeld => ?_)
        clear hK K
        try simp only [Act.put, List.setIfInBounds_toArray, List.set_cons_zero, List.set_cons_succ]
        refine wpAnyH_ready (rs := [1, 5]) (by kernel_rfl) (by simp) ?_
        refine AllReadyH.cons rfl (fun K hK => ?_) (AllReadyH.cons rfl (fun K hK => ?_) AllReadyH.nil)
        · have hr3 := HL5.out.rows.2.2.2.1
          go_simp
          refine hK.out _ _ hHeld (fun hHeld => ?_)
          clear hK K hr3
          try simp only [Act.put, List.setIfInBounds_toArray, List.set_cons_zero, List.set_cons_succ]
          refine wpAnyH_ready (rs := [5]) (by kernel_rfl) (by simp) ?_
          refine AllReadyH.cons rfl (fun K hK => ?_) AllReadyH.nil
          go_simp
          refine hK.out _ _ (HL5.out.rv.next (only_below2 (below_new w5 _)) (HL5.out.rv.inp.below (below_new w5 _))).takes (fun hHeld => ?_)
          clear hK K
          try simp only [Act.put, List.setIfInBounds_toArray, List.set_cons_zero, List.set_cons_succ]
          refine wpAnyH_ready (rs := [6]) (by kernel_rfl) (by simp) ?_
          refine AllReadyH.cons rfl (fun K hK => ?_) AllReadyH.nil
          refine step_append_lies _ (by rfl) _ _ _ (by rfl) (R + 1) 41 i0 (.agg zero41) 4 56 Tryd.underlying39 hi hz0 hz1 hz2 rfl (by omega) v k (rowOf ps) (by rfl) (HLS.out ▸ ownR_below HL5.out.own (below_new w5 _)) ⟨w5.heap.size, 0, none⟩ 1 1 [.int .i64 D1.r.kind, .int .i64 D1.r.num, .string D1.r.text, .slice A1 D1.r.kids.length c1] (by rfl) (by rfl) (World.news_of_block (cs := rpV D1.r A1 c1) (t := 41) (fr := (0, 0)) (heap_alloc_new w5 _)) (by simp [Value.oneCell']) (by omega) (by simp only [maxLen]; omega) (by omega) (by have := lt_of_block HL5.out.rb; simp; omega) (w5.heap.size + 1) (by simp) ?_
          intro g1 c6 w6 hown6 hgr6 hat hlt6
          have HA6 := Lib.hid (HL5.out.app ⟨D1.r, A1, c1⟩ _ g1 k HLS.out HK5.out hown6 hgr6 rfl hat)
          clear hown6 hgr6 hat hlt6
          refine hK.out _ _ HA6.out.1.takes (fun hHeld => ?_)
          clear hK K
          try simp only [Act.put, List.setIfInBounds_toArray, List.set_cons_zero, List.set_cons_succ]
          refine wpAnyH_ready (rs := [7]) (by kernel_rfl) (by simp) ?_
          refine AllReadyH.cons rfl (fun K hK => ?_) AllReadyH.nil
          go_simp
          refine hK.out _ _ hHeld (fun hHeld => ?_)
          clear hK K
          try simp only [Act.put, List.setIfInBounds_toArray, List.set_cons_zero, List.set_cons_succ]
          refine wpAnyH_ready (rs := [8]) (by kernel_rfl) (by simp) ?_
          refine AllReadyH.cons rfl (fun K hK => ?_) AllReadyH.nil
          have hrb6 := HA6.out.2.1
          have hc6 : w6.cell? ⟨R, 3, none⟩ = some v := by simp only [World.cell?, hrb6]; rfl
          have hf6 : ∀ j, w6.frozen? ⟨R, j, none⟩ = false := fun j => free_row hrb6 j
          clear hrb6
          go_simp
          refine hK.out _ _ HA6.out.2.2.rv.takes (fun hHeld => ?_)
          clear hK K hc6 hf6
          try simp only [Act.put, List.setIfInBounds_toArray, List.set_cons_zero, List.set_cons_succ]
          refine wpAnyH_done (by kernel_rfl) ?_ _
          go_wp2_with fail
          go_roundw
          case rel => exact ⟨k + 1, _, ps ++ [⟨D1.r, A1, c1⟩], D1.a, D1.tx, D1.it, by omega, by go_num, Lib.hid HA6.out.2.2, by show _ = _; rw [List.length_append, HLS.out]; rfl, by rw [List.map_append]; exact HI3, by have := HLE1.out; omega, by have := HLE1.out; omega⟩
          case measure => simp [intOf]; omega
        · go_simp
          refine hK.out _ _ (HL5.out.rv.next (only_below2 (below_new w5 _)) (HL5.out.rv.inp.below (below_new w5 _))).takes (fun hHeld => ?_)
          clear hK K
          try simp only [Act.put, List.setIfInBounds_toArray, List.set_cons_zero, List.set_cons_succ]
          refine wpAnyH_ready (rs := [1]) (by kernel_rfl) (by simp) ?_
          refine AllReadyH.cons rfl (fun K hK => ?_) AllReadyH.nil
          have hr3 := HL5.out.rows.2.2.2.1
          have hr3b : (w5.alloc (.cells (rpV D1.r A1 c1) 41)).cell? ⟨R, 3, none⟩ = some v := (World.cell?_of_block (w := w5) (a := ⟨R, 3, none⟩) ((below_new w5 _).block R (lt_of_block HL5.out.rb))).trans hr3
          go_simp
          refine hK.out _ _ hHeld (fun hHeld => ?_)
          clear hK K hr3 hr3b
          try simp only [Act.put, List.setIfInBounds_toArray, List.set_cons_zero, List.set_cons_succ]
          refine wpAnyH_ready (rs := [6]) (by kernel_rfl) (by simp) ?_
          refine AllReadyH.cons rfl (fun K hK => ?_) AllReadyH.nil
          refine step_append_lies _ (by rfl) _ _ _ (by rfl) (R + 1) 41 i0 (.agg zero41) 4 56 Tryd.underlying39 hi hz0 hz1 hz2 rfl (by omega) v k (rowOf ps) (by rfl) (HLS.out ▸ ownR_below HL5.out.own (below_new w5 _)) ⟨w5.heap.size, 0, none⟩ 1 1 [.int .i64 D1.r.kind, .int .i64 D1.r.num, .string D1.r.text, .slice A1 D1.r.kids.length c1] (by rfl) (by rfl) (World.news_of_block (cs := rpV D1.r A1 c1) (t := 41) (fr := (0, 0)) (heap_alloc_new w5 _)) (by simp [Value.oneCell']) (by omega) (by simp only [maxLen]; omega) (by omega) (by have := lt_of_block HL5.out.rb; simp; omega) (w5.heap.size + 1) (by simp) ?_
          intro g1 c6 w6 hown6 hgr6 hat hlt6
          have HA6 := Lib.hid (HL5.out.app ⟨D1.r, A1, c1⟩ _ g1 k HLS.out HK5.out hown6 hgr6 rfl hat)
          clear hown6 hgr6 hat hlt6
          refine hK.out _ _ HA6.out.1.takes (fun hHeld => ?_)
          clear hK K
          try simp only [Act.put, List.setIfInBounds_toArray, List.set_cons_zero, List.set_cons_succ]
          refine wpAnyH_ready (rs := [7]) (by kernel_rfl) (by simp) ?_
          refine AllReadyH.cons rfl (fun K hK => ?_) AllReadyH.nil
          go_simp
          refine hK.out _ _ hHeld (fun hHeld => ?_)
          clear hK K
          try simp only [Act.put, List.setIfInBounds_toArray, List.set_cons_zero, List.set_cons_succ]
          refine wpAnyH_ready (rs := [8]) (by kernel_rfl) (by simp) ?_
          refine AllReadyH.cons rfl (fun K hK => ?_) AllReadyH.nil
          have hrb6 := HA6.out.2.1
          have hc6 : w6.cell? ⟨R, 3, none⟩ = some v := by simp only [World.cell?, hrb6]; rfl
          have hf6 : ∀ j, w6.frozen? ⟨R, j, none⟩ = false := fun j => free_row hrb6 j
          clear hrb6
          go_simp
          refine hK.out _ _ HA6.out.2.2.rv.takes (fun hHeld => ?_)
          clear hK K hc6 hf6
          try simp only [Act.put, List.setIfInBounds_toArray, List.set_cons_zero, List.set_cons_succ]
          refine wpAnyH_done (by kernel_rfl) ?_ _
          go_wp2_with fail
          go_roundw
          case rel => exact ⟨k + 1, _, ps ++ [⟨D1.r, A1, c1⟩], D1.a, D1.tx, D1.it, by omega, by go_num, Lib.hid HA6.out.2.2, by show _ = _; rw [List.length_append, HLS.out]; rfl, by rw [List.map_append]; exact HI3, by have := HLE1.out; omega, by have := HLE1.out; omega⟩
          case measure => simp [intOf]; omega
    · obtain rfl : k = m := by omega
      obtain ⟨A8, c8, rfl, hc8, hn8, hl8⟩ := HL.out.kidsL
      have hr8 : RR = (0, ps.map Got.r, a1, tx1, it1) := by
        have h := HIT.out
        rw [Nat.sub_self] at h
        exact h.symm
      have hd8 := HD2.out
      rw [hr8, if_neg (by simp)] at hd8
      have HD8 := Lib.hid hd8
      have HF8 : Hid (Fits (.mk 5 0 noT (ps.map Got.r))) := Lib.hid ⟨by show _ ≤ (0 : Int); decide, by show (0 : Int) ≤ _; decide, by show _ ≤ (5 : Int); decide, by show (5 : Int) ≤ _; decide, by show (0 : Nat) ≤ _; omega, by show (ps.map Got.r).length ≤ _; rw [List.length_map, HLS.out]; omega⟩
      have HK8 := Lib.hid hl8
      have HC8 : Hid ((ps.map Got.r).length ≤ c8) := Lib.hid (by rw [List.length_map]; exact hc8)
      have HN8 := Lib.hid hn8
      obtain ⟨q0, q1, q2, q3, qf⟩ := HL.out.rows
      obtain ⟨z0, z1, z2, z3, z4, zf⟩ := HL.out.rv.inp.rows
      have hw9 : IntKind.i64.wrap (li + 1 - 1) = li := by rw [Int.add_sub_cancel]; exact IntWalk.i64_in _ (by omega)
      have hw8 : li + 1 - 1 = li := by omega
      have HLX := Lib.hid (HL.out.next (only_set G 4 wr (.int .i64 li)) (HL.out.rv.inp.lis li))
      have HKX : Hid (RpL (fun b => R + 1 ≤ b) (wr.setCell ⟨G, 4, none⟩ (.int .i64 li)) (ps.map Got.r) A8) := Lib.hid (by
        have h9 := HLX.out.kidsL
        obtain ⟨A9, c9, e9, _, _, h9⟩ := h9
        injection e9 with e1 e2 e3
        subst e1
        exact h9)
      clear hr8 hd8 hl8 hc8 hn8 HIT HD2 HBAD HK8
      go_upto_region 10 with (fail)
      clear hw9 hw8 z0 z1 z2 z3 z4 zf q0 q1 q2 q3 qf HL
      generalize wr.setCell ⟨G, 4, none⟩ (.int .i64 li) = wz at *
      obtain ⟨q0, q1, q2, q3, qf⟩ := HLX.out.rows
      have HZ := Lib.hid HLX.out.rv.rv
      go_wp2_with (refine wpList_store_row rfl 41 (.tmp 4) (.tmp 49) rfl (B + 1) #[.int .i64 5, .int .i64 0, .string ⟨#[]⟩, .slice A8 ps.length c8] rfl rfl 41 zero41 HZ.out size41 rfl (by simp [Value.oneCell']) ?_)
      have hr := HLX.out.rv.ret #[.int .i64 5, .int .i64 0, .string ⟨#[]⟩, .slice A8 ps.length c8]
      refine bodyPost_ret (v := .agg #[.int .i64 5, .int .i64 0, .string ⟨#[]⟩, .slice A8 ps.length c8]) (res75 _ _ (B + 1) _ rfl hr.1) rfl ⟨.inl ⟨by rw [HD8.out], A8, c8, ?_, ?_, ?_⟩, hr.2.2⟩
      · rw [HD8.out]
        show _ = Ending.returned (.agg #[_, _, _, .slice A8 (ps.map Got.r).length c8])
        rw [List.length_map]
        rfl
      · rw [HD8.out]
        refine ⟨HF8.out, HN8.out, HC8.out, ?_⟩
        have hb1 : B = w.heap.size := HB.out.symm
        have hb2 := HLX.out.br
        exact RpL.imp (by simp) (fun b hb hl => ⟨setRow_other _ _ _ _ (by omega), by omega⟩) _ _ HKX.out
      · rw [HD8.out]
        exact hr.2.1
end
end Go.Proofs.YtglicojojpggmaaDoor
