/- The bytes of a number, of a text. -/
import Derived.Test.YtglicojojpggmaaDoorEnc
namespace Go.Proofs.YtglicojojpggmaaDoor
open Go Go.RowKit
section
variable {w W W' : World} {O B : Nat} {A : Option Addr} {c : Nat} {l l' : List UInt8} {v : Value}
theorem num_ends {b t : Int} (h : -9223372036854775808 ≤ t ∧ t ≤ 9223372036854775807) : -9223372036854775808 ≤ t := h.1
set_option maxRecDepth 100000 in
set_option maxHeartbeats 8000000 in
theorem enc50_any (r : Rp) (Ar : Option Addr) (cr : Nat) (w : World) (h : EV w O B A c l) (hl : l.length ≤ 100000000) (hr0 : -9223372036854775808 ≤ r.num) (hr1 : r.num ≤ 9223372036854775807) :
    Calls Tryd.prog 50 #[.agg (rpV r Ar cr), .pointer (some ⟨O, 0, none⟩)] w (EncQ w O B (l ++ layL 58 (itL r.num))) := by
  have hb0 := below_new w (.cells (rpV r Ar cr) 41)
  have h1 := h.below hb0
  have HA := Lib.hid ((Apart.of (O := O) (hb0.mono h.bh)).trans (Apart.drew O B _ 1))
  change Hid (Apart O B w (World.drew _)) at HA
  have hbx := heap_alloc_new w (.cells (rpV r Ar cr) 41)
  have z1 : (w.alloc (.cells (rpV r Ar cr) 41)).cell? ⟨w.heap.size, 1, none⟩ = some (.int .i64 r.num) := by
    simp only [World.cell?, hbx]; rfl
  obtain ⟨e0, ef⟩ := h1.cell
  have H1 := Lib.hid (h1.drew 1)
  have HBX := Lib.hid hbx
  have HOB : Hid (w.heap.size ≠ O) := Lib.hid (by have := lt_of_block h.v0; omega)
  change Hid (EV (World.drew _) O B A c l) at H1
  have HIT := Lib.hid (fmt_any r.num (w.alloc (.cells (rpV r Ar cr) 41)).drew (by omega) (by omega) H1.out.tab)
  obtain ⟨l', hl'⟩ : ∃ l', l ++ layL 58 (itL r.num) = l' := ⟨_, rfl⟩
  clear h hb0 h1 hbx
  rw [hl']
  go_enter Tryd.func50, Tryd.ntmps50
  go_wp2_with fail
  refine wp_region_held_drew (S := fun _ => True) (by kernel_rfl) trivial (fun hHeld => ?_)
  refine wpAnyH_take (i := 1) (v := ?_) rfl (by kernel_rfl) (by kernel_rfl) (by kernel_rfl) (fun _ _ _ h => h) (Or.inl ⟨by rfl, ?_⟩) trivial ?_
  rotate_left
  · intro w hSw
    skip
    go_simp
    try with_reducible rfl
  try simp only [Act.put, List.setIfInBounds_toArray, List.set_cons_zero, List.set_cons_succ]
  refine wpAnyH_ready (rs := [0, 2]) (by kernel_rfl) (by simp) ?_
  refine AllReadyH.cons rfl (fun K hK => ?_) (AllReadyH.cons rfl (fun K hK => ?_) AllReadyH.nil)
  · go_simp
    refine hK.out _ _ trivial (fun hHeld => ?_)
    clear hK K
    try simp only [Act.put, List.setIfInBounds_toArray, List.set_cons_zero, List.set_cons_succ]
    refine wpAnyH_ready (rs := [2]) (by kernel_rfl) (by simp) ?_
    refine AllReadyH.cons rfl (fun K hK => ?_) AllReadyH.nil
    go_simp
    refine hK.out _ _ trivial (fun hHeld => ?_)
    clear hK K
    try simp only [Act.put, List.setIfInBounds_toArray, List.set_cons_zero, List.set_cons_succ]
    refine wpAnyH_ready (rs := [3]) (by kernel_rfl) (by simp) ?_
    refine AllReadyH.cons rfl (fun K hK => ?_) AllReadyH.nil
    go_simp
    with_reducible (refine HIT.out.mono ?_)
    rintro e w2 ⟨rfl, hb2⟩
    have H2 := Lib.hid (H1.out.below hb2)
    have HA2 := Lib.hid (HA.out.trans (Apart.of (O := O) (hb2.mono H1.out.bh)))
    have HF2 := Lib.hid (Frg.of hb2)
    have e2 := H2.out.cell.1
    have HLY := Lib.hid (lay_frg B A l.length c l 58 ⟨(itL r.num).toArray⟩ w2 H2.out.own rfl hl (by have := itL_len r.num (by omega) (by omega); show (itL r.num).toArray.size ≤ _; simp; omega) H2.out.bh)
    rw [show bl ⟨(itL r.num).toArray⟩ = itL r.num from rfl, hl', show ((UInt8.toNat 58 : Nat) : Int) = 58 from rfl] at HLY
    clear hb2 HIT
    refine hK.out _ _ trivial (fun hHeld => ?_)
    clear hK K
    try simp only [Act.put, List.setIfInBounds_toArray, List.set_cons_zero, List.set_cons_succ]
    refine wpAnyH_ready (rs := [4]) (by kernel_rfl) (by simp) ?_
    refine AllReadyH.cons rfl (fun K hK => ?_) AllReadyH.nil
    go_simp
    with_reducible (refine HLY.out.mono ?_)
    rintro e w3 ⟨v, rfl, ho, hb, hf⟩
    obtain ⟨k0, kf⟩ := H2.out.keep hb
    obtain ⟨Av, cv, rfl, hput⟩ := H2.out.put hb ho
    have HPUT := Lib.hid hput
    have HF3 := Lib.hid (HF2.out.trans hf)
    clear ho hb hf hput HLY
    refine hK.out _ _ trivial (fun hHeld => ?_)
    clear hK K
    try simp only [Act.put, List.setIfInBounds_toArray, List.set_cons_zero, List.set_cons_succ]
    refine wpAnyH_ready (rs := [5]) (by kernel_rfl) (by simp) ?_
    refine AllReadyH.cons rfl (fun K hK => ?_) AllReadyH.nil
    go_simp
    refine hK.out _ _ trivial (fun hHeld => ?_)
    clear hK K
    clear k0 kf
    try simp only [Act.put, List.setIfInBounds_toArray, List.set_cons_zero, List.set_cons_succ]
    refine wpAnyH_done (by kernel_rfl) ?_ _
    go_wp2_with fail
    go_end0
    exact ⟨rfl, ⟨_, _, HPUT.out.1⟩, HA2.out.trans HPUT.out.2⟩
  · go_simp
    refine hK.out _ _ trivial (fun hHeld => ?_)
    clear hK K
    try simp only [Act.put, List.setIfInBounds_toArray, List.set_cons_zero, List.set_cons_succ]
    refine wpAnyH_ready (rs := [0, 3]) (by kernel_rfl) (by simp) ?_
    refine AllReadyH.cons rfl (fun K hK => ?_) (AllReadyH.cons rfl (fun K hK => ?_) AllReadyH.nil)
    · go_simp
      refine hK.out _ _ trivial (fun hHeld => ?_)
      clear hK K
      try simp only [Act.put, List.setIfInBounds_toArray, List.set_cons_zero, List.set_cons_succ]
      refine wpAnyH_ready (rs := [3]) (by kernel_rfl) (by simp) ?_
      refine AllReadyH.cons rfl (fun K hK => ?_) AllReadyH.nil
      go_simp
      with_reducible (refine HIT.out.mono ?_)
      rintro e w2 ⟨rfl, hb2⟩
      have H2 := Lib.hid (H1.out.below hb2)
      have HA2 := Lib.hid (HA.out.trans (Apart.of (O := O) (hb2.mono H1.out.bh)))
      have HF2 := Lib.hid (Frg.of hb2)
      have e2 := H2.out.cell.1
      have HLY := Lib.hid (lay_frg B A l.length c l 58 ⟨(itL r.num).toArray⟩ w2 H2.out.own rfl hl (by have := itL_len r.num (by omega) (by omega); show (itL r.num).toArray.size ≤ _; simp; omega) H2.out.bh)
      rw [show bl ⟨(itL r.num).toArray⟩ = itL r.num from rfl, hl', show ((UInt8.toNat 58 : Nat) : Int) = 58 from rfl] at HLY
      clear hb2 HIT
      refine hK.out _ _ trivial (fun hHeld => ?_)
      clear hK K
      try simp only [Act.put, List.setIfInBounds_toArray, List.set_cons_zero, List.set_cons_succ]
      refine wpAnyH_ready (rs := [4]) (by kernel_rfl) (by simp) ?_
      refine AllReadyH.cons rfl (fun K hK => ?_) AllReadyH.nil
      go_simp
      with_reducible (refine HLY.out.mono ?_)
      rintro e w3 ⟨v, rfl, ho, hb, hf⟩
      obtain ⟨k0, kf⟩ := H2.out.keep hb
      obtain ⟨Av, cv, rfl, hput⟩ := H2.out.put hb ho
      have HPUT := Lib.hid hput
      have HF3 := Lib.hid (HF2.out.trans hf)
      clear ho hb hf hput HLY
      refine hK.out _ _ trivial (fun hHeld => ?_)
      clear hK K
      try simp only [Act.put, List.setIfInBounds_toArray, List.set_cons_zero, List.set_cons_succ]
      refine wpAnyH_ready (rs := [5]) (by kernel_rfl) (by simp) ?_
      refine AllReadyH.cons rfl (fun K hK => ?_) AllReadyH.nil
      go_simp
      refine hK.out _ _ trivial (fun hHeld => ?_)
      clear hK K
      clear k0 kf
      try simp only [Act.put, List.setIfInBounds_toArray, List.set_cons_zero, List.set_cons_succ]
      refine wpAnyH_done (by kernel_rfl) ?_ _
      go_wp2_with fail
      go_end0
      exact ⟨rfl, ⟨_, _, HPUT.out.1⟩, HA2.out.trans HPUT.out.2⟩
    · go_simp
      with_reducible (refine HIT.out.mono ?_)
      rintro e w2 ⟨rfl, hb2⟩
      have H2 := Lib.hid (H1.out.below hb2)
      have HA2 := Lib.hid (HA.out.trans (Apart.of (O := O) (hb2.mono H1.out.bh)))
      have HF2 := Lib.hid (Frg.of hb2)
      have e2 := H2.out.cell.1
      have HLY := Lib.hid (lay_frg B A l.length c l 58 ⟨(itL r.num).toArray⟩ w2 H2.out.own rfl hl (by have := itL_len r.num (by omega) (by omega); show (itL r.num).toArray.size ≤ _; simp; omega) H2.out.bh)
      rw [show bl ⟨(itL r.num).toArray⟩ = itL r.num from rfl, hl', show ((UInt8.toNat 58 : Nat) : Int) = 58 from rfl] at HLY
      clear hb2 HIT
      refine hK.out _ _ trivial (fun hHeld => ?_)
      clear hK K
      try simp only [Act.put, List.setIfInBounds_toArray, List.set_cons_zero, List.set_cons_succ]
      refine wpAnyH_ready (rs := [0]) (by kernel_rfl) (by simp) ?_
      refine AllReadyH.cons rfl (fun K hK => ?_) AllReadyH.nil
      go_simp
      refine hK.out _ _ trivial (fun hHeld => ?_)
      clear hK K
      try simp only [Act.put, List.setIfInBounds_toArray, List.set_cons_zero, List.set_cons_succ]
      refine wpAnyH_ready (rs := [4]) (by kernel_rfl) (by simp) ?_
      refine AllReadyH.cons rfl (fun K hK => ?_) AllReadyH.nil
      go_simp
      with_reducible (refine HLY.out.mono ?_)
      rintro e w3 ⟨v, rfl, ho, hb, hf⟩
      obtain ⟨k0, kf⟩ := H2.out.keep hb
      obtain ⟨Av, cv, rfl, hput⟩ := H2.out.put hb ho
      have HPUT := Lib.hid hput
      have HF3 := Lib.hid (HF2.out.trans hf)
      clear ho hb hf hput HLY
      refine hK.out _ _ trivial (fun hHeld => ?_)
      clear hK K
      try simp only [Act.put, List.setIfInBounds_toArray, List.set_cons_zero, List.set_cons_succ]
      refine wpAnyH_ready (rs := [5]) (by kernel_rfl) (by simp) ?_
      refine AllReadyH.cons rfl (fun K hK => ?_) AllReadyH.nil
      go_simp
      refine hK.out _ _ trivial (fun hHeld => ?_)
      clear hK K
      clear k0 kf
      try simp only [Act.put, List.setIfInBounds_toArray, List.set_cons_zero, List.set_cons_succ]
      refine wpAnyH_done (by kernel_rfl) ?_ _
      go_wp2_with fail
      go_end0
      exact ⟨rfl, ⟨_, _, HPUT.out.1⟩, HA2.out.trans HPUT.out.2⟩
set_option maxRecDepth 100000 in
set_option maxHeartbeats 8000000 in
theorem enc52_any (r : Rp) (Ar : Option Addr) (cr : Nat) (w : World) (h : EV w O B A c l) (hl : l.length ≤ 100000000) (hr0 : r.text.size ≤ 100000000) :
    Calls Tryd.prog 52 #[.agg (rpV r Ar cr), .pointer (some ⟨O, 0, none⟩)] w (EncQ w O B (l ++ (layL 36 (itL r.text.size) ++ (bl r.text ++ crlf)))) := by
  have hb0 := below_new w (.cells (rpV r Ar cr) 41)
  have h1 := h.below hb0
  have HA := Lib.hid ((Apart.of (O := O) (hb0.mono h.bh)).trans (Apart.drew O B _ 1))
  change Hid (Apart O B w (World.drew _)) at HA
  have hbx := heap_alloc_new w (.cells (rpV r Ar cr) 41)
  have z1 : (w.alloc (.cells (rpV r Ar cr) 41)).cell? ⟨w.heap.size, 2, none⟩ = some (.string r.text) := by
    simp only [World.cell?, hbx]; rfl
  obtain ⟨e0, ef⟩ := h1.cell
  have H1 := Lib.hid (h1.drew 1)
  have HBX := Lib.hid hbx
  have HOB : Hid (w.heap.size ≠ O) := Lib.hid (by have := lt_of_block h.v0; omega)
  change Hid (EV (World.drew _) O B A c l) at H1
  have HIT := Lib.hid (itoa_any (r.text.size : Int) (w.alloc (.cells (rpV r Ar cr) 41)).drew (by omega) (by omega) H1.out.tab)
  obtain ⟨l', hl'⟩ : ∃ l', l ++ layL 36 (itL (r.text.size : Int)) = l' := ⟨_, rfl⟩
  clear h hb0 h1 hbx
  rw [← List.append_assoc, hl']
  have HL' : Hid (l'.length ≤ 100000100) := Lib.hid (by rw [← hl']; have := itL_len (r.text.size : Int) (by omega) (by omega); simp [layL, crlf]; omega)
  obtain ⟨lf, hlf⟩ : ∃ lf, l' ++ (bl r.text ++ crlf) = lf := ⟨_, rfl⟩
  have HLL : Hid (l' ++ bl r.text ++ [13, 10] = lf) := Lib.hid (by rw [← hlf, List.append_assoc]; rfl)
  rw [hlf]
  clear hlf
  go_enter Tryd.func52, Tryd.ntmps52
  go_wp2_with fail
  refine wp_region_held_drew (S := fun _ => True) (by kernel_rfl) trivial (fun hHeld => ?_)
  refine wpAnyH_take (i := 1) (v := ?_) rfl (by kernel_rfl) (by kernel_rfl) (by kernel_rfl) (fun _ _ _ h => h) (Or.inl ⟨by rfl, ?_⟩) trivial ?_
  rotate_left
  · intro w hSw
    skip
    go_simp
    try with_reducible rfl
  try simp only [Act.put, List.setIfInBounds_toArray, List.set_cons_zero, List.set_cons_succ]
  refine wpAnyH_ready (rs := [0, 2]) (by kernel_rfl) (by simp) ?_
  refine AllReadyH.cons rfl (fun K hK => ?_) (AllReadyH.cons rfl (fun K hK => ?_) AllReadyH.nil)
  · go_simp
    refine hK.out _ _ trivial (fun hHeld => ?_)
    clear hK K
    try simp only [Act.put, List.setIfInBounds_toArray, List.set_cons_zero, List.set_cons_succ]
    refine wpAnyH_ready (rs := [2]) (by kernel_rfl) (by simp) ?_
    refine AllReadyH.cons rfl (fun K hK => ?_) AllReadyH.nil
    go_simp
    refine hK.out _ _ trivial (fun hHeld => ?_)
    clear hK K
    try simp only [Act.put, List.setIfInBounds_toArray, List.set_cons_zero, List.set_cons_succ]
    refine wpAnyH_ready (rs := [3]) (by kernel_rfl) (by simp) ?_
    refine AllReadyH.cons rfl (fun K hK => ?_) AllReadyH.nil
    go_simp
    refine hK.out _ _ trivial (fun hHeld => ?_)
    clear hK K
    try simp only [Act.put, List.setIfInBounds_toArray, List.set_cons_zero, List.set_cons_succ]
    refine wpAnyH_ready (rs := [4]) (by kernel_rfl) (by simp) ?_
    refine AllReadyH.cons rfl (fun K hK => ?_) AllReadyH.nil
    go_simp
    with_reducible (refine HIT.out.mono ?_)
    rintro e w2 ⟨rfl, hb2⟩
    have H2 := Lib.hid (H1.out.below hb2)
    have HA2 := Lib.hid (HA.out.trans (Apart.of (O := O) (hb2.mono H1.out.bh)))
    have HF2 := Lib.hid (Frg.of hb2)
    have e2 := H2.out.cell.1
    have HLY := Lib.hid (lay_frg B A l.length c l 36 ⟨(itL (r.text.size : Int)).toArray⟩ w2 H2.out.own rfl hl (by have := itL_len (r.text.size : Int) (by omega) (by omega); show (itL (r.text.size : Int)).toArray.size ≤ _; simp; omega) H2.out.bh)
    rw [show bl ⟨(itL (r.text.size : Int)).toArray⟩ = itL (r.text.size : Int) from rfl, hl', show ((UInt8.toNat 36 : Nat) : Int) = 36 from rfl] at HLY
    clear hb2 HIT
    refine hK.out _ _ trivial (fun hHeld => ?_)
    clear hK K
    try simp only [Act.put, List.setIfInBounds_toArray, List.set_cons_zero, List.set_cons_succ]
    refine wpAnyH_ready (rs := [5]) (by kernel_rfl) (by simp) ?_
    refine AllReadyH.cons rfl (fun K hK => ?_) AllReadyH.nil
    go_simp
    with_reducible (refine HLY.out.mono ?_)
    rintro e w3 ⟨v, rfl, ho, hb, hf⟩
    obtain ⟨k0, kf⟩ := H2.out.keep hb
    obtain ⟨Av, cv, rfl, hput⟩ := H2.out.put hb ho
    have HPUT := Lib.hid hput
    have HF3 := Lib.hid (HF2.out.trans hf)
    clear ho hb hf hput HLY
    refine hK.out _ _ trivial (fun hHeld => ?_)
    clear hK K
    try simp only [Act.put, List.setIfInBounds_toArray, List.set_cons_zero, List.set_cons_succ]
    refine wpAnyH_ready (rs := [6]) (by kernel_rfl) (by simp) ?_
    refine AllReadyH.cons rfl (fun K hK => ?_) AllReadyH.nil
    go_simp
    refine hK.out _ _ trivial (fun hHeld => ?_)
    clear hK K
    clear k0 kf
    try simp only [Act.put, List.setIfInBounds_toArray, List.set_cons_zero, List.set_cons_succ]
    refine wpAnyH_done (by kernel_rfl) ?_ _
    have hl4 := HPUT.out.1
    have hbx4 : (w3.setCell ⟨O, 0, none⟩ (.slice Av l'.length cv)).heap[w.heap.size]? = some (.cells (rpV r Ar cr) 41 (0, 0)) := (Below.heap_setCell w3 ⟨O, 0, none⟩ _ w.heap.size (fun e => HOB.out e)).trans (HF3.out _ _ HBX.out (fun cs e => by injection e with _ e2; cases e2))
    have HE4 := Lib.hid HPUT.out.1
    have HA4 := Lib.hid (HA2.out.trans HPUT.out.2)
    obtain ⟨e4, f4⟩ := HE4.out.cell
    clear hl4 HPUT HF3 HF2 HA2 H2 e2
    generalize w3.setCell ⟨O, 0, none⟩ (.slice Av l'.length cv) = W4 at *
    have z4 : W4.cell? ⟨w.heap.size, 2, none⟩ = some (.string r.text) := by simp only [World.cell?, hbx4]; rfl
    clear hbx4
    go_wp2_with (first
      | (at_builtin; refine wpList_text rfl (.tmp 9) (.tmp 11) rfl B _ l' rfl HE4.out.own r.text rfl (by have := HL'.out; omega) HE4.out.bh ?_; intro v8 w8 ho8 hb8 hs8; have HO8 := Lib.hid ho8; have HB8 := Lib.hid hb8; have HS8 := Lib.hid hs8; have HW8 := Lib.hid (below_new w8 (.cells #[.int .u8 13, .int .u8 10] 5)); have HR8 := Lib.hid (rd_crlf w8); have HT8 : Hid (B ≤ w8.heap.size) := Lib.hid (Nat.le_trans HE4.out.bh hs8); clear ho8 hb8 hs8)
      | (at_builtin; refine wpList_bytes rfl (.tmp 12) (.tmp 13) rfl B v8 _ rfl (HO8.out.below HW8.out) (some ⟨w8.heap.size, 0, none⟩) 2 2 [13, 10] rfl rfl HR8.out (fun e => by cases e) (Nat.le_refl _) (by have := HL'.out; have := bl_len r.text; simp at *; omega) (Nat.le_trans HT8.out HW8.out.size) ?_; intro v9 w9 ho9 hb9 hs9; change OwnB w9 B v9 (l' ++ bl r.text ++ [13, 10]) at ho9; rw [HLL.out] at ho9; have HO9 := Lib.hid ho9; have HB9 := Lib.hid ((HB8.out.trans (HW8.out.mono HT8.out)).trans hb9); obtain ⟨k9, f9⟩ := HE4.out.keep HB9.out; obtain ⟨A9, c9, rfl, hp9⟩ := HE4.out.put HB9.out ho9; have HP9 := Lib.hid hp9; clear ho9 hb9 hs9 hp9)
      | fail)
    go_end0
    exact ⟨rfl, ⟨_, _, HP9.out.1⟩, HA4.out.trans HP9.out.2⟩
  · go_simp
    refine hK.out _ _ trivial (fun hHeld => ?_)
    clear hK K
    try simp only [Act.put, List.setIfInBounds_toArray, List.set_cons_zero, List.set_cons_succ]
    refine wpAnyH_ready (rs := [0, 3]) (by kernel_rfl) (by simp) ?_
    refine AllReadyH.cons rfl (fun K hK => ?_) (AllReadyH.cons rfl (fun K hK => ?_) AllReadyH.nil)
    · go_simp
      refine hK.out _ _ trivial (fun hHeld => ?_)
      clear hK K
      try simp only [Act.put, List.setIfInBounds_toArray, List.set_cons_zero, List.set_cons_succ]
      refine wpAnyH_ready (rs := [3]) (by kernel_rfl) (by simp) ?_
      refine AllReadyH.cons rfl (fun K hK => ?_) AllReadyH.nil
      go_simp
      refine hK.out _ _ trivial (fun hHeld => ?_)
      clear hK K
      try simp only [Act.put, List.setIfInBounds_toArray, List.set_cons_zero, List.set_cons_succ]
      refine wpAnyH_ready (rs := [4]) (by kernel_rfl) (by simp) ?_
      refine AllReadyH.cons rfl (fun K hK => ?_) AllReadyH.nil
      go_simp
      with_reducible (refine HIT.out.mono ?_)
      rintro e w2 ⟨rfl, hb2⟩
      have H2 := Lib.hid (H1.out.below hb2)
      have HA2 := Lib.hid (HA.out.trans (Apart.of (O := O) (hb2.mono H1.out.bh)))
      have HF2 := Lib.hid (Frg.of hb2)
      have e2 := H2.out.cell.1
      have HLY := Lib.hid (lay_frg B A l.length c l 36 ⟨(itL (r.text.size : Int)).toArray⟩ w2 H2.out.own rfl hl (by have := itL_len (r.text.size : Int) (by omega) (by omega); show (itL (r.text.size : Int)).toArray.size ≤ _; simp; omega) H2.out.bh)
      rw [show bl ⟨(itL (r.text.size : Int)).toArray⟩ = itL (r.text.size : Int) from rfl, hl', show ((UInt8.toNat 36 : Nat) : Int) = 36 from rfl] at HLY
      clear hb2 HIT
      refine hK.out _ _ trivial (fun hHeld => ?_)
      clear hK K
      try simp only [Act.put, List.setIfInBounds_toArray, List.set_cons_zero, List.set_cons_succ]
      refine wpAnyH_ready (rs := [5]) (by kernel_rfl) (by simp) ?_
      refine AllReadyH.cons rfl (fun K hK => ?_) AllReadyH.nil
      go_simp
      with_reducible (refine HLY.out.mono ?_)
      rintro e w3 ⟨v, rfl, ho, hb, hf⟩
      obtain ⟨k0, kf⟩ := H2.out.keep hb
      obtain ⟨Av, cv, rfl, hput⟩ := H2.out.put hb ho
      have HPUT := Lib.hid hput
      have HF3 := Lib.hid (HF2.out.trans hf)
      clear ho hb hf hput HLY
      refine hK.out _ _ trivial (fun hHeld => ?_)
      clear hK K
      try simp only [Act.put, List.setIfInBounds_toArray, List.set_cons_zero, List.set_cons_succ]
      refine wpAnyH_ready (rs := [6]) (by kernel_rfl) (by simp) ?_
      refine AllReadyH.cons rfl (fun K hK => ?_) AllReadyH.nil
      go_simp
      refine hK.out _ _ trivial (fun hHeld => ?_)
      clear hK K
      clear k0 kf
      try simp only [Act.put, List.setIfInBounds_toArray, List.set_cons_zero, List.set_cons_succ]
      refine wpAnyH_done (by kernel_rfl) ?_ _
      have hl4 := HPUT.out.1
      have hbx4 : (w3.setCell ⟨O, 0, none⟩ (.slice Av l'.length cv)).heap[w.heap.size]? = some (.cells (rpV r Ar cr) 41 (0, 0)) := (Below.heap_setCell w3 ⟨O, 0, none⟩ _ w.heap.size (fun e => HOB.out e)).trans (HF3.out _ _ HBX.out (fun cs e => by injection e with _ e2; cases e2))
      have HE4 := Lib.hid HPUT.out.1
      have HA4 := Lib.hid (HA2.out.trans HPUT.out.2)
      obtain ⟨e4, f4⟩ := HE4.out.cell
      clear hl4 HPUT HF3 HF2 HA2 H2 e2
      generalize w3.setCell ⟨O, 0, none⟩ (.slice Av l'.length cv) = W4 at *
      have z4 : W4.cell? ⟨w.heap.size, 2, none⟩ = some (.string r.text) := by simp only [World.cell?, hbx4]; rfl
      clear hbx4
      go_wp2_with (first
        | (at_builtin; refine wpList_text rfl (.tmp 9) (.tmp 11) rfl B _ l' rfl HE4.out.own r.text rfl (by have := HL'.out; omega) HE4.out.bh ?_; intro v8 w8 ho8 hb8 hs8; have HO8 := Lib.hid ho8; have HB8 := Lib.hid hb8; have HS8 := Lib.hid hs8; have HW8 := Lib.hid (below_new w8 (.cells #[.int .u8 13, .int .u8 10] 5)); have HR8 := Lib.hid (rd_crlf w8); have HT8 : Hid (B ≤ w8.heap.size) := Lib.hid (Nat.le_trans HE4.out.bh hs8); clear ho8 hb8 hs8)
        | (at_builtin; refine wpList_bytes rfl (.tmp 12) (.tmp 13) rfl B v8 _ rfl (HO8.out.below HW8.out) (some ⟨w8.heap.size, 0, none⟩) 2 2 [13, 10] rfl rfl HR8.out (fun e => by cases e) (Nat.le_refl _) (by have := HL'.out; have := bl_len r.text; simp at *; omega) (Nat.le_trans HT8.out HW8.out.size) ?_; intro v9 w9 ho9 hb9 hs9; change OwnB w9 B v9 (l' ++ bl r.text ++ [13, 10]) at ho9; rw [HLL.out] at ho9; have HO9 := Lib.hid ho9; have HB9 := Lib.hid ((HB8.out.trans (HW8.out.mono HT8.out)).trans hb9); obtain ⟨k9, f9⟩ := HE4.out.keep HB9.out; obtain ⟨A9, c9, rfl, hp9⟩ := HE4.out.put HB9.out ho9; have HP9 := Lib.hid hp9; clear ho9 hb9 hs9 hp9)
        | fail)
      go_end0
      exact ⟨rfl, ⟨_, _, HP9.out.1⟩, HA4.out.trans HP9.out.2⟩
    · go_simp
      refine hK.out _ _ trivial (fun hHeld => ?_)
      clear hK K
      try simp only [Act.put, List.setIfInBounds_toArray, List.set_cons_zero, List.set_cons_succ]
      refine wpAnyH_ready (rs := [0, 4]) (by kernel_rfl) (by simp) ?_
      refine AllReadyH.cons rfl (fun K hK => ?_) (AllReadyH.cons rfl (fun K hK => ?_) AllReadyH.nil)
      · go_simp
        refine hK.out _ _ trivial (fun hHeld => ?_)
        clear hK K
        try simp only [Act.put, List.setIfInBounds_toArray, List.set_cons_zero, List.set_cons_succ]
        refine wpAnyH_ready (rs := [4]) (by kernel_rfl) (by simp) ?_
        refine AllReadyH.cons rfl (fun K hK => ?_) AllReadyH.nil
        go_simp
        with_reducible (refine HIT.out.mono ?_)
        rintro e w2 ⟨rfl, hb2⟩
        have H2 := Lib.hid (H1.out.below hb2)
        have HA2 := Lib.hid (HA.out.trans (Apart.of (O := O) (hb2.mono H1.out.bh)))
        have HF2 := Lib.hid (Frg.of hb2)
        have e2 := H2.out.cell.1
        have HLY := Lib.hid (lay_frg B A l.length c l 36 ⟨(itL (r.text.size : Int)).toArray⟩ w2 H2.out.own rfl hl (by have := itL_len (r.text.size : Int) (by omega) (by omega); show (itL (r.text.size : Int)).toArray.size ≤ _; simp; omega) H2.out.bh)
        rw [show bl ⟨(itL (r.text.size : Int)).toArray⟩ = itL (r.text.size : Int) from rfl, hl', show ((UInt8.toNat 36 : Nat) : Int) = 36 from rfl] at HLY
        clear hb2 HIT
        refine hK.out _ _ trivial (fun hHeld => ?_)
        clear hK K
        try simp only [Act.put, List.setIfInBounds_toArray, List.set_cons_zero, List.set_cons_succ]
        refine wpAnyH_ready (rs := [5]) (by kernel_rfl) (by simp) ?_
        refine AllReadyH.cons rfl (fun K hK => ?_) AllReadyH.nil
        go_simp
        with_reducible (refine HLY.out.mono ?_)
        rintro e w3 ⟨v, rfl, ho, hb, hf⟩
        obtain ⟨k0, kf⟩ := H2.out.keep hb
        obtain ⟨Av, cv, rfl, hput⟩ := H2.out.put hb ho
        have HPUT := Lib.hid hput
        have HF3 := Lib.hid (HF2.out.trans hf)
        clear ho hb hf hput HLY
        refine hK.out _ _ trivial (fun hHeld => ?_)
        clear hK K
        try simp only [Act.put, List.setIfInBounds_toArray, List.set_cons_zero, List.set_cons_succ]
        refine wpAnyH_ready (rs := [6]) (by kernel_rfl) (by simp) ?_
        refine AllReadyH.cons rfl (fun K hK => ?_) AllReadyH.nil
        go_simp
        refine hK.out _ _ trivial (fun hHeld => ?_)
        clear hK K
        clear k0 kf
        try simp only [Act.put, List.setIfInBounds_toArray, List.set_cons_zero, List.set_cons_succ]
        refine wpAnyH_done (by kernel_rfl) ?_ _
        have hl4 := HPUT.out.1
        have hbx4 : (w3.setCell ⟨O, 0, none⟩ (.slice Av l'.length cv)).heap[w.heap.size]? = some (.cells (rpV r Ar cr) 41 (0, 0)) := (Below.heap_setCell w3 ⟨O, 0, none⟩ _ w.heap.size (fun e => HOB.out e)).trans (HF3.out _ _ HBX.out (fun cs e => by injection e with _ e2; cases e2))
        have HE4 := Lib.hid HPUT.out.1
        have HA4 := Lib.hid (HA2.out.trans HPUT.out.2)
        obtain ⟨e4, f4⟩ := HE4.out.cell
        clear hl4 HPUT HF3 HF2 HA2 H2 e2
        generalize w3.setCell ⟨O, 0, none⟩ (.slice Av l'.length cv) = W4 at *
        have z4 : W4.cell? ⟨w.heap.size, 2, none⟩ = some (.string r.text) := by simp only [World.cell?, hbx4]; rfl
        clear hbx4
        go_wp2_with (first
          | (at_builtin; refine wpList_text rfl (.tmp 9) (.tmp 11) rfl B _ l' rfl HE4.out.own r.text rfl (by have := HL'.out; omega) HE4.out.bh ?_; intro v8 w8 ho8 hb8 hs8; have HO8 := Lib.hid ho8; have HB8 := Lib.hid hb8; have HS8 := Lib.hid hs8; have HW8 := Lib.hid (below_new w8 (.cells #[.int .u8 13, .int .u8 10] 5)); have HR8 := Lib.hid (rd_crlf w8); have HT8 : Hid (B ≤ w8.heap.size) := Lib.hid (Nat.le_trans HE4.out.bh hs8); clear ho8 hb8 hs8)
          | (at_builtin; refine wpList_bytes rfl (.tmp 12) (.tmp 13) rfl B v8 _ rfl (HO8.out.below HW8.out) (some ⟨w8.heap.size, 0, none⟩) 2 2 [13, 10] rfl rfl HR8.out (fun e => by cases e) (Nat.le_refl _) (by have := HL'.out; have := bl_len r.text; simp at *; omega) (Nat.le_trans HT8.out HW8.out.size) ?_; intro v9 w9 ho9 hb9 hs9; change OwnB w9 B v9 (l' ++ bl r.text ++ [13, 10]) at ho9; rw [HLL.out] at ho9; have HO9 := Lib.hid ho9; have HB9 := Lib.hid ((HB8.out.trans (HW8.out.mono HT8.out)).trans hb9); obtain ⟨k9, f9⟩ := HE4.out.keep HB9.out; obtain ⟨A9, c9, rfl, hp9⟩ := HE4.out.put HB9.out ho9; have HP9 := Lib.hid hp9; clear ho9 hb9 hs9 hp9)
          | fail)
        go_end0
        exact ⟨rfl, ⟨_, _, HP9.out.1⟩, HA4.out.trans HP9.out.2⟩
      · go_simp
        with_reducible (refine HIT.out.mono ?_)
        rintro e w2 ⟨rfl, hb2⟩
        have H2 := Lib.hid (H1.out.below hb2)
        have HA2 := Lib.hid (HA.out.trans (Apart.of (O := O) (hb2.mono H1.out.bh)))
        have HF2 := Lib.hid (Frg.of hb2)
        have e2 := H2.out.cell.1
        have HLY := Lib.hid (lay_frg B A l.length c l 36 ⟨(itL (r.text.size : Int)).toArray⟩ w2 H2.out.own rfl hl (by have := itL_len (r.text.size : Int) (by omega) (by omega); show (itL (r.text.size : Int)).toArray.size ≤ _; simp; omega) H2.out.bh)
        rw [show bl ⟨(itL (r.text.size : Int)).toArray⟩ = itL (r.text.size : Int) from rfl, hl', show ((UInt8.toNat 36 : Nat) : Int) = 36 from rfl] at HLY
        clear hb2 HIT
        refine hK.out _ _ trivial (fun hHeld => ?_)
        clear hK K
        try simp only [Act.put, List.setIfInBounds_toArray, List.set_cons_zero, List.set_cons_succ]
        refine wpAnyH_ready (rs := [0]) (by kernel_rfl) (by simp) ?_
        refine AllReadyH.cons rfl (fun K hK => ?_) AllReadyH.nil
        go_simp
        refine hK.out _ _ trivial (fun hHeld => ?_)
        clear hK K
        try simp only [Act.put, List.setIfInBounds_toArray, List.set_cons_zero, List.set_cons_succ]
        refine wpAnyH_ready (rs := [5]) (by kernel_rfl) (by simp) ?_
        refine AllReadyH.cons rfl (fun K hK => ?_) AllReadyH.nil
        go_simp
        with_reducible (refine HLY.out.mono ?_)
        rintro e w3 ⟨v, rfl, ho, hb, hf⟩
        obtain ⟨k0, kf⟩ := H2.out.keep hb
        obtain ⟨Av, cv, rfl, hput⟩ := H2.out.put hb ho
        have HPUT := Lib.hid hput
        have HF3 := Lib.hid (HF2.out.trans hf)
        clear ho hb hf hput HLY
        refine hK.out _ _ trivial (fun hHeld => ?_)
        clear hK K
        try simp only [Act.put, List.setIfInBounds_toArray, List.set_cons_zero, List.set_cons_succ]
        refine wpAnyH_ready (rs := [6]) (by kernel_rfl) (by simp) ?_
        refine AllReadyH.cons rfl (fun K hK => ?_) AllReadyH.nil
        go_simp
        refine hK.out _ _ trivial (fun hHeld => ?_)
        clear hK K
        clear k0 kf
        try simp only [Act.put, List.setIfInBounds_toArray, List.set_cons_zero, List.set_cons_succ]
        refine wpAnyH_done (by kernel_rfl) ?_ _
        have hl4 := HPUT.out.1
        have hbx4 : (w3.setCell ⟨O, 0, none⟩ (.slice Av l'.length cv)).heap[w.heap.size]? = some (.cells (rpV r Ar cr) 41 (0, 0)) := (Below.heap_setCell w3 ⟨O, 0, none⟩ _ w.heap.size (fun e => HOB.out e)).trans (HF3.out _ _ HBX.out (fun cs e => by injection e with _ e2; cases e2))
        have HE4 := Lib.hid HPUT.out.1
        have HA4 := Lib.hid (HA2.out.trans HPUT.out.2)
        obtain ⟨e4, f4⟩ := HE4.out.cell
        clear hl4 HPUT HF3 HF2 HA2 H2 e2
        generalize w3.setCell ⟨O, 0, none⟩ (.slice Av l'.length cv) = W4 at *
        have z4 : W4.cell? ⟨w.heap.size, 2, none⟩ = some (.string r.text) := by simp only [World.cell?, hbx4]; rfl
        clear hbx4
        go_wp2_with (first
          | (at_builtin; refine wpList_text rfl (.tmp 9) (.tmp 11) rfl B _ l' rfl HE4.out.own r.text rfl (by have := HL'.out; omega) HE4.out.bh ?_; intro v8 w8 ho8 hb8 hs8; have HO8 := Lib.hid ho8; have HB8 := Lib.hid hb8; have HS8 := Lib.hid hs8; have HW8 := Lib.hid (below_new w8 (.cells #[.int .u8 13, .int .u8 10] 5)); have HR8 := Lib.hid (rd_crlf w8); have HT8 : Hid (B ≤ w8.heap.size) := Lib.hid (Nat.le_trans HE4.out.bh hs8); clear ho8 hb8 hs8)
          | (at_builtin; refine wpList_bytes rfl (.tmp 12) (.tmp 13) rfl B v8 _ rfl (HO8.out.below HW8.out) (some ⟨w8.heap.size, 0, none⟩) 2 2 [13, 10] rfl rfl HR8.out (fun e => by cases e) (Nat.le_refl _) (by have := HL'.out; have := bl_len r.text; simp at *; omega) (Nat.le_trans HT8.out HW8.out.size) ?_; intro v9 w9 ho9 hb9 hs9; change OwnB w9 B v9 (l' ++ bl r.text ++ [13, 10]) at ho9; rw [HLL.out] at ho9; have HO9 := Lib.hid ho9; have HB9 := Lib.hid ((HB8.out.trans (HW8.out.mono HT8.out)).trans hb9); obtain ⟨k9, f9⟩ := HE4.out.keep HB9.out; obtain ⟨A9, c9, rfl, hp9⟩ := HE4.out.put HB9.out ho9; have HP9 := Lib.hid hp9; clear ho9 hb9 hs9 hp9)
          | fail)
        go_end0
        exact ⟨rfl, ⟨_, _, HP9.out.1⟩, HA4.out.trans HP9.out.2⟩
end
end Go.Proofs.YtglicojojpggmaaDoor
