/- The bytes of a list. -/
import Derived.Test.YtglicojojpggmaaDoorEncB
import Derived.Deep.CutRange
namespace Go.Proofs.YtglicojojpggmaaDoor
open Go Go.RowKit
mutual
/-- Replies of the six kinds alone. -/
def okR : Rp → Prop
  | .mk k _ _ l => 0 ≤ k ∧ k ≤ 5 ∧ okL l
def okL : List Rp → Prop
  | [] => True
  | r :: l => okR r ∧ okL l
end
theorem okL_mem : ∀ {l : List Rp} {r : Rp}, okL l → r ∈ l → okR r
  | [], _, _, h => by cases h
  | x :: l, r, h, hm => by
    rw [okL] at h
    rcases List.mem_cons.1 hm with rfl | hm
    · exact h.1
    · exact okL_mem h.2 hm
theorem okR_kids {r : Rp} (h : okR r) : 0 ≤ r.kind ∧ r.kind ≤ 5 ∧ okL r.kids := by
  cases r
  rw [okR] at h
  exact h
theorem encL_app (a b : List Rp) : encL (a ++ b) = encL a ++ encL b := by
  induction a with
  | nil => rfl
  | cons x a ih => rw [List.cons_append, encL, encL, ih, List.append_assoc]
theorem encL_next {l : List Rp} {k : Nat} (hk : k < l.length) : encL (l.take (k + 1)) = encL (l.take k) ++ encR l[k] := by
  rw [List.take_succ_eq_append_getElem hk, encL_app, encL, encL, List.append_nil]
theorem encL_take (l : List Rp) (k : Nat) : (encL (l.take k)).length ≤ (encL l).length := by
  have h := encL_app (l.take k) (l.drop k)
  rw [List.take_append_drop] at h
  rw [h]
  simp
/-- What is made ahead of the bytes: the function's variable, the table's, the table. -/
def kindE (O Pv : Nat) (k f : Nat) : MapEntry := { key := .int .i64 k, val := .func (.func f) #[] (if k = 5 then #[.pointer (some ⟨O, 0, none⟩), .pointer (some ⟨Pv, 0, none⟩)] else #[.pointer (some ⟨O, 0, none⟩)]), born := k }
structure EE (W : World) (O B Pv Kv M : Nat) : Prop where
  pv : W.heap[Pv]? = some (.cells #[.func (.func 54) #[] #[.pointer (some ⟨Kv, 0, none⟩)]] 95 (0, 0))
  kv : W.heap[Kv]? = some (.cells #[.map (some M)] 97 (0, 0))
  mp : W.heap[M]? = some (.map #[kindE O Pv 0 47, kindE O Pv 1 48, kindE O Pv 2 49, kindE O Pv 3 50, kindE O Pv 4 52, kindE O Pv 5 53] 6)
  pb : Pv < B ∧ Pv ≠ O
  kb : Kv < B ∧ Kv ≠ O
  mb : M < B ∧ M ≠ O
theorem EE.apart {W W' : World} {O B Pv Kv M : Nat} (h : EE W O B Pv Kv M) (ha : Apart O B W W') : EE W' O B Pv Kv M :=
  ⟨(ha.block _ h.pb.1 h.pb.2).trans h.pv, (ha.block _ h.kb.1 h.kb.2).trans h.kv, (ha.block _ h.mb.1 h.mb.2).trans h.mp, h.pb, h.kb, h.mb⟩
/-- What the contract of the function that puts a reply says of replies of a height. -/
def PutC (n : Nat) : Prop := ∀ (r : Rp) (A' : Option Addr) (c' : Nat) (w : World) (l : List UInt8) (A : Option Addr) (c O B Pv Kv M : Nat), hgt r ≤ n → okR r → EV w O B A c l → EE w O B Pv Kv M → RpK (fun b => b < B ∧ b ≠ O) w r A' c' → l.length + (encR r).length ≤ 100000000 →
  Calls Tryd.prog 54 #[.agg (rpV r A' c'), .pointer (some ⟨Kv, 0, none⟩)] w (EncQ w O B (l ++ encR r))
section
variable {w W W' : World} {O B Pv Kv M n : Nat} {A : Option Addr} {c : Nat} {l l' : List UInt8} {v : Value}
set_option maxRecDepth 100000 in
set_option maxHeartbeats 8000000 in
theorem enc53_any (IH : PutC n) (r : Rp) (Ar : Option Addr) (cr : Nat) (w : World) (hh : hgtL r.kids ≤ n) (hok : okL r.kids) (h : EV w O B A c l) (he : EE w O B Pv Kv M) (hk : RpK (fun b => b < B ∧ b ≠ O) w r Ar cr) (hl : l.length + (layL 42 (itL r.kids.length) ++ encL r.kids).length ≤ 100000000) :
    Calls Tryd.prog 53 #[.agg (rpV r Ar cr), .pointer (some ⟨O, 0, none⟩), .pointer (some ⟨Pv, 0, none⟩)] w (EncQ w O B (l ++ (layL 42 (itL r.kids.length) ++ encL r.kids))) := by
  have hlen : (r.kids.length : Int) ≤ 140737488355328 := by have := hk.1.2.2.2.2.2; omega
  have HL1 := Lib.hid hl
  have hl : l.length ≤ 100000000 := by omega
  have HEE := Lib.hid he
  have HK := Lib.hid hk
  have HH := Lib.hid hh
  have HOK := Lib.hid hok
  have hrc := hk.2.2.1
  clear he hk hh hok
  have hb0 := below_new w (.cells (rpV r Ar cr) 41)
  have h1 := h.below hb0
  have HA := Lib.hid ((Apart.of (O := O) (hb0.mono h.bh)).trans (Apart.drew O B _ 1))
  change Hid (Apart O B w (World.drew _)) at HA
  have hbx := heap_alloc_new w (.cells (rpV r Ar cr) 41)
  have z1 : (w.alloc (.cells (rpV r Ar cr) 41)).cell? ⟨w.heap.size, 3, none⟩ = some (.slice Ar r.kids.length cr) := by
    simp only [World.cell?, hbx]; rfl
  obtain ⟨e0, ef⟩ := h1.cell
  have H1 := Lib.hid (h1.drew 1)
  have HBX := Lib.hid hbx
  have HOB : Hid (w.heap.size ≠ O) := Lib.hid (by have := lt_of_block h.v0; omega)
  change Hid (EV (World.drew _) O B A c l) at H1
  have HIT := Lib.hid (itoa_any (r.kids.length : Int) (w.alloc (.cells (rpV r Ar cr) 41)).drew (by omega) (by omega) H1.out.tab)
  obtain ⟨l', hl'⟩ : ∃ l', l ++ layL 42 (itL (r.kids.length : Int)) = l' := ⟨_, rfl⟩
  clear h hb0 h1 hbx
  rw [← List.append_assoc, hl']
  have HL2 : Hid (l'.length + (encL r.kids).length ≤ 100000000) := Lib.hid (by have := HL1.out; rw [← hl']; simp only [List.length_append] at *; omega)
  go_enter Tryd.func53, Tryd.ntmps53
  go_upto_region 1 with (fail)
  go_cut [] from 6 to 11 (fun wc => ∃ A4 c4, EV wc O B A4 c4 l' ∧ Apart O B w wc ∧ wc.heap[w.heap.size]? = some (.cells (rpV r Ar cr) 41 (0, 0)))
  case first =>
    refine wp_region_held_drew (S := fun _ => True) (by kernel_rfl) trivial (fun hHeld => ?_)
    refine wpAnyH_take (i := 1) (v := ?_) rfl (by kernel_rfl) (by kernel_rfl) (by kernel_rfl) (fun _ _ _ h => h) (Or.inl ⟨by rfl, ?_⟩) trivial ?_
    rotate_left
    · intro w hSw
      skip
      go_simp
      try with_reducible rfl
    try simp only [Act.put, List.setIfInBounds_toArray, List.set_cons_zero, List.set_cons_succ]
    refine wpAnyH_ready (rs := [0, 2]) (by kernel_rfl) (by simp) ?_
    refine AllReadyH.cons rfl (fun K hK => ?_) (AllReadyH.cons rfl (fun K hK => ?_) AllReadyH.nil)
    · go_simp
      refine hK.out _ _ trivial (fun hHeld => ?_)
      clear hK K
      try simp only [Act.put, List.setIfInBounds_toArray, List.set_cons_zero, List.set_cons_succ]
      refine wpAnyH_ready (rs := [2]) (by kernel_rfl) (by simp) ?_
      refine AllReadyH.cons rfl (fun K hK => ?_) AllReadyH.nil
      go_simp
      refine hK.out _ _ trivial (fun hHeld => ?_)
      clear hK K
      try simp only [Act.put, List.setIfInBounds_toArray, List.set_cons_zero, List.set_cons_succ]
      refine wpAnyH_ready (rs := [3]) (by kernel_rfl) (by simp) ?_
      refine AllReadyH.cons rfl (fun K hK => ?_) AllReadyH.nil
      go_simp
      refine hK.out _ _ trivial (fun hHeld => ?_)
      clear hK K
      try simp only [Act.put, List.setIfInBounds_toArray, List.set_cons_zero, List.set_cons_succ]
      refine wpAnyH_ready (rs := [4]) (by kernel_rfl) (by simp) ?_
      refine AllReadyH.cons rfl (fun K hK => ?_) AllReadyH.nil
      go_simp
      with_reducible (refine HIT.out.mono ?_)
      rintro e w2 ⟨rfl, hb2⟩
      have H2 := Lib.hid (H1.out.below hb2)
      have HA2 := Lib.hid (HA.out.trans (Apart.of (O := O) (hb2.mono H1.out.bh)))
      have HF2 := Lib.hid (Frg.of hb2)
      have e2 := H2.out.cell.1
      have HLY := Lib.hid (lay_frg B A l.length c l 42 ⟨(itL (r.kids.length : Int)).toArray⟩ w2 H2.out.own rfl hl (by have := itL_len (r.kids.length : Int) (by omega) (by omega); show (itL (r.kids.length : Int)).toArray.size ≤ _; simp; omega) H2.out.bh)
      rw [show bl ⟨(itL (r.kids.length : Int)).toArray⟩ = itL (r.kids.length : Int) from rfl, hl', show ((UInt8.toNat 42 : Nat) : Int) = 42 from rfl] at HLY
      clear hb2 HIT
      refine hK.out _ _ trivial (fun hHeld => ?_)
      clear hK K
      try simp only [Act.put, List.setIfInBounds_toArray, List.set_cons_zero, List.set_cons_succ]
      refine wpAnyH_ready (rs := [5]) (by kernel_rfl) (by simp) ?_
      refine AllReadyH.cons rfl (fun K hK => ?_) AllReadyH.nil
      go_simp
      with_reducible (refine HLY.out.mono ?_)
      rintro e w3 ⟨v, rfl, ho, hb, hf⟩
      obtain ⟨k0, kf⟩ := H2.out.keep hb
      obtain ⟨Av, cv, rfl, hput⟩ := H2.out.put hb ho
      have HPUT := Lib.hid hput
      have HF3 := Lib.hid (HF2.out.trans hf)
      clear ho hb hf hput HLY
      refine hK.out _ _ trivial (fun hHeld => ?_)
      clear hK K
      try simp only [Act.put, List.setIfInBounds_toArray, List.set_cons_zero, List.set_cons_succ]
      refine wpAnyH_ready (rs := [6]) (by kernel_rfl) (by simp) ?_
      refine AllReadyH.cons rfl (fun K hK => ?_) AllReadyH.nil
      go_simp
      refine hK.out _ _ trivial (fun hHeld => ?_)
      clear hK K
      clear k0 kf
      try simp only [Act.put, List.setIfInBounds_toArray, List.set_cons_zero, List.set_cons_succ]
      refine wpAnyH_done (by kernel_rfl) ?_ _
      have hbx4 : (w3.setCell ⟨O, 0, none⟩ (.slice Av l'.length cv)).heap[w.heap.size]? = some (.cells (rpV r Ar cr) 41 (0, 0)) := (Below.heap_setCell w3 ⟨O, 0, none⟩ _ w.heap.size (fun e => HOB.out e)).trans (HF3.out _ _ HBX.out (fun cs e => by injection e with _ e2; cases e2))
      have HBX4 := Lib.hid hbx4
      have HE4 := Lib.hid HPUT.out.1
      have HA4 := Lib.hid (HA2.out.trans HPUT.out.2)
      clear hbx4
      go_wp2_with fail
      go_meet
      exact ⟨_, _, HE4.out, HA4.out, HBX4.out⟩
    · go_simp
      refine hK.out _ _ trivial (fun hHeld => ?_)
      clear hK K
      try simp only [Act.put, List.setIfInBounds_toArray, List.set_cons_zero, List.set_cons_succ]
      refine wpAnyH_ready (rs := [0, 3]) (by kernel_rfl) (by simp) ?_
      refine AllReadyH.cons rfl (fun K hK => ?_) (AllReadyH.cons rfl (fun K hK => ?_) AllReadyH.nil)
      · go_simp
        refine hK.out _ _ trivial (fun hHeld => ?_)
        clear hK K
        try simp only [Act.put, List.setIfInBounds_toArray, List.set_cons_zero, List.set_cons_succ]
        refine wpAnyH_ready (rs := [3]) (by kernel_rfl) (by simp) ?_
        refine AllReadyH.cons rfl (fun K hK => ?_) AllReadyH.nil
        go_simp
        refine hK.out _ _ trivial (fun hHeld => ?_)
        clear hK K
        try simp only [Act.put, List.setIfInBounds_toArray, List.set_cons_zero, List.set_cons_succ]
        refine wpAnyH_ready (rs := [4]) (by kernel_rfl) (by simp) ?_
        refine AllReadyH.cons rfl (fun K hK => ?_) AllReadyH.nil
        go_simp
        with_reducible (refine HIT.out.mono ?_)
        rintro e w2 ⟨rfl, hb2⟩
        have H2 := Lib.hid (H1.out.below hb2)
        have HA2 := Lib.hid (HA.out.trans (Apart.of (O := O) (hb2.mono H1.out.bh)))
        have HF2 := Lib.hid (Frg.of hb2)
        have e2 := H2.out.cell.1
        have HLY := Lib.hid (lay_frg B A l.length c l 42 ⟨(itL (r.kids.length : Int)).toArray⟩ w2 H2.out.own rfl hl (by have := itL_len (r.kids.length : Int) (by omega) (by omega); show (itL (r.kids.length : Int)).toArray.size ≤ _; simp; omega) H2.out.bh)
        rw [show bl ⟨(itL (r.kids.length : Int)).toArray⟩ = itL (r.kids.length : Int) from rfl, hl', show ((UInt8.toNat 42 : Nat) : Int) = 42 from rfl] at HLY
        clear hb2 HIT
        refine hK.out _ _ trivial (fun hHeld => ?_)
        clear hK K
        try simp only [Act.put, List.setIfInBounds_toArray, List.set_cons_zero, List.set_cons_succ]
        refine wpAnyH_ready (rs := [5]) (by kernel_rfl) (by simp) ?_
        refine AllReadyH.cons rfl (fun K hK => ?_) AllReadyH.nil
        go_simp
        with_reducible (refine HLY.out.mono ?_)
        rintro e w3 ⟨v, rfl, ho, hb, hf⟩
        obtain ⟨k0, kf⟩ := H2.out.keep hb
        obtain ⟨Av, cv, rfl, hput⟩ := H2.out.put hb ho
        have HPUT := Lib.hid hput
        have HF3 := Lib.hid (HF2.out.trans hf)
        clear ho hb hf hput HLY
        refine hK.out _ _ trivial (fun hHeld => ?_)
        clear hK K
        try simp only [Act.put, List.setIfInBounds_toArray, List.set_cons_zero, List.set_cons_succ]
        refine wpAnyH_ready (rs := [6]) (by kernel_rfl) (by simp) ?_
        refine AllReadyH.cons rfl (fun K hK => ?_) AllReadyH.nil
        go_simp
        refine hK.out _ _ trivial (fun hHeld => ?_)
        clear hK K
        clear k0 kf
        try simp only [Act.put, List.setIfInBounds_toArray, List.set_cons_zero, List.set_cons_succ]
        refine wpAnyH_done (by kernel_rfl) ?_ _
        have hbx4 : (w3.setCell ⟨O, 0, none⟩ (.slice Av l'.length cv)).heap[w.heap.size]? = some (.cells (rpV r Ar cr) 41 (0, 0)) := (Below.heap_setCell w3 ⟨O, 0, none⟩ _ w.heap.size (fun e => HOB.out e)).trans (HF3.out _ _ HBX.out (fun cs e => by injection e with _ e2; cases e2))
        have HBX4 := Lib.hid hbx4
        have HE4 := Lib.hid HPUT.out.1
        have HA4 := Lib.hid (HA2.out.trans HPUT.out.2)
        clear hbx4
        go_wp2_with fail
        go_meet
        exact ⟨_, _, HE4.out, HA4.out, HBX4.out⟩
      · go_simp
        refine hK.out _ _ trivial (fun hHeld => ?_)
        clear hK K
        try simp only [Act.put, List.setIfInBounds_toArray, List.set_cons_zero, List.set_cons_succ]
        refine wpAnyH_ready (rs := [0, 4]) (by kernel_rfl) (by simp) ?_
        refine AllReadyH.cons rfl (fun K hK => ?_) (AllReadyH.cons rfl (fun K hK => ?_) AllReadyH.nil)
        · go_simp
          refine hK.out _ _ trivial (fun hHeld => ?_)
          clear hK K
          try simp only [Act.put, List.setIfInBounds_toArray, List.set_cons_zero, List.set_cons_succ]
          refine wpAnyH_ready (rs := [4]) (by kernel_rfl) (by simp) ?_
          refine AllReadyH.cons rfl (fun K hK => ?_) AllReadyH.nil
          go_simp
          with_reducible (refine HIT.out.mono ?_)
          rintro e w2 ⟨rfl, hb2⟩
          have H2 := Lib.hid (H1.out.below hb2)
          have HA2 := Lib.hid (HA.out.trans (Apart.of (O := O) (hb2.mono H1.out.bh)))
          have HF2 := Lib.hid (Frg.of hb2)
          have e2 := H2.out.cell.1
          have HLY := Lib.hid (lay_frg B A l.length c l 42 ⟨(itL (r.kids.length : Int)).toArray⟩ w2 H2.out.own rfl hl (by have := itL_len (r.kids.length : Int) (by omega) (by omega); show (itL (r.kids.length : Int)).toArray.size ≤ _; simp; omega) H2.out.bh)
          rw [show bl ⟨(itL (r.kids.length : Int)).toArray⟩ = itL (r.kids.length : Int) from rfl, hl', show ((UInt8.toNat 42 : Nat) : Int) = 42 from rfl] at HLY
          clear hb2 HIT
          refine hK.out _ _ trivial (fun hHeld => ?_)
          clear hK K
          try simp only [Act.put, List.setIfInBounds_toArray, List.set_cons_zero, List.set_cons_succ]
          refine wpAnyH_ready (rs := [5]) (by kernel_rfl) (by simp) ?_
          refine AllReadyH.cons rfl (fun K hK => ?_) AllReadyH.nil
          go_simp
          with_reducible (refine HLY.out.mono ?_)
          rintro e w3 ⟨v, rfl, ho, hb, hf⟩
          obtain ⟨k0, kf⟩ := H2.out.keep hb
          obtain ⟨Av, cv, rfl, hput⟩ := H2.out.put hb ho
          have HPUT := Lib.hid hput
          have HF3 := Lib.hid (HF2.out.trans hf)
          clear ho hb hf hput HLY
          refine hK.out _ _ trivial (fun hHeld => ?_)
          clear hK K
          try simp only [Act.put, List.setIfInBounds_toArray, List.set_cons_zero, List.set_cons_succ]
          refine wpAnyH_ready (rs := [6]) (by kernel_rfl) (by simp) ?_
          refine AllReadyH.cons rfl (fun K hK => ?_) AllReadyH.nil
          go_simp
          refine hK.out _ _ trivial (fun hHeld => ?_)
          clear hK K
          clear k0 kf
          try simp only [Act.put, List.setIfInBounds_toArray, List.set_cons_zero, List.set_cons_succ]
          refine wpAnyH_done (by kernel_rfl) ?_ _
          have hbx4 : (w3.setCell ⟨O, 0, none⟩ (.slice Av l'.length cv)).heap[w.heap.size]? = some (.cells (rpV r Ar cr) 41 (0, 0)) := (Below.heap_setCell w3 ⟨O, 0, none⟩ _ w.heap.size (fun e => HOB.out e)).trans (HF3.out _ _ HBX.out (fun cs e => by injection e with _ e2; cases e2))
          have HBX4 := Lib.hid hbx4
          have HE4 := Lib.hid HPUT.out.1
          have HA4 := Lib.hid (HA2.out.trans HPUT.out.2)
          clear hbx4
          go_wp2_with fail
          go_meet
          exact ⟨_, _, HE4.out, HA4.out, HBX4.out⟩
        · go_simp
          with_reducible (refine HIT.out.mono ?_)
          rintro e w2 ⟨rfl, hb2⟩
          have H2 := Lib.hid (H1.out.below hb2)
          have HA2 := Lib.hid (HA.out.trans (Apart.of (O := O) (hb2.mono H1.out.bh)))
          have HF2 := Lib.hid (Frg.of hb2)
          have e2 := H2.out.cell.1
          have HLY := Lib.hid (lay_frg B A l.length c l 42 ⟨(itL (r.kids.length : Int)).toArray⟩ w2 H2.out.own rfl hl (by have := itL_len (r.kids.length : Int) (by omega) (by omega); show (itL (r.kids.length : Int)).toArray.size ≤ _; simp; omega) H2.out.bh)
          rw [show bl ⟨(itL (r.kids.length : Int)).toArray⟩ = itL (r.kids.length : Int) from rfl, hl', show ((UInt8.toNat 42 : Nat) : Int) = 42 from rfl] at HLY
          clear hb2 HIT
          refine hK.out _ _ trivial (fun hHeld => ?_)
          clear hK K
          try simp only [Act.put, List.setIfInBounds_toArray, List.set_cons_zero, List.set_cons_succ]
          refine wpAnyH_ready (rs := [0]) (by kernel_rfl) (by simp) ?_
          refine AllReadyH.cons rfl (fun K hK => ?_) AllReadyH.nil
          go_simp
          refine hK.out _ _ trivial (fun hHeld => ?_)
          clear hK K
          try simp only [Act.put, List.setIfInBounds_toArray, List.set_cons_zero, List.set_cons_succ]
          refine wpAnyH_ready (rs := [5]) (by kernel_rfl) (by simp) ?_
          refine AllReadyH.cons rfl (fun K hK => ?_) AllReadyH.nil
          go_simp
          with_reducible (refine HLY.out.mono ?_)
          rintro e w3 ⟨v, rfl, ho, hb, hf⟩
          obtain ⟨k0, kf⟩ := H2.out.keep hb
          obtain ⟨Av, cv, rfl, hput⟩ := H2.out.put hb ho
          have HPUT := Lib.hid hput
          have HF3 := Lib.hid (HF2.out.trans hf)
          clear ho hb hf hput HLY
          refine hK.out _ _ trivial (fun hHeld => ?_)
          clear hK K
          try simp only [Act.put, List.setIfInBounds_toArray, List.set_cons_zero, List.set_cons_succ]
          refine wpAnyH_ready (rs := [6]) (by kernel_rfl) (by simp) ?_
          refine AllReadyH.cons rfl (fun K hK => ?_) AllReadyH.nil
          go_simp
          refine hK.out _ _ trivial (fun hHeld => ?_)
          clear hK K
          clear k0 kf
          try simp only [Act.put, List.setIfInBounds_toArray, List.set_cons_zero, List.set_cons_succ]
          refine wpAnyH_done (by kernel_rfl) ?_ _
          have hbx4 : (w3.setCell ⟨O, 0, none⟩ (.slice Av l'.length cv)).heap[w.heap.size]? = some (.cells (rpV r Ar cr) 41 (0, 0)) := (Below.heap_setCell w3 ⟨O, 0, none⟩ _ w.heap.size (fun e => HOB.out e)).trans (HF3.out _ _ HBX.out (fun cs e => by injection e with _ e2; cases e2))
          have HBX4 := Lib.hid hbx4
          have HE4 := Lib.hid HPUT.out.1
          have HA4 := Lib.hid (HA2.out.trans HPUT.out.2)
          clear hbx4
          go_wp2_with fail
          go_meet
          exact ⟨_, _, HE4.out, HA4.out, HBX4.out⟩
  case rest =>
    obtain ⟨A4, c4, he4, ha4, hb4⟩ := hcut
    have HE4 := Lib.hid he4
    have HA4 := Lib.hid ha4
    have z4 : wc.cell? ⟨w.heap.size, 3, none⟩ = some (.slice Ar r.kids.length cr) := by simp only [World.cell?, hb4]; rfl
    clear he4 ha4 hb4 HIT H1 HBX HA e0 ef z1
    go_wp2_with fail
    go_loopw [15] (fun i wr => ∃ (k : Nat) (A5 : Option Addr) (c5 : Nat), i = .int .i64 k ∧ k ≤ r.kids.length ∧ Hid (EV wr O B A5 c5 (l' ++ encL (r.kids.take k))) ∧ Hid (Apart O B w wr)) (fun i _ => r.kids.length - (intOf i).toNat)
    case atStart => exact ⟨0, A4, c4, rfl, Nat.zero_le _, Lib.hid (by rw [List.take_zero, encL, List.append_nil]; exact HE4.out), HA4⟩
    case round =>
      clear HE4 HA4 z4
      obtain ⟨k, A5, c5, rfl, hk, HE5, HA5⟩ := hrel
      by_cases hlt : k < r.kids.length
      · obtain ⟨b, o', hA, hb, hp, ha⟩ := (HA5.out.kids HK.out).kid hlt
        obtain ⟨A1, c1, x0, x1, x2, x3, hk1⟩ := ha.row
        have hr : hgt r.kids[k] ≤ n := Nat.le_trans (hgt_kid (List.getElem_mem hlt)) HH.out
        have hno := okL_mem HOK.out (List.getElem_mem hlt)
        have hnx := encL_next hlt
        have htk := encL_take r.kids (k + 1)
        have hbx := below_new wr (.cells (rpV r.kids[k] A1 c1) 41)
        have hap : Apart O B wr (wr.alloc (.cells (rpV r.kids[k] A1 c1) 41)) := Apart.of (hbx.mono HE5.out.bh)
        have HC := Lib.hid (IH r.kids[k] A1 c1 _ _ _ _ O B Pv Kv M hr hno (HE5.out.below hbx) (HEE.out.apart (HA5.out.trans hap)) (hap.kids hk1) (by
          have h1 := HL2.out
          rw [hnx, List.length_append] at htk
          rw [List.length_append]
          omega))
        rw [List.append_assoc, ← hnx] at HC
        have HAP := Lib.hid (HA5.out.trans hap)
        have p0 := cell_one ((HEE.out.apart HAP.out).pv)
        have hnb := heap_alloc_new wr (.cells (rpV r.kids[k] A1 c1) 41)
        clear hr hno hnx htk hbx hap hk1 ha hp
        subst hA
        generalize r.kids[k] = r1 at *
        clear HE5
        go_wp2_with fail
        refine HC.out.mono ?_
        rintro e w5 ⟨rfl, ⟨A6, c6, h6⟩, ha6⟩
        have H6 := Lib.hid h6
        have HA6 := Lib.hid (HAP.out.trans ha6)
        clear h6 ha6 HC p0 hnb x0 x1 x2 x3
        go_wp2_with fail
        go_roundw
        case rel => exact ⟨k + 1, A6, c6, by go_num, by omega, H6, HA6⟩
        case measure => simp [intOf]; omega
      · have h9 := HE5.out
        rw [List.take_of_length_le (by omega)] at h9
        have H9 := Lib.hid h9
        clear h9 HE5
        go_wp2_with fail
        go_end0
        exact ⟨rfl, ⟨_, _, H9.out⟩, HA5.out⟩
end
end Go.Proofs.YtglicojojpggmaaDoor
