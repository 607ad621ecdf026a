/- A reader: bytes that are fed, requests that are taken. -/
import Derived.Test.YtglicojojpggmaaDoorKnow
import Derived.Test.YtglicojojpggmaaDoorParse
namespace Go.Proofs.YtglicojojpggmaaDoor
open Go Go.RowKit
theorem add_block (a : Addr) (k : Nat) : (a.add k).block = a.block := by unfold Addr.add; split <;> rfl
/-- A reader in block G: whether it is broken, its bytes. -/
structure NR (W : World) (G : Nat) (bad : Bool) (A : Option Addr) (n c : Nat) (l : List UInt8) : Prop where
  z : W.heap[G]? = some (.cells #[.bool true, .bool bad, .slice A n c] 105 (0, 0))
  rd : Rd W A l
  len : l.length = n
  cap : n ≤ c
  nil : A = none → c = 0
  ne : ∀ ad, A = some ad → ad.block ≠ G ∧ ad.block < W.heap.size
section
variable {W W' : World} {G : Nat} {bad : Bool} {A : Option Addr} {n c : Nat} {l : List UInt8}
theorem NR.rows (h : NR W G bad A n c l) : W.cell? ⟨G, 0, none⟩ = some (.bool true) ∧ W.cell? ⟨G, 1, none⟩ = some (.bool bad) ∧ W.cell? ⟨G, 2, none⟩ = some (.slice A n c) ∧ ∀ j, W.frozen? ⟨G, j, none⟩ = false := by
  refine ⟨?_, ?_, ?_, fun j => free_row h.z j⟩
  all_goals
    simp only [World.cell?, h.z]
    rfl
theorem NR.below (h : NR W G bad A n c l) (hb : Below W.heap.size W W') : NR W' G bad A n c l :=
  ⟨(hb.block _ (lt_of_block h.z)).trans h.z, h.rd.below hb, h.len, h.cap, h.nil, fun ad e => ⟨(h.ne ad e).1, Nat.lt_of_lt_of_le (h.ne ad e).2 hb.size⟩⟩
/-- The bytes from a place on. -/
theorem NR.sub (h : NR W G bad A n c l) (k : Nat) (hk : k ≤ n) : NR (W.setCell ⟨G, 2, none⟩ (.slice (subA A k c) (n - k) (c - k))) G bad (subA A k c) (n - k) (c - k) (l.drop k) := by
  refine ⟨row_set h.z, fun h0 => ?_, by rw [List.length_drop, h.len], by have := h.cap; omega, subA_none h.nil, fun ad e => ?_⟩
  · obtain ⟨g, off, e, hlt, hc⟩ := h.rd.drop k c (by rw [h.len]; exact h.cap) h0
    refine ⟨g, off, e, by simpa [World.setCell] using hlt, fun j hj => ?_⟩
    refine (World.cell?_setCell_other W ⟨G, 2, none⟩ ⟨g, off + j, none⟩ _ (fun e2 => ?_)).trans (hc j hj)
    injection e2 with e3
    unfold subA at e
    split at e
    · exact (h.ne _ e).1 e3.symm
    · cases hA : A with
      | none => rw [hA] at e; cases e
      | some ad =>
        rw [hA] at e
        have e4 : ad.add k = ⟨g, off, none⟩ := by simpa using e
        have e5 : ad.block = g := by have := congrArg Addr.block e4; rw [add_block] at this; exact this
        exact (h.ne ad hA).1 (by rw [e5]; exact e3.symm)
  · have hb : ∃ ad', A = some ad' ∧ ad'.block = ad.block := by
      unfold subA at e
      split at e
      · exact ⟨ad, e, rfl⟩
      · cases hA : A with
        | none => rw [hA] at e; cases e
        | some ad' =>
          rw [hA] at e
          have e4 : ad'.add k = ad := by simpa using e
          exact ⟨ad', rfl, by rw [← e4, add_block]⟩
    obtain ⟨ad', h1, h2⟩ := hb
    rw [← h2]
    exact ⟨(h.ne ad' h1).1, by simpa [World.setCell] using (h.ne ad' h1).2⟩
set_option maxRecDepth 100000 in
set_option maxHeartbeats 4000000 in
theorem newR_any (w : World) : Calls Tryd.prog 29 #[] w fun e w' => e = .returned (.pointer (some ⟨w.heap.size, 0, none⟩)) ∧ w' = w.alloc (.cells #[.bool true, .bool false, .slice none 0 0] 105) := by
  go_enter Tryd.func29, Tryd.ntmps29
  go_wp2_with fail
  go_ret
  exact ⟨rfl, rfl⟩
theorem newR_nr (w : World) : NR (w.alloc (.cells #[.bool true, .bool false, .slice none 0 0] 105)) w.heap.size false none 0 0 [] :=
  ⟨heap_alloc_new w _, Rd.nil _ _, rfl, Nat.le_refl _, fun _ => rfl, fun ad e => by cases e⟩
set_option maxRecDepth 100000 in
set_option maxHeartbeats 4000000 in
/-- Bytes that are fed ahead of all others. -/
theorem feed_first (w : World) (B : Option Addr) (m d : Nat) (b : List UInt8) (h : NR w G false none 0 0 []) (hb : b.length = m) (hr : Rd w B b) (hn : B = none → d = 0) (hd : m ≤ d) (hm : m ≤ 100000000) :
    Calls Tryd.prog 30 #[.pointer (some ⟨G, 0, none⟩), .slice B m d] w fun e w' => e = .returned (.int .i64 0) ∧ (∃ A c, NR w' G false A m c b) ∧ Only G w w' := by
  obtain ⟨z0, z1, z2, zf⟩ := h.rows
  have H := Lib.hid h
  have HG := Lib.hid (lt_of_block h.z)
  have HR := Lib.hid hr
  have HB := Lib.hid hb
  have HO : Hid (OwnB w w.heap.size (.slice none 0 0) []) := Lib.hid (World.ownsRow_nil _ _ _ _)
  clear h hr hb
  go_enter Tryd.func30, Tryd.ntmps30
  go_wp2_with (at_builtin; refine wpList_bytes rfl (.tmp 23) (.tmp 24) rfl w.heap.size _ [] rfl HO.out B m d b HB.out rfl HR.out hn hd (by simp; omega) (Nat.le_refl _) ?_; intro v1 w1 ho1 hb1 hs1; rw [List.nil_append] at ho1; have HB1 := Lib.hid hb1; have HO1 := Lib.hid ho1; obtain ⟨A1, c1, rfl, hl1, hn1, hm1, hr1⟩ := ho1.rd; have H1 := Lib.hid (H.out.below hb1); have HR1 := Lib.hid hr1; have HL1 := Lib.hid hl1; have HN1 := Lib.hid hn1; obtain ⟨y0, y1, y2, yf⟩ := H1.out.rows; clear ho1 hb1 hs1 hl1 hn1 hm1 hr1)
  go_ret
  have hne : ∀ ad, A1 = some ad → ad.block ≠ G ∧ ad.block < w1.heap.size := fun ad e => by
    subst e
    have h1 := HO1.out.lt ad.block (by
      rcases HO1.out.2 with ⟨e, _⟩ | ⟨g, cap, cur, e, _⟩
      · cases e
      · injection e with e1 _ _
        cases e1
        rfl)
    have h2 := HG.out
    exact ⟨by omega, h1.2⟩
  have hbl : b.length = m := HB.out
  refine ⟨rfl, ⟨A1, c1, ⟨?_, fun h0 => ?_, HB.out, by have := HL1.out; omega, HN1.out, fun ad e => by simpa [World.setCell] using hne ad e⟩⟩, only_trans (only_below2 HB1.out) (only_set G 2 w1 _)⟩
  · rw [← HB.out]
    exact row_set H1.out.z
  · obtain ⟨g, off, e, hlt, hc⟩ := HR1.out h0
    exact ⟨g, off, e, by simpa [World.setCell] using hlt, fun j hj => (World.cell?_setCell_other w1 ⟨G, 2, none⟩ ⟨g, off + j, none⟩ _ (fun e2 => by injection e2 with e3; exact (hne _ e).1 e3.symm)).trans (hc j hj)⟩
/-- What a reader's requests are. -/
def NextQ (w : World) (G : Nat) (n : Nat) (l : List UInt8) (e : Ending) (w' : World) : Prop :=
  (∃ v, e = .returned (.tuple #[v, .int .i64 (parseR l).1]) ∧ w'.ownsRow w.heap.size 9 1 v (parseR l).2.1.length (cellsS (parseR l).2.1)) ∧ (if (parseR l).1 = 131 then NR w' G true none 0 0 [] else ∃ A c, NR w' G false A (n - (parseR l).2.2) c (l.drop (parseR l).2.2)) ∧ Only G w w'
set_option maxRecDepth 100000 in
set_option maxHeartbeats 8000000 in
theorem next_any (w : World) (h : NR w G false A n c l) (hn : n ≤ 1000000000) (hk : (parseR l).2.2 ≤ n) :
    Calls Tryd.prog 32 #[.pointer (some ⟨G, 0, none⟩)] w (NextQ w G n l) := by
  obtain ⟨z0, z1, z2, zf⟩ := h.rows
  have H := Lib.hid h
  have HG := Lib.hid (lt_of_block h.z)
  have HP := Lib.hid (parse_any A n c l w h.len h.cap h.nil h.rd (fun ad e => (h.ne ad e).2) hn)
  have HQ : Hid (∀ (v : Value) (w' : World), w'.ownsRow w.heap.size 9 1 v (parseR l).2.1.length (cellsS (parseR l).2.1) → (if (parseR l).1 = 131 then NR w' G true none 0 0 [] else ∃ A c, NR w' G false A (n - (parseR l).2.2) c (l.drop (parseR l).2.2)) → Only G w w' → NextQ w G n l (.returned (.tuple #[v, .int .i64 (parseR l).1])) w') := Lib.hid (fun v w' h1 h2 h3 => ⟨⟨v, rfl, h1⟩, h2, h3⟩)
  obtain ⟨Q, hQ⟩ : ∃ Q, NextQ w G n l = Q := ⟨_, rfl⟩
  rw [hQ] at HQ ⊢
  unfold ParseEnd at HP
  generalize parseR l = R at *
  obtain ⟨e0, ls, k⟩ := R
  simp only at HP HQ hk
  have hcp := h.cap
  clear h hQ
  by_cases hz : e0 = 131
  · have t1 : (e0 == 131) = true := by simpa using hz
    have t2 : decide (e0 = 131) = true := decide_eq_true hz
    have HZ := Lib.hid hz
    clear hz
    go_enter Tryd.func32, Tryd.ntmps32
    go_wp2_with fail
    refine HP.out.mono ?_
    rintro e w1 ⟨v, rfl, ho, hb⟩
    have H1 := Lib.hid (H.out.below hb)
    have HO1 := Lib.hid ho
    have HB1 := Lib.hid hb
    obtain ⟨y0, y1, y2, yf⟩ := H1.out.rows
    have H2 := Lib.hid (H1.out.sub k hk)
    have hz2 := heap_alloc_new w1 (.cells #[] 0)
    clear ho hb HP hz2
    go_wp2_with (refine wpList_slice_lo rfl (.tmp 33) (.tmp 34) 25 5 rfl Tryd.underlying25 (sz5 _) A n c rfl .i64 k rfl hk ?_)
    have hg := HG.out
    have own3 : ∀ (W : World) (a b c : Nat) (x y z : Value), W.ownsRow w.heap.size 9 1 v ls.length (cellsS ls) → (((W.setCell ⟨G, a, none⟩ x).setCell ⟨G, b, none⟩ y).setCell ⟨G, c, none⟩ z).ownsRow w.heap.size 9 1 v ls.length (cellsS ls) := fun W a b c x y z h => by
      have h1 := ownsRow_setCell_other h (a := ⟨G, a, none⟩) (fun e => absurd (h.lt G e).1 (by omega)) x
      have h2 := ownsRow_setCell_other h1 (a := ⟨G, b, none⟩) (fun e => absurd (h1.lt G e).1 (by omega)) y
      exact ownsRow_setCell_other h2 (a := ⟨G, c, none⟩) (fun e => absurd (h2.lt G e).1 (by omega)) z
    refine HQ.out v _ (own3 _ _ _ _ _ _ _ HO1.out) ?_ (only_trans (only_trans (only_trans (only_below2 HB1.out) (only_set G 2 _ _)) (only_set G 1 _ _)) (only_set G 2 _ _))
    rw [if_pos HZ.out]
    exact ⟨row_set (row_set H2.out.z), Rd.nil _ _, rfl, Nat.le_refl _, fun _ => rfl, fun ad e => by cases e⟩
  · have t1 : (e0 == 131) = false := by simpa using hz
    have t2 : decide (e0 = 131) = false := decide_eq_false hz
    have HZ := Lib.hid hz
    clear hz
    go_enter Tryd.func32, Tryd.ntmps32
    go_wp2_with fail
    refine HP.out.mono ?_
    rintro e w1 ⟨v, rfl, ho, hb⟩
    have H1 := Lib.hid (H.out.below hb)
    have HO1 := Lib.hid ho
    have HB1 := Lib.hid hb
    obtain ⟨y0, y1, y2, yf⟩ := H1.out.rows
    have H2 := Lib.hid (H1.out.sub k hk)
    clear ho hb HP
    go_wp2_with (refine wpList_slice_lo rfl (.tmp 33) (.tmp 34) 25 5 rfl Tryd.underlying25 (sz5 _) A n c rfl .i64 k rfl hk ?_)
    have hg := HG.out
    refine HQ.out v _ (ownsRow_setCell_other HO1.out (a := ⟨G, 2, none⟩) (fun e => absurd (HO1.out.lt G e).1 (by omega)) _) ?_ (only_trans (only_below2 HB1.out) (only_set G 2 _ _))
    rw [if_neg HZ.out]
    exact ⟨_, _, H2.out⟩
set_option maxRecDepth 100000 in
set_option maxHeartbeats 8000000 in
theorem next_bad (w : World) (h : NR w G true A n c l) :
    Calls Tryd.prog 32 #[.pointer (some ⟨G, 0, none⟩)] w fun e w' => e = .returned (.tuple #[.slice none 0 0, .int .i64 131]) ∧ w' = w := by
  obtain ⟨z0, z1, z2, zf⟩ := h.rows
  clear h
  go_enter Tryd.func32, Tryd.ntmps32
  go_wp2_with fail
  go_ret2
  exact ⟨rfl, rfl⟩
end
end Go.Proofs.YtglicojojpggmaaDoor
