/- What is laid is read as it was, what is read is laid in the bytes that were taken: requests and replies. -/
import Derived.Test.YtglicojojpggmaaDoorDecC
import Derived.Test.YtglicojojpggmaaDoorRReq
import Derived.Test.YtglicojojpggmaaDoorChA
import Derived.Test.YtglicojojpggmaaDoorCopy
import Derived.Test.YtglicojojpggmaaDoorFrame
namespace Go.Proofs.YtglicojojpggmaaDoor
open Go Go.RowKit
section
variable {l m : List UInt8} {a k most tx it : Nat} {x y : UInt8}
theorem at_mono (m : List UInt8) (h : l[a]? = some y) : (l ++ m)[a]? = some y := by
  rw [List.getElem?_append_left (List.getElem?_eq_some_iff.1 h).1]
  exact h
theorem expE_mono (m : List UInt8) (h : expE l a x ≠ 130) : expE (l ++ m) a x = expE l a x := by
  unfold expE at *
  cases h1 : l[a]? with
  | none => rw [h1] at h; exact absurd rfl h
  | some y => rw [at_mono m h1]
theorem expE_lt (h : expE l a x ≠ 130) : a < l.length := by
  unfold expE at h
  rcases Nat.lt_or_ge a l.length with h1 | h1
  · exact h1
  · rw [List.getElem?_eq_none h1] at h
    exact absurd rfl h
theorem endE_mono (m : List UInt8) (h : endE l a ≠ 130) : endE (l ++ m) a = endE l a := by
  unfold endE at *
  by_cases h1 : expE l a 13 = 0
  · rw [if_neg (not_not_intro h1)] at h ⊢
    rw [expE_mono m (by rw [h1]; decide), if_neg (not_not_intro h1), expE_mono m h]
  · rw [if_pos h1] at h ⊢
    rw [expE_mono m h, if_pos h1]
theorem endE_lt (h : endE l a ≠ 130) : a < l.length := by
  unfold endE at h
  by_cases h1 : expE l a 13 = 0
  · exact expE_lt (x := 13) (by rw [h1]; decide)
  · rw [if_pos h1] at h
    exact expE_lt h
theorem endE_two (h : endE l a = 0) : a + 2 ≤ l.length := by
  unfold endE at h
  by_cases h1 : expE l a 13 = 0
  · rw [if_neg (not_not_intro h1)] at h
    have := expE_lt (l := l) (a := a + 1) (x := 10) (by rw [h]; decide)
    omega
  · rw [if_pos h1] at h
    exact absurd h h1
theorem digF_mono (m : List UInt8) : ∀ (f f' most first : Nat) (l : List UInt8) (a acc : Nat), (digF f most first l a acc).1 ≠ 130 → f ≤ f' → digF f' most first (l ++ m) a acc = digF f most first l a acc
  | 0, _, _, _, _, _, _, h, _ => absurd rfl h
  | f + 1, 0, _, _, _, _, _, _, h => absurd h (by omega)
  | f + 1, f' + 1, most, first, l, a, acc, h, hf => by
    rw [digF] at h
    cases h1 : l[a]? with
    | none => rw [h1] at h; exact absurd rfl h
    | some x =>
      rw [h1] at h
      rw [digF, digF, h1, at_mono m h1]
      simp only at h ⊢
      by_cases c1 : x.toNat < 48 ∨ 57 < x.toNat
      · rw [if_pos c1, if_pos c1]
      rw [if_neg c1] at h ⊢
      rw [if_neg c1]
      by_cases c2 : first < a ∧ acc = 0
      · rw [if_pos c2, if_pos c2]
      rw [if_neg c2] at h ⊢
      rw [if_neg c2]
      by_cases c3 : most < x.toNat - 48 ∨ (most - (x.toNat - 48)) / 10 < acc
      · rw [if_pos c3, if_pos c3]
      rw [if_neg c3] at h ⊢
      rw [if_neg c3]
      exact digF_mono m f f' most first l (a + 1) _ h (by omega)
theorem digR_mono (m : List UInt8) (h : (digR most l a).1 ≠ 130) : digR most (l ++ m) a = digR most l a :=
  digF_mono m _ _ most a l a 0 h (by rw [List.length_append]; omega)
theorem lenE_dig (h : lenE most l a ≠ 130) : (digR most l a).1 ≠ 130 := by
  intro e
  unfold lenE at h
  rw [e] at h
  exact h rfl
theorem lenE_mono (m : List UInt8) (h : lenE most l a ≠ 130) : lenE most (l ++ m) a = lenE most l a ∧ digR most (l ++ m) a = digR most l a := by
  have hd := digR_mono m (lenE_dig h)
  refine ⟨?_, hd⟩
  unfold lenE at h ⊢
  rw [hd]
  by_cases h1 : (digR most l a).1 = 0
  · rw [if_neg (not_not_intro h1)] at h ⊢
    rw [if_neg (not_not_intro h1), endE_mono m h]
  · rw [if_pos h1, if_pos h1]
theorem cut_mono (m : List UInt8) (h : a + k ≤ l.length) : cutT (l ++ m) a k = cutT l a k := by
  unfold cutT
  rw [List.drop_append_of_le_length (by omega), List.take_append_of_le_length (by rw [List.length_drop]; omega)]
theorem textE_lt (h : textE l a k ≠ 130) : a + k < l.length := by
  unfold textE at h
  by_cases h1 : l.length - a < k
  · rw [if_pos h1] at h; exact absurd rfl h
  · rw [if_neg h1] at h
    exact endE_lt h
theorem textE_two (h : textE l a k = 0) : a + k + 2 ≤ l.length := by
  unfold textE at h
  by_cases h1 : l.length - a < k
  · rw [if_pos h1] at h; cases h
  · rw [if_neg h1] at h
    exact endE_two h
theorem textE_mono (m : List UInt8) (h : textE l a k ≠ 130) : textE (l ++ m) a k = textE l a k ∧ cutT (l ++ m) a k = cutT l a k := by
  have hl := textE_lt h
  refine ⟨?_, cut_mono m (by omega)⟩
  unfold textE at h ⊢
  by_cases h1 : l.length - a < k
  · omega
  · rw [if_neg h1] at h ⊢
    rw [if_neg (by rw [List.length_append]; omega), endE_mono m h]
theorem itemsF_mono (m : List UInt8) : ∀ (n : Nat) (l : List UInt8) (a tx : Nat) (acc : List ByteArray), (itemsF n l a tx acc).1 ≠ 130 → itemsF n (l ++ m) a tx acc = itemsF n l a tx acc
  | 0, _, _, _, _, _ => rfl
  | n + 1, l, a, tx, acc, h => by
    rw [itemsF] at h ⊢
    by_cases h1 : expE l a 36 = 0
    rotate_left
    · rw [if_pos h1] at h
      rw [itemsF, expE_mono m h, if_pos h1, if_pos h1]
    rw [if_neg (not_not_intro h1)] at h
    rw [itemsF, expE_mono m (by rw [h1]; decide), if_neg (not_not_intro h1), if_neg (not_not_intro h1)]
    by_cases h2 : lenE tx l (a + 1) = 0
    rotate_left
    · rw [if_pos h2] at h
      rw [(lenE_mono m h).1, if_pos h2, if_pos h2]
    rw [if_neg (not_not_intro h2)] at h
    have hd := lenE_mono m (show lenE tx l (a + 1) ≠ 130 by rw [h2]; decide)
    rw [hd.1, hd.2, if_neg (not_not_intro h2), if_neg (not_not_intro h2)]
    by_cases h3 : textE l ((digR tx l (a + 1)).2.2 + 2) (digR tx l (a + 1)).2.1 = 0
    rotate_left
    · rw [if_pos h3] at h
      rw [(textE_mono m h).1, if_pos h3, if_pos h3]
    rw [if_neg (not_not_intro h3)] at h
    have ht := textE_mono m (show textE l ((digR tx l (a + 1)).2.2 + 2) (digR tx l (a + 1)).2.1 ≠ 130 by rw [h3]; decide)
    rw [ht.1, ht.2, if_neg (not_not_intro h3), if_neg (not_not_intro h3)]
    exact itemsF_mono m n l _ _ _ h
theorem parseR_mono (m : List UInt8) (h : (parseR l).1 ≠ 130) : parseR (l ++ m) = parseR l := by
  unfold parseR at h ⊢
  by_cases h1 : expE l 0 42 = 0
  rotate_left
  · rw [if_pos h1] at h
    rw [expE_mono m h, if_pos h1, if_pos h1]
  rw [if_neg (not_not_intro h1)] at h
  rw [expE_mono m (by rw [h1]; decide), if_neg (not_not_intro h1), if_neg (not_not_intro h1)]
  cases h2 : l[1]? with
  | none => rw [h2] at h; exact absurd rfl h
  | some x =>
    rw [h2] at h
    rw [at_mono m h2]
    simp only at h ⊢
    by_cases h3 : x = 48
    · rw [if_pos h3, if_pos h3]
    rw [if_neg h3] at h ⊢
    rw [if_neg h3]
    by_cases h4 : lenE 65536 l 1 = 0
    rotate_left
    · rw [if_pos h4] at h
      rw [(lenE_mono m h).1, if_pos h4, if_pos h4]
    rw [if_neg (not_not_intro h4)] at h
    have hd := lenE_mono m (show lenE 65536 l 1 ≠ 130 by rw [h4]; decide)
    rw [hd.1, hd.2, if_neg (not_not_intro h4), if_neg (not_not_intro h4)]
    exact itemsF_mono m _ l _ _ _ h
theorem lnF_mono (m : List UInt8) : ∀ (f f' tx a : Nat) (l : List UInt8) (p : Nat), (lnF f tx a l p).1 ≠ 130 → f ≤ f' → lnF f' tx a (l ++ m) p = lnF f tx a l p
  | 0, _, _, _, _, _, h, _ => absurd rfl h
  | f + 1, 0, _, _, _, _, _, h => absurd h (by omega)
  | f + 1, f' + 1, tx, a, l, p, h, hf => by
    rw [lnF] at h
    cases h1 : l[p]? with
    | none => rw [h1] at h; exact absurd rfl h
    | some x =>
      rw [h1] at h
      rw [lnF, lnF, h1, at_mono m h1]
      simp only at h ⊢
      by_cases c1 : x.toNat = 13
      · rw [if_pos c1, if_pos c1]
      rw [if_neg c1] at h ⊢
      rw [if_neg c1]
      by_cases c2 : x.toNat = 10
      · rw [if_pos c2, if_pos c2]
      rw [if_neg c2] at h ⊢
      rw [if_neg c2]
      by_cases c3 : tx ≤ p - a
      · rw [if_pos c3, if_pos c3]
      rw [if_neg c3] at h ⊢
      rw [if_neg c3]
      exact lnF_mono m f f' tx a l (p + 1) h (by omega)
theorem lnR_mono (m : List UInt8) (h : (lnR tx l a).1 ≠ 130) : lnR tx (l ++ m) a = lnR tx l a :=
  lnF_mono m _ _ tx a l a h (by rw [List.length_append]; omega)
theorem lineE_mono (m : List UInt8) (h : lineE tx l a ≠ 130) : lineE tx (l ++ m) a = lineE tx l a ∧ lnR tx (l ++ m) a = lnR tx l a ∧ (lineE tx l a = 0 → cutT (l ++ m) a ((lnR tx l a).2 - a) = cutT l a ((lnR tx l a).2 - a)) := by
  have h0 : (lnR tx l a).1 ≠ 130 := by
    intro e
    unfold lineE at h
    rw [e] at h
    exact h rfl
  have hd := lnR_mono m h0
  refine ⟨?_, hd, fun hz => ?_⟩
  · unfold lineE at h ⊢
    rw [hd]
    by_cases h1 : (lnR tx l a).1 = 0
    · rw [if_neg (not_not_intro h1)] at h ⊢
      rw [if_neg (not_not_intro h1), (textE_mono m h).1]
    · rw [if_pos h1, if_pos h1]
  · unfold lineE at hz
    by_cases h1 : (lnR tx l a).1 = 0
    · rw [if_neg (not_not_intro h1)] at hz
      exact (textE_mono m (by rw [hz]; decide)).2
    · rw [if_pos h1] at hz
      exact absurd hz h1
theorem numR_mono (m : List UInt8) (h : (numR l a).1 ≠ 130) : numR (l ++ m) a = numR l a := by
  unfold numR at h ⊢
  cases h1 : l[a]? with
  | none => rw [h1] at h; exact absurd rfl h
  | some x =>
    rw [h1] at h
    rw [at_mono m h1]
    simp only at h ⊢
    by_cases c1 : x.toNat = 45
    rotate_left
    · rw [if_pos c1] at h
      have hd := lenE_mono m h
      rw [if_pos c1, if_pos c1, hd.1, hd.2]
    rw [if_neg (not_not_intro c1)] at h ⊢
    rw [if_neg (not_not_intro c1)]
    cases h2 : l[a + 1]? with
    | none => rw [h2] at h; exact absurd rfl h
    | some y =>
      rw [h2] at h
      rw [at_mono m h2]
      simp only at h ⊢
      by_cases c2 : y.toNat = 48
      · rw [if_pos c2, if_pos c2]
      rw [if_neg c2] at h ⊢
      have hd := lenE_mono m h
      rw [if_neg c2, hd.1, hd.2]
theorem nilE_mono (m : List UInt8) (h : nilE l a ≠ 130) : nilE (l ++ m) a = nilE l a := by
  unfold nilE at h ⊢
  by_cases h1 : expE l a 49 = 0
  · rw [if_neg (not_not_intro h1)] at h ⊢
    rw [expE_mono m (by rw [h1]; decide), if_neg (not_not_intro h1), endE_mono m h]
  · rw [if_pos h1] at h ⊢
    rw [expE_mono m h, if_pos h1]
theorem blkE_mono (m : List UInt8) (h : blkE l a tx ≠ 130) : blkE (l ++ m) a tx = blkE l a tx ∧ digR tx (l ++ m) a = digR tx l a ∧ (blkE l a tx = 0 → cutT (l ++ m) ((digR tx l a).2.2 + 2) (digR tx l a).2.1 = cutT l ((digR tx l a).2.2 + 2) (digR tx l a).2.1) := by
  unfold blkE at h ⊢
  by_cases h1 : lenE tx l a = 0
  rotate_left
  · rw [if_pos h1] at h ⊢
    have hd := lenE_mono m h
    exact ⟨by rw [hd.1, if_pos h1], hd.2, fun e => absurd e h1⟩
  rw [if_neg (not_not_intro h1)] at h ⊢
  have hd := lenE_mono m (show lenE tx l a ≠ 130 by rw [h1]; decide)
  have ht := textE_mono m h
  exact ⟨by rw [hd.1, hd.2, if_neg (not_not_intro h1), ht.1], hd.2, fun _ => ht.2⟩
/-- One outcome and that with more behind. -/
def Mon (D D' : DR) : Prop := (D.e ≠ 130 → D'.e = D.e) ∧ (D.e = 0 → D' = D)
theorem Mon.refl (D : DR) : Mon D D := ⟨fun _ => rfl, fun _ => rfl⟩
theorem itemsS_mono (m : List UInt8) {rep : List UInt8 → Nat → Nat → Nat → DR} (HM : ∀ l a tx it, Mon (rep l a tx it) (rep (l ++ m) a tx it)) : ∀ (n : Nat) (l : List UInt8) (a tx it : Nat) (acc : List Rp), (itemsS rep n l a tx it acc).1 ≠ 130 → itemsS rep n (l ++ m) a tx it acc = itemsS rep n l a tx it acc
  | 0, _, _, _, _, _, _ => rfl
  | n + 1, l, a, tx, it, acc, h => by
    rw [itemsS] at h ⊢
    have hm := HM l a tx it
    by_cases h1 : (rep l a tx it).e = 0
    rotate_left
    · rw [if_pos h1] at h
      rw [itemsS, hm.1 h, if_pos h1, if_pos h1]
    rw [if_neg (not_not_intro h1)] at h
    rw [itemsS, hm.2 h1, if_neg (not_not_intro h1), if_neg (not_not_intro h1)]
    exact itemsS_mono m HM n l _ _ _ _ h
theorem listS_mono (m : List UInt8) {rep : List UInt8 → Nat → Nat → Nat → DR} (HM : ∀ l a tx it, Mon (rep l a tx it) (rep (l ++ m) a tx it)) (l : List UInt8) (a tx it : Nat) : Mon (listS rep l a tx it) (listS rep (l ++ m) a tx it) := by
  unfold listS
  by_cases h1 : lenE it l a = 0
  rotate_left
  · rw [if_pos h1]
    refine ⟨fun h => ?_, fun h => absurd h h1⟩
    have hd := lenE_mono m (show lenE it l a ≠ 130 from h)
    rw [hd.1, if_pos h1]
  rw [if_neg (not_not_intro h1)]
  have hd := lenE_mono m (show lenE it l a ≠ 130 by rw [h1]; decide)
  rw [hd.1, hd.2, if_neg (not_not_intro h1)]
  by_cases h2 : (itemsS rep (digR it l a).2.1 l ((digR it l a).2.2 + 2) tx (it - (digR it l a).2.1) []).1 = 0
  rotate_left
  · rw [if_pos h2]
    refine ⟨fun h => ?_, fun h => absurd h h2⟩
    rw [itemsS_mono m HM _ _ _ _ _ _ (show (itemsS rep (digR it l a).2.1 l ((digR it l a).2.2 + 2) tx (it - (digR it l a).2.1) []).1 ≠ 130 from h), if_pos h2]
  rw [if_neg (not_not_intro h2), itemsS_mono m HM _ _ _ _ _ _ (by rw [h2]; decide), if_neg (not_not_intro h2)]
  exact Mon.refl _
theorem repS_mono (m : List UInt8) {lst : Option (List UInt8 → Nat → Nat → Nat → DR)} (HM : ∀ f, lst = some f → ∀ l a tx it, Mon (f l a tx it) (f (l ++ m) a tx it)) (l : List UInt8) (a tx it : Nat) : Mon (repS lst l a tx it) (repS lst (l ++ m) a tx it) := by
  unfold repS
  cases h1 : l[a]? with
  | none => exact ⟨fun h => absurd rfl h, fun h => absurd h (show (130 : Int) ≠ 0 by decide)⟩
  | some x =>
    rw [at_mono m h1]
    simp only
    by_cases c1 : x.toNat = 43
    · rw [if_pos c1, if_pos c1]
      refine ⟨fun h => (lineE_mono m h).1, fun h => ?_⟩
      have hd := lineE_mono m (show lineE tx l (a + 1) ≠ 130 by rw [show lineE tx l (a + 1) = 0 from h]; decide)
      rw [hd.1, hd.2.1, hd.2.2 h]
    rw [if_neg c1, if_neg c1]
    by_cases c2 : x.toNat = 45
    · rw [if_pos c2, if_pos c2]
      refine ⟨fun h => (lineE_mono m h).1, fun h => ?_⟩
      have hd := lineE_mono m (show lineE tx l (a + 1) ≠ 130 by rw [show lineE tx l (a + 1) = 0 from h]; decide)
      rw [hd.1, hd.2.1, hd.2.2 h]
    rw [if_neg c2, if_neg c2]
    by_cases c3 : x.toNat = 58
    · rw [if_pos c3, if_pos c3]
      refine ⟨fun h => by show (numR (l ++ m) (a + 1)).1 = _; rw [numR_mono m h], fun h => ?_⟩
      rw [numR_mono m (show (numR l (a + 1)).1 ≠ 130 by rw [show (numR l (a + 1)).1 = 0 from h]; decide)]
    rw [if_neg c3, if_neg c3]
    by_cases c4 : x.toNat = 36
    · rw [if_pos c4, if_pos c4]
      cases h2 : l[a + 1]? with
      | none => exact ⟨fun h => absurd rfl h, fun h => absurd h (show (130 : Int) ≠ 0 by decide)⟩
      | some y =>
        rw [at_mono m h2]
        simp only
        by_cases c5 : y.toNat = 45
        rotate_left
        · rw [if_pos c5, if_pos c5]
          refine ⟨fun h => (blkE_mono m h).1, fun h => ?_⟩
          have hd := blkE_mono m (show blkE l (a + 1) tx ≠ 130 by rw [show blkE l (a + 1) tx = 0 from h]; decide)
          rw [hd.1, hd.2.1, hd.2.2 h]
        rw [if_neg (not_not_intro c5), if_neg (not_not_intro c5)]
        refine ⟨fun h => nilE_mono m h, fun h => ?_⟩
        rw [nilE_mono m (show nilE l (a + 2) ≠ 130 by rw [show nilE l (a + 2) = 0 from h]; decide)]
    rw [if_neg c4, if_neg c4]
    by_cases c5 : x.toNat = 42
    · rw [if_pos c5, if_pos c5]
      cases lst with
      | none => exact Mon.refl _
      | some f => exact HM f rfl l (a + 1) tx it
    rw [if_neg c5, if_neg c5]
    exact Mon.refl _
theorem repF_mono (m : List UInt8) : ∀ (d : Nat) (l : List UInt8) (a tx it : Nat), Mon (repF d l a tx it) (repF d (l ++ m) a tx it)
  | 0 => repS_mono m (fun f e => by cases e)
  | d + 1 => repS_mono m (fun f e => by cases e; exact listS_mono m (repF_mono m d))
theorem decR_mono (m : List UInt8) : Mon (decR l) (decR (l ++ m)) := by
  have h := repF_mono m 100 l 0 1048576 65536
  unfold decR
  generalize repF 100 l 0 1048576 65536 = D at *
  generalize repF 100 (l ++ m) 0 1048576 65536 = D' at *
  by_cases h1 : D.e = 0
  · rw [if_neg (not_not_intro h1), h.2 h1, if_neg (not_not_intro h1)]
    exact Mon.refl _
  · rw [if_pos h1]
    refine ⟨fun h2 => ?_, fun h2 => absurd h2 h1⟩
    have h3 := h.1 h2
    rw [if_pos (by rw [h3]; exact h1)]
    exact h3
end
end Go.Proofs.YtglicojojpggmaaDoor
namespace Go.Proofs.YtglicojojpggmaaDoor
open Go Go.RowKit
theorem drop_at {l r : List UInt8} {a : Nat} {x : UInt8} (h : l.drop a = x :: r) : l[a]? = some x := by
  have h2 : (l.drop a)[0]? = some x := by rw [h]; rfl
  rw [List.getElem?_drop] at h2
  simpa using h2
theorem drop_next {l r : List UInt8} {a : Nat} {x : UInt8} (h : l.drop a = x :: r) : l.drop (a + 1) = r := by
  have h2 : (l.drop a).drop 1 = r := by rw [h]; rfl
  rw [List.drop_drop] at h2
  exact h2
theorem drop_app {l r s : List UInt8} {a : Nat} (h : l.drop a = s ++ r) : l.drop (a + s.length) = r := by
  have h2 : (l.drop a).drop s.length = r := by rw [h]; simp
  rw [List.drop_drop] at h2
  exact h2
theorem drop_len {l r s : List UInt8} {a : Nat} (h : l.drop a = s ++ r) (hs : 0 < s.length) : a + s.length ≤ l.length := by
  have h2 := congrArg List.length h
  rw [List.length_drop, List.length_append] at h2
  omega
theorem itL_nat (n : Nat) : itL (n : Int) = Lib.decDigits n := by
  unfold itL Lib.itoa
  rw [if_neg (by omega), Int.toNat_natCast]
theorem dec_small {n : Nat} (h : n < 10) : Lib.decDigits n = [UInt8.ofNat (48 + n)] := by rw [Lib.decDigits, dif_pos h]
theorem dec_big {n : Nat} (h : ¬ n < 10) : Lib.decDigits n = Lib.decDigits (n / 10) ++ [UInt8.ofNat (48 + n % 10)] := by rw [Lib.decDigits, dif_neg h]
theorem dec_pos (n : Nat) : 0 < (Lib.decDigits n).length := by
  by_cases h : n < 10
  · rw [dec_small h]; simp
  · rw [dec_big h]; simp
theorem dig_nat {d : Nat} (h : d < 10) : (UInt8.ofNat (48 + d)).toNat = 48 + d := by
  rw [UInt8.toNat_ofNat']
  omega
/-- The first digit of a number that is not nought is not nought. -/
theorem dec_head : ∀ (n : Nat), 0 < n → ∃ x r, Lib.decDigits n = x :: r ∧ 48 < x.toNat ∧ x.toNat ≤ 57 := by
  intro n
  induction n using Nat.strongRecOn with
  | _ n ih =>
    intro h0
    by_cases h : n < 10
    · exact ⟨_, [], dec_small h, by rw [dig_nat h]; omega, by rw [dig_nat h]; omega⟩
    · obtain ⟨x, r, h1, h2, h3⟩ := ih (n / 10) (by omega) (by omega)
      exact ⟨x, r ++ [UInt8.ofNat (48 + n % 10)], by rw [dec_big h, h1]; rfl, h2, h3⟩
theorem dec_head0 (n : Nat) : ∃ x r, Lib.decDigits n = x :: r ∧ 48 ≤ x.toNat ∧ x.toNat ≤ 57 := by
  by_cases h : 0 < n
  · obtain ⟨x, r, h1, h2, h3⟩ := dec_head n h
    exact ⟨x, r, h1, by omega, h3⟩
  · obtain rfl : n = 0 := by omega
    exact ⟨_, [], dec_small (by decide), by rw [dig_nat (by decide)]; omega, by rw [dig_nat (by decide)]; omega⟩
theorem digF_run (most : Nat) (l : List UInt8) (a : Nat) : ∀ (n : Nat) (rest : List UInt8) (f : Nat), n ≤ most → l.drop a = Lib.decDigits n ++ rest → digF (f + (Lib.decDigits n).length) most a l a 0 = digF f most a l (a + (Lib.decDigits n).length) n := by
  intro n
  induction n using Nat.strongRecOn with
  | _ n ih =>
    intro rest f hm h
    by_cases hn : n < 10
    · rw [dec_small hn] at h ⊢
      rw [List.length_singleton, digF, drop_at h]
      simp only
      rw [dig_nat hn, if_neg (by omega), if_neg (by omega), if_neg (by rw [show 48 + n - 48 = n by omega]; omega), show 0 * 10 + (48 + n - 48) = n by omega]
    · rw [dec_big hn] at h ⊢
      rw [List.append_assoc] at h
      have h1 := ih (n / 10) (by omega) _ (f + 1) (by omega) h
      have hp := dec_pos (n / 10)
      have h2 := drop_app h
      rw [List.length_append, List.length_singleton, show f + ((Lib.decDigits (n / 10)).length + 1) = f + 1 + (Lib.decDigits (n / 10)).length by omega, h1, digF, drop_at h2]
      simp only
      have hd : n % 10 < 10 := Nat.mod_lt _ (by decide)
      rw [dig_nat hd, if_neg (by omega), if_neg (by omega), if_neg (by rw [show 48 + n % 10 - 48 = n % 10 by omega]; omega), show n / 10 * 10 + (48 + n % 10 - 48) = n by omega, Nat.add_assoc]
theorem digR_run {most : Nat} {l rest : List UInt8} {a n : Nat} {x : UInt8} (hm : n ≤ most) (h : l.drop a = Lib.decDigits n ++ x :: rest) (hx : x.toNat < 48 ∨ 57 < x.toNat) : digR most l a = (0, n, a + (Lib.decDigits n).length) := by
  have hl := congrArg List.length h
  rw [List.length_drop, List.length_append, List.length_cons] at hl
  have hp := dec_pos n
  unfold digR
  rw [show l.length + 1 - a = rest.length + 1 + 1 + (Lib.decDigits n).length by omega, digF_run most l a n _ _ hm h, digF, drop_at (drop_app h)]
  simp only
  rw [if_pos hx, if_neg (by omega)]
theorem endE_run {l rest : List UInt8} {a : Nat} (h : l.drop a = crlf ++ rest) : endE l a = 0 := by
  have h1 : l.drop a = 13 :: 10 :: rest := h
  unfold endE expE
  rw [drop_at h1, drop_at (drop_next h1)]
  rfl
theorem lenE_run {most : Nat} {l rest : List UInt8} {a n : Nat} (hm : n ≤ most) (h : l.drop a = Lib.decDigits n ++ (crlf ++ rest)) : lenE most l a = 0 ∧ digR most l a = (0, n, a + (Lib.decDigits n).length) := by
  have hd := digR_run (x := 13) (rest := 10 :: rest) hm h (.inl (by decide))
  refine ⟨?_, hd⟩
  unfold lenE
  rw [hd, if_neg (by simp)]
  exact endE_run (drop_app h)
theorem textE_run {l rest : List UInt8} {a : Nat} {s : ByteArray} (h : l.drop a = bl s ++ (crlf ++ rest)) : textE l a s.size = 0 ∧ cutT l a s.size = s := by
  have hl := congrArg List.length h
  have hs := bl_len s
  rw [List.length_drop, List.length_append, hs, List.length_append] at hl
  have hc : crlf.length = 2 := rfl
  refine ⟨?_, ?_⟩
  · unfold textE
    have h2 := drop_app h
    rw [hs] at h2
    rw [if_neg (by omega), endE_run h2]
  · unfold cutT
    rw [h, ← hs, List.take_left]
theorem one_at {l rest : List UInt8} {a tx : Nat} {s : ByteArray} (h : l.drop a = oneL s ++ rest) (hs : s.size ≤ tx) :
    expE l a 36 = 0 ∧ lenE tx l (a + 1) = 0 ∧ digR tx l (a + 1) = (0, s.size, a + 1 + (Lib.decDigits s.size).length) ∧ textE l (a + 1 + (Lib.decDigits s.size).length + 2) s.size = 0 ∧ cutT l (a + 1 + (Lib.decDigits s.size).length + 2) s.size = s ∧ a + 1 + (Lib.decDigits s.size).length + 2 + s.size + 2 = a + (oneL s).length := by
  unfold oneL layL at h ⊢
  rw [itL_nat] at h ⊢
  have h1 : l.drop a = 36 :: (Lib.decDigits s.size ++ (crlf ++ (bl s ++ (crlf ++ rest)))) := by rw [h]; simp
  have h2 := drop_next h1
  have h3 := lenE_run hs h2
  have h4 := drop_app h2
  have h5 := drop_app h4
  have hc : crlf.length = 2 := rfl
  rw [hc] at h5
  have h6 := textE_run h5
  refine ⟨?_, h3.1, h3.2, h6.1, h6.2, ?_⟩
  · unfold expE
    rw [drop_at h1]
    rfl
  · have := bl_len s
    simp only [List.length_append, List.length_cons, hc]
    omega
theorem itemsF_run {l : List UInt8} : ∀ (ls : List ByteArray) (rest : List UInt8) (a tx : Nat) (acc : List ByteArray), l.drop a = ls.flatMap oneL ++ rest → totS ls ≤ tx → itemsF ls.length l a tx acc = (0, acc ++ ls, a + (ls.flatMap oneL).length)
  | [], rest, a, tx, acc, _, _ => by simp [itemsF]
  | s :: ls, rest, a, tx, acc, h, ht => by
    rw [List.flatMap_cons, List.append_assoc] at h
    rw [totS] at ht
    obtain ⟨h1, h2, h3, h4, h5, h6⟩ := one_at h (show s.size ≤ tx by omega)
    have h7 := drop_app h
    rw [List.length_cons, itemsF, if_neg (not_not_intro h1), if_neg (not_not_intro h2), h3]
    simp only
    rw [if_neg (not_not_intro h4), h5, h6, itemsF_run ls rest _ _ _ h7 (by omega), List.flatMap_cons, List.length_append]
    simp [Nat.add_assoc]
/-- A request is read as it was laid, whatever stands behind. -/
theorem parse_back {ls : List ByteArray} (hE : reqE ls = 0) (m : List UInt8) : parseR (reqL ls.length ls ++ m) = (0, ls, (reqL ls.length ls).length) := by
  have hc : ¬ (ls.length = 0 ∨ 65536 < ls.length ∨ 1048576 < totS ls) := fun h => by
    unfold reqE at hE
    rw [if_pos h] at hE
    cases hE
  obtain ⟨L, hL⟩ : ∃ L, reqL ls.length ls ++ m = L := ⟨_, rfl⟩
  have h0 : L.drop 0 = 42 :: (Lib.decDigits ls.length ++ (crlf ++ (ls.flatMap oneL ++ m))) := by
    rw [List.drop_zero, ← hL]
    unfold reqL headL layL
    rw [itL_nat]
    simp
  have h1 := drop_next h0
  have h2 := lenE_run (most := 65536) (by omega) h1
  have h3 := drop_app (drop_app h1)
  obtain ⟨x, r, hx, hx1, _⟩ := dec_head ls.length (by omega)
  have h4 : L[1]? = some x := by
    rw [hx] at h1
    exact drop_at h1
  have hx2 : x ≠ 48 := fun e => by
    rw [e] at hx1
    exact absurd hx1 (by decide)
  have h5 := itemsF_run ls m _ 1048576 [] h3 (by omega)
  rw [hL]
  unfold parseR
  rw [if_neg (not_not_intro (show expE L 0 42 = 0 by unfold expE; rw [drop_at h0]; rfl)), h4]
  simp only
  rw [if_neg hx2, if_neg (not_not_intro h2.1), h2.2]
  simp only
  have hc2 : crlf.length = 2 := rfl
  rw [hc2] at h5
  rw [h5]
  have hlen : 0 + 1 + (Lib.decDigits ls.length).length + 2 + (ls.flatMap oneL).length = (reqL ls.length ls).length := by
    unfold reqL headL layL
    rw [itL_nat]
    simp only [List.length_append, List.length_cons, hc2]
    omega
  rw [hlen]
  simp
/-- A beginning of a request begins well. -/
theorem parse_cut {ls : List ByteArray} (hE : reqE ls = 0) (k : Nat) (hk : k < (reqL ls.length ls).length) (hp : ∀ l : List UInt8, (parseR l).1 = 0 → (parseR l).2.2 ≤ l.length) : (parseR ((reqL ls.length ls).take k)).1 = 130 := by
  by_cases h : (parseR ((reqL ls.length ls).take k)).1 = 130
  · exact h
  · have h1 := parseR_mono ((reqL ls.length ls).drop k) h
    rw [List.take_append_drop] at h1
    have h2 := parse_back hE []
    rw [List.append_nil, h1] at h2
    have h3 := hp _ (by rw [h2])
    rw [h2, List.length_take] at h3
    simp only at h3
    omega
end Go.Proofs.YtglicojojpggmaaDoor
namespace Go.Proofs.YtglicojojpggmaaDoor
open Go Go.RowKit
/-- The bytes from a place up to another one. -/
def seg (l : List UInt8) (a b : Nat) : List UInt8 := (l.drop a).take (b - a)
section
variable {l : List UInt8} {a b c k most tx it : Nat} {x : UInt8}
theorem seg_self : seg l a a = [] := by simp [seg]
theorem seg_snoc (hab : a ≤ b) (h : l[b]? = some x) : seg l a (b + 1) = seg l a b ++ [x] := by
  unfold seg
  rw [show b + 1 - a = (b - a) + 1 by omega, List.take_add_one, List.getElem?_drop, show a + (b - a) = b by omega, h]
  rfl
theorem seg_app (hab : a ≤ b) (hbc : b ≤ c) : seg l a b ++ seg l b c = seg l a c := by
  unfold seg
  rw [show l.drop b = (l.drop a).drop (b - a) by rw [List.drop_drop]; congr 1; omega, show c - a = (b - a) + (c - b) by omega, List.take_add]
theorem seg_zero : seg l 0 a = l.take a := by simp [seg]
theorem expE_zero (h : expE l a x = 0) : l[a]? = some x := by
  unfold expE at h
  cases h1 : l[a]? with
  | none => rw [h1] at h; cases h
  | some y =>
    rw [h1] at h
    simp only at h
    by_cases h2 : y = x
    · rw [h2]
    · rw [if_neg h2] at h; cases h
theorem expE_seg (h : expE l a x = 0) : seg l a (a + 1) = [x] := by rw [seg_snoc (Nat.le_refl _) (expE_zero h), seg_self]; rfl
theorem expE_only (h : expE l a x ≠ 0) : expE l a x = 130 ∨ expE l a x = 131 := by
  unfold expE at *
  cases h1 : l[a]? with
  | none => exact .inl rfl
  | some y =>
    rw [h1] at h
    simp only at h ⊢
    by_cases h2 : y = x
    · rw [if_pos h2] at h; exact absurd rfl h
    · rw [if_neg h2]; exact .inr rfl
theorem endE_seg (h : endE l a = 0) : seg l a (a + 2) = crlf := by
  unfold endE at h
  by_cases h1 : expE l a 13 = 0
  · rw [if_neg (not_not_intro h1)] at h
    rw [seg_snoc (by omega) (expE_zero h), expE_seg h1]
    rfl
  · rw [if_pos h1] at h
    exact absurd h h1
theorem endE_only (h : endE l a ≠ 0) : endE l a = 130 ∨ endE l a = 131 := by
  unfold endE at *
  by_cases h1 : expE l a 13 = 0
  · rw [if_neg (not_not_intro h1)] at h ⊢
    exact expE_only h
  · rw [if_pos h1] at h ⊢
    exact expE_only h1
theorem dig_u8 (h0 : 48 ≤ x.toNat) (h1 : x.toNat ≤ 57) : x = UInt8.ofNat (48 + (x.toNat - 48)) := by
  apply UInt8.toNat_inj.1
  rw [dig_nat (by omega)]
  omega
theorem digF_laid : ∀ (f most first : Nat) (l : List UInt8) (a acc : Nat) (v p : Nat), digF f most first l a acc = (0, v, p) → (a = first ∧ acc = 0 ∨ first < a ∧ acc ≤ most ∧ seg l first a = Lib.decDigits acc) → first < p ∧ seg l first p = Lib.decDigits v ∧ v ≤ most ∧ p < l.length
  | 0, _, _, _, _, _, _, _, h, _ => by simp [digF] at h
  | f + 1, most, first, l, a, acc, v, p, h, hi => by
    rw [digF] at h
    cases h1 : l[a]? with
    | none => rw [h1] at h; simp at h
    | some x =>
      rw [h1] at h
      simp only at h
      have hal := (List.getElem?_eq_some_iff.1 h1).1
      by_cases c1 : x.toNat < 48 ∨ 57 < x.toNat
      · rw [if_pos c1] at h
        by_cases c4 : a = first
        · rw [if_pos c4] at h; simp at h
        · rw [if_neg c4] at h
          simp only [Prod.mk.injEq, true_and] at h
          obtain ⟨rfl, rfl⟩ := h
          rcases hi with ⟨e, _⟩ | ⟨h2, h3, h4⟩
          · exact absurd e c4
          · exact ⟨h2, h4, h3, hal⟩
      rw [if_neg c1] at h
      by_cases c2 : first < a ∧ acc = 0
      · rw [if_pos c2] at h; simp at h
      rw [if_neg c2] at h
      by_cases c3 : most < x.toNat - 48 ∨ (most - (x.toNat - 48)) / 10 < acc
      · rw [if_pos c3] at h; simp at h
      rw [if_neg c3] at h
      have hx := dig_u8 (x := x) (by omega) (by omega)
      obtain ⟨d, hd⟩ : ∃ d, x.toNat - 48 = d := ⟨_, rfl⟩
      rw [hd] at h c3 hx
      have hd10 : d < 10 := by omega
      refine digF_laid f most first l (a + 1) _ v p h (.inr ?_)
      rcases hi with ⟨rfl, rfl⟩ | ⟨h2, h3, h4⟩
      · refine ⟨by omega, by omega, ?_⟩
        rw [seg_snoc (Nat.le_refl _) h1, seg_self, show 0 * 10 + d = d by omega, dec_small hd10, hx]
        rfl
      · have ha0 : acc ≠ 0 := fun e => c2 ⟨h2, e⟩
        refine ⟨by omega, by omega, ?_⟩
        rw [seg_snoc (by omega) h1, h4, dec_big (n := acc * 10 + d) (by omega), show (acc * 10 + d) / 10 = acc by omega, show (acc * 10 + d) % 10 = d by omega, ← hx]
theorem digF_only : ∀ (f most first : Nat) (l : List UInt8) (a acc : Nat), (digF f most first l a acc).1 = 0 ∨ (digF f most first l a acc).1 = 130 ∨ (digF f most first l a acc).1 = 131
  | 0, _, _, _, _, _ => .inr (.inl rfl)
  | f + 1, most, first, l, a, acc => by
    rw [digF]
    cases h1 : l[a]? with
    | none => exact .inr (.inl rfl)
    | some x =>
      simp only
      split
      · split
        · exact .inr (.inr rfl)
        · exact .inl rfl
      split
      · exact .inr (.inr rfl)
      split
      · exact .inr (.inr rfl)
      · exact digF_only f most first l _ _
theorem lenE_only (h : lenE most l a ≠ 0) : lenE most l a = 130 ∨ lenE most l a = 131 := by
  unfold lenE at *
  by_cases h1 : (digR most l a).1 = 0
  · rw [if_neg (not_not_intro h1)] at h ⊢
    exact endE_only h
  · rw [if_pos h1]
    rcases digF_only (l.length + 1 - a) most a l a 0 with h2 | h2
    · exact absurd h2 h1
    · exact h2
theorem textE_only (h : textE l a k ≠ 0) : textE l a k = 130 ∨ textE l a k = 131 := by
  unfold textE at *
  by_cases h1 : l.length - a < k
  · rw [if_pos h1]; exact .inl rfl
  · rw [if_neg h1] at h ⊢
    exact endE_only h
theorem lenE_laid (h : lenE most l a = 0) : a < (digR most l a).2.2 ∧ seg l a ((digR most l a).2.2 + 2) = Lib.decDigits (digR most l a).2.1 ++ crlf ∧ (digR most l a).2.1 ≤ most ∧ (digR most l a).2.2 + 2 ≤ l.length := by
  have h0 := lenE_zero h
  have h1 : endE l (digR most l a).2.2 = 0 := by
    unfold lenE at h
    rw [if_neg (not_not_intro h0)] at h
    exact h
  obtain ⟨g1, g2, g3, g4⟩ := digF_laid (l.length + 1 - a) most a l a 0 (digR most l a).2.1 (digR most l a).2.2 (Prod.ext h0 rfl) (.inl ⟨rfl, rfl⟩)
  refine ⟨g1, ?_, g3, endE_two h1⟩
  rw [← seg_app (b := (digR most l a).2.2) (by omega) (by omega), g2, endE_seg h1]
theorem cut_seg (h : a + k ≤ l.length) : bl (cutT l a k) = seg l a (a + k) ∧ (cutT l a k).size = k := by
  have e : bl (cutT l a k) = seg l a (a + k) := by
    unfold seg cutT
    rw [show a + k - a = k by omega]
  refine ⟨e, ?_⟩
  rw [← bl_len, e]
  unfold seg
  rw [List.length_take, List.length_drop]
  omega
theorem textE_laid (h : textE l a k = 0) : seg l a (a + k + 2) = bl (cutT l a k) ++ crlf ∧ (cutT l a k).size = k ∧ a + k + 2 ≤ l.length := by
  have hl := textE_two h
  have h1 : endE l (a + k) = 0 := by
    unfold textE at h
    rw [if_neg (by omega)] at h
    exact h
  have h2 := cut_seg (l := l) (a := a) (k := k) (by omega)
  refine ⟨?_, h2.2, hl⟩
  rw [← seg_app (b := a + k) (by omega) (by omega), h2.1, endE_seg h1]
theorem itemsF_laid : ∀ (n : Nat) (l : List UInt8) (a tx : Nat) (acc ls : List ByteArray) (p : Nat), itemsF n l a tx acc = (0, ls, p) → a ≤ l.length → ∃ ls', ls = acc ++ ls' ∧ ls'.length = n ∧ seg l a p = ls'.flatMap oneL ∧ a ≤ p ∧ p ≤ l.length ∧ totS ls' ≤ tx
  | 0, l, a, tx, acc, ls, p, h, ha => by
    rw [itemsF] at h
    simp only [Prod.mk.injEq, true_and] at h
    obtain ⟨rfl, rfl⟩ := h
    exact ⟨[], by simp, rfl, by simp [seg_self], Nat.le_refl _, ha, by simp [totS]⟩
  | n + 1, l, a, tx, acc, ls, p, h, ha => by
    rw [itemsF] at h
    by_cases h1 : expE l a 36 = 0
    rotate_left
    · rw [if_pos h1] at h
      exact absurd (congrArg Prod.fst h) h1
    rw [if_neg (not_not_intro h1)] at h
    by_cases h2 : lenE tx l (a + 1) = 0
    rotate_left
    · rw [if_pos h2] at h
      exact absurd (congrArg Prod.fst h) h2
    rw [if_neg (not_not_intro h2)] at h
    obtain ⟨g1, g2, g3, g4⟩ := lenE_laid h2
    by_cases h3 : textE l ((digR tx l (a + 1)).2.2 + 2) (digR tx l (a + 1)).2.1 = 0
    rotate_left
    · rw [if_pos h3] at h
      exact absurd (congrArg Prod.fst h) h3
    rw [if_neg (not_not_intro h3)] at h
    obtain ⟨t1, t2, t3⟩ := textE_laid h3
    generalize (digR tx l (a + 1)).2.1 = d at *
    generalize (digR tx l (a + 1)).2.2 = q at *
    obtain ⟨ls', e1, e2, e3, e4, e5, e6⟩ := itemsF_laid n l _ _ _ ls p h (by omega)
    refine ⟨cutT l (q + 2) d :: ls', by rw [e1]; simp, by rw [List.length_cons, e2], ?_, by omega, e5, by rw [totS, t2]; omega⟩
    rw [List.flatMap_cons, ← e3, ← seg_app (a := a) (b := a + 1) (c := p) (by omega) (by omega), ← seg_app (a := a + 1) (b := q + 2) (c := p) (by omega) (by omega), ← seg_app (a := q + 2) (b := q + 2 + d + 2) (c := p) (by omega) (by omega), expE_seg h1, g2, t1]
    unfold oneL layL
    rw [t2, itL_nat]
    simp
theorem itemsF_only : ∀ (n : Nat) (l : List UInt8) (a tx : Nat) (acc : List ByteArray), (itemsF n l a tx acc).1 ≠ 0 → ((itemsF n l a tx acc).1 = 130 ∨ (itemsF n l a tx acc).1 = 131) ∧ (itemsF n l a tx acc).2 = ([], 0)
  | 0, _, _, _, _, h => absurd rfl h
  | n + 1, l, a, tx, acc, h => by
    rw [itemsF] at h ⊢
    by_cases h1 : expE l a 36 = 0
    rotate_left
    · rw [if_pos h1]
      exact ⟨expE_only h1, rfl⟩
    rw [if_neg (not_not_intro h1)] at h ⊢
    by_cases h2 : lenE tx l (a + 1) = 0
    rotate_left
    · rw [if_pos h2]
      exact ⟨lenE_only h2, rfl⟩
    rw [if_neg (not_not_intro h2)] at h ⊢
    by_cases h3 : textE l ((digR tx l (a + 1)).2.2 + 2) (digR tx l (a + 1)).2.1 = 0
    rotate_left
    · rw [if_pos h3]
      exact ⟨textE_only h3, rfl⟩
    rw [if_neg (not_not_intro h3)] at h ⊢
    exact itemsF_only n l _ _ _ h
theorem parse_only (h : (parseR l).1 ≠ 0) : ((parseR l).1 = 130 ∨ (parseR l).1 = 131) ∧ (parseR l).2 = ([], 0) := by
  unfold parseR at *
  by_cases h1 : expE l 0 42 = 0
  rotate_left
  · rw [if_pos h1]
    exact ⟨expE_only h1, rfl⟩
  rw [if_neg (not_not_intro h1)] at h ⊢
  cases h2 : l[1]? with
  | none => exact ⟨.inl rfl, rfl⟩
  | some x =>
    rw [h2] at h
    simp only at h ⊢
    by_cases h3 : x = 48
    · rw [if_pos h3]
      exact ⟨.inr rfl, rfl⟩
    rw [if_neg h3] at h ⊢
    by_cases h4 : lenE 65536 l 1 = 0
    rotate_left
    · rw [if_pos h4]
      exact ⟨lenE_only h4, rfl⟩
    rw [if_neg (not_not_intro h4)] at h ⊢
    exact itemsF_only _ l _ _ _ h
/-- What is read as a request is laid in the bytes that were taken. -/
theorem parse_laid {ls : List ByteArray} {n : Nat} (h : parseR l = (0, ls, n)) : reqE ls = 0 ∧ 1 ≤ n ∧ n ≤ l.length ∧ reqL ls.length ls = l.take n := by
  unfold parseR at h
  by_cases h1 : expE l 0 42 = 0
  rotate_left
  · rw [if_pos h1] at h
    exact absurd (congrArg Prod.fst h) h1
  rw [if_neg (not_not_intro h1)] at h
  cases h2 : l[1]? with
  | none => rw [h2] at h; simp at h
  | some x =>
    rw [h2] at h
    simp only at h
    by_cases h3 : x = 48
    · rw [if_pos h3] at h
      simp at h
    rw [if_neg h3] at h
    by_cases h4 : lenE 65536 l 1 = 0
    rotate_left
    · rw [if_pos h4] at h
      exact absurd (congrArg Prod.fst h) h4
    rw [if_neg (not_not_intro h4)] at h
    obtain ⟨g1, g2, g3, g4⟩ := lenE_laid h4
    obtain ⟨ls', e1, e2, e3, e4, e5, e6⟩ := itemsF_laid _ l _ _ _ ls n h g4
    rw [List.nil_append] at e1
    subst e1
    have hd0 : (digR 65536 l 1).2.1 ≠ 0 := by
      intro e
      rw [e, dec_small (by decide)] at g2
      have h5 : seg l 1 ((digR 65536 l 1).2.2 + 2) = x :: seg l 2 ((digR 65536 l 1).2.2 + 2) := by
        rw [← seg_app (b := 2) (by omega) (by omega), seg_snoc (a := 1) (b := 1) (Nat.le_refl _) h2, seg_self]
        rfl
      rw [h5] at g2
      injection g2 with g5 _
      exact h3 g5
    refine ⟨?_, by omega, e5, ?_⟩
    · unfold reqE
      rw [if_neg (by omega)]
    · rw [← seg_zero, ← seg_app (a := 0) (b := 1) (c := n) (by omega) (by omega), ← seg_app (a := 1) (b := (digR 65536 l 1).2.2 + 2) (c := n) (by omega) (by omega), e3, g2, show seg l 0 1 = [42] from expE_seg h1, e2]
      unfold reqL headL layL
      rw [itL_nat]
      simp
end
end Go.Proofs.YtglicojojpggmaaDoor
namespace Go.Proofs.YtglicojojpggmaaDoor
open Go Go.RowKit
section
variable {l : List UInt8} {a b c k most tx it : Nat} {x : UInt8}
theorem lnF_plain : ∀ (f tx a : Nat) (l : List UInt8) (p q : Nat), lnF f tx a l p = (0, q) → p ≤ q ∧ q < l.length ∧ lineB (seg l p q) = true
  | 0, _, _, _, _, _, h => by simp [lnF] at h
  | f + 1, tx, a, l, p, q, h => by
    rw [lnF] at h
    cases h1 : l[p]? with
    | none => rw [h1] at h; simp at h
    | some x =>
      rw [h1] at h
      simp only at h
      have hp := (List.getElem?_eq_some_iff.1 h1).1
      by_cases c1 : x.toNat = 13
      · rw [if_pos c1] at h
        simp only [Prod.mk.injEq, true_and] at h
        subst h
        exact ⟨Nat.le_refl _, hp, by rw [seg_self]; rfl⟩
      rw [if_neg c1] at h
      by_cases c2 : x.toNat = 10
      · rw [if_pos c2] at h; simp at h
      rw [if_neg c2] at h
      by_cases c3 : tx ≤ p - a
      · rw [if_pos c3] at h; simp at h
      rw [if_neg c3] at h
      obtain ⟨g1, g2, g3⟩ := lnF_plain f tx a l (p + 1) q h
      refine ⟨by omega, g2, ?_⟩
      rw [← seg_app (a := p) (b := p + 1) (c := q) (by omega) (by omega), seg_snoc (a := p) (b := p) (Nat.le_refl _) h1, seg_self]
      unfold lineB at g3 ⊢
      rw [List.all_append, g3]
      simp [plainB, c1, c2]
theorem lineE_laid (h : lineE tx l a = 0) : seg l a (a + ((lnR tx l a).2 - a) + 2) = bl (cutT l a ((lnR tx l a).2 - a)) ++ crlf ∧ lineB (bl (cutT l a ((lnR tx l a).2 - a))) = true ∧ (cutT l a ((lnR tx l a).2 - a)).size = (lnR tx l a).2 - a ∧ (lnR tx l a).2 - a ≤ tx ∧ a + ((lnR tx l a).2 - a) + 2 ≤ l.length := by
  have h0 := lineE_zero h
  have hl : lnF (l.length + 1 - a) tx a l a = (0, (lnR tx l a).2) := Prod.ext h0 rfl
  have h1 := lnF_le (l.length + 1 - a) a hl
  have h2 := lnF_plain _ _ _ _ _ _ hl
  have h3 : textE l a ((lnR tx l a).2 - a) = 0 := by
    unfold lineE at h
    rw [if_neg (not_not_intro h0)] at h
    exact h
  obtain ⟨t1, t2, t3⟩ := textE_laid h3
  have hc := cut_seg (l := l) (a := a) (k := (lnR tx l a).2 - a) (by omega)
  refine ⟨t1, ?_, t2, h1.2.2 (Nat.le_refl _) (by omega), t3⟩
  rw [hc.1, show a + ((lnR tx l a).2 - a) = (lnR tx l a).2 by omega]
  exact h2.2.2
theorem lineE_only (h : lineE tx l a ≠ 0) : lineE tx l a = 130 ∨ lineE tx l a = 131 := by
  have hF : ∀ (f tx a : Nat) (l : List UInt8) (p : Nat), (lnF f tx a l p).1 = 0 ∨ (lnF f tx a l p).1 = 130 ∨ (lnF f tx a l p).1 = 131 := by
    intro f
    induction f with
    | zero => intros; exact .inr (.inl rfl)
    | succ f ih =>
      intro tx a l p
      rw [lnF]
      cases h1 : l[p]? with
      | none => exact .inr (.inl rfl)
      | some x =>
        simp only
        split
        · exact .inl rfl
        split
        · exact .inr (.inr rfl)
        split
        · exact .inr (.inr rfl)
        · exact ih _ _ _ _
  unfold lineE at *
  by_cases h1 : (lnR tx l a).1 = 0
  · rw [if_neg (not_not_intro h1)] at h ⊢
    exact textE_only h
  · rw [if_pos h1]
    rcases hF (l.length + 1 - a) tx a l a with h2 | h2
    · exact absurd h2 h1
    · exact h2
theorem itL_neg {d : Nat} (h : d ≠ 0) : itL (-(d : Int)) = 45 :: Lib.decDigits d := by
  unfold itL Lib.itoa
  rw [if_pos (by omega), Int.natAbs_neg, Int.natAbs_natCast]
theorem numR_laid (h : (numR l a).1 = 0) : seg l a (numR l a).2.2 = itL (numR l a).2.1 ++ crlf ∧ a < (numR l a).2.2 ∧ (numR l a).2.2 ≤ l.length := by
  unfold numR at *
  cases h1 : l[a]? with
  | none => rw [h1] at h; simp at h
  | some x =>
    rw [h1] at h
    simp only at h ⊢
    by_cases c1 : x.toNat = 45
    rotate_left
    · rw [if_pos c1] at h ⊢
      obtain ⟨g1, g2, g3, g4⟩ := lenE_laid (show lenE 9223372036854775807 l a = 0 from h)
      exact ⟨by show seg l a _ = _; rw [g2, itL_nat], by show a < _ + 2; omega, g4⟩
    rw [if_neg (not_not_intro c1)] at h ⊢
    cases h2 : l[a + 1]? with
    | none => rw [h2] at h; simp at h
    | some y =>
      rw [h2] at h
      simp only at h ⊢
      by_cases c2 : y.toNat = 48
      · rw [if_pos c2] at h; simp at h
      rw [if_neg c2] at h ⊢
      obtain ⟨g1, g2, g3, g4⟩ := lenE_laid (show lenE 9223372036854775808 l (a + 1) = 0 from h)
      have hd : (digR 9223372036854775808 l (a + 1)).2.1 ≠ 0 := by
        intro e
        rw [e, dec_small (by decide)] at g2
        have h5 : seg l (a + 1) ((digR 9223372036854775808 l (a + 1)).2.2 + 2) = y :: seg l (a + 1 + 1) ((digR 9223372036854775808 l (a + 1)).2.2 + 2) := by
          rw [← seg_app (b := a + 1 + 1) (by omega) (by omega), seg_snoc (a := a + 1) (b := a + 1) (Nat.le_refl _) h2, seg_self]
          rfl
        rw [h5] at g2
        injection g2 with g5 _
        rw [g5] at c2
        exact c2 (by decide)
      refine ⟨?_, by show a < _ + 2; omega, g4⟩
      show seg l a (_ + 2) = _
      have hx : x = 45 := UInt8.toNat_inj.1 (show x.toNat = (45 : UInt8).toNat from c1)
      rw [← seg_app (a := a) (b := a + 1) (by omega) (by omega), seg_snoc (a := a) (b := a) (Nat.le_refl _) h1, seg_self, g2, itL_neg hd, hx]
      rfl
theorem numR_only (h : (numR l a).1 ≠ 0) : (numR l a).1 = 130 ∨ (numR l a).1 = 131 := by
  unfold numR at *
  cases h1 : l[a]? with
  | none => exact .inl rfl
  | some x =>
    rw [h1] at h
    simp only at h ⊢
    by_cases c1 : x.toNat = 45
    rotate_left
    · rw [if_pos c1] at h ⊢
      exact lenE_only h
    rw [if_neg (not_not_intro c1)] at h ⊢
    cases h2 : l[a + 1]? with
    | none => exact .inl rfl
    | some y =>
      rw [h2] at h
      simp only at h ⊢
      by_cases c2 : y.toNat = 48
      · rw [if_pos c2]; exact .inr rfl
      rw [if_neg c2] at h ⊢
      exact lenE_only h
theorem nilE_laid (h : nilE l a = 0) : seg l a (a + 3) = 49 :: crlf ∧ a + 3 ≤ l.length := by
  unfold nilE at h
  by_cases h1 : expE l a 49 = 0
  · rw [if_neg (not_not_intro h1)] at h
    refine ⟨?_, endE_two h⟩
    rw [← seg_app (a := a) (b := a + 1) (by omega) (by omega), expE_seg h1, endE_seg h]
    rfl
  · rw [if_pos h1] at h
    exact absurd h h1
theorem nilE_only (h : nilE l a ≠ 0) : nilE l a = 130 ∨ nilE l a = 131 := by
  unfold nilE at *
  by_cases h1 : expE l a 49 = 0
  · rw [if_neg (not_not_intro h1)] at h ⊢
    exact endE_only h
  · rw [if_pos h1]
    exact expE_only h1
theorem blkE_laid (h : blkE l a tx = 0) : a < (digR tx l a).2.2 ∧ seg l a ((digR tx l a).2.2 + 2 + (digR tx l a).2.1 + 2) = Lib.decDigits (digR tx l a).2.1 ++ (crlf ++ (bl (cutT l ((digR tx l a).2.2 + 2) (digR tx l a).2.1) ++ crlf)) ∧ (cutT l ((digR tx l a).2.2 + 2) (digR tx l a).2.1).size = (digR tx l a).2.1 ∧ (digR tx l a).2.1 ≤ tx ∧ (digR tx l a).2.2 + 2 + (digR tx l a).2.1 + 2 ≤ l.length := by
  unfold blkE at h
  by_cases h1 : lenE tx l a = 0
  rotate_left
  · rw [if_pos h1] at h
    exact absurd h h1
  rw [if_neg (not_not_intro h1)] at h
  obtain ⟨g1, g2, g3, g4⟩ := lenE_laid h1
  obtain ⟨t1, t2, t3⟩ := textE_laid h
  refine ⟨g1, ?_, t2, g3, t3⟩
  rw [← seg_app (a := a) (b := (digR tx l a).2.2 + 2) (by omega) (by omega), g2, t1]
  simp
theorem blkE_only (h : blkE l a tx ≠ 0) : blkE l a tx = 130 ∨ blkE l a tx = 131 := by
  unfold blkE at *
  by_cases h1 : lenE tx l a = 0
  rotate_left
  · rw [if_pos h1]
    exact lenE_only h1
  rw [if_neg (not_not_intro h1)] at h ⊢
  exact textE_only h
/-- What is taken as a reply. -/
def LaidD (l : List UInt8) (a tx it : Nat) (d : Int) (D : DR) : Prop := seg l a D.a = encR D.r ∧ a < D.a ∧ D.a ≤ l.length ∧ fineF D.r d = true ∧ D.tx + txN D.r = tx ∧ D.it + itN D.r = it
/-- What is taken behind a list's sign. -/
def LaidB (l : List UInt8) (a tx it : Nat) (d : Int) (D : DR) : Prop := 42 :: seg l a D.a = encR D.r ∧ a < D.a ∧ D.a ≤ l.length ∧ fineF D.r d = true ∧ D.tx + txN D.r = tx ∧ D.it + itN D.r = it
theorem itemsS_laid {rep : List UInt8 → Nat → Nat → Nat → DR} {d : Int} (HR : ∀ l a tx it, (rep l a tx it).e = 0 → LaidD l a tx it d (rep l a tx it)) : ∀ (n : Nat) (l : List UInt8) (a tx it : Nat) (acc rs : List Rp) (p tx' it' : Nat), itemsS rep n l a tx it acc = (0, rs, p, tx', it') → a ≤ l.length → ∃ rs', rs = acc ++ rs' ∧ rs'.length = n ∧ seg l a p = encL rs' ∧ a ≤ p ∧ p ≤ l.length ∧ fineL rs' d = true ∧ tx' + txNL rs' = tx ∧ it' + itNL rs' = it
  | 0, l, a, tx, it, acc, rs, p, tx', it', h, ha => by
    rw [itemsS] at h
    simp only [Prod.mk.injEq, true_and] at h
    obtain ⟨rfl, rfl, rfl, rfl⟩ := h
    exact ⟨[], by simp, rfl, by simp [seg_self, encL], Nat.le_refl _, ha, rfl, by simp [txNL], by simp [itNL]⟩
  | n + 1, l, a, tx, it, acc, rs, p, tx', it', h, ha => by
    rw [itemsS] at h
    by_cases h1 : (rep l a tx it).e = 0
    rotate_left
    · rw [if_pos h1] at h
      exact absurd (congrArg Prod.fst h) h1
    rw [if_neg (not_not_intro h1)] at h
    obtain ⟨g1, g2, g3, g4, g5, g6⟩ := HR l a tx it h1
    generalize rep l a tx it = D at *
    obtain ⟨rs', e1, e2, e3, e4, e5, e6, e7, e8⟩ := itemsS_laid HR n l _ _ _ _ rs p tx' it' h g3
    refine ⟨D.r :: rs', by rw [e1]; simp, by rw [List.length_cons, e2], ?_, by omega, e5, by rw [fineL, g4, e6]; rfl, by rw [txNL]; omega, by rw [itNL]; omega⟩
    rw [encL, ← e3, ← g1, seg_app (by omega) (by omega)]
theorem listS_laid {rep : List UInt8 → Nat → Nat → Nat → DR} {d : Int} (hd : 0 ≤ d) (HR : ∀ l a tx it, (rep l a tx it).e = 0 → LaidD l a tx it d (rep l a tx it)) (l : List UInt8) (a tx it : Nat) (h : (listS rep l a tx it).e = 0) : LaidB l a tx it (d + 1) (listS rep l a tx it) := by
  unfold listS at *
  by_cases h1 : lenE it l a = 0
  rotate_left
  · rw [if_pos h1] at h
    exact absurd h h1
  rw [if_neg (not_not_intro h1)] at h ⊢
  obtain ⟨g1, g2, g3, g4⟩ := lenE_laid h1
  generalize (digR it l a).2.1 = n at *
  generalize (digR it l a).2.2 = q at *
  obtain ⟨R, hR⟩ : ∃ R, itemsS rep n l (q + 2) tx (it - n) [] = R := ⟨_, rfl⟩
  rw [hR] at h ⊢
  by_cases h2 : R.1 = 0
  rotate_left
  · rw [if_pos h2] at h
    exact absurd h h2
  rw [if_neg (not_not_intro h2)]
  obtain ⟨z, rs, p, tx', it'⟩ := R
  simp only at h2
  subst h2
  obtain ⟨rs', e1, e2, e3, e4, e5, e6, e7, e8⟩ := itemsS_laid HR n l _ _ _ _ rs p tx' it' hR g4
  rw [List.nil_append] at e1
  subst e1
  refine ⟨?_, by show a < p; omega, e5, ?_, ?_, ?_⟩
  · show 42 :: seg l a p = encR (.mk 5 0 noT rs)
    rw [← seg_app (a := a) (b := q + 2) (by omega) e4, g2, e3, encR, if_neg (by decide), if_neg (by decide), if_neg (by decide), if_neg (by decide), if_pos rfl, e2, itL_nat]
    simp [layL]
  · show fineF (.mk 5 0 noT rs) (d + 1) = true
    rw [fineF, if_neg (by decide), if_neg (by decide), if_neg (by decide), if_neg (by decide), if_pos rfl, show d + 1 - 1 = d by omega, e6, decide_eq_false (show ¬ d + 1 = 0 by omega)]
    rfl
  · show tx' + txN (.mk 5 0 noT rs) = tx
    rw [txN]
    show tx' + (0 + _) = _
    omega
  · show it' + itN (.mk 5 0 noT rs) = it
    rw [itN]
    omega
theorem repS_laid {lst : Option (List UInt8 → Nat → Nat → Nat → DR)} {d : Int} (HL : ∀ f, lst = some f → ∀ l a tx it, (f l a tx it).e = 0 → LaidB l a tx it d (f l a tx it)) (l : List UInt8) (a tx it : Nat) (h : (repS lst l a tx it).e = 0) : LaidD l a tx it d (repS lst l a tx it) := by
  unfold repS at *
  cases h1 : l[a]? with
  | none => rw [h1] at h; exact absurd h (show (130 : Int) ≠ 0 by decide)
  | some x =>
    rw [h1] at h
    simp only at h ⊢
    have hs : ∀ q, a + 1 ≤ q → seg l a q = x :: seg l (a + 1) q := fun q hq => by
      rw [← seg_app (a := a) (b := a + 1) (by omega) hq, seg_snoc (a := a) (b := a) (Nat.le_refl _) h1, seg_self]
      rfl
    by_cases c1 : x.toNat = 43
    · rw [if_pos c1] at h ⊢
      obtain ⟨t1, t2, t3, t4, t5⟩ := lineE_laid (show lineE tx l (a + 1) = 0 from h)
      have hx : x = 43 := UInt8.toNat_inj.1 (show x.toNat = (43 : UInt8).toNat from c1)
      refine ⟨?_, by show a < a + 1 + _ + 2; omega, t5, ?_, ?_, ?_⟩
      · show seg l a (a + 1 + _ + 2) = encR (.mk 1 0 _ [])
        rw [hs _ (by omega), t1, encR, if_pos rfl, hx]
        rfl
      · show fineF (.mk 1 0 _ []) d = true
        rw [fineF, if_neg (by decide), if_pos (.inl rfl), t2]
        rfl
      · show tx - _ + txN (.mk 1 0 _ []) = tx
        rw [txN, txNL, t3]
        omega
      · show it + itN (.mk 1 0 _ []) = it
        rw [itN, itNL]
        rfl
    rw [if_neg c1] at h ⊢
    by_cases c2 : x.toNat = 45
    · rw [if_pos c2] at h ⊢
      obtain ⟨t1, t2, t3, t4, t5⟩ := lineE_laid (show lineE tx l (a + 1) = 0 from h)
      have hx : x = 45 := UInt8.toNat_inj.1 (show x.toNat = (45 : UInt8).toNat from c2)
      refine ⟨?_, by show a < a + 1 + _ + 2; omega, t5, ?_, ?_, ?_⟩
      · show seg l a (a + 1 + _ + 2) = encR (.mk 2 0 _ [])
        rw [hs _ (by omega), t1, encR, if_neg (by decide), if_pos rfl, hx]
        rfl
      · show fineF (.mk 2 0 _ []) d = true
        rw [fineF, if_neg (by decide), if_pos (.inr rfl), t2]
        rfl
      · show tx - _ + txN (.mk 2 0 _ []) = tx
        rw [txN, txNL, t3]
        omega
      · show it + itN (.mk 2 0 _ []) = it
        rw [itN, itNL]
        rfl
    rw [if_neg c2] at h ⊢
    by_cases c3 : x.toNat = 58
    · rw [if_pos c3] at h ⊢
      obtain ⟨t1, t2, t3⟩ := numR_laid (show (numR l (a + 1)).1 = 0 from h)
      have hx : x = 58 := UInt8.toNat_inj.1 (show x.toNat = (58 : UInt8).toNat from c3)
      refine ⟨?_, by show a < (numR l (a + 1)).2.2; omega, t3, ?_, ?_, ?_⟩
      · show seg l a (numR l (a + 1)).2.2 = encR (.mk 3 _ noT [])
        rw [hs _ (by omega), t1, encR, if_neg (by decide), if_neg (by decide), if_pos rfl, hx]
        rfl
      · show fineF (.mk 3 _ noT []) d = true
        rw [fineF, if_neg (by decide), if_neg (by decide), if_pos rfl]
        rfl
      · show tx + txN (.mk 3 _ noT []) = tx
        rw [txN, txNL]
        rfl
      · show it + itN (.mk 3 _ noT []) = it
        rw [itN, itNL]
        rfl
    rw [if_neg c3] at h ⊢
    by_cases c4 : x.toNat = 36
    · rw [if_pos c4] at h ⊢
      have hx : x = 36 := UInt8.toNat_inj.1 (show x.toNat = (36 : UInt8).toNat from c4)
      cases h2 : l[a + 1]? with
      | none => rw [h2] at h; exact absurd h (show (130 : Int) ≠ 0 by decide)
      | some y =>
        rw [h2] at h
        simp only at h ⊢
        by_cases c5 : y.toNat = 45
        rotate_left
        · rw [if_pos c5] at h ⊢
          obtain ⟨t1, t2, t3, t4, t5⟩ := blkE_laid (show blkE l (a + 1) tx = 0 from h)
          refine ⟨?_, by show a < _ + 2 + _ + 2; omega, t5, ?_, ?_, ?_⟩
          · show seg l a (_ + 2 + _ + 2) = encR (.mk 4 0 _ [])
            rw [hs _ (by omega), t2, encR, if_neg (by decide), if_neg (by decide), if_neg (by decide), if_pos rfl, hx, t3, itL_nat]
            simp [layL]
          · show fineF (.mk 4 0 _ []) d = true
            rw [fineF, if_neg (by decide), if_neg (by decide), if_neg (by decide), if_pos rfl]
            rfl
          · show tx - _ + txN (.mk 4 0 _ []) = tx
            rw [txN, txNL, t3]
            omega
          · show it + itN (.mk 4 0 _ []) = it
            rw [itN, itNL]
            rfl
        rw [if_neg (not_not_intro c5)] at h ⊢
        obtain ⟨t1, t2⟩ := nilE_laid (show nilE l (a + 2) = 0 from h)
        have hy : y = 45 := UInt8.toNat_inj.1 (show y.toNat = (45 : UInt8).toNat from c5)
        refine ⟨?_, by show a < a + 5; omega, t2, ?_, ?_, ?_⟩
        · show seg l a (a + 5) = encR noR
          rw [hs _ (by omega), ← seg_app (a := a + 1) (b := a + 2) (by omega) (by omega), seg_snoc (a := a + 1) (b := a + 1) (Nat.le_refl _) h2, seg_self, t1, hx, hy]
          decide
        · show fineF noR d = true
          rw [fineF, if_pos rfl]
          rfl
        · show tx + txN noR = tx
          rw [txN, txNL]
          rfl
        · show it + itN noR = it
          rw [itN, itNL]
          rfl
    rw [if_neg c4] at h ⊢
    by_cases c5 : x.toNat = 42
    · rw [if_pos c5] at h ⊢
      have hx : x = 42 := UInt8.toNat_inj.1 (show x.toNat = (42 : UInt8).toNat from c5)
      cases lst with
      | none => exact absurd h (show (131 : Int) ≠ 0 by decide)
      | some f =>
        simp only at h ⊢
        obtain ⟨g1, g2, g3, g4, g5, g6⟩ := HL f rfl l (a + 1) tx it h
        exact ⟨by rw [hs _ (by omega), ← g1, hx], by omega, g3, g4, g5, g6⟩
    rw [if_neg c5] at h
    exact absurd h (show (131 : Int) ≠ 0 by decide)
theorem repF_laid : ∀ (d : Nat) (l : List UInt8) (a tx it : Nat), (repF d l a tx it).e = 0 → LaidD l a tx it d (repF d l a tx it)
  | 0 => repS_laid (fun f e => by cases e)
  | d + 1 => repS_laid (fun f e => by
      cases e
      exact listS_laid (by omega) (repF_laid d))
/-- What is read as a reply is laid in the bytes that were taken. -/
theorem decode_laid (h : (decR l).e = 0) : chkR (decR l).r = 0 ∧ 1 ≤ (decR l).a ∧ (decR l).a ≤ l.length ∧ encR (decR l).r = l.take (decR l).a := by
  have h0 : (repF 100 l 0 1048576 65536).e = 0 := by
    unfold decR at h
    by_cases h1 : (repF 100 l 0 1048576 65536).e = 0
    · exact h1
    · rw [if_pos h1] at h
      exact absurd h h1
  have hd : decR l = repF 100 l 0 1048576 65536 := by
    unfold decR
    rw [if_neg (not_not_intro h0)]
  obtain ⟨g1, g2, g3, g4, g5, g6⟩ := repF_laid 100 l 0 1048576 65536 h0
  rw [hd]
  exact ⟨chkR_yes g4 (by omega) (by omega), g2, g3, by rw [← g1, seg_zero]⟩
end
end Go.Proofs.YtglicojojpggmaaDoor
namespace Go.Proofs.YtglicojojpggmaaDoor
open Go Go.RowKit
section
variable {l rest : List UInt8} {a b c k most tx it : Nat} {x : UInt8}
theorem lnF_run : ∀ (s : List UInt8) (rest : List UInt8) (p f tx a : Nat), l.drop p = s ++ 13 :: rest → lineB s = true → a ≤ p → (p - a) + s.length ≤ tx → s.length < f → lnF f tx a l p = (0, p + s.length)
  | [], rest, p, 0, _, _, _, _, _, _, hf => absurd hf (by simp)
  | [], rest, p, f + 1, tx, a, h, _, _, _, _ => by
    rw [lnF, drop_at h]
    rfl
  | y :: s, rest, p, 0, _, _, _, _, _, _, hf => absurd hf (by simp)
  | y :: s, rest, p, f + 1, tx, a, h, hb, ha, hx, hf => by
    have h1 : l.drop p = y :: (s ++ 13 :: rest) := h
    unfold lineB at hb
    rw [List.all_cons, Bool.and_eq_true] at hb
    have hy : y.toNat ≠ 13 ∧ y.toNat ≠ 10 := by simpa [plainB] using hb.1
    rw [List.length_cons] at hx hf ⊢
    rw [lnF, drop_at h1]
    simp only
    rw [if_neg hy.1, if_neg hy.2, if_neg (by omega), lnF_run s rest (p + 1) f tx a (drop_next h1) hb.2 (by omega) (by omega) (by omega)]
    rw [Nat.add_assoc, Nat.add_comm 1]
theorem lineE_run {t : ByteArray} (h : l.drop a = bl t ++ (crlf ++ rest)) (hb : lineB (bl t) = true) (ht : t.size ≤ tx) : lineE tx l a = 0 ∧ (lnR tx l a).2 = a + t.size ∧ cutT l a t.size = t := by
  have hl := congrArg List.length h
  have hs := bl_len t
  rw [List.length_drop, List.length_append, hs, List.length_append] at hl
  have hc : crlf.length = 2 := rfl
  have h1 := lnF_run (bl t) (10 :: rest) a (l.length + 1 - a) tx a h hb (Nat.le_refl _) (by omega) (by omega)
  rw [hs] at h1
  have h2 : lnR tx l a = (0, a + t.size) := h1
  have h3 := textE_run h
  refine ⟨?_, by rw [h2], h3.2⟩
  unfold lineE
  rw [h2, if_neg (by simp)]
  simp only
  rw [show a + t.size - a = t.size by omega]
  exact h3.1
theorem numR_run {n : Int} (h : l.drop a = itL n ++ (crlf ++ rest)) (h0 : -9223372036854775808 ≤ n) (h1 : n ≤ 9223372036854775807) : numR l a = (0, n, a + (itL n).length + 2) := by
  by_cases hn : n < 0
  · have e : itL n = 45 :: Lib.decDigits n.natAbs := by unfold itL Lib.itoa; rw [if_pos hn]
    rw [e] at h ⊢
    have g1 : l.drop a = 45 :: (Lib.decDigits n.natAbs ++ (crlf ++ rest)) := h
    have g2 := drop_next g1
    obtain ⟨x, r, hx, hx1, _⟩ := dec_head n.natAbs (by omega)
    have g3 := lenE_run (most := 9223372036854775808) (by omega) g2
    have g4 : l[a + 1]? = some x := by
      rw [hx] at g2
      exact drop_at g2
    unfold numR
    rw [drop_at g1]
    simp only
    rw [if_neg (by decide), g4]
    simp only
    rw [if_neg (by omega), g3.1, g3.2]
    simp only [List.length_cons, Prod.mk.injEq, true_and]
    omega
  · obtain ⟨m, rfl⟩ : ∃ m : Nat, n = m := ⟨n.toNat, by omega⟩
    rw [itL_nat] at h ⊢
    obtain ⟨x, r, hx, hx1, hx2⟩ := dec_head0 m
    have g3 := lenE_run (most := 9223372036854775807) (by omega) h
    have g4 : l[a]? = some x := by
      rw [hx] at h
      exact drop_at h
    unfold numR
    rw [g4]
    simp only
    rw [if_pos (by omega), g3.1, g3.2]
theorem nil_of {t : ByteArray} (h : t.size = 0) : t = noT := by
  apply bl_inj
  have h2 := bl_len t
  rw [h] at h2
  rw [List.eq_nil_of_length_eq_zero h2]
mutual
theorem fitA {P : Nat → Prop} {W : World} : ∀ (r : Rp) (b o : Nat), RpA P W r b o → fitR r
  | .mk k n t l, b, o, h => by
    rw [RpA] at h
    obtain ⟨A, c, h0, h1, h2, h3, h4, h5, h6, h7⟩ := h
    rw [fitR]
    exact ⟨h4, fitLs l A h7⟩
theorem fitLs {P : Nat → Prop} {W : World} : ∀ (l : List Rp) (A : Option Addr), RpL P W l A → fitL l
  | [], _, _ => by rw [fitL]; trivial
  | r :: l, A, h => by
    rw [RpL] at h
    obtain ⟨b, o, hA, hb, hp, ha, hr⟩ := h
    rw [fitL]
    exact ⟨fitA r b o ha, fitLs l _ hr⟩
end
theorem fitK {P : Nat → Prop} {W : World} {r : Rp} {A : Option Addr} {c : Nat} (h : RpK P W r A c) : fitR r := by
  cases r with
  | mk k n t l =>
    rw [fitR]
    exact ⟨h.1, fitLs l A h.2.2.2⟩
/-- A text with its length ahead. -/
theorem blk_at {s : ByteArray} (h : l.drop a = Lib.decDigits s.size ++ (crlf ++ (bl s ++ (crlf ++ rest)))) (hs : s.size ≤ tx) :
    blkE l a tx = 0 ∧ digR tx l a = (0, s.size, a + (Lib.decDigits s.size).length) ∧ cutT l (a + (Lib.decDigits s.size).length + 2) s.size = s := by
  have h3 := lenE_run hs h
  have h5 := drop_app (drop_app h)
  have hc : crlf.length = 2 := rfl
  rw [hc] at h5
  have h6 := textE_run h5
  refine ⟨?_, h3.2, h6.2⟩
  unfold blkE
  rw [h3.1, if_neg (by simp), h3.2]
  exact h6.1
mutual
theorem repF_back : ∀ (r : Rp) (d : Nat) (l rest : List UInt8) (a tx it : Nat), l.drop a = encR r ++ rest → fineF r d = true → itN r ≤ it → txN r ≤ tx → fitR r → repF d l a tx it = ⟨0, r, a + (encR r).length, tx - txN r, it - itN r⟩
  | .mk k n t ks, d, l, rest, a, tx, it, h, hf, hi, ht, hg => by
    have hrf : ∀ lst, (d = 0 → lst = none) → (∀ d', d = d' + 1 → lst = some (listS (repF d'))) → repF d l a tx it = repS lst l a tx it := by
      intro lst g1 g2
      cases d with
      | zero => rw [g1 rfl]; rfl
      | succ d' => rw [g2 d' rfl]; rfl
    obtain ⟨lst, hl1, hl2⟩ : ∃ lst, (d = 0 → lst = none) ∧ (∀ d', d = d' + 1 → lst = some (listS (repF d'))) := by
      cases d with
      | zero => exact ⟨none, fun _ => rfl, fun d' e => absurd e (by omega)⟩
      | succ d' => exact ⟨some (listS (repF d')), fun e => absurd e (by omega), fun d2 e => by rw [show d2 = d' by omega]⟩
    rw [hrf lst hl1 hl2]
    rw [encR] at h ⊢
    rw [itN] at hi ⊢
    rw [txN] at ht ⊢
    rw [fineF] at hf
    rw [fitR] at hg
    have hc : crlf.length = 2 := rfl
    by_cases k0 : k = 0
    · subst k0
      rw [if_pos rfl] at hf
      simp only [Bool.and_eq_true, decide_eq_true_eq] at hf
      obtain ⟨rfl, hs, hz⟩ := hf
      obtain rfl := List.eq_nil_of_length_eq_zero hz
      obtain rfl := nil_of hs
      rw [if_neg (by decide), if_neg (by decide), if_neg (by decide), if_neg (by decide), if_neg (by decide)] at h ⊢
      have h1 : l.drop a = 36 :: 45 :: 49 :: 13 :: 10 :: rest := h
      have h2 := drop_next h1
      have h3 := drop_next h2
      have h4 := drop_next h3
      unfold repS
      rw [drop_at h1]
      simp only
      rw [if_neg (by decide), if_neg (by decide), if_neg (by decide), if_pos (by decide), drop_at h2]
      simp only
      rw [if_neg (by decide)]
      have hn : nilE l (a + 2) = 0 := by
        unfold nilE expE
        rw [drop_at h3, if_neg (by simp)]
        exact endE_run (rest := rest) h4
      rw [hn]
      rfl
    rw [if_neg k0] at hf
    by_cases k1 : k = 1
    · subst k1
      rw [if_pos (.inl rfl)] at hf
      simp only [Bool.and_eq_true, decide_eq_true_eq] at hf
      obtain ⟨rfl, hs, hz⟩ := hf
      obtain rfl := List.eq_nil_of_length_eq_zero hz
      rw [txNL] at ht ⊢
      rw [if_pos rfl] at h ⊢
      have h1 : l.drop a = 43 :: (bl t ++ (crlf ++ rest)) := by rw [h]; simp [layL]
      obtain ⟨g1, g2, g3⟩ := lineE_run (tx := tx) (drop_next h1) hs (by omega)
      unfold repS
      rw [drop_at h1]
      simp only
      rw [if_pos (by decide), g1, g2, show a + 1 + t.size - (a + 1) = t.size by omega, g3, layL_len, bl_len]
      simp only [DR.mk.injEq, true_and, itNL, List.length_nil]
      omega
    by_cases k2 : k = 2
    · subst k2
      rw [if_pos (.inr rfl)] at hf
      simp only [Bool.and_eq_true, decide_eq_true_eq] at hf
      obtain ⟨rfl, hs, hz⟩ := hf
      obtain rfl := List.eq_nil_of_length_eq_zero hz
      rw [txNL] at ht ⊢
      rw [if_neg (by decide), if_pos rfl] at h ⊢
      have h1 : l.drop a = 45 :: (bl t ++ (crlf ++ rest)) := by rw [h]; simp [layL]
      obtain ⟨g1, g2, g3⟩ := lineE_run (tx := tx) (drop_next h1) hs (by omega)
      unfold repS
      rw [drop_at h1]
      simp only
      rw [if_neg (by decide), if_pos (by decide), g1, g2, show a + 1 + t.size - (a + 1) = t.size by omega, g3, layL_len, bl_len]
      simp only [DR.mk.injEq, true_and, itNL, List.length_nil]
      omega
    rw [if_neg (fun e => e.elim k1 k2)] at hf
    rw [if_neg k1, if_neg k2] at h ⊢
    by_cases k3 : k = 3
    · subst k3
      rw [if_pos rfl] at hf
      simp only [Bool.and_eq_true, decide_eq_true_eq] at hf
      obtain ⟨hs, hz⟩ := hf
      obtain rfl := List.eq_nil_of_length_eq_zero hz
      obtain rfl := nil_of hs
      rw [if_pos rfl] at h ⊢
      have h1 : l.drop a = 58 :: (itL n ++ (crlf ++ rest)) := by rw [h]; simp [layL]
      have g1 := numR_run (drop_next h1) hg.1.1 hg.1.2.1
      unfold repS
      rw [drop_at h1]
      simp only
      rw [if_neg (by decide), if_neg (by decide), if_pos (by decide), g1, layL_len]
      simp only [DR.mk.injEq, true_and, itNL, txNL, List.length_nil]
      refine ⟨by omega, ?_, by omega⟩
      show tx = tx - (0 + 0)
      omega
    rw [if_neg k3] at hf h ⊢
    by_cases k4 : k = 4
    · subst k4
      rw [if_pos rfl] at hf
      simp only [Bool.and_eq_true, decide_eq_true_eq] at hf
      obtain ⟨rfl, hz⟩ := hf
      obtain rfl := List.eq_nil_of_length_eq_zero hz
      rw [txNL] at ht ⊢
      rw [if_pos rfl, itL_nat] at h ⊢
      have h1 : l.drop a = 36 :: (Lib.decDigits t.size ++ (crlf ++ (bl t ++ (crlf ++ rest)))) := by rw [h]; simp [layL]
      have h2 := drop_next h1
      obtain ⟨g1, g2, g3⟩ := blk_at (tx := tx) h2 (by omega)
      obtain ⟨x, r, hx, hx1, hx2⟩ := dec_head0 t.size
      have g4 : l[a + 1]? = some x := by
        rw [hx] at h2
        exact drop_at h2
      unfold repS
      rw [drop_at h1]
      simp only
      rw [if_neg (by decide), if_neg (by decide), if_neg (by decide), if_pos (by decide), g4]
      simp only
      rw [if_pos (by omega), g1, g2]
      simp only
      rw [g3]
      simp only [DR.mk.injEq, true_and, itNL, List.length_nil, List.length_append, layL_len, bl_len, hc]
      omega
    rw [if_neg k4] at hf h ⊢
    by_cases k5 : k = 5
    rotate_left
    · rw [if_neg k5] at hf
      cases hf
    subst k5
    rw [if_pos rfl] at hf h ⊢
    simp only [Bool.and_eq_true, decide_eq_true_eq, Bool.not_eq_true', decide_eq_false_iff_not] at hf
    obtain ⟨rfl, hs, hd, hfl⟩ := hf
    obtain rfl := nil_of hs
    obtain ⟨d', rfl⟩ : ∃ d', d = d' + 1 := ⟨d - 1, by omega⟩
    rw [hl2 d' rfl]
    rw [show ((d' + 1 : Nat) : Int) - 1 = (d' : Int) by omega] at hfl
    rw [itL_nat] at h ⊢
    have h1 : l.drop a = 42 :: (Lib.decDigits ks.length ++ (crlf ++ (encL ks ++ rest))) := by rw [h]; simp [layL]
    have h2 := drop_next h1
    have g1 := lenE_run (most := it) (by omega) h2
    have h3 := drop_app (drop_app h2)
    rw [hc] at h3
    have ht2 : txNL ks ≤ tx := by have : (noT : ByteArray).size = 0 := rfl; omega
    have g2 := itemsS_back ks d' l rest _ tx (it - ks.length) [] h3 hfl (by omega) ht2 hg.2
    unfold repS
    rw [drop_at h1]
    simp only
    rw [if_neg (by decide), if_neg (by decide), if_neg (by decide), if_neg (by decide), if_pos (by decide)]
    unfold listS
    rw [g1.1, if_neg (by simp), g1.2]
    simp only
    rw [g2, if_neg (by simp)]
    simp only [List.nil_append, DR.mk.injEq, true_and, List.length_append, layL_len]
    have hz : (noT : ByteArray).size = 0 := rfl
    omega
theorem itemsS_back : ∀ (ks : List Rp) (d : Nat) (l rest : List UInt8) (a tx it : Nat) (acc : List Rp), l.drop a = encL ks ++ rest → fineL ks d = true → itNL ks ≤ it → txNL ks ≤ tx → fitL ks → itemsS (repF d) ks.length l a tx it acc = (0, acc ++ ks, a + (encL ks).length, tx - txNL ks, it - itNL ks)
  | [], d, l, rest, a, tx, it, acc, h, hf, hi, ht, hg => by simp [itemsS, encL, txNL, itNL]
  | r :: ks, d, l, rest, a, tx, it, acc, h, hf, hi, ht, hg => by
    rw [encL, List.append_assoc] at h
    rw [fineL, Bool.and_eq_true] at hf
    rw [itNL] at hi
    rw [txNL] at ht
    rw [fitL] at hg
    have g1 := repF_back r d l _ a tx it h hf.1 (by omega) (by omega) hg.1
    have h2 := drop_app h
    have g2 := itemsS_back ks d l rest _ (tx - txN r) (it - itN r) (acc ++ [r]) h2 hf.2 (by omega) (by omega) hg.2
    rw [List.length_cons, itemsS, g1, if_neg (by simp)]
    simp only
    rw [g2, encL, txNL, itNL, List.length_append]
    simp only [List.append_assoc, List.cons_append, List.nil_append, Prod.mk.injEq, true_and]
    omega
end
theorem chk_fine {r : Rp} (h : chkR r = 0) : fineF r 100 = true ∧ itN r ≤ 65536 ∧ txN r ≤ 1048576 := by
  by_cases h1 : fineF r 100 = true ∧ itN r ≤ 65536 ∧ txN r ≤ 1048576
  · exact h1
  · rw [chkR_no h1] at h
    cases h
/-- A reply is read as it was laid, whatever stands behind. -/
theorem decode_back {r : Rp} (hE : chkR r = 0) (hg : fitR r) (m : List UInt8) : (decR (encR r ++ m)).e = 0 ∧ (decR (encR r ++ m)).r = r ∧ (decR (encR r ++ m)).a = (encR r).length := by
  obtain ⟨h1, h2, h3⟩ := chk_fine hE
  have h := repF_back r 100 (encR r ++ m) m 0 1048576 65536 rfl h1 h2 h3 hg
  unfold decR
  rw [h, if_neg (by simp)]
  exact ⟨rfl, rfl, by simp⟩
/-- A beginning of a reply begins well. -/
theorem decode_cut {r : Rp} (hE : chkR r = 0) (hg : fitR r) (k : Nat) (hk : k < (encR r).length) : (decR ((encR r).take k)).e = 130 := by
  by_cases h : (decR ((encR r).take k)).e = 130
  · exact h
  · have hm := decR_mono (l := (encR r).take k) ((encR r).drop k)
    rw [List.take_append_drop] at hm
    have h2 := decode_back hE hg []
    rw [List.append_nil] at h2
    have h3 : (decR ((encR r).take k)).e = 0 := by rw [← hm.1 h]; exact h2.1
    have h4 := decode_laid h3
    rw [hm.2 h3] at h2
    rw [h2.2.2, List.length_take] at h4
    omega
/-- No reply's bytes begin those of another one. -/
theorem enc_begin {r s : Rp} (hr : chkR r = 0) (hs : chkR s = 0) (fr : fitR r) (fs : fitR s) (m : List UInt8) (h : encR r = encR s ++ m) : r = s := by
  have h1 := decode_back hr fr []
  have h2 := decode_back hs fs m
  rw [List.append_nil, h] at h1
  exact h1.2.1.symm.trans h2.2.1
end
end Go.Proofs.YtglicojojpggmaaDoor
namespace Go.Proofs.YtglicojojpggmaaDoor
open Go Go.RowKit
theorem itemsS_only {rep : List UInt8 → Nat → Nat → Nat → DR} (HR : ∀ l a tx it, (rep l a tx it).e = 0 ∨ (rep l a tx it).e = 130 ∨ (rep l a tx it).e = 131) : ∀ (n : Nat) (l : List UInt8) (a tx it : Nat) (acc : List Rp), (itemsS rep n l a tx it acc).1 = 0 ∨ (itemsS rep n l a tx it acc).1 = 130 ∨ (itemsS rep n l a tx it acc).1 = 131
  | 0, _, _, _, _, _ => .inl rfl
  | n + 1, l, a, tx, it, acc => by
    rw [itemsS]
    by_cases h1 : (rep l a tx it).e = 0
    · rw [if_neg (not_not_intro h1)]
      exact itemsS_only HR n l _ _ _ _
    · rw [if_pos h1]
      rcases HR l a tx it with h2 | h2
      · exact absurd h2 h1
      · exact .inr h2
theorem or_only {e : Int} (h : e ≠ 0 → e = 130 ∨ e = 131) : e = 0 ∨ e = 130 ∨ e = 131 := by
  by_cases h1 : e = 0
  · exact .inl h1
  · exact .inr (h h1)
theorem repS_only {lst : Option (List UInt8 → Nat → Nat → Nat → DR)} (HL : ∀ f, lst = some f → ∀ l a tx it, (f l a tx it).e = 0 ∨ (f l a tx it).e = 130 ∨ (f l a tx it).e = 131) (l : List UInt8) (a tx it : Nat) : (repS lst l a tx it).e = 0 ∨ (repS lst l a tx it).e = 130 ∨ (repS lst l a tx it).e = 131 := by
  unfold repS
  cases h1 : l[a]? with
  | none => exact .inr (.inl rfl)
  | some x =>
    simp only
    by_cases c1 : x.toNat = 43
    · rw [if_pos c1]; exact or_only lineE_only
    rw [if_neg c1]
    by_cases c2 : x.toNat = 45
    · rw [if_pos c2]; exact or_only lineE_only
    rw [if_neg c2]
    by_cases c3 : x.toNat = 58
    · rw [if_pos c3]; exact or_only numR_only
    rw [if_neg c3]
    by_cases c4 : x.toNat = 36
    · rw [if_pos c4]
      cases h2 : l[a + 1]? with
      | none => exact .inr (.inl rfl)
      | some y =>
        simp only
        split
        · exact or_only blkE_only
        · exact or_only nilE_only
    rw [if_neg c4]
    by_cases c5 : x.toNat = 42
    · rw [if_pos c5]
      cases lst with
      | none => exact .inr (.inr rfl)
      | some f => exact HL f rfl l (a + 1) tx it
    rw [if_neg c5]
    exact .inr (.inr rfl)
theorem repF_only : ∀ (d : Nat) (l : List UInt8) (a tx it : Nat), (repF d l a tx it).e = 0 ∨ (repF d l a tx it).e = 130 ∨ (repF d l a tx it).e = 131
  | 0 => repS_only (fun f e => by cases e)
  | d + 1 => repS_only (fun f e l a tx it => by
      cases e
      unfold listS
      by_cases h1 : lenE it l a = 0
      rotate_left
      · rw [if_pos h1]
        exact .inr (lenE_only h1)
      rw [if_neg (not_not_intro h1)]
      split
      · exact itemsS_only (repF_only d) _ _ _ _ _ _
      · exact .inl rfl)
theorem decode_only {l : List UInt8} (h : (decR l).e ≠ 0) : ((decR l).e = 130 ∨ (decR l).e = 131) ∧ (decR l).a = 0 := by
  have h0 := repF_only 100 l 0 1048576 65536
  unfold decR at *
  by_cases h1 : (repF 100 l 0 1048576 65536).e = 0
  · rw [if_neg (not_not_intro h1)] at h
    exact absurd h1 h
  · rw [if_pos h1] at h ⊢
    refine ⟨?_, rfl⟩
    rcases h0 with h2 | h2
    · exact absurd h2 h1
    · exact h2
theorem szS_flat : ∀ (ls : List ByteArray), szS ls ≤ (ls.flatMap oneL).length
  | [] => by simp [szS]
  | s :: ls => by
    have := szS_flat ls
    have h1 := dec_pos s.size
    have h2 := bl_len s
    have h3 : crlf.length = 2 := rfl
    have h4 : (oneL s).length = (Lib.decDigits s.size).length + 3 + ((bl s).length + crlf.length) := by
      unfold oneL
      rw [List.length_append, layL_len, itL_nat, List.length_append]
    rw [szS, List.flatMap_cons, List.length_append]
    omega
theorem szS_req (n : Nat) (ls : List ByteArray) : szS ls ≤ (reqL n ls).length := by
  have := szS_flat ls
  unfold reqL
  rw [List.length_append]
  omega
/-- A slice made shorter, in a region that draws. -/
theorem cut_run (A : Option Addr) (n c k : Nat) (hk : k ≤ c) (W : World) : (Instr.sliceAt 25 (.slice A n c) none (some (.int .i64 (k : Int))) none).run Tryd.prog W = .ok (.slice A k c) W := by
  have he : Tryd.prog.elem 25 = 5 := by simp [Program.elem, Tryd.underlying25]
  have hrun := run_slice_h (P := Tryd.prog) W 25 A n c (by rw [he]; exact Tryd.underlying25) .i64 (k : Int) (by omega) (by omega)
  rw [he, sz5] at hrun
  have hz : (if c = 0 then A else Option.map (fun x => x.add 0) A) = A := by
    split
    · rfl
    · cases A <;> simp [add_zero]
  rw [run_sliceAt_slice (h := by rw [he]; exact Tryd.underlying25)]
  rw [hrun]
  simp only [Result.andThen_ok, sliced, Nat.zero_mul, hz, Nat.sub_zero, Int.toNat_natCast]
set_option maxRecDepth 100000 in
/-- The block of an argument is there. -/
theorem arg_lt {W : World} {base n c : Nat} {ad : Addr} (h : Value.okWide Tryd.prog W .any base 25 (.slice (some ad) n c)) : ad.block < W.heap.size := by
  have h1 : Cell.okWide Tryd.prog W .any base 25 (.slice (some ad) n c) := by
    simpa only [Value.okWide, Tryd.underlying25] using h
  simp only [Cell.okWide, Tryd.underlying25, Cell.ok] at h1
  obtain ⟨_, _, _, _, row, cells, hs, _⟩ := h1
  rcases Nat.lt_or_ge ad.block W.heap.size with h2 | h2
  · exact h2
  · simp [World.shape?, Array.getElem?_eq_none h2] at hs
end Go.Proofs.YtglicojojpggmaaDoor
