/- The names of a disk, rising: the iterator's contract. -/
import Derived.Test.YtcfglgejjmapdaaIter
namespace Go.Proofs.Ytcfglgejjmapdaa
open Go Go.RowKit Go.Shelf
attribute [local go_sem] Oper.semAt_some
/-- Blocks of texts stay. -/
def KS (W W' : World) : Prop := ∀ (k : Nat) (x : Array Value) (p : Nat × Nat), W.heap[k]? = some (Obj.cells x 9 p) → W'.heap[k]? = some (Obj.cells x 9 p)
theorem KS.refl (W : World) : KS W W := fun _ _ _ h => h
theorem KS.trans {A B C : World} (h : KS A B) (k : KS B C) : KS A C := fun i x p e => k i x p (h i x p e)
theorem KS.below {W W' : World} (h : Below W.heap.size W W') : KS W W' := fun k x p e => (h.block k (Array.getElem?_eq_some_iff.1 e).1).trans e
theorem KS.alloc {A W : World} (h : KS A W) (o : Obj) : KS A (W.alloc o) := h.trans (.below (below_new W o))
theorem KS.setCell {A W : World} (h : KS A W) {a : Addr} {x : Array Value} {t : TypeId} {p : Nat × Nat} (hb : W.heap[a.block]? = some (.cells x t p)) (ht : t ≠ 9) (v : Value) : KS A (W.setCell a v) := h.trans fun k y q e => by
  refine (RowKit.Below.heap_setCell _ _ _ _ (fun e2 => ?_)).trans e
  rw [e2, hb] at e
  cases e
  exact ht rfl
theorem KS.putObj {W : World} {l : Nat} {o o' : Obj} (h : W.heap[l]? = some o') (hc : o'.isCells = false) : KS W (W.putObj l o) := fun k y q e => by
  refine (World.putObj_heap_other (fun e2 => ?_)).trans e
  rw [e2, h] at e
  cases e
  cases hc
theorem KS.grown {A W W' : World} {row : Option Nat} (h : KS A W) (hg : W.grownBy W' row) (hr : ∀ (r : Nat) (x : Array Value) (p : Nat × Nat), row = some r → W.heap[r]? ≠ some (Obj.cells x 9 p)) : KS A W' := h.trans fun k y q e =>
  (hg.block k (Array.getElem?_eq_some_iff.1 e).1 (fun e2 => hr k y q e2.symm e)).trans e
theorem own_block9 {w : World} {base n : Nat} {A : Option Addr} {c : Nat} {xs : List Value} {m : Nat} (h : w.ownsRow base 9 1 (.slice A n c) m xs) : ∀ b off, A = some ⟨b, off, none⟩ → ∃ (x : Array Value) (p : Nat × Nat), w.heap[b]? = some (Obj.cells x 9 p) := by
  intro b off e
  subst e
  rcases h.2 with ⟨h2, _⟩ | ⟨g, cap, cur, h2, _, h3, _⟩
  · cases h2
  · cases h2
    exact ⟨_, _, h3⟩
theorem rdV_ks {w W : World} {A : Option Addr} {xs : List Value} (h : RdV w A xs) (ht : ∀ b off, A = some ⟨b, off, none⟩ → ∃ (x : Array Value) (p : Nat × Nat), w.heap[b]? = some (Obj.cells x 9 p)) (hk : KS w W) : RdV W A xs := fun h0 => by
  obtain ⟨b, off, rfl, hlt, hc⟩ := h h0
  obtain ⟨x, p, hb⟩ := ht b off rfl
  have hW := hk b x p hb
  exact ⟨b, off, rfl, (Array.getElem?_eq_some_iff.1 hW).1, fun j hj => (World.cell?_of_block (w := w) (a := ⟨b, off + j, none⟩) (hW.trans hb.symm)).trans (hc j hj)⟩
set_option maxHeartbeats 4000000 in
theorem rising_seq {T : Nat → Prop} {D M steps : Nat} {gs : List G} {hb : Bool} {rm : Int} (n E : Nat) (w : World) (hn : 1 ≤ n) (h : DK T D M gs steps hb rm w) (hE : w.heap[E]? = some (.cells #[.pointer (some ⟨D, 0, none⟩)] 28 (0, 0))) (hmax : gs.length ≤ 1000000) :
    SeqG n Try.prog 53 #[.pointer (some ⟨E, 0, none⟩)] (fun g : G => #[.string (gn g)]) KS (fun pre g => pre ++ [g] <+: gs) (fun xs => xs = gs) (gs.length + 1) w := by
  intro y J W hbel hJ hY h0
  have hd := h.below hbel
  have hc1 := cell_of_one ((hbel.block E (Array.getElem?_eq_some_iff.1 hE).1).trans hE)
  have hc2 := hd.cellsD.1
  have HD := Lib.hid hd
  have HJ0 := Lib.hid h0
  have HJ := Lib.hid hJ
  have HY := Lib.hid hY
  have HM := Lib.hid hmax
  clear h0 hE hJ hY hbel h hd
  refine callsIn_of_wp Try.func53 rfl trivial ?_
  simp only [Try.ntmps53, List.size_toArray, List.length_cons, List.length_nil, Nat.reduceAdd, Nat.reduceSub, Array.replicate_succ, Array.replicate_zero, List.push_toArray, List.append_toArray, List.nil_append, List.cons_append]
  gi_wp2_with fail
  refine ⟨trivial, (callsIn_wide.2 (keys_any _ _)).mono ?_⟩
  rintro e w3 ⟨rfl, rfl⟩
  gi_wp2_with fail
  refine ⟨trivial, (callsIn_wide.2 (sorted_dk W HD.out (by have := HM.out; omega))).mono ?_⟩
  rintro e w4 ⟨v, rfl, ho, hb4⟩
  obtain ⟨A, c, rfl, hnc, hA, hcm, hr⟩ := own_rdV ho
  have ht := own_block9 ho
  have hb5 : Below W.heap.size W w4 := (below_new W _).trans (hb4.mono (by omega))
  have HJ4 : Hid (J [] w4) := Lib.hid (HJ.out _ W w4 none HJ0.out ⟨hb5.os, hb5.tape, hb5.output, hb5.size, fun k hk _ => hb5.block k hk⟩ (fun r e => by cases e))
  have HT := Lib.hid ht
  have HR := Lib.hid hr
  have hg6 : gs.length ≤ 1000000 := HM.out
  clear ho hb4 hb5 ht hr hc1 hc2 HJ0 HJ HD
  gi_wp2
  gi_loopw [12] (fun z wr => ∃ k : Nat, z = .int .i64 k ∧ k ≤ gs.length ∧ Hid (J (gs.take k) wr) ∧ Hid (KS w4 wr)) (fun z _ => gs.length - (intOf z).toNat)
  case atStart => exact ⟨0, rfl, Nat.zero_le _, HJ4, Lib.hid (KS.refl _)⟩
  case round =>
    clear HJ4
    obtain ⟨k, rfl, hkl, HJS, HW⟩ := hrel
    by_cases hlt : k < gs.length
    · have hrd := rdV_ks HR.out HT.out HW.out
      obtain ⟨b, off, rfl, hbb, hca⟩ := rdS_at hrd (k := k) (by simpa using hlt)
      obtain ⟨g, hg, hgt⟩ := list_at (ls := gs) hlt
      have hgk : (gs.map gn)[k]'(by simpa using hlt) = gn g := by rw [List.getElem_map, hg]
      rw [hgk] at hca
      have hpre : gs.take k ++ [g] <+: gs := by rw [← hgt]; exact List.take_prefix _ _
      have HNX := Lib.hid hgt
      have hk0 : (0 : Int) ≤ (k : Int) := by omega
      have hk1 : (k : Int) < (gs.length : Int) := by omega
      obtain ⟨fn, tmps, assign, body, hy, hR⟩ := HY.out (gs.take k) g wr hpre HJS.out (by rw [List.length_take]; omega)
      try dsimp only at hy
      have HRr := Lib.hid hR
      generalize gn g = nmg at *
      clear hrd hg hR hpre hgk hgt
      gi_wp2
      refine HRr.out.mono ?_
      rintro e W3 ⟨rfl, hJ3, hk3⟩
      have HJ3 := Lib.hid hJ3
      have HW3 := Lib.hid (HW.out.trans hk3)
      clear hJ3 hk3 hy HRr hca
      gi_wp2
      refine ⟨⟨k + 1, by go_num, by omega, ?_, HW3⟩, by simp [intOf]; omega⟩
      show J _ _
      rw [HNX.out]
      exact HJ3.out
    · have HE : Hid (J gs wr) := by
        have h1 := HJS.out
        rw [List.take_of_length_le (by omega)] at h1
        exact Lib.hid h1
      gi_wp2
      go_end0
      exact ⟨⟨_, rfl⟩, _, rfl, HE.out⟩
end Go.Proofs.Ytcfglgejjmapdaa
