/- What a body tells of its texts, or a panic. -/
import Derived.Test.YthbhbjfmlmgeeaaDoorTake
import Derived.Deep.RegionHeld3
import Derived.Deep.AppendLies
import Derived.Deep.RegionLaw
import Derived.RegionDies
namespace Go.Proofs.YthbhbjfmlmgeeaaDoor
open Go Go.RowKit
/-- Texts that were read, ahead of those that are read yet. -/
def joinP (ts : List (List UInt8)) : Option (List (List UInt8) × List UInt8) → Option (List (List UInt8) × List UInt8)
  | none => none
  | some (t, r) => some (ts ++ t, r)
theorem joinP_nil (x : Option (List (List UInt8) × List UInt8)) : joinP [] x = x := by cases x <;> rfl
theorem joinP_step {k : Nat} {r t r' : List UInt8} (ts : List (List UInt8)) (h : takeT r = some (t, r')) : joinP ts (parseN (k + 1) r) = joinP (ts ++ [t]) (parseN k r') := by
  rw [parseN, h]
  simp only
  cases hp : parseN k r' with
  | none => rfl
  | some x => obtain ⟨a, b⟩ := x; simp [joinP]
theorem joinP_stop {k : Nat} {r : List UInt8} (ts : List (List UInt8)) (h : takeT r = none) : joinP ts (parseN (k + 1) r) = none := by
  rw [parseN, h]
  rfl
theorem takeT_1 {r : List UInt8} (h : r.length < 4) : takeT r = none := by unfold takeT; rw [if_pos h]
theorem takeT_2 {r : List UInt8} (h : 4 ≤ r.length) (h2 : (r.drop 4).length < of4 (r.take 4)) : takeT r = none := by unfold takeT; rw [if_neg (by omega), if_pos h2]
theorem takeT_3 {r : List UInt8} (h : 4 ≤ r.length) (h2 : of4 (r.take 4) ≤ (r.drop 4).length) : takeT r = some ((r.drop 4).take (of4 (r.take 4)), (r.drop 4).drop (of4 (r.take 4))) := by unfold takeT; rw [if_neg (by omega), if_neg (by omega)]
theorem conv_rd {w : World} {A : Option Addr} {c : Nat} {l : List UInt8} (hn : A = none → c = 0) (hc : l.length ≤ c) (h : Rd w A l) : (convert 25 9 (.slice A l.length c)).run Tryd.prog w = .ok (.string ⟨l.toArray⟩) w := by
  cases A with
  | none =>
    have := hn rfl
    have : l = [] := List.eq_nil_of_length_eq_zero (by omega)
    subst this
    exact run_convert_bytes_nil w 25 5 Tryd.underlying25 Tryd.underlying5 0 c 9 Tryd.underlying9
  | some a =>
    refine run_convert_bytes_back w 25 9 5 a c l Tryd.underlying25 Tryd.underlying5 Tryd.underlying9 (fun j hj => ?_)
    obtain ⟨b, off, hA, hlt, hcell⟩ := h (by omega)
    cases hA
    rw [addoff]
    exact hcell j hj
/-- What 'read' does: the texts in block g, behind what is left of the bytes; or a panic. -/
def BodyEnd (g : Nat) (w : World) (l : List UInt8) (e : Ending) (w' : World) : Prop :=
  (∃ ls v A c, e = .returned (.tuple #[]) ∧ bodyT l = some (bl ls) ∧ w'.heap[g]? = some (.cells #[.slice A 0 c, v] 64 (0, 0)) ∧ w'.ownsRow (g + 1) 9 1 v ls.length (cellsS ls) ∧ Below g w w') ∨ (e = .panicked (torn 121) ∧ bodyT l = none ∧ Below g w w')
theorem below_any {B : Nat} {w w' : World} (m : Nat) (h : Below B w w') : Below B w (w'.drewN m) := ⟨h.os, h.tape, h.output, h.size, h.block⟩
theorem str_info : (Tryd.prog.info? 9).map (fun i => (i.zero, i.size, i.bytes)) = some (some (.string ⟨#[]⟩), 1, 16) := by kernel_rfl
theorem St.cell1 {w : World} {g : Nat} {v : Value} {T : TypeId} {l : List UInt8} (h : St w g [v] T l) : w.cell? ⟨g, 1, none⟩ = some v := by
  obtain ⟨A, c, hg, _⟩ := h
  simp [World.cell?, hg]
theorem St.free1 {w : World} {g : Nat} {v : Value} {T : TypeId} {l : List UInt8} (h : St w g [v] T l) : w.frozen? ⟨g, 1, none⟩ = false := by
  obtain ⟨A, c, hg, _⟩ := h
  simp [World.frozen?, hg]
theorem take_text (g : Nat) (v : Value) (l : List UInt8) (k : Nat) (x : ByteArray) (w : World) (h : St w g [v] 64 l) (hk : k ≤ l.length) (hx : x.data.toList = l.take k) :
    Calls Tryd.prog 32 #[.pointer (some ⟨g, 0, none⟩), .int .i64 k] w fun e w' => ∃ A n c, e = .returned (.slice A n c) ∧ (convert 25 9 (.slice A n c)).run Tryd.prog w' = .ok (.string x) w' ∧ St w' g [v] 64 (l.drop k) ∧ w.grownBy w' (some g) :=
  (take_st g [v] 64 l k w h hk).mono fun e w' ⟨v', he, ⟨A, c, hv, h1, h2, h3, _⟩, hst, hgr⟩ => by
    subst he
    subst hv
    refine ⟨A, _, c, rfl, ?_, hst, hgr⟩
    rw [conv_rd h2 h1 h3, ← hx]
theorem own_keep {w w' : World} {g : Nat} {e : TypeId} {v : Value} {n : Nat} {xs : List Value} (h : w.ownsRow (g + 1) e 1 v n xs) (hg : w.grownBy w' (some g)) : w'.ownsRow (g + 1) e 1 v n xs :=
  h.kept hg (by
    cases hv : v.ownBlock with
    | none => exact .inl rfl
    | some b => right; have := (h.lt b hv).1; simp; omega)
theorem St.other {w w' : World} {g : Nat} {cs : List Value} {T : TypeId} {l : List UInt8} (h : St w g cs T l) (hb : Below (g + 1) w w') : St w' g cs T l := by
  obtain ⟨A, c, hg, h1, h2, h3, h4, h5⟩ := h
  exact ⟨A, c, (hb.block g (by omega)).trans hg, h1, h2, h3, h4.low h5 (hb.mono (by omega)), h5⟩
theorem St.set1 {w : World} {g : Nat} {v u : Value} {T : TypeId} {l : List UInt8} (h : St w g [v] T l) : St (w.setCell ⟨g, 1, none⟩ u) g [u] T l := by
  obtain ⟨A, c, hg, h1, h2, h3, h4, h5⟩ := h
  have hlt := (Array.getElem?_eq_some_iff.1 hg).1
  refine ⟨A, c, ?_, h1, h2, h3, h4.low h5 (grown_belowAt (set_grown w g 1 u) (by omega)), h5⟩
  simp [World.setCell, Array.getElem?_modify, hg]
theorem St.lt {w : World} {g : Nat} {cs : List Value} {T : TypeId} {l : List UInt8} (h : St w g cs T l) : g < w.heap.size := by
  obtain ⟨A, c, hg, _⟩ := h
  exact (Array.getElem?_eq_some_iff.1 hg).1
theorem bl_snoc (ls : List ByteArray) (x : ByteArray) : bl (ls ++ [x]) = bl ls ++ [x.data.toList] := by simp [bl]
/-- A round that has read a text. -/
theorem read_round {w wr w2 w3 w4 : World} {g k g1 c1 : Nat} {v : Value} {ls : List ByteArray} {r : List UInt8} {x : ByteArray} (hbel : Below g w wr) (hst : St wr g [v] 64 r) (hown : wr.ownsRow (g + 1) 9 1 v k (cellsS ls))
    (hgr2 : wr.drew.grownBy w2 (some g)) (hgr3 : w2.grownBy w3 (some g)) (hst3 : St w3 g [v] 64 ((r.drop 4).drop (of4 (r.take 4)))) 
    (hown4 : w4.ownsRow (g + 1) 9 1 (.slice (some ⟨g1, 0, none⟩) (k + 1) c1) (k + 1) (cellsS ls ++ [.string x])) (hgr4 : (w3.alloc (.cells #[.string x] 9)).grownBy w4 v.ownBlock) :
    St w4 g [v] 64 ((r.drop 4).drop (of4 (r.take 4))) ∧ St (w4.setCell ⟨g, 1, none⟩ (.slice (some ⟨g1, 0, none⟩) (k + 1) c1)) g [.slice (some ⟨g1, 0, none⟩) (k + 1) c1] 64 ((r.drop 4).drop (of4 (r.take 4))) ∧
      (w4.setCell ⟨g, 1, none⟩ (.slice (some ⟨g1, 0, none⟩) (k + 1) c1)).ownsRow (g + 1) 9 1 (.slice (some ⟨g1, 0, none⟩) (k + 1) c1) (k + 1) (cellsS (ls ++ [x])) ∧ Below g w (w4.setCell ⟨g, 1, none⟩ (.slice (some ⟨g1, 0, none⟩) (k + 1) c1)) := by
  have hlt := hst.lt
  have hlt2 : wr.heap.size ≤ w2.heap.size := hgr2.size
  have hlt3 : w2.heap.size ≤ w3.heap.size := hgr3.size
  have b2 := grown_belowAt hgr2 (show g ≤ wr.heap.size by omega)
  have b3 := grown_belowAt hgr3 (by omega)
  have hown3 : w3.ownsRow (g + 1) 9 1 v k (cellsS ls) := own_keep (own_keep (show wr.drew.ownsRow (g + 1) 9 1 v k (cellsS ls) from hown) hgr2) hgr3
  have b4 : Below (g + 1) w3 w4 := ((Below.refl (g + 1) w3).alloc (by omega) (.cells #[.string x] 9)).grown hgr4 (by simp; omega) (fun k hk => (hown3.lt k hk).1)
  have s4 := hst3.other b4
  have hg4 := s4.lt
  refine ⟨s4, s4.set1, ?_, ?_⟩
  · rw [cellsS_app]
    exact own_keep hown4 (set_grown w4 g 1 _)
  · exact (((hbel.trans (show Below g wr w2 from ⟨b2.os, b2.tape, b2.output, b2.size, b2.block⟩)).trans b3).trans (b4.mono (by omega))).trans (grown_belowAt (set_grown w4 g 1 _) (by omega))
theorem parse_count {ls : List ByteArray} {k N : Nat} {l r : List UInt8} {x : ByteArray} (hk : k < N) (h : bodyT l = endT (joinP (bl ls) (parseN (N - k) r))) (h4 : 4 ≤ r.length) (h2 : of4 (r.take 4) ≤ (r.drop 4).length) (hx : x.data.toList = (r.drop 4).take (of4 (r.take 4))) :
    bodyT l = endT (joinP (bl (ls ++ [x])) (parseN (N - (k + 1)) ((r.drop 4).drop (of4 (r.take 4))))) := by
  rw [h, show N - k = (N - (k + 1)) + 1 by omega, joinP_step _ (takeT_3 h4 h2), bl_snoc, hx]
theorem parse_end {ls : List ByteArray} {k N : Nat} {l r : List UInt8} (hk : k < N) (h : bodyT l = endT (joinP (bl ls) (parseN (N - k) r))) (hn : takeT r = none) : bodyT l = none := by
  rw [h, show N - k = (N - (k + 1)) + 1 by omega, joinP_stop _ hn]
  rfl
theorem then_panic {next : Act → World → Prop} {Q : Exit → Act → World → Prop} {c : List PanicEntry} {a : Act} {w : World} (h : Q (.panic c) a w) : Exit.then next Q (.panic c) a w := h
theorem inBlock_panic {id : Nat} {Q : Exit → Act → World → Prop} {c : List PanicEntry} {a : Act} {w : World} (h : Q (.panic c) a w) : Exit.inBlock id Q (.panic c) a w := h
/-- A post of which a panic's part hangs on no slot. -/
def unframed (Q : Exit → Act → World → Prop) : Exit → Act → World → Prop
  | .panic c, a, w => ∀ t : Array Value, Q (.panic c) { tmps := t, defers := a.defers } w
  | e, a, w => Q e a w
theorem unframed_imp {Q : Exit → Act → World → Prop} : ∀ (e : Exit) (a : Act) (w : World), unframed Q e a w → Q e a w := fun e a w h => by
  cases e <;> first | exact h | exact h a.tmps
theorem wp_unframed {P : Program} {c : Code} {Q : Exit → Act → World → Prop} {a : Act} {w : World} (h : ∀ Q2 : Exit → Act → World → Prop, Hid (∀ e a w, Q e a w → Q2 e a w) → c.wp P (unframed Q2) a w) : c.wp P Q a w := Code.wp_mono unframed_imp (h Q (Lib.hid fun _ _ _ h => h))
set_option maxHeartbeats 4000000 in
theorem read_any (g : Nat) (l : List UInt8) (w : World) (h : St w g [.slice none 0 0] 64 l) :
    Calls Tryd.prog 35 #[.pointer (some ⟨g, 0, none⟩)] w (BodyEnd g w l) := by
  obtain ⟨i0, hi, hz0, hz1, hz2⟩ := info_parts str_info
  have H := Lib.hid h
  clear h
  by_cases h4 : l.length < 4
  · have hb : bodyT l = none := by unfold bodyT; rw [if_pos h4]
    have HB := Lib.hid hb
    clear hb
    go_enter Tryd.func35, Tryd.ntmps35
    go_wp2_with fail
    refine (number_bad g _ _ l w H.out h4).mono ?_
    rintro e w1 ⟨rfl, rfl⟩
    exact post_panic rfl (.inr ⟨rfl, HB.out, Below.refl _ _⟩)
  have h4' : 4 ≤ l.length := by omega
  have hlt := of4_lt (l.take 4)
  by_cases h6 : 65536 < of4 (l.take 4)
  · have hb : bodyT l = none := by unfold bodyT; rw [if_neg h4, if_pos h6]
    have HB := Lib.hid hb
    clear hb
    go_enter Tryd.func35, Tryd.ntmps35
    go_wp2_with fail
    refine (number_st g _ _ l w H.out h4').mono ?_
    rintro e w1 ⟨rfl, hst, hgr⟩
    have hbel := Lib.hid (grown_belowAt hgr (by obtain ⟨A, c, hg, _⟩ := H.out; have := (Array.getElem?_eq_some_iff.1 hg).1; omega))
    clear hst hgr
    go_wp2_with fail
    exact post_panic rfl (.inr ⟨rfl, HB.out, hbel.out⟩)
  have hb : bodyT l = endT (parseN (of4 (l.take 4)) (l.drop 4)) := by unfold bodyT; rw [if_neg h4, if_neg h6]
  have HB := Lib.hid hb
  clear hb
  go_enter Tryd.func35, Tryd.ntmps35
  go_wp2_with fail
  refine (number_st g _ _ l w H.out h4').mono ?_
  rintro e w1 ⟨rfl, hst, hgr⟩
  have hbel := grown_belowAt hgr (by obtain ⟨A, c, hg, _⟩ := H.out; have := (Array.getElem?_eq_some_iff.1 hg).1; omega)
  have HST := Lib.hid hst
  clear hst hgr
  generalize of4 (l.take 4) = N at *
  have hN : N ≤ 65536 := by omega
  have HBEL := Lib.hid hbel
  clear h4 h4' h6 hlt hbel H
  go_wp2_with fail
  go_loopw [12] (fun i wr => ∃ (k : Nat) (v : Value) (ls : List ByteArray) (r : List UInt8), k ≤ N ∧ i = .int .i64 k ∧ Hid (St wr g [v] 64 r) ∧ Hid (wr.ownsRow (g + 1) 9 1 v k (cellsS ls)) ∧ Hid (ls.length = k) ∧ Hid (bodyT l = endT (joinP (bl ls) (parseN (N - k) r))) ∧ Hid (Below g w wr)) (fun i _ => N - (intOf i).toNat)
  case atStart => exact ⟨0, _, [], _, Nat.zero_le _, rfl, HST, World.ownsRow_nil _ _ _ _, rfl, by show _ = _; rw [HB.out]; simp [joinP_nil, bl], HBEL⟩
  case round =>
    clear HST HB HBEL
    obtain ⟨k, v, ls, r, hk, rfl, HST, HOWN, HLS, HT, HBEL⟩ := hrel
    by_cases hlt : k < N
    · by_cases h4 : r.length < 4
      · have hc1 := HST.out.cell1
        have HNO := Lib.hid (parse_end hlt HT.out (takeT_1 h4))
        have HN := Lib.hid (show Calls Tryd.prog 34 #[.pointer (some ⟨g, 0, none⟩)] wr.drew _ from number_bad g [v] 64 r wr.drew HST.out h4)
        go_wp2_with fail
        have HE : Hid (BodyEnd g w l (.panicked (torn 121)) wr.drew) := Lib.hid (.inr ⟨rfl, HNO.out, (HBEL.out).drew⟩)
        go_region_dies
        all_goals (with_reducible (refine HN.out.mono ?_); rintro e w2 ⟨rfl, rfl⟩; exact then_panic (inBlock_panic (then_panic (post_panic rfl HE.out))))
      have h4' : 4 ≤ r.length := by omega
      have hq := of4_lt (r.take 4)
      by_cases h5 : (r.drop 4).length < of4 (r.take 4)
      · have hc1 := HST.out.cell1
        have HNO := Lib.hid (parse_end hlt HT.out (takeT_2 h4' h5))
        have HN := Lib.hid (show Calls Tryd.prog 34 #[.pointer (some ⟨g, 0, none⟩)] wr.drew _ from number_st g [v] 64 r wr.drew HST.out h4')
        have hgl := HST.out.lt
        have HE : Hid (∀ w2, wr.drew.grownBy w2 (some g) → BodyEnd g w l (.panicked (torn 121)) w2) := Lib.hid (fun w2 h => .inr ⟨rfl, HNO.out, HBEL.out.trans (by have := grown_belowAt h (show g ≤ wr.heap.size by omega); exact ⟨this.os, this.tape, this.output, this.size, this.block⟩)⟩)
        go_wp2_with fail
        refine wp_region_any (by kernel_rfl) ?_
        change wpAny _ _ _ _ _ _ _ (World.drew _)
        refine wpAny_take (i := 0) (v := ?_) rfl (by kernel_rfl) (by kernel_rfl) (by kernel_rfl) (fun _ _ _ h => h) (Or.inl ⟨by rfl, ?_⟩) ?_
        rotate_left
        · (intro w; go_simp); try (with_reducible rfl)
        refine wpAny_take (i := 1) (v := ?_) rfl (by kernel_rfl) (by kernel_rfl) (by kernel_rfl) (fun _ _ _ h => h) (Or.inl ⟨by rfl, ?_⟩) ?_
        rotate_left
        · (intro w; go_simp); try (with_reducible rfl)
        refine wpAny_take (i := 2) (v := ?_) rfl (by kernel_rfl) (by kernel_rfl) (by kernel_rfl) (fun _ _ _ h => h) (Or.inl ⟨by rfl, ?_⟩) ?_
        rotate_left
        · (intro w; go_simp); try (with_reducible rfl)
        refine wpAny_take (i := 3) (v := ?_) rfl (by kernel_rfl) (by kernel_rfl) (by kernel_rfl) (fun _ _ _ h => h) (Or.inl ⟨by rfl, ?_⟩) ?_
        rotate_left
        · (intro w; go_simp); try (with_reducible rfl)
        refine wpAny_take (i := 5) (v := ?_) rfl (by kernel_rfl) (by kernel_rfl) (by kernel_rfl) (fun _ _ _ h => h) (Or.inl ⟨by rfl, ?_⟩) ?_
        rotate_left
        · (intro w; go_simp); try (with_reducible rfl)
        refine wpAny_take (i := 6) (v := ?_) rfl (by kernel_rfl) (by kernel_rfl) (by kernel_rfl) (fun _ _ _ h => h) (Or.inl ⟨by rfl, ?_⟩) ?_
        rotate_left
        · (intro w; go_simp); try (with_reducible rfl)
        refine wpAny_take (i := 7) (v := ?_) rfl (by kernel_rfl) (by kernel_rfl) (by kernel_rfl) (fun _ _ _ h => h) (Or.inl ⟨by rfl, ?_⟩) ?_
        rotate_left
        · (intro w; go_simp); try (with_reducible rfl)
        refine wpAny_take (i := 8) (v := ?_) rfl (by kernel_rfl) (by kernel_rfl) (by kernel_rfl) (fun _ _ _ h => h) (Or.inl ⟨by rfl, ?_⟩) ?_
        rotate_left
        · (intro w; go_simp); try (with_reducible rfl)
        refine wpAny_take (i := 9) (v := ?_) rfl (by kernel_rfl) (by kernel_rfl) (by kernel_rfl) (fun _ _ _ h => h) (Or.inl ⟨by rfl, ?_⟩) ?_
        rotate_left
        · (intro w; go_simp); try (with_reducible rfl)
        refine wpAny_take (i := 10) (v := ?_) rfl (by kernel_rfl) (by kernel_rfl) (by kernel_rfl) (fun _ _ _ h => h) (Or.inl ⟨by rfl, ?_⟩) ?_
        rotate_left
        · (intro w; go_simp); try (with_reducible rfl)
        refine wpAny_ready (rs := [4, 11]) (by kernel_rfl) (by simp) ?_
        refine AllReady.cons rfl (fun K hK => ?_) ?_
        · go_simp
          refine hK _ _ ?_
          clear hK K
          refine wpAny_ready (rs := [11]) (by kernel_rfl) (by simp) ?_
          refine AllReady.cons rfl (fun K hK => ?_) AllReady.nil
          go_simp
          with_reducible (refine HN.out.mono ?_)
          rintro e w2 ⟨rfl, hst2, hgr2⟩
          have hc2 := hst2.cell1
          have HTK := Lib.hid (take_bad g [v] 64 (r.drop 4) (of4 (r.take 4)) w2 hst2 h5 (by omega))
          have HG2 := Lib.hid hgr2
          clear hst2 hgr2
          refine hK _ _ ?_
          clear hK K
          refine wpAny_ready (rs := [12]) (by kernel_rfl) (by simp) ?_
          refine AllReady.cons rfl (fun K hK => ?_) AllReady.nil
          go_simp
          with_reducible (refine HTK.out.mono ?_)
          rintro e w3 ⟨rfl, rfl⟩
          exact then_panic (inBlock_panic (then_panic (post_panic rfl (HE.out _ HG2.out))))
        refine AllReady.cons rfl (fun K hK => ?_) AllReady.nil
        go_simp
        with_reducible (refine HN.out.mono ?_)
        rintro e w2 ⟨rfl, hst2, hgr2⟩
        have hc2 := hst2.cell1
        have HTK := Lib.hid (take_bad g [v] 64 (r.drop 4) (of4 (r.take 4)) w2 hst2 h5 (by omega))
        have HG2 := Lib.hid hgr2
        clear hst2 hgr2
        refine hK _ _ ?_
        clear hK K
        refine wpAny_ready (rs := [4, 12]) (by kernel_rfl) (by simp) ?_
        refine AllReady.cons rfl (fun K hK => ?_) ?_
        · go_simp
          refine hK _ _ ?_
          clear hK K
          refine wpAny_ready (rs := [12]) (by kernel_rfl) (by simp) ?_
          refine AllReady.cons rfl (fun K hK => ?_) AllReady.nil
          go_simp
          with_reducible (refine HTK.out.mono ?_)
          rintro e w3 ⟨rfl, rfl⟩
          exact then_panic (inBlock_panic (then_panic (post_panic rfl (HE.out _ HG2.out))))
        refine AllReady.cons rfl (fun K hK => ?_) AllReady.nil
        go_simp
        with_reducible (refine HTK.out.mono ?_)
        rintro e w3 ⟨rfl, rfl⟩
        exact then_panic (inBlock_panic (then_panic (post_panic rfl (HE.out _ HG2.out))))
      · have hc1 := HST.out.cell1
        have h5' : of4 (r.take 4) ≤ (r.drop 4).length := by omega
        obtain ⟨x, hx⟩ : ∃ x : ByteArray, x.data.toList = (r.drop 4).take (of4 (r.take 4)) := ⟨⟨((r.drop 4).take (of4 (r.take 4))).toArray⟩, rfl⟩
        have HX := Lib.hid hx
        have HPC := Lib.hid (parse_count hlt HT.out h4' h5' hx)
        have HN := Lib.hid (show Calls Tryd.prog 34 #[.pointer (some ⟨g, 0, none⟩)] wr.drew _ from number_st g [v] 64 r wr.drew HST.out h4')
        have hgl := HST.out.lt
        clear hx h4
        go_wp2_with fail
        go_region_law
          (first
            | (go_simp
               go_at_call 34
               with_reducible (refine HN.out.mono ?_)
               rintro e w2 ⟨rfl, hst2, hgr2⟩
               have hc2 := hst2.cell1
               have HTK := Lib.hid (take_text g v (r.drop 4) (of4 (r.take 4)) x w2 hst2 h5' HX.out)
               have HG2 := Lib.hid hgr2
               clear hst2 hgr2)
            | (go_simp
               go_at_call 32
               with_reducible (refine HTK.out.mono ?_)
               rintro e w3 ⟨A3, n3, c3, rfl, hconv, hst3, hgr3⟩
               have hc3 := hst3.cell1
               have hown3 := own_keep (own_keep (show wr.drew.ownsRow (g + 1) 9 1 v k (cellsS ls) from HOWN.out) HG2.out) hgr3
               have HST3 := Lib.hid hst3
               have HG3 := Lib.hid hgr3
               have HO3 := Lib.hid hown3
               have hgl3 := hst3.lt
               clear hst3 hgr3 hown3)
            | (refine step_append_lies _ (by rfl) _ _ _ (by rfl) (g + 1) 9 i0 _ 1 16 Tryd.underlying22 hi hz0 hz1 hz2 rfl (by omega) v k (cellsS ls) (by rfl) (HO3.out.alloc _) ⟨w3.heap.size, 0, none⟩ 1 1 [.string x] (by rfl) (by rfl) (World.news_of_block (cs := #[.string x]) (t := 9) (fr := (0, 0)) (heap_alloc_new w3 _)) (by simp [Value.oneCell']) (by omega) (by simp only [maxLen]; omega) (by omega) (by simp; omega) (w3.heap.size + 1) (by simp) ?_
               intro g1 c1 w4 hown4 hgr4 hat hlt4
               have HR := Lib.hid (read_round HBEL.out HST.out HOWN.out HG2.out HG3.out HST3.out hown4 hgr4)
               have hc4 := HR.out.1.cell1
               have hf4 := HR.out.1.free1))
        all_goals go_wp2_with fail
        all_goals go_roundw
        all_goals first
          | (case rel => exact ⟨k + 1, .slice (some ⟨g1, 0, none⟩) (k + 1) c1, ls ++ [x], _, by omega, by go_num, HR.out.2.1, HR.out.2.2.1, by show _ = _; rw [List.length_append, HLS.out]; rfl, HPC, HR.out.2.2.2⟩)
          | (case measure => simp [intOf]; omega)
    · obtain rfl : k = N := by omega
      have h1 := HT.out
      rw [Nat.sub_self, parseN] at h1
      obtain ⟨A, c, hg, hc, hm, hn, hr, hA⟩ := HST.out
      have hcell : wr.cell? ⟨g, 0, none⟩ = some (.slice A r.length c) := by simp [World.cell?, hg]
      by_cases hr0 : r = []
      · subst hr0
        have h2 : bodyT l = some (bl ls) := by rw [h1]; simp [joinP, endT]
        have HE : Hid (BodyEnd g w l (.returned (.tuple #[])) wr) := Lib.hid (.inl ⟨ls, v, A, c, rfl, h2, hg, by rw [HLS.out]; exact HOWN.out, HBEL.out⟩)
        clear h1 h2 hg hc hm hn hr hA
        go_wp2
        go_end0
        exact HE.out
      · have hpos : 0 < r.length := List.length_pos_iff.2 hr0
        have h2 : bodyT l = none := by
          rw [h1]
          cases r with
          | nil => exact absurd rfl hr0
          | cons a b => rfl
        have HE : Hid (BodyEnd g w l (.panicked (torn 121)) wr) := Lib.hid (.inr ⟨rfl, h2, HBEL.out⟩)
        clear h1 h2 hg hc hn hr hA hr0
        go_wp2
        exact post_panic rfl HE.out
end Go.Proofs.YthbhbjfmlmgeeaaDoor
