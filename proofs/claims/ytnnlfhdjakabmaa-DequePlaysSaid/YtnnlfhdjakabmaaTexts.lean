/- The texts of a deque, from a number on and below another one. -/
import Derived.Test.YtnnlfhdjakabmaaItems
import Derived.Deep.AppendLies
namespace Go.Proofs.Ytnnlfhdjakabmaa
open Go Go.RowKit
open Go.Shelf
attribute [local go_sem] Oper.semAt_some
def TextsQ (w : World) (xs : List ByteArray) (e : Ending) (w' : World) : Prop := ∃ v, e = .returned v ∧ w'.ownsRow w.heap.size 9 1 v xs.length (cellsS xs) ∧ Below w.heap.size w w'
/-- What holds between two rounds. -/
structure TxI (w : World) (B : Nat) (pre : List ByteArray) (W : World) : Prop where
  out : ∃ v, W.heap[w.heap.size]? = some (.cells #[v] 29 (0, 0)) ∧ W.ownsRow B 9 1 v pre.length (cellsS pre)
  below : Below w.heap.size w W
  size : B ≤ W.heap.size
theorem TxI.keep {w : World} {B : Nat} (hB : w.heap.size ≤ B) {pre : List ByteArray} {A A' : World} {row : Option Nat} (h : TxI w B pre A) (hg : A.grownBy A' row) (ht : ∀ r, row = some r → B ≤ r ∧ ∃ o : Obj, A.heap[r]? = some o ∧ o.isCells = false) : TxI w B pre A' := by
  have ht' : ∀ r, row = some r → ∃ o : Obj, A.heap[r]? = some o ∧ o.isCells = false := fun r e => (ht r e).2
  obtain ⟨⟨v, h1, h2⟩, h5, h6⟩ := h
  exact ⟨⟨v, cells_keepc h1 hg ht', own_keepc h2 hg ht'⟩, h5.grown hg h5.size (fun k e => by have := (ht k e).1; omega), Nat.le_trans h6 hg.size⟩
theorem tx_step {w W w3 : World} {B : Nat} (hB : w.heap.size + 4 = B) {pre : List ByteArray} {x : ByteArray} {v v' : Value} (h : TxI w B pre W) (hv : W.heap[w.heap.size]? = some (.cells #[v] 29 (0, 0))) (ho : W.ownsRow B 9 1 v pre.length (cellsS pre))
    (ho3 : w3.ownsRow B 9 1 v' (pre.length + 1) (cellsS pre ++ [.string x])) (hg3 : (W.alloc (.cells #[.string x] 9)).grownBy w3 v.ownBlock) :
    Hid (w3.heap[w.heap.size]? = some (.cells #[v] 29 (0, 0))) ∧
    Hid (KeepsOthers W (w3.setCell ⟨w.heap.size, 0, none⟩ v')) ∧ Hid (Same1 B w.heap.size W (w3.setCell ⟨w.heap.size, 0, none⟩ v')) ∧
    Hid (TxI w B (pre ++ [x]) (w3.setCell ⟨w.heap.size, 0, none⟩ v')) := by
  obtain ⟨_, h5, h6⟩ := h
  have bB : Below B W w3 := ((Below.refl B W).alloc h6 (.cells #[.string x] 9)).grown hg3 (by simp; omega) (fun k hk => (ho.lt k hk).1)
  have c3 : w3.heap[w.heap.size]? = some (.cells #[v] 29 (0, 0)) := (bB.block _ (by omega)).trans hv
  have below3 : Below w.heap.size w w3 := h5.trans (bB.mono (by omega))
  have ko : KeepsOthers W w3 := (KeepsOthers.alloc W _).trans (KeepsOthers.of_grownBy hg3 (fun j o e he => by
    rcases ho.2 with ⟨e2, _⟩ | ⟨g2, cap2, cur2, e2, hb2, hgg2, _⟩
    · rw [e2] at e; cases e
    · rw [e2] at e
      cases e
      have : (W.alloc (.cells #[.string x] 9)).heap[g2]? = some (.cells cur2 9 (0, 0)) := (Below.heap_alloc W _ g2 (Array.getElem?_eq_some_iff.1 hgg2).1).trans hgg2
      rw [this] at he
      cases he
      rfl))
  refine ⟨c3, ko.trans (KeepsOthers.setCell _ _ _), ⟨fun k hk hk1 => ?_, ?_⟩, ?_⟩
  · exact (Below.heap_setCell _ ⟨w.heap.size, 0, none⟩ _ k hk1).trans (bB.block k hk)
  · simp [World.setCell]; exact bB.size
  · have nb : ∀ (u : Value) (n : Nat) (xs : List Value) (e : TypeId) (W' : World), W'.ownsRow B e 1 u n xs → ∀ k, k < B → u.ownBlock ≠ some k := fun u n xs e W' h k hk e2 => by have := (h.lt k e2).1; omega
    have q0 := one_setCell (u := v') c3
    refine ⟨⟨v', q0, ?_⟩, below3.setCell (p := ⟨w.heap.size, 0, none⟩) (Nat.le_refl _) _, by simp [World.setCell]; exact Nat.le_trans h6 bB.size⟩
    rw [List.length_append, cellsS_app]
    exact ownsRow_setCell_other ho3 (a := ⟨w.heap.size, 0, none⟩) (nb _ _ _ _ _ ho3 w.heap.size (by omega)) v'
def tmpsT (D a b C E : Nat) (z : Value) : Array Value := #[.pointer (some ⟨D, 0, none⟩), .int .i64 a, .int .i64 b, undef, undef, undef, .slice none 0 0, .pointer (some ⟨C, 0, none⟩), z, .pointer (some ⟨D, 0, none⟩), .int .i64 a, .int .i64 b, .func (.func 59) #[] #[.pointer (some ⟨E + 1, 0, none⟩), .pointer (some ⟨E + 2, 0, none⟩), .pointer (some ⟨E, 0, none⟩)], z, undef, undef, undef, undef, undef]
set_option maxHeartbeats 4000000 in
theorem texts_any (D a b : Nat) (r : Option Nat) (l : List ByteArray) (w : World) (h : Dq D r l w) (hb : b ≤ l.length) (hab : a ≤ 1000000) :
    Calls Try.prog 43 #[.pointer (some ⟨D, 0, none⟩), .int .i64 a, .int .i64 b] w (TextsQ w ((l.drop a).take (b - a))) := by
  have hlb : l.length ≤ 500000 := by obtain ⟨v, N, f, ys, _, h⟩ := h; have := h.len; have := h.cap; omega
  have HD := Lib.hid h
  clear h
  refine (callsIn_wide (n := 4)).1 ?_
  refine callsIn_of_wp_marks Try.func43 rfl trivial ?_ rfl
  simp only [Try.ntmps43, List.size_toArray, List.length_cons, List.length_nil, Nat.reduceAdd, Nat.reduceSub, Array.replicate_succ, Array.replicate_zero, List.push_toArray, List.append_toArray, List.nil_append, List.cons_append]
  gi_wp2_with fail
  refine ⟨trivial, (callsIn_wide.2 (items_any D a b _)).mono ?_⟩
  rintro e w3 ⟨rfl, rfl⟩
  gi_wp2_with fail
  have hs0 : (w.alloc (.cells #[.slice none 0 0] 29)).heap.size = w.heap.size + 1 := by simp
  have hb1 : Below w.heap.size w (w.alloc (.cells #[.slice none 0 0] 29)) := below_new w _
  have hc1 : (w.alloc (.cells #[.slice none 0 0] 29)).heap[w.heap.size]? = some (.cells #[.slice none 0 0] 29 (0, 0)) := heap_alloc_new w _
  generalize w.alloc (.cells #[.slice none 0 0] 29) = w1 at *
  have hb2 : Below w1.heap.size w1 (((w1.alloc (.cells #[.pointer (some ⟨D, 0, none⟩)] 31)).alloc (.cells #[.int .i64 a] 3)).alloc (.cells #[.int .i64 b] 3)) := (((Below.refl _ w1).alloc (Nat.le_refl _) _).alloc (by simp) _).alloc (by simp; omega) _
  have hs2 : (((w1.alloc (.cells #[.pointer (some ⟨D, 0, none⟩)] 31)).alloc (.cells #[.int .i64 a] 3)).alloc (.cells #[.int .i64 b] 3)).heap.size = w1.heap.size + 3 := by simp
  have e0 : (((w1.alloc (.cells #[.pointer (some ⟨D, 0, none⟩)] 31)).alloc (.cells #[.int .i64 a] 3)).alloc (.cells #[.int .i64 b] 3)).heap[w1.heap.size]? = some (.cells #[.pointer (some ⟨D, 0, none⟩)] 31 (0, 0)) :=
    (Below.heap_alloc _ _ w1.heap.size (by simp; omega)).trans ((Below.heap_alloc _ _ w1.heap.size (by simp)).trans (heap_alloc_new w1 _))
  have e1 : (((w1.alloc (.cells #[.pointer (some ⟨D, 0, none⟩)] 31)).alloc (.cells #[.int .i64 a] 3)).alloc (.cells #[.int .i64 b] 3)).heap[w1.heap.size + 1]? = some (.cells #[.int .i64 a] 3 (0, 0)) := by
    refine (Below.heap_alloc _ _ (w1.heap.size + 1) (by simp)).trans ?_
    have h := heap_alloc_new (w1.alloc (.cells #[.pointer (some ⟨D, 0, none⟩)] 31)) (.cells #[.int .i64 a] 3)
    rwa [show (w1.alloc (.cells #[.pointer (some ⟨D, 0, none⟩)] 31)).heap.size = w1.heap.size + 1 by simp] at h
  have e2 : (((w1.alloc (.cells #[.pointer (some ⟨D, 0, none⟩)] 31)).alloc (.cells #[.int .i64 a] 3)).alloc (.cells #[.int .i64 b] 3)).heap[w1.heap.size + 2]? = some (.cells #[.int .i64 b] 3 (0, 0)) := by
    have h := heap_alloc_new ((w1.alloc (.cells #[.pointer (some ⟨D, 0, none⟩)] 31)).alloc (.cells #[.int .i64 a] 3)) (.cells #[.int .i64 b] 3)
    rwa [show ((w1.alloc (.cells #[.pointer (some ⟨D, 0, none⟩)] 31)).alloc (.cells #[.int .i64 a] 3)).heap.size = w1.heap.size + 2 by simp] at h
  generalize ((w1.alloc (.cells #[.pointer (some ⟨D, 0, none⟩)] 31)).alloc (.cells #[.int .i64 a] 3)).alloc (.cells #[.int .i64 b] 3) = wl at *
  rw [hs0] at hb2 hs2 e0 e1 e2
  have hb3 : Below w.heap.size w wl := hb1.trans (hb2.mono (by omega))
  have hc2 : wl.heap[w.heap.size]? = some (.cells #[.slice none 0 0] 29 (0, 0)) := (hb2.block w.heap.size (by omega)).trans hc1
  have hD2 := HD.out.below hb3
  obtain ⟨B, hB⟩ : ∃ B, B = w.heap.size + 4 := ⟨_, rfl⟩
  refine rangeC (n := 4) (by omega) (gf := 59) (lb := #[.pointer (some ⟨w.heap.size + 1 + 1, 0, none⟩), .pointer (some ⟨w.heap.size + 1 + 2, 0, none⟩), .pointer (some ⟨w.heap.size + 1, 0, none⟩)]) (by first | rfl | (rw [← hs0]; rfl)) (enters_of Try.func59 (by kernel_rfl) rfl)
    (items_seq 3 B w.heap.size (w.heap.size + 1) D a b r l wl (by omega) (by omega) (by omega) e0 e1 e2 (by omega) hD2 (by have := HD.out.lt.1; omega) (fun e => by have := (HD.out.lt.2 _ e).1; omega) hb hab)
    (fun x A' k o o' hx hk ho => trivial) Same1.trans (fun W k o hk => ⟨fun i hi _ => World.putObj_heap_other (by omega), by simp⟩) (fun _ => rfl)
    (TxI w B) (fun pre A1 A2 row h hg ht => h.keep (by omega) hg (fun r e => ⟨by have := (ht r e).1; omega, (ht r e).2⟩)) ⟨⟨_, hc2, World.ownsRow_nil _ _ _ _⟩, hb3, by omega⟩
    (fun x => { tmps := tmpsT D a b w.heap.size (w.heap.size + 1) (.string x), defers := [] })
    ?assign ?body ?done
  case assign =>
    intro l' x W K hK
    unfold tmpsT at hK
    gi_wp2
    exact hK
  case body =>
    rintro l' pre x W hx hI hlen
    obtain ⟨i0, hi, hz0, hz1, hz2⟩ := info_parts str_info
    obtain ⟨vo, hv, ho⟩ := hI.out
    obtain ⟨Ao, co, hvo, _⟩ := own_rdV ho
    subst hvo
    have hcell := cell_of_one hv
    have hple : pre.length ≤ 2000000 := by omega
    have HI := Lib.hid hI
    have HV := Lib.hid hv
    have HO := Lib.hid ho
    have hBs := hI.size
    have HBe := Lib.hid hB
    clear hx hI hv ho hc2 hb1 hb2 hc1 e0 e1 e2 hD2 hB
    unfold tmpsT
    gi_wp2_with (gi_at_builtin; refine wpListIn_append_own _ rfl (.tmp 14) (.tmp 16) 29 rfl B 9 i0 _ 1 16 Try.underlying29 hi hz0 hz1 hz2 rfl (by omega) _ pre.length (cellsS pre) rfl (HO.out.alloc _) ⟨W.heap.size, 0, none⟩ 1 1 [.string x] rfl rfl (World.news_of_block (cs := #[.string x]) (t := 9) (fr := (0, 0)) (heap_alloc_new W _)) (by simp [Value.oneCell']) (by simp only [maxLen]; omega) (by omega) (by simp; omega) ?_; intro v3 w3 ho3 hg3 _; have HS := tx_step (x := x) HBe.out.symm HI.out HV.out HO.out ho3 hg3; obtain ⟨Hcd, HK, H2, HIn⟩ := HS; obtain ⟨A3, c3, hv3, _⟩ := own_rdV ho3; subst hv3; have hc3 := cell_of_one Hcd.out; have hf3 := free_of_one Hcd.out; clear ho3 hg3)
    exact ⟨HK.out, H2.out, HIn.out⟩
  case done =>
    rintro Dd xs W hDd hS hI hdef
    obtain ⟨vo, hv, ho⟩ := hI.out
    have hcell := cell_of_one hv
    have HI := Lib.hid hI
    have HO := Lib.hid ho
    have HDF := Lib.hid hdef
    subst hS
    clear hI hv ho hdef hc2 hb1 hb2 hc1 e0 e1 e2 hD2
    gi_wp2_with fail
    have hsz := HI.out.size
    have hrow : W.grownBy (W.putObj Dd (.deferred none)) (some Dd) := grownBy_putObj' _ _ _
    have htd : ∀ r, some Dd = some r → ∃ o : Obj, W.heap[r]? = some o ∧ o.isCells = false := fun r e => by cases e; exact ⟨_, HDF.out, rfl⟩
    refine ⟨by simp, .inl ⟨_, _, rfl, run_takeDeferred (w := W) HDF.out, ?_⟩⟩
    refine ⟨_, results_tmp Try.results43 _ _ _, vo, rfl, own_down (own_keepc HO.out hrow htd) (by omega), ?_⟩
    exact HI.out.below.grown hrow (by omega) (fun k e => by cases e; omega)
end Go.Proofs.Ytnnlfhdjakabmaa
