/- What a deque tells when it is gone over. -/
import Derived.Test.YtnnlfhdjakabmaaAllSeq
import Derived.Deep.AppendLies
namespace Go.Proofs.Ytnnlfhdjakabmaa
open Go Go.RowKit
open Go.Shelf
attribute [local go_sem] Oper.semAt_some
def fineB (pre : List (Nat × ByteArray)) : Bool := decide (pre.map Prod.fst = List.range pre.length)
theorem fineB_snoc (pre : List (Nat × ByteArray)) (x : Nat × ByteArray) : fineB (pre ++ [x]) = (fineB pre && decide (x.1 = pre.length)) := by
  unfold fineB
  rw [List.map_append, List.length_append, List.length_singleton, List.range_succ, List.map_singleton]
  by_cases h : pre.map Prod.fst = List.range pre.length
  · simp [h]
  · have : ¬ (pre.map Prod.fst ++ [x.1] = List.range pre.length ++ [pre.length]) := fun e => h (List.append_inj_left e (by simp))
    simp [h, this]
theorem fineB_num (l : List ByteArray) : fineB (num l l.length) = true := by
  unfold fineB num
  simp only [decide_eq_true_eq]
  rw [List.take_of_length_le (by simp)]
  rw [List.map_fst_zip (by simp)]
  simp
theorem num_snd (l : List ByteArray) : (num l l.length).map Prod.snd = l := by
  unfold num
  rw [List.take_of_length_le (by simp), List.map_snd_zip (by simp)]
/-- What holds between two rounds. -/
structure AlI (w : World) (B : Nat) (pre : List (Nat × ByteArray)) (W : World) : Prop where
  out : ∃ v, W.heap[w.heap.size]? = some (.cells #[v] 29 (0, 0)) ∧ W.ownsRow B 9 1 v pre.length (cellsS (pre.map Prod.snd))
  fine : W.heap[w.heap.size + 1]? = some (.cells #[.bool (fineB pre)] 4 (0, 0))
  below : Below w.heap.size w W
  size : B ≤ W.heap.size
theorem AlI.keep {w : World} {B : Nat} (hB : w.heap.size ≤ B) {pre : List (Nat × ByteArray)} {A A' : World} {row : Option Nat} (h : AlI w B pre A) (hg : A.grownBy A' row) (ht : ∀ r, row = some r → B ≤ r ∧ ∃ o : Obj, A.heap[r]? = some o ∧ o.isCells = false) : AlI w B pre A' := by
  have ht' : ∀ r, row = some r → ∃ o : Obj, A.heap[r]? = some o ∧ o.isCells = false := fun r e => (ht r e).2
  obtain ⟨⟨v, h1, h2⟩, h3, h5, h6⟩ := h
  exact ⟨⟨v, cells_keepc h1 hg ht', own_keepc h2 hg ht'⟩, cells_keepc h3 hg ht', h5.grown hg h5.size (fun k e => by have := (ht k e).1; omega), Nat.le_trans h6 hg.size⟩
theorem al_fine {w W : World} {B : Nat} (hB : w.heap.size + 2 ≤ B) {pre : List (Nat × ByteArray)} {v : Value} (h : AlI w B pre W) (hv : W.heap[w.heap.size]? = some (.cells #[v] 29 (0, 0))) (ho : W.ownsRow B 9 1 v pre.length (cellsS (pre.map Prod.snd))) (b : Bool) :
    (W.setCell ⟨w.heap.size + 1, 0, none⟩ (.bool b)).heap[w.heap.size]? = some (.cells #[v] 29 (0, 0)) ∧ (W.setCell ⟨w.heap.size + 1, 0, none⟩ (.bool b)).heap[w.heap.size + 1]? = some (.cells #[.bool b] 4 (0, 0)) ∧
    (W.setCell ⟨w.heap.size + 1, 0, none⟩ (.bool b)).ownsRow B 9 1 v pre.length (cellsS (pre.map Prod.snd)) ∧ Below w.heap.size w (W.setCell ⟨w.heap.size + 1, 0, none⟩ (.bool b)) ∧ KeepsOthers W (W.setCell ⟨w.heap.size + 1, 0, none⟩ (.bool b)) ∧ Same2 B w.heap.size (w.heap.size + 1) W (W.setCell ⟨w.heap.size + 1, 0, none⟩ (.bool b)) ∧ B ≤ (W.setCell ⟨w.heap.size + 1, 0, none⟩ (.bool b)).heap.size := by
  have nb : v.ownBlock ≠ some (w.heap.size + 1) := fun e => by have := (ho.lt _ e).1; omega
  refine ⟨(Below.heap_setCell _ ⟨w.heap.size + 1, 0, none⟩ _ w.heap.size (by simp)).trans hv, one_setCell (u := .bool b) h.fine, ownsRow_setCell_other ho (a := ⟨w.heap.size + 1, 0, none⟩) nb _, h.below.setCell (p := ⟨w.heap.size + 1, 0, none⟩) (by simp) _, KeepsOthers.setCell _ _ _, ⟨fun k hk h1 h2 => Below.heap_setCell _ ⟨w.heap.size + 1, 0, none⟩ _ k h2, by simp [World.setCell]⟩, by simp [World.setCell]; exact h.size⟩
theorem al_step {w W w3 : World} {B : Nat} (hB : w.heap.size + 2 ≤ B) {pre : List (Nat × ByteArray)} {x : Nat × ByteArray} {v v' : Value} {b : Bool} (hv : W.heap[w.heap.size]? = some (.cells #[v] 29 (0, 0))) (hF : W.heap[w.heap.size + 1]? = some (.cells #[.bool b] 4 (0, 0))) (ho : W.ownsRow B 9 1 v pre.length (cellsS (pre.map Prod.snd))) (h5 : Below w.heap.size w W) (h6 : B ≤ W.heap.size) (hb : fineB (pre ++ [x]) = b)
    (ho3 : w3.ownsRow B 9 1 v' (pre.length + 1) (cellsS (pre.map Prod.snd) ++ [.string x.2])) (hg3 : (W.alloc (.cells #[.string x.2] 9)).grownBy w3 v.ownBlock) :
    Hid (w3.heap[w.heap.size]? = some (.cells #[v] 29 (0, 0))) ∧
    Hid (KeepsOthers W (w3.setCell ⟨w.heap.size, 0, none⟩ v')) ∧ Hid (Same2 B w.heap.size (w.heap.size + 1) W (w3.setCell ⟨w.heap.size, 0, none⟩ v')) ∧
    Hid (AlI w B (pre ++ [x]) (w3.setCell ⟨w.heap.size, 0, none⟩ v')) := by
  have bB : Below B W w3 := ((Below.refl B W).alloc h6 (.cells #[.string x.2] 9)).grown hg3 (by simp; omega) (fun k hk => (ho.lt k hk).1)
  have c3 : w3.heap[w.heap.size]? = some (.cells #[v] 29 (0, 0)) := (bB.block _ (by omega)).trans hv
  have d3 : w3.heap[w.heap.size + 1]? = some (.cells #[.bool b] 4 (0, 0)) := (bB.block _ (by omega)).trans hF
  have below3 : Below w.heap.size w w3 := h5.trans (bB.mono (by omega))
  have ko : KeepsOthers W w3 := (KeepsOthers.alloc W _).trans (KeepsOthers.of_grownBy hg3 (fun j o e he => by
    rcases ho.2 with ⟨e2, _⟩ | ⟨g2, cap2, cur2, e2, hb2, hgg2, _⟩
    · rw [e2] at e; cases e
    · rw [e2] at e
      cases e
      have : (W.alloc (.cells #[.string x.2] 9)).heap[g2]? = some (.cells cur2 9 (0, 0)) := (Below.heap_alloc W _ g2 (Array.getElem?_eq_some_iff.1 hgg2).1).trans hgg2
      rw [this] at he
      cases he
      rfl))
  refine ⟨c3, ko.trans (KeepsOthers.setCell _ _ _), ⟨fun k hk hk1 _ => ?_, ?_⟩, ?_⟩
  · exact (Below.heap_setCell _ ⟨w.heap.size, 0, none⟩ _ k hk1).trans (bB.block k hk)
  · simp [World.setCell]; exact bB.size
  · have nb : ∀ (u : Value) (n : Nat) (xs : List Value) (e : TypeId) (W' : World), W'.ownsRow B e 1 u n xs → ∀ k, k < B → u.ownBlock ≠ some k := fun u n xs e W' h k hk e2 => by have := (h.lt k e2).1; omega
    have q0 := one_setCell (u := v') c3
    refine ⟨⟨v', q0, ?_⟩, ?_, below3.setCell (p := ⟨w.heap.size, 0, none⟩) (Nat.le_refl _) _, by simp [World.setCell]; exact Nat.le_trans h6 bB.size⟩
    · rw [List.length_append, List.map_append, cellsS_app]
      exact ownsRow_setCell_other ho3 (a := ⟨w.heap.size, 0, none⟩) (nb _ _ _ _ _ ho3 w.heap.size (by omega)) v'
    · rw [hb]
      exact (Below.heap_setCell _ ⟨w.heap.size, 0, none⟩ _ (w.heap.size + 1) (by simp)).trans d3
theorem nf (E : Nat) (W : World) : (binOp .eql 53 (.func (.func 49) #[] #[.pointer (some ⟨E, 0, none⟩)]) .nilFunc).run Try.prog W = .ok (.bool false) W := by
  first
    | rfl
    | kernel_rfl
theorem new_at (W : World) (k : Nat) (u : Value) (s : ByteArray) : ((W.setCell ⟨k, 0, none⟩ u).alloc (.cells #[.string s] 9)).heap[W.heap.size]? = some (.cells #[.string s] 9 (0, 0)) := by
  have h := heap_alloc_new (W.setCell ⟨k, 0, none⟩ u) (.cells #[.string s] 9)
  rwa [show (W.setCell ⟨k, 0, none⟩ u).heap.size = W.heap.size by simp [World.setCell]] at h
def GoneQ (l : List ByteArray) (w : World) (e : Ending) (w' : World) : Prop := ∃ v, e = .returned (.tuple #[v, .bool true]) ∧ w'.ownsRow w.heap.size 9 1 v l.length (cellsS l) ∧ Below w.heap.size w w'
def tmpsA (v0 : Value) (C E1 E2 : Nat) (i s : Value) : Array Value := #[v0, undef, .slice none 0 0, .bool false, .pointer (some ⟨C, 0, none⟩), .pointer (some ⟨C + 1, 0, none⟩), i, s, v0, .func (.func 49) #[] #[.pointer (some ⟨E1, 0, none⟩)], .bool false, v0, .func (.func 49) #[] #[.pointer (some ⟨E2, 0, none⟩)], i, s, undef, undef, undef, undef, undef, undef, undef, undef, undef, undef, undef, undef, undef]
set_option maxHeartbeats 4000000 in
theorem gone_of (v0 : Value) (l : List ByteArray) (w : World) (hl : l.length ≤ 500000) (hall : ∀ W, Below w.heap.size w W → Calls Try.prog 35 #[v0] W (AllQ l W)) :
    Calls Try.prog 36 #[v0] w (GoneQ l w) := by
  have HALL := Lib.hid hall
  clear hall
  refine (callsIn_wide (n := 4)).1 ?_
  refine callsIn_of_wp_marks Try.func36 rfl trivial ?_ rfl
  simp only [Try.ntmps36, List.size_toArray, List.length_cons, List.length_nil, Nat.reduceAdd, Nat.reduceSub, Array.replicate_succ, Array.replicate_zero, List.push_toArray, List.append_toArray, List.nil_append, List.cons_append]
  gi_wp2_with fail
  have hb1 : Below w.heap.size w ((w.alloc (.cells #[.slice none 0 0] 29)).alloc (.cells #[.bool true] 4)) := ((Below.refl _ w).alloc (Nat.le_refl _) _).alloc (by simp) _
  have hs1 : ((w.alloc (.cells #[.slice none 0 0] 29)).alloc (.cells #[.bool true] 4)).heap.size = w.heap.size + 1 + 1 := by simp
  have hc1 : ((w.alloc (.cells #[.slice none 0 0] 29)).alloc (.cells #[.bool true] 4)).heap[w.heap.size]? = some (.cells #[.slice none 0 0] 29 (0, 0)) := heap_alloc2_old _ _ _
  have hd1 : ((w.alloc (.cells #[.slice none 0 0] 29)).alloc (.cells #[.bool true] 4)).heap[w.heap.size + 1]? = some (.cells #[.bool true] 4 (0, 0)) := heap_alloc2_new _ _ _
  generalize (w.alloc (.cells #[.slice none 0 0] 29)).alloc (.cells #[.bool true] 4) = w1 at *
  refine ⟨trivial, (callsIn_wide.2 (HALL.out w1 hb1)).mono ?_⟩
  rintro e w2 ⟨E1, A1, c1, rfl, -, -, -, -, hb2⟩
  have hnf := nf E1 w2
  gi_wp2_with fail
  have hb12 := hb1.trans (hb2.mono hb1.size)
  refine ⟨trivial, (callsIn_wide.2 (HALL.out w2 hb12)).mono ?_⟩
  rintro e w3 ⟨E2, A2, c2, rfl, hE2, hE2b, hr2, hA2, hb3⟩
  gi_wp2_with fail
  have hb13 := hb12.trans (hb3.mono hb12.size)
  have hb13' := hb2.trans (hb3.mono hb2.size)
  have hc3 := (hb13'.block w.heap.size (by omega)).trans hc1
  have hd3 := (hb13'.block (w.heap.size + 1) (by omega)).trans hd1
  have hs12 := hb2.size
  have hs23 := hb3.size
  obtain ⟨B, hB⟩ : ∃ B, B = w3.heap.size := ⟨_, rfl⟩
  refine rangeC (n := 4) (by omega) (gf := 49) (lb := #[.pointer (some ⟨E2, 0, none⟩)]) rfl (enters_of Try.func49 (by kernel_rfl) rfl)
    (all_seq 3 B w.heap.size (w.heap.size + 1) E2 A2 c2 l w3 (by omega) hB hE2 (by omega) (by omega) hr2 (fun ad e _ => by have := hA2 ad e; omega) hl)
    (fun x A' k o o' hx hk ho => trivial) Same2.trans (fun W k o hk => ⟨fun i hi _ _ => World.putObj_heap_other (by omega), by simp⟩) (fun _ => rfl)
    (AlI w B) (fun pre A1 A2 row h hg ht => h.keep (by omega) hg (fun r e => ⟨by have := (ht r e).1; omega, (ht r e).2⟩)) ⟨⟨_, hc3, World.ownsRow_nil _ _ _ _⟩, hd3, hb13, by omega⟩
    (fun x => { tmps := tmpsA v0 w.heap.size E1 E2 (.int .i64 x.1) (.string x.2), defers := [] })
    ?assign ?body ?done
  case assign =>
    intro l' x W K hK
    unfold tmpsA at hK
    gi_wp2
    exact hK
  case body =>
    rintro l' pre x W hx hI hlen
    obtain ⟨i0, hi, hz0, hz1, hz2⟩ := info_parts str_info
    obtain ⟨vo, hv, ho⟩ := hI.out
    obtain ⟨Ao, co, hvo, _⟩ := own_rdV ho
    subst hvo
    have hcell := cell_of_one hv
    have hcF := cell_of_one hI.fine
    have hfF := free_of_one hI.fine
    have hple : pre.length ≤ 2000000 := by omega
    have HSN := Lib.hid (fineB_snoc pre x)
    have HBe : Hid (w.heap.size + 2 ≤ B) := Lib.hid (by omega)
    obtain ⟨px, s⟩ := x
    dsimp only at HSN
    by_cases hfi : fineB pre = true
    · by_cases hpx : px = pre.length
      · subst hpx
        have HFB : Hid (fineB (pre ++ [(pre.length, s)]) = true) := Lib.hid (by rw [HSN.out, hfi]; simp)
        rw [hfi] at hcF
        have HAF := Lib.hid (al_fine HBe.out hI hv ho true)
        clear hx hI hv ho hfi hc1 hd1 hc3 hd3 hb1 hb2 hb3 hb12 hb13 hb13' hE2 hr2 hA2 hnf hB
        obtain ⟨g1, g2, g3, g4, g5, g6, g7⟩ := HAF.out
        have hcell1 := cell_of_one g1
        have HG1 := Lib.hid g1
        have HG2 := Lib.hid g2
        have HG3 := Lib.hid g3
        have HG4 := Lib.hid g4
        clear g1 g2 g3 g4 HAF
        unfold tmpsA
        gi_wp2_with (gi_at_builtin; refine wpListIn_append_own _ rfl (.tmp 22) (.tmp 24) 29 rfl B 9 i0 _ 1 16 Try.underlying29 hi hz0 hz1 hz2 rfl (by omega) _ pre.length (cellsS (pre.map Prod.snd)) rfl (HG3.out.alloc _) ⟨W.heap.size, 0, none⟩ 1 1 [.string s] rfl rfl (World.news_of_block (cs := #[.string s]) (t := 9) (fr := (0, 0)) (new_at W (w.heap.size + 1) (.bool true) s)) (by simp [Value.oneCell']) (by simp only [maxLen]; omega) (by omega) (by simp at g7 ⊢; omega) ?_; intro v3 w4 ho3 hg3 _; have HS := al_step (x := (pre.length, s)) HBe.out HG1.out HG2.out HG3.out HG4.out g7 HFB.out ho3 hg3; obtain ⟨Hcd, HK, H2, HIn⟩ := HS; obtain ⟨A3, c3, hv3, _⟩ := own_rdV ho3; subst hv3; have hc4 := cell_of_one Hcd.out; have hf4 := free_of_one Hcd.out; clear ho3 hg3)
        exact ⟨g5.trans HK.out, g6.trans H2.out, HIn.out⟩
      · have HFB : Hid (fineB (pre ++ [(px, s)]) = false) := Lib.hid (by rw [HSN.out, hfi]; simp [hpx])
        rw [hfi] at hcF
        have HAF := Lib.hid (al_fine HBe.out hI hv ho false)
        have e1 : ((px : Int) == (pre.length : Int)) = false := by simp; omega
        have e2 : (px == pre.length) = false := by simpa using hpx
        clear hpx
        clear hx hI hv ho hfi hc1 hd1 hc3 hd3 hb1 hb2 hb3 hb12 hb13 hb13' hE2 hr2 hA2 hnf hB
        obtain ⟨g1, g2, g3, g4, g5, g6, g7⟩ := HAF.out
        have hcell1 := cell_of_one g1
        have HG1 := Lib.hid g1
        have HG2 := Lib.hid g2
        have HG3 := Lib.hid g3
        have HG4 := Lib.hid g4
        clear g1 g2 g3 g4 HAF
        unfold tmpsA
        gi_wp2_with (gi_at_builtin; refine wpListIn_append_own _ rfl (.tmp 22) (.tmp 24) 29 rfl B 9 i0 _ 1 16 Try.underlying29 hi hz0 hz1 hz2 rfl (by omega) _ pre.length (cellsS (pre.map Prod.snd)) rfl (HG3.out.alloc _) ⟨W.heap.size, 0, none⟩ 1 1 [.string s] rfl rfl (World.news_of_block (cs := #[.string s]) (t := 9) (fr := (0, 0)) (new_at W (w.heap.size + 1) (.bool false) s)) (by simp [Value.oneCell']) (by simp only [maxLen]; omega) (by omega) (by simp at g7 ⊢; omega) ?_; intro v3 w4 ho3 hg3 _; have HS := al_step (x := (px, s)) HBe.out HG1.out HG2.out HG3.out HG4.out g7 HFB.out ho3 hg3; obtain ⟨Hcd, HK, H2, HIn⟩ := HS; obtain ⟨A3, c3, hv3, _⟩ := own_rdV ho3; subst hv3; have hc4 := cell_of_one Hcd.out; have hf4 := free_of_one Hcd.out; clear ho3 hg3)
        exact ⟨g5.trans HK.out, g6.trans H2.out, HIn.out⟩
    · have hfi' : fineB pre = false := by simpa using hfi
      have HFB : Hid (fineB (pre ++ [(px, s)]) = false) := Lib.hid (by rw [HSN.out, hfi']; simp)
      rw [hfi'] at hcF
      have HAF := Lib.hid (al_fine HBe.out hI hv ho false)
      clear hx hI hv ho hfi hfi' hc1 hd1 hc3 hd3 hb1 hb2 hb3 hb12 hb13 hb13' hE2 hr2 hA2 hnf hB
      obtain ⟨g1, g2, g3, g4, g5, g6, g7⟩ := HAF.out
      have hcell1 := cell_of_one g1
      have HG1 := Lib.hid g1
      have HG2 := Lib.hid g2
      have HG3 := Lib.hid g3
      have HG4 := Lib.hid g4
      clear g1 g2 g3 g4 HAF
      unfold tmpsA
      gi_wp2_with (gi_at_builtin; refine wpListIn_append_own _ rfl (.tmp 22) (.tmp 24) 29 rfl B 9 i0 _ 1 16 Try.underlying29 hi hz0 hz1 hz2 rfl (by omega) _ pre.length (cellsS (pre.map Prod.snd)) rfl (HG3.out.alloc _) ⟨W.heap.size, 0, none⟩ 1 1 [.string s] rfl rfl (World.news_of_block (cs := #[.string s]) (t := 9) (fr := (0, 0)) (new_at W (w.heap.size + 1) (.bool false) s)) (by simp [Value.oneCell']) (by simp only [maxLen]; omega) (by omega) (by simp at g7 ⊢; omega) ?_; intro v3 w4 ho3 hg3 _; have HS := al_step (x := (px, s)) HBe.out HG1.out HG2.out HG3.out HG4.out g7 HFB.out ho3 hg3; obtain ⟨Hcd, HK, H2, HIn⟩ := HS; obtain ⟨A3, c3, hv3, _⟩ := own_rdV ho3; subst hv3; have hc4 := cell_of_one Hcd.out; have hf4 := free_of_one Hcd.out; clear ho3 hg3)
      exact ⟨g5.trans HK.out, g6.trans H2.out, HIn.out⟩
  case done =>
    rintro Dd xs W hDd hS hI hdef
    subst hS
    obtain ⟨vo, hv, ho⟩ := hI.out
    have hfin := hI.fine
    rw [fineB_num] at hfin
    rw [num_snd, num_len l _ (Nat.le_refl _)] at ho
    have hcell := cell_of_one hv
    have hcF := cell_of_one hfin
    have HI := Lib.hid hI
    have HO := Lib.hid ho
    have HDF := Lib.hid hdef
    have HBe := Lib.hid hB
    have hBw : w.heap.size ≤ B := by omega
    clear hI hv ho hdef hfin hc1 hd1 hc3 hd3 hb1 hb2 hb3 hb12 hb13 hb13' hE2 hr2 hA2 hnf hB
    gi_wp2_with fail
    gi_region
    gi_wp2
    have hsz := HI.out.size
    have hrow : W.drew.grownBy (W.drew.putObj Dd (.deferred none)) (some Dd) := grownBy_putObj' _ _ _
    have htd : ∀ r, some Dd = some r → ∃ o : Obj, W.drew.heap[r]? = some o ∧ o.isCells = false := fun r e => by cases e; exact ⟨_, HDF.out, rfl⟩
    refine ⟨by simp, .inl ⟨_, _, rfl, run_takeDeferred (w := W.drew) HDF.out, ?_⟩⟩
    refine ⟨_, results_tmp2 Try.results36 _ _ _, vo, rfl, own_down (own_keepc (World.ownsRow.drew HO.out) hrow htd) (by omega), ?_⟩
    exact (Below.drewN' HI.out.below 1).grown hrow (by show w.heap.size ≤ W.heap.size; omega) (fun k e => by cases e; omega)
end Go.Proofs.Ytnnlfhdjakabmaa
