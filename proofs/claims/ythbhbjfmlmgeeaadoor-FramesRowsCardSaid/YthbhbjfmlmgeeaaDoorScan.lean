/- The lists of the frames with which bytes begin. -/
import Derived.Test.YthbhbjfmlmgeeaaDoorLists
import Derived.Test.YthbhbjfmlmgeeaaDoorOwn
namespace Go.Proofs.YthbhbjfmlmgeeaaDoor
open Go Go.RowKit
open Go.Shelf
attribute [local go_sem] Oper.semAt_some
def ScanEnd (w : World) (l : List UInt8) (e : Ending) (w' : World) : Prop := ∃ v xs, e = .returned (.tuple #[v, .int .i64 ((scanL l).2 : Nat)]) ∧ Scanned l xs ∧ w'.ownsRow w.heap.size 22 1 v xs.length (xs.map Item.v) ∧ (∀ x ∈ xs, itemOk w.heap.size x w') ∧ Below w.heap.size w w'
theorem own_keepc {A A' : World} {B n : Nat} {e : TypeId} {v : Value} {xs : List Value} {row : Option Nat} (h : A.ownsRow B e 1 v n xs) (hg : A.grownBy A' row) (ht : ∀ r, row = some r → ∃ o : Obj, A.heap[r]? = some o ∧ o.isCells = false) : A'.ownsRow B e 1 v n xs := by
  refine h.kept hg ?_
  rcases h.2 with ⟨rfl, _⟩ | ⟨g, cap, cur, rfl, hb, hgg, rest⟩
  · exact .inl rfl
  · right
    intro e
    obtain ⟨o, ho, hc⟩ := ht g e.symm
    rw [hgg] at ho
    cases ho
    cases hc
theorem cells_keepc {A A' : World} {k : Nat} {c : Array Value} {t : TypeId} {row : Option Nat} (h : A.heap[k]? = some (.cells c t (0, 0))) (hg : A.grownBy A' row) (ht : ∀ r, row = some r → ∃ o : Obj, A.heap[r]? = some o ∧ o.isCells = false) : A'.heap[k]? = some (.cells c t (0, 0)) := by
  refine (hg.block k (Array.getElem?_eq_some_iff.1 h).1 fun e => ?_).trans h
  obtain ⟨o, ho, hc⟩ := ht k e.symm
  rw [h] at ho
  cases ho
  cases hc
theorem slice_info : (Tryd.prog.info? 22).map (fun i => (i.zero, i.size, i.bytes)) = some (some (.slice none 0 0), 1, 24) := by kernel_rfl
/-- What holds between two rounds. -/
structure ScanI (w : World) (B : Nat) (pre : List Item) (W : World) : Prop where
  out : ∃ v, W.heap[w.heap.size]? = some (.cells #[v] 39 (0, 0)) ∧ W.ownsRow B 22 1 v pre.length (pre.map Item.v)
  at_ : W.heap[w.heap.size + 1]? = some (.cells #[.int .i64 (lastAt pre : Nat)] 3 (0, 0))
  items : ∀ x ∈ pre, itemOk B x W
  below : Below w.heap.size w W
  size : B ≤ W.heap.size
theorem ScanI.keep {w : World} {B : Nat} (hB : w.heap.size ≤ B) {pre : List Item} {A A' : World} {row : Option Nat} (h : ScanI w B pre A) (hg : A.grownBy A' row) (ht : ∀ r, row = some r → B ≤ r ∧ ∃ o : Obj, A.heap[r]? = some o ∧ o.isCells = false) : ScanI w B pre A' := by
  have ht' : ∀ r, row = some r → ∃ o : Obj, A.heap[r]? = some o ∧ o.isCells = false := fun r e => (ht r e).2
  obtain ⟨⟨v, h1, h2⟩, h3, h4, h5, h6⟩ := h
  exact ⟨⟨v, cells_keepc h1 hg ht', own_keepc h2 hg ht'⟩, cells_keepc h3 hg ht', fun x hx => own_keepc (h4 x hx) hg ht', h5.grown hg h5.size (fun k e => by have := (ht k e).1; omega), Nat.le_trans h6 hg.size⟩
/-- A round's body. -/
theorem scan_step {w W w3 : World} {B : Nat} (hB : w.heap.size + 3 = B) {pre : List Item} {x : Item} {v v' : Value} (h : ScanI w B pre W) (hx : itemOk B x W) (hv : W.heap[w.heap.size]? = some (.cells #[v] 39 (0, 0))) (ho : W.ownsRow B 22 1 v pre.length (pre.map Item.v))
    (ho3 : w3.ownsRow B 22 1 v' (pre.length + 1) (pre.map Item.v ++ [x.v])) (hg3 : (W.alloc (.cells #[x.v] 22)).grownBy w3 v.ownBlock) :
    Hid (w3.heap[w.heap.size]? = some (.cells #[v] 39 (0, 0)) ∧ w3.heap[w.heap.size + 1]? = some (.cells #[.int .i64 (lastAt pre : Nat)] 3 (0, 0))) ∧
    Hid (KeepsOthers W ((w3.setCell ⟨w.heap.size, 0, none⟩ v').setCell ⟨w.heap.size + 1, 0, none⟩ (.int .i64 x.at_))) ∧ Hid (Same2 B w.heap.size (w.heap.size + 1) W ((w3.setCell ⟨w.heap.size, 0, none⟩ v').setCell ⟨w.heap.size + 1, 0, none⟩ (.int .i64 x.at_))) ∧
    Hid (ScanI w B (pre ++ [x]) ((w3.setCell ⟨w.heap.size, 0, none⟩ v').setCell ⟨w.heap.size + 1, 0, none⟩ (.int .i64 x.at_))) := by
  obtain ⟨_, h3, h4, h5, h6⟩ := h
  have bB : Below B W w3 := ((Below.refl B W).alloc h6 (.cells #[x.v] 22)).grown hg3 (by simp; omega) (fun k hk => (ho.lt k hk).1)
  have c3 : w3.heap[w.heap.size]? = some (.cells #[v] 39 (0, 0)) := (bB.block _ (by omega)).trans hv
  have d3 : w3.heap[w.heap.size + 1]? = some (.cells #[.int .i64 (lastAt pre : Nat)] 3 (0, 0)) := (bB.block _ (by omega)).trans h3
  have items3 : ∀ y ∈ pre ++ [x], itemOk B y w3 := by
    have key : ∀ y, itemOk B y W → itemOk B y w3 := by
      intro y hy
      refine World.ownsRow.kept (w := W.alloc (.cells #[x.v] 22)) (hy.alloc _) hg3 ?_
      rcases hy.2 with ⟨e, _⟩ | ⟨g, cap, cur, e, hb, hgg, _⟩
      · left; rw [e]; rfl
      · right
        rw [e]
        rcases ho.2 with ⟨e2, _⟩ | ⟨g2, cap2, cur2, e2, hb2, hgg2, _⟩
        · rw [e2]; simp [Value.ownBlock]
        · rw [e2]
          simp only [Value.ownBlock, ne_eq, Option.some.injEq]
          rintro rfl
          rw [hgg] at hgg2
          cases hgg2
    intro y hy
    rcases List.mem_append.1 hy with hy | hy
    · exact key y (h4 y hy)
    · obtain rfl : y = x := by simpa using hy
      exact key y hx
  have below3 : Below w.heap.size w w3 := h5.trans (bB.mono (by omega))
  have ko : KeepsOthers W w3 := (KeepsOthers.alloc W _).trans (KeepsOthers.of_grownBy hg3 (fun j o e he => by
    rcases ho.2 with ⟨e2, _⟩ | ⟨g2, cap2, cur2, e2, hb2, hgg2, _⟩
    · rw [e2] at e; cases e
    · rw [e2] at e
      cases e
      have : (W.alloc (.cells #[x.v] 22)).heap[g2]? = some (.cells cur2 22 (0, 0)) := (Below.heap_alloc W _ g2 (Array.getElem?_eq_some_iff.1 hgg2).1).trans hgg2
      rw [this] at he
      cases he
      rfl))
  refine ⟨⟨c3, d3⟩, (ko.trans (KeepsOthers.setCell _ _ _)).trans (KeepsOthers.setCell _ _ _), ⟨fun k hk hk1 hk2 => ?_, ?_⟩, ?_⟩
  · exact (Below.heap_setCell _ ⟨w.heap.size + 1, 0, none⟩ _ k hk2).trans ((Below.heap_setCell _ ⟨w.heap.size, 0, none⟩ _ k hk1).trans (bB.block k hk))
  · simp [World.setCell]; exact bB.size
  · have nb : ∀ (u : Value) (n : Nat) (xs : List Value) (e : TypeId) (W' : World), W'.ownsRow B e 1 u n xs → ∀ k, k < B → u.ownBlock ≠ some k := fun u n xs e W' h k hk e2 => by have := (h.lt k e2).1; omega
    have q0 := one_setCell (u := v') c3
    have q1 := (Below.heap_setCell w3 ⟨w.heap.size, 0, none⟩ v' (w.heap.size + 1) (by simp)).trans d3
    refine ⟨⟨v', (Below.heap_setCell _ ⟨w.heap.size + 1, 0, none⟩ _ w.heap.size (by simp)).trans q0, ?_⟩, ?_, fun y hy => ?_, (below3.setCell (p := ⟨w.heap.size, 0, none⟩) (Nat.le_refl _) _).setCell (p := ⟨w.heap.size + 1, 0, none⟩) (by simp) _, by simp [World.setCell]; exact Nat.le_trans h6 bB.size⟩
    · rw [List.length_append, List.map_append]
      have o1 := ownsRow_setCell_other ho3 (a := ⟨w.heap.size, 0, none⟩) (nb _ _ _ _ _ ho3 w.heap.size (by omega)) v'
      exact ownsRow_setCell_other o1 (a := ⟨w.heap.size + 1, 0, none⟩) (nb _ _ _ _ _ o1 (w.heap.size + 1) (by omega)) _
    · rw [lastAt_snoc]
      exact one_setCell (u := .int .i64 (x.at_ : Nat)) q1
    · have o0 := items3 y hy
      have o1 := ownsRow_setCell_other o0 (a := ⟨w.heap.size, 0, none⟩) (nb _ _ _ _ _ o0 w.heap.size (by omega)) v'
      exact ownsRow_setCell_other o1 (a := ⟨w.heap.size + 1, 0, none⟩) (nb _ _ _ _ _ o1 (w.heap.size + 1) (by omega)) _
def tmpsS (A : Option Addr) (n c C : Nat) (z v z2 v2 : Value) : Array Value := #[.slice A n c, undef, .slice none 0 0, .int .i64 0, .pointer (some ⟨C, 0, none⟩), .pointer (some ⟨C + 1, 0, none⟩), z, v, .slice A n c, .func (.func 45) #[] #[.pointer (some ⟨C + 1 + 1, 0, none⟩)], z2, v2, undef, undef, undef, undef, undef, undef, undef]
set_option maxHeartbeats 4000000 in
theorem scan_any (A : Option Addr) (n c : Nat) (l : List UInt8) (w : World) (hn : l.length = n) (hnc : n ≤ c) (hm : n ≤ 2000000000) (hA : A = none → c = 0) (hr : Rd w A l) (hg : Tabs w) (h0 : 0 < w.heap.size) :
    Calls Tryd.prog 19 #[.slice A n c] w (ScanEnd w l) := by
  subst hn
  have HR := Lib.hid hr
  have HG := Lib.hid hg
  clear hr hg
  refine (callsIn_wide (n := 4)).1 ?_
  refine callsIn_of_wp_marks Tryd.func19 rfl trivial ?_ rfl
  simp only [Tryd.ntmps19, List.size_toArray, List.length_cons, List.length_nil, Nat.reduceAdd, Nat.reduceSub, Array.replicate_succ, Array.replicate_zero, List.push_toArray, List.append_toArray, List.nil_append, List.cons_append]
  gi_wp2_with fail
  refine ⟨trivial, (callsIn_wide.2 (lists_any _ _ _ _)).mono ?_⟩
  rintro e w3 ⟨rfl, rfl⟩
  gi_wp2_with fail
  have hb1 : Below w.heap.size w ((w.alloc (.cells #[.slice none 0 0] 39)).alloc (.cells #[.int .i64 0] 3)) := ((Below.refl _ w).alloc (Nat.le_refl _) _).alloc (by simp) _
  have hs1 : ((w.alloc (.cells #[.slice none 0 0] 39)).alloc (.cells #[.int .i64 0] 3)).heap.size = w.heap.size + 1 + 1 := by simp
  have hc1 : ((w.alloc (.cells #[.slice none 0 0] 39)).alloc (.cells #[.int .i64 0] 3)).heap[w.heap.size]? = some (.cells #[.slice none 0 0] 39 (0, 0)) := heap_alloc2_old _ _ _
  have hd1 : ((w.alloc (.cells #[.slice none 0 0] 39)).alloc (.cells #[.int .i64 0] 3)).heap[w.heap.size + 1]? = some (.cells #[.int .i64 0] 3 (0, 0)) := heap_alloc2_new _ _ _
  generalize (w.alloc (.cells #[.slice none 0 0] 39)).alloc (.cells #[.int .i64 0] 3) = w1 at *
  have hbx : (w1.alloc (.cells #[.slice A l.length c] 25)).heap[w.heap.size + 1 + 1]? = some (.cells #[.slice A l.length c] 25 (0, 0)) := by rw [← hs1]; exact heap_alloc_new w1 _
  have hb2 : Below w.heap.size w (w1.alloc (.cells #[.slice A l.length c] 25)) := hb1.alloc (by omega) _
  have hs2 : (w1.alloc (.cells #[.slice A l.length c] 25)).heap.size = w.heap.size + 3 := by simp [hs1]
  have hc2 := (Below.heap_alloc w1 (.cells #[.slice A l.length c] 25) w.heap.size (by omega)).trans hc1
  have hd2 := (Below.heap_alloc w1 (.cells #[.slice A l.length c] 25) (w.heap.size + 1) (by omega)).trans hd1
  generalize w1.alloc (.cells #[.slice A l.length c] 25) = wl at *
  obtain ⟨B, hB⟩ : ∃ B, B = w.heap.size + 3 := ⟨_, rfl⟩
  have hr2 := HR.out.below hb2
  have hAC : ∀ ad, A = some ad → 0 < l.length → ad.block < B ∧ ad.block ≠ w.heap.size ∧ ad.block ≠ w.heap.size + 1 := by
    intro ad h hp
    obtain ⟨b, off, h2, hlt, _⟩ := HR.out hp
    rw [h] at h2
    cases h2
    show b < B ∧ b ≠ w.heap.size ∧ b ≠ w.heap.size + 1
    omega
  refine rangeC (n := 4) (by omega) (gf := 45) (lb := #[.pointer (some ⟨w.heap.size + 1 + 1, 0, none⟩)]) rfl (enters_of Tryd.func45 (by kernel_rfl) rfl)
    (lists_seq 3 B w.heap.size (w.heap.size + 1) (w.heap.size + 1 + 1) A c l wl (by omega) (by omega) (by omega) (by omega) (by omega) (by omega) (by omega) (by omega) (by omega) hbx hnc hm hA hr2 hAC (HG.out.below h0 hb2))
    (fun x A' k o o' hx hk ho => own_keepc hx (grownBy_putObj' _ _ _) (fun r e => by cases e; exact ⟨o, hk, ho⟩)) Same2.trans (fun W k o hk => ⟨fun i hi _ _ => World.putObj_heap_other (by omega), by simp⟩) (fun _ => rfl)
    (ScanI w B) (fun pre A1 A2 row h hg ht => h.keep (by omega) hg (fun r e => ⟨by have := (ht r e).1; omega, (ht r e).2⟩)) ⟨⟨_, hc2, World.ownsRow_nil _ _ _ _⟩, hd2, (fun x hx => by cases hx), hb2, by omega⟩
    (fun x => { tmps := tmpsS A l.length c w.heap.size (.int .i64 x.at_) x.v (.int .i64 x.at_) x.v, defers := [] })
    ?assign ?body ?done
  case assign =>
    intro l' x W K hK
    unfold tmpsS at hK
    gi_wp2
    exact hK
  case body =>
    rintro l' pre ⟨at_, v, ls⟩ W hx hI hlen
    obtain ⟨i0, hi, hz0, hz1, hz2⟩ := info_parts slice_info
    obtain ⟨vo, hv, ho⟩ := hI.out
    obtain ⟨Av, cv, hve, _⟩ := own_rdV hx
    obtain ⟨Ao, co, hvo, _⟩ := own_rdV ho
    dsimp only at hve
    subst hve
    subst hvo
    have hcell := cell_of_one hv
    have hple : pre.length ≤ 2000000000 := by omega
    have HX := Lib.hid hx
    have HI := Lib.hid hI
    have HV := Lib.hid hv
    have HO := Lib.hid ho
    have hBs := hI.size
    clear hx hI hv ho hr2 hAC hbx hc2 hd2 hb1 hb2 hc1 hd1
    unfold tmpsS
    gi_wp2_with (gi_at_builtin; refine wpListIn_append_own _ rfl (.tmp 12) (.tmp 14) 39 rfl B 22 i0 _ 1 24 Tryd.underlying39 hi hz0 hz1 hz2 rfl (by omega) _ pre.length (pre.map Item.v) rfl (HO.out.alloc _) ⟨W.heap.size, 0, none⟩ 1 1 [.slice Av ls.length cv] rfl rfl (World.news_of_block (cs := #[.slice Av ls.length cv]) (t := 22) (fr := (0, 0)) (heap_alloc_new W _)) (by simp [Value.oneCell']) (by simp only [maxLen]; omega) (by omega) (by simp; omega) ?_; intro v3 w3 ho3 hg3 _; have HS := scan_step (x := ⟨at_, .slice Av ls.length cv, ls⟩) (by omega) HI.out HX.out HV.out HO.out ho3 hg3; obtain ⟨Hcd, HK, H2, HIn⟩ := HS; obtain ⟨A3, c3, hv3, _⟩ := own_rdV ho3; subst hv3; have hc3 := cell_of_one Hcd.out.1; have hf3 := free_of_one Hcd.out.1; have hd3 := cell_of_one Hcd.out.2; have he3 := free_of_one Hcd.out.2; clear ho3 hg3)
    exact ⟨HK.out, by have h2 := H2.out; rw [hB] at h2; exact h2, by have h2 := HIn.out; rw [hB] at h2; exact h2⟩
  case done =>
    rintro D xs W hD hS hI hdef
    obtain ⟨vo, hv, ho⟩ := hI.out
    have hcell := cell_of_one hv
    have hdell := cell_of_one hI.at_
    have HS := Lib.hid hS
    have HI := Lib.hid hI
    have HO := Lib.hid ho
    have HDF := Lib.hid hdef
    clear hS hI hv ho hdef hr2 hAC hbx hc2 hd2 hb1 hb2 hc1 hd1
    gi_wp2_with fail
    gi_region
    gi_wp2
    have hsz := HI.out.size
    have hrow : W.drew.grownBy (W.drew.putObj D (.deferred none)) (some D) := grownBy_putObj' _ _ _
    have htd : ∀ r, some D = some r → ∃ o : Obj, W.drew.heap[r]? = some o ∧ o.isCells = false := fun r e => by cases e; exact ⟨_, HDF.out, rfl⟩
    refine ⟨by simp, .inl ⟨_, _, rfl, run_takeDeferred (w := W.drew) HDF.out, ?_⟩⟩
    refine ⟨_, results_tmp2 Tryd.results19 _ _ _, vo, xs, by rw [← HS.out.2]; rfl, HS.out, own_down (own_keepc (World.ownsRow.drew HO.out) hrow htd) (by omega), fun x hx => own_down (own_keepc (World.ownsRow.drew (HI.out.items x hx)) hrow htd) (by omega), ?_⟩
    exact (below_drewN HI.out.below 1).grown hrow (by show w.heap.size ≤ W.heap.size; omega) (fun k e => by cases e; omega)
end Go.Proofs.YthbhbjfmlmgeeaaDoor
