/- All that a cache tells, as a list. -/
import Derived.Test.YtpomaabkgbaikaaDoorAll1
import Derived.RangeFuncBox
namespace Go.Proofs.YtpomaabkgbaikaaDoor
open Go Go.RowKit Go.Shelf
attribute [local go_sem] Oper.semAt_some
/-- The list that grows, in its box. -/
structure AI (w : World) (B : Nat) (pre : List En) (W : World) : Prop where
  out : ∃ v, W.heap[w.heap.size]? = some (.cells #[v] 28 (0, 0)) ∧ W.ownsRow B 49 2 v pre.length (cellsE pre)
  bel : Below w.heap.size w W
  big : B ≤ W.heap.size
theorem cells_keepc {A A' : World} {row : Option Nat} {b : Nat} {x : Array Value} {t : TypeId} {p : Nat × Nat} (h : A.heap[b]? = some (.cells x t p)) (hg : A.grownBy A' row) (ht : ∀ r, row = some r → ∃ o : Obj, A.heap[r]? = some o ∧ o.isCells = false) : A'.heap[b]? = some (.cells x t p) := by
  refine (hg.block b (Array.getElem?_eq_some_iff.1 h).1 (fun e => ?_)).trans h
  obtain ⟨o, h1, h2⟩ := ht b e.symm
  rw [h] at h1
  cases h1
  cases h2
theorem own_cells {A : World} {base n : Nat} {v : Value} {xs : List Value} (h : A.ownsRow base 49 2 v n xs) : ∀ r, v.ownBlock = some r → ∃ y, A.heap[r]? = some (.cells y 49 (0, 0)) := by
  intro r e
  rcases h.2 with ⟨e2, _⟩ | ⟨g2, cap2, cur2, e2, hb2, hgg2, _⟩
  · rw [e2] at e; cases e
  · rw [e2] at e
    cases e
    exact ⟨cur2, hgg2⟩
theorem own_keepc {A A' : World} {row : Option Nat} {base n : Nat} {v : Value} {xs : List Value} (h : A.ownsRow base 49 2 v n xs) (hg : A.grownBy A' row) (ht : ∀ r, row = some r → ∃ o : Obj, A.heap[r]? = some o ∧ o.isCells = false) : A'.ownsRow base 49 2 v n xs := by
  refine h.kept hg ?_
  cases hv : v.ownBlock with
  | none => exact .inl rfl
  | some g =>
    refine .inr (fun e => ?_)
    obtain ⟨y, hy⟩ := own_cells h g hv
    obtain ⟨o, h1, h2⟩ := ht g e.symm
    rw [hy] at h1
    cases h1
    cases h2
theorem AI.keep {w : World} {B : Nat} (hB : w.heap.size + 1 ≤ B) {pre : List En} {A A' : World} {row : Option Nat} (h : AI w B pre A) (hg : A.grownBy A' row) (ht : ∀ r, row = some r → B ≤ r ∧ ∃ o : Obj, A.heap[r]? = some o ∧ o.isCells = false) : AI w B pre A' := by
  have ht' : ∀ r, row = some r → ∃ o : Obj, A.heap[r]? = some o ∧ o.isCells = false := fun r e => (ht r e).2
  obtain ⟨⟨v, h4, h5⟩, h6, h7⟩ := h
  exact ⟨⟨v, cells_keepc h4 hg ht', own_keepc h5 hg ht'⟩, h6.grown hg h6.size (fun k e => by have := (ht k e).1; omega), Nat.le_trans h7 hg.size⟩
theorem al_step {w W w1 : World} {B : Nat} {pre : List En} {g : En} {v v' : Value} {x : Array Value} (hB : w.heap.size + 1 ≤ B) (h : AI w B pre W) (hv : W.heap[w.heap.size]? = some (.cells #[v] 28 (0, 0))) (ho : W.ownsRow B 49 2 v pre.length (cellsE pre))
    (ho3 : w1.ownsRow B 49 2 v' (pre.length + 1) (cellsE pre ++ [.string g.key, .string g.script])) (hg3 : (W.alloc (.cells x 49)).grownBy w1 v.ownBlock) :
    Hid (w1.heap[w.heap.size]? = some (.cells #[v] 28 (0, 0))) ∧ Hid (KeepsFrom B W (w1.setCell ⟨w.heap.size, 0, none⟩ v')) ∧ Hid (KS W (w1.setCell ⟨w.heap.size, 0, none⟩ v')) ∧
    Hid (AI w B (pre ++ [g]) (w1.setCell ⟨w.heap.size, 0, none⟩ v')) := by
  obtain ⟨_, h6, h7⟩ := h
  have bB : Below B W w1 := ((Below.refl B W).alloc h7 (.cells x 49)).grown hg3 (by show B ≤ (W.alloc (.cells x 49)).heap.size; simp; omega) (fun k hk => (ho.lt k hk).1)
  have c3 : w1.heap[w.heap.size]? = some (.cells #[v] 28 (0, 0)) := (bB.block _ (by omega)).trans hv
  have hrow : ∀ r, v.ownBlock = some r → ∃ y, (W.alloc (.cells x 49)).heap[r]? = some (.cells y 49 (0, 0)) := by
    intro r e
    obtain ⟨y, hy⟩ := own_cells ho r e
    exact ⟨y, (Below.heap_alloc W _ r (Array.getElem?_eq_some_iff.1 hy).1).trans hy⟩
  have ko : KeepsOthers W w1 := (KeepsOthers.alloc W _).trans (KeepsOthers.of_grownBy hg3 (fun j o e he => by
    obtain ⟨y, hy⟩ := hrow j e
    rw [hy] at he
    cases he
    rfl))
  have ks : KS W w1 := (KS.below (below_new W (.cells x 49))).trans ((KS.refl (W.alloc (.cells x 49))).grown hg3 (fun r y t p ht e he => by
    obtain ⟨y2, hy⟩ := hrow r e
    rw [hy] at he
    cases he
    rcases ht with ht | ht <;> cases ht))
  refine ⟨c3, (ko.trans (KeepsOthers.setCell _ _ _)).from _, ks.setCell (a := ⟨w.heap.size, 0, none⟩) c3 (by decide) (by decide) _, ⟨v', row_put c3, ?_⟩, (h6.trans (bB.mono (by omega))).setCell (p := ⟨w.heap.size, 0, none⟩) (Nat.le_refl _) _, by show B ≤ (w1.setCell _ _).heap.size; simp only [World.setCell, Array.size_modify]; exact Nat.le_trans h7 bB.size⟩
  rw [List.length_append, cellsE_app]
  refine World.ownsRow.kept (row := some w.heap.size) ho3 ⟨rfl, rfl, rfl, by simp [World.setCell], fun k hk hne => Below.heap_setCell _ ⟨w.heap.size, 0, none⟩ _ k (fun e => hne (by rw [e]))⟩ ?_
  cases hv' : v'.ownBlock with
  | none => exact .inl rfl
  | some b =>
    have := (ho3.lt b hv').1
    exact .inr (fun e => by cases e; omega)
theorem run_fn_nil (W : World) (lb : Array Value) : (binOp BinOp.eql 41 (Value.func (.func 37) #[] lb) Value.nilFunc).run Tryd.prog W = Result.ok (Value.bool false) W := by kernel_rfl
theorem own_down2 {w : World} {base base' n : Nat} {v : Value} {xs : List Value} (h : w.ownsRow base 49 2 v n xs) (hb : base' ≤ base) : w.ownsRow base' 49 2 v n xs := by
  refine ⟨h.1, ?_⟩
  rcases h.2 with h2 | ⟨g, cap, cur, rfl, hg, r⟩
  · exact .inl h2
  · exact .inr ⟨g, cap, cur, rfl, by omega, r⟩
theorem cell1 {W : World} {b : Nat} {v : Value} {t : TypeId} (h : W.heap[b]? = some (.cells #[v] t (0, 0))) : W.cell? ⟨b, 0, none⟩ = some v := by simp [World.cell?, h]
theorem free1 {W : World} {b : Nat} {v : Value} {t : TypeId} (h : W.heap[b]? = some (.cells #[v] t (0, 0))) : W.frozen? ⟨b, 0, none⟩ = false := by simp [World.frozen?, h]
theorem own2_slice {A : World} {base n : Nat} {v : Value} {xs : List Value} (h : A.ownsRow base 49 2 v n xs) : ∃ B c, v = .slice B n c := by
  rcases h.2 with ⟨rfl, h0⟩ | ⟨g2, cap2, cur2, rfl, _⟩
  · subst h0; exact ⟨none, 0, rfl⟩
  · exact ⟨_, _, rfl⟩
def tmpsA (C wz z0 z2 : Nat) (k s : Value) : Array Value := #[.pointer (some ⟨C, 0, none⟩), undef, .slice none 0 0, .pointer (some ⟨wz, 0, none⟩), k, s, .pointer (some ⟨C, 0, none⟩), .func (.func 37) #[] #[.pointer (some ⟨z0, 0, none⟩), .pointer (some ⟨z0 + 1, 0, none⟩)], .bool false, .pointer (some ⟨C, 0, none⟩), .func (.func 37) #[] #[.pointer (some ⟨z2, 0, none⟩), .pointer (some ⟨z2 + 1, 0, none⟩)], k, s, undef, undef, undef, undef, undef, undef, undef]
section
variable {C D M : Nat} {ds ns : List En}
set_option maxRecDepth 100000 in
set_option maxHeartbeats 8000000 in
theorem allx_any (w : World) (h : CA C D M ds ns w) (hmax : ds.length ≤ 100000) (hky : ∀ e ∈ ds, e.key.size ≤ maxLen) : Calls Tryd.prog 30 #[.pointer (some ⟨C, 0, none⟩)] w fun e w' => ∃ v, e = .returned v ∧ OE w w' v ds := by
  have HC := Lib.hid h
  have hfn := run_fn_nil
  have HA := Lib.hid (fun (W : World) (hw : CA C D M ds ns W) => all_any W hw (by omega) hky)
  have hn0 := heap_alloc_new w (.cells #[.slice none 0 0] 28)
  have hb0 := below_new w (.cells #[.slice none 0 0] 28)
  have hs0 : (w.alloc (.cells #[.slice none 0 0] 28)).heap.size = w.heap.size + 1 := by simp
  obtain ⟨i0, hi, hz0, hz1, hz2⟩ := info_parts e49_info
  clear h hky
  refine (callsIn_wide (n := 4)).1 ?_
  refine callsIn_of_wp_marks Tryd.func30 rfl trivial ?_ rfl
  simp only [Tryd.ntmps30, List.size_toArray, List.length_cons, List.length_nil, Nat.reduceAdd, Nat.reduceSub, Array.replicate_succ, Array.replicate_zero, List.push_toArray, List.append_toArray, List.nil_append, List.cons_append]
  gi_wp2_with fail
  have HB0 := Lib.hid hb0
  have HN0 := Lib.hid hn0
  have HS0 := Lib.hid hs0
  clear hb0 hn0 hs0
  generalize w.alloc (.cells #[.slice none 0 0] 28) = W0 at *
  refine ⟨trivial, (callsIn_wide.2 (HA.out _ (HC.out.below HB0.out))).mono ?_⟩
  rintro e w2 ⟨rfl, hb2, -⟩
  have HB2 := Lib.hid (HB0.out.trans (hb2.mono HB0.out.size))
  have HN2 := Lib.hid ((hb2.block w.heap.size (by have := HS0.out; omega)).trans HN0.out)
  have HZ2 := Lib.hid (Nat.le_trans (Nat.le_of_eq HS0.out.symm) hb2.size)
  clear hb2
  gi_wp2_with fail
  refine ⟨trivial, (callsIn_wide.2 (HA.out _ (HC.out.below HB2.out))).mono ?_⟩
  rintro e w4 ⟨rfl, hb4, W1, v3, v4, hal⟩
  have HB4 := Lib.hid (HB2.out.trans (hb4.mono HB2.out.size))
  have HN4 := Lib.hid ((hb4.block w.heap.size (by have := HZ2.out; omega)).trans HN2.out)
  have HZ4 := Lib.hid (Nat.le_trans HZ2.out hb4.size)
  have HAL := Lib.hid hal
  clear hb4 hal
  gi_wp2_with fail
  have hBz : w.heap.size + 1 ≤ w4.heap.size := HZ4.out
  refine rangeG (n := 4) (by omega) (gf := 37) (lb := #[.pointer (some ⟨w2.heap.size, 0, none⟩), .pointer (some ⟨w2.heap.size + 1, 0, none⟩)]) rfl (enters_of Tryd.func37 (by kernel_rfl) rfl)
    (all1_seq 3 w4 (by omega) HAL.out (by omega)) KS.trans (fun W k o o' hk ho => KS.putObj hk ho) (fun _ => rfl)
    (AI w w4.heap.size) (fun pre A1 A2 row h hg ht => h.keep hBz hg ht)
    ⟨⟨_, HN4.out, World.ownsRow_nil _ _ _ _⟩, HB4.out, Nat.le_refl _⟩
    (fun x => { tmps := tmpsA C w.heap.size W0.heap.size w2.heap.size (.string x.key) (.string x.script), defers := [] })
    ?assign ?body ?done
  case assign =>
    intro l' x W K hK
    unfold tmpsA at hK
    gi_wp2
    exact hK
  case body =>
    rintro l' pre g W hl hpx hI hlen
    obtain ⟨v, hv, ho⟩ := hI.out
    obtain ⟨Av, cv, hvo, -, -, -, -, -⟩ := own_rdE ho
    subst hvo
    have hcell : W.cell? ⟨w.heap.size, 0, none⟩ = some (.slice Av pre.length cv) := by simp [World.cell?, hv]
    have hple : pre.length ≤ 100000 := by omega
    have HI := Lib.hid hI
    have HV := Lib.hid hv
    have HO := Lib.hid ho
    have hBs := hI.big
    clear hI hv ho hpx hl hlen
    unfold tmpsA
    gi_wp2_with (gi_at_builtin; refine wpListIn_append_own _ rfl (.tmp 13) (.tmp 17) 28 rfl w4.heap.size 49 i0 _ 2 32 Tryd.underlying28 hi hz0 hz1 hz2 rfl (by decide) (.slice Av pre.length cv) pre.length (cellsE pre) rfl (HO.out.alloc _) ⟨W.heap.size, 0, none⟩ 1 1 [.string g.key, .string g.script] rfl rfl (World.news_of_block (cs := #[.string g.key, .string g.script]) (t := 49) (fr := (0, 0)) (heap_alloc_new W _)) (by simp [Value.oneCell']) (by simp only [maxLen]; omega) (by omega) (by have := HI.out.big; simp; omega) ?_; intro v3 w3 ho3 hg3 _; have HS := al_step (g := g) hBz HI.out HV.out HO.out ho3 hg3; obtain ⟨Hc, HK, HKS, HIn⟩ := HS; obtain ⟨A3, c3, hv3⟩ := own2_slice ho3; subst hv3; have hc3 := cell1 Hc.out; have hf3 : w3.frozen? ⟨w.heap.size, 0, none⟩ = false := free1 Hc.out; clear ho3 hg3)
    exact ⟨HK.out, HKS.out, HIn.out⟩
  case done =>
    rintro D' xs W hD rfl hI hdf
    obtain ⟨v, hv, ho⟩ := hI.out
    have hcell : W.cell? ⟨w.heap.size, 0, none⟩ = some v := by simp [World.cell?, hv]
    have HI := Lib.hid hI
    have HO := Lib.hid ho
    have HDF := Lib.hid hdf
    clear hv ho hI hdf
    gi_wp2_with fail
    have hrow : W.grownBy (W.putObj D' (.deferred none)) (some D') := grownBy_putObj' _ _ _
    have htd : ∀ r, some D' = some r → ∃ o : Obj, W.heap[r]? = some o ∧ o.isCells = false := fun r e => by cases e; exact ⟨_, HDF.out, rfl⟩
    refine ⟨by simp, .inl ⟨_, _, rfl, run_takeDeferred (w := W) HDF.out, ?_⟩⟩
    have ho5 := own_keepc HO.out hrow htd
    refine ⟨_, results_tmp Tryd.results30 _ _ _, v, rfl, ?_, HI.out.bel.grown hrow HI.out.bel.size (fun k e => by cases e; omega)⟩
    exact own_down2 ho5 (by omega)
end
end Go.Proofs.YtpomaabkgbaikaaDoor
