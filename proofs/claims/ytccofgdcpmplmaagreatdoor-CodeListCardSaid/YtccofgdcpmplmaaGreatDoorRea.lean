/- Read: a text is read as a program, or there is none. -/
import Derived.Test.YtccofgdcpmplmaaGreatDoorReaH
namespace Go.Proofs.YtccofgdcpmplmaaGreatDoor
open Go Go.RowKit Go.Shelf
attribute [local go_sem] Oper.semAt_some
theorem cut_fst (s : List UInt8) : (Lib.cut s [10]).1.length ≤ s.length := by
  unfold Lib.cut
  split
  · simp
    omega
  · exact Nat.le_refl _
theorem linesL_mem : ∀ (k : Nat) (s : List UInt8), s.length ≤ k → ∀ x ∈ linesL s, x.length ≤ s.length
  | 0, s, h, x, hx => by
    have : s = [] := List.eq_nil_of_length_eq_zero (by omega)
    subst this
    cases hx
  | k + 1, s, h, x, hx => by
    by_cases h0 : s = []
    · subst h0
      cases hx
    · rw [linesL_cons h0] at hx
      have h1 := cut_len h0
      rcases List.mem_cons.1 hx with rfl | hx
      · exact cut_fst s
      · have := linesL_mem k _ (by omega) x hx
        omega
theorem readL_none {pre t : List (List UInt8)} (h : readL pre = none) : readL (pre ++ t) = none := by
  unfold readL at *
  rw [List.map_append, List.foldlM_append, h]
  rfl
def ReaQ (s : ByteArray) (e : Ending) (W' : World) : Prop :=
  (∃ g, readL (linesL s.data.toList) = some (coreG g) ∧ checkB g = true ∧ ofL (listL g) = s ∧ e = .returned (.tuple #[.agg g.vals, .int .i64 0]) ∧ g.at W') ∨
  (e = .returned (.tuple #[.agg nil3, .int .i64 280]) ∧ (readL (linesL s.data.toList) = none ∨ ∃ g, readL (linesL s.data.toList) = some (coreG g) ∧ (checkB g = false ∨ ofL (listL g) ≠ s)))
def tmpsR (s : ByteArray) (n : Nat) (x y : Value) : Array Value := #[.string s, undef, .pointer (some ⟨n, 0, none⟩), .pointer (some ⟨n + 1, 0, none⟩), .pointer (some ⟨n + 1 + 1, 0, none⟩), x, undef, undef, .string s, .func (.func 36) #[] #[.pointer (some ⟨n + 1 + 1 + 1, 0, none⟩)], y, undef, undef, undef, undef, undef, undef, undef, undef, undef, undef, undef, undef, undef, undef, undef, undef, undef, undef]
theorem four_new (w : World) (a b c d : Obj) : ((((w.alloc a).alloc b).alloc c).alloc d).heap[w.heap.size]? = some a ∧ ((((w.alloc a).alloc b).alloc c).alloc d).heap[w.heap.size + 1]? = some b ∧ ((((w.alloc a).alloc b).alloc c).alloc d).heap[w.heap.size + 2]? = some c ∧ ((((w.alloc a).alloc b).alloc c).alloc d).heap[w.heap.size + 3]? = some d ∧ ((((w.alloc a).alloc b).alloc c).alloc d).heap.size = w.heap.size + 4 ∧ Below w.heap.size w ((((w.alloc a).alloc b).alloc c).alloc d) := by
  have e1 : ((((w.alloc a).alloc b).alloc c).alloc d).heap = (((w.heap.push a).push b).push c).push d := rfl
  refine ⟨?_, ?_, ?_, ?_, ?_, ?_⟩
  · rw [e1, Array.getElem?_push, if_neg (by simp <;> omega), Array.getElem?_push, if_neg (by simp <;> omega), Array.getElem?_push, if_neg (by simp <;> omega), Array.getElem?_push, if_pos (by simp)]
  · rw [e1, Array.getElem?_push, if_neg (by simp <;> omega), Array.getElem?_push, if_neg (by simp <;> omega), Array.getElem?_push, if_pos (by simp)]
  · rw [e1, Array.getElem?_push, if_neg (by simp <;> omega), Array.getElem?_push, if_pos (by simp)]
  · rw [e1, Array.getElem?_push, if_pos (by simp)]
  · rw [e1]; simp
  · exact (((below_new w a).alloc (by simp) b).alloc (by simp; omega) c).alloc (by simp; omega) d
theorem store4 (W : World) (n : Nat) {a b c d : Value} (a' b' c' d' : Value) (h2 : W.heap[n]? = some (.cells #[a, b, c] 26 (0, 0))) (h3 : W.heap[n + 1]? = some (.cells #[d] 29 (0, 0))) :
    ((((W.setCell ⟨n, 0, none⟩ a').setCell ⟨n, 1, none⟩ b').setCell ⟨n, 2, none⟩ c').setCell ⟨n + 1, 0, none⟩ d').heap[n]? = some (.cells #[a', b', c'] 26 (0, 0)) ∧
    ((((W.setCell ⟨n, 0, none⟩ a').setCell ⟨n, 1, none⟩ b').setCell ⟨n, 2, none⟩ c').setCell ⟨n + 1, 0, none⟩ d').heap[n + 1]? = some (.cells #[d'] 29 (0, 0)) ∧
    (∀ k, k ≠ n → k ≠ n + 1 → ((((W.setCell ⟨n, 0, none⟩ a').setCell ⟨n, 1, none⟩ b').setCell ⟨n, 2, none⟩ c').setCell ⟨n + 1, 0, none⟩ d').heap[k]? = W.heap[k]?) ∧
    KeepsOthers W ((((W.setCell ⟨n, 0, none⟩ a').setCell ⟨n, 1, none⟩ b').setCell ⟨n, 2, none⟩ c').setCell ⟨n + 1, 0, none⟩ d') ∧
    ∀ {B : Nat} {w : World}, B ≤ n → Below B w W → Below B w ((((W.setCell ⟨n, 0, none⟩ a').setCell ⟨n, 1, none⟩ b').setCell ⟨n, 2, none⟩ c').setCell ⟨n + 1, 0, none⟩ d') := by
  have e1 := heap_setCell_same W n 0 _ 26 a' h2
  have e2 := heap_setCell_same _ n 1 _ 26 b' e1
  have e3 := heap_setCell_same _ n 2 _ 26 c' e2
  have k3 : (((W.setCell ⟨n, 0, none⟩ a').setCell ⟨n, 1, none⟩ b').setCell ⟨n, 2, none⟩ c').heap[n + 1]? = some (.cells #[d] 29 (0, 0)) := by
    rw [heap_setCell_other _ ⟨n, 2, none⟩ _ _ (by simp), heap_setCell_other _ ⟨n, 1, none⟩ _ _ (by simp), heap_setCell_other _ ⟨n, 0, none⟩ _ _ (by simp)]
    exact h3
  refine ⟨?_, ?_, fun k h1 h4 => ?_, ?_, ?_⟩
  · rw [heap_setCell_other _ ⟨n + 1, 0, none⟩ _ _ (by simp), e3]
    simp
  · rw [heap_setCell_same _ (n + 1) 0 _ 29 d' k3]
    simp
  · rw [heap_setCell_other _ ⟨n + 1, 0, none⟩ _ _ h4, heap_setCell_other _ ⟨n, 2, none⟩ _ _ h1, heap_setCell_other _ ⟨n, 1, none⟩ _ _ h1, heap_setCell_other _ ⟨n, 0, none⟩ _ _ h1]
  · exact (((KeepsOthers.setCell _ _ _).trans (KeepsOthers.setCell _ _ _)).trans (KeepsOthers.setCell _ _ _)).trans (KeepsOthers.setCell _ _ _)
  · intro B w hB hb
    exact (((hb.setCell (p := ⟨n, 0, none⟩) hB a').setCell (p := ⟨n, 1, none⟩) hB b').setCell (p := ⟨n, 2, none⟩) hB c').setCell (p := ⟨n + 1, 0, none⟩) (by show B ≤ n + 1; omega) d'
theorem own_heap {W W' : World} {base n size : Nat} {e : TypeId} {v : Value} {xs : List Value} (h : W.ownsRow base e size v n xs) (hk : ∀ k, v.ownBlock = some k → W'.heap[k]? = W.heap[k]?) : W'.ownsRow base e size v n xs := by
  refine ⟨h.1, ?_⟩
  rcases h.2 with hn | ⟨g, cap, cur, rfl, hb, hgg, rest⟩
  · exact .inl hn
  · exact .inr ⟨g, cap, cur, rfl, hb, (hk g rfl).trans hgg, rest⟩
theorem PO.keepC {S : Nat → Prop} {B : Nat} {g : Pg} {A A' : World} (h : PO S B g A) (hk : ∀ k, ¬ S k → (∃ cs t fr, A.heap[k]? = some (Obj.cells cs t fr)) → A'.heap[k]? = A.heap[k]?) (hs : A.heap.size ≤ A'.heap.size) : PO S B g A' := by
  have hrow : ∀ {e : TypeId} {size n : Nat} {v : Value} {xs : List Value}, A.ownsRow 0 e size v n xs → (∀ k, v.ownBlock = some k → owns B g k) → A'.ownsRow 0 e size v n xs := fun ho hw => own_heap ho fun k hv => by
    obtain ⟨c, f, h1⟩ := own_type ho k hv
    exact hk k (h.far k (hw k hv)) ⟨_, _, _, h1⟩
  exact ⟨(hk B (h.far B (.inl rfl)) ⟨_, _, _, h.box⟩).trans h.box, hrow h.ps fun k e => .inr (.inl e), hrow h.is fun k e => .inr (.inr (.inl e)), hrow h.ts fun k e => .inr (.inr (.inr (.inl e))), fun p hp => hrow (h.code p hp) fun k e => .inr (.inr (.inr (.inr ⟨p, hp, e⟩))), h.apart, h.far, fun k hk' => Nat.lt_of_lt_of_le (h.low k hk') hs⟩
/-- What is left behind a store of the results. -/
structure Fin (w : World) (a b c : Value) (e : Int) (W : World) : Prop where
  r2 : W.heap[w.heap.size]? = some (.cells #[a, b, c] 26 (0, 0))
  r3 : W.heap[w.heap.size + 1]? = some (.cells #[.int .i64 e] 29 (0, 0))
  bel : Below w.heap.size w W
theorem Fin.put {w W : World} {a b c : Value} {e : Int} (h : Fin w a b c e W) (D : Nat) (o : Obj) (hD : w.heap.size + 4 ≤ D) : Fin w a b c e (W.putObj D o) :=
  ⟨(World.putObj_heap_other (by omega)).trans h.r2, (World.putObj_heap_other (by omega)).trans h.r3, h.bel.grown (grownBy_putObj' _ _ o) h.bel.size (fun k e => by cases e; omega)⟩
abbrev g00 : Pg := ⟨none, 0, [], none, 0, [], none, 0, []⟩
set_option maxRecDepth 100000 in
set_option maxHeartbeats 8000000 in
theorem rea_any (s : ByteArray) (w : World) (he : Env w) (hs : s.size ≤ 900000) (hlim : ∀ pre t, linesL s.data.toList = pre ++ t → ∀ c, readL pre = some c → limC c) :
    Calls Tryz.prog 9 #[.string s] w fun e W' => ReaQ s e W' ∧ Below w.heap.size w W' := by
  have HE : Hid (∀ W, Below w.heap.size w W → Env W) := Lib.hid (fun W hb => he.below hb)
  have HLIM := Lib.hid hlim
  have HLN : Hid (∀ x ∈ linesL s.data.toList, (ofL x).size ≤ 900000) := Lib.hid (fun x hx => by
    have h1 := linesL_mem _ _ (Nat.le_refl _) x hx
    rw [show s.data.toList.length = s.size from Array.length_toList] at h1
    rw [size_ofL]
    omega)
  obtain ⟨mml, hml⟩ := he.ml
  clear he hlim
  refine (callsIn_wide (n := 4)).1 ?_
  refine callsIn_of_wp_marks Tryz.func9 rfl trivial ?_ rfl
  simp only [Tryz.ntmps9, List.size_toArray, List.length_cons, List.length_nil, Nat.reduceAdd, Nat.reduceSub, Array.replicate_succ, Array.replicate_zero, List.push_toArray, List.append_toArray, List.nil_append, List.cons_append]
  gi_wp2_with fail
  refine ⟨trivial, (callsIn_wide.2 (lines_any s _)).mono ?_⟩
  rintro e w3 ⟨rfl, rfl⟩
  gi_wp2_with fail
  obtain ⟨a2, a3, aB, aC, aS, aL⟩ := four_new w (.cells nil3 26) (.cells #[.int .i64 0] 29) (.cells nil3 26) (.cells #[.string s] 9)
  generalize (((w.alloc (.cells #[.slice none 0 0, .slice none 0 0, .slice none 0 0] 26)).alloc (.cells #[.int .i64 0] 29)).alloc (.cells #[.slice none 0 0, .slice none 0 0, .slice none 0 0] 26)).alloc (.cells #[.string s] 9) = wl at *
  have h1w : 1 < w.heap.size := block_lt1 hml
  have hml' : wl.cell? ⟨1, 0, none⟩ = some (.int .i64 mml) := (aL.cell (p := ⟨1, 0, none⟩) h1w).trans hml
  have hP0 : PO (SR w.heap.size) (w.heap.size + 2) g00 wl := by
    refine ⟨aB, World.ownsRow_nil _ 0 39 3, World.ownsRow_nil _ 0 2 1, World.ownsRow_nil _ 0 9 1, (fun p hp => by cases hp), List.Pairwise.nil, ?_, fun k hk => by rw [aS]; exact hk.2⟩
    rintro k (rfl | e | e | e | ⟨p, hp, _⟩) hk
    · exact hk.1 rfl
    · cases e
    · cases e
    · cases e
    · cases hp
  have hI0 : RI w [] wl := ⟨a2, a3, aL, by omega, g00, rfl, hP0⟩
  have HBX : LBox wl (w.heap.size + 3) s := aC
  clear a2 a3 aB aC hP0
  have kp : ∀ {A : World} {row : Option Nat}, (∀ r, row = some r → r = w.heap.size + 3 ∨ (wl.heap.size ≤ r ∧ ∃ o : Obj, A.heap[r]? = some o ∧ o.isCells = false)) → ∀ r, row = some r → r = w.heap.size + 3 ∨ (w.heap.size + 4 ≤ r ∧ ∃ o : Obj, A.heap[r]? = some o ∧ o.isCells = false) := fun ht r e => (ht r e).imp id fun h => ⟨by omega, h.2⟩
  refine rangeC (n := 4) (by omega) (gf := 36) (lb := #[.pointer (some ⟨w.heap.size + 1 + 1 + 1, 0, none⟩)]) rfl (enters_of Tryz.func36 (by kernel_rfl) rfl) (C := w.heap.size + 3) (by omega)
    (lines_seq 3 (w.heap.size + 3) s mml wl (by omega) (by omega) HBX hml' (fun W W' => ∀ k, k = 1 ∨ k = w.heap.size + 3 → W'.heap[k]? = W.heap[k]?) (fun W W' h => ⟨h _ (.inr rfl), World.cell?_of_block (h 1 (.inl rfl))⟩))
    (fun h1 h2 k hk => (h2 k hk).trans (h1 k hk)) (fun W i o hi k hk => World.putObj_heap_other (by rcases hk with rfl | rfl <;> omega)) (fun _ => rfl)
    (RI w) (RE w) (fun pre A1 A2 row h hg ht => h.keep hg (kp ht)) (fun pre A1 A2 row h hg ht => h.keep hg (kp ht)) hI0
    (fun x => { tmps := tmpsR s w.heap.size (.string (ofL x)) (.string (ofL x)), defers := [] })
    ?assign ?body ?done ?back
  case assign =>
    intro l' x W K hK
    unfold tmpsR at hK
    gi_wp2
    exact hK
  case body =>
    rintro l' pre x W ⟨t, hxt⟩ hI
    obtain ⟨g, hrd, hpo⟩ := hI.po
    have hlc := HLIM.out pre (x :: t) hxt _ hrd
    have hlm := hlc.lim
    have HRD := Lib.hid (read_any (SR w.heap.size) (w.heap.size + 2) g (ofL x) W hpo (HE.out _ hI.bel) (HLN.out x (by rw [hxt]; simp)) ⟨by have := hlm.p; omega, by have := hlm.i; omega, by have := hlm.t; omega, fun p hp => by have := hlc.code p hp; omega⟩)
    have HNX := Lib.hid (readL_next pre x hrd)
    have HI := Lib.hid hI
    have HPO := Lib.hid hpo
    clear hI hrd hpo hlc hlm hxt
    unfold tmpsR
    gi_wp2_with fail
    refine ⟨trivial, (CallsIn.inRound l' (callsIn_wide.2 HRD.out)).mono ?_⟩
    rintro e W3 hq
    obtain ⟨o, ho⟩ : ∃ o, lineP (coreG g) (ofL x) = o := ⟨_, rfl⟩
    rw [ho] at HNX hq
    clear ho HRD
    cases o with
    | some c =>
      obtain ⟨rfl, hks, hg⟩ := hq
      obtain ⟨g', hcg, hpo'⟩ := hg rfl
      have hfin : KeepsOthers W W3 ∧ (∀ k, k = 1 ∨ k = w.heap.size + 3 → W3.heap[k]? = W.heap[k]?) ∧ RI w (pre ++ [x]) W3 := by
        have hsz := HI.out.siz
        have hk : ∀ k, k ≠ w.heap.size + 2 → k < w.heap.size + 4 → W3.heap[k]? = W.heap[k]? := fun k h1 h2 => hks.keep k ⟨h1, h2⟩ (by omega)
        refine ⟨hks.oth, fun k hk' => hk k (by rcases hk' with rfl | rfl <;> omega) (by rcases hk' with rfl | rfl <;> omega), (hk _ (by omega) (by omega)).trans HI.out.r2, (hk _ (by omega) (by omega)).trans HI.out.r3, HI.out.bel.trans ⟨hks.os, hks.tape, hks.output, hks.size, fun k h => hk k (by omega) (by omega)⟩, Nat.le_trans hsz hks.size, g', by rw [HNX.out, hcg], hpo'⟩
      have HFIN := Lib.hid hfin
      clear hfin hks hg hcg hpo'
      gi_wp2_with fail
      exact HFIN.out
    | none =>
      obtain ⟨rfl, hks, -⟩ := hq
      have hsz := HI.out.siz
      have hk : ∀ k, k ≠ w.heap.size + 2 → k < w.heap.size + 4 → W3.heap[k]? = W.heap[k]? := fun k h1 h2 => hks.keep k ⟨h1, h2⟩ (by omega)
      have hr2 := (hk _ (by omega) (by omega)).trans HI.out.r2
      have hr3 := (hk _ (by omega) (by omega)).trans HI.out.r3
      have HK := Lib.hid hk
      have HKS := Lib.hid hks
      obtain ⟨c0, c1, c2⟩ := cell3 hr2
      have c3 := cell_of_one hr3
      have f0 := frozen_of_row _ _ 0 _ _ hr2
      have f1 := frozen_of_row _ _ 1 _ _ hr2
      have f2 := frozen_of_row _ _ 2 _ _ hr2
      have f3 := frozen_of_row _ _ 0 _ _ hr3
      have HR := Lib.hid (And.intro hr2 hr3)
      clear hr2 hr3 hk hks hsz
      gi_wp2_with fail
      obtain ⟨s2, s3, sk, so, sb⟩ := store4 W3 w.heap.size (.slice none 0 0) (.slice none 0 0) (.slice none 0 0) (.int .i64 280) HR.out.1 HR.out.2
      exact ⟨HKS.out.oth.trans so, fun k hk' => (sk k (by rcases hk' with rfl | rfl <;> omega) (by rcases hk' with rfl | rfl <;> omega)).trans (HK.out k (by rcases hk' with rfl | rfl <;> omega) (by rcases hk' with rfl | rfl <;> omega)), s2, s3, sb (Nat.le_refl _) (HI.out.bel.trans ⟨HKS.out.os, HKS.out.tape, HKS.out.output, HKS.out.size, fun k h => HK.out k (by omega) (by omega)⟩), HNX.out⟩
  case done =>
    rintro D xs W hD rfl hI hdef
    obtain ⟨g, hrd, hpo⟩ := hI.po
    have hlc := HLIM.out (linesL s.data.toList) [] (by simp) _ hrd
    have HLM := Lib.hid hlc.lim
    have HI := Lib.hid hI
    have HRD := Lib.hid hrd
    have HDF := Lib.hid hdef
    have hbx := hpo.box
    obtain ⟨q0, q1, q2⟩ := cell3 hbx
    have HPO := Lib.hid hpo
    obtain ⟨n1, hv0⟩ : ∃ v, g.ps.length = v := ⟨_, rfl⟩
    obtain ⟨n2, hv1⟩ : ∃ v, g.is.length = v := ⟨_, rfl⟩
    obtain ⟨n3, hv2⟩ : ∃ v, g.ts.length = v := ⟨_, rfl⟩
    replace q0 : W.cell? ⟨w.heap.size + 2, 0, none⟩ = some (.slice g.PA g.ps.length g.Pc) := q0
    replace q1 : W.cell? ⟨w.heap.size + 2, 1, none⟩ = some (.slice g.IA g.is.length g.Ic) := q1
    replace q2 : W.cell? ⟨w.heap.size + 2, 2, none⟩ = some (.slice g.TA g.ts.length g.Tc) := q2
    rw [hv0] at q0
    rw [hv1] at q1
    rw [hv2] at q2
    have HVV : Hid (g.vals = #[(.slice g.PA n1 g.Pc), (.slice g.IA n2 g.Ic), (.slice g.TA n3 g.Tc)]) := Lib.hid (by rw [← hv0, ← hv1, ← hv2])
    have HO1 : Hid (Value.oneCell' (.slice g.PA n1 g.Pc) = true ∧ Value.oneCell' (.slice g.IA n2 g.Ic) = true ∧ Value.oneCell' (.slice g.TA n3 g.Tc) = true) := Lib.hid ⟨rfl, rfl, rfl⟩
    clear hI hrd hdef hbx hpo hlc hv0 hv1 hv2
    rcases hck : checkB g with _ | _
    · have HCK := Lib.hid hck
      have HLS := Lib.hid (list_no g W HPO.out.at HLM.out.fit (HE.out _ HI.out.bel) hck)
      rw [HVV.out] at HLS
      clear hck
      gi_wp2_with fail
      refine ⟨trivial, (callsIn_wide.2 HLS.out).mono ?_⟩
      rintro e W3 ⟨rfl, hb3⟩
      have hr2 := (hb3.block _ (Array.getElem?_eq_some_iff.1 HI.out.r2).1).trans HI.out.r2
      have hr3 := (hb3.block _ (Array.getElem?_eq_some_iff.1 HI.out.r3).1).trans HI.out.r3
      have hdf3 := (hb3.block _ (Array.getElem?_eq_some_iff.1 HDF.out).1).trans HDF.out
      have hbw := HI.out.bel.trans (hb3.mono HI.out.bel.size)
      have hpo3 := HPO.out.below hb3
      obtain ⟨c0, c1, c2⟩ := cell3 hr2
      have c3 := cell_of_one hr3
      have f0 := frozen_of_row _ _ 0 _ _ hr2
      have f1 := frozen_of_row _ _ 1 _ _ hr2
      have f2 := frozen_of_row _ _ 2 _ _ hr2
      have f3 := frozen_of_row _ _ 0 _ _ hr3
      have hbx3 := hpo3.box
      rw [HVV.out] at hbx3
      obtain ⟨p0, p1, p2⟩ := cell3 hbx3
      have HR := Lib.hid (And.intro hr2 (And.intro hr3 (And.intro hdf3 (And.intro hbw hpo3))))
      clear hr2 hr3 hdf3 hbw hb3 hpo3 hbx3 q0 q1 q2 HLS
      gi_wp2_with fail
      obtain ⟨s2, s3, sk, so, sb⟩ := store4 W3 w.heap.size (.slice none 0 0) (.slice none 0 0) (.slice none 0 0) (.int .i64 280) HR.out.1 HR.out.2.1
      have hfin : Fin w (.slice none 0 0) (.slice none 0 0) (.slice none 0 0) 280 _ := ⟨s2, s3, sb (Nat.le_refl _) HR.out.2.2.2.1⟩
      have hA' := hfin.put D (.deferred none) (by omega)
      refine ⟨by simp, .inl ⟨_, _, rfl, run_takeDeferred ((sk D (by omega) (by omega)).trans HR.out.2.2.1), ?_⟩⟩
      exact ⟨.tuple #[.agg nil3, .int .i64 280], res9 _ w.heap.size (w.heap.size + 1) (.slice none 0 0) (.slice none 0 0) (.slice none 0 0) 280 _ rfl rfl ⟨rfl, rfl, rfl⟩ hA'.r2 hA'.r3, .inr ⟨rfl, .inr ⟨g, HRD.out, .inl HCK.out⟩⟩, hA'.bel⟩
    · have HCK := Lib.hid hck
      have HLS := Lib.hid (list_yes g W HPO.out.at HLM.out (HE.out _ HI.out.bel) hck)
      rw [HVV.out] at HLS
      clear hck
      gi_wp2_with fail
      refine ⟨trivial, (callsIn_wide.2 HLS.out).mono ?_⟩
      rintro e W3 ⟨rfl, hb3⟩
      have hr2 := (hb3.block _ (Array.getElem?_eq_some_iff.1 HI.out.r2).1).trans HI.out.r2
      have hr3 := (hb3.block _ (Array.getElem?_eq_some_iff.1 HI.out.r3).1).trans HI.out.r3
      have hdf3 := (hb3.block _ (Array.getElem?_eq_some_iff.1 HDF.out).1).trans HDF.out
      have hbw := HI.out.bel.trans (hb3.mono HI.out.bel.size)
      have hpo3 := HPO.out.below hb3
      obtain ⟨c0, c1, c2⟩ := cell3 hr2
      have c3 := cell_of_one hr3
      have f0 := frozen_of_row _ _ 0 _ _ hr2
      have f1 := frozen_of_row _ _ 1 _ _ hr2
      have f2 := frozen_of_row _ _ 2 _ _ hr2
      have f3 := frozen_of_row _ _ 0 _ _ hr3
      have hbx3 := hpo3.box
      rw [HVV.out] at hbx3
      obtain ⟨p0, p1, p2⟩ := cell3 hbx3
      have HR := Lib.hid (And.intro hr2 (And.intro hr3 (And.intro hdf3 (And.intro hbw hpo3))))
      clear hr2 hr3 hdf3 hbw hb3 hpo3 hbx3 q0 q1 q2 HLS
      have hdc := bytes_dec (ofL (listL g)) s
      by_cases heq : ofL (listL g) = s
      rotate_left
      · have HNE := Lib.hid heq
        rw [decide_eq_false heq] at hdc
        clear heq
        gi_wp2_with fail
        obtain ⟨s2, s3, sk, so, sb⟩ := store4 W3 w.heap.size (.slice none 0 0) (.slice none 0 0) (.slice none 0 0) (.int .i64 280) HR.out.1 HR.out.2.1
        have hfin : Fin w (.slice none 0 0) (.slice none 0 0) (.slice none 0 0) 280 _ := ⟨s2, s3, sb (Nat.le_refl _) HR.out.2.2.2.1⟩
        have hA' := hfin.put D (.deferred none) (by omega)
        refine ⟨by simp, .inl ⟨_, _, rfl, run_takeDeferred ((sk D (by omega) (by omega)).trans HR.out.2.2.1), ?_⟩⟩
        exact ⟨.tuple #[.agg nil3, .int .i64 280], res9 _ w.heap.size (w.heap.size + 1) (.slice none 0 0) (.slice none 0 0) (.slice none 0 0) 280 _ rfl rfl ⟨rfl, rfl, rfl⟩ hA'.r2 hA'.r3, .inr ⟨rfl, .inr ⟨g, HRD.out, .inr HNE.out⟩⟩, hA'.bel⟩
      · have HEQ := Lib.hid heq
        rw [decide_eq_true heq] at hdc
        clear heq
        gi_wp2_with fail
        obtain ⟨s2, s3, sk, so, sb⟩ := store4 W3 w.heap.size (.slice g.PA n1 g.Pc) (.slice g.IA n2 g.Ic) (.slice g.TA n3 g.Tc) (.int .i64 0) HR.out.1 HR.out.2.1
        have hfin : Fin w (.slice g.PA n1 g.Pc) (.slice g.IA n2 g.Ic) (.slice g.TA n3 g.Tc) 0 _ := ⟨s2, s3, sb (Nat.le_refl _) HR.out.2.2.2.1⟩
        have hA' := hfin.put D (.deferred none) (by omega)
        have hgat := (PO.keepC HR.out.2.2.2.2 (A' := ((((W3.setCell ⟨w.heap.size, 0, none⟩ (.slice g.PA n1 g.Pc)).setCell ⟨w.heap.size, 1, none⟩ (.slice g.IA n2 g.Ic)).setCell ⟨w.heap.size, 2, none⟩ (.slice g.TA n3 g.Tc)).setCell ⟨w.heap.size + 1, 0, none⟩ (.int .i64 0)).putObj D (.deferred none)) (fun k hS hc => by
          have hkD : k ≠ D := by
            rintro rfl
            obtain ⟨cs, t, fr, h1⟩ := hc
            rw [HR.out.2.2.1] at h1
            cases h1
          rw [World.putObj_heap_other hkD]
          exact sk k (fun e => hS ⟨by omega, by omega⟩) (fun e => hS ⟨by omega, by omega⟩)) (by simp [World.setCell, World.putObj])).at
        refine ⟨by simp, .inl ⟨_, _, rfl, run_takeDeferred ((sk D (by omega) (by omega)).trans HR.out.2.2.1), ?_⟩⟩
        exact ⟨.tuple #[.agg #[(.slice g.PA n1 g.Pc), (.slice g.IA n2 g.Ic), (.slice g.TA n3 g.Tc)], .int .i64 0], res9 _ w.heap.size (w.heap.size + 1) (.slice g.PA n1 g.Pc) (.slice g.IA n2 g.Ic) (.slice g.TA n3 g.Tc) 0 _ rfl rfl HO1.out hA'.r2 hA'.r3, .inl ⟨g, HRD.out, HCK.out, HEQ.out, by rw [HVV.out], hgat⟩, hA'.bel⟩
  case back =>
    rintro D xs W hD ⟨t, hS⟩ hI hdef
    have hA' := hI.keep (grownBy_putObj' W D (.deferred none)) (fun r e => by cases e; exact .inr ⟨by omega, _, hdef, rfl⟩)
    refine ⟨by simp, .inl ⟨_, _, rfl, run_takeDeferred hdef, ?_⟩⟩
    refine ⟨.tuple #[.agg nil3, .int .i64 280], res9 _ w.heap.size (w.heap.size + 1) (.slice none 0 0) (.slice none 0 0) (.slice none 0 0) 280 _ rfl rfl ⟨rfl, rfl, rfl⟩ hA'.r2 hA'.r3, .inr ⟨rfl, .inl ?_⟩, hA'.bel⟩
    rw [hS]
    exact readL_none hA'.bad
end Go.Proofs.YtccofgdcpmplmaaGreatDoor
