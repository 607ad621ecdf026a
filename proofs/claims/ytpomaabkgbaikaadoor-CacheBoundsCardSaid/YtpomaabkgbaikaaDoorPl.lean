/- The calls one behind another, by the program and by the document. -/
import Derived.Test.YtpomaabkgbaikaaDoorAcs
import Derived.Test.YtpomaabkgbaikaaDoorDd
import Derived.Deep.RegionHeld3
namespace Go.Proofs.YtpomaabkgbaikaaDoor
open Go Go.RowKit
/-- The two lists behind calls. -/
def pD2 (p : List En × List En) (x : Ac) : List En × List En := (aD p.1 p.2 x, aN p.1 p.2 x)
def plays (l : List Ac) : List En × List En := l.foldl pD2 ([], [])
theorem plays_take {l : List Ac} {k : Nat} (h : k < l.length) : plays (l.take (k + 1)) = pD2 (plays (l.take k)) l[k] := by
  rw [List.take_succ_eq_append_getElem h]
  unfold plays
  rw [List.foldl_append]
  rfl
theorem drp_len (l : List En) (n : ByteArray) : (drp En.key l n).length ≤ l.length := List.length_filter_le _ _
theorem tk_dw (p : En → Bool) : ∀ l : List En, (l.takeWhile p).length + (l.dropWhile p).length = l.length
  | [] => rfl
  | x :: l => by
    have := tk_dw p l
    cases h : p x <;> simp [h] <;> omega
theorem wth_len (l : List En) (e : En) : (wth En.key l e).length ≤ l.length + 1 := by
  unfold wth
  have h1 := drp_len l e.key
  have h2 := tk_dw (fun g => ltB g.key e.key) (drp En.key l e.key)
  simp only [List.length_append, List.length_cons]
  omega
theorem putL_len (l : List En) (t : Nat) (k s : ByteArray) : (putL l t k s).length ≤ l.length + 1 := by
  unfold putL
  split
  · exact wth_len _ _
  · omega
theorem aD_len (ds ns : List En) (x : Ac) : (aD ds ns x).length ≤ ds.length + 1 := by
  unfold aD
  split
  · unfold pL
    split
    · omega
    · exact putL_len _ _ _ _
  · split
    · simp
    · omega
theorem aN_len (ds ns : List En) (x : Ac) : (aN ds ns x).length ≤ ns.length + 1 := by
  unfold aN
  split
  · omega
  split
  · omega
  split
  · unfold loadL
    split
    · exact putL_len _ _ _ _
    · omega
  · unfold unL
    split
    · have := drp_len ns x.name; omega
    · omega
theorem plays_len (l : List Ac) : ∀ k, k ≤ l.length → (plays (l.take k)).1.length ≤ k ∧ (plays (l.take k)).2.length ≤ k
  | 0, _ => ⟨Nat.le_refl _, Nat.le_refl _⟩
  | k + 1, h => by
    have ih := plays_len l k (by omega)
    rw [plays_take (by omega)]
    have h1 := aD_len (plays (l.take k)).1 (plays (l.take k)).2 l[k]
    have h2 := aN_len (plays (l.take k)).1 (plays (l.take k)).2 l[k]
    exact ⟨by show (aD _ _ _).length ≤ _; omega, by show (aN _ _ _).length ≤ _; omega⟩
/-- A row where all blocks that hold texts stay. -/
theorem RdE.other {w w' : World} {A : Option Addr} {l : List En} (h : RdE w A l) (hs : w.heap.size ≤ w'.heap.size) (hk : ∀ b off s, b < w.heap.size → w.cell? ⟨b, off, none⟩ = some (.string s) → w'.heap[b]? = w.heap[b]?) : RdE w' A l := fun h0 => by
  obtain ⟨b, off, rfl, hlt, hc⟩ := h h0
  have hb := hk b (off + 0 * 2) _ hlt (hc 0 h0).1
  exact ⟨b, off, rfl, by omega, fun i hi => ⟨(World.cell?_of_block (w := w) (w' := w') (a := ⟨b, off + i * 2, none⟩) hb).trans (hc i hi).1, (World.cell?_of_block (w := w) (w' := w') (a := ⟨b, off + i * 2 + 1, none⟩) hb).trans (hc i hi).2⟩⟩
theorem RE.other {w w' : World} {v : Value} {l : List En} (h : RE w v l) (hs : w.heap.size ≤ w'.heap.size) (hk : ∀ b off s, b < w.heap.size → w.cell? ⟨b, off, none⟩ = some (.string s) → w'.heap[b]? = w.heap[b]?) : RE w' v l := by
  obtain ⟨A, c, h1, h2, h3, h4⟩ := h
  exact ⟨A, c, h1, h2, h3, h4.other hs hk⟩
/-- A block of two lists holds no text. -/
theorem no_text {w : World} {b off : Nat} {a c : Value} {t : TypeId} {q : Nat × Nat} (h : w.heap[b]? = some (.cells #[a, c] t q)) (ha : ∀ s, a ≠ .string s) (hc : ∀ s, c ≠ .string s) (s : ByteArray) : w.cell? ⟨b, off, none⟩ ≠ some (.string s) := by
  simp only [World.cell?, h]
  match off with
  | 0 => intro e; exact ha s (by simpa using e)
  | 1 => intro e; exact hc s (by simpa using e)
  | n + 2 => intro e; simp at e
section
variable {C D M : Nat} {ds ns : List En}
theorem CA.no_text {w : World} (h : CA C D M ds ns w) {b : Nat} (hb : TC C D M b) (off : Nat) (s : ByteArray) : w.cell? ⟨b, off, none⟩ ≠ some (.string s) := by
  rcases hb with rfl | rfl | rfl
  · exact Go.Proofs.YtpomaabkgbaikaaDoor.no_text h.box (fun _ => by simp) (fun _ => by simp) s
  · obtain ⟨es, clock, h1⟩ := h.dig.isMap
    simp [World.cell?, h1]
  · obtain ⟨es, clock, h1⟩ := h.nam.isMap
    simp [World.cell?, h1]
theorem RE.cache {w w' : World} {v : Value} {l : List En} (h : RE w v l) (hc : CA C D M ds ns w) (hk : KeepT (TC C D M) w w') : RE w' v l :=
  h.other hk.size (fun b off s hb hs => hk.block b hb (fun t => hc.no_text t off s hs))
theorem RdC.cache {w w' : World} {A : Option Addr} {l : List Ac} (h : RdC w A l) (hk : KeepT (TC C D M) w w') (hc : CA C D M ds ns w) : RdC w' A l := fun h0 => by
  obtain ⟨b, off, rfl, hlt, hx⟩ := h h0
  have hb := hk.block b hlt (fun t => hc.no_text t _ _ (hx 0 h0 1 (by omega)))
  exact ⟨b, off, rfl, Nat.lt_of_lt_of_le hlt hk.size, fun i hi j hj => (World.cell?_of_block (w := w) (w' := w') (a := ⟨b, off + i * 3 + j, none⟩) hb).trans (hx i hi j hj)⟩
/-- The two boxes of the walk: the result, the lists up to here. -/
structure PB (w W : World) (v1 v2 : Value) (ds ns : List En) : Prop where
  r : W.heap[w.heap.size]? = some (.cells #[.slice none 0 0, .slice none 0 0] 30 (0, 0))
  b : W.heap[w.heap.size + 1]? = some (.cells #[v1, v2] 30 (0, 0))
  d : RE W v1 ds
  n : RE W v2 ns
theorem re_ns {W : World} {v : Value} {l : List En} (h : RE W v l) (s : ByteArray) : v ≠ .string s := by
  obtain ⟨A, c, rfl, _⟩ := h
  simp
theorem PB.below {w W W' : World} {v1 v2 : Value} (h : PB w W v1 v2 ds ns) (hb : Below W.heap.size W W') : PB w W' v1 v2 ds ns :=
  ⟨(hb.block _ (Array.getElem?_eq_some_iff.1 h.r).1).trans h.r, (hb.block _ (Array.getElem?_eq_some_iff.1 h.b).1).trans h.b, h.d.below hb, h.n.below hb⟩
theorem PB.cells {w W : World} {v1 v2 : Value} (h : PB w W v1 v2 ds ns) : W.cell? ⟨w.heap.size + 1, 0, none⟩ = some v1 ∧ W.cell? ⟨w.heap.size + 1, 1, none⟩ = some v2 := by
  refine ⟨?_, ?_⟩ <;> (simp only [World.cell?, h.b]; rfl)
theorem rdq_un {w : World} {p : Ac} (e : Ending) (w' : World) (h : RDQ w ds ns p e w') : ∃ A1 c1 A2 c2, e = .returned (.tuple #[.agg #[.slice A1 (aD ds ns p).length c1, .slice A2 (aN ds ns p).length c2], .string (aS ds ns p), .int .i64 (aE ds ns p)]) ∧ RE w' (.slice A1 (aD ds ns p).length c1) (aD ds ns p) ∧ RE w' (.slice A2 (aN ds ns p).length c2) (aN ds ns p) ∧ Below w.heap.size w w' := by
  obtain ⟨v1, v2, he, h1, h2, h3⟩ := h
  have g1 := h1
  have g2 := h2
  obtain ⟨A1, c1, rfl, -⟩ := h1
  obtain ⟨A2, c2, rfl, -⟩ := h2
  exact ⟨A1, c1, A2, c2, he, g1, g2, h3⟩
theorem below_drew_new (w : World) (o : Obj) : Below w.heap.size w (w.alloc o).drew := ((Below.refl _ w).alloc (Nat.le_refl _) _).drew
theorem pb_new (w : World) : PB w ((w.alloc (.cells #[.slice none 0 0, .slice none 0 0] 30)).alloc (.cells #[.slice none 0 0, .slice none 0 0] 30)) (.slice none 0 0) (.slice none 0 0) [] [] ∧ Below w.heap.size w ((w.alloc (.cells #[.slice none 0 0, .slice none 0 0] 30)).alloc (.cells #[.slice none 0 0, .slice none 0 0] 30)) := by
  have h1 := heap_alloc_new w (.cells #[.slice none 0 0, .slice none 0 0] 30)
  have h2 := heap_alloc_new (w.alloc (.cells #[.slice none 0 0, .slice none 0 0] 30)) (.cells #[.slice none 0 0, .slice none 0 0] 30)
  have b1 := below_new w (.cells #[.slice none 0 0, .slice none 0 0] 30)
  have b2 := below_new (w.alloc (.cells #[.slice none 0 0, .slice none 0 0] 30)) (.cells #[.slice none 0 0, .slice none 0 0] 30)
  have s1 : (w.alloc (.cells #[.slice none 0 0, .slice none 0 0] 30)).heap.size = w.heap.size + 1 := by simp
  rw [s1] at h2
  exact ⟨⟨(b2.block _ (by omega)).trans h1, h2, ⟨none, 0, rfl, Nat.le_refl _, fun _ => rfl, RdE.nil _ _⟩, ⟨none, 0, rfl, Nat.le_refl _, fun _ => rfl, RdE.nil _ _⟩⟩, b1.trans (b2.mono (by omega))⟩
theorem re_one {W : World} {v : Value} {l : List En} (h : RE W v l) : v.oneCell' = true := by
  obtain ⟨A, c, rfl, _⟩ := h
  rfl
theorem setRow_off (W : World) (g b : Nat) (cs : Array Value) (h : b ≠ g) : (W.setRow g cs).heap[b]? = W.heap[b]? := setRow_other _ _ _ _ (by omega)
/-- The two boxes, the second one written. -/
theorem round_a {w wr W : World} {v1 v2 a b : Value} {d n d' n' : List En} (h : PB w wr v1 v2 d n) (hb : Below wr.heap.size wr W) (hc : CA C D M ds ns w) (hca : CA C D M d n wr) (hk : KeepT (TC C D M) w wr) (r1 : RE W a d') (r2 : RE W b n') :
    PB w (W.setRow (w.heap.size + 1) #[a, b]) a b d' n' ∧ CA C D M d n (W.setRow (w.heap.size + 1) #[a, b]) ∧ KeepT (TC C D M) w (W.setRow (w.heap.size + 1) #[a, b]) := by
  have hp := h.below hb
  have hlt := hc.lt
  have hS : (W.setRow (w.heap.size + 1) #[a, b]).heap.size = W.heap.size := by simp [World.setRow]
  have hother : ∀ x off s, x < W.heap.size → W.cell? ⟨x, off, none⟩ = some (.string s) → (W.setRow (w.heap.size + 1) #[a, b]).heap[x]? = W.heap[x]? := fun x off s _ hs => setRow_off _ _ _ _ (fun e => by
    subst e
    exact no_text hp.b (re_ns hp.d) (re_ns hp.n) s hs)
  refine ⟨⟨(setRow_off _ _ _ _ (by omega)).trans hp.r, setRow_heap _ _ _ _ _ _ hp.b, r1.other (by omega) hother, r2.other (by omega) hother⟩, (hca.below hb).keep (fun x t => setRow_off _ _ _ _ (by have := hlt x t; omega)), ⟨hb.os.trans hk.os, hb.tape.trans hk.tape, hb.output.trans hk.output, by have := hb.size; have := hk.size; omega, fun x hx hn => (setRow_off _ _ _ _ (by omega)).trans ((hb.block x (by have := hk.size; omega)).trans (hk.block x hx hn))⟩⟩
theorem PB.cache {w W W' : World} {v1 v2 : Value} {d n d' n' : List En} (h : PB w W v1 v2 d n) (hc : CA C D M ds ns w) (hca : CA C D M d' n' W) (hk : KeepT (TC C D M) W W') : PB w W' v1 v2 d n := by
  have hlt := hc.lt
  exact ⟨(hk.block _ (Array.getElem?_eq_some_iff.1 h.r).1 (fun t => by have := hlt _ t; omega)).trans h.r, (hk.block _ (Array.getElem?_eq_some_iff.1 h.b).1 (fun t => by have := hlt _ t; omega)).trans h.b, h.d.cache hca hk, h.n.cache hca hk⟩
/-- The new box where it is made behind the call. -/
theorem new_a {wr w4 w5 : World} {a b : Value} {d n : List En} (h6 : Below wr.heap.size wr w4) (h5 : Below w4.heap.size w4 w5) (r1 : RE w5 a d) (r2 : RE w5 b n) :
    wr.heap.size ≤ w5.heap.size ∧ (w5.alloc (.cells #[a, b] 30)).heap[w5.heap.size]? = some (.cells #[a, b] 30 (0, 0)) ∧ RE (w5.alloc (.cells #[a, b] 30)) a d ∧ RE (w5.alloc (.cells #[a, b] 30)) b n ∧ Below wr.heap.size wr (w5.alloc (.cells #[a, b] 30)) :=
  ⟨Nat.le_trans h6.size h5.size, heap_alloc_new _ _, r1.below (below_new _ _), r2.below (below_new _ _), (h6.trans (h5.mono h6.size)).trans ((below_new _ _).mono (Nat.le_trans h6.size h5.size))⟩
/-- The new box where it is made ahead of the call. -/
theorem new_b {wr w4 w5 : World} {a b : Value} {d n : List En} (h6 : Below wr.heap.size wr w4) (h5 : Below w4.heap.size w4 w5) (hn : w5.heap[wr.heap.size]? = some (.cells #[.slice none 0 0, .slice none 0 0] 30 (0, 0))) (r1 : RE w5 a d) (r2 : RE w5 b n) :
    ((w5.setCell ⟨wr.heap.size, 0, none⟩ a).setCell ⟨wr.heap.size, 1, none⟩ b).heap[wr.heap.size]? = some (.cells #[a, b] 30 (0, 0)) ∧ RE ((w5.setCell ⟨wr.heap.size, 0, none⟩ a).setCell ⟨wr.heap.size, 1, none⟩ b) a d ∧ RE ((w5.setCell ⟨wr.heap.size, 0, none⟩ a).setCell ⟨wr.heap.size, 1, none⟩ b) b n ∧ Below wr.heap.size wr ((w5.setCell ⟨wr.heap.size, 0, none⟩ a).setCell ⟨wr.heap.size, 1, none⟩ b) := by
  have off : ∀ x, x ≠ wr.heap.size → ((w5.setCell ⟨wr.heap.size, 0, none⟩ a).setCell ⟨wr.heap.size, 1, none⟩ b).heap[x]? = w5.heap[x]? := fun x hx => (Below.heap_setCell _ ⟨wr.heap.size, 1, none⟩ _ x hx).trans (Below.heap_setCell _ ⟨wr.heap.size, 0, none⟩ _ x hx)
  have hother : ∀ x off s, x < w5.heap.size → w5.cell? ⟨x, off, none⟩ = some (.string s) → ((w5.setCell ⟨wr.heap.size, 0, none⟩ a).setCell ⟨wr.heap.size, 1, none⟩ b).heap[x]? = w5.heap[x]? := fun x _ s _ hs => off x (fun e => by
    subst e
    exact no_text hn (fun _ => by simp) (fun _ => by simp) s hs)
  have hs : w5.heap.size ≤ ((w5.setCell ⟨wr.heap.size, 0, none⟩ a).setCell ⟨wr.heap.size, 1, none⟩ b).heap.size := by simp [World.setCell]
  refine ⟨row_put (row_put hn), r1.other hs hother, r2.other hs hother, ?_⟩
  exact ((h6.trans (h5.mono h6.size)).setCell (p := ⟨wr.heap.size, 0, none⟩) (Nat.le_refl _) _).setCell (p := ⟨wr.heap.size, 1, none⟩) (Nat.le_refl _) _
theorem res12 (tmps : Array Value) (g : Nat) (v0 v1 y : Value) (W : World) (t4 : tmps.getD 4 undef = .pointer (some ⟨g, 0, none⟩)) (t5 : tmps.getD 5 undef = y) (c0 : W.heap[g]? = some (.cells #[v0, v1] 30 (0, 0))) : (results Tryd.f12 tmps).run Tryd.prog W = .ok (.tuple #[.agg #[v0, v1], y]) W := by
  have q0 : W.cell? ⟨g, 0, none⟩ = some v0 := by rw [Lib.cell_of_heap c0]; rfl
  have q1 : W.cell? ⟨g, 1, none⟩ = some v1 := by rw [Lib.cell_of_heap c0]; rfl
  simp only [Array.getD_eq_getD_getElem?] at t4 t5
  simp [results, Tryd.results12, t4, t5, q0, q1, go_sem]
theorem RdC.here {w : World} {b off : Nat} {l : List Ac} (h : RdC w (some ⟨b, off, none⟩) l) {k : Nat} (hk : k < l.length) : b < w.heap.size ∧ w.cell? ⟨b, off + k * 3, none⟩ = some (.int .i64 l[k].what) ∧ w.cell? ⟨b, off + k * 3 + 1, none⟩ = some (.string l[k].name) ∧ w.cell? ⟨b, off + k * 3 + 2, none⟩ = some (.string l[k].script) := by
  obtain ⟨b', off', he, h1, h2⟩ := h.at hk
  cases he
  exact ⟨h1, h2⟩
/-- The end: the result's box is written. -/
theorem end_a {w W : World} {v1 v2 : Value} {d n : List En} (h : PB w W v1 v2 d n) (hc : CA C D M ds ns w) (hca : CA C D M d n W) (hk : KeepT (TC C D M) w W) :
    RE (W.setRow w.heap.size #[v1, v2]) v1 d ∧ RE (W.setRow w.heap.size #[v1, v2]) v2 n ∧ CA C D M d n (W.setRow w.heap.size #[v1, v2]) ∧ KeepT (TC C D M) w (W.setRow w.heap.size #[v1, v2]) := by
  have hlt := hc.lt
  have hS : (W.setRow w.heap.size #[v1, v2]).heap.size = W.heap.size := by simp [World.setRow]
  have hother : ∀ x off s, x < W.heap.size → W.cell? ⟨x, off, none⟩ = some (.string s) → (W.setRow w.heap.size #[v1, v2]).heap[x]? = W.heap[x]? := fun x off s _ hs => setRow_off _ _ _ _ (fun e => by
    subst e
    exact no_text h.r (fun _ => by simp) (fun _ => by simp) s hs)
  exact ⟨h.d.other (by omega) hother, h.n.other (by omega) hother, hca.keep (fun x t => setRow_off _ _ _ _ (by have := hlt x t; omega)), ⟨hk.os, hk.tape, hk.output, by have := hk.size; omega, fun x hx hn => (setRow_off _ _ _ _ (by omega)).trans (hk.block x hx hn)⟩⟩
set_option maxRecDepth 100000 in
set_option maxHeartbeats 8000000 in
theorem played_any (A : Option Addr) (c : Nat) (l : List Ac) (w : World) (hr : RdC w A l) (hl : l.length ≤ 1000) (ho : ∀ x ∈ l, x.name.size ≤ 1000000 ∧ x.script.size ≤ 1000000) (hca : CA C D M [] [] w) (hg : DG w) (h2 : ∀ b, TC C D M b → b ≠ 2) :
    Calls Tryd.prog 12 #[.pointer (some ⟨C, 0, none⟩), .slice A l.length c] w fun e w' => ∃ v1 v2, e = .returned (.tuple #[.agg #[v1, v2], .bool true]) ∧ RE w' v1 (plays l).1 ∧ RE w' v2 (plays l).2 ∧ CA C D M (plays l).1 (plays l).2 w' ∧ KeepT (TC C D M) w w' := by
  have HR := Lib.hid hr
  have HO := Lib.hid ho
  have HC := Lib.hid hca
  have HG := Lib.hid hg
  have HPL := Lib.hid (plays_len l)
  clear hr ho hca hg
  go_enter Tryd.func12, Tryd.ntmps12
  go_wp2_with fail
  have HB0 := Lib.hid (pb_new w)
  obtain ⟨hpb0, hbl0⟩ := HB0.out
  generalize (w.alloc (.cells #[.slice none 0 0, .slice none 0 0] 30)).alloc (.cells #[.slice none 0 0, .slice none 0 0] 30) = W0 at *
  go_loopw [7] (fun i wr => ∃ (k : Nat) (v1 v2 : Value), k ≤ l.length ∧ i = .int .i64 k ∧ Hid (PB w wr v1 v2 (plays (l.take k)).1 (plays (l.take k)).2) ∧ Hid (CA C D M (plays (l.take k)).1 (plays (l.take k)).2 wr) ∧ Hid (KeepT (TC C D M) w wr)) (fun i _ => l.length - (intOf i).toNat)
  case atStart => exact ⟨0, _, _, Nat.zero_le _, rfl, Lib.hid hpb0, Lib.hid (HC.out.below hbl0), Lib.hid (.of_below hbl0)⟩
  case round =>
    obtain ⟨k, v1, v2, hk, rfl, HPB, HCA, HK⟩ := hrel
    by_cases hlt : k < l.length
    rotate_left
    · have d1 : decide (k < l.length) = false := decide_eq_false hlt
      obtain rfl : k = l.length := by omega
      have HPE := Lib.hid (congrArg plays (List.take_length (l := l)))
      rw [HPE.out] at HPB HCA
      obtain ⟨y0, y1⟩ := HPB.out.cells
      have HO1 := Lib.hid (re_one HPB.out.d)
      have HO2 := Lib.hid (re_one HPB.out.n)
      have HBR := Lib.hid HPB.out.r
      have HEN := Lib.hid (end_a HPB.out HC.out HCA.out HK.out)
      go_upto_region 10 with (fail)
      go_wp2_with (refine wpList_store_row rfl 30 (.tmp 4) (.tmp 48) rfl w.heap.size #[v1, v2] rfl rfl 30 _ HBR.out size30 rfl (one2 HO1.out HO2.out) ?_)
      go_wp2_with fail
      refine bodyPost_ret (res12 _ w.heap.size _ _ _ _ rfl rfl (setRow_heap _ _ _ _ _ _ HBR.out)) rfl ?_
      exact ⟨v1, v2, rfl, HEN.out⟩
    have d1 : decide (k < l.length) = true := decide_eq_true hlt
    have hk0 : (0 : Int) ≤ (k : Int) := by omega
    have hkl : (k : Int) < (l.length : Int) := by omega
    have hx := HO.out _ (List.getElem_mem hlt)
    have HPT := Lib.hid (plays_take hlt)
    have hlen := HPL.out k hk
    have hrc := HR.out.cache HK.out HC.out
    obtain ⟨b, off, hA, hbb, x0, x1, x2⟩ := hrc.at hlt
    subst hA
    obtain ⟨p, hp⟩ : ∃ p, l[k] = p := ⟨_, rfl⟩
    rw [hp] at x0 x1 x2 hx HPT
    obtain ⟨PP, hPP⟩ : ∃ P, plays (l.take k) = P := ⟨_, rfl⟩
    rw [hPP] at HPB HCA HPT hlen
    obtain ⟨ds, ns⟩ := PP
    obtain ⟨y0, y1⟩ := HPB.out.cells
    have HRD : Hid (∀ w5, Below wr.heap.size wr w5 → Calls Tryd.prog 20 #[.agg #[v1, v2], .agg (acV p)] w5 fun e w' => ∃ A1 c1 A2 c2, e = .returned (.tuple #[.agg #[.slice A1 (aD ds ns p).length c1, .slice A2 (aN ds ns p).length c2], .string (aS ds ns p), .int .i64 (aE ds ns p)]) ∧ RE w' (.slice A1 (aD ds ns p).length c1) (aD ds ns p) ∧ RE w' (.slice A2 (aN ds ns p).length c2) (aN ds ns p) ∧ Below w5.heap.size w5 w') := Lib.hid (fun w5 hb => (rdo_any v1 v2 ds ns p w5 (HPB.out.d.below hb) (HPB.out.n.below hb) (by have := hlen.1; simp at this; omega) (by have := hlen.2; simp at this; omega) hx.2 (by omega)).mono rdq_un)
    have HB1 : Hid (Below wr.heap.size wr wr.drew) := Lib.hid (Below.refl _ _).drew
    have HB2 : Hid (∀ o, Below wr.heap.size wr (wr.alloc o).drew) := Lib.hid (below_drew_new wr)
    have HB3 : Hid (Below wr.heap.size wr (wr.alloc (.cells #[.slice none 0 0, .slice none 0 0] 30)).drew) := Lib.hid (HB2.out _)
    have HNB : Hid (∀ w5, Below (wr.alloc (.cells #[.slice none 0 0, .slice none 0 0] 30)).drew.heap.size (wr.alloc (.cells #[.slice none 0 0, .slice none 0 0] 30)).drew w5 → w5.heap[wr.heap.size]? = some (.cells #[.slice none 0 0, .slice none 0 0] 30 (0, 0)) ∧ w5.cell? ⟨wr.heap.size, 0, none⟩ = some (.slice none 0 0) ∧ w5.cell? ⟨wr.heap.size, 1, none⟩ = some (.slice none 0 0) ∧ w5.frozen? ⟨wr.heap.size, 0, none⟩ = false ∧ w5.frozen? ⟨wr.heap.size, 1, none⟩ = false) := Lib.hid (fun w5 hb => by
      have hq : w5.heap[wr.heap.size]? = some (.cells #[.slice none 0 0, .slice none 0 0] 30 (0, 0)) := (hb.block _ (by simp)).trans (heap_alloc_new wr (.cells #[.slice none 0 0, .slice none 0 0] 30))
      refine ⟨hq, ?_, ?_, ?_, ?_⟩
      · simp [World.cell?, hq]
      · simp [World.cell?, hq]
      · simp [World.frozen?, hq]
      · simp [World.frozen?, hq])
    have HCC : Hid (∀ w4, Below wr.heap.size wr w4 → ∀ w5, Below w4.heap.size w4 w5 → w5.cell? ⟨w.heap.size + 1, 0, none⟩ = some v1 ∧ w5.cell? ⟨w.heap.size + 1, 1, none⟩ = some v2 ∧ w5.cell? ⟨b, off + k * 3, none⟩ = some (.int .i64 p.what) ∧ w5.cell? ⟨b, off + k * 3 + 1, none⟩ = some (.string p.name) ∧ w5.cell? ⟨b, off + k * 3 + 2, none⟩ = some (.string p.script)) := Lib.hid (fun w4 h4 w5 h5 => by
      have hbe := h4.trans (h5.mono h4.size)
      have q := (HPB.out.below hbe).cells
      exact ⟨q.1, q.2, (hbe.cell (p := ⟨b, off + k * 3, none⟩) hbb).trans x0, (hbe.cell (p := ⟨b, off + k * 3 + 1, none⟩) hbb).trans x1, (hbe.cell (p := ⟨b, off + k * 3 + 2, none⟩) hbb).trans x2⟩)
    have HPK := Lib.hid hp
    clear hPP hp hbb hrc
    go_upto_region 5 with (fail)
    go_cut [8, 9, 10] from 19 to 28 (fun x8 x9 x10 W => ∃ (g : Nat) (A1 : Option Addr) (c1 : Nat) (A2 : Option Addr) (c2 : Nat), x8 = .pointer (some ⟨g, 0, none⟩) ∧ x9 = .string (aS ds ns p) ∧ x10 = .int .i64 (aE ds ns p) ∧ Hid (W.heap[g]? = some (.cells #[.slice A1 (aD ds ns p).length c1, .slice A2 (aN ds ns p).length c2] 30 (0, 0)) ∧ RE W (.slice A1 (aD ds ns p).length c1) (aD ds ns p) ∧ RE W (.slice A2 (aN ds ns p).length c2) (aN ds ns p) ∧ Below wr.heap.size wr W))
    case first =>
      have e1 := World.new_ne wr _ y0
      have e2 := World.new_ne wr _ x0
      go_region_held3 (fun W => W.cell? ⟨w.heap.size + 1, 0, none⟩ = some v1 ∧ W.cell? ⟨w.heap.size + 1, 1, none⟩ = some v2 ∧ W.cell? ⟨b, off + k * 3, none⟩ = some (.int .i64 p.what) ∧ W.cell? ⟨b, off + k * 3 + 1, none⟩ = some (.string p.name) ∧ W.cell? ⟨b, off + k * 3 + 2, none⟩ = some (.string p.script))
        (first | assumption | (exact ⟨y0, y1, x0, x1, x2⟩) | go_keep | fail)
        (first
          | (go_at_call 20; with_reducible (refine (HRD.out _ HB1.out).mono ?_); rintro e w5 ⟨A1, c1, A2, c2, rfl, hr1, hr2, hb5⟩; obtain ⟨y0', y1', x0', x1', x2'⟩ := HCC.out _ HB1.out _ hb5; have HR1 := Lib.hid hr1; have HR2 := Lib.hid hr2; have HB5 := Lib.hid hb5; have HB6 := Lib.hid HB1.out; clear hr1 hr2 hb5)
          | (go_at_call 20; with_reducible (refine (HRD.out _ HB3.out).mono ?_); rintro e w5 ⟨A1, c1, A2, c2, rfl, hr1, hr2, hb5⟩; obtain ⟨y0', y1', x0', x1', x2'⟩ := HCC.out _ HB3.out _ hb5; obtain ⟨hn5, hn6, hn7, hn8, hn9⟩ := HNB.out _ hb5; have HR1 := Lib.hid hr1; have HR2 := Lib.hid hr2; have HB5 := Lib.hid hb5; have HB6 := Lib.hid HB3.out; clear hr1 hr2 hb5))
      · go_wp2_with fail
        go_meet
        exact ⟨_, A1, c1, A2, c2, rfl, rfl, rfl, Lib.hid (new_a HB6.out HB5.out HR1.out HR2.out).2⟩
      · go_wp2_with fail
        go_meet
        exact ⟨_, A1, c1, A2, c2, rfl, rfl, rfl, Lib.hid (new_b HB6.out HB5.out hn5 HR1.out HR2.out)⟩
    case rest =>
      obtain ⟨g, A1, c1, A2, c2, rfl, rfl, rfl, HG5⟩ := hcut
      obtain ⟨q1, q2, q3, q4⟩ := HG5.out
      have HRA := Lib.hid (round_a HPB.out q4 HC.out HCA.out HK.out q2 q3)
      have HPW := Lib.hid (HPB.out.below q4).b
      have g0 : wc.cell? ⟨g, 0, none⟩ = some (.slice A1 (aD ds ns p).length c1) := by simp only [World.cell?, q1]; rfl
      have g1 : wc.cell? ⟨g, 1, none⟩ = some (.slice A2 (aN ds ns p).length c2) := by simp only [World.cell?, q1]; rfl
      obtain ⟨va, ha⟩ : ∃ a : Value, Value.slice A1 (aD ds ns p).length c1 = a := ⟨_, rfl⟩
      obtain ⟨vb, hb⟩ : ∃ a : Value, Value.slice A2 (aN ds ns p).length c2 = a := ⟨_, rfl⟩
      have HO1 : Hid (va.oneCell' = true) := Lib.hid (by rw [← ha]; rfl)
      have HO2 : Hid (vb.oneCell' = true) := Lib.hid (by rw [← hb]; rfl)
      rw [ha] at g0 HRA
      rw [hb] at g1 HRA
      clear q1 q2 q3 q4 ha hb HG5 x0 x1 x2 y0 y1 HPB HCA HK
      go_upto_region 6 with (fail)
      obtain ⟨hpb2, hca2, hk2⟩ := HRA.out
      have HPB2 := Lib.hid hpb2
      have HCA2 := Lib.hid hca2
      have HK2 := Lib.hid hk2
      clear hpb2 hca2 hk2 HRA
      obtain ⟨hb2, x0, x1, x2⟩ := (HR.out.cache HK2.out HC.out).here hlt
      rw [HPK.out] at x0 x1 x2
      clear hb2
      go_wp2_with (refine wpList_store_row rfl 30 (.tmp 6) (.tmp 29) rfl (w.heap.size + 1) #[va, vb] rfl rfl 30 _ HPW.out size30 rfl (one2 HO1.out HO2.out) ?_)
      clear HPW g0 g1
      generalize wc.setRow (w.heap.size + 1) #[va, vb] = W2 at *
      have HDO := Lib.hid (do_any p W2 HCA2.out (HG.out.keep HK2.out (fun t => h2 2 t rfl)) h2 (Nat.le_trans hlen.1 (by omega)) (Nat.le_trans hlen.2 (by omega)) hx.2 (by omega))
      have he := bytes_eq (aS ds ns p)
      refine HDO.out.mono ?_
      rintro e w3 ⟨rfl, hca3, hk3⟩
      have HPB3 := Lib.hid (HPB2.out.cache HC.out HCA2.out hk3)
      have HCA3 := Lib.hid hca3
      have HK3 := Lib.hid (HK2.out.trans hk3 (fun b t => .inl t))
      clear hca3 hk3 HDO x0 x1 x2
      generalize aS ds ns p = S at *
      generalize aE ds ns p = E at *
      go_wp2_with fail
      go_roundw
      case rel => exact ⟨k + 1, va, vb, by omega, by go_num, by rw [HPT.out]; exact HPB3, by rw [HPT.out]; exact HCA3, HK3⟩
      case measure => simp [intOf]; omega
end
end Go.Proofs.YtpomaabkgbaikaaDoor
