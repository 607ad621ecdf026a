/- What the document's cache has behind a call: what serves all calls. -/
import Derived.Test.YtpomaabkgbaikaaDoorRw
import Derived.Test.YtpomaabkgbaikaaDoorD1RefDigest
namespace Go.Proofs.YtpomaabkgbaikaaDoor
open Go Go.RowKit
/-- A call. -/
structure Ac where
  what : Int
  name : ByteArray
  script : ByteArray
abbrev acV (x : Ac) : Array Value := #[.int .i64 x.what, .string x.name, .string x.script]
def aD (ds ns : List En) (x : Ac) : List En := if x.what = 0 then pL ds (ds.length + ns.length) x.script else if x.what = 1 then [] else ds
def aN (ds ns : List En) (x : Ac) : List En := if x.what = 0 then ns else if x.what = 1 then ns else if x.what = 2 then loadL ns (ds.length + ns.length) x.name x.script else unL ns x.name
def aS (ds ns : List En) (x : Ac) : ByteArray := if x.what = 0 then pD ds (ds.length + ns.length) x.script else ⟨#[]⟩
def aE (ds ns : List En) (x : Ac) : Int := if x.what = 0 then pE ds (ds.length + ns.length) x.script else if x.what = 1 then 0 else if x.what = 2 then loadE ns (ds.length + ns.length) x.name x.script else unE ns x.name
/-- A list as a value, its block none of three. -/
def REp (k : Nat) (W : World) (v : Value) (l : List En) : Prop := ∃ A c, v = .slice A l.length c ∧ l.length ≤ c ∧ (A = none → c = 0) ∧ (0 < l.length → ∃ b off, A = some ⟨b, off, none⟩ ∧ (b < k ∨ k + 3 ≤ b) ∧ b < W.heap.size ∧ ∀ i (h : i < l.length), W.cell? ⟨b, off + i * 2, none⟩ = some (.string l[i].key) ∧ W.cell? ⟨b, off + i * 2 + 1, none⟩ = some (.string l[i].script))
def RE (W : World) (v : Value) (l : List En) : Prop := ∃ A c, v = .slice A l.length c ∧ l.length ≤ c ∧ (A = none → c = 0) ∧ RdE W A l
theorem RE.below {w w' : World} {v : Value} {l : List En} (h : RE w v l) (hb : Below w.heap.size w w') : RE w' v l := by
  obtain ⟨A, c, h1, h2, h3, h4⟩ := h
  exact ⟨A, c, h1, h2, h3, h4.below hb⟩
theorem OE.re {w W : World} {v : Value} {l : List En} (h : OE w W v l) : RE W v l := by
  obtain ⟨A, c, h1, -, h2, h3, -, h4⟩ := own_rdE h.own
  exact ⟨A, c, h1, h2, h3, h4⟩
theorem RE.nil (W : World) : RE W (.slice none 0 0) [] := ⟨none, 0, rfl, Nat.le_refl _, fun _ => rfl, RdE.nil _ _⟩
theorem RE.p {w : World} {v : Value} {l : List En} (h : RE w v l) : REp w.heap.size w v l := by
  obtain ⟨A, c, h1, h2, h3, h4⟩ := h
  refine ⟨A, c, h1, h2, h3, fun h0 => ?_⟩
  obtain ⟨b, off, e, hlt, hc⟩ := h4 h0
  exact ⟨b, off, e, .inl hlt, hlt, hc⟩
theorem REp.re {k : Nat} {W : World} {v : Value} {l : List En} (h : REp k W v l) : RE W v l := by
  obtain ⟨A, c, h1, h2, h3, h4⟩ := h
  refine ⟨A, c, h1, h2, h3, fun h0 => ?_⟩
  obtain ⟨b, off, e, _, hlt, hc⟩ := h4 h0
  exact ⟨b, off, e, hlt, hc⟩
theorem OE.p {w W : World} {v : Value} {l : List En} {k : Nat} (h : OE w W v l) (hk : k + 3 ≤ w.heap.size) : REp k W v l := by
  obtain ⟨A, c, h1, -, h2, h3, -, h4⟩ := own_rdE h.own
  refine ⟨A, c, h1, h2, h3, fun h0 => ?_⟩
  obtain ⟨b, off, e, hlt, hc⟩ := h4 h0
  refine ⟨b, off, e, .inr ?_, hlt, hc⟩
  subst e
  subst h1
  have := (h.own.lt b rfl).1
  omega
theorem REp.nil (k : Nat) (W : World) : REp k W (.slice none 0 0) [] := ⟨none, 0, rfl, Nat.le_refl _, fun _ => rfl, fun h => absurd h (by simp)⟩
theorem REp.keep {k : Nat} {W W' : World} {v : Value} {l : List En} (h : REp k W v l) (hs : W.heap.size ≤ W'.heap.size) (hk : ∀ b, b < W.heap.size → (b < k ∨ k + 3 ≤ b) → W'.heap[b]? = W.heap[b]?) : REp k W' v l := by
  obtain ⟨A, c, h1, h2, h3, h4⟩ := h
  refine ⟨A, c, h1, h2, h3, fun h0 => ?_⟩
  obtain ⟨b, off, e, hb, hlt, hc⟩ := h4 h0
  refine ⟨b, off, e, hb, Nat.lt_of_lt_of_le hlt hs, fun i hi => ?_⟩
  have hq := hk b hlt hb
  exact ⟨(World.cell?_of_block (w := W) (w' := W') (a := ⟨b, off + i * 2, none⟩) hq).trans (hc i hi).1, (World.cell?_of_block (w := W) (w' := W') (a := ⟨b, off + i * 2 + 1, none⟩) hq).trans (hc i hi).2⟩
theorem REp.below {k : Nat} {w w' : World} {v : Value} {l : List En} (h : REp k w v l) (hb : Below w.heap.size w w') : REp k w' v l := h.keep hb.size (fun b hlt _ => hb.block b hlt)
/-- What stands in a call's own cells. -/
structure B3 (w W : World) (a b : Value) (x : Ac) : Prop where
  b2 : W.heap[w.heap.size]? = some (.cells #[a, b] 30 (0, 0))
  b3 : W.heap[w.heap.size + 1]? = some (.cells (acV x) 39 (0, 0))
  b4 : W.heap[w.heap.size + 1 + 1]? = some (.cells #[.slice none 0 0, .slice none 0 0] 30 (0, 0))
  bel : Below w.heap.size w W
theorem b3_new (w : World) (a b : Value) (x : Ac) : B3 w (((w.alloc (.cells #[a, b] 30)).alloc (.cells (acV x) 39)).alloc (.cells #[.slice none 0 0, .slice none 0 0] 30)) a b x := by
  have hb1 := below_new w (.cells #[a, b] 30)
  have hb2 := below_new (w.alloc (.cells #[a, b] 30)) (.cells (acV x) 39)
  have hb3 := below_new ((w.alloc (.cells #[a, b] 30)).alloc (.cells (acV x) 39)) (.cells #[.slice none 0 0, .slice none 0 0] 30)
  have h1 := heap_alloc_new w (.cells #[a, b] 30)
  have h2 := heap_alloc_new (w.alloc (.cells #[a, b] 30)) (.cells (acV x) 39)
  have h3 := heap_alloc_new ((w.alloc (.cells #[a, b] 30)).alloc (.cells (acV x) 39)) (.cells #[.slice none 0 0, .slice none 0 0] 30)
  have s1 : (w.alloc (.cells #[a, b] 30)).heap.size = w.heap.size + 1 := by simp
  have s2 : ((w.alloc (.cells #[a, b] 30)).alloc (.cells (acV x) 39)).heap.size = w.heap.size + 1 + 1 := by simp
  rw [s1] at h2
  rw [s2] at h3
  exact ⟨(hb3.block _ (by omega)).trans ((hb2.block _ (by omega)).trans h1), (hb3.block _ (by omega)).trans h2, h3, hb1.trans ((hb2.mono (by omega)).trans (hb3.mono (by omega)))⟩
theorem B3.lt {w W : World} {a b : Value} {x : Ac} (h : B3 w W a b x) : w.heap.size + 3 ≤ W.heap.size := (Array.getElem?_eq_some_iff.1 h.b4).1
theorem B3.below {w W W' : World} {a b : Value} {x : Ac} (h : B3 w W a b x) (hb : Below W.heap.size W W') : B3 w W' a b x := by
  have := h.lt
  exact ⟨(hb.block _ (by omega)).trans h.b2, (hb.block _ (by omega)).trans h.b3, (hb.block _ (by omega)).trans h.b4, h.bel.trans (hb.mono h.bel.size)⟩
theorem B3.cells {w W : World} {a b : Value} {x : Ac} (h : B3 w W a b x) : W.cell? ⟨w.heap.size, 0, none⟩ = some a ∧ W.cell? ⟨w.heap.size, 1, none⟩ = some b ∧ W.cell? ⟨w.heap.size + 1, 0, none⟩ = some (.int .i64 x.what) ∧ W.cell? ⟨w.heap.size + 1, 1, none⟩ = some (.string x.name) ∧ W.cell? ⟨w.heap.size + 1, 2, none⟩ = some (.string x.script) ∧ (∀ j, W.frozen? ⟨w.heap.size, j, none⟩ = false) := by
  refine ⟨?_, ?_, ?_, ?_, ?_, fun j => Lib.frozen_of_heap h.b2 j⟩
  · simp only [World.cell?, h.b2]; rfl
  · simp only [World.cell?, h.b2]; rfl
  · simp only [World.cell?, h.b3]; rfl
  · simp only [World.cell?, h.b3]; rfl
  · simp only [World.cell?, h.b3]; rfl
theorem row_put {W : World} {g j : Nat} {cs : Array Value} {v : Value} {t : TypeId} (h : W.heap[g]? = some (.cells cs t (0, 0))) : (W.setCell ⟨g, j, none⟩ v).heap[g]? = some (.cells (cs.setIfInBounds j v) t (0, 0)) := by
  have hlt := (Array.getElem?_eq_some_iff.1 h).1
  have h' : W.heap[g] = .cells cs t (0, 0) := by simpa [Array.getElem?_eq_getElem hlt] using h
  show (W.heap.modify g _)[g]? = _
  rw [Array.getElem?_eq_getElem (by simpa using hlt), Array.getElem_modify_self, h']
  rfl
theorem B3.set {w W : World} {a b : Value} {x : Ac} (h : B3 w W a b x) (j : Nat) (v a' b' : Value) (hv : (#[a, b] : Array Value).setIfInBounds j v = #[a', b']) : B3 w (W.setCell ⟨w.heap.size, j, none⟩ v) a' b' x := by
  have off : ∀ k, k ≠ w.heap.size → (W.setCell ⟨w.heap.size, j, none⟩ v).heap[k]? = W.heap[k]? := fun k hk => Below.heap_setCell _ ⟨w.heap.size, j, none⟩ _ k hk
  refine ⟨?_, (off _ (by omega)).trans h.b3, (off _ (by omega)).trans h.b4, h.bel.setCell (p := ⟨w.heap.size, j, none⟩) (Nat.le_refl _) _⟩
  rw [← hv]
  exact row_put h.b2
theorem REp.set {w W : World} {v u : Value} {l : List En} {j : Nat} (h : REp w.heap.size W v l) : REp w.heap.size (W.setCell ⟨w.heap.size, j, none⟩ u) v l := h.keep (by simp [World.setCell]) (fun b _ hb => Below.heap_setCell _ ⟨w.heap.size, j, none⟩ _ b (by show b ≠ w.heap.size; omega))
theorem size30 : (Tryd.prog.info? 30).map (·.size) = some 2 := by kernel_rfl
theorem res20 (tmps : Array Value) (g : Nat) (v0 v1 y z : Value) (W : World) (t4 : tmps.getD 4 undef = .pointer (some ⟨g, 0, none⟩)) (t5 : tmps.getD 5 undef = y) (t6 : tmps.getD 6 undef = z) (c0 : W.heap[g]? = some (.cells #[v0, v1] 30 (0, 0))) : (results Tryd.f20 tmps).run Tryd.prog W = .ok (.tuple #[.agg #[v0, v1], y, z]) W := by
  have q0 : W.cell? ⟨g, 0, none⟩ = some v0 := by rw [Lib.cell_of_heap c0]; rfl
  have q1 : W.cell? ⟨g, 1, none⟩ = some v1 := by rw [Lib.cell_of_heap c0]; rfl
  simp only [Array.getD_eq_getD_getElem?] at t4 t5 t6
  simp [results, Tryd.results20, t4, t5, t6, q0, q1, go_sem]
/-- What a call of the document's tells. -/
def RDQ (w : World) (ds ns : List En) (x : Ac) (e : Ending) (w' : World) : Prop := ∃ v1 v2, e = .returned (.tuple #[.agg #[v1, v2], .string (aS ds ns x), .int .i64 (aE ds ns x)]) ∧ RE w' v1 (aD ds ns x) ∧ RE w' v2 (aN ds ns x) ∧ Below w.heap.size w w'
/-- How it ends. -/
theorem rdq_end {w W : World} {a b : Value} {x : Ac} {ds ns d1 n1 : List En} {s : ByteArray} {e : Int} (h : B3 w W a b x) (ha : REp w.heap.size W a d1) (hb : REp w.heap.size W b n1) (q1 : aD ds ns x = d1) (q2 : aN ds ns x = n1) (q3 : aS ds ns x = s) (q4 : aE ds ns x = e) :
    RDQ w ds ns x (.returned (.tuple #[.agg #[a, b], .string s, .int .i64 e])) (W.setRow (w.heap.size + 1 + 1) #[a, b]) := by
  have hk : ∀ c, c < W.heap.size → (c < w.heap.size ∨ w.heap.size + 3 ≤ c) → (W.setRow (w.heap.size + 1 + 1) #[a, b]).heap[c]? = W.heap[c]? := fun c _ hc => setRow_other _ _ _ _ (by omega)
  refine ⟨a, b, by rw [q3, q4], ?_, ?_, h.bel.trans ⟨rfl, rfl, rfl, by simp [World.setRow], fun k hk => setRow_other _ _ _ _ (by omega)⟩⟩
  · rw [q1]; exact (ha.keep (by simp [World.setRow]) hk).re
  · rw [q2]; exact (hb.keep (by simp [World.setRow]) hk).re
theorem rdig_any (A : Option Addr) (n c : Nat) (s : ByteArray) (w : World) (hn : s.size = n) (hl : n ≤ 1000000) (hr : Rd w A (bl s)) (h0 : A = none → c = 0) : Calls Tryd.prog 39 #[.slice A n c] w fun e w' => e = .returned (.string (digP s)) ∧ Below w.heap.size w w' := by
  subst hn
  have hl2 : (bl s).length = s.size := bl_len s
  refine Dg.rdigest_any _ (bl s) w (by omega) ?_
  unfold Dg.Arg
  rcases Nat.eq_zero_or_pos s.size with h1 | h1
  · have hnil : bl s = [] := List.eq_nil_of_length_eq_zero (by omega)
    rw [h1]
    cases A with
    | none => exact .inl ⟨by rw [h0 rfl], hnil⟩
    | some a => exact .inr (.inl ⟨a, c, rfl, hnil⟩)
  · obtain ⟨b, off, rfl, hlt, hcell⟩ := hr (by omega)
    exact .inr (.inr ⟨b, off, c, by rw [hl2], hlt, hcell⟩)
set_option maxRecDepth 100000 in
theorem room_any (v1 v2 : Value) (A : Option Addr) (c n1 n2 : Nat) (A1 A2 : Option Addr) (c1 c2 : Nat) (l : List En) (key : ByteArray) (w : World) (e1 : v1 = .slice A1 n1 c1) (e2 : v2 = .slice A2 n2 c2) (hr : RdE w A l) (hl : l.length ≤ 100000000) (h1 : n1 ≤ 100000000) (h2 : n2 ≤ 100000000) :
    Calls Tryd.prog 40 #[.agg #[v1, v2], .slice A l.length c, .string key] w fun e w' => e = .returned (.bool (hasK l key || decide (n1 + n2 < 65536))) ∧ Below w.heap.size w w' := by
  subst e1
  subst e2
  have hb0 := below_new w (.cells #[.slice A1 n1 c1, .slice A2 n2 c2] 30)
  have h := heap_alloc_new w (.cells #[.slice A1 n1 c1, .slice A2 n2 c2] 30)
  have z0 : (w.alloc (.cells #[.slice A1 n1 c1, .slice A2 n2 c2] 30)).cell? ⟨w.heap.size, 0, none⟩ = some (.slice A1 n1 c1) := by simp only [World.cell?, h]; rfl
  have z1 : (w.alloc (.cells #[.slice A1 n1 c1, .slice A2 n2 c2] 30)).cell? ⟨w.heap.size, 1, none⟩ = some (.slice A2 n2 c2) := by simp only [World.cell?, h]; rfl
  have HB := Lib.hid hb0
  have HF := Lib.hid (find_any A c l key (w.alloc (.cells #[.slice A1 n1 c1, .slice A2 n2 c2] 30)) (hr.below hb0) (by omega))
  generalize scr l key = sc at *
  clear h hb0 hr
  cases hk : hasK l key with
  | true =>
    rw [hk] at HF
    clear hk
    go_enter Tryd.func40, Tryd.ntmps40
    go_upto_region 1 with (fail)
    generalize w.alloc (.cells #[.slice A1 n1 c1, .slice A2 n2 c2] 30) = W at *
    go_wp2_with fail
    refine HF.out.mono ?_
    rintro e w2 ⟨rfl, rfl⟩
    go_wp2_with fail
    go_ret
    exact ⟨rfl, HB.out⟩
  | false =>
    rw [hk] at HF
    clear hk
    have d2 : decide ((n1 : Int) + (n2 : Int) < 65536) = decide (n1 + n2 < 65536) := by
      rw [Bool.eq_iff_iff]; simp; omega
    go_enter Tryd.func40, Tryd.ntmps40
    go_upto_region 1 with (fail)
    generalize w.alloc (.cells #[.slice A1 n1 c1, .slice A2 n2 c2] 30) = W at *
    go_wp2_with fail
    refine HF.out.mono ?_
    rintro e w2 ⟨rfl, rfl⟩
    go_wp2_with fail
    go_ret
    exact ⟨ret_bool (by simp), HB.out⟩
end Go.Proofs.YtpomaabkgbaikaaDoor
