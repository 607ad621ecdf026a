/- Proved here: 'taborlaw21.CacheCopies' returns true for any calls and any one behind. Conditions: those of the given card (the four listed tables hold what the program's text lays; nothing else). -/
import Derived.Test.YtpomaabkgbaikaaDoorAcs
import Derived.Test.YtpomaabkgbaikaaDoorAlx
import Derived.Test.YtpomaabkgbaikaaDoorEnt
import Derived.Test.YtpomaabkgbaikaaDoorCpy
import Derived.Test.YtpomaabkgbaikaaDoorSa
import Derived.Test.YtpomaabkgbaikaaDoorCpw
import Derived.RangeFuncBox
import Derived.Test.YtpomaabkgbaikaaDoorFrame
namespace Go.Proofs.YtpomaabkgbaikaaDoor
open Go Go.RowKit
open Go.ChangeShapes Go.WideShapes Go.ChangeAt Go.Deep Go.Joins
section
variable {H : Type} {enc : TypeId × Value → H} {W : World}
set_option maxRecDepth 100000 in
theorem ac_of {base0 : Nat} {v : Value} {fuel : Nat} {x : DataW H × List MemPlace} (hv : Value.okWide Tryd.prog W .any base0 39 v) (h : DataW.trod enc Tryd.prog W 0 (fun _ => true) true fuel 39 v.cells.toList = some x) (hw : ∀ m ∈ x.1.weights Tryd.prog 39, m ≤ reachBytes) :
    ∃ a : Ac, v = .agg (acV a) ∧ a.ok := by
  obtain ⟨cs, rfl, hsz⟩ := okWide_struct Tryd.underlying39 hv
  have h : DataW.trod enc Tryd.prog W 0 (fun _ => true) true fuel 39 cs.toList = some x := h
  have hcl : cs.toList.length = 3 := by
    have : cs.size = 3 := by first | exact hsz | (rw [hsz]; kernel_rfl) | (simpa using hsz)
    simpa using this
  have hca : Value.agg cs = Value.agg cs.toList.toArray := by simp
  rw [hca]
  clear hv hsz hca
  generalize cs.toList = ls at *
  cases fuel with
  | zero => simp [DataW.trod] at h
  | succ f =>
  obtain ⟨y0, y1, y2, n, hy, hlen, t0, t1, t2⟩ := trod_struct3 Tryd.underlying39 h
  match ls, hcl with
  | [c0, c1, c2], _ =>
    have k9 : Tryd.prog.cellsOf 9 = 1 := by kernel_rfl
    have k3 : Tryd.prog.cellsOf 3 = 1 := by kernel_rfl
    simp only [k9, k3, List.drop_zero, List.drop_succ_cons, List.take_succ_cons, List.take_zero] at t0 t1 t2
    obtain ⟨z0, e0, x0, w0⟩ := DataW.trod_int Tryd.underlying3 t0
    obtain ⟨z1, e1, x1, w1⟩ := DataW.trod_string Tryd.underlying9 t1
    obtain ⟨z2, e2, x2, w2⟩ := DataW.trod_string Tryd.underlying9 t2
    cases e0; cases e1; cases e2
    have hz : z1.size ≤ 140737488351232 ∧ z2.size ≤ 140737488351232 := by
      have hD : x.1 = .agg [y0.1, y1.1, y2.1] := congrArg Prod.fst hy
      rw [x0, x1, x2] at hD
      have h1 : z1.data.toList.length = z1.size := by rw [Array.length_toList]; rfl
      have h2 : z2.data.toList.length = z2.size := by rw [Array.length_toList]; rfl
      refine ⟨hw _ ?_, hw _ ?_⟩
      all_goals
        rw [hD, DataW.weights, Tryd.underlying39]
        simp [DataW.weightsEach, DataW.weights, h1, h2]
    exact ⟨⟨z0, z1, z2⟩, rfl, wf_i64 w0, hz.1, hz.2⟩
end
end Go.Proofs.YtpomaabkgbaikaaDoor
namespace Go.Proofs.YtpomaabkgbaikaaDoor
open Go Go.RowKit Go.Shelf
attribute [local go_sem] Oper.semAt_some
/-- The iterator's contract, where the first round is the last one. -/
def SeqF {α : Type} (n : Nat) (P : Program) (gf : Nat) (lb : Array Value) (encs : α → Array Value) (Kp : World → World → Prop) (x0 : Option α) (w : World) : Prop :=
  ∀ (l : Nat) (J0 J1 : World → Prop) (W : World), Below w.heap.size w W →
    (∀ x W1, x0 = some x → J0 W1 → YieldAt Fence.wide (n - 1) P l (encs x) W1 fun e W' => e = .returned (.bool false) ∧ J1 W' ∧ Kp W1 W') →
    J0 W → CallsIn Fence.wide n P gf (#[.func (.yield l) #[] #[]] ++ lb) W fun e W' => (∃ v, e = .returned v) ∧ (match x0 with | none => J0 W' | some _ => J1 W')
/-- How the round of the body ends. -/
def exPost (id : Nat) (Kp : World → World → Prop) (I1 : World → Prop) (W : World) : Exit → Act → World → Prop
  | .exit i, _, W' => i = id ∧ KeepsOthers W W' ∧ Kp W W' ∧ I1 W'
  | _, _, _ => False
theorem rangeB {α : Type} {n : Nat} {P : Program} {g : Operand} {ps : Array Tmp} {assign body : Code} {Q : Exit → Act → World → Prop} {a : Act} {w : World} (h1 : 1 ≤ n)
    {gf : Nat} {lb : Array Value} (hg : a.eval g = .func (.func gf) #[] lb) (eg : ∀ args w, (callFunc gf args).run P w = .ok (.enter gf args) w)
    {encs : α → Array Value} {Kp : World → World → Prop} {x0 : Option α} (hseq : SeqF (n - 1) P gf lb encs Kp x0 w) (id : Nat)
    (hKt : ∀ {A B D : World}, Kp A B → Kp B D → Kp A D) (hKb : ∀ (W : World) (l : Nat) (o : Obj), w.heap.size ≤ l → Kp W (W.putObj l o)) (hps : ∀ x, (encs x).size = ps.size)
    (I0 I1 : World → Prop)
    (hI0 : ∀ A A' row, I0 A → A.grownBy A' row → (∀ r, row = some r → w.heap.size ≤ r ∧ ∃ o : Obj, A.heap[r]? = some o ∧ o.isCells = false) → I0 A')
    (hI1 : ∀ A A' row, I1 A → A.grownBy A' row → (∀ r, row = some r → w.heap.size ≤ r ∧ ∃ o : Obj, A.heap[r]? = some o ∧ o.isCells = false) → I1 A') (h0 : I0 w) (a₁ : α → Act)
    (hassign : ∀ (l : Nat) (x : α) (W : World) (K : Act → World → Prop), K (a₁ x) W →
      assign.wpIn (Fence.wide.inRound l) (n - 1 - 1) P (Exit.then K (fun _ _ _ => False)) { tmps := (ps.zip (encs x)).foldl (fun t (p, v) => t.setIfInBounds p v) a.tmps, defers := [] } W)
    (hbody : ∀ (l : Nat) (x : α) (W : World), x0 = some x → I0 W → body.wpIn (Fence.wide.inRound l) (n - 1 - 1) P (exPost id Kp I1 W) (a₁ x) W)
    (hnone : x0 = none → ∀ (D : Nat) (W : World), w.heap.size ≤ D → I0 W → W.heap[D]? = some (.deferred (some [])) → Q .normal { a with defers := { target := .collected D, args := #[] } :: a.defers } W)
    (hsome : ∀ x, x0 = some x → ∀ (D : Nat) (W : World), w.heap.size ≤ D → I1 W → W.heap[D]? = some (.deferred (some [])) → Q (.exit id) { a with defers := { target := .collected D, args := #[] } :: a.defers } W) :
    (Code.rangeFunc g ps assign body).wpIn Fence.wide n P Q a w := by
  refine wpIn_rangeFunc fun fn hfn => ?_
  let rec' : LoopState → Option Code → Loop := fun st pe => { state := st, pending := pe, fn, tmps := a.tmps, params := ps, assign, body, defers := w.heap.size }
  have hrun := run_enterLoop_outer (P := P) (w := w) fn a.tmps ps assign body
  generalize hW : (w.alloc (.deferred (some []))).alloc (.loop { state := .ready, pending := none, fn, tmps := a.tmps, params := ps, assign, body, defers := w.heap.size }) = W0 at hrun
  have hsz : W0.heap.size = w.heap.size + 2 := by rw [← hW]; simp
  have hrec : W0.heap[w.heap.size + 1]? = some (.loop (rec' .ready none)) := by rw [← hW]; exact heap_alloc2_new w _ _
  have hdef : W0.heap[w.heap.size]? = some (.deferred (some [])) := by rw [← hW]; exact heap_alloc2_old w _ _
  have hbel : Below w.heap.size w W0 := by rw [← hW]; exact ((Below.refl _ w).alloc (Nat.le_refl _) _).alloc (by simp) _
  have hI00 : I0 W0 := hI0 _ _ none h0 ⟨hbel.os, hbel.tape, hbel.output, hbel.size, fun k hk _ => hbel.block k hk⟩ (fun r e => by cases e)
  refine ⟨w.heap.size + 1, [{ target := .collected w.heap.size, args := #[] }], W0, { target := .fn (.func gf) lb, args := #[.func (.yield (w.heap.size + 1)) #[] #[]] }, W0, gf,
    #[.func (.yield (w.heap.size + 1)) #[] #[]] ++ lb, W0, hrun, ?_, fun _ _ => trivial, by simp [invoke, go_sem, eg], fun _ => h1, ?_⟩
  · simp only [resolve, hg]
    simp [go_sem]
  have put0 : ∀ {A : World} {k : Nat} {o : Obj} (o' : Obj), I0 A → w.heap.size ≤ k → A.heap[k]? = some o → o.isCells = false → I0 (A.putObj k o') :=
    fun o' hi hk ho hc => hI0 _ _ _ hi (grownBy_putObj' _ _ o') (fun r e => by cases e; exact ⟨hk, _, ho, hc⟩)
  have put1 : ∀ {A : World} {k : Nat} {o : Obj} (o' : Obj), I1 A → w.heap.size ≤ k → A.heap[k]? = some o → o.isCells = false → I1 (A.putObj k o') :=
    fun o' hi hk ho hc => hI1 _ _ _ hi (grownBy_putObj' _ _ o') (fun r e => by cases e; exact ⟨hk, _, ho, hc⟩)
  refine (hseq (w.heap.size + 1) (fun W => I0 W ∧ W.heap[w.heap.size + 1]? = some (.loop (rec' .ready none)) ∧ W.heap[w.heap.size]? = some (.deferred (some [])))
    (fun W => I1 W ∧ W.heap[w.heap.size + 1]? = some (.loop (rec' .done (some (.exit id)))) ∧ W.heap[w.heap.size]? = some (.deferred (some []))) W0 hbel ?_ ⟨hI00, hrec, hdef⟩).mono ?_
  · rintro x W hx ⟨hi, hl, hd⟩
    have hlt := (Array.getElem?_eq_some_iff.1 hl).1
    have hbusy : (W.putObj (w.heap.size + 1) (.loop (rec' .busy none))).heap[w.heap.size + 1]? = some (.loop (rec' .busy none)) := World.putObj_heap_same hlt
    have hd2 : (W.putObj (w.heap.size + 1) (.loop (rec' .busy none))).heap[w.heap.size]? = some (.deferred (some [])) := (World.putObj_heap_other (by omega)).trans hd
    refine ⟨fn, _, assign, body, run_yield hl (hps x), roundIn_of_wpIn hfn (hassign _ x W _ ⟨_, run_beginRound hl rfl, ?_⟩)⟩
    refine wpIn_mono (hbody _ x _ hx (put0 _ hi (by omega) hl rfl)) ?_
    rintro e a3 W3 hp
    cases e with
    | exit i =>
      obtain ⟨rfl, hk3, hkp3, hi3⟩ := hp
      have hl3 := hk3.same _ _ hbusy rfl
      have hd3 := hk3.same _ _ hd2 rfl
      exact ⟨_, _, run_endRound (some (.exit i)) hl3, rfl, ⟨put1 _ hi3 (by omega) hl3 rfl, World.putObj_heap_same (Array.getElem?_eq_some_iff.1 hl3).1, (World.putObj_heap_other (by omega)).trans hd3⟩, hKt (hKt (hKb _ _ _ (by omega)) hkp3) (hKb _ _ _ (by omega))⟩
    | ret => exact hp.elim
    | normal => exact hp.elim
    | goto t => exact hp.elim
    | panic ch => exact hp.elim
    | outgrown => exact hp.elim
  · rintro e W2 ⟨⟨v, rfl⟩, hm⟩
    cases x0 with
    | none =>
      obtain ⟨hi, hl, hd⟩ := hm
      exact ⟨none, _, run_endLoop hl (by simp [rec']), hnone rfl _ _ (Nat.le_refl _) (put0 _ hi (by omega) hl rfl) ((World.putObj_heap_other (by omega)).trans hd)⟩
    | some x =>
      obtain ⟨hi, hl, hd⟩ := hm
      exact ⟨some (.exit id), _, run_endLoop hl (by simp [rec']), wpIn_exit (hsome x rfl _ _ (Nat.le_refl _) (put1 _ hi (by omega) hl rfl) ((World.putObj_heap_other (by omega)).trans hd))⟩

set_option maxRecDepth 100000 in
set_option maxHeartbeats 4000000 in
theorem all1_first {W1 : World} {b3 b4 : Nat} {v3 v4 : Value} {ds : List En} (n : Nat) (w : World) (hn : 1 ≤ n) (h : AL W1 b3 b4 w v3 v4 (ds.map En.key) (ds.map En.script)) (hmax : ds.length ≤ 1000000) :
    SeqF n Tryd.prog 37 #[.pointer (some ⟨b3, 0, none⟩), .pointer (some ⟨b4, 0, none⟩)] (fun e : En => #[.string e.key, .string e.script]) (fun _ _ => True) ds.head? w := by
  intro y J0 J1 W hbel hY h0
  have hd := h.below hbel
  have hc1 := hd.cell
  have hx4 := hd.x4
  obtain ⟨A3, c3, hv3, -, -, -, hr3⟩ := own_rdV hd.o3
  obtain ⟨A4, c4, hv4, -, -, -, hr4⟩ := own_rdV hd.o4
  subst hv3
  subst hv4
  have HJ0 := Lib.hid h0
  have HY := Lib.hid hY
  have hcz : W.cell? ⟨b4, 0, none⟩ = some (.slice A4 (ds.map En.script).length c4) := by simp [World.cell?, hx4]
  clear h0 hY hbel h hd hx4
  cases ds with
  | nil =>
    clear hr3 hr4
    refine callsIn_of_wp Tryd.func37 rfl trivial ?_
    simp only [Tryd.ntmps37, List.size_toArray, List.length_cons, List.length_nil, Nat.reduceAdd, Nat.reduceSub, Array.replicate_succ, Array.replicate_zero, List.push_toArray, List.append_toArray, List.nil_append, List.cons_append]
    gi_wp2
    clear hc1 hcz
    gi_loopw [8] (fun z wr => z = .int .i64 0 ∧ Hid (J0 wr)) (fun z _ => 1 - (intOf z).toNat)
    case atStart => exact ⟨rfl, HJ0⟩
    case round =>
      clear HJ0
      obtain ⟨rfl, HJS⟩ := hrel
      gi_wp2
      go_end0
      exact ⟨⟨_, rfl⟩, HJS.out⟩
  | cons g l =>
    obtain ⟨b, off, rfl, hbb, hca⟩ := rdS_at hr3 (k := 0) (by simp)
    obtain ⟨b', off', rfl, hbb', hcb⟩ := rdS_at hr4 (k := 0) (by simp)
    simp only [List.map_cons, List.getElem_cons_zero, Nat.add_zero] at hca hcb
    obtain ⟨n3, hn3⟩ : ∃ n, ((g :: l).map En.key).length = n := ⟨_, rfl⟩
    obtain ⟨n4, hn4⟩ : ∃ n, ((g :: l).map En.script).length = n := ⟨_, rfl⟩
    rw [hn3] at hc1
    rw [hn4] at hcz
    have hk1 : (0 : Int) < (n3 : Int) := by rw [← hn3]; simp
    have hk2 : (0 : Int) < (n4 : Int) := by rw [← hn4]; simp
    have hk3 : 0 < n3 := by omega
    have hk4 : 0 < n4 := by omega
    obtain ⟨fn, tmps, assign, body, hy, hR⟩ := HY.out g W rfl HJ0.out
    change (Instr.yield y #[.string g.key, .string g.script]).run Tryd.prog _ = _ at hy
    obtain ⟨ky, hky⟩ : ∃ s, g.key = s := ⟨_, rfl⟩
    obtain ⟨sc, hsc⟩ : ∃ s, g.script = s := ⟨_, rfl⟩
    have HRr := Lib.hid hR
    rw [hky] at hca
    rw [hsc] at hcb
    rw [hky, hsc] at hy
    clear hR hr3 hr4 hn3 hn4 hmax hky hsc
    refine callsIn_of_wp Tryd.func37 rfl trivial ?_
    simp only [Tryd.ntmps37, List.size_toArray, List.length_cons, List.length_nil, Nat.reduceAdd, Nat.reduceSub, Array.replicate_succ, Array.replicate_zero, List.push_toArray, List.append_toArray, List.nil_append, List.cons_append]
    gi_wp2
    clear hc1
    gi_loopw [8] (fun z wr => z = .int .i64 0 ∧ wr = W) (fun z _ => 1 - (intOf z).toNat)
    case atStart => exact ⟨rfl, rfl⟩
    case round =>
      obtain ⟨rfl, rfl⟩ := hrel
      gi_wp2
      refine HRr.out.mono ?_
      rintro e W3 ⟨rfl, hJ3, hk3⟩
      have HJ3 := Lib.hid hJ3
      clear hJ3 hk3 hy HRr hca
      gi_wp2
      exact bodyPost_ret (results_none (by rfl) _ _ _) rfl ⟨⟨_, rfl⟩, HJ3.out⟩
end Go.Proofs.YtpomaabkgbaikaaDoor
namespace Go.Proofs.YtpomaabkgbaikaaDoor
open Go Go.RowKit Go.Shelf
section
variable {C D M : Nat} {ds ns : List En} {W W' : World}
theorem CA.off (h : CA C D M ds ns W) {b : Nat} {xs : Array Value} {t : TypeId} {p : Nat × Nat} (hb : W.heap[b]? = some (.cells xs t p)) (ht : t ≠ 68) : ¬ TC C D M b := by
  rintro (rfl | rfl | rfl)
  · rw [h.box] at hb
    cases hb
    exact ht rfl
  · obtain ⟨es, clock, h1⟩ := h.dig.isMap
    rw [h1] at hb
    cases hb
  · obtain ⟨es, clock, h1⟩ := h.nam.isMap
    rw [h1] at hb
    cases hb
theorem CA.stays (h : CA C D M ds ns W) (hk : KeepT (TC C D M) W W') {b : Nat} {xs : Array Value} {t : TypeId} {p : Nat × Nat} (hb : W.heap[b]? = some (.cells xs t p)) (ht : t ≠ 68) : W'.heap[b]? = some (.cells xs t p) :=
  (hk.block b (Array.getElem?_eq_some_iff.1 hb).1 (h.off hb ht)).trans hb
/-- A world cut off at a size. -/
def cutW (W : World) (n : Nat) : World := { W with heap := W.heap.extract 0 n }
theorem cutW_size {n : Nat} (h : n ≤ W.heap.size) : (cutW W n).heap.size = n := by simp [cutW]; omega
theorem AL.cache {W1 : World} {b3 b4 : Nat} {v3 v4 : Value} {ks ss : List ByteArray} (h : AL W1 b3 b4 W v3 v4 ks ss) (hc : CA C D M ds ns W) (hk : KeepT (TC C D M) W W') : AL (cutW W' W1.heap.size) b3 b4 W' v3 v4 ks ss := by
  have hs : W1.heap.size ≤ W'.heap.size := Nat.le_trans h.size hk.size
  have he := cutW_size hs
  have own : ∀ {v : Value} {n : Nat} {xs : List Value}, W.ownsRow W1.heap.size 9 1 v n xs → W'.ownsRow (cutW W' W1.heap.size).heap.size 9 1 v n xs := by
    intro v n xs ho
    rw [he]
    refine ⟨ho.1, ?_⟩
    rcases ho.2 with h2 | ⟨g, cap, cur, rfl, hb, hg, r⟩
    · exact .inl h2
    · exact .inr ⟨g, cap, cur, rfl, hb, hc.stays hk hg (by decide), r⟩
  exact ⟨hc.stays hk h.x3 (by decide), hc.stays hk h.x4 (by decide), own h.o3, own h.o4, h.ne, ⟨rfl, rfl, rfl, by rw [he]; exact hs, fun b hb _ => by
    rw [he] at hb
    simp only [cutW]
    rw [Array.getElem?_extract]
    simp
    omega⟩, by rw [he]; exact h.lt3, by rw [he]; exact h.lt4, h.d⟩
/-- A box of two lists. -/
structure BX2 (g : Nat) (v1 v2 : Value) (ds ns : List En) (W : World) : Prop where
  b : W.heap[g]? = some (.cells #[v1, v2] 30 (0, 0))
  d : RE W v1 ds
  n : RE W v2 ns
theorem BX2.below {g : Nat} {v1 v2 : Value} (h : BX2 g v1 v2 ds ns W) (hb : Below W.heap.size W W') : BX2 g v1 v2 ds ns W' :=
  ⟨(hb.block _ (Array.getElem?_eq_some_iff.1 h.b).1).trans h.b, h.d.below hb, h.n.below hb⟩
theorem BX2.cache {g : Nat} {v1 v2 : Value} {d n : List En} (h : BX2 g v1 v2 d n W) (hc : CA C D M ds ns W) (hk : KeepT (TC C D M) W W') : BX2 g v1 v2 d n W' :=
  ⟨hc.stays hk h.b (by decide), h.d.cache hc hk, h.n.cache hc hk⟩
theorem BX2.cells {g : Nat} {v1 v2 : Value} (h : BX2 g v1 v2 ds ns W) : W.cell? ⟨g, 0, none⟩ = some v1 ∧ W.cell? ⟨g, 1, none⟩ = some v2 := cell2 h.b
theorem BX2.lt {g : Nat} {v1 v2 : Value} (h : BX2 g v1 v2 ds ns W) : g < W.heap.size := (Array.getElem?_eq_some_iff.1 h.b).1
/-- The boxes of a call and of the answer. -/
structure Z0 (w : World) (x : Ac) (W : World) : Prop where
  b3 : W.heap[w.heap.size]? = some (.cells (acV x) 39 (0, 0))
  b4 : W.heap[w.heap.size + 1]? = some (.cells #[.bool false] 4 (0, 0))
  bel : Below w.heap.size w W
theorem Z0.below {w : World} {x : Ac} (h : Z0 w x W) (hb : Below W.heap.size W W') : Z0 w x W' :=
  ⟨(hb.block _ (Array.getElem?_eq_some_iff.1 h.b3).1).trans h.b3, (hb.block _ (Array.getElem?_eq_some_iff.1 h.b4).1).trans h.b4, h.bel.trans (hb.mono h.bel.size)⟩
theorem Z0.cache {w : World} {x : Ac} (h : Z0 w x W) (hc : CA C D M ds ns W) (hk : KeepT (TC C D M) W W') (ht : ∀ b, TC C D M b → w.heap.size ≤ b) : Z0 w x W' :=
  ⟨hc.stays hk h.b3 (by decide), hc.stays hk h.b4 (by decide), h.bel.trans (hk.below ht h.bel.size)⟩
theorem Z0.cells {w : World} {x : Ac} (h : Z0 w x W) : W.cell? ⟨w.heap.size, 0, none⟩ = some (.int .i64 x.what) ∧ W.cell? ⟨w.heap.size, 1, none⟩ = some (.string x.name) ∧ W.cell? ⟨w.heap.size, 2, none⟩ = some (.string x.script) := by
  refine ⟨?_, ?_, ?_⟩ <;> (simp only [World.cell?, h.b3]; rfl)
theorem Z0.new (w : World) (x : Ac) : Z0 w x ((w.alloc (.cells (acV x) 39)).alloc (.cells #[.bool false] 4)) := by
  have h1 := heap_alloc_new w (.cells (acV x) 39)
  have h2 := heap_alloc_new (w.alloc (.cells (acV x) 39)) (.cells #[.bool false] 4)
  have b1 := below_new w (.cells (acV x) 39)
  have b2 := below_new (w.alloc (.cells (acV x) 39)) (.cells #[.bool false] 4)
  have s1 : (w.alloc (.cells (acV x) 39)).heap.size = w.heap.size + 1 := by simp
  rw [s1] at h2
  exact ⟨(b2.block _ (by omega)).trans h1, h2, b1.trans (b2.mono (by omega))⟩
/-- A row of one call. -/
theorem new_rdC (W : World) (x : Ac) : RdC (W.alloc (.cells (acV x) 39)) (some ⟨W.heap.size, 0, none⟩) [x] := fun _ => by
  refine ⟨_, _, rfl, by simp, fun i hi j hj => ?_⟩
  have hb := heap_alloc_new W (.cells (acV x) 39)
  obtain rfl : i = 0 := by simpa using hi
  match j, hj with
  | 0, _ => simp only [World.cell?, hb]; rfl
  | 1, _ => simp only [World.cell?, hb]; rfl
  | 2, _ => simp only [World.cell?, hb]; rfl
theorem acW_one (x : Ac) : acW [x] = 50 + x.name.size + x.script.size := by simp [acW]
/-- A number in block C2, and what was there before. -/
def OneI (V : World) (C2 : Nat) (k : Int) (W : World) : Prop := W.heap[C2]? = some (.cells #[.int .i64 k] 3 (0, 0)) ∧ Below C2 V W
theorem OneI.keep {V : World} {C2 S : Nat} {k : Int} (hV : C2 ≤ V.heap.size) (hS : C2 < S) {A A' : World} {row : Option Nat} (h : OneI V C2 k A) (hg : A.grownBy A' row) (ht : ∀ r, row = some r → S ≤ r ∧ ∃ o : Obj, A.heap[r]? = some o ∧ o.isCells = false) : OneI V C2 k A' :=
  ⟨cells_keepc h.1 hg (fun r e => (ht r e).2), h.2.grown hg (Nat.le_trans hV (by have := h.2.size; omega)) (fun j e => by have := (ht j e).1; omega)⟩
theorem OneI.next {V : World} {C2 : Nat} {k u : Int} (h : OneI V C2 k W) : OneI V C2 u (W.setCell ⟨C2, 0, none⟩ (.int .i64 u)) ∧ KS W (W.setCell ⟨C2, 0, none⟩ (.int .i64 u)) ∧ KeepsOthers W (W.setCell ⟨C2, 0, none⟩ (.int .i64 u)) :=
  ⟨⟨row_put h.1, h.2.setCell (p := ⟨C2, 0, none⟩) (Nat.le_refl _) _⟩, (KS.refl W).setCell (a := ⟨C2, 0, none⟩) h.1 (by decide) (by decide) _, KeepsOthers.setCell _ _ _⟩
theorem OneI.new (V : World) (k : Int) : OneI V V.heap.size k (V.alloc (.cells #[.int .i64 k] 3)) := ⟨heap_alloc_new V _, below_new V _⟩
end
/-- What stands behind both ranges. -/
structure TB (w : World) (x : Ac) (C D M C2 D2 M2 g g2 g13 g16 P1 P2 : Nat) (v1 v2 u1 u2 : Value) (ds ns ds2 ns2 : List En) (n m : Int) (W : World) : Prop where
  a : CA C D M ds2 ns2 W
  b : CA C2 D2 M2 ds ns W
  xb : BX2 g v1 v2 ds ns W
  yb : BX2 g2 u1 u2 ds2 ns2 W
  z : Z0 w x W
  c13 : W.heap[g13]? = some (.cells #[.int .i64 n] 3 (0, 0))
  c16 : W.heap[g16]? = some (.cells #[.int .i64 m] 3 (0, 0))
  p1 : W.heap[P1]? = some (.deferred (some []))
  p2 : W.heap[P2]? = some (.deferred (some []))
theorem TB.below {w : World} {x : Ac} {C D M C2 D2 M2 g g2 g13 g16 P1 P2 : Nat} {v1 v2 u1 u2 : Value} {ds ns ds2 ns2 : List En} {n m : Int} {W W' : World} (h : TB w x C D M C2 D2 M2 g g2 g13 g16 P1 P2 v1 v2 u1 u2 ds ns ds2 ns2 n m W) (hb : Below W.heap.size W W') : TB w x C D M C2 D2 M2 g g2 g13 g16 P1 P2 v1 v2 u1 u2 ds ns ds2 ns2 n m W' :=
  ⟨h.a.below hb, h.b.below hb, h.xb.below hb, h.yb.below hb, h.z.below hb, (hb.block _ (Array.getElem?_eq_some_iff.1 h.c13).1).trans h.c13, (hb.block _ (Array.getElem?_eq_some_iff.1 h.c16).1).trans h.c16, (hb.block _ (Array.getElem?_eq_some_iff.1 h.p1).1).trans h.p1, (hb.block _ (Array.getElem?_eq_some_iff.1 h.p2).1).trans h.p2⟩
theorem res5 (tmps : Array Value) (g : Nat) (v : Value) (W : World) (t4 : tmps.getD 4 undef = .pointer (some ⟨g, 0, none⟩)) (c0 : W.heap[g]? = some (.cells #[v] 4 (0, 0))) : (results Tryd.f5 tmps).run Tryd.prog W = .ok v W := by
  have q0 : W.cell? ⟨g, 0, none⟩ = some v := cell1 c0
  simp only [Array.getD_eq_getD_getElem?] at t4
  simp [results, Tryd.results5, t4, q0, go_sem]
theorem two_marks {F : Fence} {n : Nat} {tmps : Array Value} {w0 V : World} {P1 P2 g : Nat} {v : Value} (hb : Below w0.heap.size w0 V) (h1 : V.heap[P1]? = some (.deferred (some []))) (h2 : V.heap[P2]? = some (.deferred (some []))) (hne : P1 ≠ P2) (h3 : w0.heap.size ≤ P1) (h4 : w0.heap.size ≤ P2)
    (t4 : tmps.getD 4 undef = .pointer (some ⟨g, 0, none⟩)) (c0 : V.heap[g]? = some (.cells #[v] 4 (0, 0))) (R : Ending → World → Prop) (hR : ∀ W, Below w0.heap.size w0 W → R (.returned v) W) :
    LeavesInM F n Tryd.prog Tryd.f5 tmps R [{ target := .collected P2, args := #[] }, { target := .collected P1, args := #[] }] .returning V := by
  have n1 : g ≠ P1 := fun e => by rw [e, h1] at c0; cases c0
  have n2 : g ≠ P2 := fun e => by rw [e, h2] at c0; cases c0
  refine ⟨by simp, .inl ⟨_, _, rfl, run_takeDeferred h2, ?_⟩⟩
  have k1' : (V.putObj P2 (.deferred none)).heap[P1]? = some (.deferred (some [])) := (World.putObj_heap_other (by omega)).trans h1
  refine ⟨by simp, .inl ⟨_, _, rfl, run_takeDeferred k1', ?_⟩⟩
  refine ⟨v, res5 _ g _ _ t4 ((World.putObj_heap_other (by omega)).trans ((World.putObj_heap_other (by omega)).trans c0)), hR _ ?_⟩
  have g2 : V.grownBy (V.putObj P2 (.deferred none)) (some P2) := grownBy_putObj' _ _ _
  have g1 : (V.putObj P2 (.deferred none)).grownBy ((V.putObj P2 (.deferred none)).putObj P1 (.deferred none)) (some P1) := grownBy_putObj' _ _ _
  have b1 := hb.grown g2 hb.size (fun k e => by cases e; exact h4)
  exact b1.grown g1 b1.size (fun k e => by cases e; exact h3)
/-- The end: the answer's box is written. -/
theorem TB.end {F : Fence} {k : Nat} {tmps : Array Value} {w : World} {x : Ac} {C D M C2 D2 M2 g g2 g13 g16 P1 P2 : Nat} {v1 v2 u1 u2 : Value} {ds ns ds2 ns2 : List En} {n m : Int} {W : World} (h : TB w x C D M C2 D2 M2 g g2 g13 g16 P1 P2 v1 v2 u1 u2 ds ns ds2 ns2 n m W) (hne : P1 ≠ P2) (h3 : w.heap.size ≤ P1) (h4 : w.heap.size ≤ P2) (t4 : tmps.getD 4 undef = .pointer (some ⟨w.heap.size + 1, 0, none⟩)) (R : Ending → World → Prop) (hR : ∀ W, Below w.heap.size w W → R (.returned (.bool true)) W) :
    LeavesInM F k Tryd.prog Tryd.f5 tmps R [{ target := .collected P2, args := #[] }, { target := .collected P1, args := #[] }] .returning (W.setCell ⟨w.heap.size + 1, 0, none⟩ (.bool true)) := by
  have n1 : P1 ≠ w.heap.size + 1 := fun e => by have h1 := h.p1; rw [e, h.z.b4] at h1; cases h1
  have n2 : P2 ≠ w.heap.size + 1 := fun e => by have h1 := h.p2; rw [e, h.z.b4] at h1; cases h1
  exact two_marks (h.z.bel.setCell (p := ⟨w.heap.size + 1, 0, none⟩) (by show w.heap.size ≤ w.heap.size + 1; omega) _) ((RowKit.Below.heap_setCell _ ⟨w.heap.size + 1, 0, none⟩ _ _ n1).trans h.p1) ((RowKit.Below.heap_setCell _ ⟨w.heap.size + 1, 0, none⟩ _ _ n2).trans h.p2) hne h3 h4 t4 (row_put h.z.b4) R hR
theorem BX2.rows {g : Nat} {V1 V2 : Option Addr} {e1 e2 n1 n2 : Nat} {ds ns : List En} {W : World} (h : BX2 g (.slice V1 n1 e1) (.slice V2 n2 e2) ds ns W) : RdE W V1 ds ∧ RdE W V2 ns := by
  obtain ⟨A, c, he, -, -, hr⟩ := h.d
  cases he
  obtain ⟨A, c, he, -, -, hr2⟩ := h.n
  cases he
  exact ⟨hr, hr2⟩
end Go.Proofs.YtpomaabkgbaikaaDoor
namespace Go.Proofs.YtpomaabkgbaikaaDoor
open Go Go.RowKit Go.Shelf
attribute [local go_sem] Oper.semAt_some

set_option maxHeartbeats 8000000 in
set_option maxRecDepth 100000 in
theorem copies_walk (A : Option Addr) (n c : Nat) (l : List Ac) (x : Ac) (w : World) (hn : l.length = n) (hr : RdC w A l) (ln : n ≤ 9223372036854775807) (so : ∀ x ∈ l, x.ok) (xo : x.ok) (hg : DG w) :
    Calls Tryd.prog 5 #[.slice A n c, .agg (acV x)] w fun e w' => e = .returned (.bool true) ∧ Below w.heap.size w w' := by
  subst hn
  have HZ0 := Lib.hid (Z0.new w x)
  have HF := Lib.hid (few_any A c l _ (hr.below HZ0.out.bel) ln so)
  have HW := Lib.hid (fun (W : World) (hW : DG W) => works_any W hW)
  have HR := Lib.hid hr
  have HG := Lib.hid hg
  have HXO := Lib.hid xo
  clear hr so hg xo
  refine (callsIn_wide (n := 4)).1 ?_
  refine callsIn_of_wp_marks Tryd.func5 rfl trivial ?_ rfl
  simp only [Tryd.ntmps5, List.size_toArray, List.length_cons, List.length_nil, Nat.reduceAdd, Nat.reduceSub, Array.replicate_succ, Array.replicate_zero, List.push_toArray, List.append_toArray, List.nil_append, List.cons_append]
  gi_wp2_with fail
  generalize (w.alloc (.cells (acV x) 39)).alloc (.cells #[.bool false] 4) = w0 at *
  refine ⟨trivial, (callsIn_wide.2 HF.out).mono ?_⟩
  rintro e w1 ⟨⟨b, rfl, hacw⟩, hb1⟩
  have HZ := Lib.hid (HZ0.out.below hb1)
  have HACW := Lib.hid hacw
  clear hb1 hacw HF HZ0
  cases b with
  | false =>
    gi_wp2_with fail
    refine ⟨trivial, ?_⟩
    gi_wp2_with fail
    refine ⟨trivial, (callsIn_wide.2 (HW.out _ (HG.out.below HZ.out.bel))).mono ?_⟩
    rintro e w9 ⟨rfl, hb9⟩
    have HZ9 := Lib.hid (HZ.out.below hb9)
    clear hb9
    have c4 := cell1 HZ9.out.b4
    have f4 := free1 HZ9.out.b4
    gi_wp2_with fail
    refine ⟨.bool true, res5 _ (w.heap.size + 1) _ _ rfl (row_put HZ9.out.b4), rfl, HZ9.out.bel.setCell (p := ⟨w.heap.size + 1, 0, none⟩) (by show w.heap.size ≤ w.heap.size + 1; omega) _⟩
  | true =>
    obtain ⟨z1, z2, z3⟩ := HZ.out.cells
    have HB2 := Lib.hid (below_new w1 (.cells (acV x) 39))
    have HF2 := Lib.hid (few_any (some ⟨w1.heap.size, 0, none⟩) 1 [x] _ (new_rdC w1 x) (by simp) (fun y hy => by simp only [List.mem_singleton] at hy; subst hy; exact HXO.out))
    gi_wp2_with fail
    refine ⟨trivial, (callsIn_wide.2 HF2.out).mono ?_⟩
    rintro e w2 ⟨⟨b, rfl, hacx⟩, hb2⟩
    have HZ2 := Lib.hid (HZ.out.below (HB2.out.trans (hb2.mono HB2.out.size)))
    have HACX := Lib.hid hacx
    clear hb2 hacx HF2 HB2 z1 z2 z3
    have HZ := HZ2
    clear HZ2
    cases b with
    | false =>
      gi_wp2_with fail
      refine ⟨trivial, (callsIn_wide.2 (HW.out _ (HG.out.below HZ.out.bel))).mono ?_⟩
      rintro e w9 ⟨rfl, hb9⟩
      have HZ9 := Lib.hid (HZ.out.below hb9)
      clear hb9
      have c4 := cell1 HZ9.out.b4
      have f4 := free1 HZ9.out.b4
      gi_wp2_with fail
      refine ⟨.bool true, res5 _ (w.heap.size + 1) _ _ rfl (row_put HZ9.out.b4), rfl, HZ9.out.bel.setCell (p := ⟨w.heap.size + 1, 0, none⟩) (by show w.heap.size ≤ w.heap.size + 1; omega) _⟩
    | true =>
      have hx := HACX.out (by simp)
      rw [acW_one] at hx
      have hac := HACW.out (by simp)
      have hlen : l.length ≤ 60 := by have := acW_len l; omega
      have hso : ∀ x ∈ l, x.name.size ≤ 1000000 ∧ x.script.size ≤ 1000000 := fun x hx => by have := acW_mem hx; omega
      have HPA := Lib.hid (plays_all l hso)
      have HSO := Lib.hid hso
      have hxn : x.name.size ≤ 3000 := by omega
      have hxs : x.script.size ≤ 3000 := by omega
      clear hso hac HACW HACX hx
      gi_wp2_with fail
      refine ⟨trivial, (callsIn_wide.2 (new_any w2)).mono ?_⟩
      rintro e w3 ⟨C, D, M, rfl, hca, hb3, hge⟩
      have HZ3 := Lib.hid (HZ.out.below hb3)
      have HT : Hid (∀ b, TC C D M b → w.heap.size ≤ b) := Lib.hid (fun b t => Nat.le_trans HZ.out.bel.size (hge b t))
      have H2 : Hid (∀ b, TC C D M b → b ≠ 2) := Lib.hid (fun b t => by have := hge b t; have := (HG.out.below HZ.out.bel).2; omega)
      have HPL := Lib.hid (played_any A c l w3 (HR.out.below HZ3.out.bel) (by omega) HSO.out hca (HG.out.below HZ3.out.bel) H2.out)
      have HCA0 := Lib.hid hca
      clear hca hb3 hge HZ
      gi_wp2_with fail
      refine ⟨trivial, (callsIn_wide.2 HPL.out).mono ?_⟩
      rintro e w4 ⟨v1, v2, rfl, hr1, hr2, hca, hkt⟩
      have HZ4 := Lib.hid (HZ3.out.cache HCA0.out hkt HT.out)
      have HCA := Lib.hid hca
      obtain ⟨ds, hds⟩ : ∃ d, (plays l).1 = d := ⟨_, rfl⟩
      obtain ⟨ns, hns⟩ : ∃ d, (plays l).2 = d := ⟨_, rfl⟩
      rw [hds] at hr1 HCA HPA
      rw [hns] at hr2 HCA HPA
      have HR1 := Lib.hid hr1
      have HR2 := Lib.hid hr2
      obtain ⟨V1, e1, hv1, -, -, -⟩ := hr1
      obtain ⟨V2, e2, hv2, -, -, -⟩ := hr2
      subst hv1
      subst hv2
      clear hca hkt hds hns HPL HZ3 HCA0 HSO
      gi_wp2_with fail
      have HB5 := Lib.hid (below_new w4 (.cells #[.slice V1 ds.length e1, .slice V2 ns.length e2] 30))
      have HX5 : Hid (BX2 w4.heap.size (.slice V1 ds.length e1) (.slice V2 ns.length e2) ds ns (w4.alloc (.cells #[.slice V1 ds.length e1, .slice V2 ns.length e2] 30))) := Lib.hid ⟨heap_alloc_new w4 _, HR1.out.below HB5.out, HR2.out.below HB5.out⟩
      have HZ5 := Lib.hid (HZ4.out.below HB5.out)
      have HCA5 := Lib.hid (HCA.out.below HB5.out)
      clear HB5 HCA HR1 HR2 HZ4
      generalize w4.alloc (.cells #[.slice V1 ds.length e1, .slice V2 ns.length e2] 30) = w5 at *
      generalize w4.heap.size = g at *
      refine ⟨trivial, (callsIn_wide.2 (copy_any w5 HCA5.out)).mono ?_⟩
      rintro e w6 ⟨C2, D2, M2, rfl, hcb, hb6, hge⟩
      have HCB6 := Lib.hid hcb
      have HX6 := Lib.hid (HX5.out.below hb6)
      have HZ6 := Lib.hid (HZ5.out.below hb6)
      have HCA6 := Lib.hid (HCA5.out.below hb6)
      have HAP : Hid (∀ b, TC C D M b → ¬ TC C2 D2 M2 b) := Lib.hid (fun b t t2 => by have := HCA5.out.lt b t; have := hge b t2; omega)
      clear hcb hb6 hge HX5 HZ5 HCA5
      gi_wp2_with fail
      refine ⟨trivial, (callsIn_wide.2 (all_any w6 HCA6.out (by have := HPA.out.1; omega) (fun e he => by have := HPA.out.2.2.1 e he; simp only [maxLen]; omega))).mono ?_⟩
      rintro e w7 ⟨rfl, hb7, W1, v3, v4, hal⟩
      have HAL7 := Lib.hid hal
      have HCB7 := Lib.hid (HCB6.out.below hb7)
      have HX7 := Lib.hid (HX6.out.below hb7)
      have HZ7 := Lib.hid (HZ6.out.below hb7)
      have HCA7 := Lib.hid (HCA6.out.below hb7)
      have HS1 := Lib.hid (same_any w7 HCA7.out HCB7.out)
      have t1 : (decide (ds = ds) && decide (ns = ns)) = true := by simp
      rw [t1] at HS1
      clear hal hb7 HCB6 HX6 HZ6 HCA6 t1
      generalize w6.heap.size = q at *
      gi_wp2_with fail
      refine ⟨trivial, (callsIn_wide.2 HS1.out).mono ?_⟩
      rintro e w8 ⟨rfl, hb8⟩
      have HAL8 := Lib.hid (HAL7.out.below hb8)
      have HCB8 := Lib.hid (HCB7.out.below hb8)
      have HX8 := Lib.hid (HX7.out.below hb8)
      have HZ8 := Lib.hid (HZ7.out.below hb8)
      have HCA8 := Lib.hid (HCA7.out.below hb8)
      have HS2 := Lib.hid (same_any w8 HCB8.out HCA8.out)
      have t1 : (decide (ds = ds) && decide (ns = ns)) = true := by simp
      rw [t1] at HS2
      clear hb8 HAL7 HCB7 HX7 HZ7 HCA7 t1 HS1
      gi_wp2_with fail
      refine ⟨trivial, (callsIn_wide.2 HS2.out).mono ?_⟩
      rintro e w9 ⟨rfl, hb9⟩
      have HAL := Lib.hid (HAL8.out.below hb9)
      have HCB := Lib.hid (HCB8.out.below hb9)
      have HX := Lib.hid (HX8.out.below hb9)
      have HZ := Lib.hid (HZ8.out.below hb9)
      have HCA := Lib.hid (HCA8.out.below hb9)
      clear hb9 HAL8 HCB8 HX8 HZ8 HCA8 HS2
      obtain ⟨z1, z2, z3⟩ := HZ.out.cells
      obtain ⟨z4, z5⟩ := HX.out.cells
      have HRD := Lib.hid (rdo_any _ _ ds ns x w9 HX.out.d HX.out.n (by have := HPA.out.1; omega) (by have := HPA.out.2.1; omega) (by omega) (by omega))
      gi_wp2_with fail
      refine ⟨trivial, (callsIn_wide.2 (HRD.out.mono rdq_un)).mono ?_⟩
      rintro e w10 ⟨A1, c1, A2, c2, rfl, hr1, hr2, hb10⟩
      have HD2 := Lib.hid (aD_len ds ns x)
      have HN2 := Lib.hid (aN_len ds ns x)
      have HK2 : Hid (kOk (aD ds ns x) ∧ kOk (aN ds ns x)) := Lib.hid ⟨HPA.out.2.2.1.aD x, HPA.out.2.2.2.aN (by omega)⟩
      have HDO : Hid (∀ W, CA C D M ds ns W → DG W → Calls Tryd.prog 21 #[.pointer (some ⟨C, 0, none⟩), .agg (acV x)] W (DQ C D M ds ns x W)) := Lib.hid (fun W hW hG => do_any x W hW hG H2.out (by have := HPA.out.1; omega) (by have := HPA.out.2.1; omega) (by omega) (by omega))
      unfold DQ at HDO
      obtain ⟨ds2, hds2⟩ : ∃ d, aD ds ns x = d := ⟨_, rfl⟩
      obtain ⟨ns2, hns2⟩ : ∃ d, aN ds ns x = d := ⟨_, rfl⟩
      obtain ⟨sx, hsx⟩ : ∃ d, aS ds ns x = d := ⟨_, rfl⟩
      obtain ⟨ex, hex⟩ : ∃ d, aE ds ns x = d := ⟨_, rfl⟩
      rw [hds2] at hr1 HD2 HK2 HDO
      rw [hns2] at hr2 HN2 HK2 HDO
      rw [hsx, hex] at HDO
      rw [hds2, hns2, hsx, hex]
      have HR1 := Lib.hid hr1
      have HR2 := Lib.hid hr2
      have HAL10 := Lib.hid (HAL.out.below hb10)
      have HCB10 := Lib.hid (HCB.out.below hb10)
      have HX10 := Lib.hid (HX.out.below hb10)
      have HZ10 := Lib.hid (HZ.out.below hb10)
      have HCA10 := Lib.hid (HCA.out.below hb10)
      clear hr1 hr2 hb10 hds2 hns2 hsx hex HRD z1 z2 z3 z4 z5 HAL HCB HX HZ HCA
      have HB5 := Lib.hid (below_new w10 (.cells #[.slice A1 ds2.length c1, .slice A2 ns2.length c2] 30))
      have HY11 : Hid (BX2 w10.heap.size (.slice A1 ds2.length c1) (.slice A2 ns2.length c2) ds2 ns2 (w10.alloc (.cells #[.slice A1 ds2.length c1, .slice A2 ns2.length c2] 30))) := Lib.hid ⟨heap_alloc_new w10 _, HR1.out.below HB5.out, HR2.out.below HB5.out⟩
      have HAL11 := Lib.hid (HAL10.out.below HB5.out)
      have HCB11 := Lib.hid (HCB10.out.below HB5.out)
      have HX11 := Lib.hid (HX10.out.below HB5.out)
      have HZ11 := Lib.hid (HZ10.out.below HB5.out)
      have HCA11 := Lib.hid (HCA10.out.below HB5.out)
      obtain ⟨z1, z2, z3⟩ := HZ11.out.cells
      clear HB5 HR1 HR2 HAL10 HCB10 HX10 HZ10 HCA10
      gi_wp2_with fail
      generalize w10.alloc (.cells #[.slice A1 ds2.length c1, .slice A2 ns2.length c2] 30) = w11 at *
      generalize w10.heap.size = g2 at *
      refine ⟨trivial, (callsIn_wide.2 (HDO.out w11 HCA11.out (HG.out.below HZ11.out.bel))).mono ?_⟩
      rintro e w12 ⟨rfl, hca, hkt⟩
      have HCA := Lib.hid hca
      have HAL := Lib.hid (HAL11.out.cache HCA11.out hkt)
      have HX := Lib.hid (HX11.out.cache HCA11.out hkt)
      have HY := Lib.hid (HY11.out.cache HCA11.out hkt)
      have HZ := Lib.hid (HZ11.out.cache HCA11.out hkt HT.out)
      have HCB := Lib.hid (HCB11.out.keep (fun b t => hkt.block b (HCB11.out.lt b t) (fun t2 => HAP.out b t2 t)))
      generalize cutW w12 W1.heap.size = W2 at *
      clear hca hkt HAL11 HX11 HY11 HZ11 HCB11 HCA11 HDO z1 z2 z3
      gi_wp2_with fail
      have HAL13 := Lib.hid (HAL.out.below (below_new w12 (.cells #[.int .i64 0] 3)))
      have hs13 : (w12.alloc (.cells #[.int .i64 0] 3)).heap.size = w12.heap.size + 1 := by simp
      have hI0 := OneI.new w12 0
      generalize w12.alloc (.cells #[.int .i64 0] 3) = w13 at *
      refine rangeG (n := 4) (by omega) (gf := 37) (lb := #[.pointer (some ⟨q, 0, none⟩), .pointer (some ⟨q + 1, 0, none⟩)]) rfl (enters_of Tryd.func37 (by kernel_rfl) rfl)
        (all1_seq 3 w13 (by omega) HAL13.out (by have := HPA.out.1; omega)) KS.trans (fun W k o o' hk ho => KS.putObj hk ho) (fun _ => rfl)
        (fun (pre : List En) W => OneI w12 w12.heap.size pre.length W) (fun pre A1 A2 row h hg ht => h.keep (Nat.le_refl _) (by omega) hg ht) hI0
        ?a1 ?assign ?body ?done
      case assign =>
        intro l' x W K hK
        gi_wp2
        exact hK
      case body =>
        rintro l' pre p W hl hpx hI hlen
        have hple : pre.length < ds.length := by
          have := hpx.length_le
          simp at this
          omega
        have hpd : ds[pre.length] = p := by
          obtain ⟨r, hr⟩ := hpx
          simp [← hr]
        obtain ⟨B1, f1, he1, -, -, hrd⟩ := (HX.out.below hI.2).d
        cases he1
        obtain ⟨b, off, hA, hbb, x0, x1⟩ := hrd.at hple
        subst hA
        rw [hpd] at x0 x1
        obtain ⟨z4, z5⟩ := (HX.out.below hI.2).cells
        have c13 := cell1 hI.1
        have f13 := free1 hI.1
        have hN := hI.next (u := (pre.length : Int) + 1)
        have HQ : Hid (onPost w13.heap.size KS (fun (pre : List En) W => OneI w12 w12.heap.size pre.length W) (pre ++ [p]) W .normal {tmps := #[], defers := []} (W.setCell ⟨w12.heap.size, 0, none⟩ (.int .i64 ((pre.length : Int) + 1)))) := Lib.hid ⟨hN.2.2.from _, hN.2.1, by
          show OneI w12 w12.heap.size ((pre ++ [p]).length : Nat) _
          rw [List.length_append]
          exact hN.1⟩
        have hcm := cmp_same p.key p.script
        have hk0 : (0 : Int) ≤ (pre.length : Int) := by omega
        have hkl : (pre.length : Int) < (ds.length : Int) := by omega
        have hpl : pre.length ≤ 1000 := by have := HPA.out.1; omega
        have hge : decide ((pre.length : Int) ≥ (ds.length : Int)) = false := decide_eq_false (by omega)
        have hge2 : decide (ds.length ≤ pre.length) = false := decide_eq_false (by omega)
        clear hN hI hpx hpd hrd hbb hl hlen hI0
        gi_wp2_with fail
        exact HQ.out
      case done =>
        rintro D1 xs W hD1 hxs hI hdef
        rw [hxs] at hI
        clear hxs hI0
        have HBW := Lib.hid hI.2
        have HALW := Lib.hid (HAL.out.below hI.2)
        have HP1 := Lib.hid hdef
        have H13 := Lib.hid hI.1
        have hz13 : w12.heap.size < W.heap.size := (Array.getElem?_eq_some_iff.1 hI.1).1
        have hzP1 : D1 < W.heap.size := (Array.getElem?_eq_some_iff.1 hdef).1
        have hzw : w.heap.size ≤ w12.heap.size := HZ.out.bel.size
        clear hI hdef
        gi_wp2_with fail
        have HALX := Lib.hid (HALW.out.below (below_new W (.cells #[.int .i64 0] 3)))
        have hs15 : (W.alloc (.cells #[.int .i64 0] 3)).heap.size = W.heap.size + 1 := by simp
        have hI1 := OneI.new W 0
        generalize W.alloc (.cells #[.int .i64 0] 3) = w15 at *
        obtain ⟨ta, hta⟩ : ∃ t, decide (ds2 = ds) = t := ⟨_, rfl⟩
        obtain ⟨tb, htb⟩ : ∃ t, decide (ns2 = ns) = t := ⟨_, rfl⟩
        have HE1 : Hid (∀ W, BX2 g (.slice V1 ds.length e1) (.slice V2 ns.length e2) ds ns W → BX2 g2 (.slice A1 ds2.length c1) (.slice A2 ns2.length c2) ds2 ns2 W → Calls Tryd.prog 22 #[.slice A1 ds2.length c1, .slice V1 ds.length e1] W fun e w' => e = .returned (.bool ta) ∧ Below W.heap.size W w') := Lib.hid (fun W hx hy => by
          rw [← hta]
          exact entries_any A1 V1 c1 e1 ds2 ds W hy.rows.1 hx.rows.1 (by have := HPA.out.1; have := HD2.out; omega) (by have := HPA.out.1; omega))
        have HE2 : Hid (∀ W, BX2 g (.slice V1 ds.length e1) (.slice V2 ns.length e2) ds ns W → BX2 g2 (.slice A1 ds2.length c1) (.slice A2 ns2.length c2) ds2 ns2 W → Calls Tryd.prog 22 #[.slice A2 ns2.length c2, .slice V2 ns.length e2] W fun e w' => e = .returned (.bool tb) ∧ Below W.heap.size W w') := Lib.hid (fun W hx hy => by
          rw [← htb]
          exact entries_any A2 V2 c2 e2 ns2 ns W hy.rows.2 hx.rows.2 (by have := HPA.out.2.1; have := HN2.out; omega) (by have := HPA.out.2.1; omega))
        have HI1 : Hid (∀ W, CA C2 D2 M2 ds ns W → BX2 g (.slice V1 ds.length e1) (.slice V2 ns.length e2) ds ns W → Calls Tryd.prog 16 #[.pointer (some ⟨C2, 0, none⟩), .agg #[.slice V1 ds.length e1, .slice V2 ns.length e2]] W fun e w' => e = .returned (.bool true) ∧ Below W.heap.size W w') := Lib.hid (fun W hc hx => is_any _ _ W hc hx.d hx.n (by have := HPA.out.1; omega) (by have := HPA.out.2.1; omega) (fun e he => by have := HPA.out.2.2.1 e he; simp only [maxLen]; omega) (fun e he => by have := HPA.out.2.2.2 e he; simp only [maxLen]; omega))
        have HI2 : Hid (∀ W, CA C D M ds2 ns2 W → BX2 g2 (.slice A1 ds2.length c1) (.slice A2 ns2.length c2) ds2 ns2 W → Calls Tryd.prog 16 #[.pointer (some ⟨C, 0, none⟩), .agg #[.slice A1 ds2.length c1, .slice A2 ns2.length c2]] W fun e w' => e = .returned (.bool true) ∧ Below W.heap.size W w') := Lib.hid (fun W hc hx => is_any _ _ W hc hx.d hx.n (by have := HPA.out.1; have := HD2.out; omega) (by have := HPA.out.2.1; have := HN2.out; omega) (fun e he => by have := HK2.out.1 e he; simp only [maxLen]; omega) (fun e he => by have := HK2.out.2 e he; simp only [maxLen]; omega))
        have HM1 : Hid (∀ W, CA C D M ds2 ns2 W → CA C2 D2 M2 ds ns W → Calls Tryd.prog 19 #[.pointer (some ⟨C, 0, none⟩), .pointer (some ⟨C2, 0, none⟩)] W fun e w' => e = .returned (.bool (ta && tb)) ∧ Below W.heap.size W w') := Lib.hid (fun W hc hd => by
          rw [← hta, ← htb]
          exact same_any W hc hd)
        have HM2 : Hid (∀ W, CA C D M ds2 ns2 W → CA C2 D2 M2 ds ns W → Calls Tryd.prog 19 #[.pointer (some ⟨C2, 0, none⟩), .pointer (some ⟨C, 0, none⟩)] W fun e w' => e = .returned (.bool (ta && tb)) ∧ Below W.heap.size W w') := Lib.hid (fun W hc hd => by
          rw [← hta, ← htb, show decide (ds2 = ds) = decide (ds = ds2) from decide_eq_decide.2 eq_comm, show decide (ns2 = ns) = decide (ns = ns2) from decide_eq_decide.2 eq_comm]
          exact same_any W hd hc)
        have hdl : ds.length ≤ 60 := by have := HPA.out.1; omega
        have HTB : ∀ (m : Int) (P2 : Nat) (W6 : World), OneI W W.heap.size m W6 → W6.heap[P2]? = some (.deferred (some [])) → Hid (TB w x C D M C2 D2 M2 g g2 w12.heap.size W.heap.size D1 P2 (.slice V1 ds.length e1) (.slice V2 ns.length e2) (.slice A1 ds2.length c1) (.slice A2 ns2.length c2) ds ns ds2 ns2 ds.length m W6) := fun m P2 W6 h hp =>
          have hb := HBW.out.trans (h.2.mono HBW.out.size)
          Lib.hid ⟨HCA.out.below hb, HCB.out.below hb, HX.out.below hb, HY.out.below hb, HZ.out.below hb, (h.2.block _ hz13).trans H13.out, h.1, (h.2.block _ hzP1).trans HP1.out, hp⟩
        have HTBB := Lib.hid HTB
        clear HTB hta htb HCA HCB HX HY HZ HAL HALW H13 HP1 HBW HN2 HD2 HK2 HPA HAL13 H2 HT HAP
        refine rangeB (n := 4) (by omega) (gf := 37) (lb := #[.pointer (some ⟨q, 0, none⟩), .pointer (some ⟨q + 1, 0, none⟩)]) rfl (enters_of Tryd.func37 (by kernel_rfl) rfl)
          (all1_first 3 w15 (by omega) HALX.out (by omega)) 2
          (fun _ _ => trivial) (fun W k o hk => trivial) (fun _ => rfl)
          (OneI W W.heap.size 0) (OneI W W.heap.size 1) (fun A1 A2 row h hg ht => h.keep (Nat.le_refl _) (by omega) hg ht) (fun A1 A2 row h hg ht => h.keep (Nat.le_refl _) (by omega) hg ht) hI1
          ?a2 ?assign2 ?body2 ?none2 ?some2
        case assign2 =>
          intro l' x W K hK
          gi_wp2
          exact hK
        case body2 =>
          rintro l' p W6 hx hI
          have hcell := cell1 hI.1
          have hfree := free1 hI.1
          have hN := hI.next (u := 1)
          have HQ : Hid (exPost 2 (fun _ _ => True) (OneI W W.heap.size 1) W6 (.exit 2) { tmps := #[], defers := [] } (W6.setCell ⟨W.heap.size, 0, none⟩ (.int .i64 1))) := Lib.hid ⟨rfl, hN.2.2, trivial, hN.1⟩
          clear hN hI hx hI1
          gi_wp2_with fail
          exact HQ.out
        case none2 =>
          intro hx P2 W6 hP2 hOI hdef2
          have hdz : ds.length = 0 := by
            cases ds
            · rfl
            · simp at hx
          have hm : min (1 : Int) (ds.length : Int) = 0 := by omega
          have hm2 : (ds.length : Int) ≤ 1 := by omega
          have HT0 := HTBB.out _ _ _ hOI hdef2
          have hne : D1 ≠ P2 := by omega
          have hP1' : w.heap.size ≤ D1 := by omega
          have hP2' : w.heap.size ≤ P2 := by omega
          clear hx hdz hOI hdef2 HTBB hI1 HALX
          obtain ⟨z4, z5⟩ := HT0.out.xb.cells
          obtain ⟨y4, y5⟩ := HT0.out.yb.cells
          have k13 := cell1 HT0.out.c13
          have k16 := cell1 HT0.out.c16
          gi_wp2_with fail
          refine ⟨trivial, (callsIn_wide.2 (HE1.out _ HT0.out.xb HT0.out.yb)).mono ?_⟩
          rintro e u ⟨rfl, hb⟩
          have HT1 := Lib.hid (HT0.out.below hb)
          clear hb z4 z5 y4 y5 k13 k16 HT0
          cases ta with
          | false =>
            gi_wp2_with fail
            refine ⟨trivial, ?_⟩
            have HT2 := HT1
            clear HT1
            obtain ⟨z4, z5⟩ := HT2.out.xb.cells
            obtain ⟨y4, y5⟩ := HT2.out.yb.cells
            have k13 := cell1 HT2.out.c13
            have k16 := cell1 HT2.out.c16
            gi_wp2_with fail
            refine ⟨trivial, (callsIn_wide.2 (HI1.out _ HT2.out.b HT2.out.xb)).mono ?_⟩
            rintro e u ⟨rfl, hb⟩
            have HT3 := Lib.hid (HT2.out.below hb)
            clear hb z4 z5 y4 y5 k13 k16 HT2
            obtain ⟨z4, z5⟩ := HT3.out.xb.cells
            obtain ⟨y4, y5⟩ := HT3.out.yb.cells
            have k13 := cell1 HT3.out.c13
            have k16 := cell1 HT3.out.c16
            gi_wp2_with fail
            refine ⟨trivial, (callsIn_wide.2 (HI2.out _ HT3.out.a HT3.out.yb)).mono ?_⟩
            rintro e u ⟨rfl, hb⟩
            have HT4 := Lib.hid (HT3.out.below hb)
            clear hb z4 z5 y4 y5 k13 k16 HT3
            gi_wp2_with fail
            refine ⟨trivial, (callsIn_wide.2 (HM1.out _ HT4.out.a HT4.out.b)).mono ?_⟩
            rintro e u ⟨rfl, hb⟩
            have HT5 := Lib.hid (HT4.out.below hb)
            clear hb HT4
            gi_wp2_with fail
            refine ⟨trivial, (callsIn_wide.2 (HM2.out _ HT5.out.a HT5.out.b)).mono ?_⟩
            rintro e u ⟨rfl, hb⟩
            have HT6 := Lib.hid (HT5.out.below hb)
            clear hb HT5
            gi_wp2_with fail
            refine ⟨trivial, (callsIn_wide.2 (HW.out _ (HG.out.below HT6.out.z.bel))).mono ?_⟩
            rintro e u ⟨rfl, hb⟩
            have HT7 := Lib.hid (HT6.out.below hb)
            clear hb HT6
            have k4 := cell1 HT7.out.z.b4
            have f4 := free1 HT7.out.z.b4
            gi_wp2_with fail
            exact HT7.out.end hne hP1' hP2' rfl _ (fun W hW => ⟨rfl, hW⟩)
          | true =>
            obtain ⟨z4, z5⟩ := HT1.out.xb.cells
            obtain ⟨y4, y5⟩ := HT1.out.yb.cells
            have k13 := cell1 HT1.out.c13
            have k16 := cell1 HT1.out.c16
            gi_wp2_with fail
            refine ⟨trivial, (callsIn_wide.2 (HE2.out _ HT1.out.xb HT1.out.yb)).mono ?_⟩
            rintro e u ⟨rfl, hb⟩
            have HT2 := Lib.hid (HT1.out.below hb)
            clear hb z4 z5 y4 y5 k13 k16 HT1
            cases tb <;> (
              obtain ⟨z4, z5⟩ := HT2.out.xb.cells
              obtain ⟨y4, y5⟩ := HT2.out.yb.cells
              have k13 := cell1 HT2.out.c13
              have k16 := cell1 HT2.out.c16
              gi_wp2_with fail
              refine ⟨trivial, (callsIn_wide.2 (HI1.out _ HT2.out.b HT2.out.xb)).mono ?_⟩
              rintro e u ⟨rfl, hb⟩
              have HT3 := Lib.hid (HT2.out.below hb)
              clear hb z4 z5 y4 y5 k13 k16 HT2
              obtain ⟨z4, z5⟩ := HT3.out.xb.cells
              obtain ⟨y4, y5⟩ := HT3.out.yb.cells
              have k13 := cell1 HT3.out.c13
              have k16 := cell1 HT3.out.c16
              gi_wp2_with fail
              refine ⟨trivial, (callsIn_wide.2 (HI2.out _ HT3.out.a HT3.out.yb)).mono ?_⟩
              rintro e u ⟨rfl, hb⟩
              have HT4 := Lib.hid (HT3.out.below hb)
              clear hb z4 z5 y4 y5 k13 k16 HT3
              gi_wp2_with fail
              refine ⟨trivial, (callsIn_wide.2 (HM1.out _ HT4.out.a HT4.out.b)).mono ?_⟩
              rintro e u ⟨rfl, hb⟩
              have HT5 := Lib.hid (HT4.out.below hb)
              clear hb HT4
              gi_wp2_with fail
              refine ⟨trivial, (callsIn_wide.2 (HM2.out _ HT5.out.a HT5.out.b)).mono ?_⟩
              rintro e u ⟨rfl, hb⟩
              have HT6 := Lib.hid (HT5.out.below hb)
              clear hb HT5
              gi_wp2_with fail
              refine ⟨trivial, (callsIn_wide.2 (HW.out _ (HG.out.below HT6.out.z.bel))).mono ?_⟩
              rintro e u ⟨rfl, hb⟩
              have HT7 := Lib.hid (HT6.out.below hb)
              clear hb HT6
              have k4 := cell1 HT7.out.z.b4
              have f4 := free1 HT7.out.z.b4
              gi_wp2_with fail
              exact HT7.out.end hne hP1' hP2' rfl _ (fun W hW => ⟨rfl, hW⟩))
        case some2 =>
          intro p hx P2 W6 hP2 hOI hdef2
          have hdz : 1 ≤ ds.length := by
            cases ds
            · simp at hx
            · simp
          have hm : min (1 : Int) (ds.length : Int) = 1 := by omega
          have HT0 := HTBB.out _ _ _ hOI hdef2
          have hne : D1 ≠ P2 := by omega
          have hP1' : w.heap.size ≤ D1 := by omega
          have hP2' : w.heap.size ≤ P2 := by omega
          clear hx hdz hOI hdef2 HTBB hI1 HALX
          obtain ⟨z4, z5⟩ := HT0.out.xb.cells
          obtain ⟨y4, y5⟩ := HT0.out.yb.cells
          have k13 := cell1 HT0.out.c13
          have k16 := cell1 HT0.out.c16
          gi_wp2_with fail
          refine ⟨trivial, (callsIn_wide.2 (HE1.out _ HT0.out.xb HT0.out.yb)).mono ?_⟩
          rintro e u ⟨rfl, hb⟩
          have HT1 := Lib.hid (HT0.out.below hb)
          clear hb z4 z5 y4 y5 k13 k16 HT0
          cases ta with
          | false =>
            gi_wp2_with fail
            refine ⟨trivial, ?_⟩
            have HT2 := HT1
            clear HT1
            obtain ⟨z4, z5⟩ := HT2.out.xb.cells
            obtain ⟨y4, y5⟩ := HT2.out.yb.cells
            have k13 := cell1 HT2.out.c13
            have k16 := cell1 HT2.out.c16
            gi_wp2_with fail
            refine ⟨trivial, (callsIn_wide.2 (HI1.out _ HT2.out.b HT2.out.xb)).mono ?_⟩
            rintro e u ⟨rfl, hb⟩
            have HT3 := Lib.hid (HT2.out.below hb)
            clear hb z4 z5 y4 y5 k13 k16 HT2
            obtain ⟨z4, z5⟩ := HT3.out.xb.cells
            obtain ⟨y4, y5⟩ := HT3.out.yb.cells
            have k13 := cell1 HT3.out.c13
            have k16 := cell1 HT3.out.c16
            gi_wp2_with fail
            refine ⟨trivial, (callsIn_wide.2 (HI2.out _ HT3.out.a HT3.out.yb)).mono ?_⟩
            rintro e u ⟨rfl, hb⟩
            have HT4 := Lib.hid (HT3.out.below hb)
            clear hb z4 z5 y4 y5 k13 k16 HT3
            gi_wp2_with fail
            refine ⟨trivial, (callsIn_wide.2 (HM1.out _ HT4.out.a HT4.out.b)).mono ?_⟩
            rintro e u ⟨rfl, hb⟩
            have HT5 := Lib.hid (HT4.out.below hb)
            clear hb HT4
            gi_wp2_with fail
            refine ⟨trivial, (callsIn_wide.2 (HM2.out _ HT5.out.a HT5.out.b)).mono ?_⟩
            rintro e u ⟨rfl, hb⟩
            have HT6 := Lib.hid (HT5.out.below hb)
            clear hb HT5
            gi_wp2_with fail
            refine ⟨trivial, (callsIn_wide.2 (HW.out _ (HG.out.below HT6.out.z.bel))).mono ?_⟩
            rintro e u ⟨rfl, hb⟩
            have HT7 := Lib.hid (HT6.out.below hb)
            clear hb HT6
            have k4 := cell1 HT7.out.z.b4
            have f4 := free1 HT7.out.z.b4
            gi_wp2_with fail
            exact HT7.out.end hne hP1' hP2' rfl _ (fun W hW => ⟨rfl, hW⟩)
          | true =>
            obtain ⟨z4, z5⟩ := HT1.out.xb.cells
            obtain ⟨y4, y5⟩ := HT1.out.yb.cells
            have k13 := cell1 HT1.out.c13
            have k16 := cell1 HT1.out.c16
            gi_wp2_with fail
            refine ⟨trivial, (callsIn_wide.2 (HE2.out _ HT1.out.xb HT1.out.yb)).mono ?_⟩
            rintro e u ⟨rfl, hb⟩
            have HT2 := Lib.hid (HT1.out.below hb)
            clear hb z4 z5 y4 y5 k13 k16 HT1
            cases tb <;> (
              obtain ⟨z4, z5⟩ := HT2.out.xb.cells
              obtain ⟨y4, y5⟩ := HT2.out.yb.cells
              have k13 := cell1 HT2.out.c13
              have k16 := cell1 HT2.out.c16
              gi_wp2_with fail
              refine ⟨trivial, (callsIn_wide.2 (HI1.out _ HT2.out.b HT2.out.xb)).mono ?_⟩
              rintro e u ⟨rfl, hb⟩
              have HT3 := Lib.hid (HT2.out.below hb)
              clear hb z4 z5 y4 y5 k13 k16 HT2
              obtain ⟨z4, z5⟩ := HT3.out.xb.cells
              obtain ⟨y4, y5⟩ := HT3.out.yb.cells
              have k13 := cell1 HT3.out.c13
              have k16 := cell1 HT3.out.c16
              gi_wp2_with fail
              refine ⟨trivial, (callsIn_wide.2 (HI2.out _ HT3.out.a HT3.out.yb)).mono ?_⟩
              rintro e u ⟨rfl, hb⟩
              have HT4 := Lib.hid (HT3.out.below hb)
              clear hb z4 z5 y4 y5 k13 k16 HT3
              gi_wp2_with fail
              refine ⟨trivial, (callsIn_wide.2 (HM1.out _ HT4.out.a HT4.out.b)).mono ?_⟩
              rintro e u ⟨rfl, hb⟩
              have HT5 := Lib.hid (HT4.out.below hb)
              clear hb HT4
              gi_wp2_with fail
              refine ⟨trivial, (callsIn_wide.2 (HM2.out _ HT5.out.a HT5.out.b)).mono ?_⟩
              rintro e u ⟨rfl, hb⟩
              have HT6 := Lib.hid (HT5.out.below hb)
              clear hb HT5
              gi_wp2_with fail
              refine ⟨trivial, (callsIn_wide.2 (HW.out _ (HG.out.below HT6.out.z.bel))).mono ?_⟩
              rintro e u ⟨rfl, hb⟩
              have HT7 := Lib.hid (HT6.out.below hb)
              clear hb HT6
              have k4 := cell1 HT7.out.z.b4
              have f4 := free1 HT7.out.z.b4
              gi_wp2_with fail
              exact HT7.out.end hne hP1' hP2' rfl _ (fun W hW => ⟨rfl, hW⟩))
end Go.Proofs.YtpomaabkgbaikaaDoor
namespace Go.Proofs.YtpomaabkgbaikaaDoor.cacheCopies
open Go Go.RowKit Go.ChangeShapes Go.WideShapes Go.ChangeAt
open Go.ChangeMaps (open_string shut_string)

theorem walk (A : Option Addr) (n c : Nat) (l : List Ac) (x : Ac) (w : World) (hn : l.length = n) (hr : RdC w A l) (ln : n ≤ 9223372036854775807) (so : ∀ x ∈ l, x.ok) (xo : x.ok) (hg : DG w) :
    Calls Tryd.prog 5 #[.slice A n c, .agg (acV x)] w fun e w' => e = .returned (.bool true) ∧ Below w.heap.size w w' := copies_walk A n c l x w hn hr ln so xo hg


set_option maxRecDepth 20000 in
theorem contract (H : Type) (enc : TypeId × Value → H) (W : World) (base : Nat) (args : Array Value) (ds gs : List (DataW H)) (before : List MemPlace)
    (hval : ∀ (j : Nat) t v, Tryd.f5.params[j]? = some t → args[j]? = some v → Value.okWide Tryd.prog W .any base t v)
    (hW : DataW.Whole enc Tryd.prog Tryd.f5.params.toList Rows.cacheCopiesSpec.vars false W args.toList ds gs before) 
    (hZ : (DataW.weightsEach Tryd.prog (Tryd.f5.params.toList ++ (OpenSpec.ofChange Rows.cacheCopiesSpec).bare.plain.varTypes Tryd.prog) (ds ++ gs)).all (· ≤ reachBytes) = true) (hL : laidMetH Tryd.prog Rows.cacheCopiesRow.laid W) :
    Calls Tryd.prog 5 args W fun e W' => ∃ v, e = .returned v ∧ Rows.cacheCopiesSpec.post enc Tryd.prog Tryd.f5 false true false false W args v W' := by
  have hW' := hW
  obtain ⟨p, q, hA0, hV, rfl, hfz, hnd⟩ := hW
  have hA : DataW.TrodAll enc Tryd.prog W 0 (fun _ => true) true Tryd.f5.params.toList args.toList ds p := hA0
  rw [Tryd.params5] at hA hval hZ
  obtain ⟨v0, vs0, d0, ds0, p0, q0, hargs, rfl, rfl, h0, r0⟩ := trodAll_cons hA
  obtain ⟨v1, vs1, d1, ds1, p1, q1, rfl, rfl, rfl, h1, r1⟩ := trodAll_cons r0
  obtain ⟨rfl, rfl, rfl⟩ := trodAll_nil r1
  obtain rfl : args = #[v0, v1] := by cases args; simp_all
  obtain ⟨rfl, rfl⟩ := trodVars_none hV
  have k0 := h0
  have lt0 : ∀ x ∈ p0, x.block < W.heap.size := by obtain ⟨m, hm⟩ := k0; exact DataW.trod_lt m _ _ _ hm
  obtain ⟨ca0, na0, ea0, rfl⟩ := okWide_slice Tryd.underlying24 (hval 0 24 v0 rfl rfl)
  obtain ⟨fu0, hf0⟩ := h0
  obtain ⟨A0, n0, c0, l0, hv0, hn0, hnc0, hcm0, hO0, hr0, hs0⟩ := acts_of hf0 (weight_at hZ (j := 0) rfl rfl)
  cases hv0
  simp only [maxLen] at hcm0
  have k1 := h1
  have lt1 : ∀ x ∈ p1, x.block < W.heap.size := by obtain ⟨m, hm⟩ := k1; exact DataW.trod_lt m _ _ _ hm
  obtain ⟨fu1, hf1⟩ := h1
  obtain ⟨s1, hv1, hs1⟩ := ac_of (hval 1 39 v1 rfl rfl) hf1 (weight_at hZ (j := 1) rfl rfl)
  subst hv1
  clear hA0
  refine (walk _ _ _ l0 s1 W hn0 hr0 (by omega) hs0 hs1 (laid_dg hL)).mono fun e W' ⟨he, bel⟩ => ?_
  subst he
  exact ⟨_, rfl, _, _, _, [], _, [], hW', trodAll_mk1 (shut_bool Tryd.underlying4 _), (trodAll_cons_mk (Below.trod laidOut (by kernel_rfl) (of_decide_eq_true (by kernel_rfl)) k0 bel lt0) (trodAll_cons_mk (Below.trod laidOut (by kernel_rfl) (of_decide_eq_true (by kernel_rfl)) k1 bel lt1) trodAll_mk0)), rfl, bel.frame _, fun h => by cases h⟩

theorem reads (os : Os) {H : Type} (enc : TypeId × Value → H) : ∃ places, DataW.whole enc Tryd.prog ((laidWorld os).forCall (fun _ _ => 0) ⟨#[], #[.slice none 0 0, .agg #[.int .i64 0, .string ⟨#[]⟩, .string ⟨#[]⟩]], []⟩).memory Tryd.f5.params.toList Rows.cacheCopiesSpec.vars false (#[.slice none 0 0, .agg #[.int .i64 0, .string ⟨#[]⟩, .string ⟨#[]⟩]] : Array Value).toList 8 = some ([.nil, .agg [.lit (.int .i64 0), .lit (.string []), .lit (.string [])]], [], places) :=
  ⟨[], by kernel_rfl⟩

set_option maxRecDepth 100000 in
theorem lifted (os : Os) (started : os.Started) (H : Type) (enc : TypeId × Value → H) (F : Stop.Interp) :
    ReturnsInHanded {} Tryd.checked os 5 .any ((OpenSpec.ofChange Rows.cacheCopiesSpec).preRow enc Tryd.prog Tryd.f5 Rows.cacheCopiesRow.domain false Rows.cacheCopiesRow.laid) (((OpenSpec.ofChange Rows.cacheCopiesSpec).at F).post enc Tryd.prog Tryd.f5 false true false false) := by
  obtain ⟨places, hx⟩ := reads os enc
  refine returnsInHanded_of_row (C := Tryd.checked) (s := OpenSpec.ofChange Rows.cacheCopiesSpec) own started (by kernel_rfl) Tryd.func5
    (witness_row_at (enc := enc) (C := Tryd.checked) false (laidWorld os) #[.slice none 0 0, .agg #[.int .i64 0, .string ⟨#[]⟩, .string ⟨#[]⟩]] rfl (by kernel_rfl) (by kernel_rfl) (by kernel_rfl)
      (OpenSpec.preRow_of_cond 8 hx (by kernel_rfl) (fun k hk => by cases hk) (by kernel_rfl) (laid_met os _))) ?_
  intro W base args ds gs before hval hW _ _ hZ hL _ _
  exact contract H enc W base args ds gs before hval hW hZ hL

theorem said : Rows.CacheCopiesSaid :=
  OpenClaim.holds_of_cond 5 Tryd.f5 rfl rfl rfl rfl rfl rfl rfl ⟨rfl, rfl, rfl, rfl, rfl⟩ rfl rfl rfl rfl rfl (by kernel_rfl) Tryd.func5 (by kernel_rfl)
    (of_decide_eq_true (by kernel_rfl)) (by unfold Func.isWrapper; first | (rw [if_pos (by decide +kernel)]; kernel_rfl) | (rw [if_neg (by decide +kernel)]; exact ⟨rfl, rfl⟩))
    (fun os started H enc _ F => by rw [OpenClaim.pre_eq_preRow]; exact lifted os started H enc F)

theorem plain (f : FuncId) (fn : Func) (hf : Tryd.pinned.checked.prog.funcNamed "tabor/taborlaw21.CacheCopies" = some f) (hfn : Tryd.pinned.checked.prog.funcs[f]? = some fn) :
    true = Tryd.pinned.checked.prog.looks [] ∧ ∀ (j : Nat) t, fn.params[j]? = some t → Tryd.pinned.checked.prog.wantsStandIn t = false := by
  obtain rfl : f = 5 := Option.some.inj ((show Tryd.prog.funcNamed "tabor/taborlaw21.CacheCopies" = some 5 by kernel_rfl).symm.trans hf) |>.symm
  obtain rfl : fn = Tryd.f5 := (Option.some.inj (Tryd.func5.symm.trans hfn)).symm
  refine ⟨by kernel_rfl, fun j t ht => ?_⟩
  rw [Tryd.params5] at ht
  have hm : t = 24 ∨ t = 39 := by simpa using Array.mem_of_getElem? ht
  rcases hm with rfl | rfl
  · exact (show Tryd.prog.wantsStandIn 24 = false by kernel_rfl)
  · exact (show Tryd.prog.wantsStandIn 39 = false by kernel_rfl)

/-- The card. -/
theorem card : Rows.CacheCopiesCardSaid :=
  Claim7.holds_tied_plain_at .later [] _ _ _ _ said (fun _ h => by cases h) (by kernel_rfl) (fun _ h => by cases h) cacheCopies_row_tie rfl ⟨rfl, rfl⟩ (by kernel_rfl) rfl plain (by kernel_rfl)
#print axioms card
end Go.Proofs.YtpomaabkgbaikaaDoor.cacheCopies
