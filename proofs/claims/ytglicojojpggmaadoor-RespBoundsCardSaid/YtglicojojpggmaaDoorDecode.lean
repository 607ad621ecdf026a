/- The reply with which bytes begin, by the program. -/
import Derived.Test.YtglicojojpggmaaDoorDecC
namespace Go.Proofs.YtglicojojpggmaaDoor
open Go Go.RowKit
theorem stop_put25 {R : Ending → World → Prop} (d : Nat) (h2 : d ≠ 2) (h3 : d ≠ 3) (h4 : d ≠ 4) : ∀ c (a : Act) (v : Value) (w : World), bodyPostD Tryd.prog Tryd.f25 R (.panic c) (a.put (some d) v) w → bodyPostD Tryd.prog Tryd.f25 R (.panic c) a w := fun c a v w h => by
  refine leaves_congr ?_ _ _ _ h
  have e : ∀ j, j ≠ d → (a.tmps.setIfInBounds d v)[j]?.getD undef = a.tmps[j]?.getD undef := fun j hj => by
    rw [Array.getElem?_setIfInBounds, if_neg (fun e => hj e.symm)]
  have e2 := e 2 h2.symm
  have e3 := e 3 h3.symm
  have e4 := e 4 h4.symm
  simp only [results, Tryd.results25, Act.put, Array.getD_eq_getD_getElem?]
  simp only [List.mapM_toArray, List.mapM_cons, List.mapM_nil, e2, e3, e4, Array.getD_eq_getD_getElem?, Array.mapM_eq_mapM_toList]
theorem fits_noR : Fits noR := ⟨by decide, by decide, by decide, by decide, by decide, by decide⟩
theorem dec_stop (w W : World) (k : Int) (hk : k ≠ 0) (x0 : Array Value) (hx0 : x0.size = 4) (x1 x2 : Value) (tmps : Array Value) (t2 : tmps.getD 2 undef = .pointer (some ⟨w.heap.size, 0, none⟩)) (t3 : tmps.getD 3 undef = .pointer (some ⟨w.heap.size + 1, 0, none⟩)) (t4 : tmps.getD 4 undef = .pointer (some ⟨w.heap.size + 2, 0, none⟩))
    (h0 : W.heap[w.heap.size]? = some (.cells x0 41 (0, 0))) (h1 : W.heap[w.heap.size + 1]? = some (.cells #[x1] 3 (0, 0))) (h2 : W.heap[w.heap.size + 2]? = some (.cells #[x2] 26 (0, 0))) (hb : Below w.heap.size w W) (D : DR) (hd : D = .bad k) :
    bodyPostD Tryd.prog Tryd.f25 (DecEnd w D) (.panic (stopP k)) { tmps := tmps, defers := [D4 w.heap.size] } W := by
  subst hd
  refine leaves_cons (f := 56) (args := #[.pointer (some ⟨w.heap.size, 0, none⟩), .pointer (some ⟨w.heap.size + 1, 0, none⟩), .pointer (some ⟨w.heap.size + 2, 0, none⟩)]) (by simp) (by simp [go_sem]) ?_
  refine (catch_stop4 w.heap.size k hk [] x0 hx0 x1 x2 W h0 h1 h2).mono ?_
  rintro e u' w'' ⟨rfl, rfl, r0, r1, r2, hb'⟩
  refine ⟨.tuple #[.agg zero41, .int .i64 0, .int .i64 k], res25 tmps w.heap.size _ _ _ w'' t2 t3 t4 _ _ _ _ rfl r0 (cell_one r1) (cell_one r2), none, 0, rfl, ⟨fits_noR, fun _ => rfl, Nat.zero_le _, ?_⟩, hb.trans hb'⟩
  rw [show Rp.kids _ = [] from rfl, RpL]
  trivial
theorem dec_ret (w W : World) (D : DR) (A : Option Addr) (c : Nat) (tmps : Array Value) (t2 : tmps.getD 2 undef = .pointer (some ⟨w.heap.size, 0, none⟩)) (t3 : tmps.getD 3 undef = .pointer (some ⟨w.heap.size + 1, 0, none⟩)) (t4 : tmps.getD 4 undef = .pointer (some ⟨w.heap.size + 2, 0, none⟩))
    (h0 : W.heap[w.heap.size]? = some (.cells (rpV D.r A c) 41 (0, 0))) (h1 : W.heap[w.heap.size + 1]? = some (.cells #[.int .i64 (D.a : Nat)] 3 (0, 0))) (h2 : W.heap[w.heap.size + 2]? = some (.cells #[.int .i64 0] 26 (0, 0))) (hb : Below w.heap.size w W) (hd : D.e = 0) (hk : RpK (fun b => w.heap.size ≤ b) W D.r A c) :
    bodyPostD Tryd.prog Tryd.f25 (DecEnd w D) .ret { tmps := tmps, defers := [D4 w.heap.size] } W := by
  refine leaves_cons (f := 56) (args := #[.pointer (some ⟨w.heap.size, 0, none⟩), .pointer (some ⟨w.heap.size + 1, 0, none⟩), .pointer (some ⟨w.heap.size + 2, 0, none⟩)]) (by simp) (by simp [go_sem]) ?_
  refine (catch_idle4 w.heap.size W).mono ?_
  rintro e u' w'' ⟨rfl, rfl, rfl⟩
  exact ⟨.tuple #[.agg (rpV D.r A c), .int .i64 (D.a : Nat), .int .i64 0], res25 tmps w.heap.size _ _ _ w'' t2 t3 t4 _ _ _ _ rfl h0 (cell_one h1) (cell_one h2), A, c, by rw [hd], hk, hb⟩
/-- The three results' variables. -/
structure V4 (w W : World) (x0 : Array Value) : Prop where
  v0 : W.heap[w.heap.size]? = some (.cells x0 41 (0, 0))
  v1 : W.heap[w.heap.size + 1]? = some (.cells #[.int .i64 0] 3 (0, 0))
  v2 : W.heap[w.heap.size + 2]? = some (.cells #[.int .i64 0] 26 (0, 0))
  bel : Below w.heap.size w W
  sz : w.heap.size + 3 ≤ W.heap.size
theorem V4.new (w : World) : V4 w (((w.alloc (.cells zero41 41)).alloc (.cells #[.int .i64 0] 3)).alloc (.cells #[.int .i64 0] 26)) zero41 := by
  have a0 := heap_alloc_new w (.cells zero41 41)
  have b0 := below_new w (.cells zero41 41)
  have s0 : (w.alloc (.cells zero41 41)).heap.size = w.heap.size + 1 := by simp
  generalize w.alloc (.cells zero41 41) = w1 at *
  have a1 := heap_alloc_new w1 (.cells #[.int .i64 0] 3)
  have b1 := below_new w1 (.cells #[.int .i64 0] 3)
  have s1 : (w1.alloc (.cells #[.int .i64 0] 3)).heap.size = w.heap.size + 2 := by simp [s0]
  rw [s0] at a1 b1
  generalize w1.alloc (.cells #[.int .i64 0] 3) = w2 at *
  have a2 := heap_alloc_new w2 (.cells #[.int .i64 0] 26)
  have b2 := below_new w2 (.cells #[.int .i64 0] 26)
  have s2 : (w2.alloc (.cells #[.int .i64 0] 26)).heap.size = w.heap.size + 3 := by simp [s1]
  rw [s1] at a2 b2
  exact ⟨(b2.block _ (by omega)).trans ((b1.block _ (by omega)).trans a0), (b2.block _ (by omega)).trans a1, a2, (b0.trans (b1.mono (by omega))).trans (b2.mono (by omega)), by omega⟩
theorem V4.next {w W W' : World} {x0 : Array Value} {G : Nat} (h : V4 w W x0) (ho : Only G W W') (hG : w.heap.size + 3 ≤ G) : V4 w W' x0 := by
  have hs := h.sz
  have st : ∀ k, k < w.heap.size + 3 → W'.heap[k]? = W.heap[k]? := fun k hk => ho.block k (by omega) (fun e => by injection e; omega)
  exact ⟨(st _ (by omega)).trans h.v0, (st _ (by omega)).trans h.v1, (st _ (by omega)).trans h.v2, h.bel.trans (only_below ho (by omega) (by omega)), Nat.le_trans hs ho.size⟩
theorem V4.row {w W : World} {x0 : Array Value} (h : V4 w W x0) (cs : Array Value) (hcs : cs.size = 4) : V4 w (W.setRow w.heap.size cs) cs ∧ ∀ b, b ≠ w.heap.size → (W.setRow w.heap.size cs).heap[b]? = W.heap[b]? := by
  have so : ∀ b, b ≠ w.heap.size → (W.setRow w.heap.size cs).heap[b]? = W.heap[b]? := fun b hb => setRow_other _ _ _ _ hb
  have hs := h.sz
  exact ⟨⟨setRow_heap _ _ _ _ _ _ h.v0, (so _ (by omega)).trans h.v1, (so _ (by omega)).trans h.v2, h.bel.trans ⟨rfl, rfl, rfl, by simp, fun k hk => so k (by omega)⟩, by simpa using hs⟩, so⟩
theorem V4.drew {w W : World} {x0 : Array Value} (h : V4 w W x0) (q : Nat) : V4 w (W.drewN q) x0 := ⟨h.v0, h.v1, h.v2, ⟨h.bel.os, h.bel.tape, h.bel.output, h.bel.size, h.bel.block⟩, h.sz⟩
set_option maxRecDepth 100000 in
set_option maxHeartbeats 8000000 in
theorem decode_any (A : Option Addr) (n c : Nat) (l : List UInt8) (w : World) (hn : l.length = n) (hc : n ≤ c) (hA : A = none → c = 0) (hr : Rd w A l) (hb : ∀ ad, A = some ad → ad.block < w.heap.size) (hm : n ≤ 1000000000) :
    Calls Tryd.prog 25 #[.slice A n c] w (DecEnd w (decR l)) := by
  obtain ⟨D0, hD0⟩ : ∃ D0, decR l = D0 := ⟨_, rfl⟩
  rw [hD0]
  unfold decR at hD0
  have HD0 := Lib.hid hD0.symm
  clear hD0
  have hmf : ∀ (fn : Fn) (first cap : Array Value) (w : World), (Instr.makeFunc fn first cap).run Tryd.prog w = .ok (.func fn first cap) w := fun _ _ _ _ => rfl
  have HV := Lib.hid (V4.new w)
  have HRD := Lib.hid hr
  have HN := Lib.hid hn
  have HA := Lib.hid hA
  have HB := Lib.hid hb
  clear hn hA hr hb
  go_enter_defers Tryd.func25, Tryd.ntmps25
  go_wp2_with fail
  generalize hW : ((w.alloc (.cells zero41 41)).alloc (.cells #[.int .i64 0] 3)).alloc (.cells #[.int .i64 0] 26) = W at HV ⊢
  have HO := Lib.hid (over_any A n c W)
  refine HO.out.mono ?_
  rintro e w1 ⟨rfl, rfl⟩
  have HI0 := Lib.hid (over_inp A n c l W (HRD.out.below HV.out.bel) HN.out hc HA.out (fun ad e => Nat.lt_of_lt_of_le (HB.out ad e) HV.out.bel.size) (by omega))
  have HG3 : Hid (w.heap.size + 3 ≤ W.heap.size) := Lib.hid HV.out.sz
  have HV1 := Lib.hid (HV.out.next (G := W.heap.size) (only_below2 (below_new W (Over A n c))) HG3.out)
  have HX : Hid (∀ ad, A = some ad → ad.block < w.heap.size) := HB
  clear HO HV HRD HN HA HB hW
  generalize W.alloc (Over A n c) = W1 at HI0 HV1 ⊢
  generalize W.heap.size = G at HI0 HG3 HV1 ⊢
  have HT := Lib.hid (taker_any G W1)
  go_wp2_with fail
  refine HT.out.mono ?_
  rintro e w2 ⟨rfl, hb2⟩
  have HV2 := Lib.hid (HV1.out.next (G := G) (only_below2 hb2) HG3.out)
  have HI2 := Lib.hid (HI0.out.below hb2)
  clear hb2 HT HV1 HI0
  have HR := Lib.hid (repF_all 100 (by decide) G A n c l 0 1048576 65536 w2 HI2.out (by decide) (by decide) hm)
  have h0 : (100 : Int) - ((100 : Nat) : Int) = 0 := rfl
  rw [h0] at HR
  clear h0
  generalize repF 100 l 0 1048576 65536 = D at *
  go_wp2_with fail
  refine HR.out.mono ?_
  rintro e w3 ⟨⟨he, A1, c1, rfl, hk1, hi3⟩ | ⟨he, rfl⟩, ho3⟩
  rotate_left
  · have hv3 := HV2.out.next ho3 HG3.out
    have hbd : D0 = .bad D.e := by rw [HD0.out, if_pos he]
    exact dec_stop w w3 D.e he _ rfl _ _ _ rfl rfl rfl hv3.v0 hv3.v1 hv3.v2 hv3.bel D0 hbd
  have hbd : D0 = D := by rw [HD0.out, if_neg (by rw [he]; decide)]
  subst hbd
  have HV3 := Lib.hid (HV2.out.next ho3 HG3.out)
  have HZ := Lib.hid HV3.out.v0
  have HK3 := Lib.hid hk1
  have HI3 := Lib.hid hi3
  have HE := Lib.hid he
  have HS2 := Lib.hid HV2.out.sz
  clear hk1 hi3 ho3 he HR HD0 HV2 HI2
  go_upto_region 4 with (refine wpList_store_row rfl 41 (.tmp 2) (.tmp 12) rfl w.heap.size (rpV D0.r A1 c1) rfl rfl 41 zero41 HZ.out size41 rfl (by simp [Value.oneCell']) ?_)
  have W4v := HV3.out.row (rpV D0.r A1 c1) rfl
  have H4 := Lib.hid (W4v.1.drew 1)
  have HI4 : Hid (Inp ((w3.setRow w.heap.size (rpV D0.r A1 c1)).drew) G A n c l D0.a (D0.tx : Nat) (D0.it : Nat) 0) := Lib.hid (by
    have hX := HX.out
    refine ⟨(W4v.2 _ (by have := HG3.out; omega)).trans HI3.out.z, fun h0 => ?_, HI3.out.len, HI3.out.cap, HI3.out.nil, HI3.out.ne, HI3.out.max, HI3.out.pos⟩
    obtain ⟨g, off, e, hlt, hc⟩ := HI3.out.rd h0
    exact ⟨g, off, e, by simpa [World.drew] using hlt, fun j hj => (World.cell?_of_block (w := w3) (a := ⟨g, off + j, none⟩) (W4v.2 g (by have := hX _ e; simp at this; omega))).trans (hc j hj)⟩)
  change Hid (V4 w (World.drew _) _) at H4
  have HK4 : Hid (RpK (fun b => w.heap.size + 3 ≤ b) ((w3.setRow w.heap.size (rpV D0.r A1 c1)).drew) D0.r A1 c1) := Lib.hid (HK3.out.imp (by simp [World.drew]) (fun b hb hl => ⟨W4v.2 b (by have := HS2.out; omega), by have := HS2.out; omega⟩))
  clear W4v HV3 HZ HK3 HI3 HS2 HX
  generalize w3.setRow w.heap.size (rpV D0.r A1 c1) = Y at *
  have hx0 := H4.out.v0
  have hx1 := HI4.out.rows.2.1
  have hg3 := HG3.out
  refine wp_region_held_drew (S := fun W => W.heap[w.heap.size]? = some (.cells (rpV D0.r A1 c1) 41 (0, 0)) ∧ W.cell? ⟨G, 1, none⟩ = some (.int .i64 (D0.a : Nat))) (by kernel_rfl) ⟨hx0, hx1⟩ (fun hHeld => ?_)
  refine wpAnyH_take (i := 0) (v := .agg (rpV D0.r A1 c1)) rfl (by kernel_rfl) (by kernel_rfl) (by kernel_rfl) (fun c a w h => stop_put25 13 (by decide) (by decide) (by decide) c a _ w h) (Or.inl ⟨by rfl, ?_⟩) (by assumption) ?_
  · intro W9 hSw
    obtain ⟨s0, s1⟩ := hSw
    have q0 : W9.cell? ⟨w.heap.size, 0, none⟩ = some (.int .i64 D0.r.kind) := by simp only [World.cell?, s0]; rfl
    have q1 : W9.cell? ⟨w.heap.size, 1, none⟩ = some (.int .i64 D0.r.num) := by simp only [World.cell?, s0]; rfl
    have q2 : W9.cell? ⟨w.heap.size, 2, none⟩ = some (.string D0.r.text) := by simp only [World.cell?, s0]; rfl
    have q3 : W9.cell? ⟨w.heap.size, 3, none⟩ = some (.slice A1 D0.r.kids.length c1) := by simp only [World.cell?, s0]; rfl
    go_simp
    try with_reducible rfl
  try simp only [Act.put, List.setIfInBounds_toArray, List.set_cons_zero, List.set_cons_succ]
  refine wpAnyH_take (i := 1) (v := ?_) rfl (by kernel_rfl) (by kernel_rfl) (by kernel_rfl) (fun c a w h => stop_put25 14 (by decide) (by decide) (by decide) c a _ w h) (Or.inl ⟨by rfl, ?_⟩) (by assumption) ?_
  rotate_left
  · intro W9 hSw
    obtain ⟨s0, s1⟩ := hSw
    have q0 : W9.cell? ⟨w.heap.size, 0, none⟩ = some (.int .i64 D0.r.kind) := by simp only [World.cell?, s0]; rfl
    have q1 : W9.cell? ⟨w.heap.size, 1, none⟩ = some (.int .i64 D0.r.num) := by simp only [World.cell?, s0]; rfl
    have q2 : W9.cell? ⟨w.heap.size, 2, none⟩ = some (.string D0.r.text) := by simp only [World.cell?, s0]; rfl
    have q3 : W9.cell? ⟨w.heap.size, 3, none⟩ = some (.slice A1 D0.r.kids.length c1) := by simp only [World.cell?, s0]; rfl
    go_simp
    try with_reducible rfl
  try simp only [Act.put, List.setIfInBounds_toArray, List.set_cons_zero, List.set_cons_succ]
  refine wpAnyH_take (i := 2) (v := ?_) rfl (by kernel_rfl) (by kernel_rfl) (by kernel_rfl) (fun c a w h => stop_put25 15 (by decide) (by decide) (by decide) c a _ w h) (Or.inl ⟨by rfl, ?_⟩) (by assumption) ?_
  rotate_left
  · intro W9 hSw
    obtain ⟨s0, s1⟩ := hSw
    have q0 : W9.cell? ⟨w.heap.size, 0, none⟩ = some (.int .i64 D0.r.kind) := by simp only [World.cell?, s0]; rfl
    have q1 : W9.cell? ⟨w.heap.size, 1, none⟩ = some (.int .i64 D0.r.num) := by simp only [World.cell?, s0]; rfl
    have q2 : W9.cell? ⟨w.heap.size, 2, none⟩ = some (.string D0.r.text) := by simp only [World.cell?, s0]; rfl
    have q3 : W9.cell? ⟨w.heap.size, 3, none⟩ = some (.slice A1 D0.r.kids.length c1) := by simp only [World.cell?, s0]; rfl
    go_simp
    try with_reducible rfl
  try simp only [Act.put, List.setIfInBounds_toArray, List.set_cons_zero, List.set_cons_succ]
  refine wpAnyH_take (i := 3) (v := ?_) rfl (by kernel_rfl) (by kernel_rfl) (by kernel_rfl) (fun c a w h => stop_put25 16 (by decide) (by decide) (by decide) c a _ w h) (Or.inl ⟨by rfl, ?_⟩) (by assumption) ?_
  rotate_left
  · intro W9 hSw
    obtain ⟨s0, s1⟩ := hSw
    have q0 : W9.cell? ⟨w.heap.size, 0, none⟩ = some (.int .i64 D0.r.kind) := by simp only [World.cell?, s0]; rfl
    have q1 : W9.cell? ⟨w.heap.size, 1, none⟩ = some (.int .i64 D0.r.num) := by simp only [World.cell?, s0]; rfl
    have q2 : W9.cell? ⟨w.heap.size, 2, none⟩ = some (.string D0.r.text) := by simp only [World.cell?, s0]; rfl
    have q3 : W9.cell? ⟨w.heap.size, 3, none⟩ = some (.slice A1 D0.r.kids.length c1) := by simp only [World.cell?, s0]; rfl
    go_simp
    try with_reducible rfl
  try simp only [Act.put, List.setIfInBounds_toArray, List.set_cons_zero, List.set_cons_succ]
  refine wpAnyH_take (i := 4) (v := .int .i64 (D0.a : Nat)) rfl (by kernel_rfl) (by kernel_rfl) (by kernel_rfl) (fun c a w h => stop_put25 17 (by decide) (by decide) (by decide) c a _ w h) (Or.inl ⟨by rfl, ?_⟩) (by assumption) ?_
  · intro W9 hSw
    obtain ⟨s0, s1⟩ := hSw
    have q0 : W9.cell? ⟨w.heap.size, 0, none⟩ = some (.int .i64 D0.r.kind) := by simp only [World.cell?, s0]; rfl
    have q1 : W9.cell? ⟨w.heap.size, 1, none⟩ = some (.int .i64 D0.r.num) := by simp only [World.cell?, s0]; rfl
    have q2 : W9.cell? ⟨w.heap.size, 2, none⟩ = some (.string D0.r.text) := by simp only [World.cell?, s0]; rfl
    have q3 : W9.cell? ⟨w.heap.size, 3, none⟩ = some (.slice A1 D0.r.kids.length c1) := by simp only [World.cell?, s0]; rfl
    go_simp
    try with_reducible rfl
  try simp only [Act.put, List.setIfInBounds_toArray, List.set_cons_zero, List.set_cons_succ]
  refine wpAnyH_ready (rs := [5]) (by kernel_rfl) (by simp) ?_
  refine AllReadyH.cons rfl (fun K hK => ?_) AllReadyH.nil
  have r5 := H4.out.row (rpV D0.r A1 c1) rfl
  have H5 := Lib.hid r5.1
  have hg5 : (World.setRow Y.drew w.heap.size (rpV D0.r A1 c1)).cell? ⟨G, 1, none⟩ = some (.int .i64 (D0.a : Nat)) := (World.cell?_of_block (w := Y.drew) (a := ⟨G, 1, none⟩) (r5.2 G (by omega))).trans hx1
  have HK5 : Hid (RpK (fun b => w.heap.size + 3 ≤ b) (World.setRow Y.drew w.heap.size (rpV D0.r A1 c1)) D0.r A1 c1) := Lib.hid (HK4.out.imp (by simp) (fun b hb hl => ⟨r5.2 b (by omega), hb⟩))
  refine step_store_row rfl 41 (.tmp 2) (.tmp 13) rfl w.heap.size (rpV D0.r A1 c1) rfl rfl 41 (rpV D0.r A1 c1) hx0 size41 rfl (by simp [Value.oneCell']) ?_
  refine hK.out _ _ ⟨H5.out.v0, hg5⟩ (fun hHeld => ?_)
  clear hK K r5
  try simp only [Act.put, List.setIfInBounds_toArray, List.set_cons_zero, List.set_cons_succ]
  generalize World.setRow Y.drew w.heap.size (rpV D0.r A1 c1) = Z at *
  have c1' := cell_one H5.out.v1
  have f1' := fun j => free_row H5.out.v1 j
  have sZ : ∀ (W : World) (a b : Nat) (v : Value), b ≠ a → (W.setCell ⟨a, 0, none⟩ v).heap[b]? = W.heap[b]? := fun W a b v h => Below.heap_setCell W ⟨a, 0, none⟩ v b (by simpa using h)
  have HSO := Lib.hid sZ
  clear sZ
  refine wpAnyH_ready (rs := [6]) (by kernel_rfl) (by simp) ?_
  refine AllReadyH.cons rfl (fun K hK => ?_) AllReadyH.nil
  go_simp
  refine hK.out _ _ ⟨(HSO.out _ _ _ _ (by omega)).trans H5.out.v0, (World.cell?_of_block (w := Z) (a := ⟨G, 1, none⟩) (HSO.out _ _ _ _ (by show G ≠ _; omega))).trans hg5⟩ (fun hHeld => ?_)
  clear hK K c1' f1'
  try simp only [Act.put, List.setIfInBounds_toArray, List.set_cons_zero, List.set_cons_succ]
  have p0 := (HSO.out Z (w.heap.size + 1) w.heap.size (.int .i64 (D0.a : Nat)) (by omega)).trans H5.out.v0
  have p1 := row_set (j := 0) (v := .int .i64 (D0.a : Nat)) H5.out.v1
  have p2 := (HSO.out Z (w.heap.size + 1) (w.heap.size + 2) (.int .i64 (D0.a : Nat)) (by omega)).trans H5.out.v2
  have pb := H5.out.bel.setCell (p := ⟨w.heap.size + 1, 0, none⟩) (by simp) (.int .i64 (D0.a : Nat))
  have HK6 : Hid (RpK (fun b => w.heap.size + 3 ≤ b) (Z.setCell ⟨w.heap.size + 1, 0, none⟩ (.int .i64 (D0.a : Nat))) D0.r A1 c1) := Lib.hid (HK5.out.imp (by simp [World.setCell]) (fun b hb hl => ⟨HSO.out _ _ _ _ (by omega), hb⟩))
  have hg6 : (Z.setCell ⟨w.heap.size + 1, 0, none⟩ (.int .i64 (D0.a : Nat))).cell? ⟨G, 1, none⟩ = some (.int .i64 (D0.a : Nat)) := (World.cell?_of_block (w := Z) (a := ⟨G, 1, none⟩) (HSO.out _ _ _ _ (by show G ≠ _; omega))).trans hg5
  generalize Z.setCell ⟨w.heap.size + 1, 0, none⟩ (.int .i64 (D0.a : Nat)) = V at *
  have c2' := cell_one p2
  have f2' := fun j => free_row p2 j
  refine wpAnyH_ready (rs := [7]) (by kernel_rfl) (by simp) ?_
  refine AllReadyH.cons rfl (fun K hK => ?_) AllReadyH.nil
  go_simp
  refine hK.out _ _ ⟨(HSO.out _ _ _ _ (by omega)).trans p0, (World.cell?_of_block (w := V) (a := ⟨G, 1, none⟩) (HSO.out _ _ _ _ (by show G ≠ _; omega))).trans hg6⟩ (fun hHeld => ?_)
  clear hK K c2' f2'
  try simp only [Act.put, List.setIfInBounds_toArray, List.set_cons_zero, List.set_cons_succ]
  refine wpAnyH_done (by kernel_rfl) ?_ _
  go_wp2_with fail
  exact dec_ret w _ D0 A1 c1 _ rfl rfl rfl ((HSO.out _ _ _ _ (by omega)).trans p0) ((HSO.out _ _ _ _ (by omega)).trans p1) (row_set (j := 0) (v := .int .i64 0) p2) (pb.setCell (p := ⟨w.heap.size + 1 + 1, 0, none⟩) (by simp; omega) (.int .i64 0)) HE.out (HK6.out.imp (by simp [World.setCell]) (fun b hb hl => ⟨HSO.out _ _ _ _ (by omega), by omega⟩))
end Go.Proofs.YtglicojojpggmaaDoor
