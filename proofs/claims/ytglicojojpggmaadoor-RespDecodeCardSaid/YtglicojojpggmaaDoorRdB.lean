/- The document's reader: lists, replies, Decode. -/
import Derived.Test.YtglicojojpggmaaDoorRdA
import Derived.Test.YtglicojojpggmaaDoorDecC
namespace Go.Proofs.YtglicojojpggmaaDoor
open Go Go.RowKit
structure LW (w W : World) (B R G : Nat) (b : ByteArray) (a : Nat) (e tx it : Int) (v : Value) (ps : List Got) : Prop where
  rv : RW w W B G b a e tx it
  rb : W.heap[R]? = some (.cells #[.int .i64 5, .int .i64 0, .string ⟨#[]⟩, v] 41 (0, 0))
  own : W.ownsRow (R + 1) 41 4 v ps.length (rowOf ps)
  kids : e = 0 → ∀ p ∈ ps, RpK (fun b => R + 1 ≤ b ∧ some b ≠ v.ownBlock) W p.r p.A p.c
  br : B < R
section
variable {w W W' : World} {B R G : Nat} {b : ByteArray} {a a' : Nat} {e e' tx it tx' it' : Int} {v : Value} {ps : List Got}
theorem LW.start (h : RW w W B G b a e tx it) : LW w (W.alloc (.cells #[.int .i64 5, .int .i64 0, .string ⟨#[]⟩, .slice none 0 0] 41)) B W.heap.size G b a e tx it (.slice none 0 0) [] := by
  have hb := below_new W (.cells #[.int .i64 5, .int .i64 0, .string ⟨#[]⟩, .slice none 0 0] 41)
  have h2 := lt_of_block h.rv
  exact ⟨h.next (only_below2 hb) (h.ri.below hb), heap_alloc_new W _, World.ownsRow_nil _ _ _ _, (fun _ p hp => by cases hp), h2⟩
/-- Behind a reading. -/
theorem LW.next (h : LW w W B R G b a e tx it v ps) (ho : Only G W W') (hi : RI W' G b a' e' tx' it') (he : e' = 0 → e = 0) : LW w W' B R G b a' e' tx' it' v ps := by
  have h2 := lt_of_block h.rb
  have hg := h.rv.gb
  have hbr := h.br
  refine ⟨h.rv.next ho hi, (ho.block _ h2 (fun e => by injection e; omega)).trans h.rb, h.own.kept ho (.inr (fun e => by have := (h.own.lt _ e).1; omega)), fun h0 p hp => (h.kids (he h0) p hp).imp ho.size (fun b hb hlt => ⟨ho.block b hlt (fun e => by injection e; omega), hb⟩), hbr⟩
theorem LW.drew (h : LW w W B R G b a e tx it v ps) (q : Nat) : LW w (W.drewN q) B R G b a e tx it v ps := h.next (only_drew G W q) (h.rv.ri.drew q) id
theorem LW.rows (h : LW w W B R G b a e tx it v ps) : W.cell? ⟨R, 0, none⟩ = some (.int .i64 5) ∧ W.cell? ⟨R, 1, none⟩ = some (.int .i64 0) ∧ W.cell? ⟨R, 2, none⟩ = some (.string ⟨#[]⟩) ∧ W.cell? ⟨R, 3, none⟩ = some v ∧ ∀ j, W.frozen? ⟨R, j, none⟩ = false := by
  refine ⟨?_, ?_, ?_, ?_, fun j => free_row h.rb j⟩
  all_goals
    simp only [World.cell?, h.rb]
    rfl
/-- A reply that is put behind the others: what stands ahead of the store, and behind it. -/
theorem LW.app (h : LW w W B R G b a e tx it v ps) (p : Got) (v' : Value) (g : Nat) (k : Nat) (hk : ps.length = k) (hp : e = 0 → RpK (fun b => v.ownBlock ≠ some b ∧ R + 1 ≤ b) W p.r p.A p.c)
    (hown : W'.ownsRow (R + 1) 41 4 v' (k + 1) (rowOf ps ++ [.int .i64 p.r.kind, .int .i64 p.r.num, .string p.r.text, .slice p.A p.r.kids.length p.c])) (hgr : (W.alloc (.cells (rpV p.r p.A p.c) 41)).grownBy W' v.ownBlock) (hv : v'.ownBlock = some g) (hat : v.ownBlock = some g ∨ g = W.heap.size + 1) :
    W'.heap[R]? = some (.cells #[.int .i64 5, .int .i64 0, .string ⟨#[]⟩, v] 41 (0, 0)) ∧ LW w (W'.setCell ⟨R, 3, none⟩ v') B R G b a e tx it v' (ps ++ [p]) := by
  have hb := below_new W (.cells (rpV p.r p.A p.c) 41)
  have h2 := lt_of_block h.rb
  have hg := h.rv.gb
  have hbr := h.br
  have hbz := h.rv.bz
  have hlt : ∀ j, v.ownBlock = some j → R + 1 ≤ j ∧ j < W.heap.size := fun j e => h.own.lt j e
  have st : ∀ k, k < W.heap.size → v.ownBlock ≠ some k → W'.heap[k]? = W.heap[k]? := fun k hk hn => (hgr.block k (by simp; omega) (fun e => hn e.symm)).trans (hb.block k hk)
  have sl : ∀ k, k < R + 1 → W'.heap[k]? = W.heap[k]? := fun k hk => st k (by omega) (fun e => by have := (hlt k e).1; omega)
  have hsz : W.heap.size ≤ W'.heap.size := Nat.le_trans hb.size hgr.size
  have hrv : RW w W' B G b a e tx it := ⟨(sl _ (by omega)).trans h.rv.rv, ⟨(sl _ (by omega)).trans h.rv.ri.z, h.rv.ri.pos, h.rv.ri.max⟩, ⟨hgr.os.trans (hb.os.trans h.rv.only.os), hgr.tape.trans (hb.tape.trans h.rv.only.tape), hgr.output.trans (hb.output.trans h.rv.only.output), Nat.le_trans h.rv.only.size hsz, fun k hk hn => (sl k (by have := h.rv.only.size; omega)).trans (h.rv.only.block k hk hn)⟩, hg, hbz⟩
  have hrb := (sl R (by omega)).trans h.rb
  have so : ∀ b, b ≠ R → (W'.setCell ⟨R, 3, none⟩ v').heap[b]? = W'.heap[b]? := fun b hb => Below.heap_setCell W' ⟨R, 3, none⟩ v' b (by simpa using hb)
  have hsz2 : W'.heap.size = (W'.setCell ⟨R, 3, none⟩ v').heap.size := by simp [World.setCell]
  have hg1 : R + 1 ≤ g := (hown.lt g hv).1
  have hRG : R ≠ G := by omega
  have hgz : W.heap.size + 1 ≤ W'.heap.size := by have := hgr.size; simp at this; exact this
  refine ⟨hrb, ⟨⟨(so _ (by omega)).trans hrv.rv, ⟨(so _ (by omega)).trans hrv.ri.z, h.rv.ri.pos, h.rv.ri.max⟩, ?_, hg, hbz⟩, row_set hrb, ?_, ?_, hbr⟩⟩
  · exact ⟨hrv.only.os, hrv.only.tape, hrv.only.output, by have := hrv.only.size; omega, fun k hk hn => (so k (by omega)).trans (hrv.only.block k hk hn)⟩
  · rw [List.length_append, hk, rowOf_app]
    exact ownsRow_setCell_other hown (a := ⟨R, 3, none⟩) (fun e => absurd (hown.lt R e).1 (by omega)) v'
  · intro h0 q hq
    rcases List.mem_append.1 hq with hq | hq
    · refine (h.kids h0 q hq).imp (by omega) (fun b hb hl => ⟨(so b (by omega)).trans (st b hl (fun e => hb.2 e.symm)), hb.1, ?_⟩)
      rw [hv]
      intro e
      have e2 : b = g := by simpa using e
      subst e2
      rcases hat with h1 | h1
      · exact hb.2 h1.symm
      · omega
    · have : q = p := by simpa using hq
      subst this
      refine (hp h0).imp (by omega) (fun b hb hl => ⟨(so b (by omega)).trans (st b hl hb.1), hb.2, ?_⟩)
      rw [hv]
      intro e
      have e2 : b = g := by simpa using e
      subst e2
      rcases hat with h1 | h1
      · exact hb.1 h1
      · omega
theorem row3v (h : W.heap[R]? = some (.cells #[.int .i64 5, .int .i64 0, .string ⟨#[]⟩, v] 41 (0, 0))) : W.cell? ⟨R, 3, none⟩ = some v := by simp only [World.cell?, h]; rfl
/-- The list, as it is read. -/
theorem LW.form (h : LW w W B R G b a e tx it v ps) : ∃ A' c', v = .slice A' ps.length c' ∧ ps.length ≤ c' ∧ (A' = none → c' = 0) ∧ (e = 0 → RpL (fun b => R + 1 ≤ b) W (ps.map Got.r) A') := by
  have hbz := h.rv.bz
  have hbr := h.br
  have hl := h.own.1
  have hlt := h.own.lt
  rcases h.own.2 with ⟨hv, h0⟩ | ⟨g, cap, cur, hv, hg, hh, hn, hm, _⟩
  · have : ps = [] := List.eq_nil_of_length_eq_zero h0
    subst this
    exact ⟨none, 0, hv, Nat.le_refl _, fun _ => rfl, fun _ => by rw [List.map_nil, RpL]; trivial⟩
  · refine ⟨_, cap, hv, hn, (fun e => by cases e), fun h0 => ?_⟩
    have hcells := fun j u hu => h.own.cells (g := g) (by rw [hv]; rfl) j u hu
    refine row_RpL (hlt g (by rw [hv]; rfl)).2 (by omega) ps 0 (fun j u hu => ?_) (fun p hp => (h.kids h0 p hp).imp (Nat.le_refl _) (fun b hb _ => ⟨rfl, by omega⟩))
    have := hcells j u hu
    rw [add0] at this
    rw [Nat.zero_add]
    exact this
end
end Go.Proofs.YtglicojojpggmaaDoor
namespace Go.Proofs.YtglicojojpggmaaDoor
open Go Go.RowKit
/-- What the contract of the document's reading says. -/
def RRepC (rep : List UInt8 → Nat → Nat → Nat → DR) (d : Int) : Prop := ∀ (G : Nat) (b : ByteArray) (a tx it : Nat) (w : World), RI w G b a 0 (tx : Nat) (it : Nat) → tx ≤ 1000000000 → it ≤ 1000000000 → b.size ≤ 1000000000 →
  Calls Tryd.prog 58 #[.pointer (some ⟨G, 0, none⟩), .int .i64 d] w (RRepQ w G b (rep (bl b) a tx it))
section
variable {w : World} {G : Nat} {b : ByteArray}
set_option maxRecDepth 100000 in
set_option maxHeartbeats 8000000 in
theorem rlist_any (rep : List UInt8 → Nat → Nat → Nat → DR) (hle : LeR rep) (d : Int) (hd0 : 1 ≤ d) (hd1 : d ≤ 1000) (IH : RRepC rep (d - 1)) (w : World) (a tx it : Nat) (h : RI w G b a 0 (tx : Nat) (it : Nat)) (htx : tx ≤ 1000000000) (hit : it ≤ 1000000000) (hb : b.size ≤ 1000000000) :
    Calls Tryd.prog 79 #[.pointer (some ⟨G, 0, none⟩), .int .i64 d] w (RRepQ w G b (listS rep (bl b) a tx it)) := by
  obtain ⟨i0, hi, hz0, hz1, hz2⟩ := info_parts rep_info
  have HRW := Lib.hid (RW.new h)
  have HIH := Lib.hid IH
  have HLEE := Lib.hid hle
  obtain ⟨D, hD⟩ : ∃ D, listS rep (bl b) a tx it = D := ⟨_, rfl⟩
  rw [hD]
  unfold listS at hD
  have HD := Lib.hid hD.symm
  have e1 : (d == 0) = false := by simp; omega
  have e2 : decide (d = 0) = false := decide_eq_false (by omega)
  have hwd : IntKind.i64.wrap (d - 1) = d - 1 := IntWalk.i64_in _ (by omega)
  clear hD h IH hle
  go_enter Tryd.func79, Tryd.ntmps79
  go_upto_region 1 with (fail)
  generalize w.alloc (.cells zero41 41) = W at *
  generalize hB : w.heap.size = B at *
  have HB := Lib.hid hB
  clear hB
  have HL0 := Lib.hid (LW.start HRW.out)
  generalize hR : W.heap.size = R at HL0
  have HRS0 := Lib.hid hR
  clear hR HRW
  obtain ⟨z0, z1, z2, z3, z4, zf⟩ := HL0.out.rv.ri.rows
  have H1 := Lib.hid (rlen_any _ a it HL0.out.rv.ri (by omega))
  have hcv : IntKind.u64.wrap (it : Int) = (it : Int) := by rw [IntKind.wrap_u64]; omega
  go_wp2_with fail
  clear e1 e2
  rw [HRS0.out]
  generalize W.alloc (.cells #[.int .i64 5, .int .i64 0, .string ⟨#[]⟩, .slice none 0 0] 41) = W1 at *
  clear HRS0
  refine H1.out.mono ?_
  rintro e w3 ⟨⟨m, a0, rfl, hm, hr3, hres⟩, ho3⟩
  rw [lenE_eq] at hr3 hres
  have HL3 := Lib.hid (HL0.out.next ho3 hr3 (fun _ => rfl))
  have HRS := Lib.hid hres
  have hcw : IntKind.i64.wrap (m : Int) = (m : Int) := IntWalk.i64_in _ (by omega)
  clear hr3 ho3 hres H1 z0 z1 z2 z3 z4 zf hcv HL0
  obtain ⟨z0, z1, z2, z3, z4, zf⟩ := HL3.out.rv.ri.rows
  have hv1 := HL3.out.next (only_set G 4 w3 (.int .i64 ((it : Int) - (m : Int)))) (HL3.out.rv.ri.its _) id
  rw [show ((it : Int) - (m : Int)) = ((it - m : Nat) : Int) by omega] at hv1
  have HL4 := Lib.hid hv1
  have hw1 : IntKind.i64.wrap ((it : Int) - (m : Int)) = ((it - m : Nat) : Int) := by rw [IntWalk.i64_in _ (by omega)]; omega
  have hw2 : (it : Int) - (m : Int) = ((it - m : Nat) : Int) := by omega
  clear hv1
  go_wp2_with fail
  clear hw1 hw2 z0 z1 z2 z3 z4 zf HL3 hcw
  generalize w3.setCell ⟨G, 4, none⟩ (.int .i64 ((it - m : Nat) : Int)) = w4 at *
  obtain ⟨RR, hRR⟩ : ∃ RR, itemsS rep m (bl b) a0 tx (it - m) [] = RR := ⟨_, rfl⟩
  obtain ⟨E0, hE0⟩ : ∃ E0, lenE it (bl b) a = E0 := ⟨_, rfl⟩
  rw [hE0] at HL4 HRS
  have hdb : E0 ≠ 0 → D.e = E0 := fun h1 => by rw [HD.out, hE0, if_pos h1]; rfl
  have hdg : E0 = 0 → D = if RR.1 ≠ 0 then .bad RR.1 else ⟨0, .mk 5 0 noT RR.2.1, RR.2.2.1, RR.2.2.2.1, RR.2.2.2.2⟩ := fun h1 => by
    obtain ⟨g1, g2⟩ := HRS.out h1
    rw [HD.out, hE0, if_neg (by simpa using h1), ← hRR, g1, g2]
  have HDB := Lib.hid hdb
  have HDG := Lib.hid hdg
  have HRR := Lib.hid hRR
  clear hdb hdg hRR hE0 HRS HD
  go_loopw [7] (fun i wr => ∃ (k : Nat) (v : Value) (ps : List Got) (a1 : Nat) (e t u : Int), k ≤ m ∧ i = .int .i64 k ∧ Hid (LW w wr B R G b a1 e t u v ps) ∧ Hid (ps.length = k) ∧ Hid (e = 0 → E0 = 0 ∧ ∃ tx1 it1 : Nat, t = (tx1 : Nat) ∧ u = (it1 : Nat) ∧ itemsS rep (m - k) (bl b) a1 tx1 it1 (ps.map Got.r) = RR ∧ tx1 ≤ 1000000000 ∧ it1 ≤ 1000000000) ∧ Hid (e ≠ 0 → D.e = e)) (fun i _ => m - (intOf i).toNat)
  case atStart => exact ⟨0, _, [], a0, E0, _, _, Nat.zero_le _, rfl, HL4, rfl, Lib.hid (fun h0 => ⟨h0, tx, it - m, rfl, rfl, HRR.out, htx, by omega⟩), HDB⟩
  case round =>
    clear HL4 HRR
    obtain ⟨k, v, ps, a1, e, t, u, hk, rfl, HL, HLS, HIT, HBD⟩ := hrel
    obtain ⟨z0, z1, z2, z3, z4, zf⟩ := HL.out.rv.ri.rows
    by_cases hlt : k < m
    · by_cases he : e = 0
      · obtain ⟨g0, tx1, it1, rfl, rfl, hit1, htx1, hitb⟩ := HIT.out he
        rw [show m - k = (m - (k + 1)) + 1 by omega, itemsS] at hit1
        have HI2 := Lib.hid hit1
        have HC := Lib.hid (HIH.out G b a1 tx1 it1 wr (he ▸ HL.out.rv.ri) htx1 hitb hb)
        have HLE1 := Lib.hid (HLEE.out (bl b) a1 tx1 it1)
        have HE0 := Lib.hid he
        have e3 : (e == 0) = true := by simpa using he
        have e4 : decide (e = 0) = true := decide_eq_true he
        have hltz : (k : Int) < (m : Int) := by omega
        have HG0 := Lib.hid g0
        clear hit1 HIT he g0
        generalize rep (bl b) a1 tx1 it1 = D1 at *
        go_wp2_with fail
        refine HC.out.mono ?_
        rintro en w5 ⟨⟨p, rfl, hp5, a', t', u', hr5, hc5⟩, ho5⟩
        have HL5 := Lib.hid (HL.out.next ho5 hr5 (fun _ => HE0.out))
        have HP5 := Lib.hid hp5
        have HC5 := Lib.hid hc5
        clear hr5 ho5 hp5 hc5
        go_upto_region 10 with (fail)
        clear HC z0 z1 z2 z3 z4 zf
        have HL6 := Lib.hid (HL5.out.next (only_below2 (below_new w5 (.cells (rpV p.r p.A p.c) 41))) (HL5.out.rv.ri.below (below_new w5 _)) id)
        have hx := heap_alloc_new w5 (.cells (rpV p.r p.A p.c) 41)
        have HX := Lib.hid hx
        have HK6 : Hid (D1.e = 0 → RpK (fun b => v.ownBlock ≠ some b ∧ R + 1 ≤ b) (w5.alloc (.cells (rpV p.r p.A p.c) 41)) p.r p.A p.c) := Lib.hid (fun h0 => (HP5.out h0).2.imp (below_new w5 _).size (fun b hb hl => ⟨(below_new w5 _).block b hl, fun e => by have := (HL.out.own.lt b e).2; omega, by have := lt_of_block HL.out.rb; omega⟩))
        clear hx
        generalize w5.alloc (.cells (rpV p.r p.A p.c) 41) = w6 at *
        generalize w5.heap.size = X at *
        have x0 : w6.cell? ⟨X, 0, none⟩ = some (.int .i64 p.r.kind) := by simp only [World.cell?, HX.out]; rfl
        have x1 : w6.cell? ⟨X, 1, none⟩ = some (.int .i64 p.r.num) := by simp only [World.cell?, HX.out]; rfl
        have x2 : w6.cell? ⟨X, 2, none⟩ = some (.string p.r.text) := by simp only [World.cell?, HX.out]; rfl
        have x3 : w6.cell? ⟨X, 3, none⟩ = some (.slice p.A p.r.kids.length p.c) := by simp only [World.cell?, HX.out]; rfl
        obtain ⟨q0, q1, q2, q3, qf⟩ := HL6.out.rows
        go_wp2_with (at_builtin; refine wpList_append_lies _ rfl (.tmp 48) (.tmp 50) 39 rfl (R + 1) 41 i0 (.agg zero41) 4 56 Tryd.underlying39 hi hz0 hz1 hz2 rfl (by omega) v k (rowOf ps) rfl (HLS.out ▸ ownR_below HL6.out.own (below_new w6 _)) ⟨w6.heap.size, 0, none⟩ 1 1 [.int .i64 p.r.kind, .int .i64 p.r.num, .string p.r.text, .slice p.A p.r.kids.length p.c] rfl rfl (World.news_of_block (cs := rpV p.r p.A p.c) (t := 41) (fr := (0, 0)) (heap_alloc_new w6 _)) (by simp [Value.oneCell']) (by omega) (by simp only [maxLen]; omega) (by omega) (by have := lt_of_block HL6.out.rb; simp; omega) (w6.heap.size + 1) (by simp) ?_; intro g1 c6 w7 hown7 hgr7 hat hlt7; have HA7 := Lib.hid (HL6.out.app p _ g1 k HLS.out HK6.out hown7 hgr7 rfl hat); have hrb7 := HA7.out.1; have hc7 := row3v hrb7; have hf7 : ∀ j, w7.frozen? ⟨R, j, none⟩ = false := fun j => free_row hrb7 j; clear hown7 hgr7 hat hlt7 hrb7)
        go_roundw
        case rel => 
          refine ⟨k + 1, _, ps ++ [p], a', D1.e, t', u', by omega, by go_num, Lib.hid HA7.out.2, by show _ = _; rw [List.length_append, HLS.out]; rfl, Lib.hid (fun h0 => ?_), Lib.hid (fun h0 => ?_)⟩
          · obtain ⟨c1, c2, c3⟩ := HC5.out h0
            have h2 := HI2.out
            rw [if_neg (by simpa using h0), ← c1] at h2
            refine ⟨HG0.out, D1.tx, D1.it, c2, c3, by rw [List.map_append]; show itemsS _ _ _ _ _ _ (_ ++ [p.r]) = _; rw [(HP5.out h0).1]; exact h2, by have := HLE1.out; omega, by have := HLE1.out; omega⟩
          · have h2 := HI2.out
            rw [if_pos h0] at h2
            rw [HDG.out HG0.out, ← h2, if_pos h0]
            rfl
        case measure => simp [intOf]; omega
      · have HDE : Hid (D.e = e) := Lib.hid (HBD.out he)
        have HDD : Hid (e = 0 → ∃ tx1 it1 : Nat, t = (tx1 : Nat) ∧ u = (it1 : Nat) ∧ D = ⟨0, .mk 5 0 noT (ps.map Got.r), a1, tx1, it1⟩) := Lib.hid (fun h0 => absurd h0 he)
        have e3 : (e == 0) = false := by simpa using he
        have e4 : decide (e = 0) = false := decide_eq_false he
        have hltz : (k : Int) < (m : Int) := by omega
        clear HIT HBD
        obtain ⟨A8, c8, rfl, hc8, hn8, hl8⟩ := HL.out.form
        have HK8 := Lib.hid hl8
        have HC8 : Hid ((ps.map Got.r).length ≤ c8) := Lib.hid (by rw [List.length_map]; exact hc8)
        have HN8 := Lib.hid hn8
        have HF8 : Hid (Fits (.mk 5 0 noT (ps.map Got.r))) := Lib.hid ⟨by show _ ≤ (0 : Int); decide, by show (0 : Int) ≤ _; decide, by show _ ≤ (5 : Int); decide, by show (5 : Int) ≤ _; decide, by show (0 : Nat) ≤ _; omega, by show (ps.map Got.r).length ≤ _; rw [List.length_map, HLS.out]; omega⟩
        obtain ⟨q0, q1, q2, q3, qf⟩ := HL.out.rows
        have HZ := Lib.hid HL.out.rv.rv
        have HLN : Hid (ps.length = (ps.map Got.r).length) := Lib.hid (List.length_map _).symm
        clear hc8 hn8 hl8
        go_wp2_with (refine wpList_store_row rfl 41 (.tmp 4) (.tmp 53) rfl B #[.int .i64 5, .int .i64 0, .string ⟨#[]⟩, .slice A8 ps.length c8] rfl rfl 41 zero41 HZ.out size41 rfl (by simp [Value.oneCell']) ?_)
        have hr := HL.out.rv.ret #[.int .i64 5, .int .i64 0, .string ⟨#[]⟩, .slice A8 ps.length c8]
        refine bodyPost_ret (v := .agg #[.int .i64 5, .int .i64 0, .string ⟨#[]⟩, .slice A8 ps.length c8]) (res79 _ _ B _ rfl hr.1) rfl ⟨⟨⟨.mk 5 0 noT (ps.map Got.r), A8, c8⟩, by rw [HLN.out]; rfl, fun h0 => ?_, a1, t, u, by rw [HDE.out]; exact hr.2.1, fun h0 => ?_⟩, hr.2.2⟩
        · rw [HDE.out] at h0
          obtain ⟨tx1, it1, ht, hu, hD⟩ := HDD.out h0
          have hb1 : B = w.heap.size := HB.out.symm
          have hb2 := HL.out.br
          exact ⟨by rw [hD], HF8.out, HN8.out, HC8.out, RpL.imp (by simp) (fun b hb hl => ⟨setRow_other _ _ _ _ (by omega), by omega⟩) _ _ (HK8.out h0)⟩
        · rw [HDE.out] at h0
          obtain ⟨tx1, it1, ht, hu, hD⟩ := HDD.out h0
          rw [hD]
          exact ⟨rfl, ht, hu⟩
    · obtain rfl : k = m := by omega
      have hd8 : e = 0 → ∃ tx1 it1 : Nat, t = (tx1 : Nat) ∧ u = (it1 : Nat) ∧ D = ⟨0, .mk 5 0 noT (ps.map Got.r), a1, tx1, it1⟩ := fun h0 => by
        obtain ⟨g0, tx1, it1, h1, h2, h3, h4, h5⟩ := HIT.out h0
        rw [Nat.sub_self] at h3
        have h6 : RR = (0, ps.map Got.r, a1, tx1, it1) := h3.symm
        refine ⟨tx1, it1, h1, h2, ?_⟩
        rw [HDG.out g0, h6, if_neg (by simp)]
      have HDD := Lib.hid hd8
      have HDE : Hid (D.e = e) := Lib.hid (by
        by_cases h0 : e = 0
        · obtain ⟨tx1, it1, _, _, hD⟩ := HDD.out h0
          rw [hD, h0]
        · exact HBD.out h0)
      clear HIT HBD hd8
      obtain ⟨A8, c8, rfl, hc8, hn8, hl8⟩ := HL.out.form
      have HK8 := Lib.hid hl8
      have HC8 : Hid ((ps.map Got.r).length ≤ c8) := Lib.hid (by rw [List.length_map]; exact hc8)
      have HN8 := Lib.hid hn8
      have HF8 : Hid (Fits (.mk 5 0 noT (ps.map Got.r))) := Lib.hid ⟨by show _ ≤ (0 : Int); decide, by show (0 : Int) ≤ _; decide, by show _ ≤ (5 : Int); decide, by show (5 : Int) ≤ _; decide, by show (0 : Nat) ≤ _; omega, by show (ps.map Got.r).length ≤ _; rw [List.length_map, HLS.out]; omega⟩
      obtain ⟨q0, q1, q2, q3, qf⟩ := HL.out.rows
      have HZ := Lib.hid HL.out.rv.rv
      have HLN : Hid (ps.length = (ps.map Got.r).length) := Lib.hid (List.length_map _).symm
      clear hc8 hn8 hl8
      go_wp2_with (refine wpList_store_row rfl 41 (.tmp 4) (.tmp 53) rfl B #[.int .i64 5, .int .i64 0, .string ⟨#[]⟩, .slice A8 ps.length c8] rfl rfl 41 zero41 HZ.out size41 rfl (by simp [Value.oneCell']) ?_)
      have hr := HL.out.rv.ret #[.int .i64 5, .int .i64 0, .string ⟨#[]⟩, .slice A8 ps.length c8]
      refine bodyPost_ret (v := .agg #[.int .i64 5, .int .i64 0, .string ⟨#[]⟩, .slice A8 ps.length c8]) (res79 _ _ B _ rfl hr.1) rfl ⟨⟨⟨.mk 5 0 noT (ps.map Got.r), A8, c8⟩, by rw [HLN.out]; rfl, fun h0 => ?_, a1, t, u, by rw [HDE.out]; exact hr.2.1, fun h0 => ?_⟩, hr.2.2⟩
      · rw [HDE.out] at h0
        obtain ⟨tx1, it1, ht, hu, hD⟩ := HDD.out h0
        have hb1 : B = w.heap.size := HB.out.symm
        have hb2 := HL.out.br
        exact ⟨by rw [hD], HF8.out, HN8.out, HC8.out, RpL.imp (by simp) (fun b hb hl => ⟨setRow_other _ _ _ _ (by omega), by omega⟩) _ _ (HK8.out h0)⟩
      · rw [HDE.out] at h0
        obtain ⟨tx1, it1, ht, hu, hD⟩ := HDD.out h0
        rw [hD]
        exact ⟨rfl, ht, hu⟩
set_option maxRecDepth 100000 in
set_option maxHeartbeats 8000000 in
/-- No list may be opened. -/
theorem rlist_none (w : World) (a tx it : Nat) (h : RI w G b a 0 (tx : Nat) (it : Nat)) (hit : it ≤ 1000000000) :
    Calls Tryd.prog 79 #[.pointer (some ⟨G, 0, none⟩), .int .i64 0] w (RRepQ w G b (.bad 131)) := by
  have HRW := Lib.hid (RW.new h)
  clear h
  go_enter Tryd.func79, Tryd.ntmps79
  go_upto_region 1 with (fail)
  generalize w.alloc (.cells zero41 41) = W at *
  generalize hB : w.heap.size = B at *
  have HB := Lib.hid hB
  clear hB
  have HL0 := Lib.hid (LW.start HRW.out)
  generalize hR : W.heap.size = R at HL0
  have HRS0 := Lib.hid hR
  clear hR HRW
  have HF := Lib.hid (fail_yes _ 131 HL0.out.rv.ri rfl)
  have HL1 := Lib.hid (HL0.out.next (only_set G 2 _ (.int .i64 131)) (HL0.out.rv.ri.wr 131) (fun h => by cases h))
  go_wp2_with fail
  rw [HRS0.out]
  generalize W.alloc (.cells #[.int .i64 5, .int .i64 0, .string ⟨#[]⟩, .slice none 0 0] 41) = W1 at *
  clear HRS0
  refine HF.out.mono ?_
  rintro en w2 ⟨rfl, rfl⟩
  clear HF HL0
  generalize W1.setCell ⟨G, 2, none⟩ (.int .i64 131) = w3 at *
  obtain ⟨z0, z1, z2, z3, z4, zf⟩ := HL1.out.rv.ri.rows
  have hcv : IntKind.u64.wrap (it : Int) = (it : Int) := by rw [IntKind.wrap_u64]; omega
  have H1 := Lib.hid (rdigits_stop w3 0 0 0 it HL1.out.rv.ri (by decide))
  have hv1 := HL1.out.next (only_set G 4 w3 (.int .i64 ((it : Nat) : Int))) (HL1.out.rv.ri.its _) id
  have HL4 := Lib.hid hv1
  have hw1 : IntKind.i64.wrap (it : Int) = (it : Int) := IntWalk.i64_in _ (by omega)
  clear hv1
  go_wp2_with fail
  refine H1.out.mono ?_
  rintro en w4 ⟨rfl, rfl⟩
  clear H1
  go_wp2_with fail
  clear hw1 hcv z0 z1 z2 z3 z4 zf HL1
  generalize w4.setCell ⟨G, 4, none⟩ (.int .i64 (it : Nat)) = w5 at *

  obtain ⟨q0, q1, q2, q3, qf⟩ := HL4.out.rows
  have HZ := Lib.hid HL4.out.rv.rv
  go_loopw [7] (fun i wr => wr = w5 ∧ i = .int .i64 0) (fun i _ => 0)
  case atStart => exact ⟨rfl, rfl⟩
  case round =>
    obtain ⟨rfl, rfl⟩ := hrel
    go_wp2_with (refine wpList_store_row rfl 41 (.tmp 4) (.tmp 53) rfl B #[.int .i64 5, .int .i64 0, .string ⟨#[]⟩, .slice none 0 0] rfl rfl 41 zero41 HZ.out size41 rfl (by simp [Value.oneCell']) ?_)
    have hr := HL4.out.rv.ret #[.int .i64 5, .int .i64 0, .string ⟨#[]⟩, .slice none 0 0]
    exact bodyPost_ret (v := .agg #[.int .i64 5, .int .i64 0, .string ⟨#[]⟩, .slice none 0 0]) (res79 _ _ B _ rfl hr.1) rfl (RRepQ.no (D := .bad 131) ⟨.mk 5 0 noT [], none, 0⟩ (by show (131 : Int) ≠ 0; decide) rfl ⟨_, _, _, hr.2.1⟩ hr.2.2)
end
end Go.Proofs.YtglicojojpggmaaDoor
namespace Go.Proofs.YtglicojojpggmaaDoor
open Go Go.RowKit
section
variable {G : Nat} {b : ByteArray} {a : Nat}
set_option maxRecDepth 100000 in
set_option maxHeartbeats 8000000 in
theorem rrep_list (w : World) (D : DR) (d : Int) (tx it : Nat) (HLC : ∀ W, RI W G b (a + 1) 0 (tx : Nat) (it : Nat) → Calls Tryd.prog 79 #[.pointer (some ⟨G, 0, none⟩), .int .i64 d] W (RRepQ W G b D)) (h : RI w G b a 0 (tx : Nat) (it : Nat)) (ha : a < (bl b).length) (hx : (bl b)[a].toNat = 42) :
    Calls Tryd.prog 58 #[.pointer (some ⟨G, 0, none⟩), .int .i64 d] w (RRepQ w G b D) := by
  have HRW := Lib.hid (RW.new h)
  have HLC := Lib.hid HLC
  have HP : Hid (∀ W, RI W G b a 0 (tx : Nat) (it : Nat) → Calls Tryd.prog 67 #[.pointer (some ⟨G, 0, none⟩)] W fun e w' => e = .returned (.int .u8 42) ∧ RI w' G b (a + 1) 0 (tx : Nat) (it : Nat) ∧ Only G W w') := Lib.hid (fun W hW => by have := next_yes W hW ha; rw [hx] at this; exact this)
  have hpos := h.pos
  have hln := bl_len b
  clear hx h
  go_enter Tryd.func58, Tryd.ntmps58
  go_upto_region 1 with (fail)
  generalize w.alloc (.cells zero41 41) = W at *
  generalize hB : w.heap.size = B at *
  have HB := Lib.hid hB
  clear hB
  have HPW := Lib.hid (HP.out W HRW.out.ri)
  go_wp2_with fail
  refine HPW.out.mono ?_
  rintro e w1 ⟨rfl, hr1, ho1⟩
  have HV1 := Lib.hid (HRW.out.next ho1 hr1)
  clear hr1 ho1 HPW HP HRW
  obtain ⟨z0, z1, z2, z3, z4, zf⟩ := HV1.out.ri.rows
  have HL := Lib.hid (HLC.out w1 HV1.out.ri)
  clear HLC
  go_wp2_with fail
  refine HL.out.mono ?_
  rintro en w3 ⟨⟨p, rfl, hp, a', t, i, hr3, hres⟩, ho3⟩
  have HV3 := Lib.hid (HV1.out.next ho3 hr3)
  have HRS := Lib.hid hres
  have HP3 := Lib.hid hp
  have HZ := Lib.hid HV3.out.rv
  have hsz := lt_of_block HV1.out.rv
  have HBZ := Lib.hid HV1.out.bz
  clear hr3 ho3 hres HL z0 z1 z2 z3 z4 zf HV1 hp
  go_wp2_with (refine wpList_store_row rfl 41 (.tmp 4) (.tmp 85) rfl B (rpV p.r p.A p.c) rfl rfl 41 zero41 HZ.out size41 rfl (by simp [Value.oneCell']) ?_)
  have hr := HV3.out.ret (rpV p.r p.A p.c)
  exact bodyPost_ret (v := .agg (rpV p.r p.A p.c)) (res58 _ _ B _ rfl hr.1) rfl ⟨⟨p, rfl, fun h0 => ⟨(HP3.out h0).1, (HP3.out h0).2.imp (by simp) (fun b hb hl => ⟨setRow_other _ _ _ _ (by omega), by have := HBZ.out; omega⟩)⟩, a', t, i, hr.2.1, HRS.out⟩, hr.2.2⟩
end
/-- What stands behind a list's sign, or that none may. -/
def lstD (lst : Option (List UInt8 → Nat → Nat → Nat → DR)) (l : List UInt8) (a tx it : Nat) : DR := match lst with
  | none => .bad 131
  | some f => f l a tx it
theorem rrep_all (lst : Option (List UInt8 → Nat → Nat → Nat → DR)) (d : Int) (hl : ∀ (G : Nat) (b : ByteArray) (a tx it : Nat) (w : World), RI w G b a 0 (tx : Nat) (it : Nat) → tx ≤ 1000000000 → it ≤ 1000000000 → b.size ≤ 1000000000 → Calls Tryd.prog 79 #[.pointer (some ⟨G, 0, none⟩), .int .i64 d] w (RRepQ w G b (lstD lst (bl b) a tx it))) : RRepC (repS lst) d := by
  intro G b a tx it w h htx hit hb
  by_cases ha : a < (bl b).length
  rotate_left
  · exact rrep_none w lst d tx it h ha
  by_cases h1 : (bl b)[a].toNat = 43
  · exact rrep_plus w lst d tx it h htx hb ha h1
  by_cases h2 : (bl b)[a].toNat = 45
  · exact rrep_minus w lst d tx it h htx hb ha h2
  by_cases h3 : (bl b)[a].toNat = 58
  · exact rrep_num w lst d tx it h htx hb ha h3
  by_cases h4 : (bl b)[a].toNat = 36
  · by_cases hm : (bl b)[a + 1]? = some 45
    · exact rrep_nil w lst d tx it h htx hb ha h4 hm
    · by_cases hi : a + 1 < b.size
      · exact rrep_blk w lst d tx it h htx hb ha h4 hm hi
      · exact rrep_blk0 w lst d tx it h htx hb ha h4 hm hi
  by_cases h5 : (bl b)[a].toNat = 42
  · have e : repS lst (bl b) a tx it = lstD lst (bl b) (a + 1) tx it := by
      unfold repS
      rw [List.getElem?_eq_getElem ha]
      simp only
      rw [if_neg h1, if_neg h2, if_neg h3, if_neg h4, if_pos h5]
      cases lst <;> rfl
    rw [e]
    exact rrep_list w _ d tx it (fun W hW => hl G b (a + 1) tx it W hW htx hit hb) h ha h5
  exact rrep_bad w lst d tx it h htx hb ha ⟨h1, h2, h3, h4, h5⟩
theorem rrepF_all : ∀ (d : Nat), d ≤ 100 → RRepC (repF d) (d : Int)
  | 0, _ => rrep_all none _ (fun G b a tx it w h htx hit hb => rlist_none w a tx it h hit)
  | d + 1, hd => rrep_all (some (listS (repF d))) _ (fun G b a tx it w h htx hit hb => rlist_any (repF d) (repF_le d) _ (by omega) (by omega) (by
      have := rrepF_all d (by omega)
      rw [show ((d + 1 : Nat) : Int) - 1 = (d : Int) by omega]
      exact this) w a tx it h htx hit hb)
end Go.Proofs.YtglicojojpggmaaDoor
namespace Go.Proofs.YtglicojojpggmaaDoor
open Go Go.RowKit
theorem res26 (tmps : Array Value) (g : Nat) (cs : Array Value) (y z : Value) (W : World) (t2 : tmps.getD 2 undef = .pointer (some ⟨g, 0, none⟩)) (t3 : tmps.getD 3 undef = y) (t4 : tmps.getD 4 undef = z)
    (v0 v1 v2 v3 : Value) (hcs : cs = #[v0, v1, v2, v3]) (c0 : W.heap[g]? = some (.cells cs 41 (0, 0))) : (results Tryd.f26 tmps).run Tryd.prog W = .ok (.tuple #[.agg cs, y, z]) W := by
  subst hcs
  have q0 : W.cell? ⟨g, 0, none⟩ = some v0 := by simp only [World.cell?, c0]; rfl
  have q1 : W.cell? ⟨g, 1, none⟩ = some v1 := by simp only [World.cell?, c0]; rfl
  have q2 : W.cell? ⟨g, 2, none⟩ = some v2 := by simp only [World.cell?, c0]; rfl
  have q3 : W.cell? ⟨g, 3, none⟩ = some v3 := by simp only [World.cell?, c0]; rfl
  simp only [Array.getD_eq_getD_getElem?] at t2 t3 t4
  simp [results, Tryd.results26, t2, t3, t4, q0, q1, q2, q3, go_sem]
set_option maxRecDepth 100000 in
set_option maxHeartbeats 8000000 in
theorem rdecode_any (b : ByteArray) (w : World) (hm : b.size ≤ 1000000000) : Calls Tryd.prog 26 #[.string b] w (DecEnd w (decR (bl b))) := by
  obtain ⟨D0, hD0⟩ : ∃ D0, decR (bl b) = D0 := ⟨_, rfl⟩
  rw [hD0]
  unfold decR at hD0
  have HD0 := Lib.hid hD0.symm
  clear hD0
  have hb0 := below_new w (.cells zero41 41)
  have hb1 := below_new (w.alloc (.cells zero41 41)) (.cells #[.string b, .int .i64 0, .int .i64 0, .int .i64 1048576, .int .i64 65536] 89)
  have hs0 : (w.alloc (.cells zero41 41)).heap.size = w.heap.size + 1 := by simp
  have HZ0 := Lib.hid ((hb1.block w.heap.size (by omega)).trans (heap_alloc_new w (.cells zero41 41)))
  have HI0 : Hid (RI ((w.alloc (.cells zero41 41)).alloc (.cells #[.string b, .int .i64 0, .int .i64 0, .int .i64 1048576, .int .i64 65536] 89)) (w.heap.size + 1) b 0 0 ((1048576 : Nat) : Int) ((65536 : Nat) : Int)) := Lib.hid ⟨by rw [← hs0]; exact heap_alloc_new _ _, Nat.zero_le _, by omega⟩
  have HB0 := Lib.hid (hb0.trans (hb1.mono (by omega)))
  go_enter Tryd.func26, Tryd.ntmps26
  go_upto_region 2 with (fail)
  clear hb0 hb1 hs0
  generalize (w.alloc (.cells zero41 41)).alloc (.cells #[.string b, .int .i64 0, .int .i64 0, .int .i64 1048576, .int .i64 65536] 89) = W at *
  have HR := Lib.hid (rrepF_all 100 (by decide) _ b 0 1048576 65536 W HI0.out (by decide) (by decide) hm)
  rw [show ((100 : Nat) : Int) = 100 from rfl] at HR
  generalize repF 100 (bl b) 0 1048576 65536 = D at *
  go_wp2_with fail
  refine HR.out.mono ?_
  rintro en w2 ⟨⟨p, rfl, hp, a', t, i, hr2, hc2⟩, ho2⟩
  have HP2 := Lib.hid hp
  have HC2 := Lib.hid hc2
  have HI2 := Lib.hid hr2
  have HO2 := Lib.hid ho2
  clear hp hc2 hr2 ho2
  go_upto_region 3 with (fail)
  rename_i K1 a1 K2 a2
  have A1 := Lib.hid a1
  have A2 := Lib.hid a2
  clear a1 a2
  clear HR
  have hb3 := below_new w2 (.cells (rpV p.r p.A p.c) 41)
  have hW : w.heap.size + 1 < W.heap.size := lt_of_block HI0.out.z
  have HZ := Lib.hid ((hb3.block w.heap.size (by have := HO2.out.size; omega)).trans ((HO2.out.block w.heap.size (by omega) (fun e => by injection e with e; omega)).trans HZ0.out))
  have HI3 := Lib.hid (HI2.out.below hb3)
  have HX := Lib.hid (heap_alloc_new w2 (.cells (rpV p.r p.A p.c) 41))
  have HB3 : Hid (Below w.heap.size w (w2.alloc (.cells (rpV p.r p.A p.c) 41))) := Lib.hid (HB0.out.trans ((only_below HO2.out (by omega) (by omega)).trans (hb3.mono (by have := HO2.out.size; omega))))
  have HK3 : Hid (D.e = 0 → RpK (fun b => w.heap.size + 2 ≤ b) (w2.alloc (.cells (rpV p.r p.A p.c) 41)) p.r p.A p.c) := Lib.hid (fun h0 => (HP2.out h0).2.imp hb3.size (fun b hb hl => ⟨hb3.block b hl, by omega⟩))
  have HXS : Hid (W.heap.size ≤ w2.heap.size) := Lib.hid HO2.out.size
  clear hb3 HZ0 HI0 HB0 HI2 HO2
  generalize w2.alloc (.cells (rpV p.r p.A p.c) 41) = w3 at *
  generalize w2.heap.size = X at *
  have hxs := HXS.out
  obtain ⟨z0, z1, z2, z3, z4, zf⟩ := HI3.out.rows
  by_cases he : D.e = 0
  · have e1 : (D.e != 0) = false := by simpa using he
    have e2 : decide (D.e = 0) = true := decide_eq_true he
    have hd : D0 = D := by rw [HD0.out, if_neg (by simpa using he)]
    subst hd
    obtain ⟨c1, c2, c3⟩ := HC2.out he
    have hr1 := (HP2.out he).1
    have HKK := Lib.hid (HK3.out he)
    have HEE := Lib.hid he
    have HRR := Lib.hid hr1
    clear HC2 HP2 HD0 HK3 c2 c3 he hr1
    subst c1
    go_wp2_with fail
    refine A2.out _ _ (wp_cond_false rfl (wp_skip ?_))
    refine A1.out _ _ (wp_seq ?_)
    change Hid (w3.drew.heap[w.heap.size]? = _) at HZ
    change Hid (w3.drew.heap[X]? = _) at HX
    have z1' : w3.drew.cell? ⟨w.heap.size + 1, 1, none⟩ = some (.int .i64 (D0.a : Nat)) := z1
    have HB4 : Hid (Below w.heap.size w w3.drew) := Lib.hid HB3.out.drew
    have HK4 : Hid (RpK (fun b => w.heap.size + 2 ≤ b) w3.drew p.r p.A p.c) := Lib.hid (HKK.out.imp (Nat.le_refl _) (fun b hb _ => ⟨rfl, hb⟩))
    clear z0 z1 z2 z3 z4 zf HB3 HKK HI3
    refine wp_region_held_drew (S := fun W => W.heap[X]? = some (.cells (rpV p.r p.A p.c) 41 (0, 0)) ∧ W.cell? ⟨w.heap.size + 1, 1, none⟩ = some (.int .i64 (D0.a : Nat))) (by kernel_rfl) ⟨HX.out, z1'⟩ (fun hHeld => ?_)
    generalize w3.drew = Y at *
    generalize hB : w.heap.size = B0 at *
    have HBB := Lib.hid hB
    clear hB
    refine wpAnyH_take (i := 0) (v := .agg (rpV p.r p.A p.c)) (by simp only [List.getElem?_toArray, List.getElem?_cons_succ, List.getElem?_cons_zero] <;> rfl) (by kernel_rfl) (by kernel_rfl) (by kernel_rfl) (by intro _ _ _ h; exact h) (Or.inl ⟨by rfl, ?_⟩) (by assumption) ?_
    · intro W9 hSw
      obtain ⟨s0, s1⟩ := hSw
      have q0 : W9.cell? ⟨X, 0, none⟩ = some (.int .i64 p.r.kind) := by simp only [World.cell?, s0]; rfl
      have q1 : W9.cell? ⟨X, 1, none⟩ = some (.int .i64 p.r.num) := by simp only [World.cell?, s0]; rfl
      have q2 : W9.cell? ⟨X, 2, none⟩ = some (.string p.r.text) := by simp only [World.cell?, s0]; rfl
      have q3 : W9.cell? ⟨X, 3, none⟩ = some (.slice p.A p.r.kids.length p.c) := by simp only [World.cell?, s0]; rfl
      go_simp
      try with_reducible rfl
    try simp only [Act.put, List.setIfInBounds_toArray, List.set_cons_zero, List.set_cons_succ]
    refine wpAnyH_take (i := 1) (v := ?_) (by simp only [List.getElem?_toArray, List.getElem?_cons_succ, List.getElem?_cons_zero] <;> rfl) (by kernel_rfl) (by kernel_rfl) (by kernel_rfl) (by intro _ _ _ h; exact h) (Or.inl ⟨by rfl, ?_⟩) (by assumption) ?_
    rotate_left
    · intro W9 hSw
      obtain ⟨s0, s1⟩ := hSw
      go_simp
      try with_reducible rfl
    try simp only [Act.put, List.setIfInBounds_toArray, List.set_cons_zero, List.set_cons_succ]
    refine wpAnyH_take (i := 2) (v := ?_) (by simp only [List.getElem?_toArray, List.getElem?_cons_succ, List.getElem?_cons_zero] <;> rfl) (by kernel_rfl) (by kernel_rfl) (by kernel_rfl) (by intro _ _ _ h; exact h) (Or.inl ⟨by rfl, ?_⟩) (by assumption) ?_
    rotate_left
    · intro W9 hSw
      obtain ⟨s0, s1⟩ := hSw
      go_simp
      try with_reducible rfl
    try simp only [Act.put, List.setIfInBounds_toArray, List.set_cons_zero, List.set_cons_succ]
    refine wpAnyH_take (i := 3) (v := ?_) (by simp only [List.getElem?_toArray, List.getElem?_cons_succ, List.getElem?_cons_zero] <;> rfl) (by kernel_rfl) (by kernel_rfl) (by kernel_rfl) (by intro _ _ _ h; exact h) (Or.inl ⟨by rfl, ?_⟩) (by assumption) ?_
    rotate_left
    · intro W9 hSw
      obtain ⟨s0, s1⟩ := hSw
      go_simp
      try with_reducible rfl
    try simp only [Act.put, List.setIfInBounds_toArray, List.set_cons_zero, List.set_cons_succ]
    refine wpAnyH_take (i := 4) (v := .int .i64 (D0.a : Nat)) (by simp only [List.getElem?_toArray, List.getElem?_cons_succ, List.getElem?_cons_zero] <;> rfl) (by kernel_rfl) (by kernel_rfl) (by kernel_rfl) (by intro _ _ _ h; exact h) (Or.inl ⟨by rfl, ?_⟩) (by assumption) ?_
    · intro W9 hSw
      obtain ⟨s0, s1⟩ := hSw
      go_simp
      try with_reducible rfl
    try simp only [Act.put, List.setIfInBounds_toArray, List.set_cons_zero, List.set_cons_succ]
    refine wpAnyH_ready (rs := [5]) (by kernel_rfl) (by simp) ?_
    refine AllReadyH.cons (by simp only [List.getElem?_toArray, List.getElem?_cons_succ, List.getElem?_cons_zero] <;> rfl) (fun K hK => ?_) AllReadyH.nil
    refine step_store_row rfl 41 (.tmp 2) (.tmp 22) rfl B0 (rpV p.r p.A p.c) rfl rfl 41 zero41 HZ.out size41 rfl (by simp [Value.oneCell']) ?_
    have r5 : ∀ b, b ≠ B0 → (World.setRow Y B0 (rpV p.r p.A p.c)).heap[b]? = Y.heap[b]? := fun b hb => setRow_other _ _ _ _ hb
    have r6 : (World.setRow Y B0 (rpV p.r p.A p.c)).heap[B0]? = some (.cells (rpV p.r p.A p.c) 41 (0, 0)) := setRow_heap _ _ _ _ _ _ HZ.out
    refine hK.out _ _ ⟨(r5 X (by omega)).trans HX.out, (World.cell?_of_block (w := Y) (a := ⟨B0 + 1, 1, none⟩) (r5 _ (by show B0 + 1 ≠ B0; omega))).trans z1'⟩ (fun hHeld => ?_)
    clear hK K
    try simp only [Act.put, List.setIfInBounds_toArray, List.set_cons_zero, List.set_cons_succ]
    refine wpAnyH_ready (rs := [6]) (by kernel_rfl) (by simp) ?_
    refine AllReadyH.cons (by simp only [List.getElem?_toArray, List.getElem?_cons_succ, List.getElem?_cons_zero] <;> rfl) (fun K hK => ?_) AllReadyH.nil
    go_simp
    refine hK.out _ _ hHeld (fun hHeld => ?_)
    clear hK K
    try simp only [Act.put, List.setIfInBounds_toArray, List.set_cons_zero, List.set_cons_succ]
    refine wpAnyH_ready (rs := [7]) (by kernel_rfl) (by simp) ?_
    refine AllReadyH.cons (by simp only [List.getElem?_toArray, List.getElem?_cons_succ, List.getElem?_cons_zero] <;> rfl) (fun K hK => ?_) AllReadyH.nil
    go_simp
    refine hK.out _ _ hHeld (fun hHeld => ?_)
    clear hK K
    try simp only [Act.put, List.setIfInBounds_toArray, List.set_cons_zero, List.set_cons_succ]
    refine wpAnyH_done (by kernel_rfl) ?_ _
    go_wp2_with fail
    refine bodyPost_ret (v := .tuple #[.agg (rpV p.r p.A p.c), .int .i64 (D0.a : Nat), .int .i64 0]) (res26 _ B0 _ _ _ _ rfl rfl rfl _ _ _ _ rfl r6) rfl ⟨p.A, p.c, by rw [← HRR.out, HEE.out], ?_, ?_⟩
    · rw [← HRR.out]
      have hb := HBB.out
      exact HK4.out.imp (by simp) (fun b hb hl => ⟨r5 b (by omega), by omega⟩)
    · rw [HBB.out]
      have hq : Below B0 Y (World.setRow Y B0 (rpV p.r p.A p.c)) := ⟨rfl, rfl, rfl, by simp, fun k hk => r5 k (by omega)⟩
      exact HB4.out.trans hq
  · have e1 : (D.e != 0) = true := by simpa using he
    have e2 : decide (D.e = 0) = false := decide_eq_false he
    have hd : D0 = .bad D.e := by rw [HD0.out, if_pos he]
    have HDD := Lib.hid hd
    clear HC2 HP2 HD0 HK3 he hd
    go_wp2_with fail
    refine A2.out _ _ (wp_cond_true rfl (wp_seq ?_))
    change Hid (w3.drew.heap[w.heap.size]? = _) at HZ
    have z2' : w3.drew.cell? ⟨w.heap.size + 1, 2, none⟩ = some (.int .i64 D.e) := z2
    have HB4 : Hid (Below w.heap.size w w3.drew) := Lib.hid HB3.out.drew
    clear z0 z1 z2 z3 z4 zf HB3 HI3
    refine wp_region_held_drew (S := fun W => W.cell? ⟨w.heap.size + 1, 2, none⟩ = some (.int .i64 D.e)) (by kernel_rfl) z2' (fun hHeld => ?_)
    generalize w3.drew = Y at *
    generalize hB : w.heap.size = B0 at *
    have HBB := Lib.hid hB
    clear hB
    refine wpAnyH_take (i := 0) (v := .agg zero41) (by simp only [List.getElem?_toArray, List.getElem?_cons_succ, List.getElem?_cons_zero] <;> rfl) (by kernel_rfl) (by kernel_rfl) (by kernel_rfl) (by intro _ _ _ h; exact h) (Or.inl ⟨by rfl, ?_⟩) (by assumption) ?_
    · intro W9 hSw
      have s1 := hSw
      go_simp
      try with_reducible rfl
    try simp only [Act.put, List.setIfInBounds_toArray, List.set_cons_zero, List.set_cons_succ]
    refine wpAnyH_take (i := 1) (v := ?_) (by simp only [List.getElem?_toArray, List.getElem?_cons_succ, List.getElem?_cons_zero] <;> rfl) (by kernel_rfl) (by kernel_rfl) (by kernel_rfl) (by intro _ _ _ h; exact h) (Or.inl ⟨by rfl, ?_⟩) (by assumption) ?_
    rotate_left
    · intro W9 hSw
      have s1 := hSw
      go_simp
      try with_reducible rfl
    try simp only [Act.put, List.setIfInBounds_toArray, List.set_cons_zero, List.set_cons_succ]
    refine wpAnyH_take (i := 2) (v := ?_) (by simp only [List.getElem?_toArray, List.getElem?_cons_succ, List.getElem?_cons_zero] <;> rfl) (by kernel_rfl) (by kernel_rfl) (by kernel_rfl) (by intro _ _ _ h; exact h) (Or.inl ⟨by rfl, ?_⟩) (by assumption) ?_
    rotate_left
    · intro W9 hSw
      have s1 := hSw
      go_simp
      try with_reducible rfl
    try simp only [Act.put, List.setIfInBounds_toArray, List.set_cons_zero, List.set_cons_succ]
    refine wpAnyH_take (i := 3) (v := ?_) (by simp only [List.getElem?_toArray, List.getElem?_cons_succ, List.getElem?_cons_zero] <;> rfl) (by kernel_rfl) (by kernel_rfl) (by kernel_rfl) (by intro _ _ _ h; exact h) (Or.inl ⟨by rfl, ?_⟩) (by assumption) ?_
    rotate_left
    · intro W9 hSw
      have s1 := hSw
      go_simp
      try with_reducible rfl
    try simp only [Act.put, List.setIfInBounds_toArray, List.set_cons_zero, List.set_cons_succ]
    refine wpAnyH_take (i := 4) (v := .int .i64 D.e) (by simp only [List.getElem?_toArray, List.getElem?_cons_succ, List.getElem?_cons_zero] <;> rfl) (by kernel_rfl) (by kernel_rfl) (by kernel_rfl) (by intro _ _ _ h; exact h) (Or.inl ⟨by rfl, ?_⟩) (by assumption) ?_
    · intro W9 hSw
      have s1 := hSw
      go_simp
      try with_reducible rfl
    try simp only [Act.put, List.setIfInBounds_toArray, List.set_cons_zero, List.set_cons_succ]
    refine wpAnyH_ready (rs := [5]) (by kernel_rfl) (by simp) ?_
    refine AllReadyH.cons (by simp only [List.getElem?_toArray, List.getElem?_cons_succ, List.getElem?_cons_zero] <;> rfl) (fun K hK => ?_) AllReadyH.nil
    refine step_store_row rfl 41 (.tmp 2) (.tmp 17) rfl B0 zero41 rfl rfl 41 zero41 HZ.out size41 rfl (by simp [Value.oneCell']) ?_
    have r5 : ∀ b, b ≠ B0 → (World.setRow Y B0 zero41).heap[b]? = Y.heap[b]? := fun b hb => setRow_other _ _ _ _ hb
    have r6 : (World.setRow Y B0 zero41).heap[B0]? = some (.cells zero41 41 (0, 0)) := setRow_heap _ _ _ _ _ _ HZ.out
    refine hK.out _ _ ((World.cell?_of_block (w := Y) (a := ⟨B0 + 1, 2, none⟩) (r5 _ (by show B0 + 1 ≠ B0; omega))).trans z2') (fun hHeld => ?_)
    clear hK K
    try simp only [Act.put, List.setIfInBounds_toArray, List.set_cons_zero, List.set_cons_succ]
    refine wpAnyH_ready (rs := [6]) (by kernel_rfl) (by simp) ?_
    refine AllReadyH.cons (by simp only [List.getElem?_toArray, List.getElem?_cons_succ, List.getElem?_cons_zero] <;> rfl) (fun K hK => ?_) AllReadyH.nil
    go_simp
    refine hK.out _ _ hHeld (fun hHeld => ?_)
    clear hK K
    try simp only [Act.put, List.setIfInBounds_toArray, List.set_cons_zero, List.set_cons_succ]
    refine wpAnyH_ready (rs := [7]) (by kernel_rfl) (by simp) ?_
    refine AllReadyH.cons (by simp only [List.getElem?_toArray, List.getElem?_cons_succ, List.getElem?_cons_zero] <;> rfl) (fun K hK => ?_) AllReadyH.nil
    go_simp
    refine hK.out _ _ hHeld (fun hHeld => ?_)
    clear hK K
    try simp only [Act.put, List.setIfInBounds_toArray, List.set_cons_zero, List.set_cons_succ]
    refine wpAnyH_done (by kernel_rfl) ?_ _
    go_wp2_with fail
    refine bodyPost_ret (v := .tuple #[.agg zero41, .int .i64 0, .int .i64 D.e]) (res26 _ B0 _ _ _ _ rfl rfl rfl _ _ _ _ rfl r6) rfl ⟨none, 0, by rw [HDD.out]; rfl, ?_, ?_⟩
    · rw [HDD.out]
      have hf : Fits noR := ⟨by decide, by decide, by decide, by decide, by decide, by decide⟩
      exact ⟨hf, fun _ => rfl, Nat.zero_le _, by show RpL _ _ [] _; rw [RpL]; trivial⟩
    · rw [HBB.out]
      have hq : Below B0 Y (World.setRow Y B0 zero41) := ⟨rfl, rfl, rfl, by simp, fun k hk => r5 k (by omega)⟩
      exact HB4.out.trans hq
end Go.Proofs.YtglicojojpggmaaDoor
