/- The bytes of a reply: what grows, and what stays. -/
import Derived.Test.YtglicojojpggmaaDoorCheck
import Derived.Test.YtglicojojpggmaaDoorLay
import Derived.Maps.Own
import Derived.MapKept
import Derived.Laws.StructEq
namespace Go.Proofs.YtglicojojpggmaaDoor
open Go Go.RowKit
mutual
/-- A reply's bytes. -/
def encR : Rp → List UInt8
  | .mk k n t l => if k = 1 then layL 43 (bl t) else if k = 2 then layL 45 (bl t) else if k = 3 then layL 58 (itL n) else if k = 4 then layL 36 (itL t.size) ++ (bl t ++ crlf) else if k = 5 then layL 42 (itL l.length) ++ encL l else layL 36 [45, 49]
def encL : List Rp → List UInt8
  | [] => []
  | r :: l => encR r ++ encL l
end
theorem encR_eq (r : Rp) : encR r = if r.kind = 1 then layL 43 (bl r.text) else if r.kind = 2 then layL 45 (bl r.text) else if r.kind = 3 then layL 58 (itL r.num) else if r.kind = 4 then layL 36 (itL r.text.size) ++ (bl r.text ++ crlf) else if r.kind = 5 then layL 42 (itL r.kids.length) ++ encL r.kids else layL 36 [45, 49] := by
  cases r
  rw [encR]
  rfl
/-- All blocks below a bound but one are as they were. -/
structure Apart (O B : Nat) (w w' : World) : Prop where
  os : w'.os = w.os
  tape : w'.tape = w.tape
  output : w'.output = w.output
  size : w.heap.size ≤ w'.heap.size
  block : ∀ k, k < B → k ≠ O → w'.heap[k]? = w.heap[k]?
theorem Apart.refl (O B : Nat) (w : World) : Apart O B w w := ⟨rfl, rfl, rfl, Nat.le_refl _, fun _ _ _ => rfl⟩
theorem Apart.trans {O B : Nat} {a b c : World} (h : Apart O B a b) (k : Apart O B b c) : Apart O B a c :=
  ⟨k.os.trans h.os, k.tape.trans h.tape, k.output.trans h.output, Nat.le_trans h.size k.size, fun j hj hn => (k.block j hj hn).trans (h.block j hj hn)⟩
theorem Apart.of {O B : Nat} {a b : World} (h : Below B a b) : Apart O B a b := ⟨h.os, h.tape, h.output, h.size, fun k hk _ => h.block k hk⟩
theorem Apart.set (O B : Nat) (w : World) (u : Value) : Apart O B w (w.setCell ⟨O, 0, none⟩ u) :=
  ⟨rfl, rfl, rfl, by simp [World.setCell], fun k _ hk => Below.heap_setCell w ⟨O, 0, none⟩ u k (fun e => hk e)⟩
theorem Apart.drew (O B : Nat) (w : World) (q : Nat) : Apart O B w (w.drewN q) := ⟨rfl, rfl, rfl, Nat.le_refl _, fun _ _ _ => rfl⟩
theorem tab_zero {w w' : World} (h : TAB w) (hb : w'.heap[0]? = w.heap[0]?) : TAB w' := by
  unfold TAB Lib.TabIs World.var? at h ⊢
  rw [gPow'] at h ⊢
  simp only [Option.bind_some] at h ⊢
  rw [hb]
  exact h
theorem tab_lt {w : World} (h : TAB w) : 0 < w.heap.size := by
  unfold TAB Lib.TabIs World.var? at h
  rw [gPow'] at h
  simp only [Option.bind_some] at h
  rcases Nat.lt_or_ge 0 w.heap.size with h' | h'
  · exact h'
  · rw [Array.getElem?_eq_none h'] at h; cases h
/-- The variable in which bytes grow. -/
structure EV (W : World) (O B : Nat) (A : Option Addr) (c : Nat) (l : List UInt8) : Prop where
  v0 : W.heap[O]? = some (.cells #[.slice A l.length c] 25 (0, 0))
  own : OwnB W B (.slice A l.length c) l
  ob : O < B
  bh : B ≤ W.heap.size
  o0 : 0 < O
  tab : TAB W
section
variable {w W W' : World} {O B : Nat} {A : Option Addr} {c : Nat} {l l' : List UInt8} {v : Value}
theorem EV.below (h : EV W O B A c l) (hb : Below W.heap.size W W') : EV W' O B A c l :=
  ⟨(hb.block _ (lt_of_block h.v0)).trans h.v0, h.own.below hb, h.ob, Nat.le_trans h.bh hb.size, h.o0, tab_zero h.tab (hb.block _ (tab_lt h.tab))⟩
theorem EV.drew (h : EV W O B A c l) (q : Nat) : EV (W.drewN q) O B A c l := h.below ⟨rfl, rfl, rfl, Nat.le_refl _, fun _ _ => rfl⟩
theorem EV.cell (h : EV W O B A c l) : W.cell? ⟨O, 0, none⟩ = some (.slice A l.length c) ∧ ∀ j, W.frozen? ⟨O, j, none⟩ = false := ⟨cell_one h.v0, fun j => free_row h.v0 j⟩
/-- Behind a new row, ahead of its store. -/
theorem EV.keep (h : EV W O B A c l) (hb : Below B W W') : W'.cell? ⟨O, 0, none⟩ = some (.slice A l.length c) ∧ ∀ j, W'.frozen? ⟨O, j, none⟩ = false :=
  ⟨cell_one ((hb.block _ h.ob).trans h.v0), fun j => free_row ((hb.block _ h.ob).trans h.v0) j⟩
theorem EV.put (h : EV W O B A c l) (hb : Below B W W') (ho : OwnB W' B v l') : ∃ A' c', v = .slice A' l'.length c' ∧ EV (W'.setCell ⟨O, 0, none⟩ v) O B A' c' l' ∧ Apart O B W (W'.setCell ⟨O, 0, none⟩ v) := by
  obtain ⟨A', c', rfl, h1, h2, h3, h4⟩ := ho.rd
  have hO := h.ob
  refine ⟨A', c', rfl, ⟨row_set ((hb.block _ h.ob).trans h.v0), ?_, h.ob, ?_, h.o0, ?_⟩, (Apart.of hb).trans (Apart.set O B W' _)⟩
  · exact ownsRow_setCell_other ho (a := ⟨O, 0, none⟩) (fun e => absurd (ho.lt _ e).1 (by simp; omega)) _
  · have := hb.size
    have := h.bh
    simp [World.setCell]
    omega
  · have h0 := h.o0
    refine tab_zero h.tab ((Below.heap_setCell W' ⟨O, 0, none⟩ _ 0 (by simp; omega)).trans (hb.block _ (by omega)))
theorem EV.len (h : EV W O B A c l) : l.length ≤ c ∧ (A = none → c = 0) := by
  obtain ⟨A', c', e, h1, h2, _⟩ := h.own.rd
  injection e with e1 e2 e3
  subst e1 e3
  exact ⟨h1, h2⟩
theorem Apart.kids {r : Rp} {A' : Option Addr} {c' : Nat} (h : RpK (fun b => b < B ∧ b ≠ O) W r A' c') (ha : Apart O B W W') : RpK (fun b => b < B ∧ b ≠ O) W' r A' c' :=
  h.imp ha.size fun b hp _ => ⟨ha.block b hp.1 hp.2, hp⟩
/-- How bytes are laid. -/
def EncQ (w : World) (O B : Nat) (l : List UInt8) (e : Ending) (w' : World) : Prop := e = .returned (.tuple #[]) ∧ (∃ A c, EV w' O B A c l) ∧ Apart O B w w'
theorem EncQ.of (h : EV W O B A c l) (ha : Apart O B w W) (hb : Below B W W') (ho : OwnB W' B v l') : EncQ w O B l' (.returned (.tuple #[])) (W'.setCell ⟨O, 0, none⟩ v) := by
  obtain ⟨A', c', rfl, h1, h2⟩ := h.put hb ho
  exact ⟨rfl, ⟨A', c', h1⟩, ha.trans h2⟩
theorem fmt_any (n : Int) (w : World) (h0 : -9223372036854775808 ≤ n) (h1 : n ≤ 9223372036854775807) (ht : TAB w) :
    Calls Tryd.prog 51 #[.int .i64 n, .int .i64 10] w fun e w' => e = .returned (.string ⟨(itL n).toArray⟩) ∧ Below w.heap.size w w' := by
  refine (Go.Proofs.Tryd.strconv_FormatInt_10 n h0 h1 w ht).mono ?_
  rintro e w' ⟨rfl, k, os, rfl⟩
  exact ⟨rfl, below_growN w k os⟩
set_option maxRecDepth 100000 in
set_option maxHeartbeats 4000000 in
theorem enc47_any (r : Rp) (Ar : Option Addr) (cr : Nat) (w : World) (h : EV w O B A c l) (hl : l.length ≤ 100000000) :
    Calls Tryd.prog 47 #[.agg (rpV r Ar cr), .pointer (some ⟨O, 0, none⟩)] w (EncQ w O B (l ++ layL 36 [45, 49])) := by
  have hb0 := below_new w (.cells (rpV r Ar cr) 41)
  have h1 := h.below hb0
  have HA := Lib.hid (Apart.of (O := O) (hb0.mono h.bh))
  obtain ⟨e0, ef⟩ := h1.cell
  have H1 := Lib.hid h1
  have HLY := Lib.hid (lay_any B A l.length c l 36 ⟨#[45, 49]⟩ _ h1.own rfl hl (by decide) h1.bh)
  have z2 : (w.alloc (.cells (rpV r Ar cr) 41)).cell? ⟨w.heap.size, 2, none⟩ = some (.string r.text) := by
    have := heap_alloc_new w (.cells (rpV r Ar cr) 41)
    simp only [World.cell?, this]; rfl
  obtain ⟨l', hl'⟩ : ∃ l', l ++ layL 36 (bl ⟨#[45, 49]⟩) = l' := ⟨_, rfl⟩
  change Calls _ _ _ _ (EncQ w O B (l ++ layL 36 (bl ⟨#[45, 49]⟩)))
  rw [hl'] at HLY ⊢
  clear h hb0 h1 hl'
  go_enter Tryd.func47, Tryd.ntmps47
  go_wp2_with fail
  refine HLY.out.mono ?_
  rintro e w1 ⟨v, rfl, ho, hb⟩
  obtain ⟨k0, kf⟩ := H1.out.keep hb
  have HQ := Lib.hid (EncQ.of H1.out HA.out hb ho)
  obtain ⟨Av, cv, rfl, _⟩ := ho.rd
  clear ho hb HLY z2 e0 ef
  go_wp2_with fail
  go_end0
  exact HQ.out
set_option maxRecDepth 100000 in
set_option maxHeartbeats 4000000 in
theorem enc48_any (r : Rp) (Ar : Option Addr) (cr : Nat) (w : World) (h : EV w O B A c l) (hl : l.length ≤ 100000000) (ht : r.text.size ≤ 100000000) :
    Calls Tryd.prog 48 #[.agg (rpV r Ar cr), .pointer (some ⟨O, 0, none⟩)] w (EncQ w O B (l ++ layL 43 (bl r.text))) := by
  have hb0 := below_new w (.cells (rpV r Ar cr) 41)
  have h1 := h.below hb0
  have HA := Lib.hid (Apart.of (O := O) (hb0.mono h.bh))
  obtain ⟨e0, ef⟩ := h1.cell
  have H1 := Lib.hid h1
  have HLY := Lib.hid (lay_any B A l.length c l 43 r.text _ h1.own rfl hl ht h1.bh)
  have z2 : (w.alloc (.cells (rpV r Ar cr) 41)).cell? ⟨w.heap.size, 2, none⟩ = some (.string r.text) := by
    have := heap_alloc_new w (.cells (rpV r Ar cr) 41)
    simp only [World.cell?, this]; rfl
  obtain ⟨l', hl'⟩ : ∃ l', l ++ layL 43 (bl r.text) = l' := ⟨_, rfl⟩
  skip
  rw [hl'] at HLY ⊢
  clear h hb0 h1 hl'
  go_enter Tryd.func48, Tryd.ntmps48
  go_wp2_with fail
  refine HLY.out.mono ?_
  rintro e w1 ⟨v, rfl, ho, hb⟩
  obtain ⟨k0, kf⟩ := H1.out.keep hb
  have HQ := Lib.hid (EncQ.of H1.out HA.out hb ho)
  obtain ⟨Av, cv, rfl, _⟩ := ho.rd
  clear ho hb HLY z2 e0 ef
  go_wp2_with fail
  go_end0
  exact HQ.out
set_option maxRecDepth 100000 in
set_option maxHeartbeats 4000000 in
theorem enc49_any (r : Rp) (Ar : Option Addr) (cr : Nat) (w : World) (h : EV w O B A c l) (hl : l.length ≤ 100000000) (ht : r.text.size ≤ 100000000) :
    Calls Tryd.prog 49 #[.agg (rpV r Ar cr), .pointer (some ⟨O, 0, none⟩)] w (EncQ w O B (l ++ layL 45 (bl r.text))) := by
  have hb0 := below_new w (.cells (rpV r Ar cr) 41)
  have h1 := h.below hb0
  have HA := Lib.hid (Apart.of (O := O) (hb0.mono h.bh))
  obtain ⟨e0, ef⟩ := h1.cell
  have H1 := Lib.hid h1
  have HLY := Lib.hid (lay_any B A l.length c l 45 r.text _ h1.own rfl hl ht h1.bh)
  have z2 : (w.alloc (.cells (rpV r Ar cr) 41)).cell? ⟨w.heap.size, 2, none⟩ = some (.string r.text) := by
    have := heap_alloc_new w (.cells (rpV r Ar cr) 41)
    simp only [World.cell?, this]; rfl
  obtain ⟨l', hl'⟩ : ∃ l', l ++ layL 45 (bl r.text) = l' := ⟨_, rfl⟩
  skip
  rw [hl'] at HLY ⊢
  clear h hb0 h1 hl'
  go_enter Tryd.func49, Tryd.ntmps49
  go_wp2_with fail
  refine HLY.out.mono ?_
  rintro e w1 ⟨v, rfl, ho, hb⟩
  obtain ⟨k0, kf⟩ := H1.out.keep hb
  have HQ := Lib.hid (EncQ.of H1.out HA.out hb ho)
  obtain ⟨Av, cv, rfl, _⟩ := ho.rd
  clear ho hb HLY z2 e0 ef
  go_wp2_with fail
  go_end0
  exact HQ.out
end
end Go.Proofs.YtglicojojpggmaaDoor
