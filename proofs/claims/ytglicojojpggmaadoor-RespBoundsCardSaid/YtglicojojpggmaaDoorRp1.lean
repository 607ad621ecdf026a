/- What a reading of a reply tells. -/
import Derived.Test.YtglicojojpggmaaDoorNumb
import Derived.Test.YtglicojojpggmaaDoorEncode
namespace Go.Proofs.YtglicojojpggmaaDoor
open Go Go.RowKit
/-- Why a reply isn't taken, the reply, the place behind, what is left of the bounds. -/
structure DR where
  e : Int
  r : Rp
  a : Nat
  tx : Nat
  it : Nat
abbrev noT : ByteArray := ⟨#[]⟩
abbrev noR : Rp := .mk 0 0 noT []
def DR.bad (e : Int) : DR := ⟨e, noR, 0, 0, 0⟩
/-- Why a text with its length ahead isn't taken. -/
def blkE (l : List UInt8) (a tx : Nat) : Int :=
  if lenE tx l a ≠ 0 then lenE tx l a else textE l ((digR tx l a).2.2 + 2) (digR tx l a).2.1
/-- Why none is not taken. -/
def nilE (l : List UInt8) (a : Nat) : Int := if expE l a 49 ≠ 0 then expE l a 49 else endE l (a + 1)
/-- Replies, so many, one behind the other. -/
def itemsS (rep : List UInt8 → Nat → Nat → Nat → DR) : Nat → List UInt8 → Nat → Nat → Nat → List Rp → Int × List Rp × Nat × Nat × Nat
  | 0, _, a, tx, it, acc => (0, acc, a, tx, it)
  | n + 1, l, a, tx, it, acc => if (rep l a tx it).e ≠ 0 then ((rep l a tx it).e, [], 0, 0, 0) else itemsS rep n l (rep l a tx it).a (rep l a tx it).tx (rep l a tx it).it (acc ++ [(rep l a tx it).r])
/-- What stands behind a list's sign. -/
def listS (rep : List UInt8 → Nat → Nat → Nat → DR) (l : List UInt8) (a tx it : Nat) : DR :=
  if lenE it l a ≠ 0 then .bad (lenE it l a)
  else if (itemsS rep (digR it l a).2.1 l ((digR it l a).2.2 + 2) tx (it - (digR it l a).2.1) []).1 ≠ 0 then .bad (itemsS rep (digR it l a).2.1 l ((digR it l a).2.2 + 2) tx (it - (digR it l a).2.1) []).1
  else ⟨0, .mk 5 0 noT (itemsS rep (digR it l a).2.1 l ((digR it l a).2.2 + 2) tx (it - (digR it l a).2.1) []).2.1, (itemsS rep (digR it l a).2.1 l ((digR it l a).2.2 + 2) tx (it - (digR it l a).2.1) []).2.2.1, (itemsS rep (digR it l a).2.1 l ((digR it l a).2.2 + 2) tx (it - (digR it l a).2.1) []).2.2.2.1, (itemsS rep (digR it l a).2.1 l ((digR it l a).2.2 + 2) tx (it - (digR it l a).2.1) []).2.2.2.2⟩
/-- A reply, by its sign. -/
def repS (lst : Option (List UInt8 → Nat → Nat → Nat → DR)) (l : List UInt8) (a tx it : Nat) : DR := match l[a]? with
  | none => .bad 130
  | some x =>
    if x.toNat = 43 then ⟨lineE tx l (a + 1), .mk 1 0 (cutT l (a + 1) ((lnR tx l (a + 1)).2 - (a + 1))) [], a + 1 + ((lnR tx l (a + 1)).2 - (a + 1)) + 2, tx - ((lnR tx l (a + 1)).2 - (a + 1)), it⟩
    else if x.toNat = 45 then ⟨lineE tx l (a + 1), .mk 2 0 (cutT l (a + 1) ((lnR tx l (a + 1)).2 - (a + 1))) [], a + 1 + ((lnR tx l (a + 1)).2 - (a + 1)) + 2, tx - ((lnR tx l (a + 1)).2 - (a + 1)), it⟩
    else if x.toNat = 58 then ⟨(numR l (a + 1)).1, .mk 3 (numR l (a + 1)).2.1 noT [], (numR l (a + 1)).2.2, tx, it⟩
    else if x.toNat = 36 then (match l[a + 1]? with
      | none => .bad 130
      | some y => if y.toNat ≠ 45 then ⟨blkE l (a + 1) tx, .mk 4 0 (cutT l ((digR tx l (a + 1)).2.2 + 2) (digR tx l (a + 1)).2.1) [], (digR tx l (a + 1)).2.2 + 2 + (digR tx l (a + 1)).2.1 + 2, tx - (digR tx l (a + 1)).2.1, it⟩
        else ⟨nilE l (a + 2), noR, a + 5, tx, it⟩)
    else if x.toNat = 42 then (match lst with
      | none => .bad 131
      | some f => f l (a + 1) tx it)
    else .bad 131
/-- A reply where so many lists may yet be opened. -/
def repF : Nat → List UInt8 → Nat → Nat → Nat → DR
  | 0 => repS none
  | d + 1 => repS (some (listS (repF d)))
/-- How a reply is taken. -/
def RepQ (w : World) (G : Nat) (A : Option Addr) (n c : Nat) (l : List UInt8) (D : DR) (li : Int) (en : Ending) (w' : World) : Prop :=
  ((D.e = 0 ∧ ∃ A' c', en = .returned (.agg (rpV D.r A' c')) ∧ RpK (fun b => w.heap.size ≤ b) w' D.r A' c' ∧ Inp w' G A n c l D.a (D.tx : Nat) (D.it : Nat) li) ∨ (D.e ≠ 0 ∧ en = .panicked (stopP D.e))) ∧ Only G w w'
abbrev zero41 : Array Value := #[.int .i64 0, .int .i64 0, .string ⟨#[]⟩, .slice none 0 0]
theorem size41 : (Tryd.prog.info? 41).map (·.size) = some 4 := by kernel_rfl
theorem res57 (tmps : Array Value) (w : World) (g : Nat) (cs : Array Value) (hp : tmps.getD 4 undef = .pointer (some ⟨g, 0, none⟩)) (hg : w.heap[g]? = some (.cells cs 41 (0, 0))) (hs : cs.size = 4 := by rfl) :
    (results Tryd.f57 tmps).run Tryd.prog w = .ok (.agg cs) w :=
  results_cell_row (P := Tryd.prog) (p := 4) (ty := 41) Tryd.results57 tmps w g 41 cs (0, 0) _ hp hg Tryd.underlying41 rfl (by rw [size41, hs])
theorem res75 (tmps : Array Value) (w : World) (g : Nat) (cs : Array Value) (hp : tmps.getD 4 undef = .pointer (some ⟨g, 0, none⟩)) (hg : w.heap[g]? = some (.cells cs 41 (0, 0))) (hs : cs.size = 4 := by rfl) :
    (results Tryd.f75 tmps).run Tryd.prog w = .ok (.agg cs) w :=
  results_cell_row (P := Tryd.prog) (p := 4) (ty := 41) Tryd.results75 tmps w g 41 cs (0, 0) _ hp hg Tryd.underlying41 rfl (by rw [size41, hs])
/-- The variables of a reading: the taker's box, the result. -/
structure RV (w W : World) (B G : Nat) (A : Option Addr) (n c : Nat) (l : List UInt8) (a : Nat) (tx it li : Int) : Prop where
  tb : W.heap[B]? = some (.cells (takerV G) 81 (0, 0))
  rv : W.heap[B + 1]? = some (.cells zero41 41 (0, 0))
  inp : Inp W G A n c l a tx it li
  only : Only G w W
  gb : G < B
  bz : B = w.heap.size
  ad : ∀ ad, A = some ad → 0 < l.length → ad.block < B
section
variable {w W W' : World} {B G : Nat} {A : Option Addr} {n c : Nat} {l : List UInt8} {a a' : Nat} {tx it li tx' it' li' : Int}
theorem Inp.below (h : Inp W G A n c l a tx it li) (hb : Below W.heap.size W W') : Inp W' G A n c l a tx it li := ⟨(hb.block _ (lt_of_block h.z)).trans h.z, h.rd.below hb, h.len, h.cap, h.nil, h.ne, h.max, h.pos⟩
theorem RV.new (h : Inp w G A n c l a tx it li) : RV w ((w.alloc (.cells (takerV G) 81)).alloc (.cells zero41 41)) w.heap.size G A n c l a tx it li := by
  have hg := lt_of_block h.z
  have a0 := heap_alloc_new w (.cells (takerV G) 81)
  have b0 := below_new w (.cells (takerV G) 81)
  have s0 : (w.alloc (.cells (takerV G) 81)).heap.size = w.heap.size + 1 := by simp
  have i0 := h.below b0
  generalize w.alloc (.cells (takerV G) 81) = w1 at *
  have a1 := heap_alloc_new w1 (.cells zero41 41)
  have b1 := below_new w1 (.cells zero41 41)
  have i1 := i0.below b1
  rw [s0] at a1 b1
  refine ⟨(b1.block _ (by omega)).trans a0, a1, i1, only_below2 (b0.trans (b1.mono (by omega))), hg, rfl, fun ad e h0 => ?_⟩
  obtain ⟨g, off, e2, hlt, _⟩ := h.rd h0
  rw [e] at e2
  cases e2
  exact hlt
theorem RV.next (h : RV w W B G A n c l a tx it li) (ho : Only G W W') (hi : Inp W' G A n c l a' tx' it' li') : RV w W' B G A n c l a' tx' it' li' := by
  have h2 := lt_of_block h.rv
  have hg := h.gb
  have st : ∀ k, k < W.heap.size → k ≠ G → W'.heap[k]? = W.heap[k]? := fun k hk hn => ho.block k hk (fun e => hn (by injection e))
  exact ⟨(st _ (by omega) (by omega)).trans h.tb, (st _ (by omega) (by omega)).trans h.rv, hi, only_trans h.only ho, hg, h.bz, h.ad⟩
theorem RV.drew (h : RV w W B G A n c l a tx it li) (q : Nat) : RV w (W.drewN q) B G A n c l a tx it li := h.next (only_drew G W q) (h.inp.drew q)
theorem RV.takes (h : RV w W B G A n c l a tx it li) : W.cell? ⟨B, 0, none⟩ = some (mv 61 G) ∧ W.cell? ⟨B, 1, none⟩ = some (mv 62 G) ∧ W.cell? ⟨B, 2, none⟩ = some (mv 63 G) ∧ W.cell? ⟨B, 3, none⟩ = some (mv 64 G) ∧ W.cell? ⟨B, 4, none⟩ = some (mv 65 G) ∧ W.cell? ⟨B, 5, none⟩ = some (mv 66 G) := by
  refine ⟨?_, ?_, ?_, ?_, ?_, ?_⟩
  all_goals
    simp only [World.cell?, h.tb]
    rfl
theorem RV.retk (h : RV w W B G A n c l a tx it li) (cs : Array Value) (j : Nat) : (W.setRow (B + 1) cs).cell? ⟨B, j, none⟩ = W.cell? ⟨B, j, none⟩ :=
  World.cell?_of_block (w := W) (a := ⟨B, j, none⟩) (setRow_other _ _ _ _ (by simp))
/-- The result is laid. -/
theorem RV.ret (h : RV w W B G A n c l a tx it li) (cs : Array Value) : (W.setRow (B + 1) cs).heap[B + 1]? = some (.cells cs 41 (0, 0)) ∧ Inp (W.setRow (B + 1) cs) G A n c l a tx it li ∧ Only G w (W.setRow (B + 1) cs) := by
  have h2 := lt_of_block h.rv
  have hg := h.gb
  have hz := h.bz
  have so : ∀ b, b ≠ B + 1 → (W.setRow (B + 1) cs).heap[b]? = W.heap[b]? := fun b hb => setRow_other _ _ _ _ hb
  refine ⟨setRow_heap _ _ _ _ _ _ h.rv, ⟨(so _ (by omega)).trans h.inp.z, ?_, h.inp.len, h.inp.cap, h.inp.nil, h.inp.ne, h.inp.max, h.inp.pos⟩, ?_⟩
  · intro h0
    obtain ⟨g, off, e, hlt, hc⟩ := h.inp.rd h0
    have hg2 : g < B := h.ad _ e h0
    refine ⟨g, off, e, by simpa using hlt, fun j hj => ?_⟩
    exact (World.cell?_of_block (w := W) (a := ⟨g, off + j, none⟩) (so g (by omega))).trans (hc j hj)
  · exact ⟨h.only.os, h.only.tape, h.only.output, by simpa using h.only.size, fun k hk hn => (so k (by omega)).trans (h.only.block k hk hn)⟩
end
end Go.Proofs.YtglicojojpggmaaDoor
