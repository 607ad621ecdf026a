/- What a crash leaves, by the program. -/
import Derived.Test.YtcfglgejjmapdaaSpec
import Derived.Sort.CutIn
namespace Go.Proofs.Ytcfglgejjmapdaa
open Go Go.RowKit Go.Shelf
attribute [local go_sem] Oper.semAt_some
def intsV (l : List Int) : List Value := l.map (Value.int .i64)
/-- What holds between two rounds of Crash. -/
structure CrI (T : Nat → Prop) (D M : Nat) (gs : List G) (steps : Nat) (hb : Bool) (rm : Int) (w : World) (D2 M2 Bo Bp : Nat) (v1 : Value) (keep : List Int) (B : Nat) (pre : List G) (W : World) : Prop where
  dk : DK T D M gs steps hb rm W
  b0 : W.heap[w.heap.size]? = some (.cells #[.pointer (some ⟨D, 0, none⟩)] 28 (0, 0))
  b1 : W.heap[w.heap.size + 1]? = some (.cells #[v1] 55 (0, 0))
  bo : W.heap[Bo]? = some (.cells #[.pointer (some ⟨D2, 0, none⟩)] 28 (0, 0))
  bp : W.heap[Bp]? = some (.cells #[.int .i64 pre.length] 3 (0, 0))
  pfx : pre <+: gs
  out : ∃ T2 gs2, DK T2 D2 M2 gs2 0 false 0 W ∧ gs2.map G.f = crashL keep (pre.map G.f) ∧ ∀ b, T2 b → w.heap.size + 2 ≤ b ∧ b ≠ Bo ∧ b ≠ Bp
  below : Below w.heap.size w W
  size : B ≤ W.heap.size
theorem CrI.keep {T : Nat → Prop} {D M steps : Nat} {gs : List G} {hb : Bool} {rm : Int} {w : World} {D2 M2 Bo Bp : Nat} {v1 : Value} {keep : List Int} {B : Nat} (hM : M < B) (hM2 : M2 < B) (hB : w.heap.size ≤ B) {pre : List G} {A A' : World} {row : Option Nat} (h : CrI T D M gs steps hb rm w D2 M2 Bo Bp v1 keep B pre A) (hg : A.grownBy A' row) (ht : ∀ r, row = some r → B ≤ r ∧ ∃ o : Obj, A.heap[r]? = some o ∧ o.isCells = false) : CrI T D M gs steps hb rm w D2 M2 Bo Bp v1 keep B pre A' := by
  have ht' : ∀ r, row = some r → ∃ o : Obj, A.heap[r]? = some o ∧ o.isCells = false := fun r e => (ht r e).2
  obtain ⟨h1, h2, h3, h4, h5, h6, ⟨T2, gs2, h7, h8, h9⟩, h10, h11⟩ := h
  exact ⟨h1.grownc hg (fun r e => ⟨by have := (ht r e).1; omega, (ht r e).2⟩), cells_keepc h2 hg ht', cells_keepc h3 hg ht', cells_keepc h4 hg ht', cells_keepc h5 hg ht', h6, ⟨T2, gs2, h7.grownc hg (fun r e => ⟨by have := (ht r e).1; omega, (ht r e).2⟩), h8, h9⟩, h10.grown hg h10.size (fun k e => by have := (ht k e).1; omega), Nat.le_trans h11 hg.size⟩

theorem cut_bytes (f : F) (m : Nat) (h : m ≤ f.bytes.size) : (cutF f m).bytes.size = m ∧ bl (cutF f m).bytes = (bl f.bytes).take m := by
  have h1 : (bl f.bytes).length = f.bytes.size := by rw [Array.length_toList]; rfl
  refine ⟨?_, rfl⟩
  show ((bl f.bytes).take m).toArray.size = m
  simp
  have h2 : f.bytes.size = f.bytes.data.size := rfl
  omega
theorem cr_step {T : Nat → Prop} {D M : Nat} {gs : List G} {steps : Nat} {hb : Bool} {rm : Int} {w : World} {D2 M2 Bo Bp : Nat} {v1 : Value} {keep : List Int} {B : Nat} {pre : List G} {W W7 : World} {g : G} {v' : Value} (q m : Nat)
    (hI : CrI T D M gs steps hb rm w D2 M2 Bo Bp v1 keep B pre W) (hT : ∀ b, T b → b < w.heap.size) (hM2 : M2 < B) (hBo : w.heap.size + 2 ≤ Bo) (hBp : Bp = Bo + 1) (hB : Bp < B) (hpx : pre ++ [g] <+: gs) (hmax : gs.length ≤ 100000) (hm : m = g.f.sync.toNat + moreAt keep pre.length g.f)
    (hb7 : Below W.heap.size ((W.drewN q).setCell ⟨Bp, 0, none⟩ (.int .i64 ((pre.length : Int) + 1))) W7) (ho : W7.ownsRow W.heap.size 5 1 v' m (cellsB ((bl g.f.bytes).take m))) :
    W7.cell? ⟨Bo, 0, none⟩ = some (.pointer (some ⟨D2, 0, none⟩)) ∧ W7.cell? ⟨D2, 0, none⟩ = some (.map (some M2)) ∧ ∃ W9, (Instr.mapUpdate 68 (.map (some M2)) (.string g.f.name) (.pointer (some ⟨W7.heap.size, 0, none⟩))).run Try.prog (W7.alloc (.cells #[v', .int .i64 m] 67)) = .ok () W9 ∧
      KeepsFrom B W W9 ∧ KS W W9 ∧ CrI T D M gs steps hb rm w D2 M2 Bo Bp v1 keep B (pre ++ [g]) W9 := by
  obtain ⟨h1, h2, h3, h4, h5, h6, ⟨T2, gs2, h7, h8, h9⟩, h10, h11⟩ := hI
  have hg := prefix_mem hpx
  have hf := h1.files g hg
  have hlen : gs2.length = pre.length := by have := congrArg List.length h8; simpa [crashL_len] using this
  have hpl : pre.length < gs.length := by have := hpx.length_le; simp at this; omega
  have hmle : m ≤ g.f.bytes.size := by rw [hm]; exact moreAt_le hf.s0 hf.s1
  obtain ⟨cb1, cb2⟩ := cut_bytes g.f m hmle
  have s6 : ((W.drewN q).setCell ⟨Bp, 0, none⟩ (.int .i64 ((pre.length : Int) + 1))).heap.size = W.heap.size := by simp [World.setCell, World.drewN]
  have hb7s : W.heap.size ≤ W7.heap.size := by have := hb7.size; omega
  have same : ∀ b, b < W.heap.size → b ≠ Bp → W7.heap[b]? = W.heap[b]? := fun b hlt hne => (hb7.block b hlt).trans (Below.heap_setCell _ ⟨Bp, 0, none⟩ _ b hne)
  have p7 : W7.heap[Bp]? = some (.cells #[.int .i64 ((pre.length : Int) + 1)] 3 (0, 0)) := (hb7.block Bp (by omega)).trans (one_setCell (w := W.drewN q) h5)
  have d7 : DK T2 D2 M2 gs2 0 false 0 W7 := h7.keep (fun b hb => same b (h7.lt b hb) (h9 b hb).2.2) hb7s
  refine ⟨cell_of_one ((same Bo (by omega) (by omega)).trans h4), d7.cellsD.1, ?_⟩
  have b8 := below_new W7 (.cells #[v', .int .i64 m] 67)
  have d8 := d7.below b8
  have hkey : keyOf Try.prog 9 (.string g.f.name) = some (.string (bl g.f.name)) := WideMaps.keyOf_string_mk Try.underlying9 hf.nsz
  obtain ⟨W9, hrun, hmap, ht9⟩ := d8.map.store (Maps.string_keyed Try.underlying9) Try.underlying68 (by rw [hlen]; simp only [maxLen]; omega) hkey (val := .pointer (some ⟨W7.heap.size, 0, none⟩)) (d := .lit (.int .i64 W7.heap.size)) (ps := []) rfl
  have hg9 := ht9.grown
  refine ⟨W9, hrun, ?_⟩
  obtain ⟨g', hgd⟩ : ∃ g' : G, g' = ⟨cutF g.f m, W7.heap.size, v'⟩ := ⟨_, rfl⟩
  have hgn : gn g' = g.f.name := by rw [hgd]; rfl
  have hgk : g'.k = W7.heap.size := by rw [hgd]
  have hgv : g'.v = v' := by rw [hgd]
  have hput := put_ent (nm := gn) (kk := G.k) (l := gs2) g' d8.rise
  rw [hgn, hgk] at hput
  rw [hput] at hmap
  have s8 : (W7.alloc (.cells #[v', .int .i64 m] 67)).heap.size = W7.heap.size + 1 := by simp
  have keep9 : ∀ b, b < W7.heap.size → b ≠ M2 → W9.heap[b]? = W7.heap[b]? := fun b hlt hne => (hg9.block b (by rw [s8]; omega) (fun e => hne (by cases e; rfl))).trans (b8.block b hlt)
  have hM2s : M2 < W7.heap.size := d7.lt M2 d7.tM
  have c9 : W9.heap[W7.heap.size]? = some (.cells #[v', .int .i64 m] 67 (0, 0)) := (hg9.block _ (by rw [s8]; omega) (fun e => by cases e; omega)).trans (heap_alloc_new W7 _)
  have hrow : ∀ r, v'.ownBlock = some r → W.heap.size ≤ r ∧ r < W7.heap.size := fun r e => ho.lt r e
  have z9 : W7.heap.size + 1 ≤ W9.heap.size := by have := hg9.size; rw [s8] at this; exact this
  have o9 : OwnsM W9 v' m (cellsB ((bl g.f.bytes).take m)) := (OwnsM.of ho).keep (fun r e => keep9 r (hrow r e).2 (by have := (hrow r e).1; have := h11; omega))
  have fin : FileIn (addT T2 g') W9 g' := by
    subst hgd
    refine ⟨c9, ?_, .inr (.inl rfl), fun r e => .inr (.inr e), by simp [cutF], ?_, ?_, hf.nmv⟩
    · rw [show (⟨cutF g.f m, W7.heap.size, v'⟩ : G).f = cutF g.f m from rfl, cb1, cb2]
      exact o9
    · show ((m : Nat) : Int) ≤ ((cutF g.f m).bytes.size : Int)
      rw [cb1]; exact Int.le_refl _
    · show (cutF g.f m).bytes.size ≤ 1048576
      rw [cb1]; exact Nat.le_trans hmle hf.mx
  have hne2 := fun a (ha : a ∈ gs2) => d7.ne_file ha
  have dput : DK (addT T2 g') D2 M2 (wth gn gs2 g') 0 false 0 W9 := by
    refine d8.put (g' := g') (hg9.block D2 (d8.lt D2 d8.tD) (fun e => d8.ne_map (by cases e; rfl))) hmap fin (fun a ha _ => ?_) (fun a ha _ => ?_) (fun b hb => .inl hb) (fun b hb => ?_)
    · have hfa := d8.files a ha
      have hna := d8.ne_file ha
      exact ⟨hg9.block _ (d8.lt _ hfa.tk) (fun e => hna.2.1 (by cases e; rfl)), fun r e => hg9.block _ (d8.lt _ (hfa.tr r e)) (fun e2 => (hna.2.2.2 r e).2.1 (by cases e2; rfl))⟩
    · have hfa := d7.files a ha
      refine ⟨?_, fun r e e2 => ?_⟩
      · rw [hgk]; have := d7.lt _ hfa.tk; omega
      · rw [hgv] at e2
        have h20 := (hrow r e2).1
        have h21 := h7.lt r ((h7.files a ha).tr r e)
        omega
    · rcases hb with hb | hb | hb
      · have := d7.lt b hb; omega
      · rw [hgk] at hb; omega
      · rw [hgv] at hb; have := (hrow b hb).2; omega
  have hnames : gs2.map (fun a => gn a) = pre.map (fun a => gn a) := by
    have h30 := congrArg (List.map F.name) h8
    rw [crashL_name, List.map_map, List.map_map] at h30
    exact h30
  have hlast : wth gn gs2 g' = gs2 ++ [g'] := by
    refine wth_last fun f hf2 => ?_
    have hr : Rising gn (pre ++ [g]) := h1.rise.sublist hpx.sublist
    have h31 : gn f ∈ pre.map (fun a => gn a) := by rw [← hnames]; exact List.mem_map.2 ⟨f, hf2, rfl⟩
    obtain ⟨p, hp, hpe⟩ := List.mem_map.1 h31
    have h32 := (List.pairwise_append.1 hr).2.2 p hp g (by simp)
    rw [hgn, ← hpe]
    exact h32
  rw [hlast] at dput
  have keepW : ∀ b, b < W.heap.size → b ≠ Bp → b ≠ M2 → W9.heap[b]? = W.heap[b]? := fun b h40 h41 h42 => (keep9 b (by omega) h42).trans (same b h40 h41)
  have hT2M : M2 < W.heap.size ∧ M2 ≠ Bp ∧ w.heap.size + 2 ≤ M2 := ⟨h7.lt M2 h7.tM, (h9 M2 h7.tM).2.2, (h9 M2 h7.tM).1⟩
  have hM2c : ∃ es clock, W.heap[M2]? = some (.map es clock) := by obtain ⟨es, clock, h50, _⟩ := h7.map; exact ⟨es, clock, h50⟩
  obtain ⟨es, clock, hM2c⟩ := hM2c
  refine ⟨⟨by omega, fun k o hk ho2 hc => ?_⟩, fun k x p hk => ?_, ?_⟩
  · refine (keepW k (Array.getElem?_eq_some_iff.1 ho2).1 (fun e => ?_) (by omega)).trans ho2
    rw [e, h5] at ho2
    cases ho2
    cases hc
  · refine (keepW k (Array.getElem?_eq_some_iff.1 hk).1 (fun e => ?_) (fun e => ?_)).trans hk
    · rw [e, h5] at hk; cases hk
    · rw [e, hM2c] at hk; cases hk
  · have hsz := h10.size
    refine ⟨h1.keep (fun b hb => keepW b (h1.lt b hb) (by have := hT b hb; omega) (by have := hT b hb; omega)) (by omega), (keepW _ (by omega) (by omega) (by omega)).trans h2, (keepW _ (by omega) (by omega) (by omega)).trans h3, (keepW Bo (by omega) (by omega) (fun e => ?_)).trans h4, ?_, hpx, ⟨_, _, dput, ?_, fun b hb => ?_⟩, ?_, by omega⟩
    · rw [e, hM2c] at h4; cases h4
    · rw [List.length_append]
      exact (keep9 Bp (by omega) (fun e => hT2M.2.1 e.symm)).trans (by rw [p7]; simp)
    · rw [List.map_append, List.map_append, h8, List.map_cons, List.map_nil, List.map_cons, List.map_nil, crashL_snoc, hgd, hm]
      simp [crashAt]
    · rcases hb with hb | hb | hb
      · exact h9 b hb
      · rw [hgk] at hb; omega
      · rw [hgv] at hb; have := hrow b hb; omega
    · refine ⟨hg9.os.trans (b8.os.trans (hb7.os.trans h10.os)), hg9.tape.trans (b8.tape.trans (hb7.tape.trans h10.tape)), hg9.output.trans (b8.output.trans (hb7.output.trans h10.output)), by omega, fun b hb => (keepW b (by omega) (by omega) (by omega)).trans (h10.block b hb)⟩
end Go.Proofs.Ytcfglgejjmapdaa
