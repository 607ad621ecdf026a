/- A disk as it lies in memory. -/
import Derived.Test.YtcfglgejjmapdaaNam
import Derived.Test.YtcfglgejjmapdaaMark
import Derived.Maps.OwnSet
import Derived.Laws.EntriesVeiled
import Derived.StringKeys
namespace Go.Proofs.Ytcfglgejjmapdaa
open Go Go.RowKit Go.WideMaps
/-- A file. -/
structure F where
  name : ByteArray
  bytes : ByteArray
  sync : Int
/-- A file, its block, its slice. -/
structure G where
  f : F
  k : Nat
  v : Value
abbrev gn (g : G) : ByteArray := g.f.name
/-- How a pointer reads. -/
def ptrR : Value → Option (DataW Unit × List MemPlace)
  | .pointer none => some (.nil, [])
  | .pointer (some ⟨b, 0, none⟩) => some (.lit (.int .i64 b), [])
  | _ => none
theorem ptrR_nil {v : Value} {ps : List MemPlace} (h : ptrR v = some (.nil, ps)) : v = .pointer none := by
  unfold ptrR at h
  split at h
  · rfl
  · cases h
  · cases h
theorem ptrR_some {v : Value} {b : Nat} {ps : List MemPlace} (h : ptrR v = some (.lit (.int .i64 b), ps)) : v = .pointer (some ⟨b, 0, none⟩) := by
  unfold ptrR at h
  split at h
  · cases h
  · rename_i c
    simp only [Option.some.injEq, Prod.mk.injEq, DataW.lit.injEq, Lit.int.injEq, true_and] at h
    have : c = b := by omega
    rw [this]
  · cases h
/-- What is changed but for new blocks. -/
structure KeepT (T : Nat → Prop) (W W' : World) : Prop where
  os : W'.os = W.os
  tape : W'.tape = W.tape
  output : W'.output = W.output
  size : W.heap.size ≤ W'.heap.size
  block : ∀ b, b < W.heap.size → ¬ T b → W'.heap[b]? = W.heap[b]?
theorem KeepT.of_below {T : Nat → Prop} {W W' : World} (h : Below W.heap.size W W') : KeepT T W W' := ⟨h.os, h.tape, h.output, h.size, fun b hb _ => h.block b hb⟩
theorem KeepT.refl (T : Nat → Prop) (W : World) : KeepT T W W := .of_below (Below.refl _ _)
theorem KeepT.trans {T T' : Nat → Prop} {A B C : World} (h : KeepT T A B) (k : KeepT T' B C) (ht : ∀ b, T' b → T b ∨ A.heap.size ≤ b) : KeepT T A C :=
  ⟨k.os.trans h.os, k.tape.trans h.tape, k.output.trans h.output, Nat.le_trans h.size k.size, fun b hb hn => (k.block b (Nat.lt_of_lt_of_le hb h.size) (fun h2 => by rcases ht b h2 with h3 | h3; exact hn h3; omega)).trans (h.block b hb hn)⟩
theorem KeepT.below {T : Nat → Prop} {B : Nat} {W W' : World} (h : KeepT T W W') (ht : ∀ b, T b → B ≤ b) (hb : B ≤ W.heap.size) : Below B W W' :=
  ⟨h.os, h.tape, h.output, h.size, fun b hlt => h.block b (by omega) (fun h2 => by have := ht b h2; omega)⟩
theorem KeepT.drew {T : Nat → Prop} {W W' : World} (h : KeepT T W W') (m : Nat) : KeepT T W (W'.drewN m) := ⟨h.os, h.tape, h.output, h.size, h.block⟩
theorem KeepT.mono {T T' : Nat → Prop} {W W' : World} (h : KeepT T W W') (ht : ∀ b, T b → T' b) : KeepT T' W W' := ⟨h.os, h.tape, h.output, h.size, fun b hb hn => h.block b hb (fun h2 => hn (ht b h2))⟩
theorem KeepT.setCell {T : Nat → Prop} {W W' : World} (h : KeepT T W W') (a : Addr) (v : Value) (ha : T a.block) : KeepT T W (W'.setCell a v) :=
  ⟨h.os, h.tape, h.output, by show _ ≤ (W'.heap.modify _ _).size; rw [Array.size_modify]; exact h.size, fun b hb hn => (RowKit.Below.heap_setCell _ _ _ _ (fun e => hn (by rw [e]; exact ha))).trans (h.block b hb hn)⟩
theorem KeepT.grown {T : Nat → Prop} {W W' W2 : World} {row : Option Nat} (h : KeepT T W W') (hg : W'.grownBy W2 row) (hr : ∀ r, row = some r → T r ∨ W.heap.size ≤ r) : KeepT T W W2 :=
  ⟨hg.os.trans h.os, hg.tape.trans h.tape, hg.output.trans h.output, Nat.le_trans h.size hg.size, fun b hb hn => (hg.block b (Nat.lt_of_lt_of_le hb h.size) (fun e => by rcases hr b e.symm with h2 | h2; exact hn h2; omega)).trans (h.block b hb hn)⟩
/-- A file's block and its row. -/
structure FileIn (T : Nat → Prop) (W : World) (g : G) : Prop where
  cells : W.heap[g.k]? = some (.cells #[g.v, .int .i64 g.f.sync] 67 (0, 0))
  own : OwnsM W g.v g.f.bytes.size (cellsB (bl g.f.bytes))
  tk : T g.k
  tr : ∀ r, g.v.ownBlock = some r → T r
  s0 : 0 ≤ g.f.sync
  s1 : g.f.sync ≤ g.f.bytes.size
  mx : g.f.bytes.size ≤ 1048576
  nmv : nameB g.f.name = true
/-- A disk: its files by rising names. -/
structure DK (T : Nat → Prop) (D M : Nat) (gs : List G) (steps : Nat) (hb : Bool) (rm : Int) (W : World) : Prop where
  disk : W.heap[D]? = some (.cells #[.map (some M), .int .i64 steps, .bool hb, .int .i64 rm] 70 (0, 0))
  map : W.ownsMap Try.prog 9 ptrR M gs.length (dMap gn G.k gs)
  files : ∀ g ∈ gs, FileIn T W g
  rise : Rising gn gs
  apart : ∀ a ∈ gs, ∀ b ∈ gs, gn a ≠ gn b → a.k ≠ b.k ∧ ∀ r, a.v.ownBlock = some r → b.v.ownBlock ≠ some r
  tD : T D
  tM : T M
  lt : ∀ b, T b → b < W.heap.size
  r0 : 0 ≤ rm
  r1 : rm ≤ 9223372036854775807
theorem own_keep {w w' : World} {base n : Nat} {e : TypeId} {v : Value} {xs : List Value} (h : w.ownsRow base e 1 v n xs) (hk : ∀ r, v.ownBlock = some r → w'.heap[r]? = w.heap[r]?) : w'.ownsRow base e 1 v n xs := by
  refine ⟨h.1, ?_⟩
  rcases h.2 with h2 | ⟨g, cap, cur, rfl, hg, h3, r⟩
  · exact .inl h2
  · exact .inr ⟨g, cap, cur, rfl, hg, (hk g rfl).trans h3, r⟩
theorem own_base {w : World} {base n : Nat} {e : TypeId} {v : Value} {xs : List Value} (h : w.ownsRow base e 1 v n xs) (base' : Nat) (hk : ∀ r, v.ownBlock = some r → base' ≤ r) : w.ownsRow base' e 1 v n xs := by
  refine ⟨h.1, ?_⟩
  rcases h.2 with h2 | ⟨g, cap, cur, rfl, hg, h3, r⟩
  · exact .inl h2
  · exact .inr ⟨g, cap, cur, rfl, hk g rfl, h3, r⟩
theorem map_keep {w w' : World} {k : TypeId} {R : Value → Option (DataW Unit × List MemPlace)} {b n : Nat} {D : DataW Unit} (h : w.ownsMap Try.prog k R b n D) (hk : w'.heap[b]? = w.heap[b]?) : w'.ownsMap Try.prog k R b n D := by
  obtain ⟨es, clock, h1, h2⟩ := h
  exact ⟨es, clock, hk.trans h1, h2⟩
theorem map_tight {w : World} {k : TypeId} {R : Value → Option (DataW Unit × List MemPlace)} {b n : Nat} {D : DataW Unit} (h : w.ownsMap Try.prog k R b n D) : w.ownsMap Try.prog k R b (Maps.size D) D := by
  obtain ⟨es, clock, h1, h2, h3, rfl⟩ := h
  exact ⟨es, clock, h1, h2, by simp [Maps.size, length_sorted], rfl⟩
theorem FileIn.keep {T T' : Nat → Prop} {W W' : World} {g : G} (h : FileIn T W g) (hk : W'.heap[g.k]? = W.heap[g.k]?) (hr : ∀ r, g.v.ownBlock = some r → W'.heap[r]? = W.heap[r]?) (ht : ∀ b, T b → T' b) : FileIn T' W' g :=
  ⟨hk.trans h.cells, h.own.keep hr, ht _ h.tk, fun r e => ht _ (h.tr r e), h.s0, h.s1, h.mx, h.nmv⟩
section
variable {T : Nat → Prop} {D M steps : Nat} {gs : List G} {hb : Bool} {rm : Int} {W W' : World}
theorem DK.keep (h : DK T D M gs steps hb rm W) (hk : ∀ b, T b → W'.heap[b]? = W.heap[b]?) (hs : W.heap.size ≤ W'.heap.size) : DK T D M gs steps hb rm W' :=
  ⟨(hk D h.tD).trans h.disk, map_keep h.map (hk M h.tM), fun g hg => (h.files g hg).keep (hk _ (h.files g hg).tk) (fun r e => hk r ((h.files g hg).tr r e)) (fun _ x => x), h.rise, h.apart, h.tD, h.tM, fun b hb => Nat.lt_of_lt_of_le (h.lt b hb) hs, h.r0, h.r1⟩
theorem DK.below (h : DK T D M gs steps hb rm W) (hbl : Below W.heap.size W W') : DK T D M gs steps hb rm W' := h.keep (fun b hb => hbl.block b (h.lt b hb)) hbl.size
theorem DK.other {T2 : Nat → Prop} (h : DK T D M gs steps hb rm W) (hk : KeepT T2 W W') (hd : ∀ b, T b → ¬ T2 b) : DK T D M gs steps hb rm W' := h.keep (fun b hb => hk.block b (h.lt b hb) (hd b hb)) hk.size
theorem block_types {a : Nat} {x y : Array Value} {t u : TypeId} {p q : Nat × Nat} (h : W.heap[a]? = some (.cells x t p)) (k : W.heap[a]? = some (.cells y u q)) : t = u := by
  rw [h] at k; cases k; rfl
theorem own_type {g : G} (h : FileIn T W g) : ∀ r, g.v.ownBlock = some r → ∃ x p, W.heap[r]? = some (.cells x 5 p) := by
  intro r e
  rcases h.own.2 with ⟨h2, _⟩ | ⟨b, cap, cur, fz, h2, h3, _⟩
  · rw [h2] at e; cases e
  · rw [h2] at e
    cases e
    exact ⟨_, _, h3⟩
/-- Blocks of other kinds are other blocks. -/
theorem DK.ne_file (h : DK T D M gs steps hb rm W) {g : G} (hg : g ∈ gs) : g.k ≠ D ∧ g.k ≠ M ∧ M ≠ D ∧ ∀ r, g.v.ownBlock = some r → r ≠ D ∧ r ≠ M ∧ r ≠ g.k := by
  have hf := h.files g hg
  obtain ⟨es, clock, hm, _⟩ := h.map
  refine ⟨fun e => ?_, fun e => ?_, fun e => ?_, fun r er => ⟨fun e => ?_, fun e => ?_, fun e => ?_⟩⟩
  · have := block_types hf.cells (by rw [e]; exact h.disk); cases this
  · have h1 := hf.cells
    rw [e, hm] at h1; cases h1
  · have h1 := h.disk
    rw [← e, hm] at h1; cases h1
  · obtain ⟨x, p, h2⟩ := own_type hf r er
    have := block_types h2 (by rw [e]; exact h.disk); cases this
  · obtain ⟨x, p, h2⟩ := own_type hf r er
    rw [e, hm] at h2; cases h2
  · obtain ⟨x, p, h2⟩ := own_type hf r er
    have := block_types h2 (by rw [e]; exact hf.cells); cases this
theorem DK.ne_map (h : DK T D M gs steps hb rm W) : M ≠ D := by
  obtain ⟨es, clock, hm, _⟩ := h.map
  intro e
  have h1 := h.disk
  rw [← e, hm] at h1; cases h1
theorem DK.row_file (h : DK T D M gs steps hb rm W) {g a : G} (hg : g ∈ gs) (ha : a ∈ gs) : ∀ r, g.v.ownBlock = some r → r ≠ a.k := by
  intro r er e
  obtain ⟨x, p, h2⟩ := own_type (h.files g hg) r er
  have := block_types h2 (by rw [e]; exact (h.files a ha).cells); cases this
/-- With a file, new or in the place of one. -/
theorem DK.put {T' : Nat → Prop} {n : Nat} {g' : G} (h : DK T D M gs steps hb rm W) (hD : W'.heap[D]? = W.heap[D]?) (hmap : W'.ownsMap Try.prog 9 ptrR M n (dMap gn G.k (wth gn gs g'))) (hf : FileIn T' W' g')
    (hk : ∀ a ∈ gs, gn a ≠ gn g' → W'.heap[a.k]? = W.heap[a.k]? ∧ ∀ r, a.v.ownBlock = some r → W'.heap[r]? = W.heap[r]?)
    (hap : ∀ a ∈ gs, gn a ≠ gn g' → a.k ≠ g'.k ∧ ∀ r, a.v.ownBlock = some r → g'.v.ownBlock ≠ some r)
    (ht : ∀ b, T b → T' b) (hlt : ∀ b, T' b → b < W'.heap.size) : DK T' D M (wth gn gs g') steps hb rm W' := by
  refine ⟨hD.trans h.disk, ?_, fun g hg => ?_, h.rise.wth g', fun a ha b hb2 hne => ?_, ht _ h.tD, ht _ h.tM, hlt, h.r0, h.r1⟩
  · have := map_tight hmap
    rwa [size_ent] at this
  · rcases mem_wth.1 hg with rfl | ⟨h1, h2⟩
    · exact hf
    · exact (h.files g h1).keep (hk g h1 h2).1 (hk g h1 h2).2 ht
  · rcases mem_wth.1 ha with rfl | ⟨h1, h2⟩
    · rcases mem_wth.1 hb2 with rfl | ⟨h3, h4⟩
      · exact absurd rfl hne
      · exact ⟨(hap b h3 h4).1.symm, fun r e e2 => (hap b h3 h4).2 r e2 e⟩
    · rcases mem_wth.1 hb2 with rfl | ⟨h3, h4⟩
      · exact hap a h1 h2
      · exact h.apart a h1 b h3 hne
/-- Without a file. -/
theorem DK.del {n : Nat} (h : DK T D M gs steps hb rm W) (nm : ByteArray) (hk : ∀ b, T b → b ≠ M → W'.heap[b]? = W.heap[b]?) (hs : W.heap.size ≤ W'.heap.size) (hmap : W'.ownsMap Try.prog 9 ptrR M n (dMap gn G.k (drp gn gs nm))) :
    DK T D M (drp gn gs nm) steps hb rm W' := by
  have hsub : ∀ g, g ∈ drp gn gs nm → g ∈ gs := fun g hg => (List.mem_filter.1 hg).1
  refine ⟨(hk D h.tD h.ne_map.symm).trans h.disk, ?_, fun g hg => ?_, h.rise.drp nm, fun a ha b hb2 hne => h.apart a (hsub a ha) b (hsub b hb2) hne, h.tD, h.tM, fun b hb => Nat.lt_of_lt_of_le (h.lt b hb) hs, h.r0, h.r1⟩
  · have := map_tight hmap
    rwa [size_ent] at this
  · have hg' := hsub g hg
    have hne := h.ne_file hg'
    exact (h.files g hg').keep (hk _ (h.files g hg').tk hne.2.1) (fun r e => hk r ((h.files g hg').tr r e) (hne.2.2.2 r e).2.1) (fun _ x => x)
/-- Other numbers in the disk's own cells. -/
theorem DK.count (h : DK T D M gs steps hb rm W) {steps' : Nat} {hb' : Bool} {rm' : Int} (hD : W'.heap[D]? = some (.cells #[.map (some M), .int .i64 steps', .bool hb', .int .i64 rm'] 70 (0, 0))) (hk : ∀ b, T b → b ≠ D → W'.heap[b]? = W.heap[b]?) (hs : W.heap.size ≤ W'.heap.size) (q0 : 0 ≤ rm') (q1 : rm' ≤ 9223372036854775807) :
    DK T D M gs steps' hb' rm' W' :=
  ⟨hD, map_keep h.map (hk M h.tM h.ne_map), fun g hg => (h.files g hg).keep (hk _ (h.files g hg).tk (h.ne_file hg).1) (fun r e => hk r ((h.files g hg).tr r e) ((h.ne_file hg).2.2.2 r e).1) (fun _ x => x), h.rise, h.apart, h.tD, h.tM, fun b hb => Nat.lt_of_lt_of_le (h.lt b hb) hs, q0, q1⟩
/-- The disk's own cells. -/
theorem DK.cellsD (h : DK T D M gs steps hb rm W) : W.cell? ⟨D, 0, none⟩ = some (.map (some M)) ∧ W.cell? ⟨D, 1, none⟩ = some (.int .i64 steps) ∧ W.cell? ⟨D, 2, none⟩ = some (.bool hb) ∧ W.cell? ⟨D, 3, none⟩ = some (.int .i64 rm) := by
  refine ⟨?_, ?_, ?_, ?_⟩ <;> (simp only [World.cell?, h.disk]; rfl)
theorem DK.freeD (h : DK T D M gs steps hb rm W) (j : Nat) : W.frozen? ⟨D, j, none⟩ = false := by
  simp [World.frozen?, h.disk]
theorem FileIn.cellsF {g : G} (h : FileIn T W g) : W.cell? ⟨g.k, 0, none⟩ = some g.v ∧ W.cell? ⟨g.k, 1, none⟩ = some (.int .i64 g.f.sync) := by
  refine ⟨?_, ?_⟩ <;> (simp only [World.cell?, h.cells]; rfl)
theorem FileIn.freeF {g : G} (h : FileIn T W g) (j : Nat) : W.frozen? ⟨g.k, j, none⟩ = false := by
  simp [World.frozen?, h.cells]
theorem FileIn.nsz {g : G} (h : FileIn T W g) : g.f.name.size ≤ maxLen := by have := nameB_le h.nmv; simp only [maxLen]; omega
/-- What a name finds. -/
theorem DK.look (h : DK T D M gs steps hb rm W) (n : ByteArray) (hn : n.size ≤ maxLen) : (Instr.lookup 68 (.map (some M)) (.string n) false).run Try.prog W = .ok (match fnd gn gs n with | some g => .pointer (some ⟨g.k, 0, none⟩) | none => .pointer none) W := by
  have hz : (zeroValue 65).run Try.prog W = .ok (.pointer none) W := by kernel_rfl
  have hkey : keyOf Try.prog 9 (.string n) = some (.string (bl n)) := keyOf_string_mk Try.underlying9 hn
  obtain ⟨v, ps, hrun, hv⟩ := h.map.lookup (Maps.string_keyed Try.underlying9) Try.underlying68 hz (zd := .nil) (zp := []) rfl hkey
  rw [hrun]
  rw [at_ent] at hv
  cases hq : fnd gn gs n with
  | none => rw [hq] at hv; rw [ptrR_nil hv]
  | some g => rw [hq] at hv; rw [ptrR_some hv]
end
end Go.Proofs.Ytcfglgejjmapdaa
