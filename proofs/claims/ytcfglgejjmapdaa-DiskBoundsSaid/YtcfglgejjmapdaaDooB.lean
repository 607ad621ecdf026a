/- What the other steps do. -/
import Derived.Test.YtcfglgejjmapdaaDoo
namespace Go.Proofs.Ytcfglgejjmapdaa
open Go Go.RowKit Go.Shelf Go.ChangeMaps Go.WideMaps
section
variable {P : Program} {w : World} {ops : Array Oper} {rest : List Oper} {o : Oper} {a : Act} {Q : Act → Prop}
theorem still_slice_hi (hg : o.guard = none) (x y : Operand) (t e : TypeId) (ho : o.op = .slice t x none (some y) none) (ht : P.underlying t = some (.slice e)) (hs : (sizeOf e).run P w = .ok 1 w)
    (A : Option Addr) (n c : Nat) (hx : a.eval x = .slice A n c) (k : IntKind) (H : Nat) (hy : a.eval y = .int k (H : Int)) (hH : H ≤ c) (hK : wpStill P ops w Q rest (a.put o.dst (.slice A H c))) : wpStill P ops w Q (o :: rest) a := by
  refine wpStill_step fun K hK' => ?_
  have hw : Region.wanted o (yielded ops a.tmps) = true := by simp [Region.wanted, hg]
  rw [if_pos hw]
  have he : P.elem t = e := by simp [Program.elem, ht]
  have hrun := run_slice_h (P := P) w t A n c (by rw [he]; exact ht) k (H : Int) (by omega) (by omega)
  rw [he, hs] at hrun
  have hz : (if c = 0 then A else Option.map (fun x => x.add 0) A) = A := by
    split
    · rfl
    · cases A <;> simp [add_zero]
  unfold Oper.still
  simp only [execOp, ho, Sem.run_bind, Sem.run_pure, Result.andThen_ok, hx, Option.map_none, Option.map_some, hy]
  rw [run_sliceAt_slice (h := by rw [he]; exact ht)]
  rw [hrun]
  simp only [Result.andThen_ok, sliced, Nat.zero_mul, hz, Nat.sub_zero, Int.toNat_natCast]
  exact ⟨rfl, hK' _ hK⟩
end
section
variable {T : Nat → Prop} {D M steps : Nat} {gs : List G} {hb : Bool} {rm : Int}

set_option maxRecDepth 100000 in
set_option maxHeartbeats 4000000 in
theorem do_remove (w : World) (b0 b1 : Nat) (nm : ByteArray) (hn : nm.size ≤ maxLen) (q0 : Bx w b0 (.pointer (some ⟨D, 0, none⟩))) (q1 : Bx w b1 (.string nm)) (hbt : ¬ T b0 ∧ ¬ T b1) (X : World) (hR : Ready T D M gs steps hb rm w X) :
    Calls Try.prog 52 #[.pointer (some ⟨b0, 0, none⟩), .pointer (some ⟨b1, 0, none⟩)] X (DoQ T D M (drp F.name (gs.map G.f) nm) steps hb rm w) := by
  have hD := hR.dk.tD
  have c0 := q0.ready hR (fun e => hbt.1 (by rw [e]; exact hD))
  have c1 := q1.ready hR (fun e => hbt.2 (by rw [e]; exact hD))
  unfold Bx at c0 c1
  have hX := hR.dk
  have cd := hX.cellsD.1
  obtain ⟨V, hV⟩ : ∃ V, V = X.drew := ⟨_, rfl⟩
  have hB : Below X.heap.size X V := by rw [hV]; exact (Below.refl _ _).drew
  have hVX := hX.below hB
  obtain ⟨X', hrun, hX', s1, s2, s3, s4, s5⟩ := hVX.run_del nm hn
  have d0 : V.cell? ⟨b0, 0, none⟩ = some (.pointer (some ⟨D, 0, none⟩)) := by rw [hV]; exact c0
  have d1 : V.cell? ⟨b1, 0, none⟩ = some (.string nm) := by rw [hV]; exact c1
  have dd : V.cell? ⟨D, 0, none⟩ = some (.map (some M)) := by rw [hV]; exact cd
  have HSQ : Hid (StepQ T D M (drp F.name (gs.map G.f) nm) (steps + 1) hb (if hb then rm - 1 else rm) w X') := Lib.hid (StepQ.from hR ⟨T, _, hX', drp_map (nm := F.name) G.f gs nm, fun b hb => .inl hb,
    ⟨s3.trans hB.os, s4.trans hB.tape, s5.trans hB.output, by rw [s1]; exact hB.size, fun b hb hn => (s2 b (fun e => hn (by rw [e]; exact hX.tM))).trans (hB.block b hb)⟩⟩)
  clear hX' hVX s1 s2 s3 s4 s5 hX hR q0 q1 c0 c1 cd hD hbt
  go_enter Try.func52, Try.ntmps52
  refine tail_at hV 5 (by kernel_rfl) (by kernel_rfl) ?_
  clear hV hB
  simp only [List.take_succ_cons, List.take_zero, List.drop_succ_cons, List.drop_zero]
  repeat still_step
  try refine wpStill_nil ?_
  refine wpList_del ?_ (.tmp 5) (.tmp 6) #[68, 9] ?_ (.map (some M)) (.string nm) (.tuple #[]) X' ?_ ?_ ?_ ?_
  · rfl
  · rfl
  · rfl
  · rfl
  · exact hrun
  go_wp2_with fail
  go_end0
  exact ⟨rfl, HSQ.out⟩

set_option maxRecDepth 100000 in
set_option maxHeartbeats 4000000 in
theorem do_sync (w : World) (b0 b1 : Nat) (nm : ByteArray) (hn : nm.size ≤ maxLen) (q0 : Bx w b0 (.pointer (some ⟨D, 0, none⟩))) (q1 : Bx w b1 (.string nm)) (hbt : ¬ T b0 ∧ ¬ T b1) {g : G} (hq : fnd gn gs nm = some g) (X : World) (hR : Ready T D M gs steps hb rm w X) :
    Calls Try.prog 48 #[.pointer (some ⟨b0, 0, none⟩), .pointer (some ⟨b1, 0, none⟩)] X (DoQ T D M (wth F.name (gs.map G.f) ⟨nm, g.f.bytes, g.f.bytes.size⟩) steps hb rm w) := by
  have hD := hR.dk.tD
  have c0 := q0.ready hR (fun e => hbt.1 (by rw [e]; exact hD))
  have c1 := q1.ready hR (fun e => hbt.2 (by rw [e]; exact hD))
  unfold Bx at c0 c1
  have hX := hR.dk
  have cd := hX.cellsD.1
  obtain ⟨hg, hgn⟩ := fnd_mem hq
  have hl1 := look_some X hX nm hn hq
  have hf := hX.files g hg
  obtain ⟨f0, f1⟩ := hf.cellsF
  have ff := hf.freeF 1
  obtain ⟨Ag, cg, hvg, -⟩ := hf.own.rdV
  have hne := hX.ne_file hg
  have hmx := hf.mx
  have HSQ : Hid (∀ q, StepQ T D M (wth F.name (gs.map G.f) ⟨nm, g.f.bytes, g.f.bytes.size⟩) (steps + 1) hb (if hb then rm - 1 else rm) w ((X.drewN q).setCell ⟨g.k, 1, none⟩ (.int .i64 g.f.bytes.size))) := Lib.hid (fun q => by
    have hc := heap_setCell_same (X.drewN q) g.k 1 _ 67 (.int .i64 g.f.bytes.size) hf.cells
    have h9 := StepQ.from hR (upd_cells (v' := g.v) (b' := g.f.bytes) (s' := g.f.bytes.size) hX hg (W' := (X.drewN q).setCell ⟨g.k, 1, none⟩ (.int .i64 g.f.bytes.size)) (by simpa using hc) (fun b _ hne => Below.heap_setCell _ ⟨g.k, 1, none⟩ _ b hne)
      (((KeepT.refl T X).drew q).setCell ⟨g.k, 1, none⟩ _ hf.tk) hf.own (fun r e => e) (by omega) (Int.le_refl _) hf.mx)
    rw [show g.f.name = nm from hgn] at h9
    exact h9)
  rw [hvg] at f0
  clear hX hR q0 q1 hD hbt hf hg hgn hq hvg hne
  go_enter Try.func48, Try.ntmps48
  go_wp2_with fail
  go_quiet (fail)
  rename_i nq
  go_wp2_with fail
  go_end0
  exact ⟨rfl, HSQ.out _⟩

/-- A file under another name. -/
theorem DK.rename {X X' : World} {g : G} {nm : ByteArray} (h : DK T D M gs steps hb rm X) (hg : ∀ a ∈ gs, a.k ≠ g.k ∧ ∀ r, a.v.ownBlock = some r → g.v.ownBlock ≠ some r) (hf : FileIn T X g) (hm : X'.ownsMap Try.prog 9 ptrR M (gs.length + 1) ((dMap gn G.k gs).put (.string (bl nm)) (.lit (.int .i64 g.k)))) (ht : X.mapTurned X' M)
    (hnm : nameB nm = true) : DK T D M (wth gn gs ⟨⟨nm, g.f.bytes, g.f.sync⟩, g.k, g.v⟩) steps hb rm X' ∧ KeepT T X X' := by
  obtain ⟨es, clock, es', clock', hb2, rfl⟩ := ht
  have hsz : (setBlock X M (.map es' clock')).heap.size = X.heap.size := by simp [setBlock]
  have ho : ∀ b, b ≠ M → (setBlock X M (.map es' clock')).heap[b]? = X.heap[b]? := fun b hne => heap_setBlock_other hb2 _ hne
  have hk : g.k ≠ M := fun e => by have h1 := hf.cells; rw [e, hb2] at h1; cases h1
  have hr : ∀ r, g.v.ownBlock = some r → r ≠ M := fun r e e2 => by
    obtain ⟨x, p, h2⟩ := own_type hf r e
    rw [e2, hb2] at h2; cases h2
  refine ⟨h.put (T' := T) (ho D h.ne_map.symm) (by rw [← put_ent (nm := gn) (kk := G.k) (⟨⟨nm, g.f.bytes, g.f.sync⟩, g.k, g.v⟩ : G) h.rise]; exact hm) ⟨(ho _ hk).trans hf.cells, hf.own.keep (fun r e => ho r (hr r e)), hf.tk, hf.tr, hf.s0, hf.s1, hf.mx, hnm⟩ (fun a ha _ => ?_) (fun a ha _ => hg a ha) (fun b hb => hb) (fun b hb => by rw [hsz]; exact h.lt b hb), ?_⟩
  · have hne := h.ne_file ha
    exact ⟨ho _ hne.2.1, fun r e => ho r (hne.2.2.2 r e).2.1⟩
  · exact ⟨rfl, rfl, rfl, by rw [hsz]; exact Nat.le_refl _, fun b hb hn => ho b (fun e => hn (by rw [e]; exact h.tM))⟩
set_option maxRecDepth 100000 in
set_option maxHeartbeats 4000000 in
theorem do_rename (w : World) (b0 b1 b2 : Nat) (nm nm2 : ByteArray) (hn : nm.size ≤ maxLen) (hn2 : nm2.size ≤ maxLen) (hnm : nameB nm2 = true) (q0 : Bx w b0 (.pointer (some ⟨D, 0, none⟩))) (q1 : Bx w b1 (.string nm)) (q2 : Bx w b2 (.string nm2)) (hbt : ¬ T b0 ∧ ¬ T b1 ∧ ¬ T b2) {g : G} (hq : fnd gn gs nm = some g) (hgl : gs.length ≤ 100000) (X : World) (hR : Ready T D M gs steps hb rm w X) :
    Calls Try.prog 50 #[.pointer (some ⟨b0, 0, none⟩), .pointer (some ⟨b1, 0, none⟩), .pointer (some ⟨b2, 0, none⟩)] X (DoQ T D M (wth F.name (drp F.name (gs.map G.f) nm) ⟨nm2, g.f.bytes, g.f.sync⟩) steps hb rm w) := by
  have hD := hR.dk.tD
  have c0 := q0.ready hR (fun e => hbt.1 (by rw [e]; exact hD))
  have c1 := q1.ready hR (fun e => hbt.2.1 (by rw [e]; exact hD))
  have c2 := q2.ready hR (fun e => hbt.2.2 (by rw [e]; exact hD))
  unfold Bx at c0 c1 c2
  have hX := hR.dk
  have cd := hX.cellsD.1
  obtain ⟨hg, hgn⟩ := fnd_mem hq
  have hl1 := look_some X hX nm hn hq
  have HR := Lib.hid hR
  have HX := Lib.hid hX
  have HG := Lib.hid hg
  have HGN := Lib.hid hgn
  have HNM := Lib.hid hnm
  have HBT := Lib.hid hbt
  clear hX hR q0 q1 q2 hD hbt hg hgn hq hnm
  go_enter Try.func50, Try.ntmps50
  go_wp2_with fail
  go_quiet (fail)
  rename_i nq
  go_wp2_with fail
  obtain ⟨V, hV⟩ : ∃ V, V = (X.drewN nq).drew := ⟨_, rfl⟩
  have hB : Below X.heap.size X V := by rw [hV]; exact (below_any nq (Below.refl X.heap.size X)).drew
  have hVX := HX.out.below hB
  obtain ⟨X1, hrun, hX1, s1, s2, s3, s4, s5⟩ := hVX.run_del nm hn
  have d0 : V.cell? ⟨b0, 0, none⟩ = some (.pointer (some ⟨D, 0, none⟩)) := by rw [hV]; exact c0
  have d1 : V.cell? ⟨b1, 0, none⟩ = some (.string nm) := by rw [hV]; exact c1
  have dd : V.cell? ⟨D, 0, none⟩ = some (.map (some M)) := by rw [hV]; exact cd
  have k1 : KeepT T X X1 := ⟨s3.trans hB.os, s4.trans hB.tape, s5.trans hB.output, by rw [s1]; exact hB.size, fun b hb hn => (s2 b (fun e => hn (by rw [e]; exact HX.out.tM))).trans (hB.block b hb)⟩
  have c0' : X1.cell? ⟨b0, 0, none⟩ = some (.pointer (some ⟨D, 0, none⟩)) := (World.cell?_of_block (w := X) (a := ⟨b0, 0, none⟩) (k1.block b0 (World.block_lt_of_cell? X _ c0) HBT.out.1)).trans c0
  have c2' : X1.cell? ⟨b2, 0, none⟩ = some (.string nm2) := (World.cell?_of_block (w := X) (a := ⟨b2, 0, none⟩) (k1.block b2 (World.block_lt_of_cell? X _ c2) HBT.out.2.2)).trans c2
  have cd' := hX1.cellsD.1
  obtain ⟨W, hW⟩ : ∃ W, W = X1.drew := ⟨_, rfl⟩
  have hB1 : Below X1.heap.size X1 W := by rw [hW]; exact (Below.refl X1.heap.size X1).drew
  have hW1 := hX1.below hB1
  have hlen : (drp gn gs nm).length ≤ gs.length := List.length_filter_le _ _
  obtain ⟨X2, hrun2, hm, ht⟩ := hW1.run_put nm2 hn2 (by simp only [maxLen]; omega) g.k
  have e0 : W.cell? ⟨b0, 0, none⟩ = some (.pointer (some ⟨D, 0, none⟩)) := by rw [hW]; exact c0'
  have e2 : W.cell? ⟨b2, 0, none⟩ = some (.string nm2) := by rw [hW]; exact c2'
  have ed : W.cell? ⟨D, 0, none⟩ = some (.map (some M)) := by rw [hW]; exact cd'
  have hne := HX.out.ne_file HG.out
  have hf := HX.out.files g HG.out
  have hfW : FileIn T W g := hf.keep ((hB1.block _ (by have := k1.size; have := HX.out.lt _ hf.tk; omega)).trans ((s2 _ hne.2.1).trans (hB.block _ (HX.out.lt _ hf.tk)))) (fun r e => (hB1.block _ (by have := k1.size; have := HX.out.lt _ (hf.tr r e); omega)).trans ((s2 _ (hne.2.2.2 r e).2.1).trans (hB.block _ (HX.out.lt _ (hf.tr r e))))) (fun _ x => x)
  obtain ⟨hX2, k2⟩ := hW1.rename (g := g) (nm := nm2) (fun a ha => HX.out.apart a (List.mem_filter.1 ha).1 g HG.out (by rw [show gn g = nm from HGN.out]; exact drp_ne ha)) hfW hm ht HNM.out
  have HSQ : Hid (StepQ T D M (wth F.name (drp F.name (gs.map G.f) nm) ⟨nm2, g.f.bytes, g.f.sync⟩) (steps + 1) hb (if hb then rm - 1 else rm) w X2) := Lib.hid (StepQ.from HR.out ⟨T, _, hX2, (wth_map (nm := F.name) G.f _ _).trans (by rw [show (drp gn gs nm).map G.f = drp F.name (gs.map G.f) nm from drp_map (nm := F.name) G.f gs nm]), fun b hb => .inl hb,
    (k1.trans (KeepT.of_below hB1) (fun b hb => .inl hb)).trans k2 (fun b hb => .inl hb)⟩)
  clear hX2 k2 hfW hf hne hm ht hlen hW1 hX1 s1 s2 s3 s4 s5 hVX k1 c0 c1 c2 cd hl1
  refine tail_at hV 5 (by kernel_rfl) (by kernel_rfl) ?_
  clear hV hB
  simp only [List.take_succ_cons, List.take_zero, List.drop_succ_cons, List.drop_zero]
  repeat still_step
  try refine wpStill_nil ?_
  refine wpList_del ?_ (.tmp 13) (.tmp 14) #[68, 9] ?_ (.map (some M)) (.string nm) (.tuple #[]) X1 ?_ ?_ ?_ ?_
  · rfl
  · rfl
  · rfl
  · rfl
  · exact hrun
  go_wp2_with fail
  refine tail_at hW 6 (by kernel_rfl) (by kernel_rfl) ?_
  clear hW hB1
  simp only [List.take_succ_cons, List.take_zero, List.drop_succ_cons, List.drop_zero]
  repeat still_step
  try refine wpStill_nil ?_
  go_wp2_with fail
  go_end0
  exact ⟨rfl, HSQ.out⟩

theorem cut_size (b : ByteArray) (H : Nat) (h : H ≤ b.size) : (⟨((bl b).take H).toArray⟩ : ByteArray).size = H := by
  show ((bl b).take H).toArray.size = H
  have h1 : (bl b).length = b.size := by rw [Array.length_toList]; rfl
  rw [List.size_toArray, List.length_take, h1]
  omega
set_option maxRecDepth 100000 in
set_option maxHeartbeats 4000000 in
theorem do_cut (w : World) (b0 b1 b2 : Nat) (nm : ByteArray) (hn : nm.size ≤ maxLen) (H : Nat) (q0 : Bx w b0 (.pointer (some ⟨D, 0, none⟩))) (q1 : Bx w b1 (.string nm)) (q2 : Bx w b2 (.int .i64 (H : Int))) (hbt : ¬ T b0 ∧ ¬ T b1 ∧ ¬ T b2) {g : G} (hq : fnd gn gs nm = some g) (hH : H ≤ g.f.bytes.size) (X : World) (hR : Ready T D M gs steps hb rm w X) :
    Calls Try.prog 45 #[.pointer (some ⟨b0, 0, none⟩), .pointer (some ⟨b1, 0, none⟩), .pointer (some ⟨b2, 0, none⟩)] X (DoQ T D M (wth F.name (gs.map G.f) ⟨nm, ⟨((bl g.f.bytes).take H).toArray⟩, min g.f.sync H⟩) steps hb rm w) := by
  have hD := hR.dk.tD
  have c0 := q0.ready hR (fun e => hbt.1 (by rw [e]; exact hD))
  have c1 := q1.ready hR (fun e => hbt.2.1 (by rw [e]; exact hD))
  have c2 := q2.ready hR (fun e => hbt.2.2 (by rw [e]; exact hD))
  unfold Bx at c0 c1 c2
  have hX := hR.dk
  have cd := hX.cellsD.1
  obtain ⟨hg, hgn⟩ := fnd_mem hq
  have hl1 := look_some X hX nm hn hq
  have hf := hX.files g hg
  have hmx := hf.mx
  have hs0 := hf.s0
  have hs1 := hf.s1
  obtain ⟨Ag, cg, hvg, -⟩ := hf.own.rdV
  have hown := hf.own
  rw [hvg] at hown
  obtain ⟨-, hcg⟩ := hown.len
  have hcells := hf.cells
  rw [hvg] at hcells
  have hbne : b2 ≠ g.k := fun e => hbt.2.2 (by rw [e]; exact hf.tk)
  have HSQ : Hid (∀ W : World, W.heap[g.k]? = some (.cells #[.slice Ag H cg, .int .i64 (min g.f.sync H)] 67 (0, 0)) → (∀ b, b ≠ g.k → W.heap[b]? = X.heap[b]?) → W.heap.size = X.heap.size → W.os = X.os → W.tape = X.tape → W.output = X.output → StepQ T D M (wth F.name (gs.map G.f) ⟨nm, ⟨((bl g.f.bytes).take H).toArray⟩, min g.f.sync H⟩) (steps + 1) hb (if hb then rm - 1 else rm) w W) := Lib.hid (fun W h1 h2 h3 h4 h5 h6 => by
    have h9 := StepQ.from hR (upd_cells (v' := .slice Ag H cg) (b' := ⟨((bl g.f.bytes).take H).toArray⟩) (s' := min g.f.sync H) hX hg (W' := W) h1 (fun b _ hne => h2 b hne)
      ⟨h4, h5, h6, by omega, fun b _ hn => h2 b (fun e => hn (by rw [e]; exact hf.tk))⟩ (by
        rw [cut_size _ _ hH]
        show OwnsM X _ H (cellsB ((bl g.f.bytes).take H))
        rw [cellsB, List.map_take]
        exact hown.take H hH) (fun r e => by rw [hvg]; cases Ag <;> exact e) (by omega) (by rw [cut_size _ _ hH]; omega) (by rw [cut_size _ _ hH]; omega))
    rw [show g.f.name = nm from hgn] at h9
    exact h9)
  have f0 := hf.cellsF.1
  rw [hvg] at f0
  generalize hsy : g.f.sync = sy at *
  clear hX hR q0 q1 q2 hD hbt hf hg hgn hq hvg hown
  go_enter Try.func45, Try.ntmps45
  go_wp2_with fail
  go_quiet (fail)
  rename_i nq
  go_wp2_with fail
  obtain ⟨V, hV⟩ : ∃ V, V = (X.drewN nq).drew := ⟨_, rfl⟩
  have hVs : V.heap.size = X.heap.size ∧ V.os = X.os ∧ V.tape = X.tape ∧ V.output = X.output ∧ ∀ b : Nat, V.heap[b]? = X.heap[b]? := by rw [hV]; exact ⟨rfl, rfl, rfl, rfl, fun _ => rfl⟩
  have e0 : V.cell? ⟨g.k, 0, none⟩ = some (.slice Ag g.f.bytes.size cg) := by rw [hV]; exact f0
  have e2 : V.cell? ⟨b2, 0, none⟩ = some (.int .i64 (H : Int)) := by rw [hV]; exact c2
  have ef : V.frozen? ⟨g.k, 0, none⟩ = false := by simp [World.frozen?, hVs.2.2.2.2, hcells]
  obtain ⟨U, hU⟩ : ∃ U, U = (V.setCell ⟨g.k, 0, none⟩ (.slice Ag H cg)).drew := ⟨_, rfl⟩
  have hUc : U.heap[g.k]? = some (.cells #[.slice Ag H cg, .int .i64 sy] 67 (0, 0)) := by
    have hc := heap_setCell_same V g.k 0 _ 67 (.slice Ag H cg) ((hVs.2.2.2.2 g.k).trans hcells)
    rw [hU]
    show (V.setCell ⟨g.k, 0, none⟩ (.slice Ag H cg)).heap[g.k]? = _
    simpa using hc
  have hUs : U.heap.size = X.heap.size ∧ U.os = X.os ∧ U.tape = X.tape ∧ U.output = X.output ∧ ∀ b : Nat, b ≠ g.k → U.heap[b]? = X.heap[b]? := by
    rw [hU]
    exact ⟨(by simp [World.setCell] : (V.setCell ⟨g.k, 0, none⟩ (.slice Ag H cg)).heap.size = V.heap.size).trans hVs.1, hVs.2.1, hVs.2.2.1, hVs.2.2.2.1, fun b hb => (Below.heap_setCell V ⟨g.k, 0, none⟩ _ b hb).trans (hVs.2.2.2.2 b)⟩
  have u1 : U.cell? ⟨g.k, 1, none⟩ = some (.int .i64 sy) := by simp only [World.cell?, hUc]; rfl
  have u2 : U.cell? ⟨b2, 0, none⟩ = some (.int .i64 (H : Int)) := (World.cell?_of_block (w := X) (a := ⟨b2, 0, none⟩) (hUs.2.2.2.2 b2 hbne)).trans c2
  have uf : U.frozen? ⟨g.k, 1, none⟩ = false := by simp [World.frozen?, hUc]
  have HF : Hid (StepQ T D M (wth F.name (gs.map G.f) ⟨nm, ⟨((bl g.f.bytes).take H).toArray⟩, min sy H⟩) (steps + 1) hb (if hb then rm - 1 else rm) w (U.setCell ⟨g.k, 1, none⟩ (.int .i64 (min sy H)))) := Lib.hid (HSQ.out _ (by
      have hc := heap_setCell_same U g.k 1 _ 67 (.int .i64 (min sy H)) hUc
      simpa using hc) (fun b hb => (Below.heap_setCell U ⟨g.k, 1, none⟩ _ b hb).trans (hUs.2.2.2.2 b hb)) ((by simp [World.setCell] : (U.setCell ⟨g.k, 1, none⟩ (.int .i64 (min sy H))).heap.size = U.heap.size).trans hUs.1) hUs.2.1 hUs.2.2.1 hUs.2.2.2.1)
  clear hVs hUs hUc HSQ f0 c0 c1 c2 cd hcells hl1 hsy
  refine tail_at hV 7 (by kernel_rfl) (by kernel_rfl) ?_
  clear hV 
  simp only [List.take_succ_cons, List.take_zero, List.drop_succ_cons, List.drop_zero]
  repeat still_step
  refine still_slice_hi ?_ (.tmp 14) (.tmp 15) 35 5 ?_ Try.underlying35 (sz5 _) Ag g.f.bytes.size cg ?_ .i64 H ?_ (by omega) ?_
  · rfl
  · rfl
  · rfl
  · rfl
  try refine wpStill_nil ?_
  go_wp2_with fail
  refine tail_at hU 7 (by kernel_rfl) (by kernel_rfl) ?_
  clear hU 
  simp only [List.take_succ_cons, List.take_zero, List.drop_succ_cons, List.drop_zero]
  repeat still_step
  try refine wpStill_nil ?_
  go_wp2_with fail
  go_end0
  exact ⟨rfl, HF.out⟩
end
end Go.Proofs.Ytcfglgejjmapdaa
