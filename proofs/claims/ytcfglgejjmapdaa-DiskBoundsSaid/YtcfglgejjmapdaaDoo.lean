/- What a step does. -/
import Derived.Test.YtcfglgejjmapdaaUpd
import Derived.StillTailTactics
import Derived.OrdersHeld
namespace Go.Proofs.Ytcfglgejjmapdaa
open Go Go.RowKit Go.Shelf Go.ChangeMaps Go.WideMaps
theorem runB {w : World} (ty : Nat) (v : Value) (l : List UInt8) (N : Nat) (hown : OwnsM w v N (cellsB l)) (A : Option Addr) (n c : Nat) (m : List UInt8) (hm : m.length = n)
    (hr : Rd w A m) (hn : A = none → c = 0) (hc : n ≤ c) (b1 : N + n ≤ 1048576) :
    ∃ v' w', (Builtin.append_ #[35, 35] ty #[v, .slice A n c]).run Try.prog w = .ok v' w' ∧ OwnsM w' v' (N + n) (cellsB l ++ cellsB m) ∧ w.grownBy w' v.ownBlock ∧ (v'.ownBlock = v.ownBlock ∨ v'.ownBlock = some w.heap.size) := by
  obtain ⟨i0, hi, hz0, hz1, hz2⟩ := u8_parts
  exact run_bytes ty v l N hown A n c m hm hr hn hc b1 i0 hi hz0 hz1 hz2
section
variable {P : Program} {w : World} {ops : Array Oper} {rest : List Oper} {o : Oper} {a : Act} {Q : Exit → Act → World → Prop}
theorem wpList_by_run (hg : o.guard = none) (v : Value) (w' : World) (h : (execOp a.eval o).run P w = .ok (.value v) w') (hK : wpList P ops Q rest (a.put o.dst v) w') : wpList P ops Q (o :: rest) a w :=
  wpList_plain hg fun K hK' => by
    unfold Oper.wp
    rw [h]
    exact hK' _ _ hK
end
section
variable {w : World} {ops : Array Oper} {rest : List Oper} {o : Oper} {a : Act} {Q : Exit → Act → World → Prop}
set_option maxRecDepth 100000 in
/-- A builtin of two operands, by its run. -/
theorem wpList_app (hg : o.guard = none) (s x : Operand) (ts : Array TypeId) (ho : o.op = .call { callee := .builtin .append, args := #[s, x], argTypes := ts }) (v u v' : Value) (w' : World) (hs : a.eval s = v) (hx : a.eval x = u)
    (hrun : (Builtin.append_ ts o.type #[v, u]).run Try.prog w = .ok v' w') (hK : wpList Try.prog ops Q rest (a.put o.dst v') w') : wpList Try.prog ops Q (o :: rest) a w :=
  wpList_by_run hg v' w' (by simp [execOp, ho, resolve, invoke, builtin, hs, hx, hrun, Result.andThen]) hK
set_option maxRecDepth 100000 in
theorem wpList_del (hg : o.guard = none) (s x : Operand) (ts : Array TypeId) (ho : o.op = .call { callee := .builtin .delete, args := #[s, x], argTypes := ts }) (v u v' : Value) (w' : World) (hs : a.eval s = v) (hx : a.eval x = u)
    (hrun : (Builtin.delete_ ts o.type #[v, u]).run Try.prog w = .ok v' w') (hK : wpList Try.prog ops Q rest (a.put o.dst v') w') : wpList Try.prog ops Q (o :: rest) a w :=
  wpList_by_run hg v' w' (by simp [execOp, ho, resolve, invoke, builtin, hs, hx, hrun, Result.andThen]) hK
end
theorem tail_at {P : Program} {id : Nat} {Q : Exit → Act → World → Prop} {a : Act} {w V : World} {l : List Oper} (hV : V = w.drew) (n : Nat) (hm : P.follows .mixedOrders = true) (hB : Region.lexTailB .any l.toArray n = true)
    (h : wpStill P l.toArray V (fun a' => wpList P l.toArray Q (l.drop n) a' V) (l.take n) a) : (Code.region id l.toArray true).wp P Q a w := by
  subst hV
  exact wp_region_still_tail n hm hB h
theorem drp_wth {α : Type} {nm : α → ByteArray} (l : List α) (x : α) (n : ByteArray) (hn : nm x = n) : drp nm (wth nm l x) n = drp nm l n := by
  subst hn
  unfold wth
  have h2 := List.takeWhile_append_dropWhile (p := fun g => ltB (nm g) (nm x)) (l := drp nm l (nm x))
  have h3 : drp nm (drp nm l (nm x)) (nm x) = drp nm l (nm x) := by unfold drp; rw [List.filter_filter]; simp
  conv => rhs; rw [← h3, ← h2]
  unfold drp
  rw [List.filter_append, List.filter_append, List.filter_cons, if_neg (by simp)]
theorem wth_wth {α : Type} {nm : α → ByteArray} (l : List α) (x y : α) (h : nm x = nm y) : wth nm (wth nm l x) y = wth nm l y := by
  have h1 := drp_wth (nm := nm) l x (nm y) h
  unfold wth at h1 ⊢
  rw [h1]
section
variable {T : Nat → Prop} {D M steps : Nat} {gs : List G} {hb : Bool} {rm : Int}
theorem StepQ.from {fs : List F} {w X w' : World} {hb' : Bool} {rm' : Int} {st : Nat} (hR : Ready T D M gs steps hb rm w X) (h : StepQ T D M fs st hb' rm' X w') : StepQ T D M fs st hb' rm' w w' := by
  obtain ⟨T', gs', h1, h2, h3, h4⟩ := h
  have := hR.keep.size
  exact ⟨T', gs', h1, h2, fun b hb => by rcases h3 b hb with h5 | h5; exact .inl h5; exact .inr (by omega), hR.keep.trans h4 (fun b hb => .inl hb)⟩
theorem StepQ.base {fs : List F} {X w' : World} {st : Nat} (q : Nat) (h : StepQ T D M fs st hb rm (X.drewN q) w') : StepQ T D M fs st hb rm X w' := by
  obtain ⟨T', gs', h1, h2, h3, h4⟩ := h
  exact ⟨T', gs', h1, h2, h3, ⟨h4.os, h4.tape, h4.output, h4.size, h4.block⟩⟩
theorem Bx.ready {w X : World} {b : Nat} {v : Value} (h : Bx w b v) (hR : Ready T D M gs steps hb rm w X) (hn : b ≠ D) : Bx X b v :=
  (World.cell?_of_block (w := w) (a := ⟨b, 0, none⟩) (hR.same b (World.block_lt_of_cell? w _ h) hn)).trans h
def DoQ (T : Nat → Prop) (D M : Nat) (fs : List F) (steps : Nat) (hb : Bool) (rm : Int) (w : World) (e : Ending) (w' : World) : Prop := e = .returned (.tuple #[]) ∧ StepQ T D M fs (steps + 1) hb (if hb then rm - 1 else rm) w w'
def appendF (fs : List F) (nm : ByteArray) (l : List UInt8) : List F := match fnd F.name fs nm with
  | some f => wth F.name fs ⟨nm, ⟨(bl f.bytes ++ l).toArray⟩, f.sync⟩
  | none => wth F.name fs ⟨nm, ⟨l.toArray⟩, 0⟩
theorem fnd_f (gs : List G) (nm : ByteArray) : fnd F.name (gs.map G.f) nm = (fnd gn gs nm).map G.f := (fnd_map (nm := F.name) G.f gs nm).symm

theorem Rd.keepT {w X : World} {A : Option Addr} {l : List UInt8} (h : Rd w A l) (hk : KeepT T w X) (ha : 0 < l.length → ∀ ad, A = some ad → ¬ T ad.block) : Rd X A l := fun h0 => by
  obtain ⟨b, off, rfl, hlt, hc⟩ := h h0
  exact ⟨b, off, rfl, Nat.lt_of_lt_of_le hlt hk.size, fun j hj => (World.cell?_of_block (w := w) (a := ⟨b, off + j, none⟩) (hk.block b hlt (ha h0 _ rfl))).trans (hc j hj)⟩
theorem StepQ.step {T' : Nat → Prop} {fs : List F} {X X2 w' : World} {st : Nat} (ht : ∀ b, T' b → T b ∨ X.heap.size ≤ b) (hk : KeepT T X X2) (h : StepQ T' D M fs st hb rm X2 w') : StepQ T D M fs st hb rm X w' := by
  obtain ⟨T2, gs', h1, h2, h3, h4⟩ := h
  have := hk.size
  refine ⟨T2, gs', h1, h2, fun b hb => ?_, hk.trans h4 ht⟩
  rcases h3 b hb with h5 | h5
  · exact ht b h5
  · exact .inr (by omega)
theorem DK.run_put {X : World} (h : DK T D M gs steps hb rm X) (nm : ByteArray) (hn : nm.size ≤ maxLen) (hs : gs.length < maxLen) (k : Nat) : ∃ X', (Instr.mapUpdate 68 (.map (some M)) (.string nm) (.pointer (some ⟨k, 0, none⟩))).run Try.prog X = .ok () X' ∧
    X'.ownsMap Try.prog 9 ptrR M (gs.length + 1) ((dMap gn G.k gs).put (.string (bl nm)) (.lit (.int .i64 k))) ∧ X.mapTurned X' M :=
  h.map.store (Maps.string_keyed Try.underlying9) Try.underlying68 hs (keyOf_string_mk Try.underlying9 hn) rfl
theorem DK.run_del {X : World} (h : DK T D M gs steps hb rm X) (nm : ByteArray) (hn : nm.size ≤ maxLen) : ∃ X', (Builtin.delete_ #[68, 9] 0 #[.map (some M), .string nm]).run Try.prog X = .ok (.tuple #[]) X' ∧
    DK T D M (drp gn gs nm) steps hb rm X' ∧ X'.heap.size = X.heap.size ∧ (∀ b, b ≠ M → X'.heap[b]? = X.heap[b]?) ∧ X'.os = X.os ∧ X'.tape = X.tape ∧ X'.output = X.output := by
  obtain ⟨X', hrun, hm, ht⟩ := h.map.drop (Maps.string_keyed Try.underlying9) Try.underlying68 (keyOf_string_mk Try.underlying9 hn) 0
  obtain ⟨es, clock, es', clock', hb2, rfl⟩ := ht
  rw [del_ent] at hm
  refine ⟨_, hrun, h.del nm (fun b _ hne => heap_setBlock_other hb2 _ hne) (by simp [setBlock]) hm, by simp [setBlock], fun b hne => heap_setBlock_other hb2 _ hne, rfl, rfl, rfl⟩
/-- A file of a block of its own, new in the map. -/
theorem DK.put_new {X X' : World} {g : G} (h : DK T D M gs steps hb rm X) (hm : X'.ownsMap Try.prog 9 ptrR M (gs.length + 1) ((dMap gn G.k gs).put (.string (bl (gn g))) (.lit (.int .i64 g.k)))) (ht : X.mapTurned X' M) (hlt : ∀ b, T b → b < g.k) (hgk : g.k < X.heap.size) (hv : g.v.ownBlock = none)
    (hf : FileIn (addT T g) X g) : DK (addT T g) D M (wth gn gs g) steps hb rm X' ∧ KeepT T X X' ∧ X'.heap.size = X.heap.size := by
  obtain ⟨es, clock, es', clock', hb2, rfl⟩ := ht
  have hsz : (setBlock X M (.map es' clock')).heap.size = X.heap.size := by simp [setBlock]
  have ho : ∀ b, b ≠ M → (setBlock X M (.map es' clock')).heap[b]? = X.heap[b]? := fun b hne => heap_setBlock_other hb2 _ hne
  have hM := hlt M h.tM
  refine ⟨h.put (ho D h.ne_map.symm) (by rw [← put_ent g h.rise]; exact hm) (hf.keep (ho _ (by omega)) (fun r e => by rw [hv] at e; cases e) (fun _ x => x)) (fun a ha _ => ?_) (fun a ha _ => ?_) (fun b hb => .inl hb) (fun b hb => ?_), ?_, hsz⟩
  · have hne := h.ne_file ha
    exact ⟨ho _ hne.2.1, fun r e => ho r (hne.2.2.2 r e).2.1⟩
  · have := hlt _ (h.files a ha).tk
    exact ⟨by omega, fun r e e2 => by rw [hv] at e2; cases e2⟩
  · rw [hsz]
    rcases hb with hb | hb | hb
    · exact h.lt b hb
    · omega
    · rw [hv] at hb; cases hb
  · exact ⟨rfl, rfl, rfl, by rw [hsz]; exact Nat.le_refl _, fun b hb hn => ho b (fun e => hn (by rw [e]; exact h.tM))⟩

set_option maxRecDepth 100000 in
set_option maxHeartbeats 4000000 in
theorem do_append (w : World) (b0 b1 b2 : Nat) (nm : ByteArray) (hn : nm.size ≤ maxLen) (hnm : nameB nm = true) (A : Option Addr) (n c : Nat) (l : List UInt8) (hl : l.length = n) (hA : A = none → c = 0) (hc : n ≤ c) (q0 : Bx w b0 (.pointer (some ⟨D, 0, none⟩))) (q1 : Bx w b1 (.string nm)) (q2 : Bx w b2 (.slice A n c)) (hbt : ¬ T b0 ∧ ¬ T b1 ∧ ¬ T b2)
    (hr : ∀ X, Ready T D M gs steps hb rm w X → Rd X A l) (hrt : 0 < l.length → ∀ ad, A = some ad → ¬ T ad.block) (hfit : hadOf gs nm + n ≤ 1048576) (hgl : gs.length ≤ 100000) (X : World) (hR : Ready T D M gs steps hb rm w X) :
    Calls Try.prog 43 #[.pointer (some ⟨b0, 0, none⟩), .pointer (some ⟨b1, 0, none⟩), .pointer (some ⟨b2, 0, none⟩)] X (DoQ T D M (appendF (gs.map G.f) nm l) steps hb rm w) := by
  have hD := hR.dk.tD
  have c0 := q0.ready hR (fun e => hbt.1 (by rw [e]; exact hD))
  have c1 := q1.ready hR (fun e => hbt.2.1 (by rw [e]; exact hD))
  have c2 := q2.ready hR (fun e => hbt.2.2 (by rw [e]; exact hD))
  unfold Bx at c0 c1 c2
  have hX := hR.dk
  have cd := hX.cellsD.1
  have hrd := hr X hR
  unfold appendF
  rw [fnd_f]
  unfold hadOf at hfit
  cases hq : fnd gn gs nm with
  | some g =>
    rw [hq] at hfit
    dsimp only at hfit
    have hl1 := look_some X hX nm hn hq
    obtain ⟨hg, hgn⟩ := fnd_mem hq
    have hf := hX.files g hg
    obtain ⟨f0, f1⟩ := hf.cellsF
    have HR := Lib.hid hR
    have HX := Lib.hid hX
    have HG := Lib.hid hg
    have HGN := Lib.hid hgn
    have HRD := Lib.hid hrd
    have HL := Lib.hid hl
    clear hr hrt q0 q1 q2 hR hX hg hgn hf hrd hl hq f1 hbt hD
    rw [Option.map_some]
    dsimp only
    go_enter Try.func43, Try.ntmps43
    go_wp2_with fail
    go_quiet (fail)
    rename_i nq
    go_wp2_with fail
    have hY := HX.out.below (below_any nq (Below.refl _ X))
    obtain ⟨v', w2, hrun, ho2, hg2, hv2⟩ := runB (w := (X.drewN nq).drew) 35 g.v (bl g.f.bytes) g.f.bytes.size (hY.files g HG.out).own A n c l HL.out (show Rd (X.drewN nq).drew A l from HRD.out) hA hc hfit
    obtain ⟨Av, cv, hvv, -⟩ := OwnsM.rdV (show OwnsM w2 v' (g.f.bytes.size + n) (cellsB (bl g.f.bytes ++ l)) by rw [cellsB_app]; exact ho2)
    obtain ⟨k2, hsq⟩ := upd_append hY HG.out (l := l) (by rw [HL.out]; exact ho2) hg2 hv2 (by rw [HL.out]; exact hfit)
    have HSQ : Hid (StepQ T D M (wth F.name (gs.map G.f) ⟨nm, ⟨(bl g.f.bytes ++ l).toArray⟩, g.f.sync⟩) (steps + 1) hb (if hb then rm - 1 else rm) w (w2.setCell ⟨g.k, 0, none⟩ v')) := Lib.hid (by
      have h9 := StepQ.from HR.out (StepQ.base nq hsq)
      rw [show g.f.name = nm from HGN.out] at h9
      exact h9)
    have k3 : w2.cell? ⟨g.k, 0, none⟩ = some g.v := by simp only [World.cell?, k2]; rfl
    have k4 : w2.frozen? ⟨g.k, 0, none⟩ = false := by simp [World.frozen?, k2]
    obtain ⟨Ag, cg, hvg, -⟩ := (hY.files g HG.out).own.rdV
    rw [hvg] at f0 k3 hrun
    subst hvv
    clear hsq ho2 hg2 hv2 k2 hY hvg hl1
    refine wp_region_held_drew (S := fun _ => True) (by kernel_rfl) trivial (fun hHeld => ?_)
    refine wpAnyH_take (i := 0) (v := ?_) rfl (by kernel_rfl) (by kernel_rfl) (by kernel_rfl) (fun _ _ _ h => h) (Or.inl ⟨by rfl, ?_⟩) trivial ?_
    rotate_left
    · intro w hSw
      go_simp
      try with_reducible rfl
    try simp only [Act.put, List.setIfInBounds_toArray, List.set_cons_zero, List.set_cons_succ]
    refine wpAnyH_take (i := 1) (v := ?_) rfl (by kernel_rfl) (by kernel_rfl) (by kernel_rfl) (fun _ _ _ h => h) (Or.inl ⟨by rfl, ?_⟩) trivial ?_
    rotate_left
    · intro w hSw
      go_simp
      try with_reducible rfl
    try simp only [Act.put, List.setIfInBounds_toArray, List.set_cons_zero, List.set_cons_succ]
    refine wpAnyH_take (i := 2) (v := ?_) rfl (by kernel_rfl) (by kernel_rfl) (by kernel_rfl) (fun _ _ _ h => h) (Or.inl ⟨by rfl, ?_⟩) trivial ?_
    rotate_left
    · intro w hSw
      go_simp
      try with_reducible rfl
    try simp only [Act.put, List.setIfInBounds_toArray, List.set_cons_zero, List.set_cons_succ]
    refine wpAnyH_take (i := 3) (v := ?_) rfl (by kernel_rfl) (by kernel_rfl) (by kernel_rfl) (fun _ _ _ h => h) (Or.inl ⟨by rfl, ?_⟩) trivial ?_
    rotate_left
    · intro w hSw
      go_simp
      try with_reducible rfl
    try simp only [Act.put, List.setIfInBounds_toArray, List.set_cons_zero, List.set_cons_succ]
    refine wpAnyH_ready (rs := [4, 5]) (by kernel_rfl) (by simp) ?_
    refine AllReadyH.cons rfl (fun K hK => ?_) (AllReadyH.cons rfl (fun K hK => ?_) AllReadyH.nil)
    · go_simp
      refine hK.out _ _ trivial (fun hHeld => ?_)
      clear hK K
      try simp only [Act.put, List.setIfInBounds_toArray, List.set_cons_zero, List.set_cons_succ]
      refine wpAnyH_ready (rs := [5]) (by kernel_rfl) (by simp) ?_
      refine AllReadyH.cons rfl (fun K hK => ?_) AllReadyH.nil
      go_simp
      refine hK.out _ _ trivial (fun hHeld => ?_)
      clear hK K
      try simp only [Act.put, List.setIfInBounds_toArray, List.set_cons_zero, List.set_cons_succ]
      refine wpAnyH_ready (rs := [6]) (by kernel_rfl) (by simp) ?_
      refine AllReadyH.cons rfl (fun K hK => ?_) AllReadyH.nil
      refine step_app rfl _ _ _ rfl _ _ _ _ rfl rfl hrun ?_
      refine hK.out _ _ trivial (fun hHeld => ?_)
      clear hK K
      try simp only [Act.put, List.setIfInBounds_toArray, List.set_cons_zero, List.set_cons_succ]
      refine wpAnyH_ready (rs := [7]) (by kernel_rfl) (by simp) ?_
      refine AllReadyH.cons rfl (fun K hK => ?_) AllReadyH.nil
      go_simp
      refine hK.out _ _ trivial (fun hHeld => ?_)
      clear hK K
      try simp only [Act.put, List.setIfInBounds_toArray, List.set_cons_zero, List.set_cons_succ]
      refine wpAnyH_ready (rs := [8]) (by kernel_rfl) (by simp) ?_
      refine AllReadyH.cons rfl (fun K hK => ?_) AllReadyH.nil
      go_simp
      refine hK.out _ _ trivial (fun hHeld => ?_)
      clear hK K
      try simp only [Act.put, List.setIfInBounds_toArray, List.set_cons_zero, List.set_cons_succ]
      refine wpAnyH_ready (rs := [9]) (by kernel_rfl) (by simp) ?_
      refine AllReadyH.cons rfl (fun K hK => ?_) AllReadyH.nil
      go_simp
      refine hK.out _ _ trivial (fun hHeld => ?_)
      clear hK K
      try simp only [Act.put, List.setIfInBounds_toArray, List.set_cons_zero, List.set_cons_succ]
      refine wpAnyH_done (by kernel_rfl) ?_ _
      go_wp2_with fail
      go_end0
      exact ⟨rfl, HSQ.out⟩
    · go_simp
      refine hK.out _ _ trivial (fun hHeld => ?_)
      clear hK K
      try simp only [Act.put, List.setIfInBounds_toArray, List.set_cons_zero, List.set_cons_succ]
      refine wpAnyH_ready (rs := [4]) (by kernel_rfl) (by simp) ?_
      refine AllReadyH.cons rfl (fun K hK => ?_) AllReadyH.nil
      go_simp
      refine hK.out _ _ trivial (fun hHeld => ?_)
      clear hK K
      try simp only [Act.put, List.setIfInBounds_toArray, List.set_cons_zero, List.set_cons_succ]
      refine wpAnyH_ready (rs := [6]) (by kernel_rfl) (by simp) ?_
      refine AllReadyH.cons rfl (fun K hK => ?_) AllReadyH.nil
      refine step_app rfl _ _ _ rfl _ _ _ _ rfl rfl hrun ?_
      refine hK.out _ _ trivial (fun hHeld => ?_)
      clear hK K
      try simp only [Act.put, List.setIfInBounds_toArray, List.set_cons_zero, List.set_cons_succ]
      refine wpAnyH_ready (rs := [7]) (by kernel_rfl) (by simp) ?_
      refine AllReadyH.cons rfl (fun K hK => ?_) AllReadyH.nil
      go_simp
      refine hK.out _ _ trivial (fun hHeld => ?_)
      clear hK K
      try simp only [Act.put, List.setIfInBounds_toArray, List.set_cons_zero, List.set_cons_succ]
      refine wpAnyH_ready (rs := [8]) (by kernel_rfl) (by simp) ?_
      refine AllReadyH.cons rfl (fun K hK => ?_) AllReadyH.nil
      go_simp
      refine hK.out _ _ trivial (fun hHeld => ?_)
      clear hK K
      try simp only [Act.put, List.setIfInBounds_toArray, List.set_cons_zero, List.set_cons_succ]
      refine wpAnyH_ready (rs := [9]) (by kernel_rfl) (by simp) ?_
      refine AllReadyH.cons rfl (fun K hK => ?_) AllReadyH.nil
      go_simp
      refine hK.out _ _ trivial (fun hHeld => ?_)
      clear hK K
      try simp only [Act.put, List.setIfInBounds_toArray, List.set_cons_zero, List.set_cons_succ]
      refine wpAnyH_done (by kernel_rfl) ?_ _
      go_wp2_with fail
      go_end0
      exact ⟨rfl, HSQ.out⟩
  | none =>
    rw [hq] at hfit
    dsimp only at hfit
    have HB := Lib.hid hbt.2.2
    have HRT := Lib.hid hrt
    have hl1 := look_none X hX nm hn hq
    have hDb := hX.cellsD.1
    have HR := Lib.hid hR
    have HX := Lib.hid hX
    have HRD := Lib.hid hrd
    have HL := Lib.hid hl
    have HNM := Lib.hid hnm
    clear hr hrt q0 q1 q2 hR hX hrd hl hq hbt hnm hD
    rw [Option.map_none]
    dsimp only
    go_enter Try.func43, Try.ntmps43
    go_wp2_with fail
    go_quiet (fail)
    rename_i nq
    go_wp2_with fail
    have hB : Below X.heap.size X ((X.drewN nq).alloc (.cells #[.slice none 0 0, .int .i64 0] 67)).drew := ((below_any nq (Below.refl X.heap.size X)).alloc (Nat.le_refl _) _).drew
    obtain ⟨V, hV⟩ : ∃ V, V = ((X.drewN nq).alloc (.cells #[.slice none 0 0, .int .i64 0] 67)).drew := ⟨_, rfl⟩
    rw [← hV] at hB
    have hblk : V.heap[X.heap.size]? = some (.cells #[.slice none 0 0, .int .i64 0] 67 (0, 0)) := by rw [hV]; exact heap_alloc_new (X.drewN nq) _
    have hVs : V.heap.size = X.heap.size + 1 := by rw [hV]; simp [World.drewN]
    have hX1 := HX.out.below hB
    obtain ⟨X2, hrun1, hm, ht⟩ := hX1.run_put nm hn (by simp only [maxLen]; omega) X.heap.size
    have hlt : ∀ b, T b → b < X.heap.size := HX.out.lt
    obtain ⟨hX2, k2, s2⟩ := hX1.put_new (g := ⟨⟨nm, ⟨#[]⟩, 0⟩, X.heap.size, .slice none 0 0⟩) hm ht hlt (by show X.heap.size < _; omega) rfl
      ⟨hblk, ⟨rfl, .inl ⟨rfl, rfl⟩⟩, .inr (.inl rfl), (fun r e => by cases e), Int.le_refl _, Int.le_refl _, Nat.zero_le _, HNM.out⟩
    have hg0 : (⟨⟨nm, ⟨#[]⟩, 0⟩, X.heap.size, .slice none 0 0⟩ : G) ∈ wth gn gs ⟨⟨nm, ⟨#[]⟩, 0⟩, X.heap.size, .slice none 0 0⟩ := mem_wth.2 (.inl rfl)
    have hf0 := hX2.files _ hg0
    have d0 : V.cell? ⟨b0, 0, none⟩ = some (.pointer (some ⟨D, 0, none⟩)) := (hB.cell (p := ⟨b0, 0, none⟩) (World.block_lt_of_cell? X _ c0)).trans c0
    have d1 : V.cell? ⟨b1, 0, none⟩ = some (.string nm) := (hB.cell (p := ⟨b1, 0, none⟩) (World.block_lt_of_cell? X _ c1)).trans c1
    have dd : V.cell? ⟨D, 0, none⟩ = some (.map (some M)) := (hB.cell (p := ⟨D, 0, none⟩) (World.block_lt_of_cell? X _ cd)).trans cd
    have HKX := Lib.hid ((KeepT.of_below (T := T) hB).trans k2 (fun b hb => .inl hb))
    have hrd2 := HRD.out.keepT HKX.out HRT.out
    have e2 : X2.cell? ⟨b2, 0, none⟩ = some (.slice A n c) := (World.cell?_of_block (w := X) (a := ⟨b2, 0, none⟩) (HKX.out.block b2 (World.block_lt_of_cell? X _ c2) HB.out)).trans c2
    have f0 := hf0.cellsF.1
    obtain ⟨v', w2, hrun, ho2, hg2, hv2⟩ := runB (w := X2.drew) 35 (.slice none 0 0) [] 0 hf0.own A n c l HL.out (show Rd X2.drew A l from hrd2) hA hc (by omega)
    obtain ⟨Av, cv, hvv, -⟩ := OwnsM.rdV (show OwnsM w2 v' (0 + n) (cellsB ([] ++ l)) by rw [cellsB_app]; exact ho2)
    obtain ⟨k3, hsq⟩ := upd_append hX2 hg0 (l := l) (by rw [HL.out]; exact ho2) hg2 hv2 (by rw [HL.out]; show 0 + n ≤ _; omega)
    have HSQ : Hid (StepQ T D M (wth F.name (gs.map G.f) ⟨nm, ⟨l.toArray⟩, 0⟩) (steps + 1) hb (if hb then rm - 1 else rm) w (w2.setCell ⟨X.heap.size, 0, none⟩ v')) := Lib.hid (by
      have h9 := StepQ.from HR.out (StepQ.step (T := T) (fun b hb => by
        rcases hb with hb | hb | hb
        · exact .inl hb
        · exact .inr (by rw [hb]; exact Nat.le_refl _)
        · cases hb) HKX.out hsq)
      rw [show (wth gn gs ⟨⟨nm, ⟨#[]⟩, 0⟩, X.heap.size, .slice none 0 0⟩).map G.f = wth F.name (gs.map G.f) ⟨nm, ⟨#[]⟩, 0⟩ from wth_map (nm := F.name) G.f gs _] at h9
      rw [← wth_wth (nm := F.name) (gs.map G.f) ⟨nm, ⟨#[]⟩, 0⟩ ⟨nm, ⟨l.toArray⟩, 0⟩ rfl]
      exact h9)
    have k4 : w2.cell? ⟨X.heap.size, 0, none⟩ = some (.slice none 0 0) := by simp only [World.cell?, k3]; rfl
    have k5 : w2.frozen? ⟨X.heap.size, 0, none⟩ = false := by simp [World.frozen?, k3]
    subst hvv
    simp only [Nat.zero_add] at HSQ hrun
    clear hsq ho2 hg2 hv2 k3 hX2 hX1 hm ht hg0 hf0 hrd2 k2 s2 hlt hblk hVs hl1 c0 c1 c2 cd
    refine tail_at hV 6 (by kernel_rfl) (by kernel_rfl) ?_
    clear hV hB
    simp only [List.take_succ_cons, List.take_zero, List.drop_succ_cons, List.drop_zero]
    repeat still_step
    try refine wpStill_nil ?_
    go_wp2_with fail
    refine wp_region_held_drew (S := fun _ => True) (by kernel_rfl) trivial (fun hHeld => ?_)
    refine wpAnyH_take (i := 0) (v := ?_) rfl (by kernel_rfl) (by kernel_rfl) (by kernel_rfl) (fun _ _ _ h => h) (Or.inl ⟨by rfl, ?_⟩) trivial ?_
    rotate_left
    · intro w hSw
      go_simp
      try with_reducible rfl
    try simp only [Act.put, List.setIfInBounds_toArray, List.set_cons_zero, List.set_cons_succ]
    refine wpAnyH_take (i := 1) (v := ?_) rfl (by kernel_rfl) (by kernel_rfl) (by kernel_rfl) (fun _ _ _ h => h) (Or.inl ⟨by rfl, ?_⟩) trivial ?_
    rotate_left
    · intro w hSw
      go_simp
      try with_reducible rfl
    try simp only [Act.put, List.setIfInBounds_toArray, List.set_cons_zero, List.set_cons_succ]
    refine wpAnyH_take (i := 2) (v := ?_) rfl (by kernel_rfl) (by kernel_rfl) (by kernel_rfl) (fun _ _ _ h => h) (Or.inl ⟨by rfl, ?_⟩) trivial ?_
    rotate_left
    · intro w hSw
      go_simp
      try with_reducible rfl
    try simp only [Act.put, List.setIfInBounds_toArray, List.set_cons_zero, List.set_cons_succ]
    refine wpAnyH_take (i := 3) (v := ?_) rfl (by kernel_rfl) (by kernel_rfl) (by kernel_rfl) (fun _ _ _ h => h) (Or.inl ⟨by rfl, ?_⟩) trivial ?_
    rotate_left
    · intro w hSw
      go_simp
      try with_reducible rfl
    try simp only [Act.put, List.setIfInBounds_toArray, List.set_cons_zero, List.set_cons_succ]
    refine wpAnyH_ready (rs := [4, 5]) (by kernel_rfl) (by simp) ?_
    refine AllReadyH.cons rfl (fun K hK => ?_) (AllReadyH.cons rfl (fun K hK => ?_) AllReadyH.nil)
    · go_simp
      refine hK.out _ _ trivial (fun hHeld => ?_)
      clear hK K
      try simp only [Act.put, List.setIfInBounds_toArray, List.set_cons_zero, List.set_cons_succ]
      refine wpAnyH_ready (rs := [5]) (by kernel_rfl) (by simp) ?_
      refine AllReadyH.cons rfl (fun K hK => ?_) AllReadyH.nil
      go_simp
      refine hK.out _ _ trivial (fun hHeld => ?_)
      clear hK K
      try simp only [Act.put, List.setIfInBounds_toArray, List.set_cons_zero, List.set_cons_succ]
      refine wpAnyH_ready (rs := [6]) (by kernel_rfl) (by simp) ?_
      refine AllReadyH.cons rfl (fun K hK => ?_) AllReadyH.nil
      refine step_app rfl _ _ _ rfl _ _ _ _ rfl rfl hrun ?_
      refine hK.out _ _ trivial (fun hHeld => ?_)
      clear hK K
      try simp only [Act.put, List.setIfInBounds_toArray, List.set_cons_zero, List.set_cons_succ]
      refine wpAnyH_ready (rs := [7]) (by kernel_rfl) (by simp) ?_
      refine AllReadyH.cons rfl (fun K hK => ?_) AllReadyH.nil
      go_simp
      refine hK.out _ _ trivial (fun hHeld => ?_)
      clear hK K
      try simp only [Act.put, List.setIfInBounds_toArray, List.set_cons_zero, List.set_cons_succ]
      refine wpAnyH_ready (rs := [8]) (by kernel_rfl) (by simp) ?_
      refine AllReadyH.cons rfl (fun K hK => ?_) AllReadyH.nil
      go_simp
      refine hK.out _ _ trivial (fun hHeld => ?_)
      clear hK K
      try simp only [Act.put, List.setIfInBounds_toArray, List.set_cons_zero, List.set_cons_succ]
      refine wpAnyH_ready (rs := [9]) (by kernel_rfl) (by simp) ?_
      refine AllReadyH.cons rfl (fun K hK => ?_) AllReadyH.nil
      go_simp
      refine hK.out _ _ trivial (fun hHeld => ?_)
      clear hK K
      try simp only [Act.put, List.setIfInBounds_toArray, List.set_cons_zero, List.set_cons_succ]
      refine wpAnyH_done (by kernel_rfl) ?_ _
      go_wp2_with fail
      go_end0
      exact ⟨rfl, HSQ.out⟩
    · go_simp
      refine hK.out _ _ trivial (fun hHeld => ?_)
      clear hK K
      try simp only [Act.put, List.setIfInBounds_toArray, List.set_cons_zero, List.set_cons_succ]
      refine wpAnyH_ready (rs := [4]) (by kernel_rfl) (by simp) ?_
      refine AllReadyH.cons rfl (fun K hK => ?_) AllReadyH.nil
      go_simp
      refine hK.out _ _ trivial (fun hHeld => ?_)
      clear hK K
      try simp only [Act.put, List.setIfInBounds_toArray, List.set_cons_zero, List.set_cons_succ]
      refine wpAnyH_ready (rs := [6]) (by kernel_rfl) (by simp) ?_
      refine AllReadyH.cons rfl (fun K hK => ?_) AllReadyH.nil
      refine step_app rfl _ _ _ rfl _ _ _ _ rfl rfl hrun ?_
      refine hK.out _ _ trivial (fun hHeld => ?_)
      clear hK K
      try simp only [Act.put, List.setIfInBounds_toArray, List.set_cons_zero, List.set_cons_succ]
      refine wpAnyH_ready (rs := [7]) (by kernel_rfl) (by simp) ?_
      refine AllReadyH.cons rfl (fun K hK => ?_) AllReadyH.nil
      go_simp
      refine hK.out _ _ trivial (fun hHeld => ?_)
      clear hK K
      try simp only [Act.put, List.setIfInBounds_toArray, List.set_cons_zero, List.set_cons_succ]
      refine wpAnyH_ready (rs := [8]) (by kernel_rfl) (by simp) ?_
      refine AllReadyH.cons rfl (fun K hK => ?_) AllReadyH.nil
      go_simp
      refine hK.out _ _ trivial (fun hHeld => ?_)
      clear hK K
      try simp only [Act.put, List.setIfInBounds_toArray, List.set_cons_zero, List.set_cons_succ]
      refine wpAnyH_ready (rs := [9]) (by kernel_rfl) (by simp) ?_
      refine AllReadyH.cons rfl (fun K hK => ?_) AllReadyH.nil
      go_simp
      refine hK.out _ _ trivial (fun hHeld => ?_)
      clear hK K
      try simp only [Act.put, List.setIfInBounds_toArray, List.set_cons_zero, List.set_cons_succ]
      refine wpAnyH_done (by kernel_rfl) ?_ _
      go_wp2_with fail
      go_end0
      exact ⟨rfl, HSQ.out⟩
end
end Go.Proofs.Ytcfglgejjmapdaa
