/- A file of a disk turned; one more; one fewer. -/
import Derived.Test.YtcfglgejjmapdaaAsk
namespace Go.Proofs.Ytcfglgejjmapdaa
open Go Go.RowKit Go.Shelf
theorem wth_split {α : Type} {nm : α → ByteArray} {pre post : List α} {g x : α} (h : Rising nm (pre ++ g :: post)) (hx : nm x = nm g) : wth nm (pre ++ g :: post) x = pre ++ x :: post := by
  obtain ⟨h1, h2, h3⟩ := List.pairwise_append.1 h
  obtain ⟨h4, h5⟩ := List.pairwise_cons.1 h2
  have d1 : drp nm (pre ++ g :: post) (nm x) = pre ++ post := by
    unfold drp
    rw [List.filter_append, List.filter_cons]
    have e1 : pre.filter (fun f => !(bl (nm f) == bl (nm x))) = pre := List.filter_eq_self.2 fun f hf => by
      have := ltB_ne (h3 f hf g (by simp))
      simpa [hx] using fun e => this (bl_inj e)
    have e2 : post.filter (fun f => !(bl (nm f) == bl (nm x))) = post := List.filter_eq_self.2 fun f hf => by
      have := (ltB_ne (h4 f hf)).symm
      simpa [hx] using fun e => this (bl_inj e)
    rw [e1, e2, if_neg (by simp [hx])]
  unfold wth
  rw [d1]
  have t1 := tw_all (p := fun f => ltB (nm f) (nm x)) (l := pre) (fun f hf => by rw [hx]; exact h3 f hf g (by simp))
  have t2 : ∀ f ∈ post, ltB (nm f) (nm x) = false := fun f hf => by rw [hx]; exact ltB_asymm (h4 f hf)
  have t3 : post.takeWhile (fun f => ltB (nm f) (nm x)) = [] ∧ post.dropWhile (fun f => ltB (nm f) (nm x)) = post := by
    cases post with
    | nil => exact ⟨rfl, rfl⟩
    | cons a r =>
      have := t2 a (by simp)
      simp [List.takeWhile_cons, List.dropWhile_cons, this]
  rw [List.takeWhile_append, t1.1, List.dropWhile_append, t1.2]
  simp [t3]
theorem same_map {gs : List G} (h : Rising gn gs) {g g' : G} (hg : g ∈ gs) (hn : gn g' = gn g) (hk : g'.k = g.k) : dMap gn G.k (wth gn gs g') = dMap gn G.k gs := by
  obtain ⟨pre, post, rfl⟩ := List.append_of_mem hg
  rw [wth_split h hn]
  unfold dMap
  rw [List.map_append, List.map_append, List.map_cons, List.map_cons]
  have : ent gn G.k g' = ent gn G.k g := by unfold ent; rw [hn, hk]
  rw [this]
section
variable {T : Nat → Prop} {D M steps : Nat} {gs : List G} {hb : Bool} {rm : Int}
theorem DK.upd {X W' : World} {g g' : G} (h : DK T D M gs steps hb rm X) (hg : g ∈ gs) (hn : gn g' = gn g) (hk : g'.k = g.k)
    (hoth : ∀ b, b < X.heap.size → b ≠ g.k → g.v.ownBlock ≠ some b → W'.heap[b]? = X.heap[b]?) (hs : X.heap.size ≤ W'.heap.size)
    (hc : W'.heap[g.k]? = some (.cells #[g'.v, .int .i64 g'.f.sync] 67 (0, 0))) (ho : OwnsM W' g'.v g'.f.bytes.size (cellsB (bl g'.f.bytes)))
    (hr : ∀ r, g'.v.ownBlock = some r → g.v.ownBlock = some r ∨ X.heap.size ≤ r) (s0 : 0 ≤ g'.f.sync) (s1 : g'.f.sync ≤ g'.f.bytes.size) (mx : g'.f.bytes.size ≤ 1048576) :
    DK (addT T g') D M (wth gn gs g') steps hb rm W' := by
  have hne := h.ne_file hg
  have hf := h.files g hg
  have hD : W'.heap[D]? = X.heap[D]? := hoth D (h.lt D h.tD) (fun e => hne.1 e.symm) (fun e => (hne.2.2.2 D e).1 rfl)
  have hM : W'.heap[M]? = X.heap[M]? := hoth M (h.lt M h.tM) (fun e => hne.2.1 e.symm) (fun e => (hne.2.2.2 M e).2.1 rfl)
  refine h.put (n := gs.length) hD (by rw [same_map h.rise hg hn hk]; exact map_keep h.map hM) ⟨by rw [hk]; exact hc, ho, .inr (.inl rfl), fun r e => .inr (.inr e), s0, s1, mx, by have := hf.nmv; have h9 : g'.f.name = g.f.name := hn; rw [h9]; exact this⟩ (fun a ha hna => ?_) (fun a ha hna => ?_) (fun b hb => .inl hb) (fun b hb => ?_)
  · have hna2 : gn a ≠ gn g := by rw [← hn]; exact hna
    have hap := h.apart a ha g hg hna2
    have hfa := h.files a ha
    refine ⟨hoth _ (h.lt _ hfa.tk) hap.1 (fun e => h.row_file hg ha _ e rfl), fun r e => hoth r (h.lt r (hfa.tr r e)) (h.row_file ha hg r e) (fun e2 => hap.2 r e e2)⟩
  · have hna2 : gn a ≠ gn g := by rw [← hn]; exact hna
    have hap := h.apart a ha g hg hna2
    have hfa := h.files a ha
    refine ⟨by rw [hk]; exact hap.1, fun r e e2 => ?_⟩
    rcases hr r e2 with h5 | h5
    · exact hap.2 r e h5
    · have := h.lt r (hfa.tr r e); omega
  · rcases hb with hb | hb | hb
    · have := h.lt b hb; omega
    · rw [hk] at hb; have := h.lt _ hf.tk; omega
    · have := (ho.lt b hb); exact this
theorem addT_new {X : World} {g g' : G} (h : FileIn T X g) (hk : g'.k = g.k) (hr : ∀ r, g'.v.ownBlock = some r → g.v.ownBlock = some r ∨ X.heap.size ≤ r) : ∀ b, addT T g' b → T b ∨ X.heap.size ≤ b := by
  intro b hb
  rcases hb with hb | hb | hb
  · exact .inl hb
  · rw [hk] at hb; rw [hb]; exact .inl h.tk
  · rcases hr b hb with h5 | h5
    · exact .inl (h.tr b h5)
    · exact .inr h5
/-- What a step leaves. -/
def StepQ (T : Nat → Prop) (D M : Nat) (fs : List F) (steps : Nat) (hb : Bool) (rm : Int) (w w' : World) : Prop := ∃ T' gs', DK T' D M gs' steps hb rm w' ∧ gs'.map G.f = fs ∧ (∀ b, T' b → T b ∨ w.heap.size ≤ b) ∧ KeepT T w w'
/-- Bytes behind a file's. -/
theorem upd_append {X w2 : World} {g : G} {v' : Value} {l : List UInt8} (h : DK T D M gs steps hb rm X) (hg : g ∈ gs) (ho : OwnsM w2 v' (g.f.bytes.size + l.length) (cellsB (bl g.f.bytes) ++ cellsB l)) (hgr : X.drew.grownBy w2 g.v.ownBlock) (hv : v'.ownBlock = g.v.ownBlock ∨ v'.ownBlock = some X.heap.size) (hmx : g.f.bytes.size + l.length ≤ 1048576) :
    w2.heap[g.k]? = some (.cells #[g.v, .int .i64 g.f.sync] 67 (0, 0)) ∧ StepQ T D M (wth F.name (gs.map G.f) ⟨g.f.name, ⟨(bl g.f.bytes ++ l).toArray⟩, g.f.sync⟩) steps hb rm X (w2.setCell ⟨g.k, 0, none⟩ v') := by
  have hf := h.files g hg
  have hne := h.ne_file hg
  have c2 : w2.heap[g.k]? = some (.cells #[g.v, .int .i64 g.f.sync] 67 (0, 0)) := (hgr.block g.k (h.lt _ hf.tk) (fun e => (hne.2.2.2 g.k e.symm).2.2 rfl)).trans hf.cells
  have c3 := heap_setCell_same w2 g.k 0 _ 67 v' c2
  have hsz : (w2.setCell ⟨g.k, 0, none⟩ v').heap.size = w2.heap.size := by simp [World.setCell]
  have hsz2 : X.heap.size ≤ w2.heap.size := hgr.size
  have hbs : (⟨(bl g.f.bytes ++ l).toArray⟩ : ByteArray).size = g.f.bytes.size + l.length := by
    show (bl g.f.bytes ++ l).toArray.size = _
    have h1 : (bl g.f.bytes).length = g.f.bytes.size := by rw [Array.length_toList]; rfl
    rw [List.size_toArray, List.length_append, h1]
  have hrr : ∀ r, v'.ownBlock = some r → g.v.ownBlock = some r ∨ X.heap.size ≤ r := fun r e => by
    rcases hv with h5 | h5
    · left; rw [← h5]; exact e
    · right; rw [h5] at e; cases e; exact Nat.le_refl _
  refine ⟨c2, addT T ⟨⟨g.f.name, ⟨(bl g.f.bytes ++ l).toArray⟩, g.f.sync⟩, g.k, v'⟩, wth gn gs ⟨⟨g.f.name, ⟨(bl g.f.bytes ++ l).toArray⟩, g.f.sync⟩, g.k, v'⟩, h.upd hg rfl rfl (fun b hb h1 h2 => (Below.heap_setCell _ ⟨g.k, 0, none⟩ _ b h1).trans (hgr.block b hb (fun e => h2 e.symm))) (by omega) (by simpa using c3) ?_ hrr hf.s0 ?_ ?_, wth_map (nm := F.name) G.f gs _, addT_new hf rfl hrr, ?_⟩
  · show OwnsM (w2.setCell ⟨g.k, 0, none⟩ v') v' (⟨(bl g.f.bytes ++ l).toArray⟩ : ByteArray).size (cellsB (bl ⟨(bl g.f.bytes ++ l).toArray⟩))
    rw [hbs, show bl ⟨(bl g.f.bytes ++ l).toArray⟩ = bl g.f.bytes ++ l from rfl, cellsB_app]
    refine ho.keep (fun r e => Below.heap_setCell _ ⟨g.k, 0, none⟩ _ r (fun e2 => ?_))
    simp at e2
    rcases hrr r e with h5 | h5
    · exact (hne.2.2.2 r h5).2.2 e2
    · have := h.lt _ hf.tk; omega
  · show g.f.sync ≤ (((⟨(bl g.f.bytes ++ l).toArray⟩ : ByteArray).size : Nat) : Int)
    rw [hbs]; have := hf.s1; omega
  · show (⟨(bl g.f.bytes ++ l).toArray⟩ : ByteArray).size ≤ 1048576
    rw [hbs]; exact hmx
  · have k0 : KeepT T X w2 := ⟨hgr.os, hgr.tape, hgr.output, hgr.size, fun b hb hn => hgr.block b hb (fun e => hn (hf.tr b e.symm))⟩
    exact k0.setCell ⟨g.k, 0, none⟩ v' hf.tk
/-- Cells of a file turned. -/
theorem upd_cells {X W' : World} {g : G} {v' : Value} {b' : ByteArray} {s' : Int} (h : DK T D M gs steps hb rm X) (hg : g ∈ gs) (hW : W'.heap[g.k]? = some (.cells #[v', .int .i64 s'] 67 (0, 0))) (hoth : ∀ b, b < X.heap.size → b ≠ g.k → W'.heap[b]? = X.heap[b]?) (hk : KeepT T X W')
    (ho : OwnsM X v' b'.size (cellsB (bl b'))) (hv : ∀ r, v'.ownBlock = some r → g.v.ownBlock = some r) (s0 : 0 ≤ s') (s1 : s' ≤ b'.size) (mx : b'.size ≤ 1048576) :
    StepQ T D M (wth F.name (gs.map G.f) ⟨g.f.name, b', s'⟩) steps hb rm X W' := by
  have hf := h.files g hg
  have hne := h.ne_file hg
  have hrr : ∀ r, v'.ownBlock = some r → g.v.ownBlock = some r ∨ X.heap.size ≤ r := fun r e => .inl (hv r e)
  refine ⟨addT T ⟨⟨g.f.name, b', s'⟩, g.k, v'⟩, wth gn gs ⟨⟨g.f.name, b', s'⟩, g.k, v'⟩, h.upd hg rfl rfl (fun b hb h1 h2 => hoth b hb h1) hk.size hW ?_ hrr s0 s1 mx, wth_map (nm := F.name) G.f gs _, addT_new hf rfl hrr, hk⟩
  exact ho.keep (fun r e => hoth r (ho.lt r e) (hne.2.2.2 r (hv r e)).2.2)
end
end Go.Proofs.Ytcfglgejjmapdaa
