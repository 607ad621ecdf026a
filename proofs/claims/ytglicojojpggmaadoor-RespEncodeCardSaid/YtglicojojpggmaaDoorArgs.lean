/- An argument that is a reply. -/
import Derived.Test.YtglicojojpggmaaDoorFrame
import Derived.Test.YtglicojojpggmaaDoorLv
import Derived.Deep.Slices
import Derived.Lib.SmallJoins
namespace Go.Proofs.YtglicojojpggmaaDoor
open Go Go.RowKit
open Go.ChangeShapes Go.WideShapes Go.ChangeAt Go.Deep Go.Joins
/-- Cells in a row are replies. -/
theorem mk_RpL {W : World} {b : Nat} (hb : b < W.heap.size) : ∀ (ps : List Got) (o : Nat), (∀ i (h : i < ps.length), W.cell? ⟨b, o + i * 4, none⟩ = some (.int .i64 ps[i].r.kind) ∧ W.cell? ⟨b, o + i * 4 + 1, none⟩ = some (.int .i64 ps[i].r.num) ∧ W.cell? ⟨b, o + i * 4 + 2, none⟩ = some (.string ps[i].r.text) ∧ W.cell? ⟨b, o + i * 4 + 3, none⟩ = some (.slice ps[i].A ps[i].r.kids.length ps[i].c) ∧ RpK (fun _ => True) W ps[i].r ps[i].A ps[i].c) → RpL (fun _ => True) W (ps.map Got.r) (some ⟨b, o, none⟩)
  | [], _, _ => by rw [List.map_nil, RpL]; trivial
  | p :: ps, o, h => by
    rw [List.map_cons, RpL]
    obtain ⟨h0, h1, h2, h3, hk⟩ := h 0 (by simp)
    refine ⟨b, o, rfl, hb, trivial, RpK.mkA (by simpa using h0) (by simpa using h1) (by simpa using h2) (by simpa using h3) (by simpa using hk), mk_RpL hb ps (o + 4) fun i hi => ?_⟩
    have := h (i + 1) (by simpa using hi)
    rw [show o + (i + 1) * 4 = o + 4 + i * 4 by omega] at this
    simpa using this
theorem wf_i64 {z : Int} (h : (Lit.int .i64 z).wf = true) : -9223372036854775808 ≤ z ∧ z ≤ 9223372036854775807 := by
  simp [Lit.wf, show IntKind.i64.min = -9223372036854775808 from rfl, show IntKind.i64.max = 9223372036854775807 from rfl] at h
  omega
theorem cells41 : Tryd.prog.cellsOf 41 = 4 := by kernel_rfl
theorem bytes41 : Tryd.prog.bytesOf 41 = 56 := by kernel_rfl
section
variable {H : Type} {enc : TypeId × Value → H} {W : World}
/-- A slice of replies, as it is read. -/
def RepsOf (v : Value) (W : World) : Prop := ∃ (A : Option Addr) (c : Nat) (l : List Rp), v = .slice A l.length c ∧ l.length ≤ c ∧ (A = none → c = 0) ∧ l.length ≤ 140737488355328 ∧ RpL (fun _ => True) W l A
set_option maxRecDepth 100000 in
/-- Four cells that are a reply. -/
theorem rep_of {N : Nat} (IH : ∀ {fuel : Nat} {v : Value} {x : DataW H × List MemPlace}, SizeOf.sizeOf x.1 ≤ N → DataW.trod enc Tryd.prog W 0 (fun _ => true) true fuel 39 [v] = some x → (∀ m ∈ x.1.weights Tryd.prog 39, m ≤ reachBytes) → RepsOf v W)
    {fuel : Nat} {cs : List Value} {x : DataW H × List MemPlace} (hs : SizeOf.sizeOf x.1 ≤ N + 1) (h : DataW.trod enc Tryd.prog W 0 (fun _ => true) true fuel 41 cs = some x) (hw : ∀ m ∈ x.1.weights Tryd.prog 41, m ≤ reachBytes) (hcl : cs.length = 4) :
    ∃ p : Got, cs = [.int .i64 p.r.kind, .int .i64 p.r.num, .string p.r.text, .slice p.A p.r.kids.length p.c] ∧ RpK (fun _ => True) W p.r p.A p.c := by
  obtain ⟨y0, y1, y2, y3, n, hy, hlen, t0, t1, t2, t3⟩ := trod_struct4 Tryd.underlying41 h
  match cs, hcl with
  | [c0, c1, c2, c3], _ =>
    have k38 : Tryd.prog.cellsOf 38 = 1 := by kernel_rfl
    have k9 : Tryd.prog.cellsOf 9 = 1 := by kernel_rfl
    have k2 : Tryd.prog.cellsOf 2 = 1 := by kernel_rfl
    have k39 : Tryd.prog.cellsOf 39 = 1 := by kernel_rfl
    simp only [k38, k9, k2, k39, List.drop_zero, List.drop_succ_cons, List.take_succ_cons, List.take_zero] at t0 t1 t2 t3
    obtain ⟨z0, e0, x0, w0⟩ := DataW.trod_int Tryd.underlying38 t0
    obtain ⟨z1, e1, x1, w1⟩ := DataW.trod_int Tryd.underlying2 t1
    obtain ⟨z2, e2, x2, w2⟩ := DataW.trod_string Tryd.underlying9 t2
    cases e0; cases e1; cases e2
    have hD : x.1 = .agg [y0.1, y1.1, y2.1, y3.1] := congrArg Prod.fst hy
    have hW : ∀ m, (m ∈ y2.1.weights Tryd.prog 9 ∨ m ∈ y3.1.weights Tryd.prog 39) → m ≤ reachBytes := fun m hm => by
      refine hw m ?_
      rw [hD, DataW.weights, Tryd.underlying41]
      simp only [List.map_cons, List.map_nil, DataW.weightsEach, List.append_nil]
      rcases hm with hm | hm
      · exact List.mem_append_right _ (List.mem_append_right _ (List.mem_append_left _ hm))
      · exact List.mem_append_right _ (List.mem_append_right _ (List.mem_append_right _ hm))
    have hz : z2.size ≤ 140737488351232 := by
      refine hW _ (.inl ?_)
      subst x2
      have h2 : z2.data.toList.length = z2.size := by rw [Array.length_toList]; rfl
      simp [DataW.weights, h2]
    have hsz : SizeOf.sizeOf y3.1 ≤ N := by
      rw [hD] at hs
      simp only [DataW.agg.sizeOf_spec, List.cons.sizeOf_spec] at hs
      omega
    obtain ⟨A, c, l, rfl, g1, g2, g3, g4⟩ := IH hsz t3 (fun m hm => hW m (.inr hm))
    have b0 := wf_i64 w0
    have b1 := wf_i64 w1
    refine ⟨⟨.mk z0 z1 z2 l, A, c⟩, rfl, ⟨b1.1, b1.2, b0.1, b0.2, by show z2.size ≤ _; omega, g3⟩, g2, g1, g4⟩
set_option maxRecDepth 100000 in
theorem reps_of : ∀ (N : Nat) {fuel : Nat} {v : Value} {x : DataW H × List MemPlace}, SizeOf.sizeOf x.1 ≤ N → DataW.trod enc Tryd.prog W 0 (fun _ => true) true fuel 39 [v] = some x → (∀ m ∈ x.1.weights Tryd.prog 39, m ≤ reachBytes) → RepsOf v W
  | 0, fuel, v, x, hs, h, hw => by
    rcases open_slice Tryd.underlying39 h with ⟨hcs, _⟩ | ⟨a, l, c, m, f, D, Pl, hcs, _, hl, hm, hmm, hx, hcell⟩
    · simp at hcs
      exact ⟨none, 0, [], hcs, Nat.le_refl _, fun _ => rfl, Nat.zero_le _, by rw [RpL]; trivial⟩
    · rw [hx] at hs
      simp at hs
  | N + 1, fuel, v, x, hs, h, hw => by
    rcases open_slice Tryd.underlying39 h with ⟨hcs, _⟩ | ⟨a, l, c, m, f, D, Pl, hcs, _, hl, hm, hmm, hx, hcell⟩
    · simp at hcs
      exact ⟨none, 0, [], hcs, Nat.le_refl _, fun _ => rfl, Nat.zero_le _, by rw [RpL]; trivial⟩
    simp at hcs hmm
    subst hmm
    rw [cells41] at hcell
    have hwx : ∀ q ∈ (DataW.slice ((List.range l).map D) ((List.range (m - l)).map fun j => D (l + j))).weights Tryd.prog 39, q ≤ reachBytes := by rw [hx] at hw; exact hw
    rw [DataW.weights, Tryd.underlying39] at hwx
    simp only at hwx
    have hbig : l ≤ 140737488355328 := by
      have h0 := hwx _ (List.mem_cons_self ..)
      rw [bytes41] at h0
      simp at h0
      have h1 : reachBytes = 140737488351232 := rfl
      omega
    have key : ∀ i, ∃ p : Got, i < l → (RpK (fun _ => True) W p.r p.A p.c ∧ W.cell? (a.add (i * 4)) = some (.int .i64 p.r.kind) ∧ W.cell? (a.add (i * 4 + 1)) = some (.int .i64 p.r.num) ∧ W.cell? (a.add (i * 4 + 2)) = some (.string p.r.text) ∧ W.cell? (a.add (i * 4 + 3)) = some (.slice p.A p.r.kids.length p.c)) := by
      intro i
      by_cases hi : i < l
      rotate_left
      · exact ⟨⟨.mk 0 0 noT [], none, 0⟩, fun h => absurd h hi⟩
      obtain ⟨cs, hc, ht⟩ := hcell i (by omega)
      obtain ⟨_, hcl, hat⟩ := World.cells?_some hc
      have hDm : D i ∈ (List.range l).map D := List.mem_map.2 ⟨i, List.mem_range.2 hi, rfl⟩
      have hsz : SizeOf.sizeOf (D i) ≤ N + 1 := by
        have h1 := List.sizeOf_lt_of_mem hDm
        rw [hx] at hs
        simp only [DataW.slice.sizeOf_spec] at hs
        omega
      obtain ⟨p, rfl, hk⟩ := rep_of (N := N) (fun {_ _ _} h1 h2 h3 => reps_of N h1 h2 h3) (x := (D i, Pl i)) hsz ht (fun q hq => hwx q (List.mem_cons_of_mem _ (List.mem_append_left _ (weights_all hDm q hq)))) hcl
      refine ⟨p, fun _ => ⟨hk, ?_, ?_, ?_, ?_⟩⟩
      · have h1 := hat 0 (by omega)
        rw [Go.Deep.add_add] at h1
        exact h1
      · have h1 := hat 1 (by omega)
        rw [Go.Deep.add_add] at h1
        exact h1
      · have h1 := hat 2 (by omega)
        rw [Go.Deep.add_add] at h1
        exact h1
      · have h1 := hat 3 (by omega)
        rw [Go.Deep.add_add] at h1
        exact h1
    obtain ⟨S, hS⟩ := Classical.axiomOfChoice key
    have hlen : (((List.range l).map S).map Got.r).length = l := by simp
    refine ⟨some a, m, ((List.range l).map S).map Got.r, by rw [hlen]; exact hcs, by rw [hlen]; exact hl, (fun h => by cases h), by rw [hlen]; exact hbig, ?_⟩
    by_cases h0 : 0 < l
    · obtain ⟨b, off, spot⟩ := a
      have hc0 := (hS 0 h0).2.1
      have hspot : spot = none := by simpa [Addr.add] using World.cell?_spot hc0
      subst hspot
      have hb : b < W.heap.size := by
        rw [addoff] at hc0
        exact block_lt hc0
      refine mk_RpL hb _ off fun i hi => ?_
      have hi' : i < l := by simpa using hi
      have hg : ((List.range l).map S)[i] = S i := by simp
      rw [hg]
      obtain ⟨k0, k1, k2, k3, k4⟩ := hS i hi'
      rw [addoff] at k1 k2 k3 k4
      exact ⟨k1, by rw [Nat.add_assoc]; exact k2, by rw [Nat.add_assoc]; exact k3, by rw [Nat.add_assoc]; exact k4, k0⟩
    · have h1 : l = 0 := by omega
      subst h1
      simp [RpL]
set_option maxRecDepth 100000 in
/-- A reply by value. -/
theorem reply_of {v : Value} {d : DataW H} {p : List MemPlace} {base : Nat} (hv : Value.okWide Tryd.prog W .any base 41 v) (h : DataW.Trod enc Tryd.prog W 0 (fun _ => true) true 41 v d p) (hw : ∀ m ∈ d.weights Tryd.prog 41, m ≤ reachBytes) :
    ∃ g : Got, v = .agg (rpV g.r g.A g.c) ∧ RpK (fun _ => True) W g.r g.A g.c := by
  obtain ⟨cs, rfl, hsz⟩ := okWide_struct Tryd.underlying41 hv
  obtain ⟨fuel, hf⟩ := h
  have hcl : cs.toList.length = 4 := by rw [Array.length_toList]; exact hsz.trans cells41
  obtain ⟨g, hg, hk⟩ := rep_of (N := SizeOf.sizeOf d) (fun {_ _ _} h1 h2 h3 => reps_of _ h1 h2 h3) (x := (d, p)) (Nat.le_succ _) (by simpa [Value.cells] using hf) hw hcl
  refine ⟨g, ?_, hk⟩
  have : cs = (rpV g.r g.A g.c) := by
    apply Array.toList_inj.1
    rw [hg]
  rw [this]
end
end Go.Proofs.YtglicojojpggmaaDoor
