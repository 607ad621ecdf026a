/- Proved here: 'taborlaw04.RespBack' returns true for any list of texts, any two replies, and whatever stands behind or is cut off. Conditions: those of the given card (the four listed tables hold what the program's text lays; nothing else). -/
import Derived.Test.YtglicojojpggmaaDoorFrame
import Derived.Test.YtglicojojpggmaaDoorLv
import Derived.Deep.Slices
import Derived.Lib.SmallJoins
import Derived.Test.YtglicojojpggmaaDoorMaA
import Derived.Test.YtglicojojpggmaaDoorLay
import Derived.Deep.RegionHeld3
import Derived.Test.YtglicojojpggmaaDoorWorks
import Derived.Test.YtglicojojpggmaaDoorFew
import Derived.Test.YtglicojojpggmaaDoorCopy
namespace Go.Proofs.YtglicojojpggmaaDoor
open Go Go.RowKit
open Go.ChangeShapes Go.WideShapes Go.ChangeAt Go.Deep Go.Joins
/-- Cells in a row are replies. -/
theorem mk_RpL {W : World} {b : Nat} (hb : b < W.heap.size) : ∀ (ps : List Got) (o : Nat), (∀ i (h : i < ps.length), W.cell? ⟨b, o + i * 4, none⟩ = some (.int .i64 ps[i].r.kind) ∧ W.cell? ⟨b, o + i * 4 + 1, none⟩ = some (.int .i64 ps[i].r.num) ∧ W.cell? ⟨b, o + i * 4 + 2, none⟩ = some (.string ps[i].r.text) ∧ W.cell? ⟨b, o + i * 4 + 3, none⟩ = some (.slice ps[i].A ps[i].r.kids.length ps[i].c) ∧ RpK (fun _ => True) W ps[i].r ps[i].A ps[i].c) → RpL (fun _ => True) W (ps.map Got.r) (some ⟨b, o, none⟩)
  | [], _, _ => by rw [List.map_nil, RpL]; trivial
  | p :: ps, o, h => by
    rw [List.map_cons, RpL]
    obtain ⟨h0, h1, h2, h3, hk⟩ := h 0 (by simp)
    refine ⟨b, o, rfl, hb, trivial, RpK.mkA (by simpa using h0) (by simpa using h1) (by simpa using h2) (by simpa using h3) (by simpa using hk), mk_RpL hb ps (o + 4) fun i hi => ?_⟩
    have := h (i + 1) (by simpa using hi)
    rw [show o + (i + 1) * 4 = o + 4 + i * 4 by omega] at this
    simpa using this
theorem wf_i64 {z : Int} (h : (Lit.int .i64 z).wf = true) : -9223372036854775808 ≤ z ∧ z ≤ 9223372036854775807 := by
  simp [Lit.wf, show IntKind.i64.min = -9223372036854775808 from rfl, show IntKind.i64.max = 9223372036854775807 from rfl] at h
  omega
theorem cells41 : Tryd.prog.cellsOf 41 = 4 := by kernel_rfl
theorem bytes41 : Tryd.prog.bytesOf 41 = 56 := by kernel_rfl
section
variable {H : Type} {enc : TypeId × Value → H} {W : World}
/-- A slice of replies, as it is read. -/
def RepsOf (v : Value) (W : World) : Prop := ∃ (A : Option Addr) (c : Nat) (l : List Rp), v = .slice A l.length c ∧ l.length ≤ c ∧ (A = none → c = 0) ∧ l.length ≤ 140737488355328 ∧ RpL (fun _ => True) W l A
set_option maxRecDepth 100000 in
/-- Four cells that are a reply. -/
theorem rep_of {N : Nat} (IH : ∀ {fuel : Nat} {v : Value} {x : DataW H × List MemPlace}, SizeOf.sizeOf x.1 ≤ N → DataW.trod enc Tryd.prog W 0 (fun _ => true) true fuel 39 [v] = some x → (∀ m ∈ x.1.weights Tryd.prog 39, m ≤ reachBytes) → RepsOf v W)
    {fuel : Nat} {cs : List Value} {x : DataW H × List MemPlace} (hs : SizeOf.sizeOf x.1 ≤ N + 1) (h : DataW.trod enc Tryd.prog W 0 (fun _ => true) true fuel 41 cs = some x) (hw : ∀ m ∈ x.1.weights Tryd.prog 41, m ≤ reachBytes) (hcl : cs.length = 4) :
    ∃ p : Got, cs = [.int .i64 p.r.kind, .int .i64 p.r.num, .string p.r.text, .slice p.A p.r.kids.length p.c] ∧ RpK (fun _ => True) W p.r p.A p.c := by
  obtain ⟨y0, y1, y2, y3, n, hy, hlen, t0, t1, t2, t3⟩ := trod_struct4 Tryd.underlying41 h
  match cs, hcl with
  | [c0, c1, c2, c3], _ =>
    have k38 : Tryd.prog.cellsOf 38 = 1 := by kernel_rfl
    have k9 : Tryd.prog.cellsOf 9 = 1 := by kernel_rfl
    have k2 : Tryd.prog.cellsOf 2 = 1 := by kernel_rfl
    have k39 : Tryd.prog.cellsOf 39 = 1 := by kernel_rfl
    simp only [k38, k9, k2, k39, List.drop_zero, List.drop_succ_cons, List.take_succ_cons, List.take_zero] at t0 t1 t2 t3
    obtain ⟨z0, e0, x0, w0⟩ := DataW.trod_int Tryd.underlying38 t0
    obtain ⟨z1, e1, x1, w1⟩ := DataW.trod_int Tryd.underlying2 t1
    obtain ⟨z2, e2, x2, w2⟩ := DataW.trod_string Tryd.underlying9 t2
    cases e0; cases e1; cases e2
    have hD : x.1 = .agg [y0.1, y1.1, y2.1, y3.1] := congrArg Prod.fst hy
    have hW : ∀ m, (m ∈ y2.1.weights Tryd.prog 9 ∨ m ∈ y3.1.weights Tryd.prog 39) → m ≤ reachBytes := fun m hm => by
      refine hw m ?_
      rw [hD, DataW.weights, Tryd.underlying41]
      simp only [List.map_cons, List.map_nil, DataW.weightsEach, List.append_nil]
      rcases hm with hm | hm
      · exact List.mem_append_right _ (List.mem_append_right _ (List.mem_append_left _ hm))
      · exact List.mem_append_right _ (List.mem_append_right _ (List.mem_append_right _ hm))
    have hz : z2.size ≤ 140737488351232 := by
      refine hW _ (.inl ?_)
      subst x2
      have h2 : z2.data.toList.length = z2.size := by rw [Array.length_toList]; rfl
      simp [DataW.weights, h2]
    have hsz : SizeOf.sizeOf y3.1 ≤ N := by
      rw [hD] at hs
      simp only [DataW.agg.sizeOf_spec, List.cons.sizeOf_spec] at hs
      omega
    obtain ⟨A, c, l, rfl, g1, g2, g3, g4⟩ := IH hsz t3 (fun m hm => hW m (.inr hm))
    have b0 := wf_i64 w0
    have b1 := wf_i64 w1
    refine ⟨⟨.mk z0 z1 z2 l, A, c⟩, rfl, ⟨b1.1, b1.2, b0.1, b0.2, by show z2.size ≤ _; omega, g3⟩, g2, g1, g4⟩
set_option maxRecDepth 100000 in
theorem reps_of : ∀ (N : Nat) {fuel : Nat} {v : Value} {x : DataW H × List MemPlace}, SizeOf.sizeOf x.1 ≤ N → DataW.trod enc Tryd.prog W 0 (fun _ => true) true fuel 39 [v] = some x → (∀ m ∈ x.1.weights Tryd.prog 39, m ≤ reachBytes) → RepsOf v W
  | 0, fuel, v, x, hs, h, hw => by
    rcases open_slice Tryd.underlying39 h with ⟨hcs, _⟩ | ⟨a, l, c, m, f, D, Pl, hcs, _, hl, hm, hmm, hx, hcell⟩
    · simp at hcs
      exact ⟨none, 0, [], hcs, Nat.le_refl _, fun _ => rfl, Nat.zero_le _, by rw [RpL]; trivial⟩
    · rw [hx] at hs
      simp at hs
  | N + 1, fuel, v, x, hs, h, hw => by
    rcases open_slice Tryd.underlying39 h with ⟨hcs, _⟩ | ⟨a, l, c, m, f, D, Pl, hcs, _, hl, hm, hmm, hx, hcell⟩
    · simp at hcs
      exact ⟨none, 0, [], hcs, Nat.le_refl _, fun _ => rfl, Nat.zero_le _, by rw [RpL]; trivial⟩
    simp at hcs hmm
    subst hmm
    rw [cells41] at hcell
    have hwx : ∀ q ∈ (DataW.slice ((List.range l).map D) ((List.range (m - l)).map fun j => D (l + j))).weights Tryd.prog 39, q ≤ reachBytes := by rw [hx] at hw; exact hw
    rw [DataW.weights, Tryd.underlying39] at hwx
    simp only at hwx
    have hbig : l ≤ 140737488355328 := by
      have h0 := hwx _ (List.mem_cons_self ..)
      rw [bytes41] at h0
      simp at h0
      have h1 : reachBytes = 140737488351232 := rfl
      omega
    have key : ∀ i, ∃ p : Got, i < l → (RpK (fun _ => True) W p.r p.A p.c ∧ W.cell? (a.add (i * 4)) = some (.int .i64 p.r.kind) ∧ W.cell? (a.add (i * 4 + 1)) = some (.int .i64 p.r.num) ∧ W.cell? (a.add (i * 4 + 2)) = some (.string p.r.text) ∧ W.cell? (a.add (i * 4 + 3)) = some (.slice p.A p.r.kids.length p.c)) := by
      intro i
      by_cases hi : i < l
      rotate_left
      · exact ⟨⟨.mk 0 0 noT [], none, 0⟩, fun h => absurd h hi⟩
      obtain ⟨cs, hc, ht⟩ := hcell i (by omega)
      obtain ⟨_, hcl, hat⟩ := World.cells?_some hc
      have hDm : D i ∈ (List.range l).map D := List.mem_map.2 ⟨i, List.mem_range.2 hi, rfl⟩
      have hsz : SizeOf.sizeOf (D i) ≤ N + 1 := by
        have h1 := List.sizeOf_lt_of_mem hDm
        rw [hx] at hs
        simp only [DataW.slice.sizeOf_spec] at hs
        omega
      obtain ⟨p, rfl, hk⟩ := rep_of (N := N) (fun {_ _ _} h1 h2 h3 => reps_of N h1 h2 h3) (x := (D i, Pl i)) hsz ht (fun q hq => hwx q (List.mem_cons_of_mem _ (List.mem_append_left _ (weights_all hDm q hq)))) hcl
      refine ⟨p, fun _ => ⟨hk, ?_, ?_, ?_, ?_⟩⟩
      · have h1 := hat 0 (by omega)
        rw [Go.Deep.add_add] at h1
        exact h1
      · have h1 := hat 1 (by omega)
        rw [Go.Deep.add_add] at h1
        exact h1
      · have h1 := hat 2 (by omega)
        rw [Go.Deep.add_add] at h1
        exact h1
      · have h1 := hat 3 (by omega)
        rw [Go.Deep.add_add] at h1
        exact h1
    obtain ⟨S, hS⟩ := Classical.axiomOfChoice key
    have hlen : (((List.range l).map S).map Got.r).length = l := by simp
    refine ⟨some a, m, ((List.range l).map S).map Got.r, by rw [hlen]; exact hcs, by rw [hlen]; exact hl, (fun h => by cases h), by rw [hlen]; exact hbig, ?_⟩
    by_cases h0 : 0 < l
    · obtain ⟨b, off, spot⟩ := a
      have hc0 := (hS 0 h0).2.1
      have hspot : spot = none := by simpa [Addr.add] using World.cell?_spot hc0
      subst hspot
      have hb : b < W.heap.size := by
        rw [addoff] at hc0
        exact block_lt hc0
      refine mk_RpL hb _ off fun i hi => ?_
      have hi' : i < l := by simpa using hi
      have hg : ((List.range l).map S)[i] = S i := by simp
      rw [hg]
      obtain ⟨k0, k1, k2, k3, k4⟩ := hS i hi'
      rw [addoff] at k1 k2 k3 k4
      exact ⟨k1, by rw [Nat.add_assoc]; exact k2, by rw [Nat.add_assoc]; exact k3, by rw [Nat.add_assoc]; exact k4, k0⟩
    · have h1 : l = 0 := by omega
      subst h1
      simp [RpL]
set_option maxRecDepth 100000 in
/-- A reply by value. -/
theorem reply_of {v : Value} {d : DataW H} {p : List MemPlace} {base : Nat} (hv : Value.okWide Tryd.prog W .any base 41 v) (h : DataW.Trod enc Tryd.prog W 0 (fun _ => true) true 41 v d p) (hw : ∀ m ∈ d.weights Tryd.prog 41, m ≤ reachBytes) :
    ∃ g : Got, v = .agg (rpV g.r g.A g.c) ∧ RpK (fun _ => True) W g.r g.A g.c := by
  obtain ⟨cs, rfl, hsz⟩ := okWide_struct Tryd.underlying41 hv
  obtain ⟨fuel, hf⟩ := h
  have hcl : cs.toList.length = 4 := by rw [Array.length_toList]; exact hsz.trans cells41
  obtain ⟨g, hg, hk⟩ := rep_of (N := SizeOf.sizeOf d) (fun {_ _ _} h1 h2 h3 => reps_of _ h1 h2 h3) (x := (d, p)) (Nat.le_succ _) (by simpa [Value.cells] using hf) hw hcl
  refine ⟨g, ?_, hk⟩
  have : cs = (rpV g.r g.A g.c) := by
    apply Array.toList_inj.1
    rw [hg]
  rw [this]
end
end Go.Proofs.YtglicojojpggmaaDoor
namespace Go.Proofs.YtglicojojpggmaaDoor
open Go Go.RowKit
section
variable {P : Program} {w : World} {ops : Array Oper} {o : Oper} {a : Act} {K : Act → World → Prop} {Q : Exit → Act → World → Prop} {E : Prop}
/-- Bytes that are appended to a row of bytes, at a step of a region that draws. -/
theorem step_bytes (hg : o.guard = none) (s x : Operand) (ho : o.op = .call { callee := .builtin .append, args := #[s, x], argTypes := #[25, 25] })
    (base : Nat) (v : Value) (l : List UInt8) (hs : a.eval s = v) (hown : OwnB w base v l) (ad : Addr) (n c : Nat) (m : List UInt8) (hm : m.length = n) (hx : a.eval x = .slice (some ad) n c)
    (hr : Rd w (some ad) m) (b1 : l.length + n ≤ 140737488355328) (hb : base ≤ w.heap.size)
    (hK : ∀ v' w', OwnB w' base v' (l ++ m) → w.grownBy w' v.ownBlock → K (a.put o.dst v') w') : if Region.wanted o (yielded ops a.tmps) = true then Oper.wp Tryd.prog o a w K Q else E := by
  have hw : Region.wanted o (yielded ops a.tmps) = true := by simp [Region.wanted, hg]
  rw [if_pos hw]
  obtain ⟨i0, hi, hz0, hz1, hz2⟩ := info_parts u8_info
  have hcl := cellsB_len m
  refine wp_append_own w s x 25 ho base 5 i0 _ 1 1 Tryd.underlying25 hi hz0 hz1 hz2 rfl (by omega) v l.length (cellsB l) hs hown ad n c (cellsB m) hx (by omega) hr.rdV.news (cellsB_one m) (by simp only [maxLen]; omega) (by omega) hb (fun v' w' h1 h2 _ => hK v' w' ?_ h2)
  unfold OwnB
  rw [cellsB_app, List.length_append, hm]
  exact h1
end
section
variable {w : World} {ops : Array Oper} {o : Oper} {a : Act} {K : Act → World → Prop} {Q : Exit → Act → World → Prop} {E : Prop}
/-- Bytes that are appended to a row of bytes, at a step of a region that draws; nothing may be appended. -/
theorem step_bytesO (hg : o.guard = none) (s x : Operand) (ho : o.op = .call { callee := .builtin .append, args := #[s, x], argTypes := #[25, 25] })
    (base : Nat) (v : Value) (l : List UInt8) (hs : a.eval s = v) (hown : OwnB w base v l) (A : Option Addr) (n c : Nat) (m : List UInt8) (hm : m.length = n) (hx : a.eval x = .slice A n c)
    (hr : Rd w A m) (hn : A = none → c = 0) (hc : n ≤ c) (b1 : l.length + n ≤ 140737488355328) (hb : base ≤ w.heap.size)
    (hK : ∀ v' w', OwnB w' base v' (l ++ m) → w.grownBy w' v.ownBlock → K (a.put o.dst v') w') : if Region.wanted o (yielded ops a.tmps) = true then Oper.wp Tryd.prog o a w K Q else E := by
  cases A with
  | some ad => exact step_bytes hg s x ho base v l hs hown ad n c m hm hx hr b1 hb hK
  | none =>
    have hw : Region.wanted o (yielded ops a.tmps) = true := by simp [Region.wanted, hg]
    rw [if_pos hw]
    have hc0 := hn rfl
    subst hc0
    obtain rfl : n = 0 := by omega
    have hnil : m = [] := List.eq_nil_of_length_eq_zero hm
    subst hnil
    obtain ⟨i0, hi, hz0, hz1, hz2⟩ := info_parts u8_info
    have hown' : w.ownsRow base 5 1 v l.length (cellsB l) := hown
    have hrun := run_append_owned_none (P := Tryd.prog) (w := w) base 25 o.type 5 i0 1 Tryd.underlying25 hi v l.length (cellsB l) hown'
    have h2 := hK v w (by rw [List.append_nil]; exact hown) ⟨rfl, rfl, rfl, Nat.le_refl _, fun _ _ _ => rfl⟩
    unfold Oper.wp
    simp [execOp, ho, resolve, invoke, builtin, hs, hx, hrun, Result.andThen]
    exact h2
end
/-- The fourth argument, where it lies. -/
structure BoxB (g : Nat) (B : Option Addr) (m d : Nat) (cut : Int) (W : World) : Prop where
  z : W.heap[g]? = some (.cells #[.slice B m d, .int .i64 cut] 65 (0, 0))
theorem BoxB.rows {g : Nat} {B : Option Addr} {m d : Nat} {cut : Int} {W : World} (h : BoxB g B m d cut W) : W.cell? ⟨g, 0, none⟩ = some (.slice B m d) ∧ W.cell? ⟨g, 1, none⟩ = some (.int .i64 cut) := by
  constructor <;> (simp only [World.cell?, h.z]; rfl)
section
open Go.ChangeShapes Go.WideShapes Go.ChangeAt Go.Deep Go.Joins
variable {H : Type} {enc : TypeId × Value → H} {W : World}
set_option maxRecDepth 100000 in
theorem behind_of {base : Nat} {v : Value} {d : DataW H} {p : List MemPlace} (hv : Value.okWide Tryd.prog W .any base 65 v) (h : DataW.Trod enc Tryd.prog W 0 (fun _ => true) true 65 v d p) :
    ∃ B m c l cut, v = .agg #[.slice B m c, .int .i64 cut] ∧ List.length l = m ∧ m ≤ c ∧ c ≤ maxLen ∧ (B = none → c = 0) ∧ Rd W B l ∧ -9223372036854775808 ≤ cut ∧ cut ≤ 9223372036854775807 := by
  obtain ⟨u0, u1, y0, y1, n, rfl, -, -, g0, g1⟩ := open_agg2 Tryd.underlying65 (by kernel_rfl) (by kernel_rfl) hv h
  obtain ⟨B, m, c, l, rfl, h1, h2, h3, h4, h5⟩ := bytes_of g0
  obtain ⟨z1, e1, -, w1⟩ := DataW.trod_int Tryd.underlying3 g1
  simp only [List.cons.injEq, and_true] at e1
  subst e1
  have b1 := wf_i64 w1
  exact ⟨B, m, c, l, z1, rfl, h1, h2, h3, h4, h5, b1.1, b1.2⟩
end
/-- Does a text begin with another one, and go on? -/
def begB (s t : ByteArray) : Bool := decide (t.size < s.size) && decide (s.extract 0 t.size = t)
set_option maxRecDepth 100000 in
set_option maxHeartbeats 4000000 in
theorem begins_any (s t : ByteArray) (w : World) (hs : s.size ≤ 1000000000) (ht : t.size ≤ 1000000000) : Calls Tryd.prog 34 #[.string s, .string t] w fun e w' => e = .returned (.bool (begB s t)) ∧ w' = w := by
  by_cases h1 : t.size < s.size
  · have g1 : decide ((t.size : Int) < (s.size : Int)) = true := decide_eq_true (by omega)
    have g2 : decide (t.size < s.size) = true := decide_eq_true h1
    have g3 : (t.size : Int) ≤ (s.size : Int) := by omega
    have g4 : t.size ≤ s.size := by omega
    have g5 : (0 : Int) ≤ (t.size : Int) := by omega
    by_cases h2 : s.extract 0 t.size = t
    · have e1 : ((s.extract 0 t.size).toList == t.toList) = true := by rw [h2]; exact bytes_eq _
      have HR : Hid (begB s t = true) := Lib.hid (by unfold begB; rw [decide_eq_true h1, decide_eq_true h2]; rfl)
      clear h1 h2
      go_enter Tryd.func34, Tryd.ntmps34
      go_wp2_with fail
      go_ret
      exact ⟨by rw [HR.out]; rfl, rfl⟩
    · have e1 := bytes_ne h2
      have HR : Hid (begB s t = false) := Lib.hid (by unfold begB; rw [decide_eq_true h1, decide_eq_false h2]; rfl)
      clear h1 h2
      go_enter Tryd.func34, Tryd.ntmps34
      go_wp2_with fail
      go_ret
      exact ⟨by rw [HR.out]; rfl, rfl⟩
  · have g1 : decide ((t.size : Int) < (s.size : Int)) = false := decide_eq_false (by omega)
    have g2 : decide (t.size < s.size) = false := decide_eq_false h1
    have HR : Hid (begB s t = false) := Lib.hid (by unfold begB; rw [decide_eq_false h1]; rfl)
    clear h1
    go_enter Tryd.func34, Tryd.ntmps34
    go_wp2_with fail
    go_ret
    exact ⟨by rw [HR.out]; rfl, rfl⟩
/-- No reply's bytes begin those of another one, as texts. -/
theorem beg_enc {r s : Rp} (hr : chkR r = 0) (hs : chkR s = 0) (fr : fitR r) (fs : fitR s) : begB (ofL (encR r)) (ofL (encR s)) = false := by
  unfold begB
  by_cases h1 : (ofL (encR s)).size < (ofL (encR r)).size
  rotate_left
  · rw [decide_eq_false h1]; rfl
  have h2 : ¬ (ofL (encR r)).extract 0 (ofL (encR s)).size = ofL (encR s) := by
    intro e
    have e2 := congrArg bl e
    rw [bl, ByteArray.data_extract, Array.toList_extract, List.extract_eq_take_drop] at e2
    have e3 : (encR r).take (ofL (encR s)).size = bl (ofL (encR s)) := by simpa using e2
    change (encR r).take (encR s).length = encR s at e3
    have e4 : encR r = encR s ++ (encR r).drop (encR s).length := by
      conv => lhs; rw [← List.take_append_drop (encR s).length (encR r), e3]
    have e5 := enc_begin hr hs fr fs _ e4
    subst e5
    exact absurd h1 (Nat.lt_irrefl _)
  rw [decide_eq_false h2, Bool.and_false]
/-- Two replies have the same bytes just if they are the same. -/
theorem enc_same {r s : Rp} (hr : chkR r = 0) (hs : chkR s = 0) (fr : fitR r) (fs : fitR s) : ((ofL (encR r)).toList == (ofL (encR s)).toList) = sameR r s := by
  by_cases h : r = s
  · subst h
    rw [sameR_refl, bytes_eq]
  · have h2 : ofL (encR r) ≠ ofL (encR s) := fun e => h (enc_begin hr hs fr fs [] (by rw [List.append_nil]; exact congrArg bl e))
    rw [bytes_ne h2]
    cases hh : sameR r s with
    | false => rfl
    | true => exact absurd ((sameR_iff r s).1 hh) h
end Go.Proofs.YtglicojojpggmaaDoor
namespace Go.Proofs.YtglicojojpggmaaDoor.respBack
open Go Go.RowKit Go.ChangeShapes Go.WideShapes Go.ChangeAt
open Go.ChangeMaps (open_string shut_string)

/-- The arguments where they lie. -/
structure BZ (w W : World) (a b : Rp) (A1 A2 : Option Addr) (c1 c2 : Nat) (B : Option Addr) (m d : Nat) (cut : Int) : Prop where
  b0 : W.heap[w.heap.size]? = some (.cells (rpV a A1 c1) 41 (0, 0))
  b1 : W.heap[w.heap.size + 1]? = some (.cells (rpV b A2 c2) 41 (0, 0))
  b2 : BoxB (w.heap.size + 1 + 1) B m d cut W
  bel : Below w.heap.size w W
  ka : RpK (· < w.heap.size) W a A1 c1
  kb : RpK (· < w.heap.size) W b A2 c2
section
variable {w W W' : World} {a b : Rp} {A1 A2 : Option Addr} {c1 c2 : Nat} {B : Option Addr} {m d : Nat} {cut : Int} {P P' : Nat → Prop}
theorem BZ.new (ha : RpK P w a A1 c1) (hb : RpK P' w b A2 c2) : BZ w (((w.alloc (.cells (rpV a A1 c1) 41)).alloc (.cells (rpV b A2 c2) 41)).alloc (.cells #[.slice B m d, .int .i64 cut] 65)) a b A1 A2 c1 c2 B m d cut := by
  have h := BY.new ha hb
  generalize hV : (w.alloc (.cells (rpV a A1 c1) 41)).alloc (.cells (rpV b A2 c2) 41) = V at *
  have hs : V.heap.size = w.heap.size + 1 + 1 := by rw [← hV]; simp
  have hb2 := below_new V (.cells #[.slice B m d, .int .i64 cut] 65)
  have h2 := h.next hb2
  exact ⟨h2.b0, h2.b1, ⟨by rw [← hs]; exact heap_alloc_new V _⟩, h2.bel, h2.ka, h2.kb⟩
theorem BZ.next (h : BZ w W a b A1 A2 c1 c2 B m d cut) (hb : Below W.heap.size W W') : BZ w W' a b A1 A2 c1 c2 B m d cut :=
  ⟨(hb.block _ (lt_of_block h.b0)).trans h.b0, (hb.block _ (lt_of_block h.b1)).trans h.b1, ⟨(hb.block _ (lt_of_block h.b2.z)).trans h.b2.z⟩, h.bel.trans (hb.mono h.bel.size), h.ka.imp hb.size (fun b hp hl => ⟨hb.block b hl, hp⟩), h.kb.imp hb.size (fun b hp hl => ⟨hb.block b hl, hp⟩)⟩
theorem BZ.rowA (h : BZ w W a b A1 A2 c1 c2 B m d cut) : W.cell? ⟨w.heap.size, 0, none⟩ = some (.int .i64 a.kind) ∧ W.cell? ⟨w.heap.size, 1, none⟩ = some (.int .i64 a.num) ∧ W.cell? ⟨w.heap.size, 2, none⟩ = some (.string a.text) ∧ W.cell? ⟨w.heap.size, 3, none⟩ = some (.slice A1 a.kids.length c1) := by
  refine ⟨?_, ?_, ?_, ?_⟩
  all_goals
    simp only [World.cell?, h.b0]
    rfl
theorem BZ.rowB (h : BZ w W a b A1 A2 c1 c2 B m d cut) : W.cell? ⟨w.heap.size + 1, 0, none⟩ = some (.int .i64 b.kind) ∧ W.cell? ⟨w.heap.size + 1, 1, none⟩ = some (.int .i64 b.num) ∧ W.cell? ⟨w.heap.size + 1, 2, none⟩ = some (.string b.text) ∧ W.cell? ⟨w.heap.size + 1, 3, none⟩ = some (.slice A2 b.kids.length c2) := by
  refine ⟨?_, ?_, ?_, ?_⟩
  all_goals
    simp only [World.cell?, h.b1]
    rfl
end
theorem enc_small {r : Rp} (h : chkR r = 0) (hg : fitR r) : (encR r).length ≤ 100000000 := by
  have h1 : (mayF r 100 65536 1048576).isSome = true := by
    unfold chkR at h
    by_cases h2 : (mayF r 100 65536 1048576).isSome = true
    · exact h2
    · rw [if_neg h2] at h; cases h
  obtain ⟨p, hp⟩ := Option.isSome_iff_exists.1 h1
  have h2 := (may_ok r 100 65536 1048576 p hg hp (by decide)).2
  have h3 := mayF_le r 100 65536 1048576 p hp (by decide)
  omega
theorem rows41 {W : World} {X : Nat} {r : Rp} {A : Option Addr} {c : Nat} (h : W.heap[X]? = some (.cells (rpV r A c) 41 (0, 0))) : W.cell? ⟨X, 0, none⟩ = some (.int .i64 r.kind) ∧ W.cell? ⟨X, 1, none⟩ = some (.int .i64 r.num) ∧ W.cell? ⟨X, 2, none⟩ = some (.string r.text) ∧ W.cell? ⟨X, 3, none⟩ = some (.slice A r.kids.length c) := by
  refine ⟨?_, ?_, ?_, ?_⟩
  all_goals
    simp only [World.cell?, h]
    rfl
set_option maxHeartbeats 8000000 in
set_option maxRecDepth 100000 in
theorem walk (A : Option Addr) (n c : Nat) (ls : List ByteArray) (a b : Rp) (A1 A2 : Option Addr) (c1 c2 : Nat) (B : Option Addr) (m d : Nat) (lb : List UInt8) (cut : Int) (w : World) (hn : ls.length = n) (hnc : n ≤ c) (bn : n ≤ 9223372036854775807) (hs : ∀ s ∈ ls, s.size ≤ 140737488351232) (hA : A = none → c = 0) (hr : RdV w A (cellsS ls))
    (ha : RpK (fun _ => True) w a A1 c1) (hb : RpK (fun _ => True) w b A2 c2) (hm : lb.length = m) (hmd : m ≤ d) (bm : m ≤ 9223372036854775807) (hB : B = none → d = 0) (hr2 : Rd w B lb) (hcut : -9223372036854775808 ≤ cut ∧ cut ≤ 9223372036854775807) (hg : TAB w) :
    Calls Tryd.prog 10 #[.slice A n c, .agg (rpV a A1 c1), .agg (rpV b A2 c2), .agg #[.slice B m d, .int .i64 cut]] w fun e w' => e = .returned (.bool true) ∧ Below w.heap.size w w' := by
  have HN := Lib.hid hn
  have HO := Lib.hid hA
  have HR := Lib.hid hr
  have HS := Lib.hid hs
  have HM := Lib.hid hm
  have HOB := Lib.hid hB
  have HRB := Lib.hid hr2
  have HG := Lib.hid hg
  have HFA := Lib.hid (fitK ha)
  have HFB := Lib.hid (fitK hb)
  have HCUT := Lib.hid hcut
  have HZ0 := Lib.hid (BZ.new (B := B) (m := m) (d := d) (cut := cut) ha hb)
  clear hn hA hr hs hm hB hr2 hg ha hb hcut
  go_enter Tryd.func10, Tryd.ntmps10
  go_upto_region 1 with (fail)
  generalize ((w.alloc (.cells (rpV a A1 c1) 41)).alloc (.cells (rpV b A2 c2) 41)).alloc (.cells #[.slice B m d, .int .i64 cut] 65) = W0 at *
  have HFW := Lib.hid (few_any A n c ls W0 HN.out bn HS.out (HR.out.below HZ0.out.bel))
  go_wp2_with fail
  refine HFW.out.mono ?_
  rintro e w' ⟨rfl, rfl⟩
  clear HFW
  by_cases hf : szS ls ≤ 3000
  rotate_left
  · rw [decide_eq_false hf]
    clear hf
    go_wp2_with fail
    refine (works_any _ (tab_below HG.out HZ0.out.bel)).mono ?_
    rintro e wz ⟨rfl, hbz⟩
    go_wp2
    go_ret
    exact ⟨rfl, HZ0.out.bel.trans (hbz.mono HZ0.out.bel.size)⟩
  rw [decide_eq_true hf]
  have HSL := Lib.hid hf
  have hln := szS_len ls
  have bn' : n ≤ 750 := by have := HN.out; omega
  clear hf hln
  obtain ⟨v0, v1, v2, v3⟩ := HZ0.out.rowA
  have HSA := Lib.hid (size_any a A1 c1 _ w' HZ0.out.ka)
  go_wp2_with fail
  refine HSA.out.mono ?_
  rintro e w1 ⟨s, rfl, hs1, hs6, hb1⟩
  have HZ1 := Lib.hid (HZ0.out.next hb1)
  clear HSA HZ0 hb1 hs1 v0 v1 v2 v3
  by_cases h3 : 3000 < s
  · have g1 : decide ((3000 : Int) < (s : Int)) = true := decide_eq_true (by omega)
    have g2 : decide (3000 < s) = true := decide_eq_true h3
    go_wp2_with fail
    refine (works_any _ (tab_below HG.out HZ1.out.bel)).mono ?_
    rintro e wz ⟨rfl, hbz⟩
    go_wp2
    go_ret
    exact ⟨rfl, HZ1.out.bel.trans (hbz.mono HZ1.out.bel.size)⟩
  have g1 : decide ((3000 : Int) < (s : Int)) = false := decide_eq_false (by omega)
  have g2 : decide (3000 < s) = false := decide_eq_false h3
  clear h3
  obtain ⟨v0, v1, v2, v3⟩ := HZ1.out.rowB
  have HSB := Lib.hid (size_any b A2 c2 _ w1 HZ1.out.kb)
  go_wp2_with fail
  refine HSB.out.mono ?_
  rintro e w2 ⟨s2, rfl, hs1, hs62, hb1⟩
  have HZ2 := Lib.hid (HZ1.out.next hb1)
  clear HSB HZ1 hb1 hs1 v0 v1 v2 v3 g1 g2
  by_cases h3 : 3000 < s2
  · have g1 : decide ((3000 : Int) < (s2 : Int)) = true := decide_eq_true (by omega)
    have g2 : decide (3000 < s2) = true := decide_eq_true h3
    go_wp2_with fail
    refine (works_any _ (tab_below HG.out HZ2.out.bel)).mono ?_
    rintro e wz ⟨rfl, hbz⟩
    go_wp2
    go_ret
    exact ⟨rfl, HZ2.out.bel.trans (hbz.mono HZ2.out.bel.size)⟩
  have g1 : decide ((3000 : Int) < (s2 : Int)) = false := decide_eq_false (by omega)
  have g2 : decide (3000 < s2) = false := decide_eq_false h3
  clear h3
  obtain ⟨z0, z1⟩ := HZ2.out.b2.rows
  by_cases hm3 : 3000 < m
  · have g3 : decide ((3000 : Int) < (m : Int)) = true := decide_eq_true (by omega)
    have g4 : decide (3000 < m) = true := decide_eq_true hm3
    go_wp2_with fail
    refine (works_any _ (tab_below HG.out HZ2.out.bel)).mono ?_
    rintro e wz ⟨rfl, hbz⟩
    go_wp2
    go_ret
    exact ⟨rfl, HZ2.out.bel.trans (hbz.mono HZ2.out.bel.size)⟩
  have g3 : decide ((3000 : Int) < (m : Int)) = false := decide_eq_false (by omega)
  have g4 : decide (3000 < m) = false := decide_eq_false hm3
  have bm' : m ≤ 3000 := by omega
  clear hm3 bm bn
  have HRQ := Lib.hid (request_any A n c ls w2 HN.out (HR.out.below HZ2.out.bel) (by have := HSL.out; omega) (tab_below HG.out HZ2.out.bel))
  go_wp2_with fail
  refine HRQ.out.mono ?_
  rintro e w3 ⟨v9, rfl, ho9, hb9⟩
  have HZ3 := Lib.hid (HZ2.out.next hb9)
  have HO9 := Lib.hid ho9
  clear ho9 hb9 HRQ HZ2 z0 z1 g1 g2 g3 g4 hs6 hs62
  have HNM := Lib.hid (num_any2 (reqE ls) w3)
  go_wp2_with fail
  refine HNM.out.mono ?_
  rintro e w' ⟨rfl, rfl⟩
  clear HNM
  go_upto_if 53 with fail

  go_cut [11, 12, 13, 14, 15, 16] from 51 (fun x11 x12 x13 x14 x15 x16 W => Hid (BZ w W a b A1 A2 c1 c2 B m d cut))
  case first =>
    by_cases hE : reqE ls = 0
    rotate_left
    · have e1 : (reqE ls == 0) = false := by simpa using hE
      have e2 : decide (reqE ls = 0) = false := decide_eq_false hE
      clear hE
      go_wp2_with fail
      go_meet
      exact HZ3
    have e1 : (reqE ls == 0) = true := by simpa using hE
    have e2 : decide (reqE ls = 0) = true := decide_eq_true hE
    have HE := Lib.hid hE
    obtain ⟨X, hX⟩ : ∃ X, reqL ls.length ls = X := ⟨_, rfl⟩
    have ho := HO9.out
    rw [if_pos hE, hX] at ho
    obtain ⟨L, hL⟩ : ∃ L, X.length = L := ⟨_, rfl⟩
    have hL2 : L ≤ 70000000 := by
      have h1 := szS_len ls
      have h2 := reqL_len ls.length ls (by have := HN.out; omega) (fun s hs => by have h1 := totS_mem hs; have h2 := totS_le ls; have h3 := HSL.out; omega)
      have h3 := HSL.out
      rw [hX, hL] at h2
      omega
    obtain ⟨A9, c9, rfl, hc9, hn9, hr9, hA9⟩ := ho.form hL
    have HR9 := Lib.hid hr9
    have HC9 := Lib.hid hc9
    have HN9 := Lib.hid hn9
    have HA9 : Hid (∀ ad, A9 = some ad → ad.block < w3.heap.size) := Lib.hid (fun ad e => (hA9 ad e).2)
    have HLL := Lib.hid hL
    have HXX := Lib.hid hX
    clear ho hL hX hc9 hn9 hr9 hA9 hE
    go_wp2_with fail
    clear e1 e2
    have HBd : Hid (Below w3.heap.size w3 w3.drew) := Lib.hid (Below.refl _ _).drew
    have HB0 : Hid (Below w3.heap.size w3 (w3.drew.alloc (.cells #[] 5))) := Lib.hid (HBd.out.trans (below_new w3.drew _))
    refine wp_region_held_drew (S := fun W => W.cell? ⟨w.heap.size + 1 + 1, 0, none⟩ = some (.slice B m d)) (by kernel_rfl) (HZ3.out.next HBd.out).b2.rows.1 (fun hHeld => ?_)
    refine wpAnyH_take (i := 1) (v := ?_) (by simp only [List.getElem?_toArray, List.getElem?_cons_succ, List.getElem?_cons_zero] <;> rfl) (by kernel_rfl) (by kernel_rfl) (by kernel_rfl) (by intro _ _ _ h; exact h) (Or.inl ⟨by rfl, ?_⟩) (by assumption) ?_
    rotate_left
    · intro W9 hSw
      have s1 := hSw
      go_simp
      try with_reducible rfl
    try simp only [Act.put, List.setIfInBounds_toArray, List.set_cons_zero, List.set_cons_succ]
    refine wpAnyH_take (i := 3) (v := ?_) (by simp only [List.getElem?_toArray, List.getElem?_cons_succ, List.getElem?_cons_zero] <;> rfl) (by kernel_rfl) (by kernel_rfl) (by kernel_rfl) (by intro _ _ _ h; exact h) (Or.inl ⟨by rfl, ?_⟩) (by assumption) ?_
    rotate_left
    · intro W9 hSw
      have s1 := hSw
      go_simp
      try with_reducible rfl
    try simp only [Act.put, List.setIfInBounds_toArray, List.set_cons_zero, List.set_cons_succ]
    refine wpAnyH_take (i := 4) (v := .slice B m d) (by simp only [List.getElem?_toArray, List.getElem?_cons_succ, List.getElem?_cons_zero] <;> rfl) (by kernel_rfl) (by kernel_rfl) (by kernel_rfl) (by intro _ _ _ h; exact h) (Or.inl ⟨by rfl, ?_⟩) (by assumption) ?_
    · intro W9 hSw
      have s1 := hSw
      go_simp
      try with_reducible rfl
    try simp only [Act.put, List.setIfInBounds_toArray, List.set_cons_zero, List.set_cons_succ]
    refine wpAnyH_ready (rs := [0]) (by kernel_rfl) (by simp) ?_
    refine AllReadyH.cons (by simp only [List.getElem?_toArray, List.getElem?_cons_succ, List.getElem?_cons_zero] <;> rfl) (fun K hK => ?_) AllReadyH.nil
    go_simp
    refine hK.out _ _ (HZ3.out.next HB0.out).b2.rows.1 (fun hHeld => ?_)
    clear hK K
    try simp only [Act.put, List.setIfInBounds_toArray, List.set_cons_zero, List.set_cons_succ]
    refine wpAnyH_ready (rs := [2]) (by kernel_rfl) (by simp) ?_
    refine AllReadyH.cons (by simp only [List.getElem?_toArray, List.getElem?_cons_succ, List.getElem?_cons_zero] <;> rfl) (fun K hK => ?_) AllReadyH.nil
    refine step_bytesO (by rfl) (.tmp 55) (.tmp 56) (by rfl) w3.heap.size _ [] (by rfl) (own_empty w3.drew 5 w3.heap.size (Nat.le_refl _)) A9 L c9 X HLL.out (by rfl) (HR9.out.below HB0.out) HN9.out HC9.out (by simp; omega) (by simp) ?_
    intro v57 w4 ho4 hg4
    have HB4 : Hid (Below w3.heap.size w3 w4) := Lib.hid (HB0.out.trans ((Below.refl w3.heap.size _).grown hg4 HB0.out.size (fun k hk => ((own_empty w3.drew 5 w3.heap.size (Nat.le_refl _)).lt k hk).1)))
    rw [List.nil_append] at ho4
    have HO4 := Lib.hid ho4
    clear hg4 ho4
    refine hK.out _ _ (HZ3.out.next HB4.out).b2.rows.1 (fun hHeld => ?_)
    clear hK K
    try simp only [Act.put, List.setIfInBounds_toArray, List.set_cons_zero, List.set_cons_succ]
    refine wpAnyH_ready (rs := [5]) (by kernel_rfl) (by simp) ?_
    refine AllReadyH.cons (by simp only [List.getElem?_toArray, List.getElem?_cons_succ, List.getElem?_cons_zero] <;> rfl) (fun K hK => ?_) AllReadyH.nil
    refine step_bytesO (by rfl) (.tmp 57) (.tmp 59) (by rfl) w3.heap.size v57 _ (by rfl) HO4.out B m d lb HM.out (by rfl) ((HRB.out.below HZ3.out.bel).below HB4.out) HOB.out hmd (by rw [HLL.out]; omega) HB4.out.size ?_
    intro v60 w5 ho5 hg5
    have HB5 : Hid (Below w3.heap.size w3 w5) := Lib.hid (HB4.out.trans ((Below.refl w3.heap.size _).grown hg5 HB4.out.size (fun k hk => (HO4.out.lt k hk).1)))
    have HLEN : Hid ((X ++ lb).length = L + m) := Lib.hid (by rw [List.length_append, HLL.out, HM.out])
    obtain ⟨A5, c5, rfl, hc5, hn5, hr5, hA5⟩ := OwnB.form ho5 HLEN.out
    have HP5 := Lib.hid (parse_any A5 (L + m) c5 (X ++ lb) w5 HLEN.out hc5 hn5 hr5 (fun ad e => (hA5 ad e).2) (by omega))
    have hpb : parseR (X ++ lb) = (0, ls, L) := by rw [← HXX.out, parse_back HE.out lb, HXX.out, HLL.out]
    rw [hpb] at HP5
    clear hg5 ho5 hc5 hn5 hr5 hA5 hpb
    refine hK.out _ _ (HZ3.out.next HB5.out).b2.rows.1 (fun hHeld => ?_)
    clear hK K
    try simp only [Act.put, List.setIfInBounds_toArray, List.set_cons_zero, List.set_cons_succ]
    refine wpAnyH_ready (rs := [6]) (by kernel_rfl) (by simp) ?_
    refine AllReadyH.cons (by simp only [List.getElem?_toArray, List.getElem?_cons_succ, List.getElem?_cons_zero] <;> rfl) (fun K hK => ?_) AllReadyH.nil
    go_simp
    refine HP5.out.mono ?_
    rintro e w6 ⟨v11, rfl, ho6, hb6⟩
    have HB6 : Hid (Below w3.heap.size w3 w6) := Lib.hid (HB5.out.trans (hb6.mono HB5.out.size))
    have ho6' : w6.ownsRow w5.heap.size 9 1 v11 n (cellsS ls) := by rw [← HN.out]; exact ho6
    obtain ⟨S6, d6, rfl, hsd6, hsn6, hsr6, _⟩ := ownS_form ho6'
    have HS6 := Lib.hid hsr6
    clear ho6 ho6' hb6 HP5 HLEN hsr6 hsn6 HB4 HO4 HB5
    refine hK.out _ _ (HZ3.out.next HB6.out).b2.rows.1 (fun hHeld => ?_)
    clear hK K
    try simp only [Act.put, List.setIfInBounds_toArray, List.set_cons_zero, List.set_cons_succ]
    refine wpAnyH_take (i := 7) (v := ?_) (by simp only [List.getElem?_toArray, List.getElem?_cons_succ, List.getElem?_cons_zero] <;> rfl) (by kernel_rfl) (by kernel_rfl) (by kernel_rfl) (by intro _ _ _ h; exact h) (Or.inl ⟨by rfl, ?_⟩) (by assumption) ?_
    rotate_left
    · intro W9 hSw
      have s1 := hSw
      go_simp
      try with_reducible rfl
    try simp only [Act.put, List.setIfInBounds_toArray, List.set_cons_zero, List.set_cons_succ]
    refine wpAnyH_take (i := 8) (v := ?_) (by simp only [List.getElem?_toArray, List.getElem?_cons_succ, List.getElem?_cons_zero] <;> rfl) (by kernel_rfl) (by kernel_rfl) (by kernel_rfl) (by intro _ _ _ h; exact h) (Or.inl ⟨by rfl, ?_⟩) (by assumption) ?_
    rotate_left
    · intro W9 hSw
      have s1 := hSw
      go_simp
      try with_reducible rfl
    try simp only [Act.put, List.setIfInBounds_toArray, List.set_cons_zero, List.set_cons_succ]
    refine wpAnyH_take (i := 9) (v := ?_) (by simp only [List.getElem?_toArray, List.getElem?_cons_succ, List.getElem?_cons_zero] <;> rfl) (by kernel_rfl) (by kernel_rfl) (by kernel_rfl) (by intro _ _ _ h; exact h) (Or.inl ⟨by rfl, ?_⟩) (by assumption) ?_
    rotate_left
    · intro W9 hSw
      have s1 := hSw
      go_simp
      try with_reducible rfl
    try simp only [Act.put, List.setIfInBounds_toArray, List.set_cons_zero, List.set_cons_succ]
    refine wpAnyH_take (i := 10) (v := ?_) (by simp only [List.getElem?_toArray, List.getElem?_cons_succ, List.getElem?_cons_zero] <;> rfl) (by kernel_rfl) (by kernel_rfl) (by kernel_rfl) (by intro _ _ _ h; exact h) (Or.inl ⟨by rfl, ?_⟩) (by assumption) ?_
    rotate_left
    · intro W9 hSw
      have s1 := hSw
      go_simp
      try with_reducible rfl
    try simp only [Act.put, List.setIfInBounds_toArray, List.set_cons_zero, List.set_cons_succ]
    refine wpAnyH_ready (rs := [11]) (by kernel_rfl) (by simp) ?_
    refine AllReadyH.cons (by simp only [List.getElem?_toArray, List.getElem?_cons_succ, List.getElem?_cons_zero] <;> rfl) (fun K hK => ?_) AllReadyH.nil
    go_simp
    refine hK.out _ _ hHeld (fun hHeld => ?_)
    clear hK K
    try simp only [Act.put, List.setIfInBounds_toArray, List.set_cons_zero, List.set_cons_succ]
    refine wpAnyH_ready (rs := [12]) (by kernel_rfl) (by simp) ?_
    refine AllReadyH.cons (by simp only [List.getElem?_toArray, List.getElem?_cons_succ, List.getElem?_cons_zero] <;> rfl) (fun K hK => ?_) AllReadyH.nil
    go_simp
    refine hK.out _ _ hHeld (fun hHeld => ?_)
    clear hK K
    try simp only [Act.put, List.setIfInBounds_toArray, List.set_cons_zero, List.set_cons_succ]
    refine wpAnyH_ready (rs := [13]) (by kernel_rfl) (by simp) ?_
    refine AllReadyH.cons (by simp only [List.getElem?_toArray, List.getElem?_cons_succ, List.getElem?_cons_zero] <;> rfl) (fun K hK => ?_) AllReadyH.nil
    go_simp
    refine hK.out _ _ hHeld (fun hHeld => ?_)
    clear hK K hHeld
    try simp only [Act.put, List.setIfInBounds_toArray, List.set_cons_zero, List.set_cons_succ]
    refine wpAnyH_done (by kernel_rfl) ?_ _
    have HN0 := Lib.hid (num_any2 0 w6)
    go_wp2_with fail
    refine HN0.out.mono ?_
    rintro e w' ⟨rfl, rfl⟩
    have HZ6 := Lib.hid (HZ3.out.next HB6.out)
    have HX6 := Lib.hid (HR9.out.below HB6.out)
    have HA6 : Hid (∀ ad, A9 = some ad → ad.block < w6.heap.size) := Lib.hid (fun ad e => Nat.lt_of_lt_of_le (HA9.out ad e) HB6.out.size)
    clear HN0 HB6 HBd HB0 HA9 HR9 HZ3 HO9
    have HONE := Lib.hid (one_any S6 A n n d6 c ls ls w6 HN.out HN.out (by omega) (by omega) HS6.out (HR.out.below HZ6.out.bel))
    rw [eqS_refl] at HONE
    go_wp2_with fail
    refine HONE.out.mono ?_
    rintro e w7 ⟨rfl, q, hq⟩
    have HB7 : Hid (Below w6.heap.size w6 w7) := Lib.hid (by rw [hq]; exact below_any q (Below.refl _ _))
    have HZ7 := Lib.hid (HZ6.out.next HB7.out)
    have HX7 := Lib.hid (HX6.out.below HB7.out)
    have HA7 : Hid (∀ ad, A9 = some ad → ad.block < w7.heap.size) := Lib.hid (fun ad e => Nat.lt_of_lt_of_le (HA6.out ad e) HB7.out.size)
    clear hq HONE HS6 HB7 HZ6 HX6 HA6
    obtain ⟨z0, z1⟩ := HZ7.out.b2.rows
    by_cases h0 : 0 ≤ cut
    rotate_left
    · have d1 : decide (0 ≤ cut) = false := decide_eq_false h0
      clear h0
      go_wp2_with fail
      go_meet
      exact HZ7
    have d1 : decide (0 ≤ cut) = true := decide_eq_true h0
    by_cases h1 : cut < (L : Int)
    rotate_left
    · have d2 : decide (cut < (L : Int)) = false := decide_eq_false h1
      clear h0 h1
      go_wp2_with fail
      go_meet
      exact HZ7
    have d2 : decide (cut < (L : Int)) = true := decide_eq_true h1
    obtain ⟨k, hk⟩ : ∃ k : Nat, cut = k := ⟨cut.toNat, by omega⟩
    subst hk
    have hkl : k < L := by omega
    have HTK : Hid ((X.take k).length = k) := Lib.hid (by rw [List.length_take, HLL.out]; omega)
    have hc9 := HC9.out
    have HPK := Lib.hid (parse_any A9 k c9 (X.take k) w7 HTK.out (by omega) HN9.out (HX7.out.take k) HA7.out (by omega))
    have hcut : (parseR (X.take k)).1 = 130 := by
      rw [← HXX.out]
      exact parse_cut HE.out k (by rw [HXX.out, HLL.out]; exact hkl) (fun l h => (parse_laid (Prod.ext h rfl : parseR l = (0, (parseR l).2.1, (parseR l).2.2))).2.2.1)
    unfold ParseEnd at HPK
    rw [hcut] at HPK
    have HN1 : Hid (∀ W, Calls Tryd.prog 16 #[.int .i64 130] W fun e w' => e = .returned (.int .i64 130) ∧ W = w') := Lib.hid (fun W => num_any2 130 W)
    clear hcut
    go_wp2_with (refine wpList_up (by rfl) (.tmp 91) (.tmp 93) rfl A9 L c9 rfl k rfl (by omega) ?_)
    refine HPK.out.mono ?_
    rintro e w8 ⟨v14, rfl, _, hb8⟩
    have HZ8 := Lib.hid (HZ7.out.next hb8)
    clear hb8
    go_wp2_with fail
    refine (HN1.out w8).mono ?_
    rintro e w' ⟨rfl, rfl⟩
    go_wp2_with fail
    go_meet
    exact HZ8
  case rest =>
    have HZ4 := hcut
    obtain ⟨v0, v1, v2, v3⟩ := HZ4.out.rowA
    have HEA := Lib.hid (encode_any _ a A1 c1 wc HZ4.out.ka (tab_below HG.out HZ4.out.bel))
    go_wp2_with fail
    refine HEA.out.mono ?_
    rintro e y1 ⟨v17, rfl, ho17, hb17⟩
    have HZ5a := Lib.hid (HZ4.out.next hb17)
    clear v0 v1 v2 v3 HEA
    obtain ⟨v0, v1, v2, v3⟩ := HZ5a.out.rowB
    have HEB := Lib.hid (encode_any _ b A2 c2 y1 HZ5a.out.kb (tab_below HG.out HZ5a.out.bel))
    go_wp2_with fail
    refine HEB.out.mono ?_
    rintro e y2 ⟨v18, rfl, ho18, hb18⟩
    have HZ5 := Lib.hid (HZ5a.out.next hb18)
    have HO17 : Hid (OwnB y2 wc.heap.size v17 (if chkR a = 0 then encR a else [])) := Lib.hid (OwnB.below ho17 hb18)
    have HO18 := Lib.hid ho18
    clear v0 v1 v2 v3 HEB ho17 ho18 hb17 hb18 HZ5a
    have HNA := Lib.hid (num_any2 (chkR a) y2)
    go_wp2_with fail
    refine HNA.out.mono ?_
    rintro e w' ⟨rfl, rfl⟩
    clear HNA
    by_cases ha0 : chkR a = 0
    rotate_left
    · have e1 : (chkR a != 0) = true := by simpa using ha0
      have e2 : decide (chkR a = 0) = false := decide_eq_false ha0
      have ho := HO17.out
      rw [if_neg ha0] at ho
      obtain ⟨A17, c17, rfl, _, _, _, _⟩ := ho.form (n := 0) rfl
      clear ho ha0 HO17
      go_wp2_with fail
      refine (works_any y2 (tab_below HG.out HZ5.out.bel)).mono ?_
      rintro e wz ⟨rfl, hbz⟩
      go_wp2
      go_ret
      exact ⟨rfl, HZ5.out.bel.trans (hbz.mono HZ5.out.bel.size)⟩
    have e1 : (chkR a != 0) = false := by simpa using ha0
    have e2 : decide (chkR a = 0) = true := decide_eq_true ha0
    have HA0 := Lib.hid ha0
    obtain ⟨Y, hY⟩ : ∃ Y, encR a = Y := ⟨_, rfl⟩
    have ho := HO17.out
    rw [if_pos ha0, hY] at ho
    obtain ⟨LY, hLY⟩ : ∃ LY, Y.length = LY := ⟨_, rfl⟩
    obtain ⟨A17, c17, rfl, hc17, hn17, hr17, hA17⟩ := ho.form hLY
    have HYY := Lib.hid hY
    have HLY := Lib.hid hLY
    have HR17 := Lib.hid hr17
    have HC17 := Lib.hid hc17
    have HN17 := Lib.hid hn17
    have HA17 : Hid (∀ ad, A17 = some ad → ad.block < y2.heap.size) := Lib.hid (fun ad e => (hA17 ad e).2)
    have hLY2 : LY ≤ 100000000 := by rw [← hLY, ← hY]; exact enc_small HA0.out HFA.out
    have hd0 := decode_back HA0.out HFA.out lb
    rw [hY] at hd0
    obtain ⟨D, hD⟩ : ∃ D, decR (Y ++ lb) = D := ⟨_, rfl⟩
    have HD1 : Hid ((decR (Y ++ lb)).e = 0) := Lib.hid hd0.1
    have HD2 : Hid ((decR (Y ++ lb)).r = a) := Lib.hid hd0.2.1
    have HD3 : Hid ((decR (Y ++ lb)).a = LY) := Lib.hid (by rw [hd0.2.2, hLY])
    have HLEN : Hid ((Y ++ lb).length = LY + m) := Lib.hid (by rw [List.length_append, HLY.out, HM.out])
    have hyz := HZ5.out.bel.size
    clear ho ha0 hY hLY hc17 hn17 hr17 hA17 HO17 hd0 hD D
    go_upto_region 16 with (fail)
    clear e1 e2
    go_cut [20, 21, 22] from 112 (fun x20 x21 x22 W => ∃ (X : Nat) (A20 : Option Addr) (c20 : Nat), x20 = .pointer (some ⟨X, 0, none⟩) ∧ x21 = .int .i64 (LY : Nat) ∧ x22 = .int .i64 0 ∧ Hid (BZ w W a b A1 A2 c1 c2 B m d cut) ∧ Hid (W.heap[X]? = some (.cells (rpV a A20 c20) 41 (0, 0))) ∧ Hid (RpK (fun _ => True) W a A20 c20) ∧ Hid (Below y2.heap.size y2 W))
    case first =>
      have HBd : Hid (Below y2.heap.size y2 y2.drew) := Lib.hid (Below.refl _ _).drew
      refine wp_region_held_drew (S := fun W => W.cell? ⟨w.heap.size + 1 + 1, 0, none⟩ = some (.slice B m d)) (by kernel_rfl) (HZ5.out.next HBd.out).b2.rows.1 (fun hHeld => ?_)
      refine wpAnyH_take (i := 1) (v := ?_) (by simp only [List.getElem?_toArray, List.getElem?_cons_succ, List.getElem?_cons_zero] <;> rfl) (by kernel_rfl) (by kernel_rfl) (by kernel_rfl) (by intro _ _ _ h; exact h) (Or.inl ⟨by rfl, ?_⟩) (by assumption) ?_
      rotate_left
      · intro W9 hSw
        have s1 := hSw
        go_simp
        try with_reducible rfl
      try simp only [Act.put, List.setIfInBounds_toArray, List.set_cons_zero, List.set_cons_succ]
      refine wpAnyH_take (i := 3) (v := ?_) (by simp only [List.getElem?_toArray, List.getElem?_cons_succ, List.getElem?_cons_zero] <;> rfl) (by kernel_rfl) (by kernel_rfl) (by kernel_rfl) (by intro _ _ _ h; exact h) (Or.inl ⟨by rfl, ?_⟩) (by assumption) ?_
      rotate_left
      · intro W9 hSw
        have s1 := hSw
        go_simp
        try with_reducible rfl
      try simp only [Act.put, List.setIfInBounds_toArray, List.set_cons_zero, List.set_cons_succ]
      refine wpAnyH_take (i := 4) (v := .slice B m d) (by simp only [List.getElem?_toArray, List.getElem?_cons_succ, List.getElem?_cons_zero] <;> rfl) (by kernel_rfl) (by kernel_rfl) (by kernel_rfl) (by intro _ _ _ h; exact h) (Or.inl ⟨by rfl, ?_⟩) (by assumption) ?_
      · intro W9 hSw
        have s1 := hSw
        go_simp
        try with_reducible rfl
      try simp only [Act.put, List.setIfInBounds_toArray, List.set_cons_zero, List.set_cons_succ]
      refine wpAnyH_ready (rs := [0, 11]) (by kernel_rfl) (by simp) ?_
      refine AllReadyH.cons (by simp only [List.getElem?_toArray, List.getElem?_cons_succ, List.getElem?_cons_zero] <;> rfl) (fun K hK => ?_) (AllReadyH.cons (by simp only [List.getElem?_toArray, List.getElem?_cons_succ, List.getElem?_cons_zero] <;> rfl) (fun K hK => ?_) AllReadyH.nil)
      · go_simp
        have HB1e : Hid (Below y2.heap.size y2 (y2.drew.alloc (.cells #[] 5))) := Lib.hid (HBd.out.trans ((below_new y2.drew _).mono HBd.out.size))
        have HO1e : Hid (OwnB (y2.drew.alloc (.cells #[] 5)) y2.heap.size (.slice (some ⟨y2.heap.size, 0, none⟩) 0 0) []) := Lib.hid (by have h := own_empty y2.drew 5 y2.heap.size HBd.out.size; have e : (y2.drew : World).heap.size = y2.heap.size := (by first | rfl | simp); rw [e] at h; exact h)
        refine hK.out _ _ (HZ5.out.next HB1e.out).b2.rows.1 (fun hHeld => ?_)
        clear hK K
        try simp only [Act.put, List.setIfInBounds_toArray, List.set_cons_zero, List.set_cons_succ]
        refine wpAnyH_ready (rs := [2, 11]) (by kernel_rfl) (by simp) ?_
        refine AllReadyH.cons (by simp only [List.getElem?_toArray, List.getElem?_cons_succ, List.getElem?_cons_zero] <;> rfl) (fun K hK => ?_) (AllReadyH.cons (by simp only [List.getElem?_toArray, List.getElem?_cons_succ, List.getElem?_cons_zero] <;> rfl) (fun K hK => ?_) AllReadyH.nil)
        · refine step_bytesO (by rfl) (.tmp 122) (.tmp 123) (by rfl) y2.heap.size _ [] (by rfl) HO1e.out A17 LY c17 Y HLY.out (by rfl) (HR17.out.below HB1e.out) HN17.out HC17.out (by simp; omega) HB1e.out.size ?_
          intro v2v u2w ho2 hg2
          have HB2e : Hid (Below y2.heap.size y2 u2w) := Lib.hid (HB1e.out.trans ((Below.refl y2.heap.size _).grown hg2 HB1e.out.size (fun k hk => (HO1e.out.lt k hk).1)))
          rw [List.nil_append] at ho2
          have HO2e := Lib.hid ho2
          clear hg2 ho2
          refine hK.out _ _ (HZ5.out.next HB2e.out).b2.rows.1 (fun hHeld => ?_)
          clear hK K
          try simp only [Act.put, List.setIfInBounds_toArray, List.set_cons_zero, List.set_cons_succ]
          refine wpAnyH_ready (rs := [5, 11]) (by kernel_rfl) (by simp) ?_
          refine AllReadyH.cons (by simp only [List.getElem?_toArray, List.getElem?_cons_succ, List.getElem?_cons_zero] <;> rfl) (fun K hK => ?_) (AllReadyH.cons (by simp only [List.getElem?_toArray, List.getElem?_cons_succ, List.getElem?_cons_zero] <;> rfl) (fun K hK => ?_) AllReadyH.nil)
          · refine step_bytesO (by rfl) (.tmp 124) (.tmp 126) (by rfl) y2.heap.size _ _ (by rfl) HO2e.out B m d lb HM.out (by rfl) ((HRB.out.below HZ5.out.bel).below HB2e.out) HOB.out hmd (by rw [HLY.out]; omega) HB2e.out.size ?_
            intro v3v u3w ho3 hg3
            have HB3e : Hid (Below y2.heap.size y2 u3w) := Lib.hid (HB2e.out.trans ((Below.refl y2.heap.size _).grown hg3 HB2e.out.size (fun k hk => (HO2e.out.lt k hk).1)))
            obtain ⟨A5, c5, rfl, hc5, hn5, hr5, hA5⟩ := OwnB.form ho3 HLEN.out
            have HC5 := Lib.hid hc5
            have HN5 := Lib.hid hn5
            have HR3 := Lib.hid hr5
            have HA3 : Hid (∀ ad, A5 = some ad → ad.block < u3w.heap.size) := Lib.hid (fun ad e => (hA5 ad e).2)
            have HO3e := Lib.hid ho3
            clear hg3 ho3 hc5 hn5 hr5 hA5
            refine hK.out _ _ (HZ5.out.next HB3e.out).b2.rows.1 (fun hHeld => ?_)
            clear hK K
            try simp only [Act.put, List.setIfInBounds_toArray, List.set_cons_zero, List.set_cons_succ]
            refine wpAnyH_ready (rs := [6, 11]) (by kernel_rfl) (by simp) ?_
            refine AllReadyH.cons (by simp only [List.getElem?_toArray, List.getElem?_cons_succ, List.getElem?_cons_zero] <;> rfl) (fun K hK => ?_) (AllReadyH.cons (by simp only [List.getElem?_toArray, List.getElem?_cons_succ, List.getElem?_cons_zero] <;> rfl) (fun K hK => ?_) AllReadyH.nil)
            · go_simp
              refine (decode_any A5 (LY + m) c5 (Y ++ lb) u3w HLEN.out HC5.out HN5.out HR3.out HA3.out (by omega)).mono ?_
              rintro e u4w ⟨A16, c16, rfl, hk4, hb4⟩
              rw [HD1.out, HD2.out, HD3.out]
              rw [HD2.out] at hk4
              have HB4e : Hid (Below y2.heap.size y2 u4w) := Lib.hid (HB3e.out.trans (hb4.mono HB3e.out.size))
              have HK4e : Hid (RpK (fun b => b < u4w.heap.size) u4w a A16 c16) := Lib.hid hk4.old
              clear hk4 hb4 HR3 HA3 HC5 HN5
              refine hK.out _ _ (HZ5.out.next HB4e.out).b2.rows.1 (fun hHeld => ?_)
              clear hK K
              try simp only [Act.put, List.setIfInBounds_toArray, List.set_cons_zero, List.set_cons_succ]
              refine wpAnyH_take (i := 7) (v := ?_) (by simp only [List.getElem?_toArray, List.getElem?_cons_succ, List.getElem?_cons_zero] <;> rfl) (by kernel_rfl) (by kernel_rfl) (by kernel_rfl) (by intro _ _ _ h; exact h) (Or.inl ⟨by rfl, ?_⟩) (by assumption) ?_
              rotate_left
              · intro W9 hSw
                have s1 := hSw
                go_simp
                try with_reducible rfl
              try simp only [Act.put, List.setIfInBounds_toArray, List.set_cons_zero, List.set_cons_succ]
              refine wpAnyH_take (i := 8) (v := ?_) (by simp only [List.getElem?_toArray, List.getElem?_cons_succ, List.getElem?_cons_zero] <;> rfl) (by kernel_rfl) (by kernel_rfl) (by kernel_rfl) (by intro _ _ _ h; exact h) (Or.inl ⟨by rfl, ?_⟩) (by assumption) ?_
              rotate_left
              · intro W9 hSw
                have s1 := hSw
                go_simp
                try with_reducible rfl
              try simp only [Act.put, List.setIfInBounds_toArray, List.set_cons_zero, List.set_cons_succ]
              refine wpAnyH_take (i := 9) (v := ?_) (by simp only [List.getElem?_toArray, List.getElem?_cons_succ, List.getElem?_cons_zero] <;> rfl) (by kernel_rfl) (by kernel_rfl) (by kernel_rfl) (by intro _ _ _ h; exact h) (Or.inl ⟨by rfl, ?_⟩) (by assumption) ?_
              rotate_left
              · intro W9 hSw
                have s1 := hSw
                go_simp
                try with_reducible rfl
              try simp only [Act.put, List.setIfInBounds_toArray, List.set_cons_zero, List.set_cons_succ]
              refine wpAnyH_take (i := 10) (v := ?_) (by simp only [List.getElem?_toArray, List.getElem?_cons_succ, List.getElem?_cons_zero] <;> rfl) (by kernel_rfl) (by kernel_rfl) (by kernel_rfl) (by intro _ _ _ h; exact h) (Or.inl ⟨by rfl, ?_⟩) (by assumption) ?_
              rotate_left
              · intro W9 hSw
                have s1 := hSw
                go_simp
                try with_reducible rfl
              try simp only [Act.put, List.setIfInBounds_toArray, List.set_cons_zero, List.set_cons_succ]
              refine wpAnyH_ready (rs := [11]) (by kernel_rfl) (by simp) ?_
              refine AllReadyH.cons (by simp only [List.getElem?_toArray, List.getElem?_cons_succ, List.getElem?_cons_zero] <;> rfl) (fun K hK => ?_) AllReadyH.nil
              go_simp
              have HB5b : Hid (Below y2.heap.size y2 (u4w.alloc (.cells zero41 41))) := Lib.hid (HB4e.out.trans ((below_new u4w _).mono HB4e.out.size))
              have HX5b : Hid ((u4w.alloc (.cells zero41 41)).heap[u4w.heap.size]? = some (.cells zero41 41 (0, 0))) := Lib.hid (heap_alloc_new u4w (.cells zero41 41))
              have HX5bs : Hid (y2.heap.size ≤ u4w.heap.size) := Lib.hid (HB4e.out.size)
              have HK5b : Hid (RpK (fun b => b ≠ u4w.heap.size) (u4w.alloc (.cells zero41 41)) a A16 c16) := Lib.hid (HK4e.out.imp (below_new u4w _).size (fun b hb hl => ⟨(below_new u4w _).block b hl, by omega⟩))
              refine hK.out _ _ (HZ5.out.next HB5b.out).b2.rows.1 (fun hHeld => ?_)
              clear hK K
              try simp only [Act.put, List.setIfInBounds_toArray, List.set_cons_zero, List.set_cons_succ]
              refine wpAnyH_ready (rs := [12]) (by kernel_rfl) (by simp) ?_
              refine AllReadyH.cons (by simp only [List.getElem?_toArray, List.getElem?_cons_succ, List.getElem?_cons_zero] <;> rfl) (fun K hK => ?_) AllReadyH.nil
              refine step_store_row rfl 41 (.tmp 20) (.tmp 129) rfl u4w.heap.size (rpV a A16 c16) rfl rfl 41 zero41 HX5b.out size41 rfl (by simp [Value.oneCell']) ?_
              have hxs := HX5bs.out
              have so : ∀ b, b ≠ u4w.heap.size → (World.setRow (u4w.alloc (.cells zero41 41)) u4w.heap.size (rpV a A16 c16)).heap[b]? = ((u4w.alloc (.cells zero41 41)) : World).heap[b]? := fun b hb => setRow_other _ _ _ _ hb
              have HBf : Hid (Below y2.heap.size y2 (World.setRow (u4w.alloc (.cells zero41 41)) u4w.heap.size (rpV a A16 c16))) := Lib.hid (HB5b.out.trans ⟨rfl, rfl, rfl, by simp, fun k hk => so k (by omega)⟩)
              have HXf : Hid ((World.setRow (u4w.alloc (.cells zero41 41)) u4w.heap.size (rpV a A16 c16)).heap[u4w.heap.size]? = some (.cells (rpV a A16 c16) 41 (0, 0))) := Lib.hid (setRow_heap _ _ _ _ _ _ HX5b.out)
              have HKf : Hid (RpK (fun _ => True) (World.setRow (u4w.alloc (.cells zero41 41)) u4w.heap.size (rpV a A16 c16)) a A16 c16) := Lib.hid (HK5b.out.imp (by simp) (fun b hb hl => ⟨so b hb, trivial⟩))
              refine hK.out _ _ (HZ5.out.next HBf.out).b2.rows.1 (fun hHeld => ?_)
              clear hK K so hxs
              try simp only [Act.put, List.setIfInBounds_toArray, List.set_cons_zero, List.set_cons_succ]
              refine wpAnyH_ready (rs := [13]) (by kernel_rfl) (by simp) ?_
              refine AllReadyH.cons (by simp only [List.getElem?_toArray, List.getElem?_cons_succ, List.getElem?_cons_zero] <;> rfl) (fun K hK => ?_) AllReadyH.nil
              go_simp
              refine hK.out _ _ hHeld (fun hHeld => ?_)
              clear hK K
              try simp only [Act.put, List.setIfInBounds_toArray, List.set_cons_zero, List.set_cons_succ]
              refine wpAnyH_ready (rs := [14]) (by kernel_rfl) (by simp) ?_
              refine AllReadyH.cons (by simp only [List.getElem?_toArray, List.getElem?_cons_succ, List.getElem?_cons_zero] <;> rfl) (fun K hK => ?_) AllReadyH.nil
              go_simp
              refine hK.out _ _ hHeld (fun hHeld => ?_)
              clear hK K hHeld
              try simp only [Act.put, List.setIfInBounds_toArray, List.set_cons_zero, List.set_cons_succ]
              refine wpAnyH_done (by kernel_rfl) ?_ _
              go_wp2_with fail
              go_meet
              exact ⟨_, A16, c16, rfl, rfl, rfl, Lib.hid (HZ5.out.next HBf.out), HXf, HKf, HBf⟩
            · go_simp
              have HB4b : Hid (Below y2.heap.size y2 (u3w.alloc (.cells zero41 41))) := Lib.hid (HB3e.out.trans ((below_new u3w _).mono HB3e.out.size))
              have HX4b : Hid ((u3w.alloc (.cells zero41 41)).heap[u3w.heap.size]? = some (.cells zero41 41 (0, 0))) := Lib.hid (heap_alloc_new u3w (.cells zero41 41))
              have HX4bs : Hid (y2.heap.size ≤ u3w.heap.size) := Lib.hid (HB3e.out.size)
              have HO4b := Lib.hid (HO3e.out.below (below_new u3w (.cells zero41 41)))
              have HR4 := Lib.hid (HR3.out.below (below_new u3w (.cells zero41 41)))
              have HA4 : Hid (∀ ad, A5 = some ad → ad.block < (u3w.alloc (.cells zero41 41)).heap.size) := Lib.hid (fun ad e => Nat.lt_of_lt_of_le (HA3.out ad e) (below_new u3w _).size)
              refine hK.out _ _ (HZ5.out.next HB4b.out).b2.rows.1 (fun hHeld => ?_)
              clear hK K
              try simp only [Act.put, List.setIfInBounds_toArray, List.set_cons_zero, List.set_cons_succ]
              refine wpAnyH_ready (rs := [6]) (by kernel_rfl) (by simp) ?_
              refine AllReadyH.cons (by simp only [List.getElem?_toArray, List.getElem?_cons_succ, List.getElem?_cons_zero] <;> rfl) (fun K hK => ?_) AllReadyH.nil
              go_simp
              refine (decode_any A5 (LY + m) c5 (Y ++ lb) (u3w.alloc (.cells zero41 41)) HLEN.out HC5.out HN5.out HR4.out HA4.out (by omega)).mono ?_
              rintro e u7w ⟨A16, c16, rfl, hk7, hb7⟩
              rw [HD1.out, HD2.out, HD3.out]
              rw [HD2.out] at hk7
              have HB7e : Hid (Below y2.heap.size y2 u7w) := Lib.hid (HB4b.out.trans (hb7.mono HB4b.out.size))
              have hl7 := lt_of_block HX4b.out
              have HX7e : Hid (u7w.heap[u3w.heap.size]? = some (.cells zero41 41 (0, 0))) := Lib.hid ((hb7.block _ hl7).trans HX4b.out)
              have HX7es := HX4bs
              have HK7e : Hid (RpK (fun b => b ≠ u3w.heap.size) u7w a A16 c16) := Lib.hid (hk7.imp (Nat.le_refl _) (fun b hb _ => ⟨rfl, by omega⟩))
              clear hl7
              clear hk7 hb7 HR4 HA4 HC5 HN5
              refine hK.out _ _ (HZ5.out.next HB7e.out).b2.rows.1 (fun hHeld => ?_)
              clear hK K
              try simp only [Act.put, List.setIfInBounds_toArray, List.set_cons_zero, List.set_cons_succ]
              refine wpAnyH_take (i := 7) (v := ?_) (by simp only [List.getElem?_toArray, List.getElem?_cons_succ, List.getElem?_cons_zero] <;> rfl) (by kernel_rfl) (by kernel_rfl) (by kernel_rfl) (by intro _ _ _ h; exact h) (Or.inl ⟨by rfl, ?_⟩) (by assumption) ?_
              rotate_left
              · intro W9 hSw
                have s1 := hSw
                go_simp
                try with_reducible rfl
              try simp only [Act.put, List.setIfInBounds_toArray, List.set_cons_zero, List.set_cons_succ]
              refine wpAnyH_take (i := 8) (v := ?_) (by simp only [List.getElem?_toArray, List.getElem?_cons_succ, List.getElem?_cons_zero] <;> rfl) (by kernel_rfl) (by kernel_rfl) (by kernel_rfl) (by intro _ _ _ h; exact h) (Or.inl ⟨by rfl, ?_⟩) (by assumption) ?_
              rotate_left
              · intro W9 hSw
                have s1 := hSw
                go_simp
                try with_reducible rfl
              try simp only [Act.put, List.setIfInBounds_toArray, List.set_cons_zero, List.set_cons_succ]
              refine wpAnyH_take (i := 9) (v := ?_) (by simp only [List.getElem?_toArray, List.getElem?_cons_succ, List.getElem?_cons_zero] <;> rfl) (by kernel_rfl) (by kernel_rfl) (by kernel_rfl) (by intro _ _ _ h; exact h) (Or.inl ⟨by rfl, ?_⟩) (by assumption) ?_
              rotate_left
              · intro W9 hSw
                have s1 := hSw
                go_simp
                try with_reducible rfl
              try simp only [Act.put, List.setIfInBounds_toArray, List.set_cons_zero, List.set_cons_succ]
              refine wpAnyH_take (i := 10) (v := ?_) (by simp only [List.getElem?_toArray, List.getElem?_cons_succ, List.getElem?_cons_zero] <;> rfl) (by kernel_rfl) (by kernel_rfl) (by kernel_rfl) (by intro _ _ _ h; exact h) (Or.inl ⟨by rfl, ?_⟩) (by assumption) ?_
              rotate_left
              · intro W9 hSw
                have s1 := hSw
                go_simp
                try with_reducible rfl
              try simp only [Act.put, List.setIfInBounds_toArray, List.set_cons_zero, List.set_cons_succ]
              refine wpAnyH_ready (rs := [12]) (by kernel_rfl) (by simp) ?_
              refine AllReadyH.cons (by simp only [List.getElem?_toArray, List.getElem?_cons_succ, List.getElem?_cons_zero] <;> rfl) (fun K hK => ?_) AllReadyH.nil
              refine step_store_row rfl 41 (.tmp 20) (.tmp 129) rfl u3w.heap.size (rpV a A16 c16) rfl rfl 41 zero41 HX7e.out size41 rfl (by simp [Value.oneCell']) ?_
              have hxs := HX7es.out
              have so : ∀ b, b ≠ u3w.heap.size → (World.setRow u7w u3w.heap.size (rpV a A16 c16)).heap[b]? = (u7w : World).heap[b]? := fun b hb => setRow_other _ _ _ _ hb
              have HBf : Hid (Below y2.heap.size y2 (World.setRow u7w u3w.heap.size (rpV a A16 c16))) := Lib.hid (HB7e.out.trans ⟨rfl, rfl, rfl, by simp, fun k hk => so k (by omega)⟩)
              have HXf : Hid ((World.setRow u7w u3w.heap.size (rpV a A16 c16)).heap[u3w.heap.size]? = some (.cells (rpV a A16 c16) 41 (0, 0))) := Lib.hid (setRow_heap _ _ _ _ _ _ HX7e.out)
              have HKf : Hid (RpK (fun _ => True) (World.setRow u7w u3w.heap.size (rpV a A16 c16)) a A16 c16) := Lib.hid (HK7e.out.imp (by simp) (fun b hb hl => ⟨so b hb, trivial⟩))
              refine hK.out _ _ (HZ5.out.next HBf.out).b2.rows.1 (fun hHeld => ?_)
              clear hK K so hxs
              try simp only [Act.put, List.setIfInBounds_toArray, List.set_cons_zero, List.set_cons_succ]
              refine wpAnyH_ready (rs := [13]) (by kernel_rfl) (by simp) ?_
              refine AllReadyH.cons (by simp only [List.getElem?_toArray, List.getElem?_cons_succ, List.getElem?_cons_zero] <;> rfl) (fun K hK => ?_) AllReadyH.nil
              go_simp
              refine hK.out _ _ hHeld (fun hHeld => ?_)
              clear hK K
              try simp only [Act.put, List.setIfInBounds_toArray, List.set_cons_zero, List.set_cons_succ]
              refine wpAnyH_ready (rs := [14]) (by kernel_rfl) (by simp) ?_
              refine AllReadyH.cons (by simp only [List.getElem?_toArray, List.getElem?_cons_succ, List.getElem?_cons_zero] <;> rfl) (fun K hK => ?_) AllReadyH.nil
              go_simp
              refine hK.out _ _ hHeld (fun hHeld => ?_)
              clear hK K hHeld
              try simp only [Act.put, List.setIfInBounds_toArray, List.set_cons_zero, List.set_cons_succ]
              refine wpAnyH_done (by kernel_rfl) ?_ _
              go_wp2_with fail
              go_meet
              exact ⟨_, A16, c16, rfl, rfl, rfl, Lib.hid (HZ5.out.next HBf.out), HXf, HKf, HBf⟩
          · go_simp
            have HB3b : Hid (Below y2.heap.size y2 (u2w.alloc (.cells zero41 41))) := Lib.hid (HB2e.out.trans ((below_new u2w _).mono HB2e.out.size))
            have HX3b : Hid ((u2w.alloc (.cells zero41 41)).heap[u2w.heap.size]? = some (.cells zero41 41 (0, 0))) := Lib.hid (heap_alloc_new u2w (.cells zero41 41))
            have HX3bs : Hid (y2.heap.size ≤ u2w.heap.size) := Lib.hid (HB2e.out.size)
            have HO3b := Lib.hid (HO2e.out.below (below_new u2w (.cells zero41 41)))
            refine hK.out _ _ (HZ5.out.next HB3b.out).b2.rows.1 (fun hHeld => ?_)
            clear hK K
            try simp only [Act.put, List.setIfInBounds_toArray, List.set_cons_zero, List.set_cons_succ]
            refine wpAnyH_ready (rs := [5]) (by kernel_rfl) (by simp) ?_
            refine AllReadyH.cons (by simp only [List.getElem?_toArray, List.getElem?_cons_succ, List.getElem?_cons_zero] <;> rfl) (fun K hK => ?_) AllReadyH.nil
            refine step_bytesO (by rfl) (.tmp 124) (.tmp 126) (by rfl) y2.heap.size _ _ (by rfl) HO3b.out B m d lb HM.out (by rfl) ((HRB.out.below HZ5.out.bel).below HB3b.out) HOB.out hmd (by rw [HLY.out]; omega) HB3b.out.size ?_
            intro v9v u9w ho9 hg9
            have HB9e : Hid (Below y2.heap.size y2 u9w) := Lib.hid (HB3b.out.trans ((Below.refl y2.heap.size _).grown hg9 HB3b.out.size (fun k hk => (HO3b.out.lt k hk).1)))
            have HX9e : Hid (u9w.heap[u2w.heap.size]? = some (.cells zero41 41 (0, 0))) := Lib.hid (OwnB.frg HO3b.out hg9 _ _ HX3b.out (fun cs h => by injection h with _ h2 _; exact absurd h2 (by decide)))
            have HX9es := HX3bs
            obtain ⟨A5, c5, rfl, hc5, hn5, hr5, hA5⟩ := OwnB.form ho9 HLEN.out
            have HC5 := Lib.hid hc5
            have HN5 := Lib.hid hn5
            have HR9 := Lib.hid hr5
            have HA9 : Hid (∀ ad, A5 = some ad → ad.block < u9w.heap.size) := Lib.hid (fun ad e => (hA5 ad e).2)
            have HO9e := Lib.hid ho9
            clear hg9 ho9 hc5 hn5 hr5 hA5
            refine hK.out _ _ (HZ5.out.next HB9e.out).b2.rows.1 (fun hHeld => ?_)
            clear hK K
            try simp only [Act.put, List.setIfInBounds_toArray, List.set_cons_zero, List.set_cons_succ]
            refine wpAnyH_ready (rs := [6]) (by kernel_rfl) (by simp) ?_
            refine AllReadyH.cons (by simp only [List.getElem?_toArray, List.getElem?_cons_succ, List.getElem?_cons_zero] <;> rfl) (fun K hK => ?_) AllReadyH.nil
            go_simp
            refine (decode_any A5 (LY + m) c5 (Y ++ lb) u9w HLEN.out HC5.out HN5.out HR9.out HA9.out (by omega)).mono ?_
            rintro e u10w ⟨A16, c16, rfl, hk10, hb10⟩
            rw [HD1.out, HD2.out, HD3.out]
            rw [HD2.out] at hk10
            have HB10e : Hid (Below y2.heap.size y2 u10w) := Lib.hid (HB9e.out.trans (hb10.mono HB9e.out.size))
            have hl10 := lt_of_block HX9e.out
            have HX10e : Hid (u10w.heap[u2w.heap.size]? = some (.cells zero41 41 (0, 0))) := Lib.hid ((hb10.block _ hl10).trans HX9e.out)
            have HX10es := HX9es
            have HK10e : Hid (RpK (fun b => b ≠ u2w.heap.size) u10w a A16 c16) := Lib.hid (hk10.imp (Nat.le_refl _) (fun b hb _ => ⟨rfl, by omega⟩))
            clear hl10
            clear hk10 hb10 HR9 HA9 HC5 HN5
            refine hK.out _ _ (HZ5.out.next HB10e.out).b2.rows.1 (fun hHeld => ?_)
            clear hK K
            try simp only [Act.put, List.setIfInBounds_toArray, List.set_cons_zero, List.set_cons_succ]
            refine wpAnyH_take (i := 7) (v := ?_) (by simp only [List.getElem?_toArray, List.getElem?_cons_succ, List.getElem?_cons_zero] <;> rfl) (by kernel_rfl) (by kernel_rfl) (by kernel_rfl) (by intro _ _ _ h; exact h) (Or.inl ⟨by rfl, ?_⟩) (by assumption) ?_
            rotate_left
            · intro W9 hSw
              have s1 := hSw
              go_simp
              try with_reducible rfl
            try simp only [Act.put, List.setIfInBounds_toArray, List.set_cons_zero, List.set_cons_succ]
            refine wpAnyH_take (i := 8) (v := ?_) (by simp only [List.getElem?_toArray, List.getElem?_cons_succ, List.getElem?_cons_zero] <;> rfl) (by kernel_rfl) (by kernel_rfl) (by kernel_rfl) (by intro _ _ _ h; exact h) (Or.inl ⟨by rfl, ?_⟩) (by assumption) ?_
            rotate_left
            · intro W9 hSw
              have s1 := hSw
              go_simp
              try with_reducible rfl
            try simp only [Act.put, List.setIfInBounds_toArray, List.set_cons_zero, List.set_cons_succ]
            refine wpAnyH_take (i := 9) (v := ?_) (by simp only [List.getElem?_toArray, List.getElem?_cons_succ, List.getElem?_cons_zero] <;> rfl) (by kernel_rfl) (by kernel_rfl) (by kernel_rfl) (by intro _ _ _ h; exact h) (Or.inl ⟨by rfl, ?_⟩) (by assumption) ?_
            rotate_left
            · intro W9 hSw
              have s1 := hSw
              go_simp
              try with_reducible rfl
            try simp only [Act.put, List.setIfInBounds_toArray, List.set_cons_zero, List.set_cons_succ]
            refine wpAnyH_take (i := 10) (v := ?_) (by simp only [List.getElem?_toArray, List.getElem?_cons_succ, List.getElem?_cons_zero] <;> rfl) (by kernel_rfl) (by kernel_rfl) (by kernel_rfl) (by intro _ _ _ h; exact h) (Or.inl ⟨by rfl, ?_⟩) (by assumption) ?_
            rotate_left
            · intro W9 hSw
              have s1 := hSw
              go_simp
              try with_reducible rfl
            try simp only [Act.put, List.setIfInBounds_toArray, List.set_cons_zero, List.set_cons_succ]
            refine wpAnyH_ready (rs := [12]) (by kernel_rfl) (by simp) ?_
            refine AllReadyH.cons (by simp only [List.getElem?_toArray, List.getElem?_cons_succ, List.getElem?_cons_zero] <;> rfl) (fun K hK => ?_) AllReadyH.nil
            refine step_store_row rfl 41 (.tmp 20) (.tmp 129) rfl u2w.heap.size (rpV a A16 c16) rfl rfl 41 zero41 HX10e.out size41 rfl (by simp [Value.oneCell']) ?_
            have hxs := HX10es.out
            have so : ∀ b, b ≠ u2w.heap.size → (World.setRow u10w u2w.heap.size (rpV a A16 c16)).heap[b]? = (u10w : World).heap[b]? := fun b hb => setRow_other _ _ _ _ hb
            have HBf : Hid (Below y2.heap.size y2 (World.setRow u10w u2w.heap.size (rpV a A16 c16))) := Lib.hid (HB10e.out.trans ⟨rfl, rfl, rfl, by simp, fun k hk => so k (by omega)⟩)
            have HXf : Hid ((World.setRow u10w u2w.heap.size (rpV a A16 c16)).heap[u2w.heap.size]? = some (.cells (rpV a A16 c16) 41 (0, 0))) := Lib.hid (setRow_heap _ _ _ _ _ _ HX10e.out)
            have HKf : Hid (RpK (fun _ => True) (World.setRow u10w u2w.heap.size (rpV a A16 c16)) a A16 c16) := Lib.hid (HK10e.out.imp (by simp) (fun b hb hl => ⟨so b hb, trivial⟩))
            refine hK.out _ _ (HZ5.out.next HBf.out).b2.rows.1 (fun hHeld => ?_)
            clear hK K so hxs
            try simp only [Act.put, List.setIfInBounds_toArray, List.set_cons_zero, List.set_cons_succ]
            refine wpAnyH_ready (rs := [13]) (by kernel_rfl) (by simp) ?_
            refine AllReadyH.cons (by simp only [List.getElem?_toArray, List.getElem?_cons_succ, List.getElem?_cons_zero] <;> rfl) (fun K hK => ?_) AllReadyH.nil
            go_simp
            refine hK.out _ _ hHeld (fun hHeld => ?_)
            clear hK K
            try simp only [Act.put, List.setIfInBounds_toArray, List.set_cons_zero, List.set_cons_succ]
            refine wpAnyH_ready (rs := [14]) (by kernel_rfl) (by simp) ?_
            refine AllReadyH.cons (by simp only [List.getElem?_toArray, List.getElem?_cons_succ, List.getElem?_cons_zero] <;> rfl) (fun K hK => ?_) AllReadyH.nil
            go_simp
            refine hK.out _ _ hHeld (fun hHeld => ?_)
            clear hK K hHeld
            try simp only [Act.put, List.setIfInBounds_toArray, List.set_cons_zero, List.set_cons_succ]
            refine wpAnyH_done (by kernel_rfl) ?_ _
            go_wp2_with fail
            go_meet
            exact ⟨_, A16, c16, rfl, rfl, rfl, Lib.hid (HZ5.out.next HBf.out), HXf, HKf, HBf⟩
        · go_simp
          have HB2b : Hid (Below y2.heap.size y2 ((y2.drew.alloc (.cells #[] 5)).alloc (.cells zero41 41))) := Lib.hid (HB1e.out.trans ((below_new (y2.drew.alloc (.cells #[] 5)) _).mono HB1e.out.size))
          have HX2b : Hid (((y2.drew.alloc (.cells #[] 5)).alloc (.cells zero41 41)).heap[(y2.heap.size + 1)]? = some (.cells zero41 41 (0, 0))) := Lib.hid (by have h := heap_alloc_new (y2.drew.alloc (.cells #[] 5)) (.cells zero41 41); have e : ((y2.drew.alloc (.cells #[] 5)) : World).heap.size = y2.heap.size + 1 := (by first | rfl | simp); rw [e] at h; exact h)
          have HX2bs : Hid (y2.heap.size ≤ (y2.heap.size + 1)) := Lib.hid (by have h := HB1e.out.size; have e : ((y2.drew.alloc (.cells #[] 5)) : World).heap.size = y2.heap.size + 1 := (by first | rfl | simp); rw [e] at h; exact h)
          have HO2b := Lib.hid (HO1e.out.below (below_new (y2.drew.alloc (.cells #[] 5)) (.cells zero41 41)))
          refine hK.out _ _ (HZ5.out.next HB2b.out).b2.rows.1 (fun hHeld => ?_)
          clear hK K
          try simp only [Act.put, List.setIfInBounds_toArray, List.set_cons_zero, List.set_cons_succ]
          refine wpAnyH_ready (rs := [2]) (by kernel_rfl) (by simp) ?_
          refine AllReadyH.cons (by simp only [List.getElem?_toArray, List.getElem?_cons_succ, List.getElem?_cons_zero] <;> rfl) (fun K hK => ?_) AllReadyH.nil
          refine step_bytesO (by rfl) (.tmp 122) (.tmp 123) (by rfl) y2.heap.size _ [] (by rfl) HO2b.out A17 LY c17 Y HLY.out (by rfl) (HR17.out.below HB2b.out) HN17.out HC17.out (by simp; omega) HB2b.out.size ?_
          intro v12v u12w ho12 hg12
          have HB12e : Hid (Below y2.heap.size y2 u12w) := Lib.hid (HB2b.out.trans ((Below.refl y2.heap.size _).grown hg12 HB2b.out.size (fun k hk => (HO2b.out.lt k hk).1)))
          have HX12e : Hid (u12w.heap[(y2.heap.size + 1)]? = some (.cells zero41 41 (0, 0))) := Lib.hid (OwnB.frg HO2b.out hg12 _ _ HX2b.out (fun cs h => by injection h with _ h2 _; exact absurd h2 (by decide)))
          have HX12es := HX2bs
          rw [List.nil_append] at ho12
          have HO12e := Lib.hid ho12
          clear hg12 ho12
          refine hK.out _ _ (HZ5.out.next HB12e.out).b2.rows.1 (fun hHeld => ?_)
          clear hK K
          try simp only [Act.put, List.setIfInBounds_toArray, List.set_cons_zero, List.set_cons_succ]
          refine wpAnyH_ready (rs := [5]) (by kernel_rfl) (by simp) ?_
          refine AllReadyH.cons (by simp only [List.getElem?_toArray, List.getElem?_cons_succ, List.getElem?_cons_zero] <;> rfl) (fun K hK => ?_) AllReadyH.nil
          refine step_bytesO (by rfl) (.tmp 124) (.tmp 126) (by rfl) y2.heap.size _ _ (by rfl) HO12e.out B m d lb HM.out (by rfl) ((HRB.out.below HZ5.out.bel).below HB12e.out) HOB.out hmd (by rw [HLY.out]; omega) HB12e.out.size ?_
          intro v13v u13w ho13 hg13
          have HB13e : Hid (Below y2.heap.size y2 u13w) := Lib.hid (HB12e.out.trans ((Below.refl y2.heap.size _).grown hg13 HB12e.out.size (fun k hk => (HO12e.out.lt k hk).1)))
          have HX13e : Hid (u13w.heap[(y2.heap.size + 1)]? = some (.cells zero41 41 (0, 0))) := Lib.hid (OwnB.frg HO12e.out hg13 _ _ HX12e.out (fun cs h => by injection h with _ h2 _; exact absurd h2 (by decide)))
          have HX13es := HX12es
          obtain ⟨A5, c5, rfl, hc5, hn5, hr5, hA5⟩ := OwnB.form ho13 HLEN.out
          have HC5 := Lib.hid hc5
          have HN5 := Lib.hid hn5
          have HR13 := Lib.hid hr5
          have HA13 : Hid (∀ ad, A5 = some ad → ad.block < u13w.heap.size) := Lib.hid (fun ad e => (hA5 ad e).2)
          have HO13e := Lib.hid ho13
          clear hg13 ho13 hc5 hn5 hr5 hA5
          refine hK.out _ _ (HZ5.out.next HB13e.out).b2.rows.1 (fun hHeld => ?_)
          clear hK K
          try simp only [Act.put, List.setIfInBounds_toArray, List.set_cons_zero, List.set_cons_succ]
          refine wpAnyH_ready (rs := [6]) (by kernel_rfl) (by simp) ?_
          refine AllReadyH.cons (by simp only [List.getElem?_toArray, List.getElem?_cons_succ, List.getElem?_cons_zero] <;> rfl) (fun K hK => ?_) AllReadyH.nil
          go_simp
          refine (decode_any A5 (LY + m) c5 (Y ++ lb) u13w HLEN.out HC5.out HN5.out HR13.out HA13.out (by omega)).mono ?_
          rintro e u14w ⟨A16, c16, rfl, hk14, hb14⟩
          rw [HD1.out, HD2.out, HD3.out]
          rw [HD2.out] at hk14
          have HB14e : Hid (Below y2.heap.size y2 u14w) := Lib.hid (HB13e.out.trans (hb14.mono HB13e.out.size))
          have hl14 := lt_of_block HX13e.out
          have HX14e : Hid (u14w.heap[(y2.heap.size + 1)]? = some (.cells zero41 41 (0, 0))) := Lib.hid ((hb14.block _ hl14).trans HX13e.out)
          have HX14es := HX13es
          have HK14e : Hid (RpK (fun b => b ≠ (y2.heap.size + 1)) u14w a A16 c16) := Lib.hid (hk14.imp (Nat.le_refl _) (fun b hb _ => ⟨rfl, by omega⟩))
          clear hl14
          clear hk14 hb14 HR13 HA13 HC5 HN5
          refine hK.out _ _ (HZ5.out.next HB14e.out).b2.rows.1 (fun hHeld => ?_)
          clear hK K
          try simp only [Act.put, List.setIfInBounds_toArray, List.set_cons_zero, List.set_cons_succ]
          refine wpAnyH_take (i := 7) (v := ?_) (by simp only [List.getElem?_toArray, List.getElem?_cons_succ, List.getElem?_cons_zero] <;> rfl) (by kernel_rfl) (by kernel_rfl) (by kernel_rfl) (by intro _ _ _ h; exact h) (Or.inl ⟨by rfl, ?_⟩) (by assumption) ?_
          rotate_left
          · intro W9 hSw
            have s1 := hSw
            go_simp
            try with_reducible rfl
          try simp only [Act.put, List.setIfInBounds_toArray, List.set_cons_zero, List.set_cons_succ]
          refine wpAnyH_take (i := 8) (v := ?_) (by simp only [List.getElem?_toArray, List.getElem?_cons_succ, List.getElem?_cons_zero] <;> rfl) (by kernel_rfl) (by kernel_rfl) (by kernel_rfl) (by intro _ _ _ h; exact h) (Or.inl ⟨by rfl, ?_⟩) (by assumption) ?_
          rotate_left
          · intro W9 hSw
            have s1 := hSw
            go_simp
            try with_reducible rfl
          try simp only [Act.put, List.setIfInBounds_toArray, List.set_cons_zero, List.set_cons_succ]
          refine wpAnyH_take (i := 9) (v := ?_) (by simp only [List.getElem?_toArray, List.getElem?_cons_succ, List.getElem?_cons_zero] <;> rfl) (by kernel_rfl) (by kernel_rfl) (by kernel_rfl) (by intro _ _ _ h; exact h) (Or.inl ⟨by rfl, ?_⟩) (by assumption) ?_
          rotate_left
          · intro W9 hSw
            have s1 := hSw
            go_simp
            try with_reducible rfl
          try simp only [Act.put, List.setIfInBounds_toArray, List.set_cons_zero, List.set_cons_succ]
          refine wpAnyH_take (i := 10) (v := ?_) (by simp only [List.getElem?_toArray, List.getElem?_cons_succ, List.getElem?_cons_zero] <;> rfl) (by kernel_rfl) (by kernel_rfl) (by kernel_rfl) (by intro _ _ _ h; exact h) (Or.inl ⟨by rfl, ?_⟩) (by assumption) ?_
          rotate_left
          · intro W9 hSw
            have s1 := hSw
            go_simp
            try with_reducible rfl
          try simp only [Act.put, List.setIfInBounds_toArray, List.set_cons_zero, List.set_cons_succ]
          refine wpAnyH_ready (rs := [12]) (by kernel_rfl) (by simp) ?_
          refine AllReadyH.cons (by simp only [List.getElem?_toArray, List.getElem?_cons_succ, List.getElem?_cons_zero] <;> rfl) (fun K hK => ?_) AllReadyH.nil
          refine step_store_row rfl 41 (.tmp 20) (.tmp 129) rfl (y2.heap.size + 1) (rpV a A16 c16) rfl rfl 41 zero41 HX14e.out size41 rfl (by simp [Value.oneCell']) ?_
          have hxs := HX14es.out
          have so : ∀ b, b ≠ (y2.heap.size + 1) → (World.setRow u14w (y2.heap.size + 1) (rpV a A16 c16)).heap[b]? = (u14w : World).heap[b]? := fun b hb => setRow_other _ _ _ _ hb
          have HBf : Hid (Below y2.heap.size y2 (World.setRow u14w (y2.heap.size + 1) (rpV a A16 c16))) := Lib.hid (HB14e.out.trans ⟨rfl, rfl, rfl, by simp, fun k hk => so k (by omega)⟩)
          have HXf : Hid ((World.setRow u14w (y2.heap.size + 1) (rpV a A16 c16)).heap[(y2.heap.size + 1)]? = some (.cells (rpV a A16 c16) 41 (0, 0))) := Lib.hid (setRow_heap _ _ _ _ _ _ HX14e.out)
          have HKf : Hid (RpK (fun _ => True) (World.setRow u14w (y2.heap.size + 1) (rpV a A16 c16)) a A16 c16) := Lib.hid (HK14e.out.imp (by simp) (fun b hb hl => ⟨so b hb, trivial⟩))
          refine hK.out _ _ (HZ5.out.next HBf.out).b2.rows.1 (fun hHeld => ?_)
          clear hK K so hxs
          try simp only [Act.put, List.setIfInBounds_toArray, List.set_cons_zero, List.set_cons_succ]
          refine wpAnyH_ready (rs := [13]) (by kernel_rfl) (by simp) ?_
          refine AllReadyH.cons (by simp only [List.getElem?_toArray, List.getElem?_cons_succ, List.getElem?_cons_zero] <;> rfl) (fun K hK => ?_) AllReadyH.nil
          go_simp
          refine hK.out _ _ hHeld (fun hHeld => ?_)
          clear hK K
          try simp only [Act.put, List.setIfInBounds_toArray, List.set_cons_zero, List.set_cons_succ]
          refine wpAnyH_ready (rs := [14]) (by kernel_rfl) (by simp) ?_
          refine AllReadyH.cons (by simp only [List.getElem?_toArray, List.getElem?_cons_succ, List.getElem?_cons_zero] <;> rfl) (fun K hK => ?_) AllReadyH.nil
          go_simp
          refine hK.out _ _ hHeld (fun hHeld => ?_)
          clear hK K hHeld
          try simp only [Act.put, List.setIfInBounds_toArray, List.set_cons_zero, List.set_cons_succ]
          refine wpAnyH_done (by kernel_rfl) ?_ _
          go_wp2_with fail
          go_meet
          exact ⟨_, A16, c16, rfl, rfl, rfl, Lib.hid (HZ5.out.next HBf.out), HXf, HKf, HBf⟩
      · go_simp
        have HB1b : Hid (Below y2.heap.size y2 (y2.drew.alloc (.cells zero41 41))) := Lib.hid (HBd.out.trans ((below_new y2.drew _).mono HBd.out.size))
        have HX1b : Hid ((y2.drew.alloc (.cells zero41 41)).heap[(y2.heap.size)]? = some (.cells zero41 41 (0, 0))) := Lib.hid (by have h := heap_alloc_new y2.drew (.cells zero41 41); have e : (y2.drew : World).heap.size = y2.heap.size := (by first | rfl | simp); rw [e] at h; exact h)
        have HX1bs : Hid (y2.heap.size ≤ (y2.heap.size)) := Lib.hid (Nat.le_refl _)
        refine hK.out _ _ (HZ5.out.next HB1b.out).b2.rows.1 (fun hHeld => ?_)
        clear hK K
        try simp only [Act.put, List.setIfInBounds_toArray, List.set_cons_zero, List.set_cons_succ]
        refine wpAnyH_ready (rs := [0]) (by kernel_rfl) (by simp) ?_
        refine AllReadyH.cons (by simp only [List.getElem?_toArray, List.getElem?_cons_succ, List.getElem?_cons_zero] <;> rfl) (fun K hK => ?_) AllReadyH.nil
        go_simp
        have HB16e : Hid (Below y2.heap.size y2 ((y2.drew.alloc (.cells zero41 41)).alloc (.cells #[] 5))) := Lib.hid (HB1b.out.trans ((below_new (y2.drew.alloc (.cells zero41 41)) _).mono HB1b.out.size))
        have HO16e : Hid (OwnB ((y2.drew.alloc (.cells zero41 41)).alloc (.cells #[] 5)) y2.heap.size (.slice (some ⟨y2.heap.size + 1, 0, none⟩) 0 0) []) := Lib.hid (by have h := own_empty (y2.drew.alloc (.cells zero41 41)) 5 y2.heap.size HB1b.out.size; have e : ((y2.drew.alloc (.cells zero41 41)) : World).heap.size = y2.heap.size + 1 := (by first | rfl | simp); rw [e] at h; exact h)
        have HX16e : Hid (((y2.drew.alloc (.cells zero41 41)).alloc (.cells #[] 5)).heap[(y2.heap.size)]? = some (.cells zero41 41 (0, 0))) := Lib.hid (((below_new (y2.drew.alloc (.cells zero41 41)) _).block _ (lt_of_block HX1b.out)).trans HX1b.out)
        have HX16es := HX1bs
        refine hK.out _ _ (HZ5.out.next HB16e.out).b2.rows.1 (fun hHeld => ?_)
        clear hK K
        try simp only [Act.put, List.setIfInBounds_toArray, List.set_cons_zero, List.set_cons_succ]
        refine wpAnyH_ready (rs := [2]) (by kernel_rfl) (by simp) ?_
        refine AllReadyH.cons (by simp only [List.getElem?_toArray, List.getElem?_cons_succ, List.getElem?_cons_zero] <;> rfl) (fun K hK => ?_) AllReadyH.nil
        refine step_bytesO (by rfl) (.tmp 122) (.tmp 123) (by rfl) y2.heap.size _ [] (by rfl) HO16e.out A17 LY c17 Y HLY.out (by rfl) (HR17.out.below HB16e.out) HN17.out HC17.out (by simp; omega) HB16e.out.size ?_
        intro v17v u17w ho17 hg17
        have HB17e : Hid (Below y2.heap.size y2 u17w) := Lib.hid (HB16e.out.trans ((Below.refl y2.heap.size _).grown hg17 HB16e.out.size (fun k hk => (HO16e.out.lt k hk).1)))
        have HX17e : Hid (u17w.heap[(y2.heap.size)]? = some (.cells zero41 41 (0, 0))) := Lib.hid (OwnB.frg HO16e.out hg17 _ _ HX16e.out (fun cs h => by injection h with _ h2 _; exact absurd h2 (by decide)))
        have HX17es := HX16es
        rw [List.nil_append] at ho17
        have HO17e := Lib.hid ho17
        clear hg17 ho17
        refine hK.out _ _ (HZ5.out.next HB17e.out).b2.rows.1 (fun hHeld => ?_)
        clear hK K
        try simp only [Act.put, List.setIfInBounds_toArray, List.set_cons_zero, List.set_cons_succ]
        refine wpAnyH_ready (rs := [5]) (by kernel_rfl) (by simp) ?_
        refine AllReadyH.cons (by simp only [List.getElem?_toArray, List.getElem?_cons_succ, List.getElem?_cons_zero] <;> rfl) (fun K hK => ?_) AllReadyH.nil
        refine step_bytesO (by rfl) (.tmp 124) (.tmp 126) (by rfl) y2.heap.size _ _ (by rfl) HO17e.out B m d lb HM.out (by rfl) ((HRB.out.below HZ5.out.bel).below HB17e.out) HOB.out hmd (by rw [HLY.out]; omega) HB17e.out.size ?_
        intro v18v u18w ho18 hg18
        have HB18e : Hid (Below y2.heap.size y2 u18w) := Lib.hid (HB17e.out.trans ((Below.refl y2.heap.size _).grown hg18 HB17e.out.size (fun k hk => (HO17e.out.lt k hk).1)))
        have HX18e : Hid (u18w.heap[(y2.heap.size)]? = some (.cells zero41 41 (0, 0))) := Lib.hid (OwnB.frg HO17e.out hg18 _ _ HX17e.out (fun cs h => by injection h with _ h2 _; exact absurd h2 (by decide)))
        have HX18es := HX17es
        obtain ⟨A5, c5, rfl, hc5, hn5, hr5, hA5⟩ := OwnB.form ho18 HLEN.out
        have HC5 := Lib.hid hc5
        have HN5 := Lib.hid hn5
        have HR18 := Lib.hid hr5
        have HA18 : Hid (∀ ad, A5 = some ad → ad.block < u18w.heap.size) := Lib.hid (fun ad e => (hA5 ad e).2)
        have HO18e := Lib.hid ho18
        clear hg18 ho18 hc5 hn5 hr5 hA5
        refine hK.out _ _ (HZ5.out.next HB18e.out).b2.rows.1 (fun hHeld => ?_)
        clear hK K
        try simp only [Act.put, List.setIfInBounds_toArray, List.set_cons_zero, List.set_cons_succ]
        refine wpAnyH_ready (rs := [6]) (by kernel_rfl) (by simp) ?_
        refine AllReadyH.cons (by simp only [List.getElem?_toArray, List.getElem?_cons_succ, List.getElem?_cons_zero] <;> rfl) (fun K hK => ?_) AllReadyH.nil
        go_simp
        refine (decode_any A5 (LY + m) c5 (Y ++ lb) u18w HLEN.out HC5.out HN5.out HR18.out HA18.out (by omega)).mono ?_
        rintro e u19w ⟨A16, c16, rfl, hk19, hb19⟩
        rw [HD1.out, HD2.out, HD3.out]
        rw [HD2.out] at hk19
        have HB19e : Hid (Below y2.heap.size y2 u19w) := Lib.hid (HB18e.out.trans (hb19.mono HB18e.out.size))
        have hl19 := lt_of_block HX18e.out
        have HX19e : Hid (u19w.heap[(y2.heap.size)]? = some (.cells zero41 41 (0, 0))) := Lib.hid ((hb19.block _ hl19).trans HX18e.out)
        have HX19es := HX18es
        have HK19e : Hid (RpK (fun b => b ≠ (y2.heap.size)) u19w a A16 c16) := Lib.hid (hk19.imp (Nat.le_refl _) (fun b hb _ => ⟨rfl, by omega⟩))
        clear hl19
        clear hk19 hb19 HR18 HA18 HC5 HN5
        refine hK.out _ _ (HZ5.out.next HB19e.out).b2.rows.1 (fun hHeld => ?_)
        clear hK K
        try simp only [Act.put, List.setIfInBounds_toArray, List.set_cons_zero, List.set_cons_succ]
        refine wpAnyH_take (i := 7) (v := ?_) (by simp only [List.getElem?_toArray, List.getElem?_cons_succ, List.getElem?_cons_zero] <;> rfl) (by kernel_rfl) (by kernel_rfl) (by kernel_rfl) (by intro _ _ _ h; exact h) (Or.inl ⟨by rfl, ?_⟩) (by assumption) ?_
        rotate_left
        · intro W9 hSw
          have s1 := hSw
          go_simp
          try with_reducible rfl
        try simp only [Act.put, List.setIfInBounds_toArray, List.set_cons_zero, List.set_cons_succ]
        refine wpAnyH_take (i := 8) (v := ?_) (by simp only [List.getElem?_toArray, List.getElem?_cons_succ, List.getElem?_cons_zero] <;> rfl) (by kernel_rfl) (by kernel_rfl) (by kernel_rfl) (by intro _ _ _ h; exact h) (Or.inl ⟨by rfl, ?_⟩) (by assumption) ?_
        rotate_left
        · intro W9 hSw
          have s1 := hSw
          go_simp
          try with_reducible rfl
        try simp only [Act.put, List.setIfInBounds_toArray, List.set_cons_zero, List.set_cons_succ]
        refine wpAnyH_take (i := 9) (v := ?_) (by simp only [List.getElem?_toArray, List.getElem?_cons_succ, List.getElem?_cons_zero] <;> rfl) (by kernel_rfl) (by kernel_rfl) (by kernel_rfl) (by intro _ _ _ h; exact h) (Or.inl ⟨by rfl, ?_⟩) (by assumption) ?_
        rotate_left
        · intro W9 hSw
          have s1 := hSw
          go_simp
          try with_reducible rfl
        try simp only [Act.put, List.setIfInBounds_toArray, List.set_cons_zero, List.set_cons_succ]
        refine wpAnyH_take (i := 10) (v := ?_) (by simp only [List.getElem?_toArray, List.getElem?_cons_succ, List.getElem?_cons_zero] <;> rfl) (by kernel_rfl) (by kernel_rfl) (by kernel_rfl) (by intro _ _ _ h; exact h) (Or.inl ⟨by rfl, ?_⟩) (by assumption) ?_
        rotate_left
        · intro W9 hSw
          have s1 := hSw
          go_simp
          try with_reducible rfl
        try simp only [Act.put, List.setIfInBounds_toArray, List.set_cons_zero, List.set_cons_succ]
        refine wpAnyH_ready (rs := [12]) (by kernel_rfl) (by simp) ?_
        refine AllReadyH.cons (by simp only [List.getElem?_toArray, List.getElem?_cons_succ, List.getElem?_cons_zero] <;> rfl) (fun K hK => ?_) AllReadyH.nil
        refine step_store_row rfl 41 (.tmp 20) (.tmp 129) rfl (y2.heap.size) (rpV a A16 c16) rfl rfl 41 zero41 HX19e.out size41 rfl (by simp [Value.oneCell']) ?_
        have hxs := HX19es.out
        have so : ∀ b, b ≠ (y2.heap.size) → (World.setRow u19w (y2.heap.size) (rpV a A16 c16)).heap[b]? = (u19w : World).heap[b]? := fun b hb => setRow_other _ _ _ _ hb
        have HBf : Hid (Below y2.heap.size y2 (World.setRow u19w (y2.heap.size) (rpV a A16 c16))) := Lib.hid (HB19e.out.trans ⟨rfl, rfl, rfl, by simp, fun k hk => so k (by omega)⟩)
        have HXf : Hid ((World.setRow u19w (y2.heap.size) (rpV a A16 c16)).heap[(y2.heap.size)]? = some (.cells (rpV a A16 c16) 41 (0, 0))) := Lib.hid (setRow_heap _ _ _ _ _ _ HX19e.out)
        have HKf : Hid (RpK (fun _ => True) (World.setRow u19w (y2.heap.size) (rpV a A16 c16)) a A16 c16) := Lib.hid (HK19e.out.imp (by simp) (fun b hb hl => ⟨so b hb, trivial⟩))
        refine hK.out _ _ (HZ5.out.next HBf.out).b2.rows.1 (fun hHeld => ?_)
        clear hK K so hxs
        try simp only [Act.put, List.setIfInBounds_toArray, List.set_cons_zero, List.set_cons_succ]
        refine wpAnyH_ready (rs := [13]) (by kernel_rfl) (by simp) ?_
        refine AllReadyH.cons (by simp only [List.getElem?_toArray, List.getElem?_cons_succ, List.getElem?_cons_zero] <;> rfl) (fun K hK => ?_) AllReadyH.nil
        go_simp
        refine hK.out _ _ hHeld (fun hHeld => ?_)
        clear hK K
        try simp only [Act.put, List.setIfInBounds_toArray, List.set_cons_zero, List.set_cons_succ]
        refine wpAnyH_ready (rs := [14]) (by kernel_rfl) (by simp) ?_
        refine AllReadyH.cons (by simp only [List.getElem?_toArray, List.getElem?_cons_succ, List.getElem?_cons_zero] <;> rfl) (fun K hK => ?_) AllReadyH.nil
        go_simp
        refine hK.out _ _ hHeld (fun hHeld => ?_)
        clear hK K hHeld
        try simp only [Act.put, List.setIfInBounds_toArray, List.set_cons_zero, List.set_cons_succ]
        refine wpAnyH_done (by kernel_rfl) ?_ _
        go_wp2_with fail
        go_meet
        exact ⟨_, A16, c16, rfl, rfl, rfl, Lib.hid (HZ5.out.next HBf.out), HXf, HKf, HBf⟩
    case rest =>
      obtain ⟨X, A20, c20, rfl, rfl, rfl, HZ6, HX6, HK6, HB6⟩ := hcut
      have HN0 := Lib.hid (num_any2 0 wc)
      go_wp2_with fail
      refine HN0.out.mono ?_
      rintro e w' ⟨rfl, rfl⟩
      clear HN0
      have HSM := Lib.hid (same_any a a A20 A1 c20 c1 _ _ wc HK6.out HZ6.out.ka)
      rw [sameR_refl] at HSM
      obtain ⟨v0, v1, v2, v3⟩ := HZ6.out.rowA
      obtain ⟨x0, x1, x2, x3⟩ := rows41 HX6.out
      go_wp2_with fail
      refine HSM.out.mono ?_
      rintro e w7 ⟨rfl, hb7⟩
      have HB7 := Lib.hid (HB6.out.trans (hb7.mono HB6.out.size))
      have HZ7 := Lib.hid (HZ6.out.next hb7)
      clear HSM v0 v1 v2 v3 x0 x1 x2 x3 hb7 HZ6 HB6 HX6 HK6
      obtain ⟨z0, z1⟩ := HZ7.out.b2.rows
      by_cases h0 : 0 ≤ cut
      rotate_left
      · have d1 : decide (0 ≤ cut) = false := decide_eq_false h0
        clear h0
        go_wp2_with fail
        have HZ8 := HZ7
        have HB8 := HB7
        clear HZ7 HB7
        generalize w7 = wk at *
        have HBB : Hid (∀ x : InW (Grown wk), BZ w x.w a b A1 A2 c1 c2 B m d cut) := Lib.hid fun x => HZ8.out.next x.h
        have H4 : Hid (∀ x : InW (Grown wk), Calls Tryd.prog 13 #[] x.w (RetIn (Grown wk) (.bool true))) := Lib.hid fun x => ret_below (works_any x.w (tab_below HG.out (HBB.out x).bel))
        have H16 : Hid (∀ x : InW (Grown wk), Calls Tryd.prog 16 #[.int .i64 (chkR b)] x.w (RetIn (Grown wk) (.int .i64 (chkR b)))) := Lib.hid fun x => ret_below ((num_any2 (chkR b) x.w).mono fun e w' h => ⟨h.1, by rw [← h.2]; exact Below.refl _ _⟩)
        have HIN : Nonempty (InW (Grown wk)) := ⟨⟨wk, Below.refl _ _⟩⟩
        by_cases hb0 : chkR b = 0
        rotate_left
        · have e1 : (chkR b != 0) = true := by simpa using hb0
          have e2 : decide (chkR b = 0) = false := decide_eq_false hb0
          clear hb0
          refine region_in (Grown wk) (by kernel_rfl) (by kernel_rfl) (Below.refl _ _).drew ?_
          repeat (go_big_quiet_step ((rename_i x; with_reducible (first | exact H16.out x | exact H4.out x))))
          refine wpQuiet_nil ?_
          rintro _ ⟨x, rfl⟩
          have HBX := Lib.hid (HBB.out x).bel
          clear HIN H16 H4 HBB
          go_wp2
          go_ret
          exact ⟨rfl, HBX.out⟩
        have e1 : (chkR b != 0) = false := by simpa using hb0
        have e2 : decide (chkR b = 0) = true := decide_eq_true hb0
        have ho := HO18.out
        obtain ⟨Z, hZ⟩ : ∃ Z, encR b = Z := ⟨_, rfl⟩
        rw [if_pos hb0, hZ] at ho
        obtain ⟨LZ, hLZ⟩ : ∃ LZ, Z.length = LZ := ⟨_, rfl⟩
        obtain ⟨A18, c18, rfl, hc18, hn18, hr18, _⟩ := ho.form hLZ
        have hcv : ∀ x : InW (Grown wk), (convert 25 9 (.slice A17 LY c17)).run Tryd.prog x.w = .ok (.string (ofL Y)) x.w := fun x => conv_n HLY.out HN17.out HC17.out ((HR17.out.below HB8.out).below x.h)
        have hcv2 : ∀ x : InW (Grown wk), (convert 25 9 (.slice A18 LZ c18)).run Tryd.prog x.w = .ok (.string (ofL Z)) x.w := fun x => conv_n hLZ hn18 hc18 ((hr18.below HB8.out).below x.h)
        have q1 := beg_enc HA0.out hb0 HFA.out HFB.out
        have q2 := beg_enc hb0 HA0.out HFB.out HFA.out
        have q3 := enc_same HA0.out hb0 HFA.out HFB.out
        have l1 : (ofL Y).size ≤ 1000000000 := by have h : (ofL Y).size = LY := HLY.out; omega
        have l2 : (ofL Z).size ≤ 1000000000 := by have h : (ofL Z).size = Z.length := rfl; have := enc_small hb0 HFB.out; rw [hZ] at this; omega
        rw [hZ, HYY.out] at q1 q2 q3
        have q4 : (Y == Z) = sameR a b := by simpa using q3
        have H34 : Hid (∀ x : InW (Grown wk), Calls Tryd.prog 34 #[.string (ofL Y), .string (ofL Z)] x.w (RetIn (Grown wk) (.bool false))) := Lib.hid fun x => ret_below ((begins_any (ofL Y) (ofL Z) x.w l1 l2).mono fun e w' h => ⟨by rw [h.1, q1], by rw [h.2]; exact Below.refl _ _⟩)
        have H34b : Hid (∀ x : InW (Grown wk), Calls Tryd.prog 34 #[.string (ofL Z), .string (ofL Y)] x.w (RetIn (Grown wk) (.bool false))) := Lib.hid fun x => ret_below ((begins_any (ofL Z) (ofL Y) x.w l2 l1).mono fun e w' h => ⟨by rw [h.1, q2], by rw [h.2]; exact Below.refl _ _⟩)
        have zA0 : ∀ x : InW (Grown wk), x.w.cell? ⟨w.heap.size, 0, none⟩ = some (.int .i64 a.kind) := fun x => (HBB.out x).rowA.1
        have zA1 : ∀ x : InW (Grown wk), x.w.cell? ⟨w.heap.size, 1, none⟩ = some (.int .i64 a.num) := fun x => (HBB.out x).rowA.2.1
        have zA2 : ∀ x : InW (Grown wk), x.w.cell? ⟨w.heap.size, 2, none⟩ = some (.string a.text) := fun x => (HBB.out x).rowA.2.2.1
        have zA3 : ∀ x : InW (Grown wk), x.w.cell? ⟨w.heap.size, 3, none⟩ = some (.slice A1 a.kids.length c1) := fun x => (HBB.out x).rowA.2.2.2
        have zB0 : ∀ x : InW (Grown wk), x.w.cell? ⟨w.heap.size + 1, 0, none⟩ = some (.int .i64 b.kind) := fun x => (HBB.out x).rowB.1
        have zB1 : ∀ x : InW (Grown wk), x.w.cell? ⟨w.heap.size + 1, 1, none⟩ = some (.int .i64 b.num) := fun x => (HBB.out x).rowB.2.1
        have zB2 : ∀ x : InW (Grown wk), x.w.cell? ⟨w.heap.size + 1, 2, none⟩ = some (.string b.text) := fun x => (HBB.out x).rowB.2.2.1
        have zB3 : ∀ x : InW (Grown wk), x.w.cell? ⟨w.heap.size + 1, 3, none⟩ = some (.slice A2 b.kids.length c2) := fun x => (HBB.out x).rowB.2.2.2
        have H28 : Hid (∀ x : InW (Grown wk), Calls Tryd.prog 28 #[.agg (rpV a A1 c1), .agg (rpV b A2 c2)] x.w (RetIn (Grown wk) (.bool (sameR a b)))) := Lib.hid fun x => ret_below (same_any a b A1 A2 c1 c2 _ _ x.w (HBB.out x).ka (HBB.out x).kb)
        clear q1 q2 l1 l2 hb0 ho hZ hLZ hc18 hn18 hr18
        clear q3
        generalize sameR a b = q at *
        cases q
        all_goals
          refine region_in (Grown wk) (by kernel_rfl) (by kernel_rfl) (Below.refl _ _).drew ?_
          repeat (go_big_quiet_step ((rename_i x; with_reducible (first | exact H16.out x | exact H4.out x | exact H28.out x | exact H34.out x | exact H34b.out x))))
          refine wpQuiet_nil ?_
          rintro _ ⟨x, rfl⟩
          have HBX := Lib.hid (HBB.out x).bel
          clear zA0 zA1 zA2 zA3 zB0 zB1 zB2 zB3 hcv hcv2 q4 HIN H16 H4 H28 H34 H34b HBB
          go_wp2
          go_ret
          exact ⟨rfl, HBX.out⟩

      have d1 : decide (0 ≤ cut) = true := decide_eq_true h0
      by_cases h1 : cut < (LY : Int)
      rotate_left
      · have d2 : decide (cut < (LY : Int)) = false := decide_eq_false h1
        clear h0 h1
        go_wp2_with fail
        have HZ8 := HZ7
        have HB8 := HB7
        clear HZ7 HB7
        generalize w7 = wk at *
        have HBB : Hid (∀ x : InW (Grown wk), BZ w x.w a b A1 A2 c1 c2 B m d cut) := Lib.hid fun x => HZ8.out.next x.h
        have H4 : Hid (∀ x : InW (Grown wk), Calls Tryd.prog 13 #[] x.w (RetIn (Grown wk) (.bool true))) := Lib.hid fun x => ret_below (works_any x.w (tab_below HG.out (HBB.out x).bel))
        have H16 : Hid (∀ x : InW (Grown wk), Calls Tryd.prog 16 #[.int .i64 (chkR b)] x.w (RetIn (Grown wk) (.int .i64 (chkR b)))) := Lib.hid fun x => ret_below ((num_any2 (chkR b) x.w).mono fun e w' h => ⟨h.1, by rw [← h.2]; exact Below.refl _ _⟩)
        have HIN : Nonempty (InW (Grown wk)) := ⟨⟨wk, Below.refl _ _⟩⟩
        by_cases hb0 : chkR b = 0
        rotate_left
        · have e1 : (chkR b != 0) = true := by simpa using hb0
          have e2 : decide (chkR b = 0) = false := decide_eq_false hb0
          clear hb0
          refine region_in (Grown wk) (by kernel_rfl) (by kernel_rfl) (Below.refl _ _).drew ?_
          repeat (go_big_quiet_step ((rename_i x; with_reducible (first | exact H16.out x | exact H4.out x))))
          refine wpQuiet_nil ?_
          rintro _ ⟨x, rfl⟩
          have HBX := Lib.hid (HBB.out x).bel
          clear HIN H16 H4 HBB
          go_wp2
          go_ret
          exact ⟨rfl, HBX.out⟩
        have e1 : (chkR b != 0) = false := by simpa using hb0
        have e2 : decide (chkR b = 0) = true := decide_eq_true hb0
        have ho := HO18.out
        obtain ⟨Z, hZ⟩ : ∃ Z, encR b = Z := ⟨_, rfl⟩
        rw [if_pos hb0, hZ] at ho
        obtain ⟨LZ, hLZ⟩ : ∃ LZ, Z.length = LZ := ⟨_, rfl⟩
        obtain ⟨A18, c18, rfl, hc18, hn18, hr18, _⟩ := ho.form hLZ
        have hcv : ∀ x : InW (Grown wk), (convert 25 9 (.slice A17 LY c17)).run Tryd.prog x.w = .ok (.string (ofL Y)) x.w := fun x => conv_n HLY.out HN17.out HC17.out ((HR17.out.below HB8.out).below x.h)
        have hcv2 : ∀ x : InW (Grown wk), (convert 25 9 (.slice A18 LZ c18)).run Tryd.prog x.w = .ok (.string (ofL Z)) x.w := fun x => conv_n hLZ hn18 hc18 ((hr18.below HB8.out).below x.h)
        have q1 := beg_enc HA0.out hb0 HFA.out HFB.out
        have q2 := beg_enc hb0 HA0.out HFB.out HFA.out
        have q3 := enc_same HA0.out hb0 HFA.out HFB.out
        have l1 : (ofL Y).size ≤ 1000000000 := by have h : (ofL Y).size = LY := HLY.out; omega
        have l2 : (ofL Z).size ≤ 1000000000 := by have h : (ofL Z).size = Z.length := rfl; have := enc_small hb0 HFB.out; rw [hZ] at this; omega
        rw [hZ, HYY.out] at q1 q2 q3
        have q4 : (Y == Z) = sameR a b := by simpa using q3
        have H34 : Hid (∀ x : InW (Grown wk), Calls Tryd.prog 34 #[.string (ofL Y), .string (ofL Z)] x.w (RetIn (Grown wk) (.bool false))) := Lib.hid fun x => ret_below ((begins_any (ofL Y) (ofL Z) x.w l1 l2).mono fun e w' h => ⟨by rw [h.1, q1], by rw [h.2]; exact Below.refl _ _⟩)
        have H34b : Hid (∀ x : InW (Grown wk), Calls Tryd.prog 34 #[.string (ofL Z), .string (ofL Y)] x.w (RetIn (Grown wk) (.bool false))) := Lib.hid fun x => ret_below ((begins_any (ofL Z) (ofL Y) x.w l2 l1).mono fun e w' h => ⟨by rw [h.1, q2], by rw [h.2]; exact Below.refl _ _⟩)
        have zA0 : ∀ x : InW (Grown wk), x.w.cell? ⟨w.heap.size, 0, none⟩ = some (.int .i64 a.kind) := fun x => (HBB.out x).rowA.1
        have zA1 : ∀ x : InW (Grown wk), x.w.cell? ⟨w.heap.size, 1, none⟩ = some (.int .i64 a.num) := fun x => (HBB.out x).rowA.2.1
        have zA2 : ∀ x : InW (Grown wk), x.w.cell? ⟨w.heap.size, 2, none⟩ = some (.string a.text) := fun x => (HBB.out x).rowA.2.2.1
        have zA3 : ∀ x : InW (Grown wk), x.w.cell? ⟨w.heap.size, 3, none⟩ = some (.slice A1 a.kids.length c1) := fun x => (HBB.out x).rowA.2.2.2
        have zB0 : ∀ x : InW (Grown wk), x.w.cell? ⟨w.heap.size + 1, 0, none⟩ = some (.int .i64 b.kind) := fun x => (HBB.out x).rowB.1
        have zB1 : ∀ x : InW (Grown wk), x.w.cell? ⟨w.heap.size + 1, 1, none⟩ = some (.int .i64 b.num) := fun x => (HBB.out x).rowB.2.1
        have zB2 : ∀ x : InW (Grown wk), x.w.cell? ⟨w.heap.size + 1, 2, none⟩ = some (.string b.text) := fun x => (HBB.out x).rowB.2.2.1
        have zB3 : ∀ x : InW (Grown wk), x.w.cell? ⟨w.heap.size + 1, 3, none⟩ = some (.slice A2 b.kids.length c2) := fun x => (HBB.out x).rowB.2.2.2
        have H28 : Hid (∀ x : InW (Grown wk), Calls Tryd.prog 28 #[.agg (rpV a A1 c1), .agg (rpV b A2 c2)] x.w (RetIn (Grown wk) (.bool (sameR a b)))) := Lib.hid fun x => ret_below (same_any a b A1 A2 c1 c2 _ _ x.w (HBB.out x).ka (HBB.out x).kb)
        clear q1 q2 l1 l2 hb0 ho hZ hLZ hc18 hn18 hr18
        clear q3
        generalize sameR a b = q at *
        cases q
        all_goals
          refine region_in (Grown wk) (by kernel_rfl) (by kernel_rfl) (Below.refl _ _).drew ?_
          repeat (go_big_quiet_step ((rename_i x; with_reducible (first | exact H16.out x | exact H4.out x | exact H28.out x | exact H34.out x | exact H34b.out x))))
          refine wpQuiet_nil ?_
          rintro _ ⟨x, rfl⟩
          have HBX := Lib.hid (HBB.out x).bel
          clear zA0 zA1 zA2 zA3 zB0 zB1 zB2 zB3 hcv hcv2 q4 HIN H16 H4 H28 H34 H34b HBB
          go_wp2
          go_ret
          exact ⟨rfl, HBX.out⟩

      have d2 : decide (cut < (LY : Int)) = true := decide_eq_true h1
      obtain ⟨k, hk⟩ : ∃ k : Nat, cut = k := ⟨cut.toNat, by omega⟩
      subst hk
      have hkl : k < LY := by omega
      have HTK : Hid ((Y.take k).length = k) := Lib.hid (by rw [List.length_take, HLY.out]; omega)
      have hc17 := HC17.out
      have HPK := Lib.hid (decode_any A17 k c17 (Y.take k) w7 HTK.out (by omega) HN17.out ((HR17.out.below HB7.out).take k) (fun ad e => Nat.lt_of_lt_of_le (HA17.out ad e) HB7.out.size) (by omega))
      have hcut : (decR (Y.take k)).e = 130 := by
        rw [← HYY.out]
        exact decode_cut HA0.out HFA.out k (by rw [HYY.out, HLY.out]; exact hkl)
      obtain ⟨D, hD⟩ : ∃ D, decR (Y.take k) = D := ⟨_, rfl⟩
      rw [hD] at HPK hcut
      have HE0 := Lib.hid hcut
      have HN1 : Hid (∀ W, Calls Tryd.prog 16 #[.int .i64 130] W fun e w' => e = .returned (.int .i64 130) ∧ W = w') := Lib.hid (fun W => num_any2 130 W)
      clear hcut hD
      go_wp2_with (refine wpList_up (by rfl) (.tmp 158) (.tmp 160) rfl A17 LY c17 rfl k rfl (by omega) ?_)
      refine HPK.out.mono ?_
      rintro e w8 ⟨A8, c8, rfl, _, hb8⟩
      rw [HE0.out]
      have HZ8 := Lib.hid (HZ7.out.next hb8)
      have HB8 := Lib.hid (HB7.out.trans (hb8.mono HB7.out.size))
      clear hb8 HPK HTK
      go_wp2_with fail
      refine (HN1.out _).mono ?_
      rintro e w' ⟨rfl, rfl⟩
      go_wp2_with fail
      have HZ9 : Hid (BZ w (w8.alloc (.cells #[.int .i64 D.r.kind, .int .i64 D.r.num, .string D.r.text, .slice A8 D.r.kids.length c8] 41)) a b A1 A2 c1 c2 B m d ↑k) := Lib.hid (HZ8.out.next (below_new w8 _))
      have HB9 : Hid (Below y2.heap.size y2 (w8.alloc (.cells #[.int .i64 D.r.kind, .int .i64 D.r.num, .string D.r.text, .slice A8 D.r.kids.length c8] 41))) := Lib.hid (HB8.out.trans ((below_new w8 _).mono HB8.out.size))
      clear HZ8 HB8 HZ7 HB7
      have HZ8 := HZ9
      have HB8 := HB9
      clear HZ9 HB9
      generalize (w8.alloc (.cells #[.int .i64 D.r.kind, .int .i64 D.r.num, .string D.r.text, .slice A8 D.r.kids.length c8] 41)) = wk at *
      have HBB : Hid (∀ x : InW (Grown wk), BZ w x.w a b A1 A2 c1 c2 B m d ↑k) := Lib.hid fun x => HZ8.out.next x.h
      have H4 : Hid (∀ x : InW (Grown wk), Calls Tryd.prog 13 #[] x.w (RetIn (Grown wk) (.bool true))) := Lib.hid fun x => ret_below (works_any x.w (tab_below HG.out (HBB.out x).bel))
      have H16 : Hid (∀ x : InW (Grown wk), Calls Tryd.prog 16 #[.int .i64 (chkR b)] x.w (RetIn (Grown wk) (.int .i64 (chkR b)))) := Lib.hid fun x => ret_below ((num_any2 (chkR b) x.w).mono fun e w' h => ⟨h.1, by rw [← h.2]; exact Below.refl _ _⟩)
      have HIN : Nonempty (InW (Grown wk)) := ⟨⟨wk, Below.refl _ _⟩⟩
      by_cases hb0 : chkR b = 0
      rotate_left
      · have e1 : (chkR b != 0) = true := by simpa using hb0
        have e2 : decide (chkR b = 0) = false := decide_eq_false hb0
        clear hb0
        refine region_in (Grown wk) (by kernel_rfl) (by kernel_rfl) (Below.refl _ _).drew ?_
        repeat (go_big_quiet_step ((rename_i x; with_reducible (first | exact H16.out x | exact H4.out x))))
        refine wpQuiet_nil ?_
        rintro _ ⟨x, rfl⟩
        have HBX := Lib.hid (HBB.out x).bel
        clear HIN H16 H4 HBB
        go_wp2
        go_ret
        exact ⟨rfl, HBX.out⟩
      have e1 : (chkR b != 0) = false := by simpa using hb0
      have e2 : decide (chkR b = 0) = true := decide_eq_true hb0
      have ho := HO18.out
      obtain ⟨Z, hZ⟩ : ∃ Z, encR b = Z := ⟨_, rfl⟩
      rw [if_pos hb0, hZ] at ho
      obtain ⟨LZ, hLZ⟩ : ∃ LZ, Z.length = LZ := ⟨_, rfl⟩
      obtain ⟨A18, c18, rfl, hc18, hn18, hr18, _⟩ := ho.form hLZ
      have hcv : ∀ x : InW (Grown wk), (convert 25 9 (.slice A17 LY c17)).run Tryd.prog x.w = .ok (.string (ofL Y)) x.w := fun x => conv_n HLY.out HN17.out HC17.out ((HR17.out.below HB8.out).below x.h)
      have hcv2 : ∀ x : InW (Grown wk), (convert 25 9 (.slice A18 LZ c18)).run Tryd.prog x.w = .ok (.string (ofL Z)) x.w := fun x => conv_n hLZ hn18 hc18 ((hr18.below HB8.out).below x.h)
      have q1 := beg_enc HA0.out hb0 HFA.out HFB.out
      have q2 := beg_enc hb0 HA0.out HFB.out HFA.out
      have q3 := enc_same HA0.out hb0 HFA.out HFB.out
      have l1 : (ofL Y).size ≤ 1000000000 := by have h : (ofL Y).size = LY := HLY.out; omega
      have l2 : (ofL Z).size ≤ 1000000000 := by have h : (ofL Z).size = Z.length := rfl; have := enc_small hb0 HFB.out; rw [hZ] at this; omega
      rw [hZ, HYY.out] at q1 q2 q3
      have q4 : (Y == Z) = sameR a b := by simpa using q3
      have H34 : Hid (∀ x : InW (Grown wk), Calls Tryd.prog 34 #[.string (ofL Y), .string (ofL Z)] x.w (RetIn (Grown wk) (.bool false))) := Lib.hid fun x => ret_below ((begins_any (ofL Y) (ofL Z) x.w l1 l2).mono fun e w' h => ⟨by rw [h.1, q1], by rw [h.2]; exact Below.refl _ _⟩)
      have H34b : Hid (∀ x : InW (Grown wk), Calls Tryd.prog 34 #[.string (ofL Z), .string (ofL Y)] x.w (RetIn (Grown wk) (.bool false))) := Lib.hid fun x => ret_below ((begins_any (ofL Z) (ofL Y) x.w l2 l1).mono fun e w' h => ⟨by rw [h.1, q2], by rw [h.2]; exact Below.refl _ _⟩)
      have zA0 : ∀ x : InW (Grown wk), x.w.cell? ⟨w.heap.size, 0, none⟩ = some (.int .i64 a.kind) := fun x => (HBB.out x).rowA.1
      have zA1 : ∀ x : InW (Grown wk), x.w.cell? ⟨w.heap.size, 1, none⟩ = some (.int .i64 a.num) := fun x => (HBB.out x).rowA.2.1
      have zA2 : ∀ x : InW (Grown wk), x.w.cell? ⟨w.heap.size, 2, none⟩ = some (.string a.text) := fun x => (HBB.out x).rowA.2.2.1
      have zA3 : ∀ x : InW (Grown wk), x.w.cell? ⟨w.heap.size, 3, none⟩ = some (.slice A1 a.kids.length c1) := fun x => (HBB.out x).rowA.2.2.2
      have zB0 : ∀ x : InW (Grown wk), x.w.cell? ⟨w.heap.size + 1, 0, none⟩ = some (.int .i64 b.kind) := fun x => (HBB.out x).rowB.1
      have zB1 : ∀ x : InW (Grown wk), x.w.cell? ⟨w.heap.size + 1, 1, none⟩ = some (.int .i64 b.num) := fun x => (HBB.out x).rowB.2.1
      have zB2 : ∀ x : InW (Grown wk), x.w.cell? ⟨w.heap.size + 1, 2, none⟩ = some (.string b.text) := fun x => (HBB.out x).rowB.2.2.1
      have zB3 : ∀ x : InW (Grown wk), x.w.cell? ⟨w.heap.size + 1, 3, none⟩ = some (.slice A2 b.kids.length c2) := fun x => (HBB.out x).rowB.2.2.2
      have H28 : Hid (∀ x : InW (Grown wk), Calls Tryd.prog 28 #[.agg (rpV a A1 c1), .agg (rpV b A2 c2)] x.w (RetIn (Grown wk) (.bool (sameR a b)))) := Lib.hid fun x => ret_below (same_any a b A1 A2 c1 c2 _ _ x.w (HBB.out x).ka (HBB.out x).kb)
      clear q1 q2 l1 l2 hb0 ho hZ hLZ hc18 hn18 hr18
      clear q3
      generalize sameR a b = q at *
      cases q
      all_goals
        refine region_in (Grown wk) (by kernel_rfl) (by kernel_rfl) (Below.refl _ _).drew ?_
        repeat (go_big_quiet_step ((rename_i x; with_reducible (first | exact H16.out x | exact H4.out x | exact H28.out x | exact H34.out x | exact H34b.out x))))
        refine wpQuiet_nil ?_
        rintro _ ⟨x, rfl⟩
        have HBX := Lib.hid (HBB.out x).bel
        clear zA0 zA1 zA2 zA3 zB0 zB1 zB2 zB3 hcv hcv2 q4 HIN H16 H4 H28 H34 H34b HBB
        go_wp2
        go_ret
        exact ⟨rfl, HBX.out⟩



set_option maxRecDepth 20000 in
theorem contract (H : Type) (enc : TypeId × Value → H) (W : World) (base : Nat) (args : Array Value) (ds gs : List (DataW H)) (before : List MemPlace)
    (hval : ∀ (j : Nat) t v, Tryd.f10.params[j]? = some t → args[j]? = some v → Value.okWide Tryd.prog W .any base t v)
    (hW : DataW.Whole enc Tryd.prog Tryd.f10.params.toList Rows.respBackSpec.vars false W args.toList ds gs before) 
    (hZ : (DataW.weightsEach Tryd.prog (Tryd.f10.params.toList ++ (OpenSpec.ofChange Rows.respBackSpec).bare.plain.varTypes Tryd.prog) (ds ++ gs)).all (· ≤ reachBytes) = true) (hL : laidMetH Tryd.prog Rows.respBackRow.laid W) :
    Calls Tryd.prog 10 args W fun e W' => ∃ v, e = .returned v ∧ Rows.respBackSpec.post enc Tryd.prog Tryd.f10 false true false false W args v W' := by
  have hW' := hW
  obtain ⟨p, q, hA0, hV, rfl, hfz, hnd⟩ := hW
  have hA : DataW.TrodAll enc Tryd.prog W 0 (fun _ => true) true Tryd.f10.params.toList args.toList ds p := hA0
  rw [Tryd.params10] at hA hval hZ
  obtain ⟨v0, vs0, d0, ds0, p0, q0, hargs, rfl, rfl, h0, r0⟩ := trodAll_cons hA
  obtain ⟨v1, vs1, d1, ds1, p1, q1, rfl, rfl, rfl, h1, r1⟩ := trodAll_cons r0
  obtain ⟨v2, vs2, d2, ds2, p2, q2, rfl, rfl, rfl, h2, r2⟩ := trodAll_cons r1
  obtain ⟨v3, vs3, d3, ds3, p3, q3, rfl, rfl, rfl, h3, r3⟩ := trodAll_cons r2
  obtain ⟨rfl, rfl, rfl⟩ := trodAll_nil r3
  obtain rfl : args = #[v0, v1, v2, v3] := by cases args; simp_all
  obtain ⟨rfl, rfl⟩ := trodVars_none hV
  have k0 := h0
  have lt0 : ∀ x ∈ p0, x.block < W.heap.size := by obtain ⟨m, hm⟩ := k0; exact DataW.trod_lt m _ _ _ hm
  obtain ⟨ca0, na0, ea0, rfl⟩ := okWide_slice Tryd.underlying22 (hval 0 22 v0 rfl rfl)
  obtain ⟨fu0, hf0⟩ := h0
  obtain ⟨A0, n0, c0, l0, hv0, hn0, hnc0, hcm0, hO0, hr0, hs0⟩ := strs_of hf0 (weight_at hZ (j := 0) rfl rfl)
  cases hv0
  simp only [maxLen] at hcm0
  have k1 := h1
  have lt1 : ∀ x ∈ p1, x.block < W.heap.size := by obtain ⟨m, hm⟩ := k1; exact DataW.trod_lt m _ _ _ hm
  obtain ⟨g1, rfl, hk1⟩ := reply_of (hval 1 41 v1 rfl rfl) h1 (weight_at hZ (j := 1) rfl rfl)
  have k2 := h2
  have lt2 : ∀ x ∈ p2, x.block < W.heap.size := by obtain ⟨m, hm⟩ := k2; exact DataW.trod_lt m _ _ _ hm
  obtain ⟨g2, rfl, hk2⟩ := reply_of (hval 2 41 v2 rfl rfl) h2 (weight_at hZ (j := 2) rfl rfl)
  have k3 := h3
  have lt3 : ∀ x ∈ p3, x.block < W.heap.size := by obtain ⟨m, hm⟩ := k3; exact DataW.trod_lt m _ _ _ hm
  obtain ⟨A3, n3, c3, l3, cut3, rfl, hn3, hnc3, hcm3, hO3, hr3, hc3⟩ := behind_of (hval 3 65 v3 rfl rfl) h3
  simp only [maxLen] at hcm3
  clear hA0
  refine (walk _ _ _ l0 g1.r g2.r g1.A g2.A g1.c g2.c _ _ _ l3 cut3 W hn0 hnc0 (by omega) hs0 hO0 hr0 hk1 hk2 hn3 hnc3 (by omega) hO3 hr3 hc3 (laid_pow hL)).mono fun e W' ⟨he, bel⟩ => ?_
  subst he
  exact ⟨_, rfl, _, _, _, [], _, [], hW', trodAll_mk1 (shut_bool Tryd.underlying4 _), (trodAll_cons_mk (Below.trod laidOut (by kernel_rfl) (of_decide_eq_true (by kernel_rfl)) k0 bel lt0) (trodAll_cons_mk (Below.trod laidOut (by kernel_rfl) (of_decide_eq_true (by kernel_rfl)) k1 bel lt1) (trodAll_cons_mk (Below.trod laidOut (by kernel_rfl) (of_decide_eq_true (by kernel_rfl)) k2 bel lt2) (trodAll_cons_mk (Below.trod laidOut (by kernel_rfl) (of_decide_eq_true (by kernel_rfl)) k3 bel lt3) trodAll_mk0)))), rfl, bel.frame _, fun h => by cases h⟩

theorem reads (os : Os) {H : Type} (enc : TypeId × Value → H) : ∃ places, DataW.whole enc Tryd.prog ((laidWorld os).forCall (fun _ _ => 0) ⟨#[], #[.slice none 0 0, .agg #[.int .i64 0, .int .i64 0, .string ⟨#[]⟩, .slice none 0 0], .agg #[.int .i64 0, .int .i64 0, .string ⟨#[]⟩, .slice none 0 0], .agg #[.slice none 0 0, .int .i64 0]], []⟩).memory Tryd.f10.params.toList Rows.respBackSpec.vars false (#[.slice none 0 0, .agg #[.int .i64 0, .int .i64 0, .string ⟨#[]⟩, .slice none 0 0], .agg #[.int .i64 0, .int .i64 0, .string ⟨#[]⟩, .slice none 0 0], .agg #[.slice none 0 0, .int .i64 0]] : Array Value).toList 8 = some ([.nil, .agg [.lit (.int .i64 0), .lit (.int .i64 0), .lit (.string []), .nil], .agg [.lit (.int .i64 0), .lit (.int .i64 0), .lit (.string []), .nil], .agg [.nil, .lit (.int .i64 0)]], [], places) :=
  ⟨[], by kernel_rfl⟩

set_option maxRecDepth 100000 in
theorem lifted (os : Os) (started : os.Started) (H : Type) (enc : TypeId × Value → H) (F : Stop.Interp) :
    ReturnsInHanded {} Tryd.checked os 10 .any ((OpenSpec.ofChange Rows.respBackSpec).preRow enc Tryd.prog Tryd.f10 Rows.respBackRow.domain false Rows.respBackRow.laid) (((OpenSpec.ofChange Rows.respBackSpec).at F).post enc Tryd.prog Tryd.f10 false true false false) := by
  obtain ⟨places, hx⟩ := reads os enc
  refine returnsInHanded_of_row (C := Tryd.checked) (s := OpenSpec.ofChange Rows.respBackSpec) own started (by kernel_rfl) Tryd.func10
    (witness_row_at (enc := enc) (C := Tryd.checked) false (laidWorld os) #[.slice none 0 0, .agg #[.int .i64 0, .int .i64 0, .string ⟨#[]⟩, .slice none 0 0], .agg #[.int .i64 0, .int .i64 0, .string ⟨#[]⟩, .slice none 0 0], .agg #[.slice none 0 0, .int .i64 0]] rfl (by kernel_rfl) (by kernel_rfl) (by kernel_rfl)
      (OpenSpec.preRow_of_cond 8 hx (by kernel_rfl) (fun k hk => by cases hk) (by kernel_rfl) (laid_met os _))) ?_
  intro W base args ds gs before hval hW _ _ hZ hL _ _
  exact contract H enc W base args ds gs before hval hW hZ hL

theorem said : Rows.RespBackSaid :=
  OpenClaim.holds_of_cond 10 Tryd.f10 rfl rfl rfl rfl rfl rfl rfl ⟨rfl, rfl, rfl, rfl, rfl⟩ rfl rfl rfl rfl rfl (by kernel_rfl) Tryd.func10 (by kernel_rfl)
    (of_decide_eq_true (by kernel_rfl)) (by unfold Func.isWrapper; first | (rw [if_pos (by decide +kernel)]; kernel_rfl) | (rw [if_neg (by decide +kernel)]; exact ⟨rfl, rfl⟩))
    (fun os started H enc _ F => by rw [OpenClaim.pre_eq_preRow]; exact lifted os started H enc F)

theorem plain (f : FuncId) (fn : Func) (hf : Tryd.pinned.checked.prog.funcNamed "tabor/taborlaw04.RespBack" = some f) (hfn : Tryd.pinned.checked.prog.funcs[f]? = some fn) :
    true = Tryd.pinned.checked.prog.looks [] ∧ ∀ (j : Nat) t, fn.params[j]? = some t → Tryd.pinned.checked.prog.wantsStandIn t = false := by
  obtain rfl : f = 10 := Option.some.inj ((show Tryd.prog.funcNamed "tabor/taborlaw04.RespBack" = some 10 by kernel_rfl).symm.trans hf) |>.symm
  obtain rfl : fn = Tryd.f10 := (Option.some.inj (Tryd.func10.symm.trans hfn)).symm
  refine ⟨by kernel_rfl, fun j t ht => ?_⟩
  rw [Tryd.params10] at ht
  have hm : t = 22 ∨ t = 41 ∨ t = 65 := by simpa using Array.mem_of_getElem? ht
  rcases hm with rfl | rfl | rfl
  · exact (show Tryd.prog.wantsStandIn 22 = false by kernel_rfl)
  · exact (show Tryd.prog.wantsStandIn 41 = false by kernel_rfl)
  · exact (show Tryd.prog.wantsStandIn 65 = false by kernel_rfl)

/-- The card. -/
theorem card : Rows.RespBackCardSaid :=
  Claim7.holds_tied_plain_at .later [] _ _ _ _ said (fun _ h => by cases h) (by kernel_rfl) (fun _ h => by cases h) respBack_row_tie rfl ⟨rfl, rfl⟩ (by kernel_rfl) rfl plain (by kernel_rfl)
#print axioms card
end Go.Proofs.YtglicojojpggmaaDoor.respBack
