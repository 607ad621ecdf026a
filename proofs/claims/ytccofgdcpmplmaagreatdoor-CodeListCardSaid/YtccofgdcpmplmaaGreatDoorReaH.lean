/- A text is read as a program. -/
import Derived.Test.YtccofgdcpmplmaaGreatDoorRdl
import Derived.Test.YtccofgdcpmplmaaGreatDoorLns
import Derived.Test.YtccofgdcpmplmaaGreatDoorLis
namespace Go.Proofs.YtccofgdcpmplmaaGreatDoor
open Go Go.RowKit Go.Shelf
abbrev Co := List (Int × Int × List Ins) × List Int × List ByteArray
def coreG (g : Pg) : Co := (g.ps.map Pr.core, g.is, g.ts)
def funcP (c : Co) : Option (List Int) → Option Co
  | some [a, b] => some (c.1 ++ [(a, b, [])], c.2.1, c.2.2)
  | _ => none
def instP (c : Co) : Option (List Int) → Option Co
  | some [a, b, x, d] => match c.1.getLast? with
    | some (p, r, k) => some (c.1.dropLast ++ [(p, r, k ++ [⟨a, b, x, d⟩])], c.2.1, c.2.2)
    | none => none
  | _ => none
def lineP (c : Co) (line : ByteArray) : Option Co := match wordsB line with
  | [] => none
  | w0 :: wr =>
    if (w0.toList == [102, 117, 110, 99]) = true then funcP c (wr.mapM atoiO)
    else if (w0.toList == [105, 110, 116]) = true then (pintO ((w0 :: wr).getLast (by simp))).map fun z => (c.1, c.2.1 ++ [z], c.2.2)
    else if (w0.toList == [116, 101, 120, 116]) = true then (unspP ((w0 :: wr).getLast (by simp))).map fun t => (c.1, c.2.1, c.2.2 ++ [t])
    else instP c ((w0 :: wr).mapM atoiO)
def ReadR (S : Nat → Prop) (B : Nat) (W : World) (o : Option Co) (e : Ending) (W' : World) : Prop := match o with
  | some c => ReadQ S B W true (fun g' => coreG g' = c) e W'
  | none => ReadQ S B W false (fun _ => False) e W'
theorem ReadQ.weaken {S : Nat → Prop} {B : Nat} {W : World} {ok : Bool} {P P' : Pg → Prop} {e : Ending} {W' : World} (h : ReadQ S B W ok P e W') (hP : ∀ g, P g → P' g) : ReadQ S B W ok P' e W' :=
  ⟨h.1, h.2.1, fun hk => by obtain ⟨g', h1, h2⟩ := h.2.2 hk; exact ⟨g', hP g' h1, h2⟩⟩
theorem read_any (S : Nat → Prop) (B : Nat) (g : Pg) (line : ByteArray) (W : World) (hpo : PO S B g W) (he : Env W) (hl : line.size ≤ 900000) (hp : g.ps.length ≤ 1000000 ∧ g.is.length ≤ 1000000 ∧ g.ts.length ≤ 1000000 ∧ ∀ p ∈ g.ps, p.code.length ≤ 1000000) :
    Calls Tryz.prog 22 #[.pointer (some ⟨B, 0, none⟩), .string line] W fun e W' => ReadR S B W (lineP (coreG g) line) e W' := by
  rcases hw : wordsB line with _ | ⟨w0, wr⟩
  · have := words_len line
    rw [hw] at this
    simp at this
  have hlp : lineP (coreG g) line = if (w0.toList == [102, 117, 110, 99]) = true then funcP (coreG g) (wr.mapM atoiO)
    else if (w0.toList == [105, 110, 116]) = true then (pintO ((w0 :: wr).getLast (by simp))).map fun z => ((coreG g).1, (coreG g).2.1 ++ [z], (coreG g).2.2)
    else if (w0.toList == [116, 101, 120, 116]) = true then (unspP ((w0 :: wr).getLast (by simp))).map fun t => ((coreG g).1, (coreG g).2.1, (coreG g).2.2 ++ [t])
    else instP (coreG g) ((w0 :: wr).mapM atoiO) := by
    unfold lineP
    rw [hw]
  rw [hlp]
  clear hlp
  rcases t1 : (w0.toList == [102, 117, 110, 99]) with _ | _
  rotate_left
  · rw [if_pos rfl]
    refine (read_F S B g line W hpo he hl hp w0 wr hw t1).mono ?_
    rintro e W' ⟨h1, h2⟩
    by_cases hz : ∃ a b, wr.mapM atoiO = some [a, b]
    · obtain ⟨a, b, hz⟩ := hz
      rw [hz]
      exact (h1 a b hz).weaken fun g' ⟨k1, k2, k3⟩ => by simp [coreG, k1, k2, k3]
    · have hn : funcP (coreG g) (wr.mapM atoiO) = none := by
        unfold funcP
        split
        · rename_i a b h
          exact absurd ⟨a, b, h⟩ hz
        · rfl
      rw [hn]
      exact h2 fun a b h => hz ⟨a, b, h⟩
  rw [if_neg (by simp)]
  rcases t2 : (w0.toList == [105, 110, 116]) with _ | _
  rotate_left
  · rw [if_pos rfl]
    refine (read_Z S B g line W hpo he hl hp w0 wr hw _ rfl t1 t2).mono ?_
    rintro e W' ⟨h1, h2⟩
    cases hz : pintO ((w0 :: wr).getLast (by simp)) with
    | none => exact h2 hz
    | some z => exact (h1 z hz).weaken fun g' ⟨k1, k2, k3⟩ => by simp [coreG, k1, k2, k3]
  rw [if_neg (by simp)]
  rcases t3 : (w0.toList == [116, 101, 120, 116]) with _ | _
  rotate_left
  · rw [if_pos rfl]
    refine (read_T S B g line W hpo he hl hp w0 wr hw _ rfl t1 t2 t3).mono ?_
    rintro e W' ⟨h1, h2⟩
    cases hz : unspP ((w0 :: wr).getLast (by simp)) with
    | none => exact h2 hz
    | some z => exact (h1 z hz).weaken fun g' ⟨k1, k2, k3⟩ => by simp [coreG, k1, k2, k3]
  rw [if_neg (by simp)]
  refine (read_I S B g line W hpo he hl hp w0 wr hw t1 t2 t3).mono ?_
  rintro e W' ⟨h1, h2⟩
  by_cases hz : ∃ a b x d, (w0 :: wr).mapM atoiO = some [a, b, x, d]
  · obtain ⟨a, b, x, d, hz⟩ := hz
    rcases List.eq_nil_or_concat g.ps with h0 | ⟨l, q, hlq⟩
    · have hn : instP (coreG g) ((w0 :: wr).mapM atoiO) = none := by
        rw [hz]
        simp [instP, coreG, h0]
      rw [hn]
      exact h2 (.inr h0)
    · have hlq' : g.ps = l ++ [q] := by simpa using hlq
      have hn : instP (coreG g) ((w0 :: wr).mapM atoiO) = some (l.map Pr.core ++ [(q.params, q.regs, q.code ++ [⟨a, b, x, d⟩])], g.is, g.ts) := by
        rw [hz]
        simp [instP, coreG, hlq', Pr.core]
      rw [hn]
      exact (h1 a b x d l q hz hlq').weaken fun g' ⟨k1, k2, k3⟩ => by simp [coreG, k1, k2, k3]
  · have hn : instP (coreG g) ((w0 :: wr).mapM atoiO) = none := by
      unfold instP
      split
      · rename_i a b x d h
        exact absurd ⟨a, b, x, d, h⟩ hz
      · rfl
    rw [hn]
    exact h2 (.inl fun a b x d h => hz ⟨a, b, x, d, h⟩)
end Go.Proofs.YtccofgdcpmplmaaGreatDoor
namespace Go.Proofs.YtccofgdcpmplmaaGreatDoor
open Go Go.RowKit Go.Shelf
attribute [local go_sem] Oper.semAt_some
def readL (l : List (List UInt8)) : Option Co := (l.map ofL).foldlM lineP ([], [], [])
theorem readL_next (pre : List (List UInt8)) (x : List UInt8) {c : Co} (h : readL pre = some c) : readL (pre ++ [x]) = lineP c (ofL x) := by
  unfold readL at *
  rw [List.map_append, List.foldlM_append, h]
  simp
structure limC (o : Co) : Prop where
  p : o.1.length ≤ 4000
  c : (o.1.map fun q => q.2.2.length).sum ≤ 4000
  i : o.2.1.length ≤ 4000
  t : o.2.2.length ≤ 4000
  z : (o.2.2.map ByteArray.size).sum ≤ 4000
  io : ∀ z ∈ o.2.1, inI z
  r : ∀ q ∈ o.1, inI q.1 ∧ inI q.2.1 ∧ ∀ x ∈ q.2.2, x.ok
theorem limC.count {g : Pg} (h : limC (coreG g)) : cnt g.ps ≤ 4000 := by
  have := h.c
  unfold cnt
  simpa [coreG, Pr.core, Function.comp_def] using this
theorem limC.code {g : Pg} (h : limC (coreG g)) : ∀ p ∈ g.ps, p.code.length ≤ 4000 := fun p hp => by
  have h1 : p.code.length ≤ cnt g.ps := mem_le_sum (List.mem_map.2 ⟨p, hp, rfl⟩)
  have := h.count
  omega
theorem limC.lim {g : Pg} (h : limC (coreG g)) : g.lim := by
  have hp : g.ps.length ≤ 4000 := by simpa [coreG] using h.p
  have hi : g.is.length ≤ 4000 := h.i
  have ht : g.ts.length ≤ 4000 := h.t
  have hz : (g.ts.map ByteArray.size).sum ≤ 4000 := h.z
  refine ⟨hp, h.count, hi, ht, hz, h.io, ⟨by omega, fun p hm => by have := h.code p hm; omega, by omega, by omega, fun s hs => ?_, fun p hm => ?_⟩⟩
  · have h1 : s.size ≤ (g.ts.map ByteArray.size).sum := mem_le_sum (List.mem_map.2 ⟨s, hs, rfl⟩)
    omega
  · exact h.r (p.params, p.regs, p.code) (List.mem_map.2 ⟨p, hm, rfl⟩)
/-- What is protected while a text is read. -/
def SR (n : Nat) (k : Nat) : Prop := k ≠ n + 2 ∧ k < n + 4
theorem PO.keep {S : Nat → Prop} {B : Nat} {g : Pg} {A A' : World} {row : Option Nat} (h : PO S B g A) (hg : A.grownBy A' row) (hr : ∀ r, row = some r → S r ∨ ∃ o : Obj, A.heap[r]? = some o ∧ o.isCells = false) : PO S B g A' := by
  have hne : ∀ k, owns B g k → (∃ cs t fr, A.heap[k]? = some (Obj.cells cs t fr)) → row ≠ some k := by
    intro k ho ⟨cs, t, fr, hk⟩ e
    rcases hr k e with h1 | ⟨o, h1, h2⟩
    · exact h.far k ho h1
    · rw [hk] at h1
      cases h1
      cases h2
  have hrow : ∀ {e : TypeId} {size n : Nat} {v : Value} {xs : List Value}, A.ownsRow 0 e size v n xs → (∀ k, v.ownBlock = some k → owns B g k) → A'.ownsRow 0 e size v n xs := by
    intro e size n v xs ho hk
    refine ho.kept hg ?_
    cases hv : v.ownBlock with
    | none => exact .inl rfl
    | some k =>
      obtain ⟨c, f, h1⟩ := own_type ho k hv
      exact .inr (fun e' => hne k (hk k hv) ⟨_, _, _, h1⟩ e'.symm)
  refine ⟨(hg.block B h.box_lt (fun e => hne B (.inl rfl) ⟨_, _, _, h.box⟩ e.symm)).trans h.box, hrow h.ps fun k e => .inr (.inl e), hrow h.is fun k e => .inr (.inr (.inl e)), hrow h.ts fun k e => .inr (.inr (.inr (.inl e))), fun p hp => hrow (h.code p hp) fun k e => .inr (.inr (.inr (.inr ⟨p, hp, e⟩))), h.apart, h.far, fun k hk => Nat.lt_of_lt_of_le (h.low k hk) hg.size⟩
abbrev nil3 : Array Value := #[.slice none 0 0, .slice none 0 0, .slice none 0 0]
/-- What holds between two lines. -/
structure RI (w : World) (pre : List (List UInt8)) (W : World) : Prop where
  r2 : W.heap[w.heap.size]? = some (.cells nil3 26 (0, 0))
  r3 : W.heap[w.heap.size + 1]? = some (.cells #[.int .i64 0] 29 (0, 0))
  bel : Below w.heap.size w W
  siz : w.heap.size + 4 ≤ W.heap.size
  po : ∃ g, readL pre = some (coreG g) ∧ PO (SR w.heap.size) (w.heap.size + 2) g W
/-- What holds where a line was none. -/
structure RE (w : World) (pre : List (List UInt8)) (W : World) : Prop where
  r2 : W.heap[w.heap.size]? = some (.cells nil3 26 (0, 0))
  r3 : W.heap[w.heap.size + 1]? = some (.cells #[.int .i64 280] 29 (0, 0))
  bel : Below w.heap.size w W
  bad : readL pre = none
theorem keep_cells {w A A' : World} {row : Option Nat} {k : Nat} {cs : Array Value} {t : TypeId} {fr : Nat × Nat} (hg : A.grownBy A' row) (hr : ∀ r, row = some r → r = w.heap.size + 3 ∨ (w.heap.size + 4 ≤ r ∧ ∃ o : Obj, A.heap[r]? = some o ∧ o.isCells = false)) (hk : A.heap[k]? = some (.cells cs t fr)) (hn : k ≠ w.heap.size + 3) : A'.heap[k]? = some (.cells cs t fr) := by
  refine (hg.block k (Array.getElem?_eq_some_iff.1 hk).1 fun e => ?_).trans hk
  rcases hr k e.symm with h | ⟨_, o, h1, h2⟩
  · exact hn h
  · rw [hk] at h1
    cases h1
    cases h2
theorem RI.keep {w A A' : World} {row : Option Nat} {pre : List (List UInt8)} (h : RI w pre A) (hg : A.grownBy A' row) (hr : ∀ r, row = some r → r = w.heap.size + 3 ∨ (w.heap.size + 4 ≤ r ∧ ∃ o : Obj, A.heap[r]? = some o ∧ o.isCells = false)) : RI w pre A' := by
  obtain ⟨g, h1, h2⟩ := h.po
  refine ⟨keep_cells hg hr h.r2 (by omega), keep_cells hg hr h.r3 (by omega), h.bel.grown hg h.bel.size (fun k e => by rcases hr k e with h | ⟨h, _⟩ <;> omega), Nat.le_trans h.siz hg.size, g, h1, h2.keep hg fun r e => ?_⟩
  rcases hr r e with h3 | ⟨_, h3⟩
  · exact .inl ⟨by omega, by omega⟩
  · exact .inr h3
theorem RE.keep {w A A' : World} {row : Option Nat} {pre : List (List UInt8)} (h : RE w pre A) (hg : A.grownBy A' row) (hr : ∀ r, row = some r → r = w.heap.size + 3 ∨ (w.heap.size + 4 ≤ r ∧ ∃ o : Obj, A.heap[r]? = some o ∧ o.isCells = false)) : RE w pre A' :=
  ⟨keep_cells hg hr h.r2 (by omega), keep_cells hg hr h.r3 (by omega), h.bel.grown hg h.bel.size (fun k e => by rcases hr k e with h | ⟨h, _⟩ <;> omega), h.bad⟩
theorem res9 (tmps : Array Value) (g0 g1 : Nat) (a b c : Value) (e : Int) (W : World) (t2 : tmps.getD 2 undef = .pointer (some ⟨g0, 0, none⟩)) (t3 : tmps.getD 3 undef = .pointer (some ⟨g1, 0, none⟩))
    (ha : a.oneCell' = true ∧ b.oneCell' = true ∧ c.oneCell' = true) (c0 : W.heap[g0]? = some (.cells #[a, b, c] 26 (0, 0))) (c1 : W.heap[g1]? = some (.cells #[.int .i64 e] 29 (0, 0))) :
    (results Tryz.f9 tmps).run Tryz.prog W = .ok (.tuple #[.agg #[a, b, c], .int .i64 e]) W := by
  obtain ⟨q0, q1, q2⟩ := cell3 c0
  have q3 := cell_of_one c1
  simp only [Array.getD_eq_getD_getElem?] at t2 t3
  simp [results, Tryz.results9, t2, t3, q0, q1, q2, q3, go_sem]
end Go.Proofs.YtccofgdcpmplmaaGreatDoor
