/- A program's lines. -/
import Derived.Test.YtccofgdcpmplmaaGreatDoorHxs
import Derived.Test.YtccofgdcpmplmaaGreatDoorLsa
namespace Go.Proofs.YtccofgdcpmplmaaGreatDoor
open Go Go.RowKit Go.Shelf
abbrev tI : ByteArray := ⟨#[105, 110, 116]⟩
abbrev tT : ByteArray := ⟨#[116, 101, 120, 116]⟩
def lF (p : Pr) : List UInt8 := joinS [tF, itS p.params, itS p.regs] ++ [10]
def lI (x : Ins) : List UInt8 := joinS [itS x.op, itS x.a, itS x.b, itS x.c] ++ [10]
def lZ (z : Int) : List UInt8 := joinS [tI, itS z] ++ [10]
def lT (s : ByteArray) : List UInt8 := joinS [tT, ofL (speL s)] ++ [10]
def codeL (l : List Ins) : List UInt8 := l.flatMap lI
def protL (p : Pr) : List UInt8 := lF p ++ codeL p.code
def protsL (l : List Pr) : List UInt8 := l.flatMap protL
def intsL (l : List Int) : List UInt8 := l.flatMap lZ
def textsL (l : List ByteArray) : List UInt8 := l.flatMap lT
def listL (g : Pg) : List UInt8 := protsL g.ps ++ intsL g.is ++ textsL g.ts
theorem join_two (a b s : List UInt8) : Lib.join [a, b] s = a ++ (s ++ b) := by simp [Lib.join, List.intercalate]
theorem join_three (a b c s : List UInt8) : Lib.join [a, b, c] s = a ++ (s ++ (b ++ (s ++ c))) := by simp [Lib.join, List.intercalate]
theorem join_four (a b c d s : List UInt8) : Lib.join [a, b, c, d] s = a ++ (s ++ (b ++ (s ++ (c ++ (s ++ d))))) := by simp [Lib.join, List.intercalate]
theorem bl_itS (z : Int) : (itS z).data.toList = itL z := by simp [itS, ofL]
theorem lF_eq (p : Pr) : lF p = [102, 117, 110, 99, 32] ++ itL p.params ++ [32] ++ itL p.regs ++ [10] := by
  simp [lF, joinS, join_three, bl_itS]
theorem lI_eq (x : Ins) : lI x = itL x.op ++ [32] ++ itL x.a ++ [32] ++ itL x.b ++ [32] ++ itL x.c ++ [10] := by
  simp [lI, joinS, join_four, bl_itS]
theorem lZ_eq (z : Int) : lZ z = [105, 110, 116, 32] ++ itL z ++ [10] := by
  simp [lZ, joinS, join_two, bl_itS]
theorem lT_eq (s : ByteArray) : lT s = [116, 101, 120, 116, 32] ++ speL s ++ [10] := by
  simp [lT, joinS, join_two, ofL]
theorem speL_len (s : ByteArray) : (speL s).length ≤ 2 * s.size + 1 := by
  unfold speL
  split
  · simp
  · rw [hexL_len, Array.length_toList]
    have : s.data.size = s.size := rfl
    omega
theorem lF_len {p : Pr} (h : inI p.params ∧ inI p.regs) : (lF p).length ≤ 100 := by
  have h1 := itL_len _ h.1
  have h2 := itL_len _ h.2
  rw [lF_eq]
  simp
  omega
theorem lI_len {x : Ins} (h : x.ok) : (lI x).length ≤ 100 := by
  have h1 := itL_len _ h.1
  have h2 := itL_len _ h.2.1
  have h3 := itL_len _ h.2.2.1
  have h4 := itL_len _ h.2.2.2
  rw [lI_eq]
  simp
  omega
theorem lZ_len {z : Int} (h : inI z) : (lZ z).length ≤ 100 := by
  have h1 := itL_len _ h
  rw [lZ_eq]
  simp
  omega
theorem lT_len (s : ByteArray) : (lT s).length ≤ 2 * s.size + 100 := by
  have := speL_len s
  rw [lT_eq]
  simp
  omega
theorem codeL_next {l : List Ins} {k : Nat} (h : k < l.length) : codeL (l.take (k + 1)) = codeL (l.take k) ++ lI l[k] := by
  unfold codeL
  rw [List.take_succ_eq_append_getElem h, List.flatMap_append]
  simp
theorem protsL_next {l : List Pr} {k : Nat} (h : k < l.length) : protsL (l.take (k + 1)) = protsL (l.take k) ++ (lF l[k] ++ codeL l[k].code) := by
  unfold protsL
  rw [List.take_succ_eq_append_getElem h, List.flatMap_append]
  simp [protL]
theorem intsL_next {l : List Int} {k : Nat} (h : k < l.length) : intsL (l.take (k + 1)) = intsL (l.take k) ++ lZ l[k] := by
  unfold intsL
  rw [List.take_succ_eq_append_getElem h, List.flatMap_append]
  simp
theorem textsL_next {l : List ByteArray} {k : Nat} (h : k < l.length) : textsL (l.take (k + 1)) = textsL (l.take k) ++ lT l[k] := by
  unfold textsL
  rw [List.take_succ_eq_append_getElem h, List.flatMap_append]
  simp
theorem codeL_len {l : List Ins} (h : ∀ x ∈ l, x.ok) : (codeL l).length ≤ 100 * l.length := by
  induction l with
  | nil => simp [codeL]
  | cons x r ih =>
    have h1 := lI_len (h x (by simp))
    have h2 := ih (fun y hy => h y (by simp [hy]))
    simp only [codeL, List.flatMap_cons, List.length_append, List.length_cons] at *
    omega
theorem protsL_len {l : List Pr} (h : ∀ p ∈ l, inI p.params ∧ inI p.regs ∧ ∀ x ∈ p.code, x.ok) : (protsL l).length ≤ 100 * l.length + 100 * cnt l := by
  induction l with
  | nil => simp [protsL, cnt]
  | cons p r ih =>
    have h0 := h p (by simp)
    have h1 := lF_len ⟨h0.1, h0.2.1⟩
    have h2 := codeL_len h0.2.2
    have h3 := ih (fun y hy => h y (by simp [hy]))
    simp only [protsL, protL, cnt, List.flatMap_cons, List.length_append, List.length_cons, List.map_cons, List.sum_cons] at *
    omega
theorem intsL_len {l : List Int} (h : ∀ z ∈ l, inI z) : (intsL l).length ≤ 100 * l.length := by
  induction l with
  | nil => simp [intsL]
  | cons x r ih =>
    have h1 := lZ_len (h x (by simp))
    have h2 := ih (fun y hy => h y (by simp [hy]))
    simp only [intsL, List.flatMap_cons, List.length_append, List.length_cons] at *
    omega
theorem textsL_len (l : List ByteArray) : (textsL l).length ≤ 100 * l.length + 2 * (l.map ByteArray.size).sum := by
  induction l with
  | nil => simp [textsL]
  | cons x r ih =>
    have h1 := lT_len x
    simp only [textsL, List.flatMap_cons, List.length_append, List.length_cons, List.map_cons, List.sum_cons] at *
    omega
/-- A program whose listing is not too long. -/
structure Pg.lim (g : Pg) : Prop where
  p : g.ps.length ≤ 4000
  c : cnt g.ps ≤ 4000
  i : g.is.length ≤ 4000
  t : g.ts.length ≤ 4000
  z : (g.ts.map ByteArray.size).sum ≤ 4000
  io : ∀ z ∈ g.is, inI z
  fit : g.fit
theorem sum_take_le (l : List Nat) (k : Nat) : (l.take k).sum ≤ l.sum := by
  induction l generalizing k with
  | nil => simp
  | cons x r ih =>
    cases k with
    | zero => simp
    | succ k =>
      have := ih k
      simp only [List.take_succ_cons, List.sum_cons]
      omega
theorem mem_le_sum {l : List Nat} {x : Nat} (h : x ∈ l) : x ≤ l.sum := by
  induction l with
  | nil => cases h
  | cons y r ih =>
    simp only [List.sum_cons]
    rcases List.mem_cons.1 h with rfl | h
    · omega
    · have := ih h
      omega
theorem cnt_take (l : List Pr) (k : Nat) : cnt (l.take k) ≤ cnt l := by
  unfold cnt
  rw [List.map_take]
  exact sum_take_le _ _
theorem Pg.lim.take {g : Pg} (h : g.lim) (k : Nat) : (protsL (g.ps.take k)).length ≤ 800000 := by
  have h1 := protsL_len (l := g.ps.take k) (fun p hp => h.fit.r p (List.mem_of_mem_take hp))
  have h2 := cnt_take g.ps k
  have h3 := h.p
  have h4 := h.c
  have h5 : (g.ps.take k).length ≤ g.ps.length := by rw [List.length_take]; omega
  omega
theorem Pg.lim.all {g : Pg} (h : g.lim) : (protsL g.ps).length ≤ 800000 := by
  have := h.take g.ps.length
  rwa [List.take_length] at this
theorem Pg.lim.ints {g : Pg} (h : g.lim) (k : Nat) : (intsL (g.is.take k)).length ≤ 400000 := by
  have h1 := intsL_len (l := g.is.take k) (fun z hz => h.io z (List.mem_of_mem_take hz))
  have h2 := h.i
  have h5 : (g.is.take k).length ≤ g.is.length := by rw [List.length_take]; omega
  omega
theorem Pg.lim.texts {g : Pg} (h : g.lim) (k : Nat) : (textsL (g.ts.take k)).length ≤ 408000 := by
  have h1 := textsL_len (g.ts.take k)
  have h2 := h.t
  have h3 := h.z
  have h5 : (g.ts.take k).length ≤ g.ts.length := by rw [List.length_take]; omega
  have h6 : ((g.ts.take k).map ByteArray.size).sum ≤ (g.ts.map ByteArray.size).sum := by
    rw [List.map_take]
    exact sum_take_le _ _
  omega
theorem Pg.lim.code {g : Pg} (h : g.lim) {p : Pr} (hp : p ∈ g.ps) : p.code.length ≤ 4000 := by
  have h1 : p.code.length ≤ cnt g.ps := by
    unfold cnt
    exact mem_le_sum (List.mem_map.2 ⟨p, hp, rfl⟩)
  have := h.c
  omega
theorem Pg.lim.text {g : Pg} (h : g.lim) {s : ByteArray} (hs : s ∈ g.ts) : s.size ≤ 4000 := by
  have h1 : s.size ≤ (g.ts.map ByteArray.size).sum := mem_le_sum (List.mem_map.2 ⟨s, hs, rfl⟩)
  have := h.z
  omega
end Go.Proofs.YtccofgdcpmplmaaGreatDoor
