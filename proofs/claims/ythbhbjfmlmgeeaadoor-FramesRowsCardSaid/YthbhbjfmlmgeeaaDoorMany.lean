/- Rows of lists of texts: whether they are the same, whether they are few. -/
import Derived.Test.YthbhbjfmlmgeeaaDoorOne
import Derived.Test.YthbhbjfmlmgeeaaDoorFew
namespace Go.Proofs.YthbhbjfmlmgeeaaDoor
open Go Go.RowKit
/-- A list in a row: where it lies, its capacity, its texts. -/
structure Row where
  A : Option Addr
  c : Nat
  ls : List ByteArray
def Row.v (r : Row) : Value := .slice r.A r.ls.length r.c
def lsOf (rs : List Row) : List (List ByteArray) := rs.map Row.ls
theorem lsOf_len (rs : List Row) : (lsOf rs).length = rs.length := by simp [lsOf]
/-- Rows as they are read. -/
def RdR (w : World) (A : Option Addr) (rs : List Row) : Prop := RdV w A (rs.map Row.v) ∧ ∀ r ∈ rs, RdV w r.A (cellsS r.ls) ∧ r.ls.length ≤ 9223372036854775807
theorem RdR.below {w w' : World} {A : Option Addr} {rs : List Row} (h : RdR w A rs) (hb : Below w.heap.size w w') : RdR w' A rs := ⟨h.1.below hb, fun r hr => ⟨(h.2 r hr).1.below hb, (h.2 r hr).2⟩⟩
theorem RdR.at {w : World} {A : Option Addr} {rs : List Row} (h : RdR w A rs) {k : Nat} (hk : k < rs.length) :
    ∃ b off Ar cr ls n, A = some ⟨b, off, none⟩ ∧ b < w.heap.size ∧ w.cell? ⟨b, off + k, none⟩ = some (.slice Ar n cr) ∧ ls.length = n ∧ RdV w Ar (cellsS ls) ∧ n ≤ 9223372036854775807 ∧ (lsOf rs).take (k + 1) = (lsOf rs).take k ++ [ls] ∧ ls ∈ lsOf rs := by
  obtain ⟨b, off, rfl, hlt, hc⟩ := h.1.at (k := k) (by simpa using hk)
  have hm : rs[k] ∈ rs := List.getElem_mem _
  refine ⟨b, off, rs[k].A, rs[k].c, rs[k].ls, _, rfl, hlt, by rw [hc]; simp [Row.v], rfl, (h.2 _ hm).1, (h.2 _ hm).2, ?_, List.mem_map.2 ⟨_, hm, rfl⟩⟩
  have := List.take_succ_eq_append_getElem (l := lsOf rs) (i := k) (by rw [lsOf_len]; exact hk)
  rw [this]; simp [lsOf]
/-- Are two rows the same? -/
def eqR (a b : List (List ByteArray)) : Bool := decide (a = b)
theorem eqR_len {a b : List (List ByteArray)} (h : a.length ≠ b.length) : eqR a b = false := by
  simp only [eqR, decide_eq_false_iff_not]
  rintro rfl
  exact h rfl
theorem eqR_yes {a b : List (List ByteArray)} {n : Nat} (ha : a.length = n) (hb : b.length = n) (h : a.take n = b.take n) : eqR a b = true := by
  rw [List.take_of_length_le (by omega), List.take_of_length_le (by omega)] at h
  simp [eqR, h]
theorem eqR_no {a b : List (List ByteArray)} {k : Nat} {x y : List ByteArray} (hx : a.take (k + 1) = a.take k ++ [x]) (hy : b.take (k + 1) = b.take k ++ [y]) (h : eqS x y = false) : eqR a b = false := by
  simp only [eqR, decide_eq_false_iff_not]
  rintro rfl
  rw [hx] at hy
  have e : x = y := by simpa using hy
  simp [eqS, e] at h
theorem quiet_add' {P : Program} {f : FuncId} {args : Array Value} {w : World} {a n : Nat} {v : Value}
    (h : Calls P f args (w.drewN (a + n)) fun e w' => e = .returned v ∧ ∃ m, w' = (w.drewN (a + n)).drewN m) :
    Calls P f args (w.drewN (a + n)) fun e w'' => e = .returned v ∧ ∃ m, w'' = w.drewN (a + m) :=
  h.mono fun _ _ ⟨he, m, hm⟩ => ⟨he, n + m, by rw [hm, World.drewN_drewN, Nat.add_assoc]⟩
set_option maxHeartbeats 1000000 in
theorem same_any (A B : Option Addr) (n m c d : Nat) (rs ss : List Row) (w : World) (hn : rs.length = n) (hm : ss.length = m) (bn : n ≤ 9223372036854775807) (bm : m ≤ 9223372036854775807) (ha : RdR w A rs) (hb : RdR w B ss) :
    Calls Tryd.prog 23 #[.slice A n c, .slice B m d] w fun e w' => e = .returned (.bool (eqR (lsOf rs) (lsOf ss))) ∧ ∃ q, w' = w.drewN q := by
  have HN := Lib.hid (hn ▸ lsOf_len rs : (lsOf rs).length = n)
  have HM := Lib.hid (hm ▸ lsOf_len ss : (lsOf ss).length = m)
  have HA := Lib.hid ha
  have HB := Lib.hid hb
  have HN' := Lib.hid hn
  have HM' := Lib.hid hm
  clear hn hm ha hb
  by_cases hnm : n = m
  · subst hnm
    go_enter Tryd.func23, Tryd.ntmps23
    go_wp2
    go_loopw [13] (fun i wr => ∃ k q : Nat, k ≤ n ∧ i = .int .i64 k ∧ wr = w.drewN q ∧ Hid ((lsOf rs).take k = (lsOf ss).take k)) (fun i _ => n - (intOf i).toNat)
    case atStart => exact ⟨0, 0, Nat.zero_le _, rfl, rfl, by simp [Hid]⟩
    case round =>
      obtain ⟨k, q, hk, rfl, rfl, HT⟩ := hrel
      by_cases hlt : k < n
      · obtain ⟨b, off, Ar, cr, x, nx, rfl, hbb, hca, hxl, hra, hxb, hxt, -⟩ := HA.out.at (k := k) (by have := HN'.out; omega)
        obtain ⟨b', off', Br, dr, y, ny, rfl, hbb', hcb, hyl, hrb, hyb, hyt, -⟩ := HB.out.at (k := k) (by have := HM'.out; omega)
        have HX := Lib.hid hxt
        have HY := Lib.hid hyt
        have hk0 : (0 : Int) ≤ (k : Int) := by omega
        have hk1 : (k : Int) < (n : Int) := by omega
        have hcall := fun p : Nat => equal_any Ar Br nx ny cr dr x y (w.drewN p) hxl hyl hxb hyb hra hrb
        have HE := Lib.hid (rfl : eqS x y = eqS x y)
        generalize heq : eqS x y = t at *
        have HXY := Lib.hid heq
        clear hxt hyt hra hrb hxl hyl heq HE
        cases t
        · go_wp2
          go_quiet ((go_at_call 40; exact quiet_add' (hcall _)))
          go_wp2
          go_ret
          exact ⟨ret_bool (eqR_no HX.out HY.out HXY.out).symm, _, drew_two _ _ _⟩
        · go_wp2
          go_quiet ((go_at_call 40; exact quiet_add' (hcall _)))
          go_wp2
          go_roundw
          case rel => exact ⟨k + 1, _, by omega, by go_num, by first | rfl | exact drew_two _ _ _, by show _ = _; rw [HX.out, HY.out, HT.out]; have := HXY.out; simp only [eqS, decide_eq_true_eq] at this; rw [this]⟩
          case measure => simp [intOf]; omega
      · go_wp2
        go_ret
        obtain rfl : k = n := by omega
        exact ⟨ret_bool (eqR_yes HN.out HM.out HT.out).symm, _, rfl⟩
  · have e1 : ((n : Int) != (m : Int)) = true := by simp; omega
    have e2 : (n != m) = true := by simp; omega
    have HNM := Lib.hid hnm
    clear hnm
    go_enter Tryd.func23, Tryd.ntmps23
    go_wp2
    go_ret
    exact ⟨ret_bool (eqR_len (by have := HN.out; have := HM.out; have := HNM.out; omega)).symm, 0, rfl⟩
set_option maxHeartbeats 1000000 in
theorem rsame_any (A B : Option Addr) (n m c d : Nat) (rs ss : List Row) (w : World) (hn : rs.length = n) (hm : ss.length = m) (bn : n ≤ 9223372036854775807) (bm : m ≤ 9223372036854775807) (ha : RdR w A rs) (hb : RdR w B ss) :
    Calls Tryd.prog 21 #[.slice A n c, .slice B m d] w fun e w' => e = .returned (.bool (eqR (lsOf rs) (lsOf ss))) ∧ ∃ q, w' = w.drewN q := by
  have HN := Lib.hid (hn ▸ lsOf_len rs : (lsOf rs).length = n)
  have HM := Lib.hid (hm ▸ lsOf_len ss : (lsOf ss).length = m)
  have HA := Lib.hid ha
  have HB := Lib.hid hb
  have HN' := Lib.hid hn
  have HM' := Lib.hid hm
  clear hn hm ha hb
  by_cases hnm : n = m
  · subst hnm
    go_enter Tryd.func21, Tryd.ntmps21
    go_wp2
    go_loopw [5] (fun i wr => ∃ k q : Nat, k ≤ n ∧ i = .int .i64 k ∧ wr = w.drewN q ∧ Hid ((lsOf rs).take k = (lsOf ss).take k)) (fun i _ => n - (intOf i).toNat)
    case atStart => exact ⟨0, 0, Nat.zero_le _, rfl, rfl, by simp [Hid]⟩
    case round =>
      obtain ⟨k, q, hk, rfl, rfl, HT⟩ := hrel
      by_cases hlt : k < n
      · obtain ⟨b, off, Ar, cr, x, nx, rfl, hbb, hca, hxl, hra, hxb, hxt, -⟩ := HA.out.at (k := k) (by have := HN'.out; omega)
        obtain ⟨b', off', Br, dr, y, ny, rfl, hbb', hcb, hyl, hrb, hyb, hyt, -⟩ := HB.out.at (k := k) (by have := HM'.out; omega)
        have HX := Lib.hid hxt
        have HY := Lib.hid hyt
        have hk0 : (0 : Int) ≤ (k : Int) := by omega
        have hk1 : (k : Int) < (n : Int) := by omega
        have hcall := fun p : Nat => one_any Ar Br nx ny cr dr x y (w.drewN p) hxl hyl hxb hyb hra hrb
        have HE := Lib.hid (rfl : eqS x y = eqS x y)
        generalize heq : eqS x y = t at *
        have HXY := Lib.hid heq
        clear hxt hyt hra hrb hxl hyl heq HE
        cases t
        · go_wp2
          go_quiet ((go_at_call 16; exact quiet_add' (hcall _)))
          go_wp2
          go_ret
          exact ⟨ret_bool (eqR_no HX.out HY.out HXY.out).symm, _, drew_two _ _ _⟩
        · go_wp2
          go_quiet ((go_at_call 16; exact quiet_add' (hcall _)))
          go_wp2
          go_roundw
          case rel => exact ⟨k + 1, _, by omega, by go_num, by first | rfl | exact drew_two _ _ _, by show _ = _; rw [HX.out, HY.out, HT.out]; have := HXY.out; simp only [eqS, decide_eq_true_eq] at this; rw [this]⟩
          case measure => simp [intOf]; omega
      · go_wp2
        go_ret
        obtain rfl : k = n := by omega
        exact ⟨ret_bool (eqR_yes HN.out HM.out HT.out).symm, _, rfl⟩
  · have e1 : ((n : Int) != (m : Int)) = true := by simp; omega
    have e2 : (n != m) = true := by simp; omega
    have HNM := Lib.hid hnm
    clear hnm
    go_enter Tryd.func21, Tryd.ntmps21
    go_wp2
    go_ret
    exact ⟨ret_bool (eqR_len (by have := HN.out; have := HM.out; have := HNM.out; omega)).symm, 0, rfl⟩
end Go.Proofs.YthbhbjfmlmgeeaaDoor
