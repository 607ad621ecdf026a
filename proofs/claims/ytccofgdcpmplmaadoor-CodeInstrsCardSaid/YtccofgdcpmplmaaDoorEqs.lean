/- Are two lists the same? -/
import Derived.Test.YtccofgdcpmplmaaDoorData
import Derived.Deep.RegionHeld3
namespace Go.Proofs.YtccofgdcpmplmaaDoor
open Go Go.RowKit
theorem bytes_dec (a b : ByteArray) : (a.toList == b.toList) = decide (a = b) := by
  by_cases h : a = b
  · subst h
    rw [bytes_eq]; simp
  · rw [bytes_ne h]; simp [h]
theorem cmp_ins (p q : Ins) (W : World) : (binOp BinOp.neq 37 (.agg p.vals) (.agg q.vals)).run Tryd.prog W = .ok (.bool (!decide (p = q))) W := by
  have h3 : decide (p = q) = (decide (p.op = q.op) && decide (p.a = q.a) && decide (p.b = q.b) && decide (p.c = q.c)) := by
    cases p; cases q
    simp [Bool.and_assoc]
  rw [h3]
  simp [go_sem]
  by_cases e1 : p.op = q.op <;> by_cases e2 : p.a = q.a <;> by_cases e3 : p.b = q.b <;> by_cases e4 : p.c = q.c <;> simp [e1, e2, e3, e4]
theorem cmp_int (p q : Int) (W : World) : (binOp BinOp.neq 2 (.int .i64 p) (.int .i64 q)).run Tryd.prog W = .ok (.bool (!decide (p = q))) W := by
  simp [go_sem]
  by_cases e1 : p = q <;> simp [e1]
theorem cmp_str (p q : ByteArray) (W : World) : (binOp BinOp.neq 9 (.string p) (.string q)).run Tryd.prog W = .ok (.bool (!decide (p = q))) W := by
  have h1 := bytes_dec p q
  simp [go_sem, h1]
theorem take_eq_next {α : Type} {a b : List α} {k : Nat} (ha : k < a.length) (hb : k < b.length) (h : a.take k = b.take k) (he : a[k] = b[k]) : a.take (k + 1) = b.take (k + 1) := by
  rw [List.take_succ_eq_append_getElem ha, List.take_succ_eq_append_getElem hb, h, he]
set_option maxRecDepth 100000 in
set_option maxHeartbeats 8000000 in
theorem eqi_any (A B : Option Addr) (c d : Nat) (a b : List Ins) (w : World) (ha : RdI w A a) (hb : RdI w B b) (la : a.length ≤ 1000000000000) (lb : b.length ≤ 1000000000000) :
    Calls Tryd.prog 21 #[.slice A a.length c, .slice B b.length d] w fun e w' => e = .returned (.bool (decide (a = b))) ∧ Below w.heap.size w w' := by
  have HA := Lib.hid ha
  have HB := Lib.hid hb
  clear ha hb
  go_enter Tryd.func21, Tryd.ntmps21
  by_cases hl : a.length = b.length
  rotate_left
  · have h1 : (a.length == b.length) = false := by simpa using hl
    have h2 : decide ((a.length : Int) = (b.length : Int)) = false := decide_eq_false (by omega)
    have h3 : decide (a = b) = false := decide_eq_false (fun e => hl (by rw [e]))
    have HD := Lib.hid h3
    clear h3
    go_wp2_with fail
    go_ret
    exact ⟨by rw [HD.out]; rfl, Below.refl _ _⟩
  obtain ⟨n, hn⟩ : ∃ n, b.length = n := ⟨_, rfl⟩
  have HLA := Lib.hid (hl.trans hn)
  have HLB := Lib.hid hn
  rw [hl.trans hn, hn]
  rw [hl.trans hn] at la
  clear hl hn lb
  go_wp2_with fail
  go_loopw [13] (fun i wr => ∃ k : Nat, k ≤ n ∧ i = .int .i64 k ∧ Hid (a.take k = b.take k) ∧ Hid (Below w.heap.size w wr)) (fun i _ => n - (intOf i).toNat)
  case atStart => exact ⟨0, Nat.zero_le _, rfl, Lib.hid rfl, Lib.hid (Below.refl _ _)⟩
  case round =>
    obtain ⟨k, hk, rfl, HE, HBL⟩ := hrel
    by_cases hlt : k < n
    rotate_left
    · have d1 : decide (k < n) = false := decide_eq_false hlt
      have HD : Hid (decide (a = b) = true) := Lib.hid (decide_eq_true (by
        have h1 := HE.out
        rwa [List.take_of_length_le (by have := HLA.out; omega), List.take_of_length_le (by have := HLB.out; omega)] at h1))
      go_wp2_with fail
      go_ret
      exact ⟨by rw [HD.out]; rfl, HBL.out⟩
    have d1 : decide (k < n) = true := decide_eq_true hlt
    have hk0 : (0 : Int) ≤ (k : Int) := by omega
    have hkl : (k : Int) < (n : Int) := by omega
    have hka : k < a.length := by have := HLA.out; omega
    have hkb : k < b.length := by have := HLB.out; omega
    obtain ⟨b1, o1, hA, -, x0, x1, x2, x3⟩ := (HA.out.below HBL.out).at hka
    obtain ⟨b2, o2, hB, -, y0, y1, y2, y3⟩ := (HB.out.below HBL.out).at hkb
    subst hA
    subst hB
    have HNX := Lib.hid (fun h : a[k] = b[k] => take_eq_next hka hkb HE.out h)
    have HNE : Hid (a[k] ≠ b[k] → decide (a = b) = false) := Lib.hid (fun h => decide_eq_false (fun e => h (by subst e; rfl)))
    obtain ⟨p, hp⟩ : ∃ p, a[k] = p := ⟨_, rfl⟩
    obtain ⟨q, hq⟩ : ∃ p, b[k] = p := ⟨_, rfl⟩
    rw [hp] at x0 x1 x2 x3 HNX HNE
    rw [hq] at y0 y1 y2 y3 HNX HNE
    have hcm := fun W => cmp_ins p q W
    clear hp hq hka hkb
    by_cases he : p = q
    · have HN := Lib.hid (HNX.out he)
      have e1 : decide (p = q) = true := decide_eq_true he
      rw [e1] at hcm
      clear he e1 HNX HNE
      go_wp2_with fail
      go_quiet (fail)
      generalize nq = q1
      have HB6 := Lib.hid (below_any q1 HBL.out)
      clear HBL x0 x1 x2 x3 y0 y1 y2 y3 hcm
      generalize wr.drewN q1 = w6 at *
      go_wp2_with fail
      go_roundw
      case rel => exact ⟨k + 1, by omega, by go_num, HN, HB6⟩
      case measure => simp [intOf]; omega
    · have HD := Lib.hid (HNE.out he)
      have e1 : decide (p = q) = false := decide_eq_false he
      rw [e1] at hcm
      clear he e1 HNX HNE
      go_wp2_with fail
      go_quiet (fail)
      generalize nq = q1
      have HB6 := Lib.hid (below_any q1 HBL.out)
      clear HBL x0 x1 x2 x3 y0 y1 y2 y3 hcm
      generalize wr.drewN q1 = w6 at *
      go_wp2_with fail
      go_ret
      exact ⟨by rw [HD.out]; rfl, HB6.out⟩
set_option maxRecDepth 100000 in
set_option maxHeartbeats 8000000 in
theorem eqz_any (A B : Option Addr) (c d : Nat) (a b : List Int) (w : World) (ha : RdV w A (intsV a)) (hb : RdV w B (intsV b)) (la : a.length ≤ 1000000000000) (lb : b.length ≤ 1000000000000) :
    Calls Tryd.prog 23 #[.slice A a.length c, .slice B b.length d] w fun e w' => e = .returned (.bool (decide (a = b))) ∧ Below w.heap.size w w' := by
  have HA := Lib.hid ha
  have HB := Lib.hid hb
  clear ha hb
  go_enter Tryd.func23, Tryd.ntmps23
  by_cases hl : a.length = b.length
  rotate_left
  · have h1 : (a.length == b.length) = false := by simpa using hl
    have h2 : decide ((a.length : Int) = (b.length : Int)) = false := decide_eq_false (by omega)
    have h3 : decide (a = b) = false := decide_eq_false (fun e => hl (by rw [e]))
    have HD := Lib.hid h3
    clear h3
    go_wp2_with fail
    go_ret
    exact ⟨by rw [HD.out]; rfl, Below.refl _ _⟩
  obtain ⟨n, hn⟩ : ∃ n, b.length = n := ⟨_, rfl⟩
  have HLA := Lib.hid (hl.trans hn)
  have HLB := Lib.hid hn
  rw [hl.trans hn, hn]
  rw [hl.trans hn] at la
  clear hl hn lb
  go_wp2_with fail
  go_loopw [13] (fun i wr => ∃ k : Nat, k ≤ n ∧ i = .int .i64 k ∧ Hid (a.take k = b.take k) ∧ Hid (Below w.heap.size w wr)) (fun i _ => n - (intOf i).toNat)
  case atStart => exact ⟨0, Nat.zero_le _, rfl, Lib.hid rfl, Lib.hid (Below.refl _ _)⟩
  case round =>
    obtain ⟨k, hk, rfl, HE, HBL⟩ := hrel
    by_cases hlt : k < n
    rotate_left
    · have d1 : decide (k < n) = false := decide_eq_false hlt
      have HD : Hid (decide (a = b) = true) := Lib.hid (decide_eq_true (by
        have h1 := HE.out
        rwa [List.take_of_length_le (by have := HLA.out; omega), List.take_of_length_le (by have := HLB.out; omega)] at h1))
      go_wp2_with fail
      go_ret
      exact ⟨by rw [HD.out]; rfl, HBL.out⟩
    have d1 : decide (k < n) = true := decide_eq_true hlt
    have hk0 : (0 : Int) ≤ (k : Int) := by omega
    have hkl : (k : Int) < (n : Int) := by omega
    have hka : k < a.length := by have := HLA.out; omega
    have hkb : k < b.length := by have := HLB.out; omega
    obtain ⟨b1, o1, hA, -, x0⟩ := rdZ_at (HA.out.below HBL.out) hka
    obtain ⟨b2, o2, hB, -, y0⟩ := rdZ_at (HB.out.below HBL.out) hkb
    subst hA
    subst hB
    have HNX := Lib.hid (fun h : a[k] = b[k] => take_eq_next hka hkb HE.out h)
    have HNE : Hid (a[k] ≠ b[k] → decide (a = b) = false) := Lib.hid (fun h => decide_eq_false (fun e => h (by subst e; rfl)))
    obtain ⟨p, hp⟩ : ∃ p, a[k] = p := ⟨_, rfl⟩
    obtain ⟨q, hq⟩ : ∃ p, b[k] = p := ⟨_, rfl⟩
    rw [hp] at x0 HNX HNE
    rw [hq] at y0 HNX HNE
    have hcm := fun W => cmp_int p q W
    clear hp hq hka hkb
    by_cases he : p = q
    · have HN := Lib.hid (HNX.out he)
      have e1 : decide (p = q) = true := decide_eq_true he
      rw [e1] at hcm
      have e2 : (p == q) = true := by simpa using he
      have e3 : (p != q) = false := by simpa using he
      clear he e1 HNX HNE
      go_wp2_with fail
      go_quiet (fail)
      generalize nq = q1
      have HB6 := Lib.hid (below_any q1 HBL.out)
      clear HBL x0 y0 hcm
      generalize wr.drewN q1 = w6 at *
      go_wp2_with fail
      go_roundw
      case rel => exact ⟨k + 1, by omega, by go_num, HN, HB6⟩
      case measure => simp [intOf]; omega
    · have HD := Lib.hid (HNE.out he)
      have e1 : decide (p = q) = false := decide_eq_false he
      rw [e1] at hcm
      have e2 : (p == q) = false := by simpa using he
      have e3 : (p != q) = true := by simpa using he
      clear he e1 HNX HNE
      go_wp2_with fail
      go_quiet (fail)
      generalize nq = q1
      have HB6 := Lib.hid (below_any q1 HBL.out)
      clear HBL x0 y0 hcm
      generalize wr.drewN q1 = w6 at *
      go_wp2_with fail
      go_ret
      exact ⟨by rw [HD.out]; rfl, HB6.out⟩
set_option maxRecDepth 100000 in
set_option maxHeartbeats 8000000 in
theorem eqs_any (A B : Option Addr) (c d : Nat) (a b : List ByteArray) (w : World) (ha : RdV w A (cellsS a)) (hb : RdV w B (cellsS b)) (la : a.length ≤ 1000000000000) (lb : b.length ≤ 1000000000000) :
    Calls Tryd.prog 24 #[.slice A a.length c, .slice B b.length d] w fun e w' => e = .returned (.bool (decide (a = b))) ∧ Below w.heap.size w w' := by
  have HA := Lib.hid ha
  have HB := Lib.hid hb
  clear ha hb
  go_enter Tryd.func24, Tryd.ntmps24
  by_cases hl : a.length = b.length
  rotate_left
  · have h1 : (a.length == b.length) = false := by simpa using hl
    have h2 : decide ((a.length : Int) = (b.length : Int)) = false := decide_eq_false (by omega)
    have h3 : decide (a = b) = false := decide_eq_false (fun e => hl (by rw [e]))
    have HD := Lib.hid h3
    clear h3
    go_wp2_with fail
    go_ret
    exact ⟨by rw [HD.out]; rfl, Below.refl _ _⟩
  obtain ⟨n, hn⟩ : ∃ n, b.length = n := ⟨_, rfl⟩
  have HLA := Lib.hid (hl.trans hn)
  have HLB := Lib.hid hn
  rw [hl.trans hn, hn]
  rw [hl.trans hn] at la
  clear hl hn lb
  go_wp2_with fail
  go_loopw [13] (fun i wr => ∃ k : Nat, k ≤ n ∧ i = .int .i64 k ∧ Hid (a.take k = b.take k) ∧ Hid (Below w.heap.size w wr)) (fun i _ => n - (intOf i).toNat)
  case atStart => exact ⟨0, Nat.zero_le _, rfl, Lib.hid rfl, Lib.hid (Below.refl _ _)⟩
  case round =>
    obtain ⟨k, hk, rfl, HE, HBL⟩ := hrel
    by_cases hlt : k < n
    rotate_left
    · have d1 : decide (k < n) = false := decide_eq_false hlt
      have HD : Hid (decide (a = b) = true) := Lib.hid (decide_eq_true (by
        have h1 := HE.out
        rwa [List.take_of_length_le (by have := HLA.out; omega), List.take_of_length_le (by have := HLB.out; omega)] at h1))
      go_wp2_with fail
      go_ret
      exact ⟨by rw [HD.out]; rfl, HBL.out⟩
    have d1 : decide (k < n) = true := decide_eq_true hlt
    have hk0 : (0 : Int) ≤ (k : Int) := by omega
    have hkl : (k : Int) < (n : Int) := by omega
    have hka : k < a.length := by have := HLA.out; omega
    have hkb : k < b.length := by have := HLB.out; omega
    obtain ⟨b1, o1, hA, -, x0⟩ := rdS_at (HA.out.below HBL.out) hka
    obtain ⟨b2, o2, hB, -, y0⟩ := rdS_at (HB.out.below HBL.out) hkb
    subst hA
    subst hB
    have HNX := Lib.hid (fun h : a[k] = b[k] => take_eq_next hka hkb HE.out h)
    have HNE : Hid (a[k] ≠ b[k] → decide (a = b) = false) := Lib.hid (fun h => decide_eq_false (fun e => h (by subst e; rfl)))
    obtain ⟨p, hp⟩ : ∃ p, a[k] = p := ⟨_, rfl⟩
    obtain ⟨q, hq⟩ : ∃ p, b[k] = p := ⟨_, rfl⟩
    rw [hp] at x0 HNX HNE
    rw [hq] at y0 HNX HNE
    have hcm := fun W => cmp_str p q W
    clear hp hq hka hkb
    by_cases he : p = q
    · have HN := Lib.hid (HNX.out he)
      have e1 : decide (p = q) = true := decide_eq_true he
      rw [e1] at hcm
      have e2 : (p.toList == q.toList) = true := by rw [he]; exact bytes_eq q
      have e3 : (p == q) = true := by rw [he]; exact (by show (q.data == q.data) = true; simp)
      clear he e1 HNX HNE
      go_wp2_with fail
      go_quiet (fail)
      generalize nq = q1
      have HB6 := Lib.hid (below_any q1 HBL.out)
      clear HBL x0 y0 hcm
      generalize wr.drewN q1 = w6 at *
      go_wp2_with fail
      go_roundw
      case rel => exact ⟨k + 1, by omega, by go_num, HN, HB6⟩
      case measure => simp [intOf]; omega
    · have HD := Lib.hid (HNE.out he)
      have e1 : decide (p = q) = false := decide_eq_false he
      rw [e1] at hcm
      have e2 : (p.toList == q.toList) = false := bytes_ne he
      clear he e1 HNX HNE
      go_wp2_with fail
      go_quiet (fail)
      generalize nq = q1
      have HB6 := Lib.hid (below_any q1 HBL.out)
      clear HBL x0 y0 hcm
      generalize wr.drewN q1 = w6 at *
      go_wp2_with fail
      go_ret
      exact ⟨by rw [HD.out]; rfl, HB6.out⟩
end Go.Proofs.YtccofgdcpmplmaaDoor
