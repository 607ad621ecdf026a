/- Are two lists the same? -/
import Derived.Test.YtpomaabkgbaikaaDoorIs
namespace Go.Proofs.YtpomaabkgbaikaaDoor
open Go Go.RowKit
deriving instance DecidableEq for En
theorem bytes_dec (a b : ByteArray) : (a.toList == b.toList) = decide (a = b) := by
  by_cases h : a = b
  · subst h
    rw [bytes_eq]; simp
  · rw [bytes_ne h]; simp [h]
theorem cmp_any (p q : En) (W : World) : (binOp BinOp.neq 49 (.agg #[.string p.key, .string p.script]) (.agg #[.string q.key, .string q.script])).run Tryd.prog W = .ok (.bool (!decide (p = q))) W := by
  have h1 := bytes_dec p.key q.key
  have h2 := bytes_dec p.script q.script
  have h3 : decide (p = q) = (decide (p.key = q.key) && decide (p.script = q.script)) := by
    cases p; cases q
    simp
  rw [h3]
  simp [go_sem, h1, h2]
  by_cases e1 : p.key = q.key <;> by_cases e2 : p.script = q.script <;> simp [e1, e2]
theorem take_eq_next {a b : List En} {k : Nat} (ha : k < a.length) (hb : k < b.length) (h : a.take k = b.take k) (he : a[k] = b[k]) : a.take (k + 1) = b.take (k + 1) := by
  rw [List.take_succ_eq_append_getElem ha, List.take_succ_eq_append_getElem hb, h, he]
set_option maxRecDepth 100000 in
set_option maxHeartbeats 8000000 in
theorem entries_any (A B : Option Addr) (c d : Nat) (a b : List En) (w : World) (ha : RdE w A a) (hb : RdE w B b) (la : a.length ≤ 1000000) (lb : b.length ≤ 1000000) :
    Calls Tryd.prog 22 #[.slice A a.length c, .slice B b.length d] w fun e w' => e = .returned (.bool (decide (a = b))) ∧ Below w.heap.size w w' := by
  have HA := Lib.hid ha
  have HB := Lib.hid hb
  clear ha hb
  go_enter Tryd.func22, Tryd.ntmps22
  by_cases hl : a.length = b.length
  rotate_left
  · have h1 : (a.length == b.length) = false := by simpa using hl
    have h2 : decide ((a.length : Int) = (b.length : Int)) = false := decide_eq_false (by omega)
    have h3 : decide (a = b) = false := decide_eq_false (fun e => hl (by rw [e]))
    have HD := Lib.hid h3
    clear h3
    go_wp2_with fail
    go_ret
    exact ⟨by rw [HD.out]; rfl, Below.refl _ _⟩
  obtain ⟨n, hn⟩ : ∃ n, b.length = n := ⟨_, rfl⟩
  have HLA := Lib.hid (hl.trans hn)
  have HLB := Lib.hid hn
  rw [hl.trans hn, hn]
  rw [hl.trans hn] at la
  clear hl hn lb
  go_wp2_with fail
  go_loopw [5] (fun i wr => ∃ k : Nat, k ≤ n ∧ i = .int .i64 k ∧ Hid (a.take k = b.take k) ∧ Hid (Below w.heap.size w wr)) (fun i _ => n - (intOf i).toNat)
  case atStart => exact ⟨0, Nat.zero_le _, rfl, Lib.hid rfl, Lib.hid (Below.refl _ _)⟩
  case round =>
    obtain ⟨k, hk, rfl, HE, HBL⟩ := hrel
    by_cases hlt : k < n
    rotate_left
    · have d1 : decide (k < n) = false := decide_eq_false hlt
      have HD : Hid (decide (a = b) = true) := Lib.hid (decide_eq_true (by
        have h1 := HE.out
        rwa [List.take_of_length_le (by have := HLA.out; omega), List.take_of_length_le (by have := HLB.out; omega)] at h1))
      go_wp2_with fail
      go_ret
      exact ⟨by rw [HD.out]; rfl, HBL.out⟩
    have d1 : decide (k < n) = true := decide_eq_true hlt
    have hk0 : (0 : Int) ≤ (k : Int) := by omega
    have hkl : (k : Int) < (n : Int) := by omega
    have hka : k < a.length := by have := HLA.out; omega
    have hkb : k < b.length := by have := HLB.out; omega
    obtain ⟨b1, o1, hA, -, x0, x1⟩ := (HA.out.below HBL.out).at hka
    obtain ⟨b2, o2, hB, -, y0, y1⟩ := (HB.out.below HBL.out).at hkb
    subst hA
    subst hB
    have HNX := Lib.hid (fun h : a[k] = b[k] => take_eq_next hka hkb HE.out h)
    have HNE : Hid (a[k] ≠ b[k] → decide (a = b) = false) := Lib.hid (fun h => decide_eq_false (fun e => h (by subst e; rfl)))
    obtain ⟨p, hp⟩ : ∃ p, a[k] = p := ⟨_, rfl⟩
    obtain ⟨q, hq⟩ : ∃ p, b[k] = p := ⟨_, rfl⟩
    rw [hp] at x0 x1 HNX HNE
    rw [hq] at y0 y1 HNX HNE
    have hcm := fun W => cmp_any p q W
    clear hp hq hka hkb
    by_cases he : p = q
    · have HN := Lib.hid (HNX.out he)
      have e1 : decide (p = q) = true := decide_eq_true he
      rw [e1] at hcm
      clear he e1 HNX HNE
      go_wp2_with fail
      go_quiet (fail)
      generalize nq = q1
      have HB6 := Lib.hid (below_any q1 HBL.out)
      clear HBL x0 x1 y0 y1 hcm
      generalize wr.drewN q1 = w6 at *
      go_wp2_with fail
      go_roundw
      case rel => exact ⟨k + 1, by omega, by go_num, HN, HB6⟩
      case measure => simp [intOf]; omega
    · have HD := Lib.hid (HNE.out he)
      have e1 : decide (p = q) = false := decide_eq_false he
      rw [e1] at hcm
      clear he e1 HNX HNE
      go_wp2_with fail
      go_quiet (fail)
      generalize nq = q1
      have HB6 := Lib.hid (below_any q1 HBL.out)
      clear HBL x0 x1 y0 y1 hcm
      generalize wr.drewN q1 = w6 at *
      go_wp2_with fail
      go_ret
      exact ⟨by rw [HD.out]; rfl, HB6.out⟩
end Go.Proofs.YtpomaabkgbaikaaDoor
