/- Two texts, which is less. -/
import Derived.Test.YthbnhplkoomdhaaDoorRefF
import Derived.Test.YthbnhplkoomdhaaDoorOpBad
import Derived.Test.YthbnhplkoomdhaaDoorRefChk
namespace Go.Proofs.YthbnhplkoomdhaaDoor
open Go Go.RowKit
theorem less_same (a : UInt8) (x y : List UInt8) : Op.bytesLess (a :: x) (a :: y) = Op.bytesLess x y := by simp [Op.bytesLess]
theorem less_step (l l' : List UInt8) (k : Nat) (h1 : k < l.length) (h2 : k < l'.length) (he : l[k] = l'[k]) : Op.bytesLess (l.drop k) (l'.drop k) = Op.bytesLess (l.drop (k + 1)) (l'.drop (k + 1)) := by
  rw [List.drop_eq_getElem_cons h1, List.drop_eq_getElem_cons h2, he, less_same]
theorem less_diff (l l' : List UInt8) (k : Nat) (h1 : k < l.length) (h2 : k < l'.length) (he : l[k] ≠ l'[k]) : Op.bytesLess (l.drop k) (l'.drop k) = decide (l[k] < l'[k]) := by
  rw [List.drop_eq_getElem_cons h1, List.drop_eq_getElem_cons h2]
  simp [Op.bytesLess, he]
theorem less_end (l l' : List UInt8) (k : Nat) (h1 : k ≤ l.length) (h2 : k ≤ l'.length) (he : k = l.length ∨ k = l'.length) : Op.bytesLess (l.drop k) (l'.drop k) = decide (l.length < l'.length) := by
  by_cases e : k = l'.length
  · rw [List.drop_eq_nil_of_le (by omega : l'.length ≤ k)]
    have : ¬ l.length < l'.length := by omega
    simp only [this, decide_false]
    cases l.drop k <;> rfl
  · obtain rfl : k = l.length := by omega
    rw [List.drop_eq_nil_of_le (Nat.le_refl l.length)]
    have : l.length < l'.length := by omega
    simp only [this, decide_true]
    rw [List.drop_eq_getElem_cons (by omega)]
    rfl
theorem drewn1 (w : World) (a b : Nat) : (w.drewN a).drewN b = w.drewN (a + b) := by simp [World.drewN, Nat.add_assoc]
theorem drewn2 (w : World) (a b c : Nat) : ∃ n, ((w.drewN a).drewN b).drewN c = w.drewN n := ⟨a + b + c, by simp [World.drewN, Nat.add_assoc]⟩
set_option maxRecDepth 10000 in
set_option maxHeartbeats 1000000 in
theorem less_any (t t' : Array UInt8) (w : World) (hs : t.size ≤ 2000) (hs' : t'.size ≤ 2000) :
    Calls Tryd.prog 25 #[.string { data := t }, .string { data := t' }] w fun e w' => e = .returned (.bool (Op.bytesLess t.toList t'.toList)) ∧ ∃ n, w' = w.drewN n := by
  go_enter Tryd.func25, Tryd.ntmps25
  go_wp2
  go_loopw [5] (fun i wr => ∃ k : Nat, k ≤ t.size ∧ k ≤ t'.size ∧ i = .int .i64 k ∧ Hid (Op.bytesLess t.toList t'.toList = Op.bytesLess (t.toList.drop k) (t'.toList.drop k)) ∧ ∃ m, wr = w.drewN m) (fun i _ => t.size - (intOf i).toNat)
  case atStart => exact ⟨0, Nat.zero_le _, Nat.zero_le _, rfl, Lib.hid rfl, 0, rfl⟩
  case round =>
    obtain ⟨k, hk, hk', rfl, HA, m, rfl⟩ := hrel
    by_cases h1 : k < t.size
    · have d1 : decide ((k : Int) < (t.size : Int)) = true := by simp; omega
      by_cases h2 : k < t'.size
      · have d2 : decide ((k : Int) < (t'.size : Int)) = true := by simp; omega
        have el : t[k] = t.toList[k]'(by simpa using h1) := by simp
        have el' : t'[k] = t'.toList[k]'(by simpa using h2) := by simp
        by_cases he : t[k] = t'[k]
        · have d3 : ((((ByteArray.mk t)[k]'h1).toNat : Int) != (((ByteArray.mk t')[k]'h2).toNat : Int)) = false := by
            show ((t[k].toNat : Int) != (t'[k].toNat : Int)) = false
            rw [he]
            simp
          have HB := Lib.hid (HA.out.trans (less_step t.toList t'.toList k (by simpa using h1) (by simpa using h2) (by rw [← el, ← el', he])))
          clear el el' he
          go_wp2_with fail
          go_quiet (fail)
          go_wp2_with fail
          exact ⟨⟨k + 1, by omega, by omega, by simp, HB, _, rfl⟩, by simp [intOf]; omega⟩
        · have d3 : ((((ByteArray.mk t)[k]'h1).toNat : Int) != (((ByteArray.mk t')[k]'h2).toNat : Int)) = true := by
            show ((t[k].toNat : Int) != (t'[k].toNat : Int)) = true
            have : t[k].toNat ≠ t'[k].toNat := fun h => he (UInt8.toNat_inj.1 h)
            simp
            omega
          have HB := Lib.hid (HA.out.trans (less_diff t.toList t'.toList k (by simpa using h1) (by simpa using h2) (by rw [← el, ← el']; exact he)))
          have HC : decide (((t.toList[k]'(by simpa using h1) : UInt8)) < (t'.toList[k]'(by simpa using h2))) = decide ((((ByteArray.mk t)[k]'h1).toNat : Int) < (((ByteArray.mk t')[k]'h2).toNat : Int)) := by
            rw [← el, ← el']
            show decide (t[k] < t'[k]) = decide ((t[k].toNat : Int) < (t'[k].toNat : Int))
            rw [decide_eq_decide, UInt8.lt_iff_toNat_lt]
            omega
          have HD := Lib.hid (HB.out.trans HC)
          clear HB HC el el' he
          go_wp2_with fail
          go_quiet (fail)
          go_wp2_with fail
          go_quiet (fail)
          go_wp2_with fail
          go_ret
          exact ⟨ret_b (by rw [HD.out]; rw [decide_eq_decide]; omega), drewn2 _ _ _ _⟩
      · have d2 : decide ((k : Int) < (t'.size : Int)) = false := by simp; omega
        have HB := HA.out.trans (less_end t.toList t'.toList k (by simpa using hk) (by simpa using hk') (.inr (by simp; omega)))
        go_wp2_with fail
        go_ret
        exact ⟨ret_b (by rw [HB]; simp), _, rfl⟩
    · have d1 : decide ((k : Int) < (t.size : Int)) = false := by simp; omega
      have HB := HA.out.trans (less_end t.toList t'.toList k (by simpa using hk) (by simpa using hk') (.inl (by simp; omega)))
      go_wp2_with fail
      go_ret
      exact ⟨ret_b (by rw [HB]; simp), _, rfl⟩
end Go.Proofs.YthbnhplkoomdhaaDoor
