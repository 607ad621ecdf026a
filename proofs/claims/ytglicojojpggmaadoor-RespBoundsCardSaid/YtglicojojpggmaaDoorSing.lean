/- A text that may stand in a line. -/
import Derived.Test.YtglicojojpggmaaDoorRep
import Derived.Test.YtglicojojpggmaaDoorRParse
namespace Go.Proofs.YtglicojojpggmaaDoor
open Go Go.RowKit
def plainB (x : UInt8) : Bool := x.toNat != 13 && x.toNat != 10
/-- May a text stand in a line? -/
def lineB (l : List UInt8) : Bool := l.all plainB
theorem lineB_cut {l : List UInt8} {k : Nat} (h : lineB (l.take k) = true) (hk : k < l.length) (hx : plainB l[k] = false) : lineB l = false := by
  cases hl : lineB l with
  | false => rfl
  | true =>
    have := List.all_eq_true.1 hl l[k] (List.getElem_mem hk)
    rw [hx] at this
    exact this.symm
theorem lineB_next {l : List UInt8} {k : Nat} (h : lineB (l.take k) = true) (hk : k < l.length) (hx : plainB l[k] = true) : lineB (l.take (k + 1)) = true := by
  unfold lineB at *
  rw [List.take_succ_eq_append_getElem hk, List.all_append, h]
  simp [hx]
set_option maxRecDepth 100000 in
set_option maxHeartbeats 4000000 in
theorem single_any (t : ByteArray) (w : World) (ht : t.size ≤ 140737488355328) : Calls Tryd.prog 72 #[.string t] w fun e w' => e = .returned (.bool (lineB (bl t))) ∧ w' = w := by
  have HL := Lib.hid (bl_len t)
  go_enter Tryd.func72, Tryd.ntmps72
  go_wp2_with fail
  go_loop [6] (fun i => ∃ k : Nat, i = .int .i64 k ∧ k ≤ t.size ∧ Hid (lineB ((bl t).take k) = true)) (fun i => t.size - (intOf i).toNat)
  case atStart => exact ⟨0, rfl, Nat.zero_le _, rfl⟩
  case round =>
    obtain ⟨k, rfl, hk, HB⟩ := hrel
    by_cases hlt : k < t.size
    · have hkl : k < (bl t).length := by rw [HL.out]; exact hlt
      obtain ⟨x, hx⟩ : ∃ x, (bl t)[k] = x := ⟨_, rfl⟩
      have hb : t[k] = x := by rw [← hx]; rfl
      have HN := Lib.hid (lineB_next HB.out hkl)
      have HC := Lib.hid (lineB_cut HB.out hkl)
      rw [hx] at HN HC
      have hx8 := x.toNat_lt
      by_cases h13 : x.toNat = 13
      · have HF := Lib.hid (HC.out (by simp [plainB, h13]))
        have e1 : ((x.toNat : Int) == 13) = true := by simp; omega
        have e2 : decide ((x.toNat : Int) = 13) = true := decide_eq_true (by omega)
        have h0 := Lib.hid hb
        clear hx HN HC h13
        subst hb
        go_wp2_with fail
        go_ret
        exact ⟨by rw [HF.out]; rfl, rfl⟩
      · have e1 : ((x.toNat : Int) == 13) = false := by simp; omega
        have e2 : decide ((x.toNat : Int) = 13) = false := decide_eq_false (by omega)
        by_cases h10 : x.toNat = 10
        · have HF := Lib.hid (HC.out (by simp [plainB, h10]))
          have e3 : ((x.toNat : Int) == 10) = true := by simp; omega
          have e4 : decide ((x.toNat : Int) = 10) = true := decide_eq_true (by omega)
          clear hx HN HC h13 h10
          subst hb
          go_wp2_with fail
          go_ret
          exact ⟨by rw [HF.out]; rfl, rfl⟩
        · have HF := Lib.hid (HN.out (by simp [plainB, h13, h10]))
          have e3 : ((x.toNat : Int) == 10) = false := by simp; omega
          have e4 : decide ((x.toNat : Int) = 10) = false := decide_eq_false (by omega)
          clear hx HN HC h13 h10
          subst hb
          go_wp2_with fail
          go_round
          case rel => exact ⟨k + 1, by go_num, by omega, HF⟩
          case measure => simp [intOf]; omega
    · have HF : Hid (lineB (bl t) = true) := Lib.hid (by have h := HB.out; rw [List.take_of_length_le (by rw [HL.out]; omega)] at h; exact h)
      go_wp2_with fail
      go_ret
      exact ⟨by rw [HF.out]; rfl, rfl⟩
end Go.Proofs.YtglicojojpggmaaDoor
