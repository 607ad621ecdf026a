/- Two digits of 16. -/
import Derived.Test.YtccofgdcpmplmaaGreatDoorNum
import Derived.Test.YtccofgdcpmplmaaGreatDoorHxs
import Derived.Laws.BitsAllLaws
import Derived.IntWalk
namespace Go.Proofs.YtccofgdcpmplmaaGreatDoor
open Go Go.RowKit Go.Shelf
def dig (c : Nat) : Option Nat := if 48 ≤ c ∧ c ≤ 57 then some (c - 48) else if 97 ≤ (c ||| 32) ∧ (c ||| 32) ≤ 122 then (if (c ||| 32) - 87 < 16 then some ((c ||| 32) - 87) else none) else none
def valL (l : List UInt8) : Option Nat := l.foldlM (fun n c => (dig c.toNat).map (n * 16 + ·)) 0
theorem dig_lt {c d : Nat} (h : dig c = some d) : d < 16 := by
  unfold dig at h
  split at h
  · cases h; omega
  · split at h
    · split at h
      · cases h; assumption
      · cases h
    · cases h
theorem valL_next {l : List UInt8} {k n : Nat} (h : k < l.length) (hz : valL (l.take k) = some n) : valL (l.take (k + 1)) = (dig l[k].toNat).map (n * 16 + ·) := by
  unfold valL at *
  rw [List.take_succ_eq_append_getElem h, List.foldlM_append, hz]
  simp
theorem valL_none {l : List UInt8} {k : Nat} (h : valL (l.take k) = none) : valL l = none := by
  unfold valL at *
  conv => lhs; rw [← List.take_append_drop k l, List.foldlM_append, h]
  rfl
theorem or32 (c : UInt8) : bits .or .u8 (c.toNat : Int) 32 = ((c.toNat ||| 32 : Nat) : Int) := by
  rw [show (32 : Int) = ((32 : Nat) : Int) from rfl, u8_or_nat _ _ c.toNat_lt (by omega)]
theorem or32_lt (c : UInt8) : c.toNat ||| 32 < 256 := Nat.or_lt_two_pow (n := 8) c.toNat_lt (by omega)
/-- What two digits make, inside. -/
def PuI (o : Option Nat) (e : Ending) : Prop := match o with
  | some v => e = .returned (.tuple #[.int .u64 v, .nilIface])
  | none => e = .returned (.tuple #[.int .u64 0, .iface 123 (.int .i64 2)])
set_option maxRecDepth 100000 in
set_option maxHeartbeats 16000000 in
theorem pu_inner (s : ByteArray) (w : World) (hs : s.size = 2) :
    Calls Tryz.prog 79 #[.string s, .int .i64 16, .int .i64 8] w fun e w' => PuI (valL s.data.toList) e ∧ Below w.heap.size w w' := by
  have hne := empty_no (s := s) (by omega)
  obtain ⟨f, g, hcv, hrb⟩ := conv_new s
  have HRB := Lib.hid (hrb w)
  have hlen : s.data.toList.length = 2 := by rw [Array.length_toList]; exact hs
  obtain ⟨l, hl⟩ : ∃ l, s.data.toList = l := ⟨_, rfl⟩
  rw [hl] at HRB hlen ⊢
  have HLN := Lib.hid hlen
  clear hrb hl hlen
  rw [hs] at hcv
  go_enter Tryz.func79, Tryz.ntmps79
  go_wp2_with fail
  go_loopw [12, 13, 101] (fun z b i wr => ∃ k n : Nat, k ≤ 2 ∧ z = .bool false ∧ i = .int .i64 k ∧ b = .int .u64 n ∧ (k = 0 → n = 0) ∧ (k ≤ 1 → n ≤ 15) ∧ n ≤ 255 ∧ Hid (valL (l.take k) = some n) ∧ Hid (wr = g w)) (fun _ _ i _ => 2 - (intOf i).toNat)
  case atStart => exact ⟨0, 0, by omega, rfl, rfl, rfl, fun _ => rfl, fun _ => by omega, by omega, Lib.hid rfl, Lib.hid rfl⟩
  case round =>
    obtain ⟨k, n, hk, rfl, rfl, rfl, hk0, hk1, hn, HV, HWR⟩ := hrel
    have hwr : wr = g w := HWR.out
    subst hwr
    by_cases hlt : k < 2
    rotate_left
    · have HVL : Hid (valL l = some n) := Lib.hid (by
        have h1 := HV.out
        rwa [List.take_of_length_le (by have := HLN.out; omega)] at h1)
      have d1 : decide (k < 2) = false := decide_eq_false hlt
      have d2 : decide ((k : Int) < 2) = false := decide_eq_false (by omega)
      go_wp2_with fail
      go_ret2
      exact ⟨by rw [HVL.out]; rfl, HRB.out.2⟩
    have hka : k < l.length := by have := HLN.out; omega
    obtain ⟨b6, o6, hT, hb6, hcl⟩ := HRB.out.1 (by omega)
    have u0 := hcl k hka
    cases hT
    rw [Nat.zero_add] at u0
    have HNX := Lib.hid (valL_next hka HV.out)
    obtain ⟨c, hc⟩ : ∃ c, l[k] = c := ⟨_, rfl⟩
    rw [hc] at u0 HNX
    have hq := c.toNat_lt
    have hlo := or32 c
    have hll := or32_lt c
    have HDG : Hid (dig c.toNat = dig c.toNat) := Lib.hid rfl
    obtain ⟨L, hL⟩ : ∃ L, c.toNat ||| 32 = L := ⟨_, rfl⟩
    obtain ⟨C, hC⟩ : ∃ C, c.toNat = C := ⟨_, rfl⟩
    rw [hL] at hlo hll
    rw [hC] at u0 hlo hq HNX
    have hdg : dig C = if 48 ≤ C ∧ C ≤ 57 then some (C - 48) else if 97 ≤ L ∧ L ≤ 122 then (if L - 87 < 16 then some (L - 87) else none) else none := by
      rw [← hL, ← hC]
      rfl
    have HD := Lib.hid hdg
    have HLO : Hid (∀ W, Calls Tryz.prog 96 #[.int .u8 C] W fun e w' => e = .returned (.int .u8 L) ∧ w' = W) := Lib.hid (fun W => by
      have h := Go.Proofs.Tryz.internal_strconv_lower C W
      rw [hlo] at h
      exact h)
    have hn15 := hk1 (by omega)
    have hi0 : (0 : Int) ≤ (k : Int) := by omega
    have hil : (k : Int) < 2 := by omega
    have d1 : decide (k < 2) = true := decide_eq_true hlt
    have w16 : IntKind.u8.wrap 16 = 16 := by decide
    have w17 : IntKind.u64.wrap 16 = 16 := by decide
    have wn : IntKind.u64.wrap ((n : Int) * 16) = (n : Int) * 16 := by rw [IntKind.wrap_u64]; omega
    clear hdg hlo hC hL hc hcl HDG hcv HV
    by_cases c1 : 48 ≤ C ∧ C ≤ 57
    · obtain ⟨c1a, c1b⟩ := c1
      obtain ⟨d, hd⟩ : ∃ d, C - 48 = d := ⟨_, rfl⟩
      have e1 : decide ((48 : Int) ≤ (C : Int)) = true := decide_eq_true (by omega)
      have e2 : decide ((C : Int) ≤ 57) = true := decide_eq_true (by omega)
      have e3 : IntKind.u8.wrap ((C : Int) - 48) = (d : Int) := by rw [IntWalk.u8_in _ (by omega)]; omega
      have e4 : IntKind.u64.wrap (d : Int) = (d : Int) := by rw [IntKind.wrap_u64]; omega
      have e5 : IntKind.u64.wrap ((n : Int) * 16 + (d : Int)) = (n : Int) * 16 + (d : Int) := by rw [IntKind.wrap_u64]; omega
      have HNY : Hid (valL (l.take (k + 1)) = some (n * 16 + d)) := Lib.hid (by rw [HNX.out, HD.out, if_pos ⟨c1a, c1b⟩, hd]; rfl)
      have e6 : decide ((16 : Int) ≤ (d : Int)) = false := decide_eq_false (by omega)
      have e7 : decide ((1152921504606846976 : Int) ≤ (n : Int)) = false := decide_eq_false (by omega)
      have e8 : decide ((n : Int) * 16 + (d : Int) < (n : Int) * 16) = false := decide_eq_false (by omega)
      have e9 : decide ((255 : Int) < (n : Int) * 16 + (d : Int)) = false := decide_eq_false (by omega)
      have HBL : Hid (g w = g w) := Lib.hid rfl
      go_wp2_with fail
      go_roundw
      case rel =>
        refine ⟨k + 1, n * 16 + d, ?_, ?_, ?_, ?_, ?_, ?_, ?_, HNY, ?_⟩
        · omega
        · rfl
        · go_num
        · exact congrArg (Value.int .u64) (by omega)
        · intro h; omega
        · intro h; have := hk0 (by omega); omega
        · omega
        · first | exact HBL | exact Lib.hid trivial
      case measure => simp [intOf]; omega
    have a1 : (48 ≤ C ∧ ¬ C ≤ 57) ∨ ¬ 48 ≤ C := by omega
    rcases a1 with ⟨a1, a2⟩ | a1
    · have e1 : decide ((48 : Int) ≤ (C : Int)) = true := decide_eq_true (by omega)
      have e2 : decide ((C : Int) ≤ 57) = false := decide_eq_false (by omega)
      rcases Bool.eq_false_or_eq_true ((C : Int) == 95) with e0 | e0
      · have HC0 := Lib.hid True.intro
        have m1 : decide ((97 : Int) ≤ (L : Int)) = decide (97 ≤ L) := by simp; omega
        by_cases c2a : 97 ≤ L
        rotate_left
        · have m2 : decide ((97 : Int) ≤ (L : Int)) = false := decide_eq_false (by omega)
          clear m1
          have HNO : Hid (valL l = none) := Lib.hid (valL_none (k := k + 1) (by rw [HNX.out, HD.out, if_neg c1, if_neg (fun h => c2a h.1)]; rfl))
          have HC1 := Lib.hid c1
          clear c1
          go_wp2_with (go_at_call 96; refine (HLO.out _).mono ?_; rintro e w7 ⟨rfl, rfl⟩)
          go_ret2
          exact ⟨by rw [HNO.out]; rfl, HRB.out.2⟩
        have m2 : decide ((97 : Int) ≤ (L : Int)) = true := decide_eq_true (by omega)
        clear m1
        by_cases c2b : L ≤ 122
        rotate_left
        · have m3 : decide ((L : Int) ≤ 122) = false := decide_eq_false (by omega)
          have HNO : Hid (valL l = none) := Lib.hid (valL_none (k := k + 1) (by rw [HNX.out, HD.out, if_neg c1, if_neg (fun h => c2b h.2)]; rfl))
          have HC1 := Lib.hid c1
          clear c1
          go_wp2_with (go_at_call 96; refine (HLO.out _).mono ?_; rintro e w7 ⟨rfl, rfl⟩)
          go_ret2
          exact ⟨by rw [HNO.out]; rfl, HRB.out.2⟩
        have m3 : decide ((L : Int) ≤ 122) = true := decide_eq_true (by omega)
        by_cases c3 : L - 87 < 16
        · skip
          obtain ⟨d, hd⟩ : ∃ d, L - 87 = d := ⟨_, rfl⟩
          have e3 : IntKind.u8.wrap ((L : Int) - 97) = (L : Int) - 97 := IntWalk.u8_in _ (by omega)
          have e3b : IntKind.u8.wrap ((L : Int) - 97 + 10) = (d : Int) := by rw [IntWalk.u8_in _ (by omega)]; omega
          have e4 : IntKind.u64.wrap (d : Int) = (d : Int) := by rw [IntKind.wrap_u64]; omega
          have e5 : IntKind.u64.wrap ((n : Int) * 16 + (d : Int)) = (n : Int) * 16 + (d : Int) := by rw [IntKind.wrap_u64]; omega
          have HNY : Hid (valL (l.take (k + 1)) = some (n * 16 + d)) := Lib.hid (by rw [HNX.out, HD.out, if_neg c1, if_pos ⟨c2a, c2b⟩, if_pos c3, hd]; rfl)
          have e6 : decide ((16 : Int) ≤ (d : Int)) = false := decide_eq_false (by omega)
          have e7 : decide ((1152921504606846976 : Int) ≤ (n : Int)) = false := decide_eq_false (by omega)
          have e8 : decide ((n : Int) * 16 + (d : Int) < (n : Int) * 16) = false := decide_eq_false (by omega)
          have e9 : decide ((255 : Int) < (n : Int) * 16 + (d : Int)) = false := decide_eq_false (by omega)
          have HBL : Hid (g w = g w) := Lib.hid rfl
          have HC1 := Lib.hid c1
          clear c1
          go_wp2_with (go_at_call 96; refine (HLO.out _).mono ?_; rintro e w7 ⟨rfl, rfl⟩)
          go_roundw
          case rel =>
            refine ⟨k + 1, n * 16 + d, ?_, ?_, ?_, ?_, ?_, ?_, ?_, HNY, ?_⟩
            · omega
            · rfl
            · go_num
            · exact congrArg (Value.int .u64) (by omega)
            · intro h; omega
            · intro h; have := hk0 (by omega); omega
            · omega
            · first | exact HBL | exact Lib.hid trivial
          case measure => simp [intOf]; omega
        · obtain ⟨d, hd⟩ : ∃ d, L - 87 = d := ⟨_, rfl⟩
          have e3 : IntKind.u8.wrap ((L : Int) - 97) = (L : Int) - 97 := IntWalk.u8_in _ (by omega)
          have e3b : IntKind.u8.wrap ((L : Int) - 97 + 10) = (d : Int) := by rw [IntWalk.u8_in _ (by omega)]; omega
          have e6 : decide ((16 : Int) ≤ (d : Int)) = true := decide_eq_true (by omega)
          have HNO : Hid (valL l = none) := Lib.hid (valL_none (k := k + 1) (by rw [HNX.out, HD.out, if_neg c1, if_pos ⟨c2a, c2b⟩, if_neg c3]; rfl))
          have HC1 := Lib.hid c1
          clear c1
          go_wp2_with (go_at_call 96; refine (HLO.out _).mono ?_; rintro e w7 ⟨rfl, rfl⟩)
          go_ret2
          exact ⟨by rw [HNO.out]; rfl, HRB.out.2⟩
      · have HC0 := Lib.hid True.intro
        have m1 : decide ((97 : Int) ≤ (L : Int)) = decide (97 ≤ L) := by simp; omega
        by_cases c2a : 97 ≤ L
        rotate_left
        · have m2 : decide ((97 : Int) ≤ (L : Int)) = false := decide_eq_false (by omega)
          clear m1
          have HNO : Hid (valL l = none) := Lib.hid (valL_none (k := k + 1) (by rw [HNX.out, HD.out, if_neg c1, if_neg (fun h => c2a h.1)]; rfl))
          have HC1 := Lib.hid c1
          clear c1
          go_wp2_with (go_at_call 96; refine (HLO.out _).mono ?_; rintro e w7 ⟨rfl, rfl⟩)
          go_ret2
          exact ⟨by rw [HNO.out]; rfl, HRB.out.2⟩
        have m2 : decide ((97 : Int) ≤ (L : Int)) = true := decide_eq_true (by omega)
        clear m1
        by_cases c2b : L ≤ 122
        rotate_left
        · have m3 : decide ((L : Int) ≤ 122) = false := decide_eq_false (by omega)
          have HNO : Hid (valL l = none) := Lib.hid (valL_none (k := k + 1) (by rw [HNX.out, HD.out, if_neg c1, if_neg (fun h => c2b h.2)]; rfl))
          have HC1 := Lib.hid c1
          clear c1
          go_wp2_with (go_at_call 96; refine (HLO.out _).mono ?_; rintro e w7 ⟨rfl, rfl⟩)
          go_ret2
          exact ⟨by rw [HNO.out]; rfl, HRB.out.2⟩
        have m3 : decide ((L : Int) ≤ 122) = true := decide_eq_true (by omega)
        by_cases c3 : L - 87 < 16
        · skip
          obtain ⟨d, hd⟩ : ∃ d, L - 87 = d := ⟨_, rfl⟩
          have e3 : IntKind.u8.wrap ((L : Int) - 97) = (L : Int) - 97 := IntWalk.u8_in _ (by omega)
          have e3b : IntKind.u8.wrap ((L : Int) - 97 + 10) = (d : Int) := by rw [IntWalk.u8_in _ (by omega)]; omega
          have e4 : IntKind.u64.wrap (d : Int) = (d : Int) := by rw [IntKind.wrap_u64]; omega
          have e5 : IntKind.u64.wrap ((n : Int) * 16 + (d : Int)) = (n : Int) * 16 + (d : Int) := by rw [IntKind.wrap_u64]; omega
          have HNY : Hid (valL (l.take (k + 1)) = some (n * 16 + d)) := Lib.hid (by rw [HNX.out, HD.out, if_neg c1, if_pos ⟨c2a, c2b⟩, if_pos c3, hd]; rfl)
          have e6 : decide ((16 : Int) ≤ (d : Int)) = false := decide_eq_false (by omega)
          have e7 : decide ((1152921504606846976 : Int) ≤ (n : Int)) = false := decide_eq_false (by omega)
          have e8 : decide ((n : Int) * 16 + (d : Int) < (n : Int) * 16) = false := decide_eq_false (by omega)
          have e9 : decide ((255 : Int) < (n : Int) * 16 + (d : Int)) = false := decide_eq_false (by omega)
          have HBL : Hid (g w = g w) := Lib.hid rfl
          have HC1 := Lib.hid c1
          clear c1
          go_wp2_with (go_at_call 96; refine (HLO.out _).mono ?_; rintro e w7 ⟨rfl, rfl⟩)
          go_roundw
          case rel =>
            refine ⟨k + 1, n * 16 + d, ?_, ?_, ?_, ?_, ?_, ?_, ?_, HNY, ?_⟩
            · omega
            · rfl
            · go_num
            · exact congrArg (Value.int .u64) (by omega)
            · intro h; omega
            · intro h; have := hk0 (by omega); omega
            · omega
            · first | exact HBL | exact Lib.hid trivial
          case measure => simp [intOf]; omega
        · obtain ⟨d, hd⟩ : ∃ d, L - 87 = d := ⟨_, rfl⟩
          have e3 : IntKind.u8.wrap ((L : Int) - 97) = (L : Int) - 97 := IntWalk.u8_in _ (by omega)
          have e3b : IntKind.u8.wrap ((L : Int) - 97 + 10) = (d : Int) := by rw [IntWalk.u8_in _ (by omega)]; omega
          have e6 : decide ((16 : Int) ≤ (d : Int)) = true := decide_eq_true (by omega)
          have HNO : Hid (valL l = none) := Lib.hid (valL_none (k := k + 1) (by rw [HNX.out, HD.out, if_neg c1, if_pos ⟨c2a, c2b⟩, if_neg c3]; rfl))
          have HC1 := Lib.hid c1
          clear c1
          go_wp2_with (go_at_call 96; refine (HLO.out _).mono ?_; rintro e w7 ⟨rfl, rfl⟩)
          go_ret2
          exact ⟨by rw [HNO.out]; rfl, HRB.out.2⟩
    · have e1 : decide ((48 : Int) ≤ (C : Int)) = false := decide_eq_false (by omega)
      have m1 : decide ((97 : Int) ≤ (L : Int)) = decide (97 ≤ L) := by simp; omega
      by_cases c2a : 97 ≤ L
      rotate_left
      · have m2 : decide ((97 : Int) ≤ (L : Int)) = false := decide_eq_false (by omega)
        clear m1
        have HNO : Hid (valL l = none) := Lib.hid (valL_none (k := k + 1) (by rw [HNX.out, HD.out, if_neg c1, if_neg (fun h => c2a h.1)]; rfl))
        have HC1 := Lib.hid c1
        clear c1
        go_wp2_with (go_at_call 96; refine (HLO.out _).mono ?_; rintro e w7 ⟨rfl, rfl⟩)
        go_ret2
        exact ⟨by rw [HNO.out]; rfl, HRB.out.2⟩
      have m2 : decide ((97 : Int) ≤ (L : Int)) = true := decide_eq_true (by omega)
      clear m1
      by_cases c2b : L ≤ 122
      rotate_left
      · have m3 : decide ((L : Int) ≤ 122) = false := decide_eq_false (by omega)
        have HNO : Hid (valL l = none) := Lib.hid (valL_none (k := k + 1) (by rw [HNX.out, HD.out, if_neg c1, if_neg (fun h => c2b h.2)]; rfl))
        have HC1 := Lib.hid c1
        clear c1
        go_wp2_with (go_at_call 96; refine (HLO.out _).mono ?_; rintro e w7 ⟨rfl, rfl⟩)
        go_ret2
        exact ⟨by rw [HNO.out]; rfl, HRB.out.2⟩
      have m3 : decide ((L : Int) ≤ 122) = true := decide_eq_true (by omega)
      by_cases c3 : L - 87 < 16
      · skip
        obtain ⟨d, hd⟩ : ∃ d, L - 87 = d := ⟨_, rfl⟩
        have e3 : IntKind.u8.wrap ((L : Int) - 97) = (L : Int) - 97 := IntWalk.u8_in _ (by omega)
        have e3b : IntKind.u8.wrap ((L : Int) - 97 + 10) = (d : Int) := by rw [IntWalk.u8_in _ (by omega)]; omega
        have e4 : IntKind.u64.wrap (d : Int) = (d : Int) := by rw [IntKind.wrap_u64]; omega
        have e5 : IntKind.u64.wrap ((n : Int) * 16 + (d : Int)) = (n : Int) * 16 + (d : Int) := by rw [IntKind.wrap_u64]; omega
        have HNY : Hid (valL (l.take (k + 1)) = some (n * 16 + d)) := Lib.hid (by rw [HNX.out, HD.out, if_neg c1, if_pos ⟨c2a, c2b⟩, if_pos c3, hd]; rfl)
        have e6 : decide ((16 : Int) ≤ (d : Int)) = false := decide_eq_false (by omega)
        have e7 : decide ((1152921504606846976 : Int) ≤ (n : Int)) = false := decide_eq_false (by omega)
        have e8 : decide ((n : Int) * 16 + (d : Int) < (n : Int) * 16) = false := decide_eq_false (by omega)
        have e9 : decide ((255 : Int) < (n : Int) * 16 + (d : Int)) = false := decide_eq_false (by omega)
        have HBL : Hid (g w = g w) := Lib.hid rfl
        have HC1 := Lib.hid c1
        clear c1
        go_wp2_with (go_at_call 96; refine (HLO.out _).mono ?_; rintro e w7 ⟨rfl, rfl⟩)
        go_roundw
        case rel =>
          refine ⟨k + 1, n * 16 + d, ?_, ?_, ?_, ?_, ?_, ?_, ?_, HNY, ?_⟩
          · omega
          · rfl
          · go_num
          · exact congrArg (Value.int .u64) (by omega)
          · intro h; omega
          · intro h; have := hk0 (by omega); omega
          · omega
          · first | exact HBL | exact Lib.hid trivial
        case measure => simp [intOf]; omega
      · obtain ⟨d, hd⟩ : ∃ d, L - 87 = d := ⟨_, rfl⟩
        have e3 : IntKind.u8.wrap ((L : Int) - 97) = (L : Int) - 97 := IntWalk.u8_in _ (by omega)
        have e3b : IntKind.u8.wrap ((L : Int) - 97 + 10) = (d : Int) := by rw [IntWalk.u8_in _ (by omega)]; omega
        have e6 : decide ((16 : Int) ≤ (d : Int)) = true := decide_eq_true (by omega)
        have HNO : Hid (valL l = none) := Lib.hid (valL_none (k := k + 1) (by rw [HNX.out, HD.out, if_neg c1, if_pos ⟨c2a, c2b⟩, if_neg c3]; rfl))
        have HC1 := Lib.hid c1
        clear c1
        go_wp2_with (go_at_call 96; refine (HLO.out _).mono ?_; rintro e w7 ⟨rfl, rfl⟩)
        go_ret2
        exact ⟨by rw [HNO.out]; rfl, HRB.out.2⟩
end Go.Proofs.YtccofgdcpmplmaaGreatDoor
