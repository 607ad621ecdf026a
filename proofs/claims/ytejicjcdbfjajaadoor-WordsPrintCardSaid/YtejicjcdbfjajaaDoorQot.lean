/- A text as a word: the program's. -/
import Derived.Test.YtejicjcdbfjajaaDoorQma
namespace Go.Proofs.YtejicjcdbfjajaaDoor
open Go Go.RowKit
theorem u8_of (n : Nat) (h : n < 256) : (((UInt8.ofNat n).toNat : Nat) : Int) = (n : Int) := by
  have : (UInt8.ofNat n).toNat = n := by simp; omega
  rw [this]
set_option maxRecDepth 100000 in
set_option maxHeartbeats 16000000 in
theorem quote_any (s : ByteArray) (w : World) (hs : s.size ≤ 100000000) : Calls Tryd.prog 17 #[.string s] w fun e w' => e = .returned (.string (ofL (quoL (bl s)))) ∧ Below w.heap.size w w' := by
  have HG : Hid (Gr w.heap.size [] (w.alloc (.cells #[.pointer none, .slice none 0 0] 56))) := Lib.hid (gr_new w)
  have HB0 := Lib.hid (below_new w (.cells #[.pointer none, .slice none 0 0] 56))
  go_enter Tryd.func17, Tryd.ntmps17
  go_wp2_with fail
  generalize w.alloc (.cells #[.pointer none, .slice none 0 0] 56) = w1 at *
  refine (byte_gr w.heap.size [] 39 w1 HG.out (by simp)).mono ?_
  rintro e w2 ⟨rfl, hg2, hb2⟩
  have HG2 : Hid (Gr w.heap.size (39 :: qtL ((bl s).take 0)) w2) := Lib.hid (by simpa [qtL] using hg2)
  have HB2 := Lib.hid (HB0.out.trans hb2)
  clear hg2 hb2 HG HB0
  go_wp2_with fail
  go_loopw [10] (fun i wr => ∃ k : Nat, k ≤ s.size ∧ i = .int .i64 k ∧ Hid (Gr w.heap.size (39 :: qtL ((bl s).take k)) wr) ∧ Hid (Below w.heap.size w wr)) (fun i _ => s.size - (intOf i).toNat)
  case atStart => exact ⟨0, by omega, by go_num, HG2, HB2⟩
  case round =>
    clear HG2 HB2
    obtain ⟨k, hk, rfl, HG, HB⟩ := hrel
    by_cases hlt : k < s.size
    · have hlen := qtL_len ((bl s).take k)
      rw [List.length_take, bl_len] at hlen
      have HLE : Hid ((39 :: qtL ((bl s).take k)).length ≤ 400000001) := Lib.hid (by rw [List.length_cons]; omega)
      have HTK : Hid (∀ c : UInt8, s[k] = c → (39 :: qtL ((bl s).take (k + 1))) = (39 :: qtL ((bl s).take k)) ++ qtB c) := Lib.hid (fun c hc => by
        have h1 : (bl s).take (k + 1) = (bl s).take k ++ [s[k]] := by
          rw [List.take_succ_eq_append_getElem (by rw [bl_len]; exact hlt)]
          rfl
        rw [h1, qtL_snoc, hc]
        rfl)
      clear hlen
      generalize (39 :: qtL ((bl s).take k)) = acc at *
      obtain ⟨c, hc⟩ : ∃ c, s[k].toNat = c := ⟨_, rfl⟩
      have h256 : c < 256 := by rw [← hc]; exact s[k].toNat_lt
      have HC : Hid (s[k] = UInt8.ofNat c) := Lib.hid (by rw [← hc]; simp)
      have HU : Hid (((UInt8.ofNat c).toNat : Nat) = c) := Lib.hid (by simp; omega)
      have HQB := Lib.hid (HTK.out _ HC.out)
      have hk0 : (0 : Int) ≤ (k : Int) := by omega
      have hks : (k : Int) < (s.size : Int) := by omega
      clear HTK
      have HBY : Hid (∀ (l : List UInt8) (W : World) (n : Nat), n < 256 → Gr w.heap.size l W → l.length ≤ 1000000000 → Calls Tryd.prog 28 #[GrP w.heap.size, .int .u8 n] W fun e w' => e = .returned .nilIface ∧ Gr w.heap.size (l ++ [UInt8.ofNat n]) w' ∧ Below w.heap.size W w') := Lib.hid (fun l W n hn hg hl => by
        have := byte_gr w.heap.size l (UInt8.ofNat n) W hg hl
        rwa [u8_of n hn] at this)
      by_cases hq : c = 39 ∨ c = 92
      · rcases hq with rfl | rfl
        · have HQ2 : Hid (39 :: qtL ((bl s).take (k + 1)) = acc ++ [92] ++ [UInt8.ofNat 39]) := Lib.hid (by rw [HQB.out, qtB, HU.out, if_pos (by omega)]; all_goals (first | rfl | simp))
          clear HQB
          go_wp2_with fail
          refine (HBY.out _ wr 92 (by omega) HG.out (by have := HLE.out; (try simp only [List.length_append, List.length_singleton]); omega)).mono ?_
          rintro e x1 ⟨rfl, hg1, hb1⟩
          have HG1 := Lib.hid hg1
          have HB1 := Lib.hid (HB.out.trans hb1)
          clear hg1 hb1 HG HB
          go_wp2_with fail
          refine (HBY.out _ x1 39 (by omega) HG1.out (by have := HLE.out; (try simp only [List.length_append, List.length_singleton]); omega)).mono ?_
          rintro e x2 ⟨rfl, hg2, hb2⟩
          have HG2 := Lib.hid hg2
          have HB2 := Lib.hid (HB1.out.trans hb2)
          clear hg2 hb2 HG1 HB1
          go_wp2_with fail
          have HGZ : Hid (Gr w.heap.size (39 :: qtL ((bl s).take (k + 1))) x2) := Lib.hid (by rw [HQ2.out]; exact HG2.out)
          go_roundw
          case rel => exact ⟨k + 1, by omega, by go_num, HGZ, HB2⟩
          case measure => simp [intOf]; omega
        · have HQ2 : Hid (39 :: qtL ((bl s).take (k + 1)) = acc ++ [92] ++ [UInt8.ofNat 92]) := Lib.hid (by rw [HQB.out, qtB, HU.out, if_pos (by omega)]; all_goals (first | rfl | simp))
          clear HQB
          go_wp2_with fail
          refine (HBY.out _ wr 92 (by omega) HG.out (by have := HLE.out; (try simp only [List.length_append, List.length_singleton]); omega)).mono ?_
          rintro e x1 ⟨rfl, hg1, hb1⟩
          have HG1 := Lib.hid hg1
          have HB1 := Lib.hid (HB.out.trans hb1)
          clear hg1 hb1 HG HB
          go_wp2_with fail
          refine (HBY.out _ x1 92 (by omega) HG1.out (by have := HLE.out; (try simp only [List.length_append, List.length_singleton]); omega)).mono ?_
          rintro e x2 ⟨rfl, hg2, hb2⟩
          have HG2 := Lib.hid hg2
          have HB2 := Lib.hid (HB1.out.trans hb2)
          clear hg2 hb2 HG1 HB1
          go_wp2_with fail
          have HGZ : Hid (Gr w.heap.size (39 :: qtL ((bl s).take (k + 1))) x2) := Lib.hid (by rw [HQ2.out]; exact HG2.out)
          go_roundw
          case rel => exact ⟨k + 1, by omega, by go_num, HGZ, HB2⟩
          case measure => simp [intOf]; omega
      by_cases hp : 32 ≤ c ∧ c ≤ 126
      · have n39 : ((c : Int) == 39) = false := by simp; omega
        have n92 : ((c : Int) == 92) = false := by simp; omega
        have m39 : (c == 39) = false := by simp; omega
        have m92 : (c == 92) = false := by simp; omega
        have l32 : decide ((32 : Int) ≤ (c : Int)) = true := decide_eq_true (by omega)
        have l126 : decide ((c : Int) ≤ 126) = true := decide_eq_true (by omega)
        have k32 : decide (32 ≤ c) = true := decide_eq_true (by omega)
        have k126 : decide (c ≤ 126) = true := decide_eq_true (by omega)
        have HQ2 : Hid (39 :: qtL ((bl s).take (k + 1)) = acc ++ [UInt8.ofNat c]) := Lib.hid (by rw [HQB.out, qtB, HU.out, if_neg (by omega), if_pos (by omega)]; all_goals (first | rfl | simp))
        clear HQB
        go_wp2_with fail
        refine (HBY.out _ wr c h256 HG.out (by have := HLE.out; (try simp only [List.length_append, List.length_singleton]); omega)).mono ?_
        rintro e x1 ⟨rfl, hg1, hb1⟩
        have HG1 := Lib.hid hg1
        have HB1 := Lib.hid (HB.out.trans hb1)
        clear hg1 hb1 HG HB
        go_wp2_with fail
        have HGZ : Hid (Gr w.heap.size (39 :: qtL ((bl s).take (k + 1))) x1) := Lib.hid (by rw [HQ2.out]; exact HG1.out)
        go_roundw
        case rel => exact ⟨k + 1, by omega, by go_num, HGZ, HB1⟩
        case measure => simp [intOf]; omega
      by_cases h10 : c = 10
      · subst h10
        have HQ2 : Hid (39 :: qtL ((bl s).take (k + 1)) = acc ++ bl ⟨#[92, 110]⟩) := Lib.hid (by rw [HQB.out, qtB, HU.out, if_neg (by omega), if_neg (by omega), if_pos rfl]; all_goals (first | rfl | simp))
        clear HQB
        go_wp2_with fail
        refine (text_gr w.heap.size acc ⟨#[92, 110]⟩ wr HG.out (by simp [bl]) (by have := HLE.out; show _ + 2 ≤ _; omega)).mono ?_
        rintro e x1 ⟨⟨v, rfl⟩, hg1, hb1⟩
        have HG1 := Lib.hid hg1
        have HB1 := Lib.hid (HB.out.trans hb1)
        clear hg1 hb1 HG HB
        go_wp2_with fail
        have HGZ : Hid (Gr w.heap.size (39 :: qtL ((bl s).take (k + 1))) x1) := Lib.hid (by rw [HQ2.out]; exact HG1.out)
        go_roundw
        case rel => exact ⟨k + 1, by omega, by go_num, HGZ, HB1⟩
        case measure => simp [intOf]; omega
      by_cases h9 : c = 9
      · subst h9
        have HQ2 : Hid (39 :: qtL ((bl s).take (k + 1)) = acc ++ bl ⟨#[92, 116]⟩) := Lib.hid (by rw [HQB.out, qtB, HU.out, if_neg (by omega), if_neg (by omega), if_neg (by omega), if_pos rfl]; all_goals (first | rfl | simp))
        clear HQB
        go_wp2_with fail
        refine (text_gr w.heap.size acc ⟨#[92, 116]⟩ wr HG.out (by simp [bl]) (by have := HLE.out; show _ + 2 ≤ _; omega)).mono ?_
        rintro e x1 ⟨⟨v, rfl⟩, hg1, hb1⟩
        have HG1 := Lib.hid hg1
        have HB1 := Lib.hid (HB.out.trans hb1)
        clear hg1 hb1 HG HB
        go_wp2_with fail
        have HGZ : Hid (Gr w.heap.size (39 :: qtL ((bl s).take (k + 1))) x1) := Lib.hid (by rw [HQ2.out]; exact HG1.out)
        go_roundw
        case rel => exact ⟨k + 1, by omega, by go_num, HGZ, HB1⟩
        case measure => simp [intOf]; omega
      by_cases h13 : c = 13
      · subst h13
        have HQ2 : Hid (39 :: qtL ((bl s).take (k + 1)) = acc ++ bl ⟨#[92, 114]⟩) := Lib.hid (by rw [HQB.out, qtB, HU.out, if_neg (by omega), if_neg (by omega), if_neg (by omega), if_neg (by omega), if_pos rfl]; all_goals (first | rfl | simp))
        clear HQB
        go_wp2_with fail
        refine (text_gr w.heap.size acc ⟨#[92, 114]⟩ wr HG.out (by simp [bl]) (by have := HLE.out; show _ + 2 ≤ _; omega)).mono ?_
        rintro e x1 ⟨⟨v, rfl⟩, hg1, hb1⟩
        have HG1 := Lib.hid hg1
        have HB1 := Lib.hid (HB.out.trans hb1)
        clear hg1 hb1 HG HB
        go_wp2_with fail
        have HGZ : Hid (Gr w.heap.size (39 :: qtL ((bl s).take (k + 1))) x1) := Lib.hid (by rw [HQ2.out]; exact HG1.out)
        go_roundw
        case rel => exact ⟨k + 1, by omega, by go_num, HGZ, HB1⟩
        case measure => simp [intOf]; omega
      have n39 : ((c : Int) == 39) = false := by simp; omega
      have n92 : ((c : Int) == 92) = false := by simp; omega
      have m39 : (c == 39) = false := by simp; omega
      have m92 : (c == 92) = false := by simp; omega
      have n10 : ((c : Int) == 10) = false := by simp; omega
      have n9 : ((c : Int) == 9) = false := by simp; omega
      have n13 : ((c : Int) == 13) = false := by simp; omega
      have m10 : (c == 10) = false := by simp; omega
      have m9 : (c == 9) = false := by simp; omega
      have m13 : (c == 13) = false := by simp; omega
      have hor : c < 32 ∨ 126 < c := by omega
      have HQ2 : Hid (39 :: qtL ((bl s).take (k + 1)) = acc ++ [92] ++ [UInt8.ofNat (48 + c / 100)] ++ [UInt8.ofNat (48 + c / 10 % 10)] ++ [UInt8.ofNat (48 + c % 10)]) := Lib.hid (by rw [HQB.out, qtB, HU.out, if_neg (by omega), if_neg (by omega), if_neg (by omega), if_neg (by omega), if_neg (by omega)]; all_goals (first | rfl | simp))
      clear HQB
      have hsp : ∃ b32 b126 : Bool, decide ((32 : Int) ≤ (c : Int)) = b32 ∧ decide ((c : Int) ≤ 126) = b126 ∧ decide (32 ≤ c) = b32 ∧ decide (c ≤ 126) = b126 ∧ (b32 && b126) = false := by
        refine ⟨decide (32 ≤ c), decide (c ≤ 126), by simp; omega, by simp; omega, rfl, rfl, ?_⟩
        simp; omega
      by_cases h32 : 32 ≤ c
      · have l32 : decide ((32 : Int) ≤ (c : Int)) = true := decide_eq_true (by omega)
        have k32 : decide (32 ≤ c) = true := decide_eq_true (by omega)
        have l126 : decide ((c : Int) ≤ 126) = false := decide_eq_false (by omega)
        have k126 : decide (c ≤ 126) = false := decide_eq_false (by omega)
        clear hsp
        have HDG : Hid (∀ (n : Nat) (z : Int), n < 256 → (n : Int) = z → ∀ (l : List UInt8) (W : World), Gr w.heap.size l W → l.length ≤ 1000000000 → Calls Tryd.prog 28 #[GrP w.heap.size, .int .u8 z] W fun e w' => e = .returned .nilIface ∧ Gr w.heap.size (l ++ [UInt8.ofNat n]) w' ∧ Below w.heap.size W w') := Lib.hid (fun n z hn hz l W hg hl => by rw [← hz]; exact HBY.out l W n hn hg hl)
        go_wp2_with fail
        refine (HBY.out _ wr 92 (by omega) HG.out (by have := HLE.out; (try simp only [List.length_append, List.length_singleton]); omega)).mono ?_
        rintro e x1 ⟨rfl, hg1, hb1⟩
        have HG1 := Lib.hid hg1
        have HB1 := Lib.hid (HB.out.trans hb1)
        clear hg1 hb1 HG HB
        go_wp2_with fail
        refine ((HDG.out (48 + c / 100) (48 + (c : Int) / 100) (by omega) (by omega)) _ x1 HG1.out (by have := HLE.out; (try simp only [List.length_append, List.length_singleton]); omega)).mono ?_
        rintro e x2 ⟨rfl, hg2, hb2⟩
        have HG2 := Lib.hid hg2
        have HB2 := Lib.hid (HB1.out.trans hb2)
        clear hg2 hb2 HG1 HB1
        go_wp2_with fail
        refine ((HDG.out (48 + c / 10 % 10) (48 + (c : Int) / 10 % 10) (by omega) (by omega)) _ x2 HG2.out (by have := HLE.out; (try simp only [List.length_append, List.length_singleton]); omega)).mono ?_
        rintro e x3 ⟨rfl, hg3, hb3⟩
        have HG3 := Lib.hid hg3
        have HB3 := Lib.hid (HB2.out.trans hb3)
        clear hg3 hb3 HG2 HB2
        go_wp2_with fail
        refine ((HDG.out (48 + c % 10) (48 + (c : Int) % 10) (by omega) (by omega)) _ x3 HG3.out (by have := HLE.out; (try simp only [List.length_append, List.length_singleton]); omega)).mono ?_
        rintro e x4 ⟨rfl, hg4, hb4⟩
        have HG4 := Lib.hid hg4
        have HB4 := Lib.hid (HB3.out.trans hb4)
        clear hg4 hb4 HG3 HB3
        go_wp2_with fail
        have HGZ : Hid (Gr w.heap.size (39 :: qtL ((bl s).take (k + 1))) x4) := Lib.hid (by rw [HQ2.out]; exact HG4.out)
        go_roundw
        case rel => exact ⟨k + 1, by omega, by go_num, HGZ, HB4⟩
        case measure => simp [intOf]; omega
      · have l32 : decide ((32 : Int) ≤ (c : Int)) = false := decide_eq_false (by omega)
        have k32 : decide (32 ≤ c) = false := decide_eq_false (by omega)
        clear hsp
        have HDG : Hid (∀ (n : Nat) (z : Int), n < 256 → (n : Int) = z → ∀ (l : List UInt8) (W : World), Gr w.heap.size l W → l.length ≤ 1000000000 → Calls Tryd.prog 28 #[GrP w.heap.size, .int .u8 z] W fun e w' => e = .returned .nilIface ∧ Gr w.heap.size (l ++ [UInt8.ofNat n]) w' ∧ Below w.heap.size W w') := Lib.hid (fun n z hn hz l W hg hl => by rw [← hz]; exact HBY.out l W n hn hg hl)
        go_wp2_with fail
        refine (HBY.out _ wr 92 (by omega) HG.out (by have := HLE.out; (try simp only [List.length_append, List.length_singleton]); omega)).mono ?_
        rintro e x1 ⟨rfl, hg1, hb1⟩
        have HG1 := Lib.hid hg1
        have HB1 := Lib.hid (HB.out.trans hb1)
        clear hg1 hb1 HG HB
        go_wp2_with fail
        refine ((HDG.out (48 + c / 100) (48 + (c : Int) / 100) (by omega) (by omega)) _ x1 HG1.out (by have := HLE.out; (try simp only [List.length_append, List.length_singleton]); omega)).mono ?_
        rintro e x2 ⟨rfl, hg2, hb2⟩
        have HG2 := Lib.hid hg2
        have HB2 := Lib.hid (HB1.out.trans hb2)
        clear hg2 hb2 HG1 HB1
        go_wp2_with fail
        refine ((HDG.out (48 + c / 10 % 10) (48 + (c : Int) / 10 % 10) (by omega) (by omega)) _ x2 HG2.out (by have := HLE.out; (try simp only [List.length_append, List.length_singleton]); omega)).mono ?_
        rintro e x3 ⟨rfl, hg3, hb3⟩
        have HG3 := Lib.hid hg3
        have HB3 := Lib.hid (HB2.out.trans hb3)
        clear hg3 hb3 HG2 HB2
        go_wp2_with fail
        refine ((HDG.out (48 + c % 10) (48 + (c : Int) % 10) (by omega) (by omega)) _ x3 HG3.out (by have := HLE.out; (try simp only [List.length_append, List.length_singleton]); omega)).mono ?_
        rintro e x4 ⟨rfl, hg4, hb4⟩
        have HG4 := Lib.hid hg4
        have HB4 := Lib.hid (HB3.out.trans hb4)
        clear hg4 hb4 HG3 HB3
        go_wp2_with fail
        have HGZ : Hid (Gr w.heap.size (39 :: qtL ((bl s).take (k + 1))) x4) := Lib.hid (by rw [HQ2.out]; exact HG4.out)
        go_roundw
        case rel => exact ⟨k + 1, by omega, by go_num, HGZ, HB4⟩
        case measure => simp [intOf]; omega
    · obtain rfl : k = s.size := by omega
      go_wp2_with fail
      refine (byte_gr w.heap.size _ 39 wr HG.out ?_).mono ?_
      · have := qtL_len ((bl s).take s.size)
        rw [List.length_take, bl_len] at this
        rw [List.length_cons]
        omega
      rintro e w3 ⟨rfl, hg3, hb3⟩
      have HG3 := Lib.hid hg3
      have HB3 := Lib.hid (HB.out.trans hb3)
      clear hg3 hb3 HG HB
      go_wp2_with fail
      refine (done_gr w.heap.size _ w3 HG3.out).mono ?_
      rintro e w4 ⟨rfl, hb4⟩
      have HB4 := Lib.hid (HB3.out.trans hb4)
      go_wp2_with fail
      go_ret
      refine ⟨?_, HB4.out⟩
      rw [List.take_of_length_le (by rw [bl_len]; omega)]
      rfl
end Go.Proofs.YtejicjcdbfjajaaDoor
