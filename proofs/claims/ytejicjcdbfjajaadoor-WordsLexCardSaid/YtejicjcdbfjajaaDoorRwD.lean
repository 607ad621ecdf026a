/- The document's word that begins at a place: one of four kinds. -/
import Derived.Test.YtejicjcdbfjajaaDoorRwa
namespace Go.Proofs.YtejicjcdbfjajaaDoor
open Go Go.RowKit
set_option maxRecDepth 100000 in
set_option maxHeartbeats 16000000 in
theorem rword_D (s : ByteArray) (a : Nat) (w : World) (hs : s.size ≤ 1048576) (ha : a < s.size) (h1 : isL s[a].toNat = false) (h2 : isD s[a].toNat = true) : Calls Tryd.prog 23 #[.string s, .int .i64 a] w (RWQ w a (wordR (bl s) a)) := by
  have HD := Lib.hid (drop_at s a ha)
  obtain ⟨R, hR⟩ : ∃ R, wordR (bl s) a = R := ⟨_, rfl⟩
  rw [hR]
  unfold wordR at hR
  have HR := Lib.hid hR
  have HZ : Hid ((w.alloc (.cells #[.int .i64 0, .string ⟨#[]⟩, .int .i64 0, .int .i64 0] 31)).heap[w.heap.size]? = some (.cells #[.int .i64 0, .string ⟨#[]⟩, .int .i64 0, .int .i64 0] 31 (0, 0))) := Lib.hid (heap_alloc_new w _)
  have HB : Hid (Below w.heap.size w (w.alloc (.cells #[.int .i64 0, .string ⟨#[]⟩, .int .i64 0, .int .i64 0] 31))) := Lib.hid (below_new w _)
  have HL0 := Lib.hid (fun W => letter_any s[a].toNat W)
  have HD0 := Lib.hid (fun W => digit_any s[a].toNat W)
  clear hR
  rw [h2] at HD0
  have HP : Hid (0 < runF ((bl s).drop a)) := Lib.hid (by rw [HD.out, runF_yes (okB_d h2)]; omega)
  go_enter Tryd.func23, Tryd.ntmps23
  go_wp2_with fail
  generalize w.alloc (.cells #[.int .i64 0, .string ⟨#[]⟩, .int .i64 0, .int .i64 0] 31) = W at *
  go_loopw [6] (fun i wr => ∃ b : Nat, a ≤ b ∧ b ≤ s.size ∧ i = .int .i64 b ∧ Hid (a + runF ((bl s).drop a) = b + runF ((bl s).drop b)) ∧ wr = W) (fun i _ => s.size - (intOf i).toNat)
  case atStart => exact ⟨a, Nat.le_refl _, by omega, rfl, Lib.hid rfl, by trivial⟩
  case round =>
    obtain ⟨b, hab, hbs, rfl, HRU, rfl⟩ := hrel
    by_cases hlt : b < s.size
    · have hdl : decide (b < s.size) = true := decide_eq_true hlt
      have hk0 : (0 : Int) ≤ (b : Int) := by omega
      have hks : (b : Int) < (s.size : Int) := by omega
      have HCL := Lib.hid (fun W => letter_any s[b].toNat W)
      have HCD := Lib.hid (fun W => digit_any s[b].toNat W)
      have HDB := Lib.hid (drop_at s b hlt)
      cases hL : isL s[b].toNat with
      | true =>
        have HOK := Lib.hid (okB_l hL)
        rw [hL] at HCL
        have HC := Lib.hid hL
        clear hL
        have HR2 : Hid (a + runF ((bl s).drop a) = (b + 1) + runF ((bl s).drop (b + 1))) := Lib.hid (by have h1 := HRU.out; rw [HDB.out, runF_yes HOK.out] at h1; omega)
        clear HRU HDB HOK HC
        go_wp2_with fail
        refine (HCL.out _).mono ?_
        rintro e w2 ⟨rfl, rfl⟩
        go_wp2_with fail
        go_roundw
        case rel => exact ⟨b + 1, by omega, by omega, by go_num, HR2, by trivial⟩
        case measure => simp [intOf]; omega
      | false =>
        rw [hL] at HCL
        cases hD : isD s[b].toNat with
        | true =>
          have HOK := Lib.hid (okB_d hD)
          rw [hD] at HCD
          have HC := Lib.hid hL
          clear hL hD
          have HR2 : Hid (a + runF ((bl s).drop a) = (b + 1) + runF ((bl s).drop (b + 1))) := Lib.hid (by have h1 := HRU.out; rw [HDB.out, runF_yes HOK.out] at h1; omega)
          clear HRU HDB HOK HC
          go_wp2_with fail
          refine (HCL.out _).mono ?_
          rintro e w2 ⟨rfl, rfl⟩
          go_wp2_with fail
          refine (HCD.out _).mono ?_
          rintro e w2 ⟨rfl, rfl⟩
          go_wp2_with fail
          go_roundw
          case rel => exact ⟨b + 1, by omega, by omega, by go_num, HR2, by trivial⟩
          case measure => simp [intOf]; omega
        | false =>
          rw [hD] at HCD
          have HE : Hid (a + runF ((bl s).drop a) = b) := Lib.hid (by have h1 := HRU.out; rw [HDB.out, runF_no (okB_n hL hD)] at h1; omega)
          clear hL hD HRU HDB
          have hab2 : a < b := by have := HE.out; have := HP.out; omega
          have hd1 : decide (a < b) = true := decide_eq_true hab2
          have hd2 : decide ((a : Int) < (b : Int)) = true := decide_eq_true (by omega)
          have ha0 : (0 : Int) ≤ (a : Int) := by omega
          have ha1 : (a : Int) < (s.size : Int) := by omega
          go_wp2_with fail
          refine (HCL.out _).mono ?_
          rintro e w2 ⟨rfl, rfl⟩
          go_wp2_with fail
          refine (HCD.out _).mono ?_
          rintro e w2 ⟨rfl, rfl⟩
          clear HCL HCD
          go_wp2_with fail
          refine (HD0.out _).mono ?_
          rintro e w4 ⟨rfl, rfl⟩
          clear HD0 HL0
          go_wp2_with fail
          go_loopw [7] (fun i wi => ∃ k : Nat, a ≤ k ∧ k ≤ b ∧ i = .int .i64 k ∧ Hid (∀ j, a ≤ j → j < k → ∀ hj : j < s.size, isD s[j].toNat = true) ∧ wi = w4) (fun i _ => b - (intOf i).toNat)
          case atStart => exact ⟨a, Nat.le_refl _, by omega, rfl, Lib.hid (by intro j h1 h2; omega), by trivial⟩
          case round =>
            rename_i hrel
            obtain ⟨k, hak, hkb, rfl, HAD, rfl⟩ := hrel
            by_cases hkl : k < b
            · have hks2 : k < s.size := by omega
              have hk0' : (0 : Int) ≤ (k : Int) := by omega
              have hks' : (k : Int) < (s.size : Int) := by omega
              have hkd : decide (k < b) = true := decide_eq_true hkl
              have HCD := Lib.hid (fun W => digit_any s[k].toNat W)
              cases hD : isD s[k].toNat with
              | false =>
                rw [hD] at HCD
                have HY : Hid (R = none) := Lib.hid (by
                  have hE3 : runF ((bl s).drop a) = b - a := by have := HE.out; omega
                  have h3 := wordX_num (a := a) (u := s.extract a b) HD.out h1 h2 hE3 (bl_ext s a b)
                  rw [HR.out, numF_has _ 0 ⟨_, ext_at s hak hkl hbs, hD⟩] at h3
                  exact h3)
                clear hD HAD HE HR
                go_wp2_with fail
                refine (HCD.out _).mono ?_
                rintro e w5 ⟨rfl, rfl⟩
                clear HCD
                go_wp2_with (refine wpList_store_row rfl 31 (.tmp 4) (.tmp 55) rfl w.heap.size #[.int .i64 0, .string ⟨#[]⟩, .int .i64 0, .int .i64 0] rfl rfl 31 _ HZ.out size31 rfl (by simp [Value.oneCell']) ?_)
                change bodyPost _ _ _ Exit.ret _ _
                refine bodyPost_ret (res23 _ w.heap.size _ _ _ _ _ _ rfl rfl (setRow_heap _ _ _ _ _ _ HZ.out)) rfl ?_
                refine ⟨?_, HB.out.trans ⟨rfl, rfl, rfl, by simp, fun k hk => setRow_other _ _ _ _ (by omega)⟩⟩
                rw [HY.out]; rfl

              | true =>
                rw [hD] at HCD
                have HAD2 : Hid (∀ j, a ≤ j → j < k + 1 → ∀ hj : j < s.size, isD s[j].toNat = true) := Lib.hid (fun j h3 h4 hj => by
                  rcases Nat.lt_or_ge j k with h5 | h5
                  · exact HAD.out j h3 h5 hj
                  · have h6 : j = k := by omega
                    subst h6
                    exact hD)
                clear hD HAD
                go_wp2_with fail
                refine (HCD.out _).mono ?_
                rintro e w5 ⟨rfl, rfl⟩
                clear HCD
                go_wp2_with fail
                go_roundw
                case rel => exact ⟨k + 1, by omega, by omega, by go_num, HAD2, by trivial⟩
                case measure => simp [intOf]; omega
            · have hkd : decide (k < b) = false := decide_eq_false hkl
              have hkb2 : b = k := by omega
              subst hkb2
              obtain ⟨u, hu⟩ : ∃ u, s.extract a b = u := ⟨_, rfl⟩
              have HU : Hid (bl u = ((bl s).drop a).take (b - a)) := Lib.hid (by rw [← hu, bl_ext])
              have HUD : Hid (∀ c ∈ bl u, isD c.toNat = true) := Lib.hid (by rw [← hu]; exact ext_all s hbs HAD.out)
              have HUS : Hid (u.size ≤ 1000000000) := Lib.hid (by rw [← hu, ByteArray.size_extract]; omega)
              have HNU := Lib.hid (fun W => rnumber_any u W HUS.out HUD.out)
              have hE3 : runF ((bl s).drop a) = b - a := by have := HE.out; omega
              have HX := Lib.hid (wordX_num (a := a) HD.out h1 h2 hE3 HU.out)
              rw [HR.out] at HX
              obtain ⟨o, ho⟩ : ∃ o, numF 0 (bl u) = o := ⟨_, rfl⟩
              rw [ho] at HX HNU
              have hba : a + (b - a) = b := by omega
              rw [hba] at HX
              clear ho hE3 hba HUD HE HAD
              go_wp2_with fail
              refine (HNU.out _).mono ?_
              cases o with
              | none =>
                have HY : Hid (R = none) := Lib.hid HX.out
                rw [numT_none]
                rintro e w3 ⟨rfl, rfl⟩
                clear HNU
                go_wp2_with (refine wpList_store_row rfl 31 (.tmp 4) (.tmp 66) rfl w.heap.size #[.int .i64 0, .string ⟨#[]⟩, .int .i64 0, .int .i64 0] rfl rfl 31 _ HZ.out size31 rfl (by simp [Value.oneCell']) ?_)
                change bodyPost _ _ _ Exit.ret _ _
                refine bodyPost_ret (res23 _ w.heap.size _ _ _ _ _ _ rfl rfl (setRow_heap _ _ _ _ _ _ HZ.out)) rfl ?_
                refine ⟨?_, HB.out.trans ⟨rfl, rfl, rfl, by simp, fun k hk => setRow_other _ _ _ _ (by omega)⟩⟩
                rw [HY.out]; rfl

              | some n =>
                have HY : Hid (R = some (2, [], (n : Int), b)) := Lib.hid HX.out
                rw [numT_some]
                rintro e w3 ⟨rfl, rfl⟩
                clear HNU
                go_wp2_with (refine wpList_store_row rfl 31 (.tmp 4) (.tmp 69) rfl w.heap.size #[.int .i64 2, .string ⟨#[]⟩, .int .i64 n, .int .i64 a] rfl rfl 31 _ HZ.out size31 rfl (by simp [Value.oneCell']) ?_)
                change bodyPost _ _ _ Exit.ret _ _
                refine bodyPost_ret (res23 _ w.heap.size _ _ _ _ _ _ rfl rfl (setRow_heap _ _ _ _ _ _ HZ.out)) rfl ?_
                refine ⟨?_, HB.out.trans ⟨rfl, rfl, rfl, by simp, fun k hk => setRow_other _ _ _ _ (by omega)⟩⟩
                rw [HY.out]; rfl


    · have hdl : decide (b < s.size) = false := decide_eq_false hlt
      have HE : Hid (a + runF ((bl s).drop a) = b) := Lib.hid (by have h1 := HRU.out; rw [List.drop_of_length_le (l := bl s) (i := b) (by rw [bl_len]; omega)] at h1; exact h1)
      clear HRU
      have hab2 : a < b := by have := HE.out; have := HP.out; omega
      have hd1 : decide (a < b) = true := decide_eq_true hab2
      have hd2 : decide ((a : Int) < (b : Int)) = true := decide_eq_true (by omega)
      have ha0 : (0 : Int) ≤ (a : Int) := by omega
      have ha1 : (a : Int) < (s.size : Int) := by omega
      go_wp2_with fail
      refine (HD0.out _).mono ?_
      rintro e w4 ⟨rfl, rfl⟩
      clear HD0 HL0
      go_wp2_with fail
      go_loopw [7] (fun i wi => ∃ k : Nat, a ≤ k ∧ k ≤ b ∧ i = .int .i64 k ∧ Hid (∀ j, a ≤ j → j < k → ∀ hj : j < s.size, isD s[j].toNat = true) ∧ wi = w4) (fun i _ => b - (intOf i).toNat)
      case atStart => exact ⟨a, Nat.le_refl _, by omega, rfl, Lib.hid (by intro j h1 h2; omega), by trivial⟩
      case round =>
        rename_i hrel
        obtain ⟨k, hak, hkb, rfl, HAD, rfl⟩ := hrel
        by_cases hkl : k < b
        · have hks2 : k < s.size := by omega
          have hk0' : (0 : Int) ≤ (k : Int) := by omega
          have hks' : (k : Int) < (s.size : Int) := by omega
          have hkd : decide (k < b) = true := decide_eq_true hkl
          have HCD := Lib.hid (fun W => digit_any s[k].toNat W)
          cases hD : isD s[k].toNat with
          | false =>
            rw [hD] at HCD
            have HY : Hid (R = none) := Lib.hid (by
              have hE3 : runF ((bl s).drop a) = b - a := by have := HE.out; omega
              have h3 := wordX_num (a := a) (u := s.extract a b) HD.out h1 h2 hE3 (bl_ext s a b)
              rw [HR.out, numF_has _ 0 ⟨_, ext_at s hak hkl hbs, hD⟩] at h3
              exact h3)
            clear hD HAD HE HR
            go_wp2_with fail
            refine (HCD.out _).mono ?_
            rintro e w5 ⟨rfl, rfl⟩
            clear HCD
            go_wp2_with (refine wpList_store_row rfl 31 (.tmp 4) (.tmp 55) rfl w.heap.size #[.int .i64 0, .string ⟨#[]⟩, .int .i64 0, .int .i64 0] rfl rfl 31 _ HZ.out size31 rfl (by simp [Value.oneCell']) ?_)
            change bodyPost _ _ _ Exit.ret _ _
            refine bodyPost_ret (res23 _ w.heap.size _ _ _ _ _ _ rfl rfl (setRow_heap _ _ _ _ _ _ HZ.out)) rfl ?_
            refine ⟨?_, HB.out.trans ⟨rfl, rfl, rfl, by simp, fun k hk => setRow_other _ _ _ _ (by omega)⟩⟩
            rw [HY.out]; rfl

          | true =>
            rw [hD] at HCD
            have HAD2 : Hid (∀ j, a ≤ j → j < k + 1 → ∀ hj : j < s.size, isD s[j].toNat = true) := Lib.hid (fun j h3 h4 hj => by
              rcases Nat.lt_or_ge j k with h5 | h5
              · exact HAD.out j h3 h5 hj
              · have h6 : j = k := by omega
                subst h6
                exact hD)
            clear hD HAD
            go_wp2_with fail
            refine (HCD.out _).mono ?_
            rintro e w5 ⟨rfl, rfl⟩
            clear HCD
            go_wp2_with fail
            go_roundw
            case rel => exact ⟨k + 1, by omega, by omega, by go_num, HAD2, by trivial⟩
            case measure => simp [intOf]; omega
        · have hkd : decide (k < b) = false := decide_eq_false hkl
          have hkb2 : b = k := by omega
          subst hkb2
          obtain ⟨u, hu⟩ : ∃ u, s.extract a b = u := ⟨_, rfl⟩
          have HU : Hid (bl u = ((bl s).drop a).take (b - a)) := Lib.hid (by rw [← hu, bl_ext])
          have HUD : Hid (∀ c ∈ bl u, isD c.toNat = true) := Lib.hid (by rw [← hu]; exact ext_all s hbs HAD.out)
          have HUS : Hid (u.size ≤ 1000000000) := Lib.hid (by rw [← hu, ByteArray.size_extract]; omega)
          have HNU := Lib.hid (fun W => rnumber_any u W HUS.out HUD.out)
          have hE3 : runF ((bl s).drop a) = b - a := by have := HE.out; omega
          have HX := Lib.hid (wordX_num (a := a) HD.out h1 h2 hE3 HU.out)
          rw [HR.out] at HX
          obtain ⟨o, ho⟩ : ∃ o, numF 0 (bl u) = o := ⟨_, rfl⟩
          rw [ho] at HX HNU
          have hba : a + (b - a) = b := by omega
          rw [hba] at HX
          clear ho hE3 hba HUD HE HAD
          go_wp2_with fail
          refine (HNU.out _).mono ?_
          cases o with
          | none =>
            have HY : Hid (R = none) := Lib.hid HX.out
            rw [numT_none]
            rintro e w3 ⟨rfl, rfl⟩
            clear HNU
            go_wp2_with (refine wpList_store_row rfl 31 (.tmp 4) (.tmp 66) rfl w.heap.size #[.int .i64 0, .string ⟨#[]⟩, .int .i64 0, .int .i64 0] rfl rfl 31 _ HZ.out size31 rfl (by simp [Value.oneCell']) ?_)
            change bodyPost _ _ _ Exit.ret _ _
            refine bodyPost_ret (res23 _ w.heap.size _ _ _ _ _ _ rfl rfl (setRow_heap _ _ _ _ _ _ HZ.out)) rfl ?_
            refine ⟨?_, HB.out.trans ⟨rfl, rfl, rfl, by simp, fun k hk => setRow_other _ _ _ _ (by omega)⟩⟩
            rw [HY.out]; rfl

          | some n =>
            have HY : Hid (R = some (2, [], (n : Int), b)) := Lib.hid HX.out
            rw [numT_some]
            rintro e w3 ⟨rfl, rfl⟩
            clear HNU
            go_wp2_with (refine wpList_store_row rfl 31 (.tmp 4) (.tmp 69) rfl w.heap.size #[.int .i64 2, .string ⟨#[]⟩, .int .i64 n, .int .i64 a] rfl rfl 31 _ HZ.out size31 rfl (by simp [Value.oneCell']) ?_)
            change bodyPost _ _ _ Exit.ret _ _
            refine bodyPost_ret (res23 _ w.heap.size _ _ _ _ _ _ rfl rfl (setRow_heap _ _ _ _ _ _ HZ.out)) rfl ?_
            refine ⟨?_, HB.out.trans ⟨rfl, rfl, rfl, by simp, fun k hk => setRow_other _ _ _ _ (by omega)⟩⟩
            rw [HY.out]; rfl


end Go.Proofs.YtejicjcdbfjajaaDoor
