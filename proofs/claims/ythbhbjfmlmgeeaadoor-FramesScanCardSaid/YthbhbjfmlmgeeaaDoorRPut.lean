/- The frame of a list, by the reference. -/
import Derived.Test.YthbhbjfmlmgeeaaDoorSteps
import Derived.Test.YthbhbjfmlmgeeaaDoorPut
namespace Go.Proofs.YthbhbjfmlmgeeaaDoor
open Go Go.RowKit
set_option maxHeartbeats 4000000 in
theorem rput_yes (A : Option Addr) (n c : Nat) (ls : List ByteArray) (w : World) (hn : ls.length = n) (ha : RdV w A (cellsS ls)) (hmay : mayL (bl ls) = true) :
    Calls Tryd.prog 13 #[.slice A n c] w (PutEnd w (frameL (bl ls))) := by
  have hm := hmay
  rw [may_iff] at hm
  simp only [Bool.and_eq_true, decide_eq_true_eq] at hm
  obtain ⟨T, hT⟩ : ∃ T, T = 4 + szS ls := ⟨_, rfl⟩
  have bT : T ≤ 1048576 := by omega
  have bn : n ≤ 65536 := by omega
  have HS : Hid (∀ s ∈ ls, s.size ≤ 140737488351232) := Lib.hid fun s hs => by have := szS_mem hs; omega
  have hf := fsz_yes (ls := ls) (by omega) (by omega)
  have HF := Lib.hid (show ((fsz ls : Nat) : Int) = ((8 + T : Nat) : Int) by rw [hf]; omega)
  have HM := Lib.hid hmay
  have HT := Lib.hid hT
  have HN := Lib.hid hn
  have HA := Lib.hid ha
  clear hmay hm hT hn ha hf
  go_enter Tryd.func13, Tryd.ntmps13
  go_wp2_with fail
  refine (rsize_any A n c ls w HN.out (by omega) HS.out HA.out).mono ?_
  rintro e w1 ⟨rfl, rfl⟩
  rw [HF.out]
  go_wp2_with fail
  refine (rfour_own n w1 (by omega)).mono ?_
  rintro e w2 ⟨a2, rfl, ho2, hb2⟩
  obtain ⟨B, hB⟩ : ∃ B, B = w1.heap.size := ⟨_, rfl⟩
  have HP2 : Hid (Ph w1 B 0 (.slice (some a2) 4 4) (by4 n) w2) := Lib.hid ⟨by rw [hB]; exact ho2, by rw [hB]; exact hb2, by rw [hB]; exact hb2.size, Nat.zero_le _⟩
  clear ho2 hb2
  go_wp2_with fail
  go_loopw [4, 5] (fun v i wr => ∃ k : Nat, k ≤ n ∧ i = .int .i64 k ∧ Hid (Ph w1 B 0 v (by4 n ++ tx (bl (ls.take k))) wr)) (fun _ i _ => n - (intOf i).toNat)
  case atStart => exact ⟨0, Nat.zero_le _, rfl, by simpa [bl, tx] using HP2⟩
  case round =>
    clear HP2
    obtain ⟨k, hk, rfl, HP⟩ := hrel
    have hkl := body_len (n := n) HT.out k
    by_cases hlt : k < n
    · obtain ⟨b, off, rfl, hbb, hca⟩ := rdS_at HA.out (k := k) (by have := HN.out; omega)
      obtain ⟨x, hx, hxt⟩ := list_at (ls := ls) (k := k) (by have := HN.out; omega)
      rw [hx] at hca
      have hxs : x.size ≤ 1048576 := by have := szS_mem (l := ls) (s := x) (by rw [← hx]; exact List.getElem_mem _); have := HT.out; omega
      have HX := Lib.hid (tx_next hxt)
      have HC := Lib.hid (fun (W : World) (N : Nat) (v : Value) (l : List UInt8) (h : Ph w1 B N v l W) => h.cell (p := ⟨b, off + k, none⟩) (by rw [hB]; exact hbb) hca)
      obtain ⟨fx, gx, hcv, hcx⟩ := conv_new x
      have HCV := Lib.hid hcv
      have HCX := Lib.hid hcx
      have hxl : x.data.toList.length = x.size := by rw [Array.length_toList]; rfl
      have HXL := Lib.hid hxl
      obtain ⟨N, hN⟩ : ∃ N, N = wr.heap.size := ⟨_, rfl⟩
      have HV := Lib.hid (fun g h => by rw [hN]; exact (HP.out.1.lt g h).2 : ∀ g, u4.ownBlock = some g → g < N)
      have HP0 : Hid (Ph w1 B N u4 (by4 n ++ tx (bl (ls.take k))) wr.drew) := Lib.hid ⟨HP.out.1, HP.out.2.1.drew, HP.out.2.2.1, by rw [hN]; exact Nat.le_refl _⟩
      clear hx hxt hca hcv hcx hxl
      go_wp2_with fail
      refine wp_region_held_drew (S := (fun W => W.cell? ⟨b, off + k, none⟩ = some (.string x))) (by kernel_rfl) ?_ (fun hHeld => ?_)
      · (first | exact HC.out _ _ _ _ HP0.out | exact HC.out _ _ _ _ HP6.out | exact HC.out _ _ _ _ HP7.out | exact HC.out _ _ _ _ HP8.out | exact HC.out _ _ _ _ (HP0.out.new (HCX.out _).2) | exact HC.out _ _ _ _ (HP6.out.new (HCX.out _).2) | exact HC.out _ _ _ _ (HP7.out.new (HCX.out _).2))
      refine wpAnyH_take (i := 0) (v := ?_) (by simp only [List.getElem?_toArray, List.getElem?_cons_succ, List.getElem?_cons_zero] <;> rfl) (by kernel_rfl) (by kernel_rfl) (by kernel_rfl) (by intro _ _ _ h; exact h) (Or.inl ⟨by rfl, ?_⟩) (by assumption) ?_
      rotate_left
      · (intro w hSw; (try dsimp only at hSw); go_simp); try (with_reducible rfl)
      try simp only [Act.put, List.setIfInBounds_toArray, List.set_cons_zero, List.set_cons_succ]
      refine wpAnyH_take (i := 1) (v := ?_) (by simp only [List.getElem?_toArray, List.getElem?_cons_succ, List.getElem?_cons_zero] <;> rfl) (by kernel_rfl) (by kernel_rfl) (by kernel_rfl) (by intro _ _ _ h; exact h) (Or.inl ⟨by rfl, ?_⟩) (by assumption) ?_
      rotate_left
      · (intro w hSw; (try dsimp only at hSw); go_simp); try (with_reducible rfl)
      try simp only [Act.put, List.setIfInBounds_toArray, List.set_cons_zero, List.set_cons_succ]
      refine wpAnyH_take (i := 2) (v := ?_) (by simp only [List.getElem?_toArray, List.getElem?_cons_succ, List.getElem?_cons_zero] <;> rfl) (by kernel_rfl) (by kernel_rfl) (by kernel_rfl) (by intro _ _ _ h; exact h) (Or.inl ⟨by rfl, ?_⟩) (by assumption) ?_
      rotate_left
      · (intro w hSw; (try dsimp only at hSw); go_simp); try (with_reducible rfl)
      try simp only [Act.put, List.setIfInBounds_toArray, List.set_cons_zero, List.set_cons_succ]
      refine wpAnyH_take (i := 3) (v := ?_) (by simp only [List.getElem?_toArray, List.getElem?_cons_succ, List.getElem?_cons_zero] <;> rfl) (by kernel_rfl) (by kernel_rfl) (by kernel_rfl) (by intro _ _ _ h; exact h) (Or.inl ⟨by rfl, ?_⟩) (by assumption) ?_
      rotate_left
      · (intro w hSw; (try dsimp only at hSw); go_simp); try (with_reducible rfl)
      try simp only [Act.put, List.setIfInBounds_toArray, List.set_cons_zero, List.set_cons_succ]
      refine wpAnyH_take (i := 4) (v := ?_) (by simp only [List.getElem?_toArray, List.getElem?_cons_succ, List.getElem?_cons_zero] <;> rfl) (by kernel_rfl) (by kernel_rfl) (by kernel_rfl) (by intro _ _ _ h; exact h) (Or.inl ⟨by rfl, ?_⟩) (by assumption) ?_
      rotate_left
      · (intro w hSw; (try dsimp only at hSw); go_simp); try (with_reducible rfl)
      try simp only [Act.put, List.setIfInBounds_toArray, List.set_cons_zero, List.set_cons_succ]
      refine wpAnyH_take (i := 5) (v := ?_) (by simp only [List.getElem?_toArray, List.getElem?_cons_succ, List.getElem?_cons_zero] <;> rfl) (by kernel_rfl) (by kernel_rfl) (by kernel_rfl) (by intro _ _ _ h; exact h) (Or.inl ⟨by rfl, ?_⟩) (by assumption) ?_
      rotate_left
      · (intro w hSw; (try dsimp only at hSw); go_simp); try (with_reducible rfl)
      try simp only [Act.put, List.setIfInBounds_toArray, List.set_cons_zero, List.set_cons_succ]
      refine wpAnyH_take (i := 8) (v := ?_) (by simp only [List.getElem?_toArray, List.getElem?_cons_succ, List.getElem?_cons_zero] <;> rfl) (by kernel_rfl) (by kernel_rfl) (by kernel_rfl) (by intro _ _ _ h; exact h) (Or.inl ⟨by rfl, ?_⟩) (by assumption) ?_
      rotate_left
      · (intro w hSw; (try dsimp only at hSw); go_simp); try (with_reducible rfl)
      try simp only [Act.put, List.setIfInBounds_toArray, List.set_cons_zero, List.set_cons_succ]
      refine wpAnyH_take (i := 9) (v := ?_) (by simp only [List.getElem?_toArray, List.getElem?_cons_succ, List.getElem?_cons_zero] <;> rfl) (by kernel_rfl) (by kernel_rfl) (by kernel_rfl) (by intro _ _ _ h; exact h) (Or.inl ⟨by rfl, ?_⟩) (by assumption) ?_
      rotate_left
      · (intro w hSw; (try dsimp only at hSw); go_simp); try (with_reducible rfl)
      try simp only [Act.put, List.setIfInBounds_toArray, List.set_cons_zero, List.set_cons_succ]
      refine wpAnyH_take (i := 10) (v := ?_) (by simp only [List.getElem?_toArray, List.getElem?_cons_succ, List.getElem?_cons_zero] <;> rfl) (by kernel_rfl) (by kernel_rfl) (by kernel_rfl) (by intro _ _ _ h; exact h) (Or.inl ⟨by rfl, ?_⟩) (by assumption) ?_
      rotate_left
      · (intro w hSw; (try dsimp only at hSw); go_simp); try (with_reducible rfl)
      try simp only [Act.put, List.setIfInBounds_toArray, List.set_cons_zero, List.set_cons_succ]
      refine wpAnyH_take (i := 11) (v := ?_) (by simp only [List.getElem?_toArray, List.getElem?_cons_succ, List.getElem?_cons_zero] <;> rfl) (by kernel_rfl) (by kernel_rfl) (by kernel_rfl) (by intro _ _ _ h; exact h) (Or.inl ⟨by rfl, ?_⟩) (by assumption) ?_
      rotate_left
      · (intro w hSw; (try dsimp only at hSw); go_simp); try (with_reducible rfl)
      try simp only [Act.put, List.setIfInBounds_toArray, List.set_cons_zero, List.set_cons_succ]
      refine wpAnyH_ready (rs := [6, 12]) (by kernel_rfl) (by simp) ?_
      refine AllReadyH.cons (by simp only [List.getElem?_toArray, List.getElem?_cons_succ, List.getElem?_cons_zero] <;> rfl) (fun K hK => ?_) ?_
      · skip
        go_simp
        go_at_call 28
        refine (rfour_own x.size _ (by omega)).mono ?_
        rintro e w6 ⟨a6, rfl, ho6, hb6⟩
        have HP6 : Hid (Ph w1 B N u4 (by4 n ++ tx (bl (ls.take k))) w6) := Lib.hid (by first | exact HP0.out.new hb6 | exact (HP0.out.new (HCX.out _).2).new hb6)
        obtain ⟨A6, c6, hA6, _, _, _, hr6⟩ := ho6.rd
        cases hA6
        have HR6 := Lib.hid hr6
        have HB6 := Lib.hid hb6
        clear ho6 hb6 hr6
        refine hK.out _ _ ?_ (fun hHeld => ?_)
        · (first | exact HC.out _ _ _ _ HP0.out | exact HC.out _ _ _ _ HP6.out | exact HC.out _ _ _ _ HP7.out | exact HC.out _ _ _ _ HP8.out | exact HC.out _ _ _ _ (HP0.out.new (HCX.out _).2) | exact HC.out _ _ _ _ (HP6.out.new (HCX.out _).2) | exact HC.out _ _ _ _ (HP7.out.new (HCX.out _).2))
        clear hK K
        try simp only [Act.put, List.setIfInBounds_toArray, List.set_cons_zero, List.set_cons_succ]
        refine wpAnyH_ready (rs := [7, 12]) (by kernel_rfl) (by simp) ?_
        refine AllReadyH.cons (by simp only [List.getElem?_toArray, List.getElem?_cons_succ, List.getElem?_cons_zero] <;> rfl) (fun K hK => ?_) ?_
        · skip
          refine step_bytes rfl (.tmp 20) (.tmp 26) rfl B u4 _ rfl (by first | exact HP6.out.1 | exact (HP6.out.new (HCX.out _).2).1) a6 4 4 (by4 x.size) rfl rfl (by first | exact HR6.out | exact HR6.out.below (HCX.out _).2) (by omega) (by first | exact HP6.out.2.2.1 | exact (HP6.out.new (HCX.out _).2).2.2.1) ?_
          intro v7 w7 ho7 hg7
          have HP7 := Lib.hid (by first | exact HP6.out.app ho7 hg7 | exact (HP6.out.new (HCX.out _).2).app ho7 hg7 : Ph w1 B N v7 _ w7)
          have HG7 := Lib.hid hg7
          clear ho7 hg7
          refine hK.out _ _ ?_ (fun hHeld => ?_)
          · (first | exact HC.out _ _ _ _ HP0.out | exact HC.out _ _ _ _ HP6.out | exact HC.out _ _ _ _ HP7.out | exact HC.out _ _ _ _ HP8.out | exact HC.out _ _ _ _ (HP0.out.new (HCX.out _).2) | exact HC.out _ _ _ _ (HP6.out.new (HCX.out _).2) | exact HC.out _ _ _ _ (HP7.out.new (HCX.out _).2))
          clear hK K
          try simp only [Act.put, List.setIfInBounds_toArray, List.set_cons_zero, List.set_cons_succ]
          refine wpAnyH_ready (rs := [12]) (by kernel_rfl) (by simp) ?_
          refine AllReadyH.cons (by simp only [List.getElem?_toArray, List.getElem?_cons_succ, List.getElem?_cons_zero] <;> rfl) (fun K hK => ?_) AllReadyH.nil
          refine step_conv rfl (.tmp 31) rfl x rfl fx gx HCV.out ?_
          refine hK.out _ _ ?_ (fun hHeld => ?_)
          · (first | exact HC.out _ _ _ _ HP0.out | exact HC.out _ _ _ _ HP6.out | exact HC.out _ _ _ _ HP7.out | exact HC.out _ _ _ _ HP8.out | exact HC.out _ _ _ _ (HP0.out.new (HCX.out _).2) | exact HC.out _ _ _ _ (HP6.out.new (HCX.out _).2) | exact HC.out _ _ _ _ (HP7.out.new (HCX.out _).2))
          clear hK K
          try simp only [Act.put, List.setIfInBounds_toArray, List.set_cons_zero, List.set_cons_succ]
          refine wpAnyH_ready (rs := [13]) (by kernel_rfl) (by simp) ?_
          refine AllReadyH.cons (by simp only [List.getElem?_toArray, List.getElem?_cons_succ, List.getElem?_cons_zero] <;> rfl) (fun K hK => ?_) AllReadyH.nil
          refine step_bytes rfl (.tmp 27) (.tmp 32) rfl B v7 _ rfl (by first | exact HP7.out.1 | exact (HP7.out.new (HCX.out _).2).1) _ x.size _ x.data.toList HXL.out rfl (by first | exact (HCX.out w7).1 | exact ((HCX.out w6).1).grown HG7.out HV.out HP6.out.2.2.2 | exact (((HCX.out wr.drew).1).below HB6.out).grown HG7.out HV.out HP0.out.2.2.2) (by rw [List.length_append, by4_len]; omega) (by first | exact HP7.out.2.2.1 | exact (HP7.out.new (HCX.out _).2).2.2.1) ?_
          intro v8 w8 ho8 hg8
          have HP8 := Lib.hid (by first | exact HP7.out.app ho8 hg8 | exact (HP7.out.new (HCX.out _).2).app ho8 hg8 : Ph w1 B N v8 _ w8)
          clear ho8 hg8
          refine hK.out _ _ ?_ (fun hHeld => ?_)
          · (first | exact HC.out _ _ _ _ HP0.out | exact HC.out _ _ _ _ HP6.out | exact HC.out _ _ _ _ HP7.out | exact HC.out _ _ _ _ HP8.out | exact HC.out _ _ _ _ (HP0.out.new (HCX.out _).2) | exact HC.out _ _ _ _ (HP6.out.new (HCX.out _).2) | exact HC.out _ _ _ _ (HP7.out.new (HCX.out _).2))
          clear hK K
          try simp only [Act.put, List.setIfInBounds_toArray, List.set_cons_zero, List.set_cons_succ]
          refine wpAnyH_take (i := 14) (v := ?_) (by simp only [List.getElem?_toArray, List.getElem?_cons_succ, List.getElem?_cons_zero] <;> rfl) (by kernel_rfl) (by kernel_rfl) (by kernel_rfl) (by intro _ _ _ h; exact h) (Or.inl ⟨by rfl, ?_⟩) (by assumption) ?_
          rotate_left
          · (intro w hSw; (try dsimp only at hSw); go_simp); try (with_reducible rfl)
          try simp only [Act.put, List.setIfInBounds_toArray, List.set_cons_zero, List.set_cons_succ]
          refine wpAnyH_done (by kernel_rfl) ?_ _
          go_wp2_with fail
          go_roundw
          case rel => exact ⟨k + 1, by omega, by go_num, ⟨by rw [HX.out, ← List.append_assoc, ← List.append_assoc]; simpa [List.append_assoc] using HP8.out.1, HP8.out.2.1, HP8.out.2.2.1, Nat.zero_le _⟩⟩
          case measure => simp [intOf]; omega
        refine AllReadyH.cons (by simp only [List.getElem?_toArray, List.getElem?_cons_succ, List.getElem?_cons_zero] <;> rfl) (fun K hK => ?_) AllReadyH.nil
        refine step_conv rfl (.tmp 31) rfl x rfl fx gx HCV.out ?_
        refine hK.out _ _ ?_ (fun hHeld => ?_)
        · (first | exact HC.out _ _ _ _ HP0.out | exact HC.out _ _ _ _ HP6.out | exact HC.out _ _ _ _ HP7.out | exact HC.out _ _ _ _ HP8.out | exact HC.out _ _ _ _ (HP0.out.new (HCX.out _).2) | exact HC.out _ _ _ _ (HP6.out.new (HCX.out _).2) | exact HC.out _ _ _ _ (HP7.out.new (HCX.out _).2))
        clear hK K
        try simp only [Act.put, List.setIfInBounds_toArray, List.set_cons_zero, List.set_cons_succ]
        refine wpAnyH_ready (rs := [7]) (by kernel_rfl) (by simp) ?_
        refine AllReadyH.cons (by simp only [List.getElem?_toArray, List.getElem?_cons_succ, List.getElem?_cons_zero] <;> rfl) (fun K hK => ?_) AllReadyH.nil
        refine step_bytes rfl (.tmp 20) (.tmp 26) rfl B u4 _ rfl (by first | exact HP6.out.1 | exact (HP6.out.new (HCX.out _).2).1) a6 4 4 (by4 x.size) rfl rfl (by first | exact HR6.out | exact HR6.out.below (HCX.out _).2) (by omega) (by first | exact HP6.out.2.2.1 | exact (HP6.out.new (HCX.out _).2).2.2.1) ?_
        intro v7 w7 ho7 hg7
        have HP7 := Lib.hid (by first | exact HP6.out.app ho7 hg7 | exact (HP6.out.new (HCX.out _).2).app ho7 hg7 : Ph w1 B N v7 _ w7)
        have HG7 := Lib.hid hg7
        clear ho7 hg7
        refine hK.out _ _ ?_ (fun hHeld => ?_)
        · (first | exact HC.out _ _ _ _ HP0.out | exact HC.out _ _ _ _ HP6.out | exact HC.out _ _ _ _ HP7.out | exact HC.out _ _ _ _ HP8.out | exact HC.out _ _ _ _ (HP0.out.new (HCX.out _).2) | exact HC.out _ _ _ _ (HP6.out.new (HCX.out _).2) | exact HC.out _ _ _ _ (HP7.out.new (HCX.out _).2))
        clear hK K
        try simp only [Act.put, List.setIfInBounds_toArray, List.set_cons_zero, List.set_cons_succ]
        refine wpAnyH_ready (rs := [13]) (by kernel_rfl) (by simp) ?_
        refine AllReadyH.cons (by simp only [List.getElem?_toArray, List.getElem?_cons_succ, List.getElem?_cons_zero] <;> rfl) (fun K hK => ?_) AllReadyH.nil
        refine step_bytes rfl (.tmp 27) (.tmp 32) rfl B v7 _ rfl (by first | exact HP7.out.1 | exact (HP7.out.new (HCX.out _).2).1) _ x.size _ x.data.toList HXL.out rfl (by first | exact (HCX.out w7).1 | exact ((HCX.out w6).1).grown HG7.out HV.out HP6.out.2.2.2 | exact (((HCX.out wr.drew).1).below HB6.out).grown HG7.out HV.out HP0.out.2.2.2) (by rw [List.length_append, by4_len]; omega) (by first | exact HP7.out.2.2.1 | exact (HP7.out.new (HCX.out _).2).2.2.1) ?_
        intro v8 w8 ho8 hg8
        have HP8 := Lib.hid (by first | exact HP7.out.app ho8 hg8 | exact (HP7.out.new (HCX.out _).2).app ho8 hg8 : Ph w1 B N v8 _ w8)
        clear ho8 hg8
        refine hK.out _ _ ?_ (fun hHeld => ?_)
        · (first | exact HC.out _ _ _ _ HP0.out | exact HC.out _ _ _ _ HP6.out | exact HC.out _ _ _ _ HP7.out | exact HC.out _ _ _ _ HP8.out | exact HC.out _ _ _ _ (HP0.out.new (HCX.out _).2) | exact HC.out _ _ _ _ (HP6.out.new (HCX.out _).2) | exact HC.out _ _ _ _ (HP7.out.new (HCX.out _).2))
        clear hK K
        try simp only [Act.put, List.setIfInBounds_toArray, List.set_cons_zero, List.set_cons_succ]
        refine wpAnyH_take (i := 14) (v := ?_) (by simp only [List.getElem?_toArray, List.getElem?_cons_succ, List.getElem?_cons_zero] <;> rfl) (by kernel_rfl) (by kernel_rfl) (by kernel_rfl) (by intro _ _ _ h; exact h) (Or.inl ⟨by rfl, ?_⟩) (by assumption) ?_
        rotate_left
        · (intro w hSw; (try dsimp only at hSw); go_simp); try (with_reducible rfl)
        try simp only [Act.put, List.setIfInBounds_toArray, List.set_cons_zero, List.set_cons_succ]
        refine wpAnyH_done (by kernel_rfl) ?_ _
        go_wp2_with fail
        go_roundw
        case rel => exact ⟨k + 1, by omega, by go_num, ⟨by rw [HX.out, ← List.append_assoc, ← List.append_assoc]; simpa [List.append_assoc] using HP8.out.1, HP8.out.2.1, HP8.out.2.2.1, Nat.zero_le _⟩⟩
        case measure => simp [intOf]; omega
      refine AllReadyH.cons (by simp only [List.getElem?_toArray, List.getElem?_cons_succ, List.getElem?_cons_zero] <;> rfl) (fun K hK => ?_) AllReadyH.nil
      refine step_conv rfl (.tmp 31) rfl x rfl fx gx HCV.out ?_
      refine hK.out _ _ ?_ (fun hHeld => ?_)
      · (first | exact HC.out _ _ _ _ HP0.out | exact HC.out _ _ _ _ HP6.out | exact HC.out _ _ _ _ HP7.out | exact HC.out _ _ _ _ HP8.out | exact HC.out _ _ _ _ (HP0.out.new (HCX.out _).2) | exact HC.out _ _ _ _ (HP6.out.new (HCX.out _).2) | exact HC.out _ _ _ _ (HP7.out.new (HCX.out _).2))
      clear hK K
      try simp only [Act.put, List.setIfInBounds_toArray, List.set_cons_zero, List.set_cons_succ]
      refine wpAnyH_ready (rs := [6]) (by kernel_rfl) (by simp) ?_
      refine AllReadyH.cons (by simp only [List.getElem?_toArray, List.getElem?_cons_succ, List.getElem?_cons_zero] <;> rfl) (fun K hK => ?_) AllReadyH.nil
      go_simp
      go_at_call 28
      refine (rfour_own x.size _ (by omega)).mono ?_
      rintro e w6 ⟨a6, rfl, ho6, hb6⟩
      have HP6 : Hid (Ph w1 B N u4 (by4 n ++ tx (bl (ls.take k))) w6) := Lib.hid (by first | exact HP0.out.new hb6 | exact (HP0.out.new (HCX.out _).2).new hb6)
      obtain ⟨A6, c6, hA6, _, _, _, hr6⟩ := ho6.rd
      cases hA6
      have HR6 := Lib.hid hr6
      have HB6 := Lib.hid hb6
      clear ho6 hb6 hr6
      refine hK.out _ _ ?_ (fun hHeld => ?_)
      · (first | exact HC.out _ _ _ _ HP0.out | exact HC.out _ _ _ _ HP6.out | exact HC.out _ _ _ _ HP7.out | exact HC.out _ _ _ _ HP8.out | exact HC.out _ _ _ _ (HP0.out.new (HCX.out _).2) | exact HC.out _ _ _ _ (HP6.out.new (HCX.out _).2) | exact HC.out _ _ _ _ (HP7.out.new (HCX.out _).2))
      clear hK K
      try simp only [Act.put, List.setIfInBounds_toArray, List.set_cons_zero, List.set_cons_succ]
      refine wpAnyH_ready (rs := [7]) (by kernel_rfl) (by simp) ?_
      refine AllReadyH.cons (by simp only [List.getElem?_toArray, List.getElem?_cons_succ, List.getElem?_cons_zero] <;> rfl) (fun K hK => ?_) AllReadyH.nil
      refine step_bytes rfl (.tmp 20) (.tmp 26) rfl B u4 _ rfl (by first | exact HP6.out.1 | exact (HP6.out.new (HCX.out _).2).1) a6 4 4 (by4 x.size) rfl rfl (by first | exact HR6.out | exact HR6.out.below (HCX.out _).2) (by omega) (by first | exact HP6.out.2.2.1 | exact (HP6.out.new (HCX.out _).2).2.2.1) ?_
      intro v7 w7 ho7 hg7
      have HP7 := Lib.hid (by first | exact HP6.out.app ho7 hg7 | exact (HP6.out.new (HCX.out _).2).app ho7 hg7 : Ph w1 B N v7 _ w7)
      have HG7 := Lib.hid hg7
      clear ho7 hg7
      refine hK.out _ _ ?_ (fun hHeld => ?_)
      · (first | exact HC.out _ _ _ _ HP0.out | exact HC.out _ _ _ _ HP6.out | exact HC.out _ _ _ _ HP7.out | exact HC.out _ _ _ _ HP8.out | exact HC.out _ _ _ _ (HP0.out.new (HCX.out _).2) | exact HC.out _ _ _ _ (HP6.out.new (HCX.out _).2) | exact HC.out _ _ _ _ (HP7.out.new (HCX.out _).2))
      clear hK K
      try simp only [Act.put, List.setIfInBounds_toArray, List.set_cons_zero, List.set_cons_succ]
      refine wpAnyH_ready (rs := [13]) (by kernel_rfl) (by simp) ?_
      refine AllReadyH.cons (by simp only [List.getElem?_toArray, List.getElem?_cons_succ, List.getElem?_cons_zero] <;> rfl) (fun K hK => ?_) AllReadyH.nil
      refine step_bytes rfl (.tmp 27) (.tmp 32) rfl B v7 _ rfl (by first | exact HP7.out.1 | exact (HP7.out.new (HCX.out _).2).1) _ x.size _ x.data.toList HXL.out rfl (by first | exact (HCX.out w7).1 | exact ((HCX.out w6).1).grown HG7.out HV.out HP6.out.2.2.2 | exact (((HCX.out wr.drew).1).below HB6.out).grown HG7.out HV.out HP0.out.2.2.2) (by rw [List.length_append, by4_len]; omega) (by first | exact HP7.out.2.2.1 | exact (HP7.out.new (HCX.out _).2).2.2.1) ?_
      intro v8 w8 ho8 hg8
      have HP8 := Lib.hid (by first | exact HP7.out.app ho8 hg8 | exact (HP7.out.new (HCX.out _).2).app ho8 hg8 : Ph w1 B N v8 _ w8)
      clear ho8 hg8
      refine hK.out _ _ ?_ (fun hHeld => ?_)
      · (first | exact HC.out _ _ _ _ HP0.out | exact HC.out _ _ _ _ HP6.out | exact HC.out _ _ _ _ HP7.out | exact HC.out _ _ _ _ HP8.out | exact HC.out _ _ _ _ (HP0.out.new (HCX.out _).2) | exact HC.out _ _ _ _ (HP6.out.new (HCX.out _).2) | exact HC.out _ _ _ _ (HP7.out.new (HCX.out _).2))
      clear hK K
      try simp only [Act.put, List.setIfInBounds_toArray, List.set_cons_zero, List.set_cons_succ]
      refine wpAnyH_take (i := 14) (v := ?_) (by simp only [List.getElem?_toArray, List.getElem?_cons_succ, List.getElem?_cons_zero] <;> rfl) (by kernel_rfl) (by kernel_rfl) (by kernel_rfl) (by intro _ _ _ h; exact h) (Or.inl ⟨by rfl, ?_⟩) (by assumption) ?_
      rotate_left
      · (intro w hSw; (try dsimp only at hSw); go_simp); try (with_reducible rfl)
      try simp only [Act.put, List.setIfInBounds_toArray, List.set_cons_zero, List.set_cons_succ]
      refine wpAnyH_done (by kernel_rfl) ?_ _
      go_wp2_with fail
      go_roundw
      case rel => exact ⟨k + 1, by omega, by go_num, ⟨by rw [HX.out, ← List.append_assoc, ← List.append_assoc]; simpa [List.append_assoc] using HP8.out.1, HP8.out.2.1, HP8.out.2.2.1, Nat.zero_le _⟩⟩
      case measure => simp [intOf]; omega
    · obtain rfl : k = n := by omega
      have hfull : ls.take k = ls := List.take_of_length_le (by have := HN.out; omega)
      obtain ⟨body, hbody⟩ : ∃ body, body = by4 k ++ tx (bl ls) := ⟨_, rfl⟩
      have HFR := Lib.hid (frame_of HN.out HT.out body hbody)
      have HP' : Hid (Ph w1 B 0 u4 body wr) := by rw [hfull] at HP; rw [hbody]; exact HP
      have hbl : body.length = T := by rw [hbody, List.length_append, by4_len, tx_size]; have := HT.out; omega
      have HBL := Lib.hid hbl
      obtain ⟨A9, c9, hu4, hc9, hn9, hm9, hr9⟩ := HP'.out.1.rd
      rw [hbl] at hu4
      subst hu4
      have HR9 := Lib.hid hr9
      have HN9 := Lib.hid hn9
      clear hbody hr9 hn9 hkl HP hfull hbl
      go_wp2_with fail
      refine (rfour_own T wr (by omega)).mono ?_
      rintro e w3 ⟨a3, rfl, ho3, hb3⟩
      have HP3 := Lib.hid (HP'.out.new hb3)
      have HR3 := Lib.hid (HR9.out.below hb3)
      obtain ⟨A3, c3, hA3, _, _, _, hr3⟩ := ho3.rd
      cases hA3
      have HH3 := Lib.hid hr3
      have HO3 := Lib.hid ho3
      clear hr3 ho3
      have hs3 := hb3.size
      obtain ⟨Z, hZ⟩ : ∃ Z, Z = by4 T ++ body := ⟨_, rfl⟩
      have hzl : Z.length = 4 + T := by rw [hZ, List.length_append, by4_len, HBL.out]
      have HZ := Lib.hid hZ
      have HZL := Lib.hid hzl
      have HB3 := Lib.hid hb3
      have hc9' : T ≤ c9 := by have := HBL.out; omega
      clear hZ hzl hb3 hc9
      go_wp2_with (first
        | (at_builtin; refine wpList_bytes rfl (.tmp 37) (.tmp 38) rfl w3.heap.size _ [] rfl (own_empty w3 5 w3.heap.size (Nat.le_refl _)) (some a3) 4 4 (by4 T) rfl rfl (HH3.out.below (below_new w3 _)) (fun h => by cases h) (Nat.le_refl _) (by simp) (by simp) ?_; intro v10 w10 ho10 hb10 hs10; have hb10' : Below w3.heap.size w3 w10 := (below_new w3 (.cells #[] 5)).trans hb10; have hs10' := hb10'.size)
        | (at_builtin; refine wpList_bytes rfl (.tmp 39) (.tmp 40) rfl w3.heap.size v10 _ rfl ho10 A9 T c9 body HBL.out rfl (HR3.out.below hb10') HN9.out hc9' (by simp [by4_len]; omega) hs10' ?_; intro v11 w11 ho11 hb11 hs11; have HO11 : Hid (OwnB w11 w3.heap.size v11 Z) := (by rw [HZ.out]; exact ho11); obtain ⟨A11, c11, hv11, _, _, _, hr11⟩ := HO11.out.rd; rw [HZL.out] at hv11; subst hv11; have HR11 := Lib.hid hr11; have HB11 := Lib.hid (hb10'.trans hb11); clear ho10 hb10 hb10' ho11 hb11 hr11))
      have hcr := crcOf_lt Z
      refine (rcrc_n A11 (4 + T) c11 Z w11 HZL.out (by omega) HR11.out).mono ?_
      rintro e w12 ⟨rfl, rfl⟩
      generalize hCR : crcOf Z = CR at *
      have HCR := Lib.hid hCR
      have hs11' := HB11.out.size
      clear hCR
      go_wp2_with fail
      refine (rbytes_own CR w11 hcr).mono ?_
      rintro e w13 ⟨a13, rfl, ho13, hb13⟩
      have HO13 := Lib.hid ((HO3.out.below HB11.out).below hb13)
      have HBW := Lib.hid (HB3.out.trans ((HB11.out.trans (hb13.mono hs11')).mono hs3))
      obtain ⟨A13, c13, hA13, _, _, _, hr13⟩ := ho13.rd
      cases hA13
      have HR13 := Lib.hid hr13
      have hs13 := HBW.out.size
      clear ho13 hb13 hr13
      go_wp2_with (first
        | (at_builtin; refine wpList_bytes rfl (.tmp 43) (.tmp 45) rfl wr.heap.size _ (by4 T) rfl HO13.out (some a13) 4 4 (by4 CR) rfl rfl HR13.out (fun h => by cases h) (Nat.le_refl _) (by simp [by4_len]) hs13 ?_; intro v14 w14 ho14 hb14 hs14; have HB14 := Lib.hid (HBW.out.trans hb14); have HR14 := Lib.hid (HR9.out.below HB14.out))
        | (at_builtin; refine wpList_bytes rfl (.tmp 46) (.tmp 47) rfl wr.heap.size v14 _ rfl ho14 A9 T c9 body HBL.out rfl HR14.out HN9.out hc9' (by simp [by4_len]; omega) (by omega) ?_; intro v15 w15 ho15 hb15 hs15))
      go_ret2
      have hfin := HFR.out
      rw [← HZ.out, HCR.out] at hfin
      refine ⟨_, rfl, ?_, ?_⟩
      · rw [← hfin]
        exact OwnB.down (base := wr.heap.size) ho15 HP'.out.2.1.size
      · have h1 := HP'.out.2.1
        rw [hB] at h1
        exact h1.trans ((HB14.out.trans hb15).mono h1.size)
end Go.Proofs.YthbhbjfmlmgeeaaDoor
