/- The document's word that begins at a place: one of four kinds. -/
import Derived.Test.YtejicjcdbfjajaaDoorRwa
namespace Go.Proofs.YtejicjcdbfjajaaDoor
open Go Go.RowKit
set_option maxRecDepth 100000 in
set_option maxHeartbeats 16000000 in
theorem rword_S (s : ByteArray) (a : Nat) (w : World) (hs : s.size ≤ 1048576) (ha : a < s.size) (h1 : isL s[a].toNat = false) (h2 : isD s[a].toNat = false) (h3 : ¬ (s[a].toNat = 39 ∨ s[a].toNat = 34)) : Calls Tryd.prog 23 #[.string s, .int .i64 a] w (RWQ w a (wordR (bl s) a)) := by
  have HD := Lib.hid (drop_at s a ha)
  obtain ⟨R, hR⟩ : ∃ R, wordR (bl s) a = R := ⟨_, rfl⟩
  rw [hR]
  unfold wordR at hR
  have HR := Lib.hid hR
  have HZ : Hid ((w.alloc (.cells #[.int .i64 0, .string ⟨#[]⟩, .int .i64 0, .int .i64 0] 31)).heap[w.heap.size]? = some (.cells #[.int .i64 0, .string ⟨#[]⟩, .int .i64 0, .int .i64 0] 31 (0, 0))) := Lib.hid (heap_alloc_new w _)
  have HB : Hid (Below w.heap.size w (w.alloc (.cells #[.int .i64 0, .string ⟨#[]⟩, .int .i64 0, .int .i64 0] 31))) := Lib.hid (below_new w _)
  have HL0 := Lib.hid (fun W => letter_any s[a].toNat W)
  have HD0 := Lib.hid (fun W => digit_any s[a].toNat W)
  clear hR
  have HP : Hid (runF ((bl s).drop a) = 0) := Lib.hid (by rw [HD.out, runF_no (okB_n h1 h2)])
  obtain ⟨c, hc⟩ : ∃ c, s[a].toNat = c := ⟨_, rfl⟩
  have g1 : ((c : Int) == 39) = false := eq_dec (a := c) (b := 39) (fun e => h3 (.inl (by rw [hc]; exact e)))
  have g2 : ((c : Int) == 34) = false := eq_dec (a := c) (b := 34) (fun e => h3 (.inr (by rw [hc]; exact e)))
  go_enter Tryd.func23, Tryd.ntmps23
  go_wp2_with fail
  generalize w.alloc (.cells #[.int .i64 0, .string ⟨#[]⟩, .int .i64 0, .int .i64 0] 31) = W at *
  go_loopw [6] (fun i wr => ∃ b : Nat, a ≤ b ∧ b ≤ s.size ∧ i = .int .i64 b ∧ Hid (a + runF ((bl s).drop a) = b + runF ((bl s).drop b)) ∧ wr = W) (fun i _ => s.size - (intOf i).toNat)
  case atStart => exact ⟨a, Nat.le_refl _, by omega, rfl, Lib.hid rfl, by trivial⟩
  case round =>
    obtain ⟨b, hab, hbs, rfl, HRU, rfl⟩ := hrel
    by_cases hlt : b < s.size
    · have hdl : decide (b < s.size) = true := decide_eq_true hlt
      have hk0 : (0 : Int) ≤ (b : Int) := by omega
      have hks : (b : Int) < (s.size : Int) := by omega
      have HCL := Lib.hid (fun W => letter_any s[b].toNat W)
      have HCD := Lib.hid (fun W => digit_any s[b].toNat W)
      have HDB := Lib.hid (drop_at s b hlt)
      cases hL : isL s[b].toNat with
      | true =>
        have HOK := Lib.hid (okB_l hL)
        rw [hL] at HCL
        have HC := Lib.hid hL
        clear hL
        have HR2 : Hid (a + runF ((bl s).drop a) = (b + 1) + runF ((bl s).drop (b + 1))) := Lib.hid (by have h1 := HRU.out; rw [HDB.out, runF_yes HOK.out] at h1; omega)
        clear HRU HDB HOK HC
        go_wp2_with fail
        refine (HCL.out _).mono ?_
        rintro e w2 ⟨rfl, rfl⟩
        go_wp2_with fail
        go_roundw
        case rel => exact ⟨b + 1, by omega, by omega, by go_num, HR2, by trivial⟩
        case measure => simp [intOf]; omega
      | false =>
        rw [hL] at HCL
        cases hD : isD s[b].toNat with
        | true =>
          have HOK := Lib.hid (okB_d hD)
          rw [hD] at HCD
          have HC := Lib.hid hL
          clear hL hD
          have HR2 : Hid (a + runF ((bl s).drop a) = (b + 1) + runF ((bl s).drop (b + 1))) := Lib.hid (by have h1 := HRU.out; rw [HDB.out, runF_yes HOK.out] at h1; omega)
          clear HRU HDB HOK HC
          go_wp2_with fail
          refine (HCL.out _).mono ?_
          rintro e w2 ⟨rfl, rfl⟩
          go_wp2_with fail
          refine (HCD.out _).mono ?_
          rintro e w2 ⟨rfl, rfl⟩
          go_wp2_with fail
          go_roundw
          case rel => exact ⟨b + 1, by omega, by omega, by go_num, HR2, by trivial⟩
          case measure => simp [intOf]; omega
        | false =>
          rw [hD] at HCD
          have HE : Hid (a + runF ((bl s).drop a) = b) := Lib.hid (by have h1 := HRU.out; rw [HDB.out, runF_no (okB_n hL hD)] at h1; omega)
          clear hL hD HRU HDB
          have hab2 : b = a := by have := HE.out; have := HP.out; omega
          have hd1 : decide (a < b) = false := decide_eq_false (by omega)
          have hd2 : decide ((a : Int) < (b : Int)) = false := decide_eq_false (by omega)
          have ha0 : (0 : Int) ≤ (a : Int) := by omega
          have ha1 : (a : Int) < (s.size : Int) := by omega
          clear hab2
          go_wp2_with fail
          refine (HCL.out _).mono ?_
          rintro e w2 ⟨rfl, rfl⟩
          go_wp2_with fail
          refine (HCD.out _).mono ?_
          rintro e w2 ⟨rfl, rfl⟩
          clear HCL HCD
          go_wp2_with fail
          clear HD0 HL0 HE
          have HX := Lib.hid (wordX_sgnF (a := a) HD.out h1 h2 h3)
          rw [HR.out] at HX
          have HSG := Lib.hid (fun W => rsigns_any W)
          clear h1 h2 h3
          go_wp2_with fail
          refine (HSG.out _).mono ?_
          clear HSG
          rintro e w5 ⟨rfl, rfl⟩
          have HZ5 := Lib.hid (((below_new w2 (.cells (cellsS sgs).toArray 9)).block _ (Array.getElem?_eq_some_iff.1 HZ.out).1).trans HZ.out)
          have HB5 := Lib.hid (HB.out.trans ((below_new w2 (.cells (cellsS sgs).toArray 9)).mono HB.out.size))
          have HRS := Lib.hid (rdV_new w2 (cellsS sgs) 9)
          clear HZ HB g1 g2 hc
          generalize w2.alloc (.cells (cellsS sgs).toArray 9) = V at *
          generalize w2.heap.size = G at *
          go_wp2_with fail
          go_loopw [14] (fun i wi => ∃ k : Nat, k ≤ 24 ∧ i = .int .i64 k ∧ Hid (sgs.find? (fun g => Lib.hasPrefix ((bl s).drop a) (bl g)) = (sgs.drop k).find? (fun g => Lib.hasPrefix ((bl s).drop a) (bl g))) ∧ Hid (RdV wi (some ⟨G, 0, none⟩) (cellsS sgs)) ∧ Hid (wi.heap[w.heap.size]? = some (.cells #[.int .i64 0, .string ⟨#[]⟩, .int .i64 0, .int .i64 0] 31 (0, 0))) ∧ Hid (Below w.heap.size w wi)) (fun i _ => 24 - (intOf i).toNat)
          case atStart => exact ⟨0, by omega, rfl, Lib.hid rfl, HRS, HZ5, HB5⟩
          case round =>
            clear HRS HZ5 HB5
            rename_i hrel
            obtain ⟨k, hk, rfl, HFI, HRS, HZ, HB⟩ := hrel
            by_cases hkl : k < 24
            · have hl : k < sgs.length := hkl
              obtain ⟨b', off, hA, hbb, hca⟩ := rdS_at HRS.out (k := k) hl
              cases hA
              rw [Nat.zero_add] at hca
              have HSM := Lib.hid (sgs_small sgs[k] (List.getElem_mem hl))
              have HFN : Hid (sgs.find? (fun g => Lib.hasPrefix ((bl s).drop a) (bl g)) = if Lib.hasPrefix ((bl s).drop a) (bl sgs[k]) = true then some sgs[k] else (sgs.drop (k + 1)).find? (fun g => Lib.hasPrefix ((bl s).drop a) (bl g))) := Lib.hid (by
                rw [HFI.out, List.drop_eq_getElem_cons hl, List.find?_cons]
                cases Lib.hasPrefix ((bl s).drop a) (bl sgs[k]) <;> rfl)
              have HPE := Lib.hid (pre_ext (s := s) (g := sgs[k]) (a := a) (by omega))
              clear HFI
              generalize sgs[k] = g at *
              have hg2 : g.size ≤ 2 := HSM.out.2
              by_cases hle : a + g.size ≤ s.size
              · have d1 : decide (a + g.size ≤ s.size) = true := decide_eq_true hle
                have d2 : decide ((a : Int) + (g.size : Int) ≤ (s.size : Int)) = true := decide_eq_true (by omega)
                obtain ⟨u, hu⟩ : ∃ u, s.extract a (a + g.size) = u := ⟨_, rfl⟩
                rw [hu, d1] at HPE
                by_cases hug : u = g
                · have HY : Hid (R = some (4, bl g, 0, a + g.size)) := Lib.hid (by rw [HX.out, HFN.out, HPE.out, hug]; simp)
                  have he := bytes_eq g
                  subst hug
                  clear HFN HPE HX
                  go_wp2_with fail
                  go_quiet (fail)
                  generalize nq = q1
                  have HZ2 : Hid ((wr.drewN q1).heap[w.heap.size]? = some (.cells #[.int .i64 0, .string ⟨#[]⟩, .int .i64 0, .int .i64 0] 31 (0, 0))) := Lib.hid HZ.out
                  have HB2 : Hid (Below w.heap.size w (wr.drewN q1)) := Lib.hid (below_any q1 HB.out)
                  have hca2 : (wr.drewN q1).cell? ⟨G, k, none⟩ = some (.string u) := hca
                  clear HZ HB hca HRS hbb
                  have HZ := HZ2
                  have HB := HB2
                  clear HZ2 HB2
                  generalize wr.drewN q1 = X at *
                  clear hu
                  go_wp2_with (refine wpList_store_row rfl 31 (.tmp 4) (.tmp 151) rfl w.heap.size #[.int .i64 4, .string u, .int .i64 0, .int .i64 a] rfl rfl 31 _ HZ.out size31 rfl (by simp [Value.oneCell']) ?_)
                  change bodyPost _ _ _ Exit.ret _ _
                  refine bodyPost_ret (res23 _ w.heap.size _ _ _ _ _ _ rfl rfl (setRow_heap _ _ _ _ _ _ HZ.out)) rfl ?_
                  refine ⟨?_, HB.out.trans ⟨rfl, rfl, rfl, by simp, fun k hk => setRow_other _ _ _ _ (by omega)⟩⟩
                  rw [HY.out]; simp only [rwV, wdV, endV, ofL_bl]; go_num

                · have he := bytes_ne hug
                  have HF2 : Hid (sgs.find? (fun g => Lib.hasPrefix ((bl s).drop a) (bl g)) = (sgs.drop (k + 1)).find? (fun g => Lib.hasPrefix ((bl s).drop a) (bl g))) := Lib.hid (by rw [HFN.out, HPE.out, if_neg (by simp [hug])])
                  clear hug HFN HPE
                  go_wp2_with fail
                  go_quiet (fail)
                  generalize nq = q1
                  have HRS2 : Hid (RdV (wr.drewN q1) (some ⟨G, 0, none⟩) (cellsS sgs)) := Lib.hid (HRS.out.below (below_any q1 (Below.refl _ _)))
                  have HZ2 : Hid ((wr.drewN q1).heap[w.heap.size]? = some (.cells #[.int .i64 0, .string ⟨#[]⟩, .int .i64 0, .int .i64 0] 31 (0, 0))) := Lib.hid HZ.out
                  have HB2 : Hid (Below w.heap.size w (wr.drewN q1)) := Lib.hid (below_any q1 HB.out)
                  go_wp2_with fail
                  go_roundw
                  case rel => exact ⟨k + 1, by omega, by go_num, HF2, HRS2, HZ2, HB2⟩
                  case measure => simp [intOf]; omega
              · have d1 : decide (a + g.size ≤ s.size) = false := decide_eq_false hle
                have d2 : decide ((a : Int) + (g.size : Int) ≤ (s.size : Int)) = false := decide_eq_false (by omega)
                have HF2 : Hid (sgs.find? (fun g => Lib.hasPrefix ((bl s).drop a) (bl g)) = (sgs.drop (k + 1)).find? (fun g => Lib.hasPrefix ((bl s).drop a) (bl g))) := Lib.hid (by rw [HFN.out, HPE.out, if_neg (by simp [d1])])
                clear HFN HPE
                go_wp2_with fail
                go_quiet (fail)
                generalize nq = q1
                have HRS2 : Hid (RdV (wr.drewN q1) (some ⟨G, 0, none⟩) (cellsS sgs)) := Lib.hid (HRS.out.below (below_any q1 (Below.refl _ _)))
                have HZ2 : Hid ((wr.drewN q1).heap[w.heap.size]? = some (.cells #[.int .i64 0, .string ⟨#[]⟩, .int .i64 0, .int .i64 0] 31 (0, 0))) := Lib.hid HZ.out
                have HB2 : Hid (Below w.heap.size w (wr.drewN q1)) := Lib.hid (below_any q1 HB.out)
                go_wp2_with fail
                go_roundw
                case rel => exact ⟨k + 1, by omega, by go_num, HF2, HRS2, HZ2, HB2⟩
                case measure => simp [intOf]; omega
            · obtain rfl : k = 24 := by omega
              have HY : Hid (R = none) := Lib.hid (by rw [HX.out, HFI.out]; rfl)
              go_wp2_with (refine wpList_store_row rfl 31 (.tmp 4) (.tmp 155) rfl w.heap.size #[.int .i64 0, .string ⟨#[]⟩, .int .i64 0, .int .i64 0] rfl rfl 31 _ HZ.out size31 rfl (by simp [Value.oneCell']) ?_)
              change bodyPost _ _ _ Exit.ret _ _
              refine bodyPost_ret (res23 _ w.heap.size _ _ _ _ _ _ rfl rfl (setRow_heap _ _ _ _ _ _ HZ.out)) rfl ?_
              refine ⟨?_, HB.out.trans ⟨rfl, rfl, rfl, by simp, fun k hk => setRow_other _ _ _ _ (by omega)⟩⟩
              rw [HY.out]; rfl


    · have hdl : decide (b < s.size) = false := decide_eq_false hlt
      have HE : Hid (a + runF ((bl s).drop a) = b) := Lib.hid (by have h1 := HRU.out; rw [List.drop_of_length_le (l := bl s) (i := b) (by rw [bl_len]; omega)] at h1; exact h1)
      clear HRU
      have hab2 : b = a := by have := HE.out; have := HP.out; omega
      have hd1 : decide (a < b) = false := decide_eq_false (by omega)
      have hd2 : decide ((a : Int) < (b : Int)) = false := decide_eq_false (by omega)
      have ha0 : (0 : Int) ≤ (a : Int) := by omega
      have ha1 : (a : Int) < (s.size : Int) := by omega
      clear hab2
      go_wp2_with fail
      clear HD0 HL0 HE
      have HX := Lib.hid (wordX_sgnF (a := a) HD.out h1 h2 h3)
      rw [HR.out] at HX
      have HSG := Lib.hid (fun W => rsigns_any W)
      clear h1 h2 h3
      go_wp2_with fail
      refine (HSG.out _).mono ?_
      clear HSG
      rintro e w5 ⟨rfl, rfl⟩
      have HZ5 := Lib.hid (((below_new wr (.cells (cellsS sgs).toArray 9)).block _ (Array.getElem?_eq_some_iff.1 HZ.out).1).trans HZ.out)
      have HB5 := Lib.hid (HB.out.trans ((below_new wr (.cells (cellsS sgs).toArray 9)).mono HB.out.size))
      have HRS := Lib.hid (rdV_new wr (cellsS sgs) 9)
      clear HZ HB g1 g2 hc
      generalize wr.alloc (.cells (cellsS sgs).toArray 9) = V at *
      generalize wr.heap.size = G at *
      go_wp2_with fail
      go_loopw [14] (fun i wi => ∃ k : Nat, k ≤ 24 ∧ i = .int .i64 k ∧ Hid (sgs.find? (fun g => Lib.hasPrefix ((bl s).drop a) (bl g)) = (sgs.drop k).find? (fun g => Lib.hasPrefix ((bl s).drop a) (bl g))) ∧ Hid (RdV wi (some ⟨G, 0, none⟩) (cellsS sgs)) ∧ Hid (wi.heap[w.heap.size]? = some (.cells #[.int .i64 0, .string ⟨#[]⟩, .int .i64 0, .int .i64 0] 31 (0, 0))) ∧ Hid (Below w.heap.size w wi)) (fun i _ => 24 - (intOf i).toNat)
      case atStart => exact ⟨0, by omega, rfl, Lib.hid rfl, HRS, HZ5, HB5⟩
      case round =>
        clear HRS HZ5 HB5
        rename_i hrel
        obtain ⟨k, hk, rfl, HFI, HRS, HZ, HB⟩ := hrel
        by_cases hkl : k < 24
        · have hl : k < sgs.length := hkl
          obtain ⟨b', off, hA, hbb, hca⟩ := rdS_at HRS.out (k := k) hl
          cases hA
          rw [Nat.zero_add] at hca
          have HSM := Lib.hid (sgs_small sgs[k] (List.getElem_mem hl))
          have HFN : Hid (sgs.find? (fun g => Lib.hasPrefix ((bl s).drop a) (bl g)) = if Lib.hasPrefix ((bl s).drop a) (bl sgs[k]) = true then some sgs[k] else (sgs.drop (k + 1)).find? (fun g => Lib.hasPrefix ((bl s).drop a) (bl g))) := Lib.hid (by
            rw [HFI.out, List.drop_eq_getElem_cons hl, List.find?_cons]
            cases Lib.hasPrefix ((bl s).drop a) (bl sgs[k]) <;> rfl)
          have HPE := Lib.hid (pre_ext (s := s) (g := sgs[k]) (a := a) (by omega))
          clear HFI
          generalize sgs[k] = g at *
          have hg2 : g.size ≤ 2 := HSM.out.2
          by_cases hle : a + g.size ≤ s.size
          · have d1 : decide (a + g.size ≤ s.size) = true := decide_eq_true hle
            have d2 : decide ((a : Int) + (g.size : Int) ≤ (s.size : Int)) = true := decide_eq_true (by omega)
            obtain ⟨u, hu⟩ : ∃ u, s.extract a (a + g.size) = u := ⟨_, rfl⟩
            rw [hu, d1] at HPE
            by_cases hug : u = g
            · have HY : Hid (R = some (4, bl g, 0, a + g.size)) := Lib.hid (by rw [HX.out, HFN.out, HPE.out, hug]; simp)
              have he := bytes_eq g
              subst hug
              clear HFN HPE HX
              go_wp2_with fail
              go_quiet (fail)
              generalize nq = q1
              have HZ2 : Hid ((wr.drewN q1).heap[w.heap.size]? = some (.cells #[.int .i64 0, .string ⟨#[]⟩, .int .i64 0, .int .i64 0] 31 (0, 0))) := Lib.hid HZ.out
              have HB2 : Hid (Below w.heap.size w (wr.drewN q1)) := Lib.hid (below_any q1 HB.out)
              have hca2 : (wr.drewN q1).cell? ⟨G, k, none⟩ = some (.string u) := hca
              clear HZ HB hca HRS hbb
              have HZ := HZ2
              have HB := HB2
              clear HZ2 HB2
              generalize wr.drewN q1 = X at *
              clear hu
              go_wp2_with (refine wpList_store_row rfl 31 (.tmp 4) (.tmp 151) rfl w.heap.size #[.int .i64 4, .string u, .int .i64 0, .int .i64 a] rfl rfl 31 _ HZ.out size31 rfl (by simp [Value.oneCell']) ?_)
              change bodyPost _ _ _ Exit.ret _ _
              refine bodyPost_ret (res23 _ w.heap.size _ _ _ _ _ _ rfl rfl (setRow_heap _ _ _ _ _ _ HZ.out)) rfl ?_
              refine ⟨?_, HB.out.trans ⟨rfl, rfl, rfl, by simp, fun k hk => setRow_other _ _ _ _ (by omega)⟩⟩
              rw [HY.out]; simp only [rwV, wdV, endV, ofL_bl]; go_num

            · have he := bytes_ne hug
              have HF2 : Hid (sgs.find? (fun g => Lib.hasPrefix ((bl s).drop a) (bl g)) = (sgs.drop (k + 1)).find? (fun g => Lib.hasPrefix ((bl s).drop a) (bl g))) := Lib.hid (by rw [HFN.out, HPE.out, if_neg (by simp [hug])])
              clear hug HFN HPE
              go_wp2_with fail
              go_quiet (fail)
              generalize nq = q1
              have HRS2 : Hid (RdV (wr.drewN q1) (some ⟨G, 0, none⟩) (cellsS sgs)) := Lib.hid (HRS.out.below (below_any q1 (Below.refl _ _)))
              have HZ2 : Hid ((wr.drewN q1).heap[w.heap.size]? = some (.cells #[.int .i64 0, .string ⟨#[]⟩, .int .i64 0, .int .i64 0] 31 (0, 0))) := Lib.hid HZ.out
              have HB2 : Hid (Below w.heap.size w (wr.drewN q1)) := Lib.hid (below_any q1 HB.out)
              go_wp2_with fail
              go_roundw
              case rel => exact ⟨k + 1, by omega, by go_num, HF2, HRS2, HZ2, HB2⟩
              case measure => simp [intOf]; omega
          · have d1 : decide (a + g.size ≤ s.size) = false := decide_eq_false hle
            have d2 : decide ((a : Int) + (g.size : Int) ≤ (s.size : Int)) = false := decide_eq_false (by omega)
            have HF2 : Hid (sgs.find? (fun g => Lib.hasPrefix ((bl s).drop a) (bl g)) = (sgs.drop (k + 1)).find? (fun g => Lib.hasPrefix ((bl s).drop a) (bl g))) := Lib.hid (by rw [HFN.out, HPE.out, if_neg (by simp [d1])])
            clear HFN HPE
            go_wp2_with fail
            go_quiet (fail)
            generalize nq = q1
            have HRS2 : Hid (RdV (wr.drewN q1) (some ⟨G, 0, none⟩) (cellsS sgs)) := Lib.hid (HRS.out.below (below_any q1 (Below.refl _ _)))
            have HZ2 : Hid ((wr.drewN q1).heap[w.heap.size]? = some (.cells #[.int .i64 0, .string ⟨#[]⟩, .int .i64 0, .int .i64 0] 31 (0, 0))) := Lib.hid HZ.out
            have HB2 : Hid (Below w.heap.size w (wr.drewN q1)) := Lib.hid (below_any q1 HB.out)
            go_wp2_with fail
            go_roundw
            case rel => exact ⟨k + 1, by omega, by go_num, HF2, HRS2, HZ2, HB2⟩
            case measure => simp [intOf]; omega
        · obtain rfl : k = 24 := by omega
          have HY : Hid (R = none) := Lib.hid (by rw [HX.out, HFI.out]; rfl)
          go_wp2_with (refine wpList_store_row rfl 31 (.tmp 4) (.tmp 155) rfl w.heap.size #[.int .i64 0, .string ⟨#[]⟩, .int .i64 0, .int .i64 0] rfl rfl 31 _ HZ.out size31 rfl (by simp [Value.oneCell']) ?_)
          change bodyPost _ _ _ Exit.ret _ _
          refine bodyPost_ret (res23 _ w.heap.size _ _ _ _ _ _ rfl rfl (setRow_heap _ _ _ _ _ _ HZ.out)) rfl ?_
          refine ⟨?_, HB.out.trans ⟨rfl, rfl, rfl, by simp, fun k hk => setRow_other _ _ _ _ (by omega)⟩⟩
          rw [HY.out]; rfl


end Go.Proofs.YtejicjcdbfjajaaDoor
