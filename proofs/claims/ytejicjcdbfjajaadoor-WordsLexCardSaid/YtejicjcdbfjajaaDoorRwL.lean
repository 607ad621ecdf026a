/- The document's word that begins at a place: one of four kinds. -/
import Derived.Test.YtejicjcdbfjajaaDoorRwa
namespace Go.Proofs.YtejicjcdbfjajaaDoor
open Go Go.RowKit
set_option maxRecDepth 100000 in
set_option maxHeartbeats 16000000 in
theorem rword_L (s : ByteArray) (a : Nat) (w : World) (hs : s.size ≤ 1048576) (ha : a < s.size) (h1 : isL s[a].toNat = true) (h2 : isD s[a].toNat = false) : Calls Tryd.prog 23 #[.string s, .int .i64 a] w (RWQ w a (wordR (bl s) a)) := by
  have HD := Lib.hid (drop_at s a ha)
  obtain ⟨R, hR⟩ : ∃ R, wordR (bl s) a = R := ⟨_, rfl⟩
  rw [hR]
  unfold wordR at hR
  have HR := Lib.hid hR
  have HZ : Hid ((w.alloc (.cells #[.int .i64 0, .string ⟨#[]⟩, .int .i64 0, .int .i64 0] 31)).heap[w.heap.size]? = some (.cells #[.int .i64 0, .string ⟨#[]⟩, .int .i64 0, .int .i64 0] 31 (0, 0))) := Lib.hid (heap_alloc_new w _)
  have HB : Hid (Below w.heap.size w (w.alloc (.cells #[.int .i64 0, .string ⟨#[]⟩, .int .i64 0, .int .i64 0] 31))) := Lib.hid (below_new w _)
  have HL0 := Lib.hid (fun W => letter_any s[a].toNat W)
  have HD0 := Lib.hid (fun W => digit_any s[a].toNat W)
  clear hR
  rw [h2] at HD0
  have HP : Hid (0 < runF ((bl s).drop a)) := Lib.hid (by rw [HD.out, runF_yes (okB_l h1)]; omega)
  go_enter Tryd.func23, Tryd.ntmps23
  go_wp2_with fail
  generalize w.alloc (.cells #[.int .i64 0, .string ⟨#[]⟩, .int .i64 0, .int .i64 0] 31) = W at *
  go_loopw [6] (fun i wr => ∃ b : Nat, a ≤ b ∧ b ≤ s.size ∧ i = .int .i64 b ∧ Hid (a + runF ((bl s).drop a) = b + runF ((bl s).drop b)) ∧ wr = W) (fun i _ => s.size - (intOf i).toNat)
  case atStart => exact ⟨a, Nat.le_refl _, by omega, rfl, Lib.hid rfl, by trivial⟩
  case round =>
    obtain ⟨b, hab, hbs, rfl, HRU, rfl⟩ := hrel
    by_cases hlt : b < s.size
    · have hdl : decide (b < s.size) = true := decide_eq_true hlt
      have hk0 : (0 : Int) ≤ (b : Int) := by omega
      have hks : (b : Int) < (s.size : Int) := by omega
      have HCL := Lib.hid (fun W => letter_any s[b].toNat W)
      have HCD := Lib.hid (fun W => digit_any s[b].toNat W)
      have HDB := Lib.hid (drop_at s b hlt)
      cases hL : isL s[b].toNat with
      | true =>
        have HOK := Lib.hid (okB_l hL)
        rw [hL] at HCL
        have HC := Lib.hid hL
        clear hL
        have HR2 : Hid (a + runF ((bl s).drop a) = (b + 1) + runF ((bl s).drop (b + 1))) := Lib.hid (by have h1 := HRU.out; rw [HDB.out, runF_yes HOK.out] at h1; omega)
        clear HRU HDB HOK HC
        go_wp2_with fail
        refine (HCL.out _).mono ?_
        rintro e w2 ⟨rfl, rfl⟩
        go_wp2_with fail
        go_roundw
        case rel => exact ⟨b + 1, by omega, by omega, by go_num, HR2, by trivial⟩
        case measure => simp [intOf]; omega
      | false =>
        rw [hL] at HCL
        cases hD : isD s[b].toNat with
        | true =>
          have HOK := Lib.hid (okB_d hD)
          rw [hD] at HCD
          have HC := Lib.hid hL
          clear hL hD
          have HR2 : Hid (a + runF ((bl s).drop a) = (b + 1) + runF ((bl s).drop (b + 1))) := Lib.hid (by have h1 := HRU.out; rw [HDB.out, runF_yes HOK.out] at h1; omega)
          clear HRU HDB HOK HC
          go_wp2_with fail
          refine (HCL.out _).mono ?_
          rintro e w2 ⟨rfl, rfl⟩
          go_wp2_with fail
          refine (HCD.out _).mono ?_
          rintro e w2 ⟨rfl, rfl⟩
          go_wp2_with fail
          go_roundw
          case rel => exact ⟨b + 1, by omega, by omega, by go_num, HR2, by trivial⟩
          case measure => simp [intOf]; omega
        | false =>
          rw [hD] at HCD
          have HE : Hid (a + runF ((bl s).drop a) = b) := Lib.hid (by have h1 := HRU.out; rw [HDB.out, runF_no (okB_n hL hD)] at h1; omega)
          clear hL hD HRU HDB
          have hab2 : a < b := by have := HE.out; have := HP.out; omega
          have hd1 : decide (a < b) = true := decide_eq_true hab2
          have hd2 : decide ((a : Int) < (b : Int)) = true := decide_eq_true (by omega)
          have ha0 : (0 : Int) ≤ (a : Int) := by omega
          have ha1 : (a : Int) < (s.size : Int) := by omega
          go_wp2_with fail
          refine (HCL.out _).mono ?_
          rintro e w2 ⟨rfl, rfl⟩
          go_wp2_with fail
          refine (HCD.out _).mono ?_
          rintro e w2 ⟨rfl, rfl⟩
          clear HCL HCD
          go_wp2_with fail
          refine (HD0.out _).mono ?_
          rintro e w4 ⟨rfl, rfl⟩
          clear HD0 HL0
          obtain ⟨u, hu⟩ : ∃ u, s.extract a b = u := ⟨_, rfl⟩
          have hE3 : runF ((bl s).drop a) = b - a := by have := HE.out; omega
          have HU : Hid (bl u = ((bl s).drop a).take (b - a)) := Lib.hid (by rw [← hu, bl_ext])
          have HUS : Hid (u.size ≤ 1000000000) := Lib.hid (by rw [← hu, ByteArray.size_extract]; omega)
          have HX := Lib.hid (wordX_let (a := a) HD.out h1 hE3 HU.out)
          have HNM := Lib.hid (name_run HD.out (by rw [hE3]; exact HU.out) h1)
          have hba : a + (b - a) = b := by omega
          rw [HR.out, hba] at HX
          have HKE := Lib.hid (fun W => rkey_any u W)
          have HNA := Lib.hid (fun W => rname_any u W (by have := HUS.out; omega))
          clear hE3 hba HE HU
          cases hk : keyB u with
          | true =>
            rw [hk] at HX HKE
            have HY : Hid (R = some (1, bl u, 0, b)) := Lib.hid (by rw [HX.out, if_pos rfl])
            clear hk HNA HNM
            go_wp2_with fail
            refine (HKE.out _).mono ?_
            rintro e w5 ⟨rfl, hb5⟩
            have HZ5 := Lib.hid ((hb5.block _ (Array.getElem?_eq_some_iff.1 HZ.out).1).trans HZ.out)
            have HB5 := Lib.hid (HB.out.trans (hb5.mono HB.out.size))
            clear HZ HB hb5
            have HZ := HZ5
            have HB := HB5
            clear HZ5 HB5
            go_wp2_with (refine wpList_store_row rfl 31 (.tmp 4) (.tmp 82) rfl w.heap.size #[.int .i64 1, .string u, .int .i64 0, .int .i64 a] rfl rfl 31 _ HZ.out size31 rfl (by simp [Value.oneCell']) ?_)
            change bodyPost _ _ _ Exit.ret _ _
            refine bodyPost_ret (res23 _ w.heap.size _ _ _ _ _ _ rfl rfl (setRow_heap _ _ _ _ _ _ HZ.out)) rfl ?_
            refine ⟨?_, HB.out.trans ⟨rfl, rfl, rfl, by simp, fun k hk => setRow_other _ _ _ _ (by omega)⟩⟩
            rw [HY.out]; simp only [rwV, wdV, endV, ofL_bl]; rfl

          | false =>
            rw [hk] at HX HKE HNM
            cases h64 : decide (u.size ≤ 64) with
            | true =>
              have HY : Hid (R = some (0, bl u, 0, b)) := Lib.hid (by rw [HX.out, if_neg (by simp), if_neg (by have := of_decide_eq_true h64; omega)])
              have hnm : nameB u = true := by rw [HNM.out, h64]; rfl
              rw [hnm] at HNA
              clear hk h64 hnm
              go_wp2_with fail
              refine (HKE.out _).mono ?_
              rintro e w5 ⟨rfl, hb5⟩
              have HZ5 := Lib.hid ((hb5.block _ (Array.getElem?_eq_some_iff.1 HZ.out).1).trans HZ.out)
              have HB5 := Lib.hid (HB.out.trans (hb5.mono HB.out.size))
              clear HZ HB hb5
              go_wp2_with fail
              refine (HNA.out _).mono ?_
              rintro e w6 ⟨rfl, hb5⟩
              have HZ := Lib.hid ((hb5.block _ (Array.getElem?_eq_some_iff.1 HZ5.out).1).trans HZ5.out)
              have HB := Lib.hid (HB5.out.trans (hb5.mono HB5.out.size))
              clear HZ5 HB5 hb5
              go_wp2_with (refine wpList_store_row rfl 31 (.tmp 4) (.tmp 90) rfl w.heap.size #[.int .i64 0, .string u, .int .i64 0, .int .i64 a] rfl rfl 31 _ HZ.out size31 rfl (by simp [Value.oneCell']) ?_)
              change bodyPost _ _ _ Exit.ret _ _
              refine bodyPost_ret (res23 _ w.heap.size _ _ _ _ _ _ rfl rfl (setRow_heap _ _ _ _ _ _ HZ.out)) rfl ?_
              refine ⟨?_, HB.out.trans ⟨rfl, rfl, rfl, by simp, fun k hk => setRow_other _ _ _ _ (by omega)⟩⟩
              rw [HY.out]; simp only [rwV, wdV, endV, ofL_bl]; rfl

            | false =>
              have HY : Hid (R = none) := Lib.hid (by rw [HX.out, if_neg (by simp), if_pos (by have := of_decide_eq_false h64; omega)])
              have hnm : nameB u = false := by rw [HNM.out, h64]; simp
              rw [hnm] at HNA
              clear hk h64 hnm
              go_wp2_with fail
              refine (HKE.out _).mono ?_
              rintro e w5 ⟨rfl, hb5⟩
              have HZ5 := Lib.hid ((hb5.block _ (Array.getElem?_eq_some_iff.1 HZ.out).1).trans HZ.out)
              have HB5 := Lib.hid (HB.out.trans (hb5.mono HB.out.size))
              clear HZ HB hb5
              go_wp2_with fail
              refine (HNA.out _).mono ?_
              rintro e w6 ⟨rfl, hb5⟩
              have HZ := Lib.hid ((hb5.block _ (Array.getElem?_eq_some_iff.1 HZ5.out).1).trans HZ5.out)
              have HB := Lib.hid (HB5.out.trans (hb5.mono HB5.out.size))
              clear HZ5 HB5 hb5
              go_wp2_with (refine wpList_store_row rfl 31 (.tmp 4) (.tmp 87) rfl w.heap.size #[.int .i64 0, .string ⟨#[]⟩, .int .i64 0, .int .i64 0] rfl rfl 31 _ HZ.out size31 rfl (by simp [Value.oneCell']) ?_)
              change bodyPost _ _ _ Exit.ret _ _
              refine bodyPost_ret (res23 _ w.heap.size _ _ _ _ _ _ rfl rfl (setRow_heap _ _ _ _ _ _ HZ.out)) rfl ?_
              refine ⟨?_, HB.out.trans ⟨rfl, rfl, rfl, by simp, fun k hk => setRow_other _ _ _ _ (by omega)⟩⟩
              rw [HY.out]; rfl


    · have hdl : decide (b < s.size) = false := decide_eq_false hlt
      have HE : Hid (a + runF ((bl s).drop a) = b) := Lib.hid (by have h1 := HRU.out; rw [List.drop_of_length_le (l := bl s) (i := b) (by rw [bl_len]; omega)] at h1; exact h1)
      clear HRU
      have hab2 : a < b := by have := HE.out; have := HP.out; omega
      have hd1 : decide (a < b) = true := decide_eq_true hab2
      have hd2 : decide ((a : Int) < (b : Int)) = true := decide_eq_true (by omega)
      have ha0 : (0 : Int) ≤ (a : Int) := by omega
      have ha1 : (a : Int) < (s.size : Int) := by omega
      go_wp2_with fail
      refine (HD0.out _).mono ?_
      rintro e w4 ⟨rfl, rfl⟩
      clear HD0 HL0
      obtain ⟨u, hu⟩ : ∃ u, s.extract a b = u := ⟨_, rfl⟩
      have hE3 : runF ((bl s).drop a) = b - a := by have := HE.out; omega
      have HU : Hid (bl u = ((bl s).drop a).take (b - a)) := Lib.hid (by rw [← hu, bl_ext])
      have HUS : Hid (u.size ≤ 1000000000) := Lib.hid (by rw [← hu, ByteArray.size_extract]; omega)
      have HX := Lib.hid (wordX_let (a := a) HD.out h1 hE3 HU.out)
      have HNM := Lib.hid (name_run HD.out (by rw [hE3]; exact HU.out) h1)
      have hba : a + (b - a) = b := by omega
      rw [HR.out, hba] at HX
      have HKE := Lib.hid (fun W => rkey_any u W)
      have HNA := Lib.hid (fun W => rname_any u W (by have := HUS.out; omega))
      clear hE3 hba HE HU
      cases hk : keyB u with
      | true =>
        rw [hk] at HX HKE
        have HY : Hid (R = some (1, bl u, 0, b)) := Lib.hid (by rw [HX.out, if_pos rfl])
        clear hk HNA HNM
        go_wp2_with fail
        refine (HKE.out _).mono ?_
        rintro e w5 ⟨rfl, hb5⟩
        have HZ5 := Lib.hid ((hb5.block _ (Array.getElem?_eq_some_iff.1 HZ.out).1).trans HZ.out)
        have HB5 := Lib.hid (HB.out.trans (hb5.mono HB.out.size))
        clear HZ HB hb5
        have HZ := HZ5
        have HB := HB5
        clear HZ5 HB5
        go_wp2_with (refine wpList_store_row rfl 31 (.tmp 4) (.tmp 82) rfl w.heap.size #[.int .i64 1, .string u, .int .i64 0, .int .i64 a] rfl rfl 31 _ HZ.out size31 rfl (by simp [Value.oneCell']) ?_)
        change bodyPost _ _ _ Exit.ret _ _
        refine bodyPost_ret (res23 _ w.heap.size _ _ _ _ _ _ rfl rfl (setRow_heap _ _ _ _ _ _ HZ.out)) rfl ?_
        refine ⟨?_, HB.out.trans ⟨rfl, rfl, rfl, by simp, fun k hk => setRow_other _ _ _ _ (by omega)⟩⟩
        rw [HY.out]; simp only [rwV, wdV, endV, ofL_bl]; rfl

      | false =>
        rw [hk] at HX HKE HNM
        cases h64 : decide (u.size ≤ 64) with
        | true =>
          have HY : Hid (R = some (0, bl u, 0, b)) := Lib.hid (by rw [HX.out, if_neg (by simp), if_neg (by have := of_decide_eq_true h64; omega)])
          have hnm : nameB u = true := by rw [HNM.out, h64]; rfl
          rw [hnm] at HNA
          clear hk h64 hnm
          go_wp2_with fail
          refine (HKE.out _).mono ?_
          rintro e w5 ⟨rfl, hb5⟩
          have HZ5 := Lib.hid ((hb5.block _ (Array.getElem?_eq_some_iff.1 HZ.out).1).trans HZ.out)
          have HB5 := Lib.hid (HB.out.trans (hb5.mono HB.out.size))
          clear HZ HB hb5
          go_wp2_with fail
          refine (HNA.out _).mono ?_
          rintro e w6 ⟨rfl, hb5⟩
          have HZ := Lib.hid ((hb5.block _ (Array.getElem?_eq_some_iff.1 HZ5.out).1).trans HZ5.out)
          have HB := Lib.hid (HB5.out.trans (hb5.mono HB5.out.size))
          clear HZ5 HB5 hb5
          go_wp2_with (refine wpList_store_row rfl 31 (.tmp 4) (.tmp 90) rfl w.heap.size #[.int .i64 0, .string u, .int .i64 0, .int .i64 a] rfl rfl 31 _ HZ.out size31 rfl (by simp [Value.oneCell']) ?_)
          change bodyPost _ _ _ Exit.ret _ _
          refine bodyPost_ret (res23 _ w.heap.size _ _ _ _ _ _ rfl rfl (setRow_heap _ _ _ _ _ _ HZ.out)) rfl ?_
          refine ⟨?_, HB.out.trans ⟨rfl, rfl, rfl, by simp, fun k hk => setRow_other _ _ _ _ (by omega)⟩⟩
          rw [HY.out]; simp only [rwV, wdV, endV, ofL_bl]; rfl

        | false =>
          have HY : Hid (R = none) := Lib.hid (by rw [HX.out, if_neg (by simp), if_pos (by have := of_decide_eq_false h64; omega)])
          have hnm : nameB u = false := by rw [HNM.out, h64]; simp
          rw [hnm] at HNA
          clear hk h64 hnm
          go_wp2_with fail
          refine (HKE.out _).mono ?_
          rintro e w5 ⟨rfl, hb5⟩
          have HZ5 := Lib.hid ((hb5.block _ (Array.getElem?_eq_some_iff.1 HZ.out).1).trans HZ.out)
          have HB5 := Lib.hid (HB.out.trans (hb5.mono HB.out.size))
          clear HZ HB hb5
          go_wp2_with fail
          refine (HNA.out _).mono ?_
          rintro e w6 ⟨rfl, hb5⟩
          have HZ := Lib.hid ((hb5.block _ (Array.getElem?_eq_some_iff.1 HZ5.out).1).trans HZ5.out)
          have HB := Lib.hid (HB5.out.trans (hb5.mono HB5.out.size))
          clear HZ5 HB5 hb5
          go_wp2_with (refine wpList_store_row rfl 31 (.tmp 4) (.tmp 87) rfl w.heap.size #[.int .i64 0, .string ⟨#[]⟩, .int .i64 0, .int .i64 0] rfl rfl 31 _ HZ.out size31 rfl (by simp [Value.oneCell']) ?_)
          change bodyPost _ _ _ Exit.ret _ _
          refine bodyPost_ret (res23 _ w.heap.size _ _ _ _ _ _ rfl rfl (setRow_heap _ _ _ _ _ _ HZ.out)) rfl ?_
          refine ⟨?_, HB.out.trans ⟨rfl, rfl, rfl, by simp, fun k hk => setRow_other _ _ _ _ (by omega)⟩⟩
          rw [HY.out]; rfl


end Go.Proofs.YtejicjcdbfjajaaDoor
