/- The document's word that begins at a place: one of four kinds. -/
import Derived.Test.YtejicjcdbfjajaaDoorRwa
namespace Go.Proofs.YtejicjcdbfjajaaDoor
open Go Go.RowKit
set_option maxRecDepth 100000 in
set_option maxHeartbeats 16000000 in
theorem rword_P (s : ByteArray) (a : Nat) (w : World) (hs : s.size ≤ 1048576) (ha : a < s.size) (h3 : s[a].toNat = 34) : Calls Tryd.prog 23 #[.string s, .int .i64 a] w (RWQ w a (wordR (bl s) a)) := by
  have HD := Lib.hid (drop_at s a ha)
  obtain ⟨R, hR⟩ : ∃ R, wordR (bl s) a = R := ⟨_, rfl⟩
  rw [hR]
  unfold wordR at hR
  have HR := Lib.hid hR
  have HZ : Hid ((w.alloc (.cells #[.int .i64 0, .string ⟨#[]⟩, .int .i64 0, .int .i64 0] 31)).heap[w.heap.size]? = some (.cells #[.int .i64 0, .string ⟨#[]⟩, .int .i64 0, .int .i64 0] 31 (0, 0))) := Lib.hid (heap_alloc_new w _)
  have HB : Hid (Below w.heap.size w (w.alloc (.cells #[.int .i64 0, .string ⟨#[]⟩, .int .i64 0, .int .i64 0] 31))) := Lib.hid (below_new w _)
  have HL0 := Lib.hid (fun W => letter_any s[a].toNat W)
  have HD0 := Lib.hid (fun W => digit_any s[a].toNat W)
  clear hR
  have h1 : isL s[a].toNat = false := by rw [h3]; rfl
  have h2 : isD s[a].toNat = false := by rw [h3]; rfl
  have HP : Hid (runF ((bl s).drop a) = 0) := Lib.hid (by rw [HD.out, runF_no (okB_n h1 h2)])
  clear h1 h2
  go_enter Tryd.func23, Tryd.ntmps23
  go_wp2_with fail
  generalize w.alloc (.cells #[.int .i64 0, .string ⟨#[]⟩, .int .i64 0, .int .i64 0] 31) = W at *
  go_loopw [6] (fun i wr => ∃ b : Nat, a ≤ b ∧ b ≤ s.size ∧ i = .int .i64 b ∧ Hid (a + runF ((bl s).drop a) = b + runF ((bl s).drop b)) ∧ wr = W) (fun i _ => s.size - (intOf i).toNat)
  case atStart => exact ⟨a, Nat.le_refl _, by omega, rfl, Lib.hid rfl, by trivial⟩
  case round =>
    obtain ⟨b, hab, hbs, rfl, HRU, rfl⟩ := hrel
    by_cases hlt : b < s.size
    · have hdl : decide (b < s.size) = true := decide_eq_true hlt
      have hk0 : (0 : Int) ≤ (b : Int) := by omega
      have hks : (b : Int) < (s.size : Int) := by omega
      have HCL := Lib.hid (fun W => letter_any s[b].toNat W)
      have HCD := Lib.hid (fun W => digit_any s[b].toNat W)
      have HDB := Lib.hid (drop_at s b hlt)
      cases hL : isL s[b].toNat with
      | true =>
        have HOK := Lib.hid (okB_l hL)
        rw [hL] at HCL
        have HC := Lib.hid hL
        clear hL
        have HR2 : Hid (a + runF ((bl s).drop a) = (b + 1) + runF ((bl s).drop (b + 1))) := Lib.hid (by have h1 := HRU.out; rw [HDB.out, runF_yes HOK.out] at h1; omega)
        clear HRU HDB HOK HC
        go_wp2_with fail
        refine (HCL.out _).mono ?_
        rintro e w2 ⟨rfl, rfl⟩
        go_wp2_with fail
        go_roundw
        case rel => exact ⟨b + 1, by omega, by omega, by go_num, HR2, by trivial⟩
        case measure => simp [intOf]; omega
      | false =>
        rw [hL] at HCL
        cases hD : isD s[b].toNat with
        | true =>
          have HOK := Lib.hid (okB_d hD)
          rw [hD] at HCD
          have HC := Lib.hid hL
          clear hL hD
          have HR2 : Hid (a + runF ((bl s).drop a) = (b + 1) + runF ((bl s).drop (b + 1))) := Lib.hid (by have h1 := HRU.out; rw [HDB.out, runF_yes HOK.out] at h1; omega)
          clear HRU HDB HOK HC
          go_wp2_with fail
          refine (HCL.out _).mono ?_
          rintro e w2 ⟨rfl, rfl⟩
          go_wp2_with fail
          refine (HCD.out _).mono ?_
          rintro e w2 ⟨rfl, rfl⟩
          go_wp2_with fail
          go_roundw
          case rel => exact ⟨b + 1, by omega, by omega, by go_num, HR2, by trivial⟩
          case measure => simp [intOf]; omega
        | false =>
          rw [hD] at HCD
          have HE : Hid (a + runF ((bl s).drop a) = b) := Lib.hid (by have h1 := HRU.out; rw [HDB.out, runF_no (okB_n hL hD)] at h1; omega)
          clear hL hD HRU HDB
          have hab2 : b = a := by have := HE.out; have := HP.out; omega
          have hd1 : decide (a < b) = false := decide_eq_false (by omega)
          have hd2 : decide ((a : Int) < (b : Int)) = false := decide_eq_false (by omega)
          have ha0 : (0 : Int) ≤ (a : Int) := by omega
          have ha1 : (a : Int) < (s.size : Int) := by omega
          clear hab2
          go_wp2_with fail
          refine (HCL.out _).mono ?_
          rintro e w2 ⟨rfl, rfl⟩
          go_wp2_with fail
          refine (HCD.out _).mono ?_
          rintro e w2 ⟨rfl, rfl⟩
          clear HCL HCD
          go_wp2_with fail
          clear HD0 HL0 HE
          have HT := Lib.hid (fun W => rtext_any s a W (by omega) ha (Or.inr h3))
          have HX := Lib.hid (wordX_quo (a := a) HD.out (Or.inr h3))
          rw [HR.out] at HX
          obtain ⟨o, ho⟩ : ∃ o, quoT s[a] ((bl s).drop (a + 1)) = o := ⟨_, rfl⟩
          rw [ho] at HX HT
          clear ho
          rcases o with _ | ⟨t, n⟩
          · have HY : Hid (R = none) := Lib.hid HX.out
            rw [quoV_none] at HT
            go_wp2_with fail
            refine (HT.out _).mono ?_
            rintro e w5 ⟨rfl, hb5⟩
            have HZ5 := Lib.hid ((hb5.block _ (Array.getElem?_eq_some_iff.1 HZ.out).1).trans HZ.out)
            have HB5 := Lib.hid (HB.out.trans (hb5.mono HB.out.size))
            clear HZ HB hb5 HT
            have HZ := HZ5
            have HB := HB5
            clear HZ5 HB5
            go_wp2_with (refine wpList_store_row rfl 31 (.tmp 4) (.tmp 110) rfl w.heap.size #[.int .i64 0, .string ⟨#[]⟩, .int .i64 0, .int .i64 0] rfl rfl 31 _ HZ.out size31 rfl (by simp [Value.oneCell']) ?_)
            change bodyPost _ _ _ Exit.ret _ _
            refine bodyPost_ret (res23 _ w.heap.size _ _ _ _ _ _ rfl rfl (setRow_heap _ _ _ _ _ _ HZ.out)) rfl ?_
            refine ⟨?_, HB.out.trans ⟨rfl, rfl, rfl, by simp, fun k hk => setRow_other _ _ _ _ (by omega)⟩⟩
            rw [HY.out]; rfl

          · obtain ⟨E, hE⟩ : ∃ E, a + 1 + n = E := ⟨_, rfl⟩
            have HY : Hid (R = some (3, t, 0, E)) := Lib.hid (by rw [HX.out, ← hE])
            rw [quoV_some, hE] at HT
            have hE1 : ((E : Int) == 0) = false := by simp; omega
            have hE2 : (E == 0) = false := by simp; omega
            clear hE HX
            go_wp2_with fail
            refine (HT.out _).mono ?_
            rintro e w5 ⟨rfl, hb5⟩
            have HZ5 := Lib.hid ((hb5.block _ (Array.getElem?_eq_some_iff.1 HZ.out).1).trans HZ.out)
            have HB5 := Lib.hid (HB.out.trans (hb5.mono HB.out.size))
            clear HZ HB hb5 HT
            have HZ := HZ5
            have HB := HB5
            clear HZ5 HB5
            go_wp2_with (refine wpList_store_row rfl 31 (.tmp 4) (.tmp 113) rfl w.heap.size #[.int .i64 3, .string (ofL t), .int .i64 0, .int .i64 a] rfl rfl 31 _ HZ.out size31 rfl (by simp [Value.oneCell']) ?_)
            change bodyPost _ _ _ Exit.ret _ _
            refine bodyPost_ret (res23 _ w.heap.size _ _ _ _ _ _ rfl rfl (setRow_heap _ _ _ _ _ _ HZ.out)) rfl ?_
            refine ⟨?_, HB.out.trans ⟨rfl, rfl, rfl, by simp, fun k hk => setRow_other _ _ _ _ (by omega)⟩⟩
            rw [HY.out]; rfl


    · have hdl : decide (b < s.size) = false := decide_eq_false hlt
      have HE : Hid (a + runF ((bl s).drop a) = b) := Lib.hid (by have h1 := HRU.out; rw [List.drop_of_length_le (l := bl s) (i := b) (by rw [bl_len]; omega)] at h1; exact h1)
      clear HRU
      have hab2 : b = a := by have := HE.out; have := HP.out; omega
      have hd1 : decide (a < b) = false := decide_eq_false (by omega)
      have hd2 : decide ((a : Int) < (b : Int)) = false := decide_eq_false (by omega)
      have ha0 : (0 : Int) ≤ (a : Int) := by omega
      have ha1 : (a : Int) < (s.size : Int) := by omega
      clear hab2
      go_wp2_with fail
      clear HD0 HL0 HE
      have HT := Lib.hid (fun W => rtext_any s a W (by omega) ha (Or.inr h3))
      have HX := Lib.hid (wordX_quo (a := a) HD.out (Or.inr h3))
      rw [HR.out] at HX
      obtain ⟨o, ho⟩ : ∃ o, quoT s[a] ((bl s).drop (a + 1)) = o := ⟨_, rfl⟩
      rw [ho] at HX HT
      clear ho
      rcases o with _ | ⟨t, n⟩
      · have HY : Hid (R = none) := Lib.hid HX.out
        rw [quoV_none] at HT
        go_wp2_with fail
        refine (HT.out _).mono ?_
        rintro e w5 ⟨rfl, hb5⟩
        have HZ5 := Lib.hid ((hb5.block _ (Array.getElem?_eq_some_iff.1 HZ.out).1).trans HZ.out)
        have HB5 := Lib.hid (HB.out.trans (hb5.mono HB.out.size))
        clear HZ HB hb5 HT
        have HZ := HZ5
        have HB := HB5
        clear HZ5 HB5
        go_wp2_with (refine wpList_store_row rfl 31 (.tmp 4) (.tmp 110) rfl w.heap.size #[.int .i64 0, .string ⟨#[]⟩, .int .i64 0, .int .i64 0] rfl rfl 31 _ HZ.out size31 rfl (by simp [Value.oneCell']) ?_)
        change bodyPost _ _ _ Exit.ret _ _
        refine bodyPost_ret (res23 _ w.heap.size _ _ _ _ _ _ rfl rfl (setRow_heap _ _ _ _ _ _ HZ.out)) rfl ?_
        refine ⟨?_, HB.out.trans ⟨rfl, rfl, rfl, by simp, fun k hk => setRow_other _ _ _ _ (by omega)⟩⟩
        rw [HY.out]; rfl

      · obtain ⟨E, hE⟩ : ∃ E, a + 1 + n = E := ⟨_, rfl⟩
        have HY : Hid (R = some (3, t, 0, E)) := Lib.hid (by rw [HX.out, ← hE])
        rw [quoV_some, hE] at HT
        have hE1 : ((E : Int) == 0) = false := by simp; omega
        have hE2 : (E == 0) = false := by simp; omega
        clear hE HX
        go_wp2_with fail
        refine (HT.out _).mono ?_
        rintro e w5 ⟨rfl, hb5⟩
        have HZ5 := Lib.hid ((hb5.block _ (Array.getElem?_eq_some_iff.1 HZ.out).1).trans HZ.out)
        have HB5 := Lib.hid (HB.out.trans (hb5.mono HB.out.size))
        clear HZ HB hb5 HT
        have HZ := HZ5
        have HB := HB5
        clear HZ5 HB5
        go_wp2_with (refine wpList_store_row rfl 31 (.tmp 4) (.tmp 113) rfl w.heap.size #[.int .i64 3, .string (ofL t), .int .i64 0, .int .i64 a] rfl rfl 31 _ HZ.out size31 rfl (by simp [Value.oneCell']) ?_)
        change bodyPost _ _ _ Exit.ret _ _
        refine bodyPost_ret (res23 _ w.heap.size _ _ _ _ _ _ rfl rfl (setRow_heap _ _ _ _ _ _ HZ.out)) rfl ?_
        refine ⟨?_, HB.out.trans ⟨rfl, rfl, rfl, by simp, fun k hk => setRow_other _ _ _ _ (by omega)⟩⟩
        rw [HY.out]; rfl


end Go.Proofs.YtejicjcdbfjajaaDoor
