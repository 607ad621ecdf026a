/- The word that begins at a place: a number. -/
import Derived.Test.YtejicjcdbfjajaaDoorWrd
namespace Go.Proofs.YtejicjcdbfjajaaDoor
open Go Go.RowKit
theorem quiet_M {P : Program} {f : FuncId} {args : Array Value} {w : World} {n : Nat} {v : Value} (h : Calls P f args (w.drewN n) fun e w' => e = .returned v ∧ w' = w.drewN n) :
    Calls P f args (w.drewN n) fun e w'' => e = .returned v ∧ ∃ m, w'' = w.drewN m := h.mono fun _ _ ⟨he, hm⟩ => ⟨he, n, hm⟩
theorem cls_two {n : Nat} (h : isL n = false) (h2 : isD n = true) : (clsN n == 1) = false ∧ (clsN n == 2) = true := by unfold clsN; rw [h, h2]; exact ⟨rfl, rfl⟩
theorem wordX_num {a r : Nat} {x : List UInt8} {c : UInt8} {y : List UInt8} {u : ByteArray} (hx : x = c :: y) (hl : isL c.toNat = false) (hd : isD c.toNat = true) (hr : runF x = r) (hu : bl u = x.take r) : wordX a x = match numF 0 (bl u) with | none => none | some n => some (2, [], n, a + r) := by
  subst hx
  simp only [wordX, hl, hd, if_true, hr, ← hu]
  rfl
set_option maxRecDepth 100000 in
set_option maxHeartbeats 16000000 in
theorem word_num (S : Nat) (s : ByteArray) (m a : Nat) (w : World) (h : Sou w S s m) (ha : a < s.size) (hl : isL s[a].toNat = false) (hd : isD s[a].toNat = true) :
    Calls Tryd.prog 44 #[SP S, .int .i64 a] w (WordQ w a (wordR (bl s) a)) := by
  have hmx := h.max
  have HWS := Lib.hid (ws_new (a := a) h)
  have hlt := h.lt
  have HD := Lib.hid (drop_at s a ha)
  obtain ⟨R, hR⟩ : ∃ R, wordR (bl s) a = R := ⟨_, rfl⟩
  rw [hR]
  unfold wordR at hR
  have HR := Lib.hid hR
  clear h hR
  go_enter Tryd.func44, Tryd.ntmps44
  go_wp2_with fail
  refine wp_scope_jumps 0 (JW w S a s m R) (fun _ _ => 0) rfl ?first ?pass
  case pass =>
    rintro ⟨T, df⟩ W' ⟨HRN, ⟨k, t, n, hws⟩, hdf, hsz, h3, h4⟩
    simp only at hdf hsz h3 h4
    subst hdf
    obtain ⟨u, rfl⟩ := lit132 T hsz
    change u 3 = _ at h3
    change u 4 = _ at h4
    rw [h3, h4]
    clear h3 h4 hsz
    have HW := Lib.hid hws
    have HZ := Lib.hid hws.b2
    obtain ⟨z0, z1, z2, z3, z4, z5, z6, z7⟩ := hws.cells
    clear hws
    go_wp2_with (refine wpList_store_row rfl 31 (.tmp 4) (.tmp 131) rfl (w.heap.size + 1 + 1) #[.int .i64 0, .string ⟨#[]⟩, .int .i64 0, .int .i64 a] rfl rfl 31 _ HZ.out size31 rfl (by simp [Value.oneCell']) ?_)
    change bodyPost _ _ _ Exit.ret _ _
    refine bodyPost_ret (res44 _ (w.heap.size + 1 + 1) _ _ _ _ _ _ rfl rfl (setRow_heap _ _ _ _ _ _ HZ.out)) rfl ?_
    refine ⟨?_, HW.out.bel.trans ⟨rfl, rfl, rfl, by simp, fun k hk => setRow_other _ _ _ _ (by omega)⟩⟩
    first | rfl | (rw [HRN]; rfl)
  go_wp2_with fail
  generalize ((((w.alloc (.cells #[SP S] 88)).alloc (.cells #[.int .i64 a] 3)).alloc (.cells #[.int .i64 0, .string ⟨#[]⟩, .int .i64 0, .int .i64 0] 31)).alloc (.cells #[.int .i64 0, .string ⟨#[]⟩, .int .i64 0, .int .i64 a] 31)) = W at *
  obtain ⟨z0, z1, z2, z3, z4, z5, z6, z7⟩ := HWS.out.cells
  go_quiet (fail)
  generalize nq = q
  have HW1 := Lib.hid (HWS.out.drew q)
  clear HWS z0 z1 z2 z3 z4 z5 z6 z7
  generalize W.drewN q = W at *
  obtain ⟨z0, z1, z2, z3, z4, z5, z6, z7⟩ := HW1.out.cells
  obtain ⟨c, hc⟩ : ∃ c, s[a].toNat = c := ⟨_, rfl⟩
  have HC := Lib.hid hc
  have HCL := Lib.hid (class_any c W)
  go_wp2_with fail
  refine HCL.out.mono ?_
  rintro e w' ⟨rfl, rfl⟩
  obtain ⟨hL, hL2⟩ := cls_two (n := c) (by rw [← HC.out]; exact hl) (by rw [← HC.out]; exact hd)
  have HCL2 := Lib.hid (class_any c w')
  obtain ⟨r, hr⟩ : ∃ r, runF ((bl s).drop a) = r := ⟨_, rfl⟩
  have hrl := runF_le ((bl s).drop a)
  rw [List.length_drop, bl_len, hr] at hrl
  have HRN := Lib.hid (run_any S s m a w' HW1.out.sou (by omega))
  rw [hr] at HRN
  have HRR := Lib.hid hr
  have hE : a + r ≤ s.size := by omega
  obtain ⟨u, hu⟩ : ∃ u, s.extract a (a + r) = u := ⟨_, rfl⟩
  have HU : Hid (bl u = ((bl s).drop a).take r) := Lib.hid (by rw [← hu, bl, ByteArray.data_extract, Array.toList_extract, List.extract_eq_take_drop, Nat.add_sub_cancel_left])
  have HUS : Hid (u.size ≤ 1000000000) := Lib.hid (by rw [← hu, ByteArray.size_extract]; omega)
  clear hr hrl
  have HX := Lib.hid (wordX_num (a := a) HD.out hl hd HRR.out HU.out)
  rw [HR.out] at HX
  have HM := Lib.hid (fun V => number_any u V (by have := HUS.out; omega))
  go_wp2_with fail
  refine HCL2.out.mono ?_
  rintro e w' ⟨rfl, rfl⟩
  go_wp2_with fail
  refine HRN.out.mono ?_
  rintro e w' ⟨rfl, rfl⟩
  obtain ⟨o, ho⟩ : ∃ o, numF 0 (bl u) = o := ⟨_, rfl⟩
  rw [ho] at HX HM
  clear HCL HCL2 HRN ho
  cases o with
  | none =>
    have HY : Hid (R = none) := Lib.hid HX.out
    rw [numT_none] at HM
    go_wp2_with fail
    go_quiet ((go_at_call 58; exact quiet_M (HM.out _)))
    generalize nq = q1
    have HW2 := Lib.hid (HW1.out.drew q1)
    clear HW1 z0 z1 z2 z3 z4 z5 z6 z7
    generalize w'.drewN q1 = V at *
    obtain ⟨z0, z1, z2, z3, z4, z5, z6, z7⟩ := HW2.out.cells
    go_wp2_with fail
    apply wp_goto
    exact ⟨rfl, HY.out, ⟨_, _, _, HW2.out⟩, rfl, rfl, rfl, rfl⟩
  | some nn =>
    have HY : Hid (R = some (2, [], (nn : Int), a + r)) := Lib.hid (by rw [HX.out])
    have hnn : (nn : Int) = nn := rfl
    rw [numT_some] at HM
    go_wp2_with fail
    go_quiet ((go_at_call 58; exact quiet_M (HM.out _)))
    generalize nq = q1
    have HW2 := Lib.hid (HW1.out.drew q1)
    clear HW1 z0 z1 z2 z3 z4 z5 z6 z7
    generalize w'.drewN q1 = V at *
    obtain ⟨z0, z1, z2, z3, z4, z5, z6, z7⟩ := HW2.out.cells
    have hf := HW2.out.free.1
    have HW3 := Lib.hid ((HW2.out.set hlt 0 (.int .i64 2) 2 ⟨#[]⟩ 0 rfl).set hlt 2 (.int .i64 nn) 2 ⟨#[]⟩ nn rfl)
    go_wp2_with fail
    have HUS := Lib.hid (show (⟨#[]⟩ : ByteArray).size ≤ 1000000000 by decide)
    refine (clone_any ⟨#[]⟩ _ HUS.out).mono ?_
    rintro e w4 ⟨rfl, hb4⟩
    have HW5 := Lib.hid ((HW3.out).below hb4)
    clear hb4
    obtain ⟨x0, x1, x2, x3, x4, x5, x6, x7⟩ := HW5.out.cells
    have hf5 := HW5.out.free.1
    have hg5 := HW5.out.free.2
    have HW6 := Lib.hid (HW5.out.set hlt 1 (.string ⟨#[]⟩) 2 ⟨#[]⟩ nn rfl)
    have HZ := Lib.hid HW6.out.b2
    have HB6 := Lib.hid HW6.out.bel
    go_wp2_with (refine wpList_store_row rfl 31 (.tmp 4) (.tmp 128) rfl (w.heap.size + 1 + 1) #[.int .i64 2, .string ⟨#[]⟩, .int .i64 nn, .int .i64 a] rfl rfl 31 _ HZ.out size31 rfl (by simp [Value.oneCell']) ?_)
    change bodyPost _ _ _ Exit.ret _ _
    refine bodyPost_ret (res44 _ (w.heap.size + 1 + 1) _ _ _ _ _ _ rfl rfl (setRow_heap _ _ _ _ _ _ HZ.out)) rfl ?_
    refine ⟨?_, HB6.out.trans ⟨rfl, rfl, rfl, by simp, fun k hk => setRow_other _ _ _ _ (by omega)⟩⟩
    rw [HY.out]
    simp only [wordV, ofL_bl]
    go_num

end Go.Proofs.YtejicjcdbfjajaaDoor
