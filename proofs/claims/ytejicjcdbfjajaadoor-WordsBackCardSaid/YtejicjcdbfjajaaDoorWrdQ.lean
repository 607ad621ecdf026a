/- The word that begins at a place: a text between quotes. -/
import Derived.Test.YtejicjcdbfjajaaDoorWrd
namespace Go.Proofs.YtejicjcdbfjajaaDoor
open Go Go.RowKit
theorem cls_quo {n : Nat} (h : n = 39 ∨ n = 34) : (clsN n == 1) = false ∧ (clsN n == 2) = false := by rcases h with rfl | rfl <;> exact ⟨rfl, rfl⟩
theorem wordX_quo {a : Nat} {x : List UInt8} {c : UInt8} {y : List UInt8} (hx : x = c :: y) (h : c.toNat = 39 ∨ c.toNat = 34) : wordX a x = match quoT c y with | none => none | some (t, n) => some (3, t, 0, a + 1 + n) := by
  subst hx
  have h1 : isL c.toNat = false := by rcases h with h | h <;> rw [h] <;> rfl
  have h2 : isD c.toNat = false := by rcases h with h | h <;> rw [h] <;> rfl
  simp only [wordX, h1, h2, if_pos h]
  rfl
set_option maxRecDepth 100000 in
set_option maxHeartbeats 16000000 in
theorem word_quo (S : Nat) (s : ByteArray) (m a : Nat) (w : World) (h : Sou w S s m) (ha : a < s.size) (hq : s[a].toNat = 39 ∨ s[a].toNat = 34) :
    Calls Tryd.prog 44 #[SP S, .int .i64 a] w (WordQ w a (wordR (bl s) a)) := by
  have hmx := h.max
  have HWS := Lib.hid (ws_new (a := a) h)
  have hlt := h.lt
  have HD := Lib.hid (drop_at s a ha)
  obtain ⟨R, hR⟩ : ∃ R, wordR (bl s) a = R := ⟨_, rfl⟩
  rw [hR]
  unfold wordR at hR
  have HR := Lib.hid hR
  clear h hR
  go_enter Tryd.func44, Tryd.ntmps44
  go_wp2_with fail
  refine wp_scope_jumps 0 (JW w S a s m R) (fun _ _ => 0) rfl ?first ?pass
  case pass =>
    rintro ⟨T, df⟩ W' ⟨HRN, ⟨k, t, n, hws⟩, hdf, hsz, h3, h4⟩
    simp only at hdf hsz h3 h4
    subst hdf
    obtain ⟨u, rfl⟩ := lit132 T hsz
    change u 3 = _ at h3
    change u 4 = _ at h4
    rw [h3, h4]
    clear h3 h4 hsz
    have HW := Lib.hid hws
    have HZ := Lib.hid hws.b2
    obtain ⟨z0, z1, z2, z3, z4, z5, z6, z7⟩ := hws.cells
    clear hws
    go_wp2_with (refine wpList_store_row rfl 31 (.tmp 4) (.tmp 131) rfl (w.heap.size + 1 + 1) #[.int .i64 0, .string ⟨#[]⟩, .int .i64 0, .int .i64 a] rfl rfl 31 _ HZ.out size31 rfl (by simp [Value.oneCell']) ?_)
    change bodyPost _ _ _ Exit.ret _ _
    refine bodyPost_ret (res44 _ (w.heap.size + 1 + 1) _ _ _ _ _ _ rfl rfl (setRow_heap _ _ _ _ _ _ HZ.out)) rfl ?_
    refine ⟨?_, HW.out.bel.trans ⟨rfl, rfl, rfl, by simp, fun k hk => setRow_other _ _ _ _ (by omega)⟩⟩
    first | rfl | (rw [HRN]; rfl)
  go_wp2_with fail
  generalize ((((w.alloc (.cells #[SP S] 88)).alloc (.cells #[.int .i64 a] 3)).alloc (.cells #[.int .i64 0, .string ⟨#[]⟩, .int .i64 0, .int .i64 0] 31)).alloc (.cells #[.int .i64 0, .string ⟨#[]⟩, .int .i64 0, .int .i64 a] 31)) = W at *
  obtain ⟨z0, z1, z2, z3, z4, z5, z6, z7⟩ := HWS.out.cells
  go_quiet (fail)
  generalize nq = q
  have HW1 := Lib.hid (HWS.out.drew q)
  clear HWS z0 z1 z2 z3 z4 z5 z6 z7
  generalize W.drewN q = W at *
  obtain ⟨z0, z1, z2, z3, z4, z5, z6, z7⟩ := HW1.out.cells
  obtain ⟨c, hc⟩ : ∃ c, s[a].toNat = c := ⟨_, rfl⟩
  have HC := Lib.hid hc
  have HCL := Lib.hid (class_any c W)
  go_wp2_with fail
  refine HCL.out.mono ?_
  rintro e w' ⟨rfl, rfl⟩
  have hcq : c = 39 ∨ c = 34 := by rw [← HC.out]; exact hq
  obtain ⟨hL, hL2⟩ := cls_quo hcq
  have HCL2 := Lib.hid (class_any c w')
  have HX := Lib.hid (wordX_quo (a := a) HD.out hq)
  rw [HR.out] at HX
  have HQ := Lib.hid (quoted_any S s m a w' HW1.out.sou (by omega) (by rcases hq with h | h <;> rw [h] <;> decide))
  obtain ⟨o, ho⟩ : ∃ o, quoT s[a] ((bl s).drop (a + 1)) = o := ⟨_, rfl⟩
  rw [ho] at HX HQ
  have HO := Lib.hid ho
  clear HCL ho hq
  cases o with
  | none =>
    have HY : Hid (R = none) := Lib.hid HX.out
    rw [quoV_none] at HQ
    rcases hcq with rfl | rfl
    all_goals
      go_wp2_with fail
      refine HCL2.out.mono ?_
      rintro e w' ⟨rfl, rfl⟩
      go_wp2_with fail
      refine HQ.out.mono ?_
      rintro e w4 ⟨rfl, hb⟩
      have HW3 := Lib.hid (HW1.out.below hb)
      clear hb
      go_wp2_with fail
      apply wp_goto
      exact ⟨rfl, HY.out, ⟨_, _, _, HW3.out⟩, rfl, rfl, rfl, rfl⟩
  | some x =>
    obtain ⟨t, nn⟩ := x
    have HY : Hid (R = some (3, t, 0, a + 1 + nn)) := Lib.hid (by rw [HX.out])
    have hql := quoT_len _ _ _ _ _ (show quoF s[a] _ _ = some (t, nn) from HO.out)
    rw [List.length_drop, bl_len] at hql
    have HUS : Hid ((ofL t).size ≤ 1000000000) := Lib.hid (by rw [← bl_len, bl_ofL]; omega)
    have hz : ((((a + 1 + nn : Nat) : Int)) == 0) = false := eq_dec (a := a + 1 + nn) (b := 0) (by omega)
    rw [quoV_some] at HQ
    clear hql
    obtain ⟨en, hen⟩ : ∃ en, a + 1 + nn = en := ⟨_, rfl⟩
    rw [hen] at HQ HY hz
    clear hen
    rcases hcq with rfl | rfl
    all_goals
      go_wp2_with fail
      refine HCL2.out.mono ?_
      rintro e w' ⟨rfl, rfl⟩
      go_wp2_with fail
      refine HQ.out.mono ?_
      rintro e w4 ⟨rfl, hb⟩
      have HW2 := Lib.hid (HW1.out.below hb)
      have hf := HW2.out.free.1
      clear hb
      obtain ⟨x0, x1, x2, x3, x4, x5, x6, x7⟩ := HW2.out.cells
      have HW3 := Lib.hid ((HW2.out.set hlt 0 (.int .i64 3) 3 ⟨#[]⟩ 0 rfl).set hlt 1 (.string (ofL t)) 3 (ofL t) 0 rfl)
      go_wp2_with fail
      refine (clone_any (ofL t) _ HUS.out).mono ?_
      rintro e w4 ⟨rfl, hb4⟩
      have HW5 := Lib.hid ((HW3.out).below hb4)
      clear hb4
      obtain ⟨x0, x1, x2, x3, x4, x5, x6, x7⟩ := HW5.out.cells
      have hf5 := HW5.out.free.1
      have hg5 := HW5.out.free.2
      have HW6 := Lib.hid (HW5.out.set hlt 1 (.string (ofL t)) 3 (ofL t) 0 rfl)
      have HZ := Lib.hid HW6.out.b2
      have HB6 := Lib.hid HW6.out.bel
      go_wp2_with (refine wpList_store_row rfl 31 (.tmp 4) (.tmp 128) rfl (w.heap.size + 1 + 1) #[.int .i64 3, .string (ofL t), .int .i64 0, .int .i64 a] rfl rfl 31 _ HZ.out size31 rfl (by simp [Value.oneCell']) ?_)
      change bodyPost _ _ _ Exit.ret _ _
      refine bodyPost_ret (res44 _ (w.heap.size + 1 + 1) _ _ _ _ _ _ rfl rfl (setRow_heap _ _ _ _ _ _ HZ.out)) rfl ?_
      refine ⟨?_, HB6.out.trans ⟨rfl, rfl, rfl, by simp, fun k hk => setRow_other _ _ _ _ (by omega)⟩⟩
      rw [HY.out]
      simp only [wordV]
      rfl

end Go.Proofs.YtejicjcdbfjajaaDoor
