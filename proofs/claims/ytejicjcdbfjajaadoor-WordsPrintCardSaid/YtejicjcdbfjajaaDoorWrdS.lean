/- The word that begins at a place: a sign. -/
import Derived.Test.YtejicjcdbfjajaaDoorSgn
namespace Go.Proofs.YtejicjcdbfjajaaDoor
open Go Go.RowKit
theorem cls_non {n : Nat} (h : isL n = false) (h2 : isD n = false) : (clsN n == 1) = false ∧ (clsN n == 2) = false := by unfold clsN; rw [h, h2]; exact ⟨rfl, rfl⟩
theorem wordX_sgn {a : Nat} {x : List UInt8} {c : UInt8} {y : List UInt8} (hx : x = c :: y) (h1 : isL c.toNat = false) (h2 : isD c.toNat = false) (h3 : ¬ (c.toNat = 39 ∨ c.toNat = 34)) : wordX a x = if firstF (fun g => Lib.hasPrefix x (bl g)) sgs25 < 24 then some (4, bl (sgs25.getD (firstF (fun g => Lib.hasPrefix x (bl g)) sgs25) ⟨#[]⟩), 0, a + (sgs25.getD (firstF (fun g => Lib.hasPrefix x (bl g)) sgs25) ⟨#[]⟩).size) else none := by
  subst hx
  have h4 := (find_first (p := fun g => Lib.hasPrefix (c :: y) (bl g)) (e := ⟨#[]⟩) rfl sgs).2
  simp only [wordX]
  rw [if_neg (by rw [h1]; simp), if_neg (by rw [h2]; simp), if_neg h3, h4]
  rw [show sgs ++ [(⟨#[]⟩ : ByteArray)] = sgs25 from rfl, show sgs.length = 24 from rfl]
  by_cases h : firstF (fun g => Lib.hasPrefix (c :: y) (bl g)) sgs25 < 24
  · rw [if_pos h, if_pos h]
  · rw [if_neg h, if_neg h]
set_option maxRecDepth 100000 in
set_option maxHeartbeats 16000000 in
theorem word_sgn (S : Nat) (s : ByteArray) (m a : Nat) (w : World) (h : Sou w S s m) (ha : a < s.size) (h1 : isL s[a].toNat = false) (h2 : isD s[a].toNat = false) (h3 : ¬ (s[a].toNat = 39 ∨ s[a].toNat = 34)) :
    Calls Tryd.prog 44 #[SP S, .int .i64 a] w (WordQ w a (wordR (bl s) a)) := by
  have hmx := h.max
  have HWS := Lib.hid (ws_new (a := a) h)
  have hlt := h.lt
  have HD := Lib.hid (drop_at s a ha)
  obtain ⟨R, hR⟩ : ∃ R, wordR (bl s) a = R := ⟨_, rfl⟩
  rw [hR]
  unfold wordR at hR
  have HR := Lib.hid hR
  clear h hR
  go_enter Tryd.func44, Tryd.ntmps44
  go_wp2_with fail
  refine wp_scope_jumps 0 (JW w S a s m R) (fun _ _ => 0) rfl ?first ?pass
  case pass =>
    rintro ⟨T, df⟩ W' ⟨HRN, ⟨k, t, n, hws⟩, hdf, hsz, h3, h4⟩
    simp only at hdf hsz h3 h4
    subst hdf
    obtain ⟨u, rfl⟩ := lit132 T hsz
    change u 3 = _ at h3
    change u 4 = _ at h4
    rw [h3, h4]
    clear h3 h4 hsz
    have HW := Lib.hid hws
    have HZ := Lib.hid hws.b2
    obtain ⟨z0, z1, z2, z3, z4, z5, z6, z7⟩ := hws.cells
    clear hws
    go_wp2_with (refine wpList_store_row rfl 31 (.tmp 4) (.tmp 131) rfl (w.heap.size + 1 + 1) #[.int .i64 0, .string ⟨#[]⟩, .int .i64 0, .int .i64 a] rfl rfl 31 _ HZ.out size31 rfl (by simp [Value.oneCell']) ?_)
    change bodyPost _ _ _ Exit.ret _ _
    refine bodyPost_ret (res44 _ (w.heap.size + 1 + 1) _ _ _ _ _ _ rfl rfl (setRow_heap _ _ _ _ _ _ HZ.out)) rfl ?_
    refine ⟨?_, HW.out.bel.trans ⟨rfl, rfl, rfl, by simp, fun k hk => setRow_other _ _ _ _ (by omega)⟩⟩
    first | rfl | (rw [HRN]; rfl)
  go_wp2_with fail
  generalize ((((w.alloc (.cells #[SP S] 88)).alloc (.cells #[.int .i64 a] 3)).alloc (.cells #[.int .i64 0, .string ⟨#[]⟩, .int .i64 0, .int .i64 0] 31)).alloc (.cells #[.int .i64 0, .string ⟨#[]⟩, .int .i64 0, .int .i64 a] 31)) = W at *
  obtain ⟨z0, z1, z2, z3, z4, z5, z6, z7⟩ := HWS.out.cells
  go_quiet (fail)
  generalize nq = q
  have HW1 := Lib.hid (HWS.out.drew q)
  clear HWS z0 z1 z2 z3 z4 z5 z6 z7
  generalize W.drewN q = W at *
  obtain ⟨z0, z1, z2, z3, z4, z5, z6, z7⟩ := HW1.out.cells
  obtain ⟨c, hc⟩ : ∃ c, s[a].toNat = c := ⟨_, rfl⟩
  have HC := Lib.hid hc
  have HCL := Lib.hid (class_any c W)
  go_wp2_with fail
  refine HCL.out.mono ?_
  rintro e w' ⟨rfl, rfl⟩
  obtain ⟨hL, hL2⟩ := cls_non (n := c) (by rw [← HC.out]; exact h1) (by rw [← HC.out]; exact h2)
  have HCL2 := Lib.hid (class_any c w')
  have HX := Lib.hid (wordX_sgn (a := a) HD.out h1 h2 h3)
  rw [HR.out] at HX
  have g1 : ((c : Int) == 39) = false := eq_dec (a := c) (b := 39) (fun e => h3 (.inl (by rw [HC.out]; exact e)))
  have g2 : ((c : Int) == 34) = false := eq_dec (a := c) (b := 34) (fun e => h3 (.inr (by rw [HC.out]; exact e)))
  have HF := Lib.hid (find_sgn S w.heap.size (w.heap.size + 1) a m s w' z0 z1 HW1.out.sou (by omega))
  obtain ⟨k, hk⟩ : ∃ k, firstF (fun g => Lib.hasPrefix ((bl s).drop a) (bl g)) sgs25 = k := ⟨_, rfl⟩
  rw [hk] at HX HF
  have hk24 : k ≤ 24 := by
    rw [← hk]
    exact (find_first (p := fun g => Lib.hasPrefix ((bl s).drop a) (bl g)) (e := ⟨#[]⟩) rfl sgs).1
  clear h1 h2 h3 HCL hk
  go_wp2_with fail
  refine HCL2.out.mono ?_
  rintro e w' ⟨rfl, rfl⟩
  go_wp2_with fail
  refine HF.out.mono ?_
  rintro e w4 ⟨rfl, q, rfl⟩
  have HW2 := Lib.hid (HW1.out.drew q)
  clear HW1 z0 z1 z2 z3 z4 z5 z6 z7 HF HCL2
  generalize w'.drewN q = V at *
  obtain ⟨z0, z1, z2, z3, z4, z5, z6, z7⟩ := HW2.out.cells
  have hf := HW2.out.free.1
  have hcg := HW2.out.sou.sign k (by omega)
  have hcg2 := hcg
  rw [Nat.add_comm 2 k] at hcg2
  obtain ⟨g, hg⟩ : ∃ g, sgs25.getD k ⟨#[]⟩ = g := ⟨_, rfl⟩
  rw [hg] at hcg hcg2 HX
  by_cases h24 : k < 24
  · have hgs := sgs_some k h24
    rw [hg] at hgs
    have HY : Hid (R = some (4, bl g, 0, a + g.size)) := Lib.hid (by rw [HX.out, if_pos h24])
    have hge := ne_empty hgs.1
    have HUS : Hid (g.size ≤ 1000000000) := Lib.hid (by omega)
    have hg2 : g.size ≤ 2 := hgs.2
    clear hg hgs
    go_wp2_with fail
    go_region
    have HW3 := Lib.hid (((HW2.out.set hlt 0 (.int .i64 4) 4 ⟨#[]⟩ 0 rfl).set hlt 1 (.string g) 4 g 0 rfl).drew 1)
    change Hid (WS w (World.drew _) _ _ _ _ _ _ _) at HW3
    clear z0 z1 z2 z3 z4 z5 z6 z7 hf hcg hcg2
    generalize ((V.setCell ⟨w.heap.size + 1 + 1 + 1, 0, none⟩ (.int .i64 4)).setCell ⟨w.heap.size + 1 + 1 + 1, 1, none⟩ (.string g)).drew = X at *
    obtain ⟨z0, z1, z2, z3, z4, z5, z6, z7⟩ := HW3.out.cells
    have hf := HW3.out.free.1
    go_wp2_with fail
    refine (clone_any g _ HUS.out).mono ?_
    rintro e w4 ⟨rfl, hb4⟩
    have HW5 := Lib.hid ((HW3.out).below hb4)
    clear hb4
    obtain ⟨x0, x1, x2, x3, x4, x5, x6, x7⟩ := HW5.out.cells
    have hf5 := HW5.out.free.1
    have hg5 := HW5.out.free.2
    have HW6 := Lib.hid (HW5.out.set hlt 1 (.string g) 4 g 0 rfl)
    have HZ := Lib.hid HW6.out.b2
    have HB6 := Lib.hid HW6.out.bel
    go_wp2_with (refine wpList_store_row rfl 31 (.tmp 4) (.tmp 128) rfl (w.heap.size + 1 + 1) #[.int .i64 4, .string g, .int .i64 0, .int .i64 a] rfl rfl 31 _ HZ.out size31 rfl (by simp [Value.oneCell']) ?_)
    change bodyPost _ _ _ Exit.ret _ _
    refine bodyPost_ret (res44 _ (w.heap.size + 1 + 1) _ _ _ _ _ _ rfl rfl (setRow_heap _ _ _ _ _ _ HZ.out)) rfl ?_
    refine ⟨?_, HB6.out.trans ⟨rfl, rfl, rfl, by simp, fun k hk => setRow_other _ _ _ _ (by omega)⟩⟩
    rw [HY.out]
    simp only [wordV, ofL_bl]
    go_num

  · have HY : Hid (R = none) := Lib.hid (by rw [HX.out, if_neg h24])
    obtain rfl : k = 24 := by omega
    have hge : g = ⟨#[]⟩ := by rw [← hg]; rfl
    subst hge
    clear hg
    go_wp2_with fail
    apply wp_goto
    exact ⟨rfl, HY.out, ⟨_, _, _, HW2.out⟩, rfl, rfl, rfl, rfl⟩

end Go.Proofs.YtejicjcdbfjajaaDoor
