/- Proved here: 'taborlaw06.DequePlays' returns true for any list of calls. Conditions: none. -/
import Derived.LaidLaws
import Derived.Test.YtnnlfhdjakabmaaFrame
import Derived.Test.YtnnlfhdjakabmaaPs
import Derived.Deep.Cut
import Derived.Deep.RegionHeld3
namespace Go.Proofs.Ytnnlfhdjakabmaa.dequePlays
open Go Go.RowKit Go.ChangeShapes Go.WideShapes Go.ChangeAt
open Go.Shelf

open Go.Shelf
set_option maxHeartbeats 8000000 in
set_option maxRecDepth 100000 in
theorem walk (A : Option Addr) (n c : Nat) (l : List Act) (w : World) (hn : l.length = n) (bn : n ≤ 9223372036854775807) (ha : RdA w A l) (hs : ∀ a ∈ l, a.ok) :
    Calls Try.prog 12 #[.slice A n c] w fun e w' => e = .returned (.bool true) ∧ Below w.heap.size w w' := by
  have HW := Lib.hid (works_any w)
  have HN := Lib.hid hn
  have HA := Lib.hid ha
  have HS := Lib.hid hs
  clear hn ha hs
  go_enter Try.func12, Try.ntmps12
  go_wp2
  go_loop [3, 4] (fun x i => ∃ k m : Nat, k ≤ n ∧ i = .int .i64 k ∧ x = .int .i64 m ∧ 50 * k ≤ m ∧ m ≤ 140737488370000 ∧ Hid (∀ i (h : i < l.length), i < k → l[i].text.size ≤ m)) (fun _ i => n - (intOf i).toNat)
  case atStart => exact ⟨0, 0, Nat.zero_le _, rfl, rfl, by omega, by omega, Lib.hid (fun i h h2 => absurd h2 (by omega))⟩
  case round =>
  obtain ⟨k, m, hk, rfl, rfl, h50, hm, HT⟩ := hrel
  by_cases hm3 : m ≤ 3000
  rotate_left
  · have d3 : decide ((m : Int) ≤ 3000) = false := by simp; omega
    have d4 : decide ((m : Int) > 3000) = true := by simp; omega
    by_cases hlt : k < n
    all_goals
      go_wp2_with fail
      refine HW.out.mono ?_
      rintro e w2 ⟨rfl, hb2⟩
      go_wp2
      go_ret
      exact ⟨rfl, hb2⟩
  by_cases hlt : k < n
  · obtain ⟨b, off, rfl, hbb, -, hca, -, -⟩ := HA.out.at (k := k) (by have := HN.out; omega)
    obtain ⟨x, hx⟩ : ∃ x, l[k]'(by have := HN.out; omega) = x := ⟨_, rfl⟩
    have hxs : x.text.size ≤ 140737488351232 := by rw [← hx]; exact (HS.out _ (List.getElem_mem _)).2.1
    have HT2 : Hid (∀ i (h : i < l.length), i < k + 1 → l[i].text.size ≤ m + 50 + x.text.size) := Lib.hid (fun i h h2 => by
      rcases Nat.lt_or_ge i k with h3 | h3
      · have := HT.out i h h3; omega
      · obtain rfl : i = k := by omega
        rw [hx]; omega)
    rw [hx] at hca
    obtain ⟨wh, t, x0, y0⟩ := x
    dsimp only at hca hxs HT2
    clear hx
    go_wp2
    go_round
    case rel => exact ⟨k + 1, m + 50 + t.size, by omega, by go_num, by go_num, by omega, by omega, HT2⟩
    case measure => simp [intOf]; omega
  have d4 : decide ((m : Int) > 3000) = false := by simp; omega
  obtain rfl : k = n := by omega
  have HTX : Hid (∀ a ∈ l, a.text.size ≤ 3000) := Lib.hid (fun a ha => by
    obtain ⟨i, hi, rfl⟩ := List.mem_iff_getElem.1 ha
    have := HT.out i hi (by have := HN.out; omega)
    omega)
  have bn' : k ≤ 60 := by omega
  clear HT hm3 hlt hm h50 hk bn
  go_wp2_with fail
  refine (new_ds w none 0 0 [] w (Below.refl _ _) rfl (RdV.nil _ _) rfl (by omega)).mono ?_
  rintro e w1 ⟨D, rfl, hd⟩
  have HP1 : Hid (PS w D [] (LB none []) w1) := Lib.hid (by
    obtain ⟨⟨r, h1, h2⟩, h3⟩ := hd
    exact ⟨r, h1, h2, h3, fun k hk => absurd hk.1 (by simp)⟩)
  clear hd
  go_wp2_with fail
  go_loopw [7, 8] (fun v i W => ∃ (j : Nat) (A : Option Addr) (m c : Nat) (L : List ByteArray), v = .slice A m c ∧ i = .int .i64 j ∧ j ≤ k ∧ m ≤ j ∧ m ≤ c ∧ Hid (A = none → c = 0) ∧ Hid (L.length = m) ∧ Hid (RdV W A (cellsS L)) ∧ Hid (PS w D L (LB A L) W)) (fun _ i _ => k - (intOf i).toNat)
  case atStart => exact ⟨0, none, 0, 0, [], rfl, rfl, by omega, by omega, by omega, Lib.hid (fun _ => rfl), Lib.hid rfl, Lib.hid (RdV.nil _ _), HP1⟩
  case round =>
  clear HP1
  obtain ⟨j, A', m', c', L, rfl, rfl, hj, hmj, hmc, HO, HL, HR, HP⟩ := hrel
  by_cases hlt : j < k
  rotate_left
  · have HB := Lib.hid HP.out.ds.2
    clear HP HR
    go_wp2_with fail
    refine (num_any 0 wr).mono ?_
    rintro e w6 ⟨rfl, rfl⟩
    go_wp2_with fail
    refine (works_any _).mono ?_
    rintro e w8 ⟨rfl, hb8⟩
    go_wp2_with fail
    try go_ret
    exact ⟨rfl, HB.out.trans (hb8.mono HB.out.size)⟩
  obtain ⟨b, off, rfl, hbb, g0, g1, g2, g3⟩ := (HA.out.below HP.out.ds.2).at (k := j) (by have := HN.out; omega)
  obtain ⟨x, hx⟩ : ∃ x, l[j]'(by have := HN.out; omega) = x := ⟨_, rfl⟩
  obtain ⟨⟨o0, o1⟩, -, ⟨o2, o3⟩, o4, o5⟩ : x.ok := by rw [← hx]; exact HS.out _ (List.getElem_mem _)
  have hts : x.text.size ≤ 3000 := by rw [← hx]; exact HTX.out _ (List.getElem_mem _)
  rw [hx] at g0 g1 g2 g3
  obtain ⟨wh, t, p, q⟩ := x
  dsimp only at g0 g1 g2 g3 o0 o1 o2 o3 o4 o5 hts
  clear hx
  go_upto_region 14 with fail
  have hbX := below_new wr (.cells #[.int .i64 wh, .string t, .int .i64 p, .int .i64 q] 63)
  have hsX : wr.heap.size < (wr.alloc (.cells #[.int .i64 wh, .string t, .int .i64 p, .int .i64 q] 63)).heap.size := by simp
  obtain ⟨x0, x1, x2, x3⟩ := new_act wr wh p q t
  have HR2 := Lib.hid (HR.out.below hbX)
  have HP2 : Hid (PS w D L (fun k => LB A' L k ∨ k = wr.heap.size) (wr.alloc (.cells #[.int .i64 wh, .string t, .int .i64 p, .int .i64 q] 63))) := Lib.hid (HP.out.new hbX (fun k hk => hk.elim .inl (fun e => .inr (by subst e; exact ⟨Nat.le_refl _, hsX⟩))))
  clear hbX hsX HP HR HA HW HTX HS HN g0 g1 g2 g3 hbb
  generalize (wr.alloc (.cells #[.int .i64 wh, .string t, .int .i64 p, .int .i64 q] 63)) = w2 at *
  generalize wr.heap.size = X at *
  by_cases h0 : wh = 0
  · subst h0
    go_wp2_with fail
    refine (ps_front (w := w) (D := D) (M := L) (S := fun k => (LB A' L k ∨ k = X) ∨ k = w2.heap.size) w2.heap.size t _ (HP2.out.new (below_new w2 _) (fun k hk => hk.elim .inl (fun e => .inr (by subst e; exact ⟨Nat.le_refl _, by simp⟩)))) (new_rdS w2 [t]) (.inr rfl) (by omega) (by rw [HL.out]; omega)).mono ?_
    rintro e w3 ⟨rfl, hp3, hk3⟩
    have y1 : w3.cell? ⟨X, 1, none⟩ = some (.string t) := ((cell_keepS hk3 (.inl (.inr rfl))).trans ((below_new w2 _).cell (p := ⟨X, 1, none⟩) (HP2.out.choose_spec.2.2.2 X (.inr rfl)).1)).trans x1
    have HR3 := Lib.hid ((HR2.out.below (below_new w2 _)).keepS hk3 (fun k off h e => .inl (.inl ⟨by simpa [cellsS] using h, off, e⟩)))
    have HP3 := Lib.hid hp3
    clear hp3 hk3 x0 x1 x2 x3 HR2 HP2
    go_wp2_with (at_builtin; refine wpList_strs rfl (.tmp 61) (.tmp 62) rfl w3.heap.size _ [t] 1 rfl rfl (own_new w3 9 (cellsS [t]) w3.heap.size (Nat.le_refl _) (by simp [cellsS, maxLen]) (by simp [cellsS])) A' m' c' L HL.out rfl (HR3.out.below (below_new w3 _)) HO.out hmc (by omega) (by simp) ?_; intro v7 w7 ho7 hb7 hs7; obtain ⟨Az, cz, hvz, kz, nz, -, hrz⟩ := own_rdV ho7; subst hvz; have HRz := Lib.hid hrz; have HOz := Lib.hid nz; have HPz := Lib.hid (ps_list HP3.out ((below_new w3 _).trans hb7) hrz (own_fresh ho7)); clear ho7 hb7 hs7 hrz nz)
    refine (is_ds w D (t :: L) Az (1 + m') cz _ HPz.out.ds (by have := HL.out; simp only [List.length_cons]; omega) HRz.out).mono ?_
    rintro e w20 ⟨rfl, -, hb20⟩
    have HPn := Lib.hid (HPz.out.below hb20)
    have HRn := Lib.hid (HRz.out.below hb20)
    clear hb20 HPz HRz
    go_wp2_with fail
    go_roundw
    case rel => exact ⟨j + 1, Az, (1 + m'), cz, (t :: L), rfl, by go_num, by omega, by omega, by omega, HOz, Lib.hid (by have := HL.out; simp only [List.length_cons]; omega), HRn, HPn⟩
    case measure => simp [intOf]; omega
  by_cases h1 : wh = 1
  · subst h1
    go_wp2_with fail
    refine (ps_back (w := w) (D := D) (M := L) (S := fun k => (LB A' L k ∨ k = X) ∨ k = w2.heap.size) w2.heap.size t _ (HP2.out.new (below_new w2 _) (fun k hk => hk.elim .inl (fun e => .inr (by subst e; exact ⟨Nat.le_refl _, by simp⟩)))) (new_rdS w2 [t]) (.inr rfl) (by omega) (by rw [HL.out]; omega)).mono ?_
    rintro e w3 ⟨rfl, hp3, hk3⟩
    have y1 : w3.cell? ⟨X, 1, none⟩ = some (.string t) := ((cell_keepS hk3 (.inl (.inr rfl))).trans ((below_new w2 _).cell (p := ⟨X, 1, none⟩) (HP2.out.choose_spec.2.2.2 X (.inr rfl)).1)).trans x1
    have HR3 := Lib.hid ((HR2.out.below (below_new w2 _)).keepS hk3 (fun k off h e => .inl (.inl ⟨by simpa [cellsS] using h, off, e⟩)))
    have hX3 : X < w3.heap.size := (hp3.choose_spec.2.2.2 X (.inl (.inr rfl))).1
    have HP3 := Lib.hid hp3
    clear hp3 hk3 x0 x1 x2 x3 HR2 HP2
    go_wp2_with fail
    go_region_held3 (fun w' => w'.cell? ⟨X, 1, none⟩ = some (.string t)) (go_keep) ((first
      | (refine step_strs (by rfl) (.tmp 73) (.tmp 76) (by rfl) w3.heap.size _ L m' HL.out (by rfl) (own_below HO10.out (below_new w10 _)) (some ⟨w10.heap.size, 0, none⟩) 1 1 [t] rfl (by rfl) (new_rdS w10 [t]) (fun e => by cases e) (Nat.le_refl _) (by omega) (by have := HB10.out.size; simp; omega) ?_; intro v11 w11 ho11 hb11 hs11; have HB11 := Lib.hid (HB10.out.trans (((below_new w10 (.cells (cellsS [t]).toArray 9)).mono HB10.out.size).trans hb11)); have HO11 := Lib.hid ho11; have z2 := (HB11.out.cell (p := ⟨X, 1, none⟩) hX3).trans y1; clear ho11 hb11 hs11)
      | (refine step_strs (by rfl) (.tmp 73) (.tmp 76) (by rfl) w3.heap.size _ L m' HL.out (by rfl) HO10.out (some ⟨w3.heap.size + 1, 0, none⟩) 1 1 [t] rfl (by rfl) HN10.out (fun e => by cases e) (Nat.le_refl _) (by omega) (by have := HB10.out.size; omega) ?_; intro v11 w11 ho11 hb11 hs11; have HB11 := Lib.hid (HB10.out.trans hb11); have HO11 := Lib.hid ho11; have z2 := (HB11.out.cell (p := ⟨X, 1, none⟩) hX3).trans y1; clear ho11 hb11 hs11)
      | (refine step_strs (by rfl) (.tmp 73) (.tmp 76) (by rfl) w3.heap.size _ L m' HL.out (by rfl) HO10.out (some ⟨w3.heap.size, 0, none⟩) 1 1 [t] rfl (by rfl) HN10.out (fun e => by cases e) (Nat.le_refl _) (by omega) (by have := HB10.out.size; omega) ?_; intro v11 w11 ho11 hb11 hs11; have HB11 := Lib.hid (HB10.out.trans hb11); have HO11 := Lib.hid ho11; have z2 := (HB11.out.cell (p := ⟨X, 1, none⟩) hX3).trans y1; clear ho11 hb11 hs11)
      | (refine step_strs (by rfl) (.tmp 71) (.tmp 72) (by rfl) w3.heap.size _ [] 0 rfl (by rfl) (own_empty w3.drew 9 w3.heap.size (Nat.le_refl _)) A' m' c' L HL.out (by rfl) ((HR3.out.below (below_drew w3)).below (below_new w3.drew _)) HO.out hmc (by omega) (by simp) ?_; intro v10 w10 ho10 hb10 hg10; rw [Nat.zero_add, List.nil_append] at ho10; have HB10 := Lib.hid ((below_drew w3).trans ((below_new w3.drew (.cells #[] 9)).trans hb10)); have z1 := (HB10.out.cell (p := ⟨X, 1, none⟩) hX3).trans y1; have HO10 := Lib.hid ho10; clear ho10 hb10 hg10)
      | (refine step_strs (by rfl) (.tmp 71) (.tmp 72) (by rfl) w3.heap.size _ [] 0 rfl (by rfl) ((own_empty w3.drew 9 w3.heap.size (Nat.le_refl _)).alloc _) A' m' c' L HL.out (by rfl) (((HR3.out.below (below_drew w3)).below (below_new w3.drew (.cells #[] 9))).below (below_new _ (.cells (cellsS [t]).toArray 9))) HO.out hmc (by omega) (by simp; omega) ?_; intro v10 w10 ho10 hb10 hg10; rw [Nat.zero_add, List.nil_append] at ho10; have HB10 := Lib.hid ((below_drew w3).trans ((below_new w3.drew (.cells #[] 9)).trans (((below_new _ (.cells (cellsS [t]).toArray 9)).mono (by simp)).trans hb10))); have HN10 := Lib.hid (rd_b w3 w10 t hg10); have z1 := (HB10.out.cell (p := ⟨X, 1, none⟩) hX3).trans y1; have HO10 := Lib.hid ho10; clear ho10 hb10 hg10)
      | (refine step_strs (by rfl) (.tmp 71) (.tmp 72) (by rfl) w3.heap.size _ [] 0 rfl (by rfl) (own_c w3 t) A' m' c' L HL.out (by rfl) (((HR3.out.below (below_drew w3)).below (below_new w3.drew (.cells (cellsS [t]).toArray 9))).below (below_new _ (.cells #[] 9))) HO.out hmc (by omega) (by simp; omega) ?_; intro v10 w10 ho10 hb10 hg10; rw [Nat.zero_add, List.nil_append] at ho10; have HB10 := Lib.hid ((below_drew w3).trans ((below_new w3.drew (.cells (cellsS [t]).toArray 9)).trans (((below_new _ (.cells #[] 9)).mono (by simp)).trans hb10))); have HN10 := Lib.hid (rd_c w3 w10 t hg10); have z1 := (HB10.out.cell (p := ⟨X, 1, none⟩) hX3).trans y1; have HO10 := Lib.hid ho10; clear ho10 hb10 hg10)
      | fail))
    all_goals obtain ⟨Az, cz, hvz, kz, nz, -, hrz⟩ := own_rdV HO11.out
    all_goals have HPz := Lib.hid (ps_list HP3.out HB11.out hrz (own_fresh (hvz ▸ HO11.out)))
    all_goals subst hvz
    all_goals have HRz := Lib.hid hrz
    all_goals have HOz := Lib.hid nz
    all_goals clear hrz nz HB10 HO10 HB11 HO11 HP3 HR3
    all_goals
      go_wp2_with fail
      refine (is_ds w D (L ++ [t]) Az (m' + 1) cz _ HPz.out.ds (by rw [List.length_append, HL.out]; rfl) HRz.out).mono ?_
      rintro e w20 ⟨rfl, -, hb20⟩
      have HPn := Lib.hid (HPz.out.below hb20)
      have HRn := Lib.hid (HRz.out.below hb20)
      clear hb20 HPz HRz
      go_wp2_with fail
      go_roundw
      case rel => exact ⟨j + 1, Az, (m' + 1), cz, (L ++ [t]), rfl, by go_num, by omega, by omega, by omega, HOz, Lib.hid (by rw [List.length_append, HL.out]; rfl), HRn, HPn⟩
      case measure => simp [intOf]; omega
  by_cases h2 : wh = 2
  · subst h2
    rcases L with _ | ⟨t0, L⟩
    · obtain rfl : m' = 0 := by have := HL.out; simp at this; omega
      go_wp2_with fail
      refine (popf_ds0 w D w2 HP2.out.ds).mono ?_
      rintro e w3 ⟨rfl, rfl⟩
      go_wp2_with fail
      refine (pop_nil A' c' false _).mono ?_
      rintro e w4 ⟨rfl, rfl⟩
      have HPz := Lib.hid (HP2.out.mono (T := LB A' []) (fun k hk => .inl hk))
      have HRz := HR2
      have HOz := HO
      clear HP2 HR2
      go_wp2_with fail
      refine (is_ds w D [] A' 0 c' _ HPz.out.ds rfl HRz.out).mono ?_
      rintro e w20 ⟨rfl, -, hb20⟩
      have HPn := Lib.hid (HPz.out.below hb20)
      have HRn := Lib.hid (HRz.out.below hb20)
      clear hb20 HPz HRz
      go_wp2_with fail
      go_roundw
      case rel => exact ⟨j + 1, A', 0, c', [], rfl, by go_num, by omega, by omega, by omega, HOz, Lib.hid rfl, HRn, HPn⟩
      case measure => simp [intOf]; omega
    · obtain ⟨m0, rfl⟩ : ∃ m0, m' = m0 + 1 := ⟨L.length, by have := HL.out; simp at this; omega⟩
      have HL0 : Hid (L.length = m0) := Lib.hid (by have := HL.out; simp at this; omega)
      go_wp2_with fail
      refine (ps_popf t0 w2 HP2.out).mono ?_
      rintro e w3 ⟨rfl, hp3, hk3⟩
      have HR3 := Lib.hid (HR2.out.keepS hk3 (fun k off h e => .inl ⟨by simp, off, e⟩))
      obtain ⟨b1, o1', rfl, hbb, hca⟩ := rdS_at HR3.out (k := 0) (by simp)
      simp only [List.getElem_cons_zero, Nat.add_zero] at hca
      have HP3 := Lib.hid hp3
      clear hp3 hk3 x0 x1 x2 x3 HR2 HP2
      go_wp2_with fail
      refine (pop_front b1 o1' m0 c' t0 w3 (by omega) (by omega) hca).mono ?_
      rintro e w4 ⟨rfl, q4, rfl⟩
      have hb4 := below_any q4 (Below.refl w3.heap.size w3)
      have HPz : Hid (PS w D L (LB (subA (some ⟨b1, o1', none⟩) 1 c') L) (w3.drewN q4)) := Lib.hid ((HP3.out.mono (fun k h => lb_sub (X := X) k h)).below hb4)
      have HRz : Hid (RdV (w3.drewN q4) (subA (some ⟨b1, o1', none⟩) 1 c') (cellsS L)) := Lib.hid (RdV.below (show RdV w3 _ (cellsS L) from HR3.out.drop 1 c' (by rw [cellsS_len, HL.out]; omega)) hb4)
      have HOz : Hid (subA (some ⟨b1, o1', none⟩) 1 c' = none → c' - 1 = 0) := Lib.hid (subA_none HO.out)
      clear hb4 HP3 HR3 hca
      go_wp2_with fail
      refine (is_ds w D L (subA (some ⟨b1, o1', none⟩) 1 c') m0 (c' - 1) _ HPz.out.ds HL0.out HRz.out).mono ?_
      rintro e w20 ⟨rfl, -, hb20⟩
      have HPn := Lib.hid (HPz.out.below hb20)
      have HRn := Lib.hid (HRz.out.below hb20)
      clear hb20 HPz HRz
      go_wp2_with fail
      go_roundw
      case rel => exact ⟨j + 1, (subA (some ⟨b1, o1', none⟩) 1 c'), m0, (c' - 1), L, rfl, by go_num, by omega, by omega, by omega, HOz, Lib.hid HL0.out, HRn, HPn⟩
      case measure => simp [intOf]; omega
  by_cases h3 : wh = 3
  · subst h3
    rcases List.eq_nil_or_concat L with rfl | ⟨L, t0, rfl⟩
    · obtain rfl : m' = 0 := by have := HL.out; simp at this; omega
      go_wp2_with fail
      refine (popb_ds0 w D w2 HP2.out.ds).mono ?_
      rintro e w3 ⟨rfl, rfl⟩
      go_wp2_with fail
      refine (pop_nil A' c' true _).mono ?_
      rintro e w4 ⟨rfl, rfl⟩
      have HPz := Lib.hid (HP2.out.mono (T := LB A' []) (fun k hk => .inl hk))
      have HRz := HR2
      have HOz := HO
      clear HP2 HR2
      go_wp2_with fail
      refine (is_ds w D [] A' 0 c' _ HPz.out.ds rfl HRz.out).mono ?_
      rintro e w20 ⟨rfl, -, hb20⟩
      have HPn := Lib.hid (HPz.out.below hb20)
      have HRn := Lib.hid (HRz.out.below hb20)
      clear hb20 HPz HRz
      go_wp2_with fail
      go_roundw
      case rel => exact ⟨j + 1, A', 0, c', [], rfl, by go_num, by omega, by omega, by omega, HOz, Lib.hid rfl, HRn, HPn⟩
      case measure => simp [intOf]; omega
    · rw [List.concat_eq_append] at HL HP2 HR2
      obtain ⟨m0, rfl⟩ : ∃ m0, m' = m0 + 1 := ⟨L.length, by have := HL.out; simp at this; omega⟩
      have HL0 : Hid (L.length = m0) := Lib.hid (by have := HL.out; simp at this; omega)
      go_wp2_with fail
      refine (ps_popb t0 w2 HP2.out).mono ?_
      rintro e w3 ⟨rfl, hp3, hk3⟩
      have HR3 := Lib.hid (HR2.out.keepS hk3 (fun k off h e => .inl ⟨by simp, off, e⟩))
      obtain ⟨b1, o1', rfl, hbb, hca⟩ := rdS_at HR3.out (k := m0) (by simp [HL0.out])
      rw [List.getElem_append_right (Nat.le_of_eq HL0.out)] at hca
      simp only [HL0.out, Nat.sub_self, List.getElem_cons_zero] at hca
      have HP3 := Lib.hid hp3
      clear hp3 hk3 x0 x1 x2 x3 HR2 HP2
      go_wp2_with fail
      refine (pop_back b1 o1' m0 c' t0 w3 (by omega) (by omega) hca).mono ?_
      rintro e w4 ⟨rfl, q4, rfl⟩
      have hb4 := below_any q4 (Below.refl w3.heap.size w3)
      have HPz : Hid (PS w D L (LB (some ⟨b1, o1', none⟩) L) (w3.drewN q4)) := Lib.hid ((HP3.out.mono (fun k h => lb_front (X := X) k h)).below hb4)
      have HRz : Hid (RdV (w3.drewN q4) (some ⟨b1, o1', none⟩) (cellsS L)) := Lib.hid (RdV.below (RdV.front' HR3.out) hb4)
      have HOz := HO
      clear hb4 HP3 HR3 hca
      go_wp2_with fail
      refine (is_ds w D L (some ⟨b1, o1', none⟩) m0 c' _ HPz.out.ds HL0.out HRz.out).mono ?_
      rintro e w20 ⟨rfl, -, hb20⟩
      have HPn := Lib.hid (HPz.out.below hb20)
      have HRn := Lib.hid (HRz.out.below hb20)
      clear hb20 HPz HRz
      go_wp2_with fail
      go_roundw
      case rel => exact ⟨j + 1, (some ⟨b1, o1', none⟩), m0, c', L, rfl, by go_num, by omega, by omega, by omega, HOz, Lib.hid HL0.out, HRn, HPn⟩
      case measure => simp [intOf]; omega
  by_cases h4 : wh = 4
  · subst h4
    have hi0 := HL.out
    obtain ⟨i, ok, hp⟩ : ∃ i ok, placeF (m' : Int) p = (i, ok) := ⟨_, _, rfl⟩
    have HPF : Hid (placeF (m' : Int) p = (i, ok)) := Lib.hid hp
    cases ok
    · obtain rfl : i = 0 := placeF_no hp
      clear hp hi0
      go_wp2_with fail
      refine (ps_put_no p t w2 HP2.out (by omega) o2 o3 (by rw [HL.out]; exact HPF.out)).mono ?_
      rintro e w3 ⟨rfl, rfl⟩
      go_wp2_with fail
      refine (rplace_any (m' : Int) p _ (by omega) (by omega) o2 o3).mono ?_
      rintro e w4 ⟨rfl, rfl⟩
      rw [HPF.out]
      have HPz := Lib.hid (HP2.out.mono (T := LB A' L) (fun k hk => .inl hk))
      have HRz := HR2
      have HOz := HO
      clear HP2 HR2 x1 x2 x3
      go_wp2_with fail
      refine (is_ds w D L A' m' c' _ HPz.out.ds HL.out HRz.out).mono ?_
      rintro e w20 ⟨rfl, -, hb20⟩
      have HPn := Lib.hid (HPz.out.below hb20)
      have HRn := Lib.hid (HRz.out.below hb20)
      clear hb20 HPz HRz
      go_wp2_with fail
      go_roundw
      case rel => exact ⟨j + 1, A', m', c', L, rfl, by go_num, by omega, by omega, by omega, HOz, Lib.hid HL.out, HRn, HPn⟩
      case measure => simp [intOf]; omega
    · have h9 := placeF_lt hp
      obtain ⟨i, rfl⟩ : ∃ i0 : Nat, i = i0 := ⟨i.toNat, by omega⟩
      have hi1 : (i : Int) < (m' : Int) := h9.2
      have hi2 : (0 : Int) ≤ (i : Int) := h9.1
      have hi3 : i < L.length := by omega
      obtain ⟨x5, hx5⟩ : ∃ x, L[i] = x := ⟨_, rfl⟩
      have HX5 := Lib.hid hx5
      clear hp hi0 h9 hx5
      go_wp2_with fail
      refine (ps_put i p t w2 HP2.out (by omega) o2 o3 (by rw [HL.out]; exact HPF.out)).mono ?_
      rintro e w3 ⟨rfl, hp3, hk3⟩
      have y1 : w3.cell? ⟨X, 1, none⟩ = some (.string t) := (cell_keepS hk3 (.inr rfl)).trans x1
      have y2 : w3.cell? ⟨X, 2, none⟩ = some (.int .i64 p) := (cell_keepS hk3 (.inr rfl)).trans x2
      have HR3 := Lib.hid (HR2.out.keepS hk3 (fun k off h e => .inl ⟨by simpa [cellsS] using h, off, e⟩))
      have hX3 : X < w3.heap.size := (hp3.choose_spec.2.2.2 X (.inr rfl)).1
      have HP3 := Lib.hid hp3
      clear hp3 hk3 x0 x1 x2 x3 HR2 HP2
      go_wp2_with fail
      refine (rplace_any (m' : Int) p _ (by omega) (by omega) o2 o3).mono ?_
      rintro e w4 ⟨rfl, rfl⟩
      rw [HPF.out]
      go_wp2_with (at_builtin; refine wpList_strs rfl (.tmp 119) (.tmp 120) rfl w4.heap.size _ [] 0 rfl rfl (own_empty w4 9 w4.heap.size (Nat.le_refl _)) A' m' c' L HL.out rfl (HR3.out.below (below_new w4 _)) HO.out hmc (by omega) (by simp) ?_; intro v10 w10 ho10 hb10 hs10; rw [Nat.zero_add, List.nil_append] at ho10; have HB10 := Lib.hid ((below_new w4 (.cells #[] 9)).trans hb10); have HO10 := Lib.hid ho10; clear ho10 hb10 hs10; obtain ⟨g1, c1, hv1, hc1, hB1, -, hob1, hcell1, hfr1⟩ := row_form HO10.out (by omega); subst hv1; have h1 := hcell1 i (.string x5) (by simp only [cellsS, List.getElem?_map]; rw [List.getElem?_eq_getElem hi3, HX5.out]; rfl); have fr := hfr1 i; have z1 := (HB10.out.cell (p := ⟨X, 1, none⟩) hX3).trans y1; have o1 := HO10.out.stored i (.string t); have HO11 := Lib.hid o1.1; have HB11 := Lib.hid (HB10.out.grown o1.2 HB10.out.size (fun j e => by cases e; exact hB1)); clear hcell1 hfr1 hob1 o1)
      have hr11 := HO11.out
      rw [cells_set] at hr11
      obtain ⟨Az, cz, hvz, kz, nz, -, hrz⟩ := own_rdV hr11
      have HPz := Lib.hid (ps_list HP3.out HB11.out hrz (own_fresh (hvz ▸ hr11)))
      cases hvz
      have HRz := Lib.hid hrz
      have HOz := Lib.hid nz
      have HLz : Hid ((L.set i t).length = m') := Lib.hid (by rw [List.length_set]; exact HL.out)
      clear hr11 hrz nz
      refine (is_ds w D (L.set i t) (some ⟨g1, 0, none⟩) m' c1 _ HPz.out.ds HLz.out HRz.out).mono ?_
      rintro e w20 ⟨rfl, -, hb20⟩
      have HPn := Lib.hid (HPz.out.below hb20)
      have HRn := Lib.hid (HRz.out.below hb20)
      clear hb20 HPz HRz
      go_wp2_with fail
      go_roundw
      case rel => exact ⟨j + 1, (some ⟨g1, 0, none⟩), m', c1, (L.set i t), rfl, by go_num, by omega, by omega, by omega, HOz, Lib.hid HLz.out, HRn, HPn⟩
      case measure => simp [intOf]; omega
  by_cases h5 : wh = 5
  · subst h5
    go_wp2_with fail
    refine (ps_keep p q w2 HP2.out o2 o3 o4 o5).mono ?_
    rintro e w3 ⟨rfl, hp3, hk3⟩
    have y2 : w3.cell? ⟨X, 2, none⟩ = some (.int .i64 p) := (cell_keepS hk3 (.inr rfl)).trans x2
    have y3 : w3.cell? ⟨X, 3, none⟩ = some (.int .i64 q) := (cell_keepS hk3 (.inr rfl)).trans x3
    have HR3 := Lib.hid (HR2.out.keepS hk3 (fun k off h e => .inl ⟨by simpa [cellsS] using h, off, e⟩))
    have HP3 := Lib.hid hp3
    clear hp3 hk3 x0 x1 x2 x3 HR2 HP2
    go_wp2_with fail
    refine (nrange_any A' m' c' L p q w3 HL.out hmc HO.out HR3.out (by omega) o2 o3 o4 o5).mono ?_
    rintro e w4 ⟨Az, mz, cz, rfl, hlz, hmz, hoz, hrz, hbz, hfz⟩
    have HPz := Lib.hid (ps_list HP3.out hbz hrz hfz)
    have HRz := Lib.hid hrz
    have HOz := Lib.hid hoz
    have hmz2 : mz ≤ j + 1 := by rw [← hlz]; unfold rangeL; rw [List.length_take, List.length_drop]; have := HL.out; omega
    have HLz := Lib.hid hlz
    clear hlz hoz hrz hbz hfz HP3 HR3
    go_wp2_with fail
    refine (is_ds w D (rangeL L p q) Az mz cz _ HPz.out.ds HLz.out HRz.out).mono ?_
    rintro e w20 ⟨rfl, -, hb20⟩
    have HPn := Lib.hid (HPz.out.below hb20)
    have HRn := Lib.hid (HRz.out.below hb20)
    clear hb20 HPz HRz
    go_wp2_with fail
    go_roundw
    case rel => exact ⟨j + 1, Az, mz, cz, (rangeL L p q), rfl, by go_num, by omega, by omega, by omega, HOz, Lib.hid HLz.out, HRn, HPn⟩
    case measure => simp [intOf]; omega
  by_cases h6 : wh = 6
  · subst h6
    go_wp2_with fail
    refine (ps_drop p t w2 HP2.out o2 o3).mono ?_
    rintro e w3 ⟨rfl, hp3, hk3⟩
    have y1 : w3.cell? ⟨X, 1, none⟩ = some (.string t) := (cell_keepS hk3 (.inr rfl)).trans x1
    have y2 : w3.cell? ⟨X, 2, none⟩ = some (.int .i64 p) := (cell_keepS hk3 (.inr rfl)).trans x2
    have HR3 := Lib.hid (HR2.out.keepS hk3 (fun k off h e => .inl ⟨by simpa [cellsS] using h, off, e⟩))
    have HP3 := Lib.hid hp3
    clear hp3 hk3 x0 x1 x2 x3 HR2 HP2
    go_wp2_with fail
    refine (ndrop_any A' m' c' L p t w3 HL.out (by omega) HR3.out o2 o3).mono ?_
    rintro e w4 ⟨Az, mz, cz, rfl, hlz, hmz, hoz, hrz, hbz, hfz⟩
    have HPz := Lib.hid (ps_list HP3.out hbz hrz hfz)
    have HRz := Lib.hid hrz
    have HOz := Lib.hid hoz
    have hmz2 : mz ≤ j + 1 := by have h1 := dropL_le p t L; have := HL.out; omega
    have HLz := Lib.hid hlz
    clear hlz hoz hrz hbz hfz HP3 HR3
    go_wp2_with fail
    refine (is_ds w D (dropL p t L) Az mz cz _ HPz.out.ds HLz.out HRz.out).mono ?_
    rintro e w20 ⟨rfl, -, hb20⟩
    have HPn := Lib.hid (HPz.out.below hb20)
    have HRn := Lib.hid (HRz.out.below hb20)
    clear hb20 HPz HRz
    go_wp2_with fail
    go_roundw
    case rel => exact ⟨j + 1, Az, mz, cz, (dropL p t L), rfl, by go_num, by omega, by omega, by omega, HOz, Lib.hid HLz.out, HRn, HPn⟩
    case measure => simp [intOf]; omega
  have e0 : (wh == 0) = false := by simpa using h0
  have e1 : (wh == 1) = false := by simpa using h1
  have e2 : (wh == 2) = false := by simpa using h2
  have e3 : (wh == 3) = false := by simpa using h3
  have e4 : (wh == 4) = false := by simpa using h4
  have e5 : (wh == 5) = false := by simpa using h5
  have e6 : (wh == 6) = false := by simpa using h6
  have HPz := Lib.hid (HP2.out.mono (T := LB A' L) (fun k hk => .inl hk))
  have HRz := HR2
  have HOz := HO
  clear HP2 HR2 x1 x2 x3
  go_wp2_with fail
  refine (is_ds w D L A' m' c' _ HPz.out.ds HL.out HRz.out).mono ?_
  rintro e w20 ⟨rfl, -, hb20⟩
  have HPn := Lib.hid (HPz.out.below hb20)
  have HRn := Lib.hid (HRz.out.below hb20)
  clear hb20 HPz HRz
  go_wp2_with fail
  go_roundw
  case rel => exact ⟨j + 1, A', m', c', L, rfl, by go_num, by omega, by omega, by omega, HOz, Lib.hid HL.out, HRn, HPn⟩
  case measure => simp [intOf]; omega


theorem reads (os : Os) {H : Type} (enc : TypeId × Value → H) : ∃ places, DataW.whole enc Try.prog ((World.holding Try.prog os ⟨#[], #[.slice none 0 0], []⟩).forCall (fun _ _ => 0) ⟨#[], #[.slice none 0 0], []⟩).memory Try.f12.params.toList Rows.dequePlaysSpec.vars false (#[.slice none 0 0] : Array Value).toList 8 = some ([.nil], [], places) :=
  ⟨[], by kernel_rfl⟩
theorem laidNone (w : World) : laidMet Try.prog [] w := laidMet_of_run' 8 (by kernel_rfl) (by kernel_rfl)
set_option maxRecDepth 100000 in
theorem lifted (os : Os) (started : os.Started) (H : Type) (enc : TypeId × Value → H) (F : Stop.Interp) :
    ReturnsInHanded {} Try.checked os 12 .any ((OpenSpec.ofChange Rows.dequePlaysSpec).preRow enc Try.prog Try.f12 Rows.dequePlaysRow.domain false Rows.dequePlaysRow.laid) (((OpenSpec.ofChange Rows.dequePlaysSpec).at F).post enc Try.prog Try.f12 false true false false) := by
  obtain ⟨places, hx⟩ := reads os enc
  refine returnsInHanded_of_row (C := Try.checked) (s := OpenSpec.ofChange Rows.dequePlaysSpec) own started (by kernel_rfl) Try.func12
    (witness_row_at (enc := enc) (C := Try.checked) false (World.holding Try.prog os ⟨#[], #[.slice none 0 0], []⟩) #[.slice none 0 0] rfl (by kernel_rfl) (by kernel_rfl) (by kernel_rfl)
      (OpenSpec.preRow_of_cond 8 hx (by kernel_rfl) (fun k hk => by cases hk) (by kernel_rfl) (laidNone _))) ?_
  intro W base args ds gs before hval0 hW _ _ hZ _ _ _
  show Calls Try.prog 12 args W fun e W' => ∃ v, e = .returned v ∧ Rows.dequePlaysSpec.post enc Try.prog Try.f12 false true false false W args v W'
  have hval : ∀ (j : Nat) t v, Try.f12.params[j]? = some t → args[j]? = some v → Value.okWide Try.prog W .any base t v := hval0
  have hW' := hW
  obtain ⟨p, q, hA0, hV, rfl, hfz, hnd⟩ := hW
  have hA : DataW.TrodAll enc Try.prog W 0 (fun _ => true) true Try.f12.params.toList args.toList ds p := hA0
  have hZ1 : (DataW.weightsEach Try.prog (Try.f12.params.toList ++ (OpenSpec.ofChange Rows.dequePlaysSpec).bare.plain.varTypes Try.prog) (ds ++ gs)).all (· ≤ reachBytes) = true := hZ
  rw [Try.params12] at hZ1
  rw [Try.params12] at hA hval
  obtain ⟨v0, vs0, d0, ds0, p0, q0, hargs, rfl, rfl, h0, r0⟩ := trodAll_cons hA
  obtain ⟨rfl, rfl, rfl⟩ := trodAll_nil r0
  obtain rfl : args = #[v0] := by cases args; simp_all
  obtain ⟨rfl, rfl⟩ := trodVars_none hV
  have k0 := h0
  have lt0 : ∀ x ∈ p0, x.block < W.heap.size := by obtain ⟨m, hm⟩ := k0; exact DataW.trod_lt m _ _ _ hm
  obtain ⟨ca0, na0, ea0, rfl⟩ := okWide_slice Try.underlying61 (hval 0 61 v0 rfl rfl)
  obtain ⟨fu0, hf0⟩ := h0
  obtain ⟨A0, n0, c0, l0, hv0, hn0, hnc0, hcm0, hO0, hr0, hs0⟩ := acts_of hf0 (weight_at hZ1 (j := 0) rfl rfl)
  cases hv0
  simp only [maxLen] at hcm0
  clear hA0 hval0
  refine (walk _ _ _ l0 W hn0 (by omega) hr0 hs0).mono fun e W' ⟨he, bel⟩ => ?_
  subst he
  exact ⟨_, rfl, _, _, _, [], _, [], hW', trodAll_mk1 (shut_bool Try.underlying4 _), (trodAll_cons_mk (Below.trod laidOut (by kernel_rfl) (of_decide_eq_true (by kernel_rfl)) k0 bel lt0) trodAll_mk0), rfl, bel.frame _, fun h => by cases h⟩

/-- The statement. -/
theorem proved : Rows.DequePlaysSaid :=
  OpenClaim.holds_of_cond 12 Try.f12 rfl rfl rfl rfl rfl rfl rfl ⟨rfl, rfl, rfl, rfl, rfl⟩ rfl rfl rfl rfl rfl (by kernel_rfl) Try.func12 (by kernel_rfl)
    (of_decide_eq_true (by kernel_rfl)) (by unfold Func.isWrapper; first | (rw [if_pos (by decide +kernel)]; kernel_rfl) | (rw [if_neg (by decide +kernel)]; exact ⟨rfl, rfl⟩))
    (fun os started H enc _ F => by rw [OpenClaim.pre_eq_preRow]; exact lifted os started H enc F)
#print axioms proved
end Go.Proofs.Ytnnlfhdjakabmaa.dequePlays
