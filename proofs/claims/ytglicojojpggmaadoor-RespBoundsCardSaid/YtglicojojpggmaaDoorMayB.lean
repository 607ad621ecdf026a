/- Whether a reply may be: those without replies in them. -/
import Derived.Test.YtglicojojpggmaaDoorMay
namespace Go.Proofs.YtglicojojpggmaaDoor
open Go Go.RowKit
section
variable {n : Nat} {r : Rp} {A : Option Addr} {c : Nat} {d it tx : Int} {G : Nat} {w : World}
set_option maxRecDepth 100000 in
set_option maxHeartbeats 8000000 in
theorem may_0 (hw : Wt w G it tx) (hk : RpK (fun b => b ≠ G) w r A c) (ht1 : tx ≤ 1000000000) (ht0 : -1000000000 ≤ tx) (hK : r.kind = 0) (hN : r.num = 0) (hZ : r.kids.length = 0) :
    Calls Tryd.prog 55 #[.agg (rpV r A c), .int .i64 d, .pointer (some ⟨G, 0, none⟩)] w (MayQ w G (mayF r d it tx)) := by
  have HMV := Lib.hid (MV.new w G r A c d it tx hw hk)
  obtain ⟨_, _, _, _, f5, f6⟩ := hk.1
  have hw1 : IntKind.i64.wrap (tx - (r.text.size : Int)) = tx - (r.text.size : Int) := IntWalk.i64_in _ (by omega)
  have HO1 : Hid (tx - (r.text.size : Int) < 0 → mayF r d it tx = none) := Lib.hid (fun h => by rw [mayF_eq, if_neg (fun h => h.2 hN), if_neg (fun h => by omega), if_pos h])
  have HO2 := Lib.hid (fun h : ¬ tx - (r.text.size : Int) < 0 => show mayF r d it tx = _ by rw [mayF_eq, if_neg (fun h => h.2 hN), if_neg (fun h => by omega), if_neg h, if_pos (.inl hK)])
  obtain ⟨v0, v1, v2, v3, v4, v5⟩ := HMV.out.rows
  obtain ⟨t0, t1, tf⟩ := HMV.out.wt.rows
  clear hw hk
  have a0 : (r.kind == 0) = true := by simpa using hK
  have b0 : decide (r.kind = 0) = true := decide_eq_true hK
  have m1 : r.kind ≠ 1 := (by rw [hK]; decide)
  have a1 : (r.kind == 1) = false := by simpa using m1
  have b1 : decide (r.kind = 1) = false := decide_eq_false m1
  have m2 : r.kind ≠ 2 := (by rw [hK]; decide)
  have a2 : (r.kind == 2) = false := by simpa using m2
  have b2 : decide (r.kind = 2) = false := decide_eq_false m2
  have m3 : r.kind ≠ 3 := (by rw [hK]; decide)
  have a3 : (r.kind == 3) = false := by simpa using m3
  have b3 : decide (r.kind = 3) = false := decide_eq_false m3
  have n3 : (r.kind != 3) = true := by simpa using m3
  have m4 : r.kind ≠ 4 := (by rw [hK]; decide)
  have a4 : (r.kind == 4) = false := by simpa using m4
  have b4 : decide (r.kind = 4) = false := decide_eq_false m4
  have m5 : r.kind ≠ 5 := (by rw [hK]; decide)
  have a5 : (r.kind == 5) = false := by simpa using m5
  have b5 : decide (r.kind = 5) = false := decide_eq_false m5
  have n5 : (r.kind != 5) = true := by simpa using m5
  have e3 : (r.num != 0) = false := by simpa using hN
  have e4 : decide (r.num = 0) = true := decide_eq_true hN
  have e7 : decide (0 < r.kids.length) = false := decide_eq_false (by omega)
  have e8 : ¬ 0 < r.kids.length := by omega
  clear hK hN hZ m1 m2 m3 m4 m5
  go_enter Tryd.func55, Tryd.ntmps55
  go_upto_region 3 with (fail)
  generalize (((w.alloc (.cells (rpV r A c) 41)).alloc (.cells #[.int .i64 d] 3)).alloc (.cells #[.pointer (some ⟨G, 0, none⟩)] 99)) = W at *
  generalize w.heap.size = B at *
  go_still_tail 10, (by kernel_rfl)
  change wpList _ _ _ _ _ W.drew
  have HM1 := Lib.hid ((HMV.out.stx (tx - (r.text.size : Int))).drew 1)
  change Hid (MV w (World.drew (World.setCell W _ _)) B G r A c d it _) at HM1
  go_upto_region 4 with (fail)
  clear HMV v0 v1 v2 v3 v4 v5 t0 t1 tf hw1
  generalize (W.setCell ⟨G, 1, none⟩ (.int .i64 (tx - (r.text.size : Int)))).drew = W2 at *
  obtain ⟨v0, v1, v2, v3, v4, v5⟩ := HM1.out.rows
  obtain ⟨t0, t1, tf⟩ := HM1.out.wt.rows
  by_cases hneg : tx - (r.text.size : Int) < 0
  · have HN := Lib.hid (HO1.out hneg)
    have g1 : decide (tx - (r.text.size : Int) < 0) = true := decide_eq_true hneg
    go_wp2_with fail
    go_ret
    exact MayQ.no HN.out HM1.out.wt HM1.out.only
  have HN := Lib.hid (HO2.out hneg)
  have g1 : decide (tx - (r.text.size : Int) < 0) = false := decide_eq_false hneg
  clear HO1 HO2 hneg
  by_cases hs : r.text.size = 0
  · have HP := Lib.hid (HN.out.trans (if_pos hs))
    have hb : r.text.toList = [] := by rw [Lib.toList_data]; exact List.eq_nil_of_length_eq_zero (by rw [bl_len]; exact hs)
    have hb2 : r.text.toList.isEmpty = true := by rw [hb]; rfl
    clear hs
    go_wp2_with fail
    go_ret
    exact MayQ.yes HP.out HM1.out.wt HM1.out.only
  · have HP := Lib.hid (HN.out.trans (if_neg hs))
    have hb2 : r.text.toList.isEmpty = false := by
      rw [Lib.toList_data]
      cases h : r.text.data.toList with
      | nil => exact absurd (by have := bl_len r.text; rw [show bl r.text = _ from h] at this; simpa using this.symm) hs
      | cons x l => rfl
    clear hs
    go_wp2_with fail
    go_ret
    exact MayQ.no HP.out HM1.out.wt HM1.out.only
set_option maxRecDepth 100000 in
set_option maxHeartbeats 8000000 in
theorem may_3 (hw : Wt w G it tx) (hk : RpK (fun b => b ≠ G) w r A c) (ht1 : tx ≤ 1000000000) (ht0 : -1000000000 ≤ tx) (hK : r.kind = 3) (hZ : r.kids.length = 0) :
    Calls Tryd.prog 55 #[.agg (rpV r A c), .int .i64 d, .pointer (some ⟨G, 0, none⟩)] w (MayQ w G (mayF r d it tx)) := by
  have HMV := Lib.hid (MV.new w G r A c d it tx hw hk)
  obtain ⟨_, _, _, _, f5, f6⟩ := hk.1
  have hw1 : IntKind.i64.wrap (tx - (r.text.size : Int)) = tx - (r.text.size : Int) := IntWalk.i64_in _ (by omega)
  have HO1 : Hid (tx - (r.text.size : Int) < 0 → mayF r d it tx = none) := Lib.hid (fun h => by rw [mayF_eq, if_neg (fun h => h.1 hK), if_neg (fun h => by omega), if_pos h])
  have HO2 := Lib.hid (fun h : ¬ tx - (r.text.size : Int) < 0 => show mayF r d it tx = _ by rw [mayF_eq, if_neg (fun h => h.1 hK), if_neg (fun h => by omega), if_neg h, if_pos (.inr hK)])
  obtain ⟨v0, v1, v2, v3, v4, v5⟩ := HMV.out.rows
  obtain ⟨t0, t1, tf⟩ := HMV.out.wt.rows
  clear hw hk
  have m0 : r.kind ≠ 0 := (by rw [hK]; decide)
  have a0 : (r.kind == 0) = false := by simpa using m0
  have b0 : decide (r.kind = 0) = false := decide_eq_false m0
  have m1 : r.kind ≠ 1 := (by rw [hK]; decide)
  have a1 : (r.kind == 1) = false := by simpa using m1
  have b1 : decide (r.kind = 1) = false := decide_eq_false m1
  have m2 : r.kind ≠ 2 := (by rw [hK]; decide)
  have a2 : (r.kind == 2) = false := by simpa using m2
  have b2 : decide (r.kind = 2) = false := decide_eq_false m2
  have a3 : (r.kind == 3) = true := by simpa using hK
  have b3 : decide (r.kind = 3) = true := decide_eq_true hK
  have n3 : (r.kind != 3) = false := by simpa using hK
  have m4 : r.kind ≠ 4 := (by rw [hK]; decide)
  have a4 : (r.kind == 4) = false := by simpa using m4
  have b4 : decide (r.kind = 4) = false := decide_eq_false m4
  have m5 : r.kind ≠ 5 := (by rw [hK]; decide)
  have a5 : (r.kind == 5) = false := by simpa using m5
  have b5 : decide (r.kind = 5) = false := decide_eq_false m5
  have n5 : (r.kind != 5) = true := by simpa using m5
  have e7 : decide (0 < r.kids.length) = false := decide_eq_false (by omega)
  have e8 : ¬ 0 < r.kids.length := by omega
  clear hK hZ m0 m1 m2 m4 m5
  go_enter Tryd.func55, Tryd.ntmps55
  go_upto_region 3 with (fail)
  generalize (((w.alloc (.cells (rpV r A c) 41)).alloc (.cells #[.int .i64 d] 3)).alloc (.cells #[.pointer (some ⟨G, 0, none⟩)] 99)) = W at *
  generalize w.heap.size = B at *
  go_still_tail 10, (by kernel_rfl)
  change wpList _ _ _ _ _ W.drew
  have HM1 := Lib.hid ((HMV.out.stx (tx - (r.text.size : Int))).drew 1)
  change Hid (MV w (World.drew (World.setCell W _ _)) B G r A c d it _) at HM1
  go_upto_region 4 with (fail)
  clear HMV v0 v1 v2 v3 v4 v5 t0 t1 tf hw1
  generalize (W.setCell ⟨G, 1, none⟩ (.int .i64 (tx - (r.text.size : Int)))).drew = W2 at *
  obtain ⟨v0, v1, v2, v3, v4, v5⟩ := HM1.out.rows
  obtain ⟨t0, t1, tf⟩ := HM1.out.wt.rows
  by_cases hneg : tx - (r.text.size : Int) < 0
  · have HN := Lib.hid (HO1.out hneg)
    have g1 : decide (tx - (r.text.size : Int) < 0) = true := decide_eq_true hneg
    go_wp2_with fail
    go_ret
    exact MayQ.no HN.out HM1.out.wt HM1.out.only
  have HN := Lib.hid (HO2.out hneg)
  have g1 : decide (tx - (r.text.size : Int) < 0) = false := decide_eq_false hneg
  clear HO1 HO2 hneg
  by_cases hs : r.text.size = 0
  · have HP := Lib.hid (HN.out.trans (if_pos hs))
    have hb : r.text.toList = [] := by rw [Lib.toList_data]; exact List.eq_nil_of_length_eq_zero (by rw [bl_len]; exact hs)
    have hb2 : r.text.toList.isEmpty = true := by rw [hb]; rfl
    clear hs
    go_wp2_with fail
    go_ret
    exact MayQ.yes HP.out HM1.out.wt HM1.out.only
  · have HP := Lib.hid (HN.out.trans (if_neg hs))
    have hb2 : r.text.toList.isEmpty = false := by
      rw [Lib.toList_data]
      cases h : r.text.data.toList with
      | nil => exact absurd (by have := bl_len r.text; rw [show bl r.text = _ from h] at this; simpa using this.symm) hs
      | cons x l => rfl
    clear hs
    go_wp2_with fail
    go_ret
    exact MayQ.no HP.out HM1.out.wt HM1.out.only
set_option maxRecDepth 100000 in
set_option maxHeartbeats 8000000 in
theorem may_4 (hw : Wt w G it tx) (hk : RpK (fun b => b ≠ G) w r A c) (ht1 : tx ≤ 1000000000) (ht0 : -1000000000 ≤ tx) (hK : r.kind = 4) (hN : r.num = 0) (hZ : r.kids.length = 0) :
    Calls Tryd.prog 55 #[.agg (rpV r A c), .int .i64 d, .pointer (some ⟨G, 0, none⟩)] w (MayQ w G (mayF r d it tx)) := by
  have HMV := Lib.hid (MV.new w G r A c d it tx hw hk)
  obtain ⟨_, _, _, _, f5, f6⟩ := hk.1
  have hw1 : IntKind.i64.wrap (tx - (r.text.size : Int)) = tx - (r.text.size : Int) := IntWalk.i64_in _ (by omega)
  have HO1 : Hid (tx - (r.text.size : Int) < 0 → mayF r d it tx = none) := Lib.hid (fun h => by rw [mayF_eq, if_neg (fun h => h.2 hN), if_neg (fun h => by omega), if_pos h])
  have HO2 := Lib.hid (fun h : ¬ tx - (r.text.size : Int) < 0 => show mayF r d it tx = _ by rw [mayF_eq, if_neg (fun h => h.2 hN), if_neg (fun h => by omega), if_neg h, if_neg (fun h => by rw [hK] at h; exact absurd h (by decide)), if_pos hK])
  obtain ⟨v0, v1, v2, v3, v4, v5⟩ := HMV.out.rows
  obtain ⟨t0, t1, tf⟩ := HMV.out.wt.rows
  clear hw hk
  have m0 : r.kind ≠ 0 := (by rw [hK]; decide)
  have a0 : (r.kind == 0) = false := by simpa using m0
  have b0 : decide (r.kind = 0) = false := decide_eq_false m0
  have m1 : r.kind ≠ 1 := (by rw [hK]; decide)
  have a1 : (r.kind == 1) = false := by simpa using m1
  have b1 : decide (r.kind = 1) = false := decide_eq_false m1
  have m2 : r.kind ≠ 2 := (by rw [hK]; decide)
  have a2 : (r.kind == 2) = false := by simpa using m2
  have b2 : decide (r.kind = 2) = false := decide_eq_false m2
  have m3 : r.kind ≠ 3 := (by rw [hK]; decide)
  have a3 : (r.kind == 3) = false := by simpa using m3
  have b3 : decide (r.kind = 3) = false := decide_eq_false m3
  have n3 : (r.kind != 3) = true := by simpa using m3
  have a4 : (r.kind == 4) = true := by simpa using hK
  have b4 : decide (r.kind = 4) = true := decide_eq_true hK
  have m5 : r.kind ≠ 5 := (by rw [hK]; decide)
  have a5 : (r.kind == 5) = false := by simpa using m5
  have b5 : decide (r.kind = 5) = false := decide_eq_false m5
  have n5 : (r.kind != 5) = true := by simpa using m5
  have e3 : (r.num != 0) = false := by simpa using hN
  have e4 : decide (r.num = 0) = true := decide_eq_true hN
  have e7 : decide (0 < r.kids.length) = false := decide_eq_false (by omega)
  have e8 : ¬ 0 < r.kids.length := by omega
  clear hK hN hZ m0 m1 m2 m3 m5
  go_enter Tryd.func55, Tryd.ntmps55
  go_upto_region 3 with (fail)
  generalize (((w.alloc (.cells (rpV r A c) 41)).alloc (.cells #[.int .i64 d] 3)).alloc (.cells #[.pointer (some ⟨G, 0, none⟩)] 99)) = W at *
  generalize w.heap.size = B at *
  go_still_tail 10, (by kernel_rfl)
  change wpList _ _ _ _ _ W.drew
  have HM1 := Lib.hid ((HMV.out.stx (tx - (r.text.size : Int))).drew 1)
  change Hid (MV w (World.drew (World.setCell W _ _)) B G r A c d it _) at HM1
  go_upto_region 4 with (fail)
  clear HMV v0 v1 v2 v3 v4 v5 t0 t1 tf hw1
  generalize (W.setCell ⟨G, 1, none⟩ (.int .i64 (tx - (r.text.size : Int)))).drew = W2 at *
  obtain ⟨v0, v1, v2, v3, v4, v5⟩ := HM1.out.rows
  obtain ⟨t0, t1, tf⟩ := HM1.out.wt.rows
  by_cases hneg : tx - (r.text.size : Int) < 0
  · have HN := Lib.hid (HO1.out hneg)
    have g1 : decide (tx - (r.text.size : Int) < 0) = true := decide_eq_true hneg
    go_wp2_with fail
    go_ret
    exact MayQ.no HN.out HM1.out.wt HM1.out.only
  have HN := Lib.hid (HO2.out hneg)
  have g1 : decide (tx - (r.text.size : Int) < 0) = false := decide_eq_false hneg
  clear HO1 HO2 hneg
  go_wp2_with fail
  go_ret
  exact MayQ.yes HN.out HM1.out.wt HM1.out.only
set_option maxRecDepth 100000 in
set_option maxHeartbeats 8000000 in
theorem may_1 (hw : Wt w G it tx) (hk : RpK (fun b => b ≠ G) w r A c) (ht1 : tx ≤ 1000000000) (ht0 : -1000000000 ≤ tx) (hK : r.kind = 1) (hN : r.num = 0) (hZ : r.kids.length = 0) :
    Calls Tryd.prog 55 #[.agg (rpV r A c), .int .i64 d, .pointer (some ⟨G, 0, none⟩)] w (MayQ w G (mayF r d it tx)) := by
  have HMV := Lib.hid (MV.new w G r A c d it tx hw hk)
  obtain ⟨_, _, _, _, f5, f6⟩ := hk.1
  have hw1 : IntKind.i64.wrap (tx - (r.text.size : Int)) = tx - (r.text.size : Int) := IntWalk.i64_in _ (by omega)
  have HO1 : Hid (tx - (r.text.size : Int) < 0 → mayF r d it tx = none) := Lib.hid (fun h => by rw [mayF_eq, if_neg (fun h => h.2 hN), if_neg (fun h => by omega), if_pos h])
  have HO2 := Lib.hid (fun h : ¬ tx - (r.text.size : Int) < 0 => show mayF r d it tx = _ by rw [mayF_eq, if_neg (fun h => h.2 hN), if_neg (fun h => by omega), if_neg h, if_neg (fun h => by rw [hK] at h; exact absurd h (by decide)), if_neg (fun h => by rw [hK] at h; exact absurd h (by decide)), if_pos (.inl hK)])
  obtain ⟨v0, v1, v2, v3, v4, v5⟩ := HMV.out.rows
  obtain ⟨t0, t1, tf⟩ := HMV.out.wt.rows
  clear hw hk
  have m0 : r.kind ≠ 0 := (by rw [hK]; decide)
  have a0 : (r.kind == 0) = false := by simpa using m0
  have b0 : decide (r.kind = 0) = false := decide_eq_false m0
  have a1 : (r.kind == 1) = true := by simpa using hK
  have b1 : decide (r.kind = 1) = true := decide_eq_true hK
  have m2 : r.kind ≠ 2 := (by rw [hK]; decide)
  have a2 : (r.kind == 2) = false := by simpa using m2
  have b2 : decide (r.kind = 2) = false := decide_eq_false m2
  have m3 : r.kind ≠ 3 := (by rw [hK]; decide)
  have a3 : (r.kind == 3) = false := by simpa using m3
  have b3 : decide (r.kind = 3) = false := decide_eq_false m3
  have n3 : (r.kind != 3) = true := by simpa using m3
  have m4 : r.kind ≠ 4 := (by rw [hK]; decide)
  have a4 : (r.kind == 4) = false := by simpa using m4
  have b4 : decide (r.kind = 4) = false := decide_eq_false m4
  have m5 : r.kind ≠ 5 := (by rw [hK]; decide)
  have a5 : (r.kind == 5) = false := by simpa using m5
  have b5 : decide (r.kind = 5) = false := decide_eq_false m5
  have n5 : (r.kind != 5) = true := by simpa using m5
  have e3 : (r.num != 0) = false := by simpa using hN
  have e4 : decide (r.num = 0) = true := decide_eq_true hN
  have e7 : decide (0 < r.kids.length) = false := decide_eq_false (by omega)
  have e8 : ¬ 0 < r.kids.length := by omega
  clear hK hN hZ m0 m2 m3 m4 m5
  go_enter Tryd.func55, Tryd.ntmps55
  go_upto_region 3 with (fail)
  generalize (((w.alloc (.cells (rpV r A c) 41)).alloc (.cells #[.int .i64 d] 3)).alloc (.cells #[.pointer (some ⟨G, 0, none⟩)] 99)) = W at *
  generalize w.heap.size = B at *
  go_still_tail 10, (by kernel_rfl)
  change wpList _ _ _ _ _ W.drew
  have HM1 := Lib.hid ((HMV.out.stx (tx - (r.text.size : Int))).drew 1)
  change Hid (MV w (World.drew (World.setCell W _ _)) B G r A c d it _) at HM1
  go_upto_region 4 with (fail)
  clear HMV v0 v1 v2 v3 v4 v5 t0 t1 tf hw1
  generalize (W.setCell ⟨G, 1, none⟩ (.int .i64 (tx - (r.text.size : Int)))).drew = W2 at *
  obtain ⟨v0, v1, v2, v3, v4, v5⟩ := HM1.out.rows
  obtain ⟨t0, t1, tf⟩ := HM1.out.wt.rows
  by_cases hneg : tx - (r.text.size : Int) < 0
  · have HN := Lib.hid (HO1.out hneg)
    have g1 : decide (tx - (r.text.size : Int) < 0) = true := decide_eq_true hneg
    go_wp2_with fail
    go_ret
    exact MayQ.no HN.out HM1.out.wt HM1.out.only
  have HN := Lib.hid (HO2.out hneg)
  have g1 : decide (tx - (r.text.size : Int) < 0) = false := decide_eq_false hneg
  clear HO1 HO2 hneg
  have HS := Lib.hid (single_any r.text W2 f5)
  by_cases hs : lineB (bl r.text) = true
  · have HP := Lib.hid (HN.out.trans (if_pos hs))
    rw [hs] at HS
    clear hs
    go_wp2_with fail
    refine HS.out.mono ?_
    rintro e w' ⟨rfl, rfl⟩
    go_wp2_with fail
    go_ret
    exact MayQ.yes HP.out HM1.out.wt HM1.out.only
  · have HP := Lib.hid (HN.out.trans (if_neg hs))
    rw [show lineB (bl r.text) = false by simpa using hs] at HS
    clear hs
    go_wp2_with fail
    refine HS.out.mono ?_
    rintro e w' ⟨rfl, rfl⟩
    go_wp2_with fail
    go_ret
    exact MayQ.no HP.out HM1.out.wt HM1.out.only
set_option maxRecDepth 100000 in
set_option maxHeartbeats 8000000 in
theorem may_2 (hw : Wt w G it tx) (hk : RpK (fun b => b ≠ G) w r A c) (ht1 : tx ≤ 1000000000) (ht0 : -1000000000 ≤ tx) (hK : r.kind = 2) (hN : r.num = 0) (hZ : r.kids.length = 0) :
    Calls Tryd.prog 55 #[.agg (rpV r A c), .int .i64 d, .pointer (some ⟨G, 0, none⟩)] w (MayQ w G (mayF r d it tx)) := by
  have HMV := Lib.hid (MV.new w G r A c d it tx hw hk)
  obtain ⟨_, _, _, _, f5, f6⟩ := hk.1
  have hw1 : IntKind.i64.wrap (tx - (r.text.size : Int)) = tx - (r.text.size : Int) := IntWalk.i64_in _ (by omega)
  have HO1 : Hid (tx - (r.text.size : Int) < 0 → mayF r d it tx = none) := Lib.hid (fun h => by rw [mayF_eq, if_neg (fun h => h.2 hN), if_neg (fun h => by omega), if_pos h])
  have HO2 := Lib.hid (fun h : ¬ tx - (r.text.size : Int) < 0 => show mayF r d it tx = _ by rw [mayF_eq, if_neg (fun h => h.2 hN), if_neg (fun h => by omega), if_neg h, if_neg (fun h => by rw [hK] at h; exact absurd h (by decide)), if_neg (fun h => by rw [hK] at h; exact absurd h (by decide)), if_pos (.inr hK)])
  obtain ⟨v0, v1, v2, v3, v4, v5⟩ := HMV.out.rows
  obtain ⟨t0, t1, tf⟩ := HMV.out.wt.rows
  clear hw hk
  have m0 : r.kind ≠ 0 := (by rw [hK]; decide)
  have a0 : (r.kind == 0) = false := by simpa using m0
  have b0 : decide (r.kind = 0) = false := decide_eq_false m0
  have m1 : r.kind ≠ 1 := (by rw [hK]; decide)
  have a1 : (r.kind == 1) = false := by simpa using m1
  have b1 : decide (r.kind = 1) = false := decide_eq_false m1
  have a2 : (r.kind == 2) = true := by simpa using hK
  have b2 : decide (r.kind = 2) = true := decide_eq_true hK
  have m3 : r.kind ≠ 3 := (by rw [hK]; decide)
  have a3 : (r.kind == 3) = false := by simpa using m3
  have b3 : decide (r.kind = 3) = false := decide_eq_false m3
  have n3 : (r.kind != 3) = true := by simpa using m3
  have m4 : r.kind ≠ 4 := (by rw [hK]; decide)
  have a4 : (r.kind == 4) = false := by simpa using m4
  have b4 : decide (r.kind = 4) = false := decide_eq_false m4
  have m5 : r.kind ≠ 5 := (by rw [hK]; decide)
  have a5 : (r.kind == 5) = false := by simpa using m5
  have b5 : decide (r.kind = 5) = false := decide_eq_false m5
  have n5 : (r.kind != 5) = true := by simpa using m5
  have e3 : (r.num != 0) = false := by simpa using hN
  have e4 : decide (r.num = 0) = true := decide_eq_true hN
  have e7 : decide (0 < r.kids.length) = false := decide_eq_false (by omega)
  have e8 : ¬ 0 < r.kids.length := by omega
  clear hK hN hZ m0 m1 m3 m4 m5
  go_enter Tryd.func55, Tryd.ntmps55
  go_upto_region 3 with (fail)
  generalize (((w.alloc (.cells (rpV r A c) 41)).alloc (.cells #[.int .i64 d] 3)).alloc (.cells #[.pointer (some ⟨G, 0, none⟩)] 99)) = W at *
  generalize w.heap.size = B at *
  go_still_tail 10, (by kernel_rfl)
  change wpList _ _ _ _ _ W.drew
  have HM1 := Lib.hid ((HMV.out.stx (tx - (r.text.size : Int))).drew 1)
  change Hid (MV w (World.drew (World.setCell W _ _)) B G r A c d it _) at HM1
  go_upto_region 4 with (fail)
  clear HMV v0 v1 v2 v3 v4 v5 t0 t1 tf hw1
  generalize (W.setCell ⟨G, 1, none⟩ (.int .i64 (tx - (r.text.size : Int)))).drew = W2 at *
  obtain ⟨v0, v1, v2, v3, v4, v5⟩ := HM1.out.rows
  obtain ⟨t0, t1, tf⟩ := HM1.out.wt.rows
  by_cases hneg : tx - (r.text.size : Int) < 0
  · have HN := Lib.hid (HO1.out hneg)
    have g1 : decide (tx - (r.text.size : Int) < 0) = true := decide_eq_true hneg
    go_wp2_with fail
    go_ret
    exact MayQ.no HN.out HM1.out.wt HM1.out.only
  have HN := Lib.hid (HO2.out hneg)
  have g1 : decide (tx - (r.text.size : Int) < 0) = false := decide_eq_false hneg
  clear HO1 HO2 hneg
  have HS := Lib.hid (single_any r.text W2 f5)
  by_cases hs : lineB (bl r.text) = true
  · have HP := Lib.hid (HN.out.trans (if_pos hs))
    rw [hs] at HS
    clear hs
    go_wp2_with fail
    refine HS.out.mono ?_
    rintro e w' ⟨rfl, rfl⟩
    go_wp2_with fail
    go_ret
    exact MayQ.yes HP.out HM1.out.wt HM1.out.only
  · have HP := Lib.hid (HN.out.trans (if_neg hs))
    rw [show lineB (bl r.text) = false by simpa using hs] at HS
    clear hs
    go_wp2_with fail
    refine HS.out.mono ?_
    rintro e w' ⟨rfl, rfl⟩
    go_wp2_with fail
    go_ret
    exact MayQ.no HP.out HM1.out.wt HM1.out.only
set_option maxRecDepth 100000 in
set_option maxHeartbeats 8000000 in
theorem may_x (hw : Wt w G it tx) (hk : RpK (fun b => b ≠ G) w r A c) (ht1 : tx ≤ 1000000000) (ht0 : -1000000000 ≤ tx) (hK0 : r.kind ≠ 0) (hK1 : r.kind ≠ 1) (hK2 : r.kind ≠ 2) (hK3 : r.kind ≠ 3) (hK4 : r.kind ≠ 4) (hK5 : r.kind ≠ 5) (hN : r.num = 0) (hZ : r.kids.length = 0) :
    Calls Tryd.prog 55 #[.agg (rpV r A c), .int .i64 d, .pointer (some ⟨G, 0, none⟩)] w (MayQ w G (mayF r d it tx)) := by
  have HMV := Lib.hid (MV.new w G r A c d it tx hw hk)
  obtain ⟨_, _, _, _, f5, f6⟩ := hk.1
  have hw1 : IntKind.i64.wrap (tx - (r.text.size : Int)) = tx - (r.text.size : Int) := IntWalk.i64_in _ (by omega)
  have HO1 : Hid (tx - (r.text.size : Int) < 0 → mayF r d it tx = none) := Lib.hid (fun h => by rw [mayF_eq, if_neg (fun h => h.2 hN), if_neg (fun h => by omega), if_pos h])
  have HO2 := Lib.hid (fun h : ¬ tx - (r.text.size : Int) < 0 => show mayF r d it tx = _ by rw [mayF_eq, if_neg (fun h => h.2 hN), if_neg (fun h => by omega), if_neg h, if_neg (fun h => h.elim hK0 hK3), if_neg hK4, if_neg (fun h => h.elim hK1 hK2), if_neg hK5])
  obtain ⟨v0, v1, v2, v3, v4, v5⟩ := HMV.out.rows
  obtain ⟨t0, t1, tf⟩ := HMV.out.wt.rows
  clear hw hk
  have m0 : r.kind ≠ 0 := hK0
  have a0 : (r.kind == 0) = false := by simpa using m0
  have b0 : decide (r.kind = 0) = false := decide_eq_false m0
  have m1 : r.kind ≠ 1 := hK1
  have a1 : (r.kind == 1) = false := by simpa using m1
  have b1 : decide (r.kind = 1) = false := decide_eq_false m1
  have m2 : r.kind ≠ 2 := hK2
  have a2 : (r.kind == 2) = false := by simpa using m2
  have b2 : decide (r.kind = 2) = false := decide_eq_false m2
  have m3 : r.kind ≠ 3 := hK3
  have a3 : (r.kind == 3) = false := by simpa using m3
  have b3 : decide (r.kind = 3) = false := decide_eq_false m3
  have n3 : (r.kind != 3) = true := by simpa using m3
  have m4 : r.kind ≠ 4 := hK4
  have a4 : (r.kind == 4) = false := by simpa using m4
  have b4 : decide (r.kind = 4) = false := decide_eq_false m4
  have m5 : r.kind ≠ 5 := hK5
  have a5 : (r.kind == 5) = false := by simpa using m5
  have b5 : decide (r.kind = 5) = false := decide_eq_false m5
  have n5 : (r.kind != 5) = true := by simpa using m5
  have e3 : (r.num != 0) = false := by simpa using hN
  have e4 : decide (r.num = 0) = true := decide_eq_true hN
  have e7 : decide (0 < r.kids.length) = false := decide_eq_false (by omega)
  have e8 : ¬ 0 < r.kids.length := by omega
  clear hN hZ hK0 m0 hK1 m1 hK2 m2 hK3 m3 hK4 m4 hK5 m5
  go_enter Tryd.func55, Tryd.ntmps55
  go_upto_region 3 with (fail)
  generalize (((w.alloc (.cells (rpV r A c) 41)).alloc (.cells #[.int .i64 d] 3)).alloc (.cells #[.pointer (some ⟨G, 0, none⟩)] 99)) = W at *
  generalize w.heap.size = B at *
  go_still_tail 10, (by kernel_rfl)
  change wpList _ _ _ _ _ W.drew
  have HM1 := Lib.hid ((HMV.out.stx (tx - (r.text.size : Int))).drew 1)
  change Hid (MV w (World.drew (World.setCell W _ _)) B G r A c d it _) at HM1
  go_upto_region 4 with (fail)
  clear HMV v0 v1 v2 v3 v4 v5 t0 t1 tf hw1
  generalize (W.setCell ⟨G, 1, none⟩ (.int .i64 (tx - (r.text.size : Int)))).drew = W2 at *
  obtain ⟨v0, v1, v2, v3, v4, v5⟩ := HM1.out.rows
  obtain ⟨t0, t1, tf⟩ := HM1.out.wt.rows
  by_cases hneg : tx - (r.text.size : Int) < 0
  · have HN := Lib.hid (HO1.out hneg)
    have g1 : decide (tx - (r.text.size : Int) < 0) = true := decide_eq_true hneg
    go_wp2_with fail
    go_ret
    exact MayQ.no HN.out HM1.out.wt HM1.out.only
  have HN := Lib.hid (HO2.out hneg)
  have g1 : decide (tx - (r.text.size : Int) < 0) = false := decide_eq_false hneg
  clear HO1 HO2 hneg
  go_wp2_with fail
  go_ret
  exact MayQ.no HN.out HM1.out.wt HM1.out.only
end
end Go.Proofs.YtglicojojpggmaaDoor
