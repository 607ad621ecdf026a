/- Whether a reply may be. -/
import Derived.Test.YtglicojojpggmaaDoorMayC
namespace Go.Proofs.YtglicojojpggmaaDoor
open Go Go.RowKit
section
variable {n : Nat} {r : Rp} {A : Option Addr} {c : Nat} {d it tx : Int} {G : Nat} {w : World}
set_option maxRecDepth 100000 in
set_option maxHeartbeats 8000000 in
theorem may_5 (IH : MayC n) (hh : hgt r ≤ n + 1) (hw : Wt w G it tx) (hk : RpK (fun b => b ≠ G) w r A c) (ht1 : tx ≤ 1000000000) (ht0 : -1000000000 ≤ tx) (hi0 : 0 ≤ it) (hi1 : it ≤ 1000000000) (hd0 : 0 ≤ d) (hd1 : d ≤ 1000000000) (hK : r.kind = 5) (hN : r.num = 0) :
    Calls Tryd.prog 55 #[.agg (rpV r A c), .int .i64 d, .pointer (some ⟨G, 0, none⟩)] w (MayQ w G (mayF r d it tx)) := by
  have HMV := Lib.hid (MV.new w G r A c d it tx hw hk)
  obtain ⟨_, _, _, _, f5, f6⟩ := hk.1
  have hw1 : IntKind.i64.wrap (tx - (r.text.size : Int)) = tx - (r.text.size : Int) := IntWalk.i64_in _ (by omega)
  have HO1 : Hid (tx - (r.text.size : Int) < 0 → mayF r d it tx = none) := Lib.hid (fun h => by rw [mayF_eq, if_neg (fun h => h.2 hN), if_neg (fun h => h.1 hK), if_pos h])
  have HO2 := Lib.hid (fun h : ¬ tx - (r.text.size : Int) < 0 => show mayF r d it tx = _ by rw [mayF_eq, if_neg (fun h => h.2 hN), if_neg (fun h => h.1 hK), if_neg h, if_neg (fun h => by rw [hK] at h; exact absurd h (by decide)), if_neg (fun h => by rw [hK] at h; exact absurd h (by decide)), if_neg (fun h => by rw [hK] at h; exact absurd h (by decide)), if_pos hK])
  obtain ⟨v0, v1, v2, v3, v4, v5⟩ := HMV.out.rows
  obtain ⟨t0, t1, tf⟩ := HMV.out.wt.rows
  clear hw hk
  have m0 : r.kind ≠ 0 := (by rw [hK]; decide)
  have a0 : (r.kind == 0) = false := by simpa using m0
  have b0 : decide (r.kind = 0) = false := decide_eq_false m0
  have m1 : r.kind ≠ 1 := (by rw [hK]; decide)
  have a1 : (r.kind == 1) = false := by simpa using m1
  have b1 : decide (r.kind = 1) = false := decide_eq_false m1
  have m2 : r.kind ≠ 2 := (by rw [hK]; decide)
  have a2 : (r.kind == 2) = false := by simpa using m2
  have b2 : decide (r.kind = 2) = false := decide_eq_false m2
  have m3 : r.kind ≠ 3 := (by rw [hK]; decide)
  have a3 : (r.kind == 3) = false := by simpa using m3
  have b3 : decide (r.kind = 3) = false := decide_eq_false m3
  have n3 : (r.kind != 3) = true := by simpa using m3
  have m4 : r.kind ≠ 4 := (by rw [hK]; decide)
  have a4 : (r.kind == 4) = false := by simpa using m4
  have b4 : decide (r.kind = 4) = false := decide_eq_false m4
  have a5 : (r.kind == 5) = true := by simpa using hK
  have b5 : decide (r.kind = 5) = true := decide_eq_true hK
  have n5 : (r.kind != 5) = false := by simpa using hK
  have e3 : (r.num != 0) = false := by simpa using hN
  have e4 : decide (r.num = 0) = true := decide_eq_true hN
  clear hK hN  m0 m1 m2 m3 m4
  go_enter Tryd.func55, Tryd.ntmps55
  go_upto_region 3 with (fail)
  generalize (((w.alloc (.cells (rpV r A c) 41)).alloc (.cells #[.int .i64 d] 3)).alloc (.cells #[.pointer (some ⟨G, 0, none⟩)] 99)) = W at *
  generalize w.heap.size = B at *
  go_still_tail 10, (by kernel_rfl)
  change wpList _ _ _ _ _ W.drew
  have HM1 := Lib.hid ((HMV.out.stx (tx - (r.text.size : Int))).drew 1)
  change Hid (MV w (World.drew (World.setCell W _ _)) B G r A c d it _) at HM1
  go_upto_region 4 with (fail)
  clear HMV v0 v1 v2 v3 v4 v5 t0 t1 tf hw1
  generalize (W.setCell ⟨G, 1, none⟩ (.int .i64 (tx - (r.text.size : Int)))).drew = W2 at *
  obtain ⟨v0, v1, v2, v3, v4, v5⟩ := HM1.out.rows
  obtain ⟨t0, t1, tf⟩ := HM1.out.wt.rows
  by_cases hneg : tx - (r.text.size : Int) < 0
  · have HN := Lib.hid (HO1.out hneg)
    have g1 : decide (tx - (r.text.size : Int) < 0) = true := decide_eq_true hneg
    go_wp2_with fail
    go_ret
    exact MayQ.no HN.out HM1.out.wt HM1.out.only
  have HN := Lib.hid (HO2.out hneg)
  have g1 : decide (tx - (r.text.size : Int) < 0) = false := decide_eq_false hneg
  clear HO1 HO2 hneg
  have hw2 : IntKind.i64.wrap (it - (r.kids.length : Int)) = it - (r.kids.length : Int) := IntWalk.i64_in _ (by omega)
  have HM2 := Lib.hid ((HM1.out.sit (it - (r.kids.length : Int))).drew 1)
  change Hid (MV w (World.drew (World.setCell W2 _ _)) B G r A c d _ _) at HM2
  go_upto_region 16 with (fail)
  go_still_tail 10, (by kernel_rfl)
  change wpList _ _ _ _ _ W2.drew
  go_upto_region 17 with (fail)
  clear HM1 v0 v1 v2 v3 v4 v5 t0 t1 tf hw2
  generalize (W2.setCell ⟨G, 0, none⟩ (.int .i64 (it - (r.kids.length : Int)))).drew = W3 at *
  obtain ⟨v0, v1, v2, v3, v4, v5⟩ := HM2.out.rows
  obtain ⟨t0, t1, tf⟩ := HM2.out.wt.rows
  by_cases hs : r.text.size = 0
  rotate_left
  · have HP := Lib.hid (HN.out.trans (if_pos (.inl hs)))
    have hb2 : r.text.toList.isEmpty = false := by
      rw [Lib.toList_data]
      cases h : r.text.data.toList with
      | nil => exact absurd (by have := bl_len r.text; rw [show bl r.text = _ from h] at this; simpa using this.symm) hs
      | cons x l => rfl
    clear hs
    go_wp2_with fail
    go_ret
    exact MayQ.no HP.out HM2.out.wt HM2.out.only
  have hb : r.text.toList = [] := by rw [Lib.toList_data]; exact List.eq_nil_of_length_eq_zero (by rw [bl_len]; exact hs)
  have hb2 : r.text.toList.isEmpty = true := by rw [hb]; rfl
  by_cases hd : d = 0
  · have HP := Lib.hid (HN.out.trans (if_pos (.inr (.inl hd))))
    have d1 : (d == 0) = true := by simpa using hd
    have d2 : decide (d = 0) = true := decide_eq_true hd
    clear hs hd
    go_wp2_with fail
    go_ret
    exact MayQ.no HP.out HM2.out.wt HM2.out.only
  have d1 : (d == 0) = false := by simpa using hd
  have d2 : decide (d = 0) = false := decide_eq_false hd
  by_cases hi : it - (r.kids.length : Int) < 0
  · have HP := Lib.hid (HN.out.trans (if_pos (.inr (.inr hi))))
    have i1 : decide (it - (r.kids.length : Int) < 0) = true := decide_eq_true hi
    clear hs hd hi
    go_wp2_with fail
    go_ret
    exact MayQ.no HP.out HM2.out.wt HM2.out.only
  have i1 : decide (it - (r.kids.length : Int) < 0) = false := decide_eq_false hi
  have HP := Lib.hid (HN.out.trans (if_neg (fun h => h.elim (fun h => h hs) (fun h => h.elim hd hi))))
  have hhk : hgtL r.kids ≤ n := by
    cases r
    rw [hgt] at hh
    exact Nat.le_of_succ_le_succ hh
  have HE : Hid (Env W3 (B + 1) (B + 1 + 1) G d) := Lib.hid ⟨HM2.out.b1, HM2.out.b2, by have := HM2.out.gb; omega, by have := HM2.out.gb; omega⟩
  have hneg := of_decide_eq_false g1
  have HCA := Lib.hid (contains_any IH hhk HM2.out.wt HM2.out.ks HE.out (by omega) (by omega) (by omega) (by omega) (by omega) (by omega))
  have hmf : ∀ (fn : Fn) (first cap : Array Value) (w : World), (Instr.makeFunc fn first cap).run Tryd.prog w = .ok (.func fn first cap) w := fun _ _ _ _ => rfl
  clear hs hd hi hhk IH hh HN hneg
  obtain ⟨o, ho⟩ : ∃ o, mayL r.kids (d - 1) (it - (r.kids.length : Int)) (tx - (r.text.size : Int)) = o := ⟨_, rfl⟩
  rw [ho] at HCA HP
  clear ho
  go_wp2_with fail
  refine HCA.out.mono ?_
  rintro e w1 ⟨it2, tx2, rfl, hw2, hp2, ho2⟩
  have HW2 := Lib.hid hw2
  have HP2 := Lib.hid hp2
  have HO2 := Lib.hid (only_trans HM2.out.only ho2)
  clear hw2 hp2 ho2 HCA
  go_wp2_with fail
  go_ret
  rw [HP.out]
  exact ⟨it2, tx2, by cases o <;> rfl, HW2.out, HP2.out, HO2.out⟩
end
theorem may_all : ∀ n, MayC n
  | 0 => fun r A c d it tx G w hh => by
    cases r
    rw [hgt] at hh
    omega
  | n + 1 => fun r A c d it tx G w hh hw hk hi0 hi1 ht1 ht0 hd0 hd1 => by
    by_cases h1 : r.kind ≠ 3 ∧ r.num ≠ 0
    · exact may_no1 hw hk h1.1 h1.2
    by_cases h2 : r.kind ≠ 5 ∧ 0 < r.kids.length
    · exact may_no2 hw hk h1 h2.1 h2.2
    have hN : r.kind ≠ 3 → r.num = 0 := fun h => Classical.byContradiction fun h' => h1 ⟨h, h'⟩
    have hZ : r.kind ≠ 5 → r.kids.length = 0 := fun h => Classical.byContradiction fun h' => h2 ⟨h, by omega⟩
    by_cases k0 : r.kind = 0
    · exact may_0 hw hk ht1 ht0 k0 (hN (by omega)) (hZ (by omega))
    by_cases k1 : r.kind = 1
    · exact may_1 hw hk ht1 ht0 k1 (hN (by omega)) (hZ (by omega))
    by_cases k2 : r.kind = 2
    · exact may_2 hw hk ht1 ht0 k2 (hN (by omega)) (hZ (by omega))
    by_cases k3 : r.kind = 3
    · exact may_3 hw hk ht1 ht0 k3 (hZ (by omega))
    by_cases k4 : r.kind = 4
    · exact may_4 hw hk ht1 ht0 k4 (hN (by omega)) (hZ (by omega))
    by_cases k5 : r.kind = 5
    · exact may_5 (may_all n) hh hw hk ht1 ht0 hi0 hi1 hd0 hd1 k5 (hN (by omega))
    exact may_x hw hk ht1 ht0 k0 k1 k2 k3 k4 k5 (hN (by omega)) (hZ (by omega))
/-- What is wrong with a reply. -/
def chkR (r : Rp) : Int := if (mayF r 100 65536 1048576).isSome then 0 else 2
set_option maxRecDepth 100000 in
set_option maxHeartbeats 8000000 in
theorem check_any (P : Nat → Prop) (r : Rp) (A : Option Addr) (c : Nat) (w : World) (hk : RpK P w r A c) : Calls Tryd.prog 23 #[.agg (rpV r A c)] w fun e w' => e = .returned (.int .i64 (chkR r)) ∧ Below w.heap.size w w' := by
  have b0 := below_new w (.cells (rpV r A c) 41)
  have s0 : (w.alloc (.cells (rpV r A c) 41)).heap.size = w.heap.size + 1 := by simp
  have b1 := below_new (w.alloc (.cells (rpV r A c) 41)) (.cells #[.int .i64 65536, .int .i64 1048576] 101)
  have hb := b0.trans (b1.mono (by rw [s0]; omega))
  have hw : Wt ((w.alloc (.cells (rpV r A c) 41)).alloc (.cells #[.int .i64 65536, .int .i64 1048576] 101)) (w.heap.size + 1) 65536 1048576 := by
    have := heap_alloc_new (w.alloc (.cells (rpV r A c) 41)) (.cells #[.int .i64 65536, .int .i64 1048576] 101)
    rw [s0] at this
    exact this
  have hk2 : RpK (fun b => b ≠ w.heap.size + 1) ((w.alloc (.cells (rpV r A c) 41)).alloc (.cells #[.int .i64 65536, .int .i64 1048576] 101)) r A c := hk.imp hb.size (fun b _ h => ⟨hb.block b h, by omega⟩)
  have H := Lib.hid (may_all _ r A c 100 65536 1048576 (w.heap.size + 1) _ (Nat.le_refl _) hw hk2 (by decide) (by decide) (by decide) (by decide) (by decide) (by decide))
  have HB := Lib.hid hb
  have HE : Hid (chkR r = if (mayF r 100 65536 1048576).isSome then 0 else 2) := Lib.hid rfl
  obtain ⟨E, hE⟩ : ∃ E, chkR r = E := ⟨_, rfl⟩
  rw [hE] at HE ⊢
  generalize mayF r 100 65536 1048576 = o at *
  clear b0 s0 b1 hb hw hk2 hk hE
  cases o with
  | none =>
    go_enter Tryd.func23, Tryd.ntmps23
    go_wp2_with fail
    refine H.out.mono ?_
    rintro e w1 ⟨it2, tx2, rfl, hw2, hp2, ho2⟩
    have HB2 := Lib.hid (HB.out.trans (only_below ho2 (by omega) (by have := HB.out.size; omega)))
    clear hw2 hp2 ho2
    go_wp2_with fail
    go_ret
    exact ⟨by rw [HE.out]; rfl, HB2.out⟩
  | some p =>
    go_enter Tryd.func23, Tryd.ntmps23
    go_wp2_with fail
    refine H.out.mono ?_
    rintro e w1 ⟨it2, tx2, rfl, hw2, hp2, ho2⟩
    have HB2 := Lib.hid (HB.out.trans (only_below ho2 (by omega) (by have := HB.out.size; omega)))
    clear hw2 hp2 ho2
    go_wp2_with fail
    go_ret
    exact ⟨by rw [HE.out]; rfl, HB2.out⟩
end Go.Proofs.YtglicojojpggmaaDoor
