/- Proved here: 'taborlaw06.DequeTells' returns true for any list of texts, any two places and any text. Conditions: none. -/
import Derived.LaidLaws
import Derived.Test.YtnnlfhdjakabmaaFrame
import Derived.Test.YtnnlfhdjakabmaaDt
namespace Go.Proofs.Ytnnlfhdjakabmaa.dequeTells
open Go Go.RowKit Go.ChangeShapes Go.WideShapes Go.ChangeAt
open Go.Shelf

set_option maxHeartbeats 8000000 in
set_option maxRecDepth 100000 in
theorem walk_yes (A : Option Addr) (n c : Nat) (l : List ByteArray) (f u : Int) (t : ByteArray) (i : Nat) (w : World) (hn : l.length = n) (bn' : n ≤ 300) (hnc : n ≤ c) (hO : A = none → c = 0) (ha : RdV w A (cellsS l)) (hlong : longB l = false) (hfew : Calls Try.prog 18 #[.slice A n c] w fun e w' => e = .returned (.bool true) ∧ w' = w) (ht : t.size ≤ 3000)
    (f1 : -9223372036854775808 ≤ f) (f2 : f ≤ 9223372036854775807) (u1 : -9223372036854775808 ≤ u) (u2 : u ≤ 9223372036854775807) (hp : placeF (n : Int) f = ((i : Int), true)) :
    Calls Try.prog 7 #[.slice A n c, .int .i64 f, .int .i64 u, .string t] w fun e w' => e = .returned (.bool true) ∧ Below w.heap.size w w' := by
  have HN := Lib.hid hn
  have HA := Lib.hid ha
  have HO := Lib.hid hO
  have L1 := Lib.hid hlong
  have H1' := Lib.hid hfew
  have HP := Lib.hid hp
  have HPl : Hid (placeF (l.length : Int) f = ((i : Int), true)) := Lib.hid (by rw [hn]; exact hp)
  have hi := placeF_lt hp
  have hi0 : i < l.length := by omega
  have hi1 : (i : Int) < (n : Int) := hi.2
  have hi2 : (0 : Int) ≤ (i : Int) := hi.1
  obtain ⟨x, hx⟩ : ∃ x, l[i] = x := ⟨_, rfl⟩
  have HX := Lib.hid hx
  have d3 : decide ((t.size : Int) > 3000) = false := by simp; omega
  clear hn ha hO hlong hfew hp
  go_enter Try.func7, Try.ntmps7
  go_wp2_with fail
  refine H1'.out.mono ?_
  rintro e w0 ⟨rfl, rfl⟩
  go_wp2_with fail
  refine (new_ds w0 A n c l w0 (Below.refl _ _) HN.out HA.out L1.out (by omega)).mono ?_
  rintro e w1 ⟨D, rfl, hd⟩
  have HD1 := Lib.hid hd
  clear hd
  go_wp2_with fail
  refine (rplace_any (n : Int) f _ (by omega) (by omega) f1 f2).mono ?_
  rintro e w2 ⟨rfl, rfl⟩
  rw [HP.out]
  go_wp2_with fail
  refine (at_ds_yes w0 D i l f _ HD1.out f1 f2 HPl.out hi0).mono ?_
  rintro e w3 ⟨rfl, hd⟩
  rw [HX.out]
  have HD3 := Lib.hid hd
  clear hd HD1
  go_wp2_with fail
  refine (range_ds w0 D l f u w3 HD3.out f1 f2 u1 u2).mono ?_
  rintro e w4 ⟨v4, rfl, ho4, hb4⟩
  obtain ⟨g, hg⟩ : ∃ g, (rangeL l f u).length = g := ⟨_, rfl⟩
  rw [hg] at ho4
  have HG := Lib.hid hg
  have hgn : g ≤ 300 := by rw [← hg]; unfold rangeL; rw [List.length_take, List.length_drop]; have := HN.out; omega
  obtain ⟨A4, c4, rfl, k4, -, -, hr4⟩ := own_rdV ho4
  have HO4 := Lib.hid ho4
  have HB4 := Lib.hid hb4
  have HR4 := Lib.hid hr4
  clear ho4 hb4 hr4 hg
  go_wp2_with fail
  refine (num_any 0 _).mono ?_
  rintro e w5 ⟨rfl, rfl⟩
  obtain ⟨b, off, rfl, hbb, hca⟩ := rdS_at (HA.out.below (HD3.out.below HB4.out).2) (k := i) hi0
  rw [HX.out] at hca
  go_wp2_with fail
  refine (rrange_any _ n c l f u _ HN.out hnc HO.out (HA.out.below (HD3.out.below HB4.out).2) (by omega) f1 f2 u1 u2).mono ?_
  rintro e w6 ⟨A6, n6, c6, rfl, hl6, hnc6, hA6, hr6, hb6⟩
  obtain rfl : n6 = g := by rw [← hl6, HG.out]
  have HO6 := Lib.hid (own_below HO4.out hb6)
  have HR46 := Lib.hid (HR4.out.below hb6)
  have HB6 := Lib.hid (HB4.out.trans (hb6.mono HB4.out.size))
  have HR6 := Lib.hid hr6
  have HL6 := Lib.hid hl6
  clear HO4 HR4 HB4 hr6 hl6 hb6 hA6
  go_wp2_with fail
  refine (one_any A4 A6 n6 n6 c4 c6 (rangeL l f u) (rangeL l f u) w6 HL6.out HL6.out (by omega) (by omega) HR46.out HR6.out).mono ?_
  rintro e w7 ⟨he, q7, rfl⟩
  rw [eqS_refl] at he
  subst he
  have hb7 := below_any q7 (Below.refl w6.heap.size w6)
  have HO7 := Lib.hid (own_below HO6.out hb7)
  have HB7 := Lib.hid (HB6.out.trans (hb7.mono HB6.out.size))
  generalize w6.drewN q7 = w7 at *
  clear hb7 HO6 HB6 HR46 HR6
  go_wp2_with fail
  go_loopw [16] (fun i W => ∃ (k : Nat) (zs : List Value), i = .int .i64 k ∧ k ≤ n6 ∧ Hid (W.ownsRow w3.heap.size 9 1 (.slice A4 n6 c4) n6 zs) ∧ Hid (Below w3.heap.size w3 W)) (fun i _ => n6 - (intOf i).toNat)
  case atStart => exact ⟨0, _, rfl, by omega, HO7, HB7⟩
  case round =>
  clear HO7 HB7
  obtain ⟨k, zs, rfl, hk, HOk, HBk⟩ := hrel
  by_cases hlt : k < n6
  · obtain ⟨gb, cg, hv, -, hB, -, hob, hcell, hfr⟩ := row_form HOk.out (by omega)
    obtain ⟨rfl, -, rfl⟩ : A4 = some ⟨gb, 0, none⟩ ∧ n6 = n6 ∧ c4 = cg := by simpa using hv
    have hzl : zs.length = n6 := by have := HOk.out.1; omega
    obtain ⟨z, hz⟩ : ∃ z, zs[k]? = some z := ⟨_, List.getElem?_eq_getElem (by omega)⟩
    have h1 := hcell k z hz
    have fr := hfr k
    have o1 := HOk.out.stored k (.string ⟨#[63]⟩)
    have HO2 := Lib.hid o1.1
    have HB2 := Lib.hid (HBk.out.grown o1.2 HBk.out.size (fun j e => by cases e; exact hB))
    clear hcell hfr hv hob o1 hz
    go_wp2_with fail
    go_roundw
    case rel => exact ⟨k + 1, _, by go_num, by omega, HO2, HB2⟩
    case measure => simp [intOf]; omega
  · have HD8 := Lib.hid (HD3.out.below HBk.out)
    clear HD3 HOk HBk
    go_wp2_with fail
    refine (put_ds_yes w0 D i l f t wr HD8.out (by omega) f1 f2 HPl.out).mono ?_
    rintro e w9 ⟨rfl, hd9⟩
    have HD9 := Lib.hid hd9
    have HA9 := Lib.hid (HA.out.below hd9.2)
    clear hd9 HD8
    go_wp2_with (at_builtin; refine wpList_strs rfl (.tmp 99) (.tmp 100) rfl w9.heap.size _ [] 0 rfl rfl (own_empty w9 9 w9.heap.size (Nat.le_refl _)) _ n c l HN.out rfl (HA9.out.below (below_new w9 _)) HO.out hnc (by omega) (by simp) ?_; intro v10 w10 ho10 hb10 hs10; rw [Nat.zero_add, List.nil_append] at ho10; have HB10 := Lib.hid ((below_new w9 (.cells #[] 9)).trans hb10); have HO10 := Lib.hid ho10; clear ho10 hb10 hs10; obtain ⟨g1, c1, hv1, hc1, hB1, -, hob1, hcell1, hfr1⟩ := row_form HO10.out (by omega); subst hv1; have h1 := hcell1 i (.string x) (by simp only [cellsS, List.getElem?_map]; rw [List.getElem?_eq_getElem hi0, HX.out]; rfl); have fr := hfr1 i; have o1 := HO10.out.stored i (.string t); have HO11 := Lib.hid o1.1; have HB11 := Lib.hid (HB10.out.grown o1.2 HB10.out.size (fun j e => by cases e; exact hB1)); clear hcell1 hfr1 hob1 o1)
    have hr11 := HO11.out
    rw [cells_set] at hr11
    obtain ⟨A11, c11, hv11, -, -, -, hr12⟩ := own_rdV hr11
    cases hv11
    have HR11 := Lib.hid hr12
    have HD11 := Lib.hid (HD9.out.below HB11.out)
    clear hr11 hr12
    refine (num_any 0 _).mono ?_
    rintro e w11 ⟨rfl, rfl⟩
    go_wp2_with fail
    refine (is_ds w0 D (l.set i t) _ n _ _ HD11.out (by simp [HN.out]) HR11.out).mono ?_
    rintro e w12 ⟨rfl, hd12, -⟩
    have HD12 := Lib.hid hd12.2
    clear hd12
    go_wp2_with fail
    refine (works_any _).mono ?_
    rintro e w13 ⟨rfl, hb13⟩
    go_wp2_with fail
    try go_ret
    exact ⟨rfl, HD12.out.trans (hb13.mono HD12.out.size)⟩
set_option maxHeartbeats 8000000 in
set_option maxRecDepth 100000 in
theorem walk_no (A : Option Addr) (n c : Nat) (l : List ByteArray) (f u : Int) (t : ByteArray) (w : World) (hn : l.length = n) (bn' : n ≤ 300) (hnc : n ≤ c) (hO : A = none → c = 0) (ha : RdV w A (cellsS l)) (hlong : longB l = false) (hfew : Calls Try.prog 18 #[.slice A n c] w fun e w' => e = .returned (.bool true) ∧ w' = w) (ht : t.size ≤ 3000)
    (f1 : -9223372036854775808 ≤ f) (f2 : f ≤ 9223372036854775807) (u1 : -9223372036854775808 ≤ u) (u2 : u ≤ 9223372036854775807) (hp : placeF (n : Int) f = (0, false)) :
    Calls Try.prog 7 #[.slice A n c, .int .i64 f, .int .i64 u, .string t] w fun e w' => e = .returned (.bool true) ∧ Below w.heap.size w w' := by
  have HN := Lib.hid hn
  have HA := Lib.hid ha
  have HO := Lib.hid hO
  have L1 := Lib.hid hlong
  have H1' := Lib.hid hfew
  have HP := Lib.hid hp
  have HPl : Hid (placeF (l.length : Int) f = (0, false)) := Lib.hid (by rw [hn]; exact hp)
  have d3 : decide ((t.size : Int) > 3000) = false := by simp; omega
  clear hn ha hO hlong hfew hp
  go_enter Try.func7, Try.ntmps7
  go_wp2_with fail
  refine H1'.out.mono ?_
  rintro e w0 ⟨rfl, rfl⟩
  go_wp2_with fail
  refine (new_ds w0 A n c l w0 (Below.refl _ _) HN.out HA.out L1.out (by omega)).mono ?_
  rintro e w1 ⟨D, rfl, hd⟩
  have HD1 := Lib.hid hd
  clear hd
  go_wp2_with fail
  refine (rplace_any (n : Int) f _ (by omega) (by omega) f1 f2).mono ?_
  rintro e w2 ⟨rfl, rfl⟩
  rw [HP.out]
  go_wp2_with fail
  refine (at_ds_no w0 D l f _ HD1.out f1 f2 HPl.out).mono ?_
  rintro e w3 ⟨rfl, hd⟩
  have HD3 := Lib.hid hd
  clear hd HD1
  go_wp2_with fail
  refine (range_ds w0 D l f u w3 HD3.out f1 f2 u1 u2).mono ?_
  rintro e w4 ⟨v4, rfl, ho4, hb4⟩
  obtain ⟨g, hg⟩ : ∃ g, (rangeL l f u).length = g := ⟨_, rfl⟩
  rw [hg] at ho4
  have HG := Lib.hid hg
  have hgn : g ≤ 300 := by rw [← hg]; unfold rangeL; rw [List.length_take, List.length_drop]; have := HN.out; omega
  obtain ⟨A4, c4, rfl, k4, -, -, hr4⟩ := own_rdV ho4
  have HO4 := Lib.hid ho4
  have HB4 := Lib.hid hb4
  have HR4 := Lib.hid hr4
  clear ho4 hb4 hr4 hg
  go_wp2_with fail
  refine (num_any 0 _).mono ?_
  rintro e w5 ⟨rfl, rfl⟩
  go_wp2_with fail
  refine (rrange_any _ n c l f u _ HN.out hnc HO.out (HA.out.below (HD3.out.below HB4.out).2) (by omega) f1 f2 u1 u2).mono ?_
  rintro e w6 ⟨A6, n6, c6, rfl, hl6, hnc6, hA6, hr6, hb6⟩
  obtain rfl : n6 = g := by rw [← hl6, HG.out]
  have HO6 := Lib.hid (own_below HO4.out hb6)
  have HR46 := Lib.hid (HR4.out.below hb6)
  have HB6 := Lib.hid (HB4.out.trans (hb6.mono HB4.out.size))
  have HR6 := Lib.hid hr6
  have HL6 := Lib.hid hl6
  clear HO4 HR4 HB4 hr6 hl6 hb6 hA6
  go_wp2_with fail
  refine (one_any A4 A6 n6 n6 c4 c6 (rangeL l f u) (rangeL l f u) w6 HL6.out HL6.out (by omega) (by omega) HR46.out HR6.out).mono ?_
  rintro e w7 ⟨he, q7, rfl⟩
  rw [eqS_refl] at he
  subst he
  have hb7 := below_any q7 (Below.refl w6.heap.size w6)
  have HO7 := Lib.hid (own_below HO6.out hb7)
  have HB7 := Lib.hid (HB6.out.trans (hb7.mono HB6.out.size))
  generalize w6.drewN q7 = w7 at *
  clear hb7 HO6 HB6 HR46 HR6
  go_wp2_with fail
  go_loopw [16] (fun i W => ∃ (k : Nat) (zs : List Value), i = .int .i64 k ∧ k ≤ n6 ∧ Hid (W.ownsRow w3.heap.size 9 1 (.slice A4 n6 c4) n6 zs) ∧ Hid (Below w3.heap.size w3 W)) (fun i _ => n6 - (intOf i).toNat)
  case atStart => exact ⟨0, _, rfl, by omega, HO7, HB7⟩
  case round =>
  clear HO7 HB7
  obtain ⟨k, zs, rfl, hk, HOk, HBk⟩ := hrel
  by_cases hlt : k < n6
  · obtain ⟨gb, cg, hv, -, hB, -, hob, hcell, hfr⟩ := row_form HOk.out (by omega)
    obtain ⟨rfl, -, rfl⟩ : A4 = some ⟨gb, 0, none⟩ ∧ n6 = n6 ∧ c4 = cg := by simpa using hv
    have hzl : zs.length = n6 := by have := HOk.out.1; omega
    obtain ⟨z, hz⟩ : ∃ z, zs[k]? = some z := ⟨_, List.getElem?_eq_getElem (by omega)⟩
    have h1 := hcell k z hz
    have fr := hfr k
    have o1 := HOk.out.stored k (.string ⟨#[63]⟩)
    have HO2 := Lib.hid o1.1
    have HB2 := Lib.hid (HBk.out.grown o1.2 HBk.out.size (fun j e => by cases e; exact hB))
    clear hcell hfr hv hob o1 hz
    go_wp2_with fail
    go_roundw
    case rel => exact ⟨k + 1, _, by go_num, by omega, HO2, HB2⟩
    case measure => simp [intOf]; omega
  · have HD8 := Lib.hid (HD3.out.below HBk.out)
    clear HD3 HOk HBk
    go_wp2_with fail
    refine (put_ds_no w0 D l f t wr HD8.out (by omega) f1 f2 HPl.out).mono ?_
    rintro e w9 ⟨rfl, hd9⟩
    have HD9 := Lib.hid hd9
    have HA9 := Lib.hid (HA.out.below hd9.2)
    clear hd9 HD8
    go_wp2_with (at_builtin; refine wpList_strs rfl (.tmp 99) (.tmp 100) rfl w9.heap.size _ [] 0 rfl rfl (own_empty w9 9 w9.heap.size (Nat.le_refl _)) _ n c l HN.out rfl (HA9.out.below (below_new w9 _)) HO.out hnc (by omega) (by simp) ?_; intro v10 w10 ho10 hb10 hs10; rw [Nat.zero_add, List.nil_append] at ho10; have HB10 := Lib.hid ((below_new w9 (.cells #[] 9)).trans hb10); have HO10 := Lib.hid ho10; clear ho10 hb10 hs10)
    obtain ⟨A11, c11, hv11, -, -, -, hr12⟩ := own_rdV HO10.out
    subst hv11
    have HR11 := Lib.hid hr12
    have HD11 := Lib.hid (HD9.out.below HB10.out)
    clear hr12
    refine (num_any 4 _).mono ?_
    rintro e w11 ⟨rfl, rfl⟩
    go_wp2_with fail
    refine (num_any 4 _).mono ?_
    rintro e w11 ⟨rfl, rfl⟩
    go_wp2_with fail
    refine (is_ds w0 D l A11 n c11 _ HD11.out HN.out HR11.out).mono ?_
    rintro e w12 ⟨rfl, hd12, -⟩
    have HD12 := Lib.hid hd12.2
    clear hd12
    go_wp2_with fail
    refine (works_any _).mono ?_
    rintro e w13 ⟨rfl, hb13⟩
    go_wp2_with fail
    try go_ret
    exact ⟨rfl, HD12.out.trans (hb13.mono HD12.out.size)⟩
theorem walk (A : Option Addr) (n c : Nat) (l : List ByteArray) (f u : Int) (t : ByteArray) (w : World) (hn : l.length = n) (bn : n ≤ 9223372036854775807) (hnc : n ≤ c) (hO : A = none → c = 0) (hs : ∀ s ∈ l, s.size ≤ 140737488351232) (ha : RdV w A (cellsS l))
    (f1 : -9223372036854775808 ≤ f) (f2 : f ≤ 9223372036854775807) (u1 : -9223372036854775808 ≤ u) (u2 : u ≤ 9223372036854775807) :
    Calls Try.prog 7 #[.slice A n c, .int .i64 f, .int .i64 u, .string t] w fun e w' => e = .returned (.bool true) ∧ Below w.heap.size w w' := by
  have H1 := few_any A n c l w hn bn hs ha
  have HW := Lib.hid (works_any w)
  have HN := Lib.hid hn
  have HA := Lib.hid ha
  have HO := Lib.hid hO
  by_cases q1 : szT l ≤ 3000
  rotate_left
  · rw [decide_eq_false q1] at H1
    have H1' := Lib.hid H1
    clear hn hs ha H1 q1 hO
    go_enter Try.func7, Try.ntmps7
    go_wp2_with fail
    refine H1'.out.mono ?_
    rintro e w' ⟨rfl, rfl⟩
    go_wp2_with fail
    refine HW.out.mono ?_
    rintro e w2 ⟨rfl, hb2⟩
    go_wp2
    go_ret
    exact ⟨rfl, hb2⟩
  rw [decide_eq_true q1] at H1
  have H1' := Lib.hid H1
  have L1 := Lib.hid (long_few q1)
  have z1 := szT_len l
  have bn' : n ≤ 300 := by omega
  clear hn hs ha H1 q1 z1 bn hO
  by_cases q3 : (t.size : Int) > 3000
  · have d3 : decide ((t.size : Int) > 3000) = true := by simp; omega
    go_enter Try.func7, Try.ntmps7
    go_wp2_with fail
    refine H1'.out.mono ?_
    rintro e w' ⟨rfl, rfl⟩
    go_wp2_with fail
    refine HW.out.mono ?_
    rintro e w2 ⟨rfl, hb2⟩
    go_wp2
    go_ret
    exact ⟨rfl, hb2⟩
  obtain ⟨i, ok, hp⟩ : ∃ i ok, placeF (n : Int) f = (i, ok) := ⟨_, _, rfl⟩
  cases ok
  · obtain rfl : i = 0 := by
      unfold placeF at hp
      by_cases hc : (n : Int) < 1 ∨ (if f < 0 then f + (n : Int) else f) < 0 ∨ (n : Int) ≤ (if f < 0 then f + (n : Int) else f)
      · rw [if_pos hc] at hp
        exact (congrArg Prod.fst hp).symm
      · rw [if_neg hc] at hp
        exact absurd (congrArg Prod.snd hp) (by simp)
    exact walk_no A n c l f u t w HN.out bn' hnc HO.out HA.out L1.out H1'.out (by omega) f1 f2 u1 u2 hp
  · have h0 := placeF_lt hp
    obtain ⟨j, rfl⟩ : ∃ j : Nat, i = j := ⟨i.toNat, by omega⟩
    exact walk_yes A n c l f u t j w HN.out bn' hnc HO.out HA.out L1.out H1'.out (by omega) f1 f2 u1 u2 hp


theorem reads (os : Os) {H : Type} (enc : TypeId × Value → H) : ∃ places, DataW.whole enc Try.prog ((World.holding Try.prog os ⟨#[], #[.slice none 0 0, .int .i64 0, .int .i64 0, .string ⟨#[]⟩], []⟩).forCall (fun _ _ => 0) ⟨#[], #[.slice none 0 0, .int .i64 0, .int .i64 0, .string ⟨#[]⟩], []⟩).memory Try.f7.params.toList Rows.dequeTellsSpec.vars false (#[.slice none 0 0, .int .i64 0, .int .i64 0, .string ⟨#[]⟩] : Array Value).toList 8 = some ([.nil, .lit (.int .i64 0), .lit (.int .i64 0), .lit (.string [])], [], places) :=
  ⟨[], by kernel_rfl⟩
theorem laidNone (w : World) : laidMet Try.prog [] w := laidMet_of_run' 8 (by kernel_rfl) (by kernel_rfl)
set_option maxRecDepth 100000 in
theorem lifted (os : Os) (started : os.Started) (H : Type) (enc : TypeId × Value → H) (F : Stop.Interp) :
    ReturnsInHanded {} Try.checked os 7 .any ((OpenSpec.ofChange Rows.dequeTellsSpec).preRow enc Try.prog Try.f7 Rows.dequeTellsRow.domain false Rows.dequeTellsRow.laid) (((OpenSpec.ofChange Rows.dequeTellsSpec).at F).post enc Try.prog Try.f7 false true false false) := by
  obtain ⟨places, hx⟩ := reads os enc
  refine returnsInHanded_of_row (C := Try.checked) (s := OpenSpec.ofChange Rows.dequeTellsSpec) own started (by kernel_rfl) Try.func7
    (witness_row_at (enc := enc) (C := Try.checked) false (World.holding Try.prog os ⟨#[], #[.slice none 0 0, .int .i64 0, .int .i64 0, .string ⟨#[]⟩], []⟩) #[.slice none 0 0, .int .i64 0, .int .i64 0, .string ⟨#[]⟩] rfl (by kernel_rfl) (by kernel_rfl) (by kernel_rfl)
      (OpenSpec.preRow_of_cond 8 hx (by kernel_rfl) (fun k hk => by cases hk) (by kernel_rfl) (laidNone _))) ?_
  intro W base args ds gs before hval0 hW _ _ hZ _ _ _
  show Calls Try.prog 7 args W fun e W' => ∃ v, e = .returned v ∧ Rows.dequeTellsSpec.post enc Try.prog Try.f7 false true false false W args v W'
  have hval : ∀ (j : Nat) t v, Try.f7.params[j]? = some t → args[j]? = some v → Value.okWide Try.prog W .any base t v := hval0
  have hW' := hW
  obtain ⟨p, q, hA0, hV, rfl, hfz, hnd⟩ := hW
  have hA : DataW.TrodAll enc Try.prog W 0 (fun _ => true) true Try.f7.params.toList args.toList ds p := hA0
  have hZ1 : (DataW.weightsEach Try.prog (Try.f7.params.toList ++ (OpenSpec.ofChange Rows.dequeTellsSpec).bare.plain.varTypes Try.prog) (ds ++ gs)).all (· ≤ reachBytes) = true := hZ
  rw [Try.params7] at hZ1
  rw [Try.params7] at hA hval
  obtain ⟨v0, vs0, d0, ds0, p0, q0, hargs, rfl, rfl, h0, r0⟩ := trodAll_cons hA
  obtain ⟨v1, vs1, d1, ds1, p1, q1, rfl, rfl, rfl, h1, r1⟩ := trodAll_cons r0
  obtain ⟨v2, vs2, d2, ds2, p2, q2, rfl, rfl, rfl, h2, r2⟩ := trodAll_cons r1
  obtain ⟨v3, vs3, d3, ds3, p3, q3, rfl, rfl, rfl, h3, r3⟩ := trodAll_cons r2
  obtain ⟨rfl, rfl, rfl⟩ := trodAll_nil r3
  obtain rfl : args = #[v0, v1, v2, v3] := by cases args; simp_all
  obtain ⟨rfl, rfl⟩ := trodVars_none hV
  have k0 := h0
  have lt0 : ∀ x ∈ p0, x.block < W.heap.size := by obtain ⟨m, hm⟩ := k0; exact DataW.trod_lt m _ _ _ hm
  obtain ⟨ca0, na0, ea0, rfl⟩ := okWide_slice Try.underlying29 (hval 0 29 v0 rfl rfl)
  obtain ⟨fu0, hf0⟩ := h0
  obtain ⟨A0, n0, c0, l0, hv0, hn0, hnc0, hcm0, hO0, hr0, hs0⟩ := strs_of hf0 (weight_at hZ1 (j := 0) rfl rfl)
  cases hv0
  simp only [maxLen] at hcm0
  obtain ⟨a1, rfl, rfl, rfl, w1⟩ := open_int Try.underlying2 (hval 1 2 v1 rfl rfl) h1
  have b1 := wf_i64 w1
  obtain ⟨a2, rfl, rfl, rfl, w2⟩ := open_int Try.underlying2 (hval 2 2 v2 rfl rfl) h2
  have b2 := wf_i64 w2
  obtain ⟨s3, rfl, rfl, rfl, hs3⟩ := Go.ChangeMaps.open_string Try.underlying9 (hval 3 9 v3 rfl rfl) h3
  clear hA0 hval0
  refine (walk _ _ _ l0 _ _ _ W hn0 (by omega) hnc0 hO0 hs0 hr0 b1.1 b1.2 b2.1 b2.2).mono fun e W' ⟨he, bel⟩ => ?_
  subst he
  exact ⟨_, rfl, _, _, _, [], _, [], hW', trodAll_mk1 (shut_bool Try.underlying4 _), (trodAll_cons_mk (Below.trod laidOut (by kernel_rfl) (of_decide_eq_true (by kernel_rfl)) k0 bel lt0) (trodAll_cons_mk (shut_int Try.underlying2 w1) (trodAll_cons_mk (shut_int Try.underlying2 w2) (trodAll_cons_mk (Go.ChangeMaps.shut_string Try.underlying9 hs3) trodAll_mk0)))), rfl, bel.frame _, fun h => by cases h⟩

/-- The statement. -/
theorem proved : Rows.DequeTellsSaid :=
  OpenClaim.holds_of_cond 7 Try.f7 rfl rfl rfl rfl rfl rfl rfl ⟨rfl, rfl, rfl, rfl, rfl⟩ rfl rfl rfl rfl rfl (by kernel_rfl) Try.func7 (by kernel_rfl)
    (of_decide_eq_true (by kernel_rfl)) (by unfold Func.isWrapper; first | (rw [if_pos (by decide +kernel)]; kernel_rfl) | (rw [if_neg (by decide +kernel)]; exact ⟨rfl, rfl⟩))
    (fun os started H enc _ F => by rw [OpenClaim.pre_eq_preRow]; exact lifted os started H enc F)
#print axioms proved
end Go.Proofs.Ytnnlfhdjakabmaa.dequeTells
