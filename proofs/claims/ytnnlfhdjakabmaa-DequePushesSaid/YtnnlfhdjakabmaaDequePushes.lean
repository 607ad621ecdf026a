/- Proved here: 'taborlaw06.DequePushes' returns true for any three lists of texts. Conditions: none. -/
import Derived.LaidLaws
import Derived.Test.YtnnlfhdjakabmaaFrame
import Derived.Test.YtnnlfhdjakabmaaDp
import Derived.Deep.Cut
namespace Go.Proofs.Ytnnlfhdjakabmaa.dequePushes
open Go Go.RowKit Go.ChangeShapes Go.WideShapes Go.ChangeAt
open Go.Shelf

set_option maxHeartbeats 8000000 in
set_option maxRecDepth 100000 in
theorem walk (A B C : Option Addr) (n c m d p q : Nat) (l ls lb : List ByteArray) (w : World) (hn : l.length = n) (bn : n ≤ 9223372036854775807) (hnc : n ≤ c) (hO : A = none → c = 0) (hs : ∀ s ∈ l, s.size ≤ 140737488351232) (ha : RdV w A (cellsS l))
    (hm : ls.length = m) (bm : m ≤ 9223372036854775807) (hmd : m ≤ d) (hO2 : B = none → d = 0) (hs2 : ∀ s ∈ ls, s.size ≤ 140737488351232) (hb : RdV w B (cellsS ls))
    (hp : lb.length = p) (bp : p ≤ 9223372036854775807) (hpq : p ≤ q) (hO3 : C = none → q = 0) (hs3 : ∀ s ∈ lb, s.size ≤ 140737488351232) (hc : RdV w C (cellsS lb)) :
    Calls Try.prog 5 #[.slice A n c, .slice B m d, .slice C p q] w fun e w' => e = .returned (.bool true) ∧ Below w.heap.size w w' := by
  have H1 := few_any A n c l w hn bn hs ha
  have H2 := few_any B m d ls w hm bm hs2 hb
  have H3 := few_any C p q lb w hp bp hs3 hc
  have HW := Lib.hid (works_any w)
  have HN := Lib.hid hn
  have HM := Lib.hid hm
  have HP := Lib.hid hp
  have HA := Lib.hid ha
  have HBB := Lib.hid hb
  have HC := Lib.hid hc
  have HO := Lib.hid hO
  have HO2 := Lib.hid hO2
  have HO3 := Lib.hid hO3
  by_cases q1 : szT l ≤ 3000
  rotate_left
  · rw [decide_eq_false q1] at H1
    have H1' := Lib.hid H1
    clear hn hs ha hm hs2 hb hp hs3 hc H1 H2 H3 q1 hO hO2 hO3
    go_enter Try.func5, Try.ntmps5
    go_wp2_with fail
    refine H1'.out.mono ?_
    rintro e w' ⟨rfl, rfl⟩
    go_wp2_with fail
    refine HW.out.mono ?_
    rintro e w2 ⟨rfl, hb2⟩
    go_wp2
    go_ret
    exact ⟨rfl, hb2⟩
  rw [decide_eq_true q1] at H1
  have H1' := Lib.hid H1
  by_cases q2 : szT ls ≤ 3000
  rotate_left
  · rw [decide_eq_false q2] at H2
    have H2' := Lib.hid H2
    clear hn hs ha hm hs2 hb hp hs3 hc H1 H2 H3 q1 q2 hO hO2 hO3
    go_enter Try.func5, Try.ntmps5
    go_wp2_with fail
    refine H1'.out.mono ?_
    rintro e w' ⟨rfl, rfl⟩
    go_wp2_with fail
    refine H2'.out.mono ?_
    rintro e w' ⟨rfl, rfl⟩
    go_wp2_with fail
    refine HW.out.mono ?_
    rintro e w2 ⟨rfl, hb2⟩
    go_wp2
    go_ret
    exact ⟨rfl, hb2⟩
  rw [decide_eq_true q2] at H2
  have H2' := Lib.hid H2
  by_cases q3 : szT lb ≤ 3000
  rotate_left
  · rw [decide_eq_false q3] at H3
    have H3' := Lib.hid H3
    clear hn hs ha hm hs2 hb hp hs3 hc H1 H2 H3 q1 q2 q3 hO hO2 hO3
    go_enter Try.func5, Try.ntmps5
    go_wp2_with fail
    refine H1'.out.mono ?_
    rintro e w' ⟨rfl, rfl⟩
    go_wp2_with fail
    refine H2'.out.mono ?_
    rintro e w' ⟨rfl, rfl⟩
    go_wp2_with fail
    refine H3'.out.mono ?_
    rintro e w' ⟨rfl, rfl⟩
    go_wp2_with fail
    refine HW.out.mono ?_
    rintro e w2 ⟨rfl, hb2⟩
    go_wp2
    go_ret
    exact ⟨rfl, hb2⟩
  rw [decide_eq_true q3] at H3
  have H3' := Lib.hid H3
  have L1 := Lib.hid (long_few q1)
  have L2 := Lib.hid (long_few q2)
  have L3 := Lib.hid (long_few q3)
  have z1 := szT_len l
  have z2 := szT_len ls
  have z3 := szT_len lb
  have bn' : n ≤ 300 := by omega
  have bm' : m ≤ 300 := by omega
  have bp' : p ≤ 300 := by omega
  clear hn hs ha hm hs2 hb hp hs3 hc H1 H2 H3 q1 q2 q3 z1 z2 z3 bn bm bp hO hO2 hO3
  go_enter Try.func5, Try.ntmps5
  go_wp2_with fail
  refine H1'.out.mono ?_
  rintro e w' ⟨rfl, rfl⟩
  go_wp2_with fail
  refine H2'.out.mono ?_
  rintro e w' ⟨rfl, rfl⟩
  go_wp2_with fail
  refine H3'.out.mono ?_
  rintro e w0 ⟨rfl, rfl⟩
  go_upto_region 4 with (first
    | (at_builtin; refine wpList_strs rfl (.tmp 29) (.tmp 30) rfl w0.heap.size _ [] 0 rfl rfl (own_empty w0 9 w0.heap.size (Nat.le_refl _)) A n c l HN.out rfl (HA.out.below (below_new w0 _)) HO.out hnc (by omega) (by simp) ?_; intro w1v w1a ho1 hb1 hs1; rw [Nat.zero_add, List.nil_append] at ho1; have w1O1 := Lib.hid ho1; have w1B1 := Lib.hid ((below_new w0 (.cells #[] 9)).trans hb1); clear ho1 hb1 hs1)
    | (at_builtin; refine wpList_strs rfl (.tmp 31) (.tmp 32) rfl w0.heap.size _ l n HN.out rfl (own_below w1O1.out (below_new w1a _)) (some ⟨w1a.heap.size, 0, none⟩) 1 1 [⟨#[115, 112, 97, 114, 101]⟩] rfl rfl (new_rdS w1a [⟨#[115, 112, 97, 114, 101]⟩]) (fun e => by cases e) (Nat.le_refl _) (by omega) (by have := w1B1.out.size; simp; omega) ?_; intro w1u w1 ho1 hb1 hs1; have w1O2 := Lib.hid ho1; have HB1 := Lib.hid (w1B1.out.trans (((below_new w1a (.cells #[.string ⟨#[115, 112, 97, 114, 101]⟩] 9)).mono w1B1.out.size).trans hb1)); clear ho1 hb1 hs1; obtain ⟨g1, c1, hv1, hc1, hBg1, hlg1, -, -, -⟩ := row_form w1O2.out (by omega); subst hv1)
    | (refine wpList_slice_hi rfl (.tmp 33) (.tmp 35) 29 9 rfl Try.underlying29 (sz9 _) (some ⟨g1, 0, none⟩) (n + 1) c1 rfl .i64 n rfl (by omega) ?_)
)
  have HB0 := Lib.hid (HBB.out.below HB1.out)
  go_wp2_with (first
    | (at_builtin; refine wpList_strs rfl (.tmp 37) (.tmp 38) rfl w1.heap.size _ [] 0 rfl rfl (own_empty w1 9 w1.heap.size (Nat.le_refl _)) B m d ls HM.out rfl (HB0.out.below (below_new w1 _)) HO2.out hmd (by omega) (by simp) ?_; intro w2v w2a ho1 hb1 hs1; rw [Nat.zero_add, List.nil_append] at ho1; have w2O1 := Lib.hid ho1; have w2B1 := Lib.hid ((below_new w1 (.cells #[] 9)).trans hb1); clear ho1 hb1 hs1)
    | (at_builtin; refine wpList_strs rfl (.tmp 39) (.tmp 40) rfl w1.heap.size _ ls m HM.out rfl (own_below w2O1.out (below_new w2a _)) (some ⟨w2a.heap.size, 0, none⟩) 1 1 [⟨#[115, 112, 97, 114, 101]⟩] rfl rfl (new_rdS w2a [⟨#[115, 112, 97, 114, 101]⟩]) (fun e => by cases e) (Nat.le_refl _) (by omega) (by have := w2B1.out.size; simp; omega) ?_; intro w2u w2 ho1 hb1 hs1; have w2O2 := Lib.hid ho1; have HB2 := Lib.hid (w2B1.out.trans (((below_new w2a (.cells #[.string ⟨#[115, 112, 97, 114, 101]⟩] 9)).mono w2B1.out.size).trans hb1)); clear ho1 hb1 hs1; obtain ⟨g2, c2, hv1, hc2, hBg2, hlg2, -, -, -⟩ := row_form w2O2.out (by omega); subst hv1)
    | (refine wpList_slice_hi rfl (.tmp 41) (.tmp 43) 29 9 rfl Try.underlying29 (sz9 _) (some ⟨g2, 0, none⟩) (m + 1) c2 rfl .i64 m rfl (by omega) ?_)
)
  have HB12 := Lib.hid (HB1.out.trans (HB2.out.mono HB1.out.size))
  have HR1 : Hid (RdV w2 (some ⟨g1, 0, none⟩) (cellsS l)) := Lib.hid (by
    obtain ⟨A', c', hv, -, -, -, hr⟩ := own_rdV w1O2.out
    cases hv
    exact (RdV.front' hr).below HB2.out)
  have HR2 : Hid (RdV w2 (some ⟨g2, 0, none⟩) (cellsS ls)) := Lib.hid (by
    obtain ⟨A', c', hv, -, -, -, hr⟩ := own_rdV w2O2.out
    cases hv
    exact RdV.front' hr)
  have hg12 : g1 < w2.heap.size := by have := HB2.out.size; omega
  refine (new_ds w2 (some ⟨g1, 0, none⟩) n c1 l w2 (Below.refl _ _) HN.out HR1.out L1.out (by omega)).mono ?_
  rintro e w3 ⟨D, rfl, hd⟩
  have HD3 := Lib.hid hd
  clear hd
  go_wp2_with fail
  refine (front_ds w2 D m c2 l (some ⟨g2, 0, none⟩) ls w3 HD3.out HM.out HR2.out L2.out (by rw [HN.out]; omega)).mono ?_
  rintro e w4 ⟨rfl, hd⟩
  have HD4 := Lib.hid hd
  have HB04 := Lib.hid (HB12.out.trans (hd.2.mono HB12.out.size))
  clear hd HD3
  go_wp2_with fail
  refine (num_any 0 _).mono ?_
  rintro e w5 ⟨rfl, rfl⟩
  go_wp2_with fail
  refine (num_any 0 _).mono ?_
  rintro e w5 ⟨rfl, rfl⟩
  go_wp2_with fail
  refine (front_list A B n m c d l ls w4 HN.out HM.out hnc HO.out (HA.out.below HB04.out) (HBB.out.below HB04.out) (by omega)).mono ?_
  rintro e w5 ⟨A5, n5, c5, rfl, hl5, hnc5, hA5, hr5, hb5⟩
  have HD5 := Lib.hid (HD4.out.below hb5)
  have HL5 := Lib.hid hl5
  have HR5 := Lib.hid hr5
  clear hl5 hA5 hr5 hb5 hnc5 HD4 HB04
  go_wp2_with fail
  refine (is_ds w2 D (ls.reverse ++ l) A5 n5 c5 w5 HD5.out HL5.out HR5.out).mono ?_
  rintro e w6 ⟨rfl, hd6, -⟩
  have HD6 := Lib.hid hd6
  clear hd6 HD5 HL5 HR5
  go_wp2_with fail
  refine (back_ds w2 D p q (ls.reverse ++ l) C lb w6 HD6.out HP.out (HC.out.below HB12.out) L3.out (by simp [HN.out, HM.out]; omega)).mono ?_
  rintro e w7 ⟨rfl, hd7⟩
  have HO7 := Lib.hid (own_below (own_below w1O2.out HB2.out) hd7.2)
  have HU7 := Lib.hid (pu_start (g := g1) hd7 HB12.out)
  have HZ7 : Hid ((cellsS (l ++ [⟨#[115, 112, 97, 114, 101]⟩]))[n]? = some (.string ⟨#[115, 112, 97, 114, 101]⟩)) := Lib.hid (by have := HN.out; subst this; simp [cellsS])
  clear hd7 HD6
  go_wp2_with fail
  go_loopw [13] (fun i W => ∃ (k : Nat) (zs : List Value), i = .int .i64 k ∧ k ≤ n ∧ Hid (W.ownsRow w0.heap.size 9 1 (.slice (some ⟨g1, 0, none⟩) (n + 1) c1) (n + 1) zs) ∧ Hid (zs[n]? = some (.string ⟨#[115, 112, 97, 114, 101]⟩)) ∧ Hid (PU w0 w2 w2.heap.size g1 D (ls.reverse ++ l ++ lb) W)) (fun i _ => n - (intOf i).toNat)
  case atStart => exact ⟨0, _, rfl, by omega, HO7, HZ7, HU7⟩
  case round =>
  clear HO7 HZ7 HU7
  obtain ⟨k, zs, rfl, hk, HOk, HZk, HUk⟩ := hrel
  by_cases hlt : k < n
  · obtain ⟨gb, cg, hv, -, hB, -, hob, hcell, hfr⟩ := row_form HOk.out (by omega)
    obtain ⟨rfl, rfl⟩ : g1 = gb ∧ c1 = cg := by simpa using hv
    have hzl : zs.length = n + 1 := by have := HOk.out.1; omega
    obtain ⟨z, hz⟩ : ∃ z, zs[k]? = some z := ⟨_, List.getElem?_eq_getElem (by omega)⟩
    have h1 := hcell k z hz
    have fr := hfr k
    have o1 := HOk.out.stored k (.string ⟨#[63]⟩)
    have HO2' := Lib.hid o1.1
    have HZ2 : Hid ((zs.set k (.string ⟨#[63]⟩))[n]? = some (.string ⟨#[115, 112, 97, 114, 101]⟩)) := Lib.hid (by rw [List.getElem?_set_ne (by omega)]; exact HZk.out)
    have HU2 := Lib.hid (pu_step HUk.out o1.2 hB hg12)
    clear hcell hfr hv hob o1 hz hzl
    go_wp2_with fail
    go_roundw
    case rel => exact ⟨k + 1, _, by go_num, by omega, HO2', HZ2, HU2⟩
    case measure => simp [intOf]; omega
  · have HD8 := Lib.hid (pu_ds HUk.out HB12.out.size)
    have HB8 := Lib.hid HUk.out.2.1
    have HG2 : Hid (wr.heap[g2]? = w2.heap[g2]?) := Lib.hid (HUk.out.2.2.2 g2 hlg2 (by omega))
    have hs8 : g2 < wr.heap.size := by have := HUk.out.2.2.1; omega
    have HX8 := Lib.hid (rdV_block (c := c2) HR2.out HG2.out hs8)
    have HS1 : Hid (wr.cell? ⟨g1, n, none⟩ = some (.string ⟨#[115, 112, 97, 114, 101]⟩)) := Lib.hid (by
      obtain ⟨gb, cg, hv, -, hB, -, hob, hcell, hfr⟩ := row_form HOk.out (by omega)
      obtain ⟨rfl, rfl⟩ : g1 = gb ∧ c1 = cg := by simpa using hv
      exact hcell n _ HZk.out)
    have HS2 : Hid (wr.cell? ⟨g2, m, none⟩ = some (.string ⟨#[115, 112, 97, 114, 101]⟩)) := Lib.hid (by
      obtain ⟨gb, cg, hv, -, hB, -, hob, hcell, hfr⟩ := row_form w2O2.out (by omega)
      obtain ⟨rfl, rfl⟩ : g2 = gb ∧ c2 = cg := by simpa using hv
      rw [← hcell m (.string ⟨#[115, 112, 97, 114, 101]⟩) (by have := HM.out; subst this; simp [cellsS])]
      simp only [World.cell?, HG2.out])
    have hs9 : g1 < wr.heap.size := by have := HUk.out.2.2.1; omega
    obtain rfl : k = n := by omega
    clear HOk HZk HUk HG2 HR1 HR2 hlt
    go_wp2_with fail
    refine (front_list A B k m c d l ls _ HN.out HM.out hnc HO.out ((HA.out.below HB8.out).below (below_new wr _)) ((HBB.out.below HB8.out).below (below_new wr _)) (by omega)).mono ?_
    rintro e w9 ⟨A9, n9, c9, rfl, hl9, hnc9, hA9, hr9, hb9⟩
    have hn9 : n9 ≤ 600 := by have := hl9; simp [HN.out, HM.out] at this; omega
    have HL9 := Lib.hid hl9
    have HR9 := Lib.hid hr9
    have HA9 := Lib.hid hA9
    have HE9 := Lib.hid (own_below (own_empty wr 9 wr.heap.size (Nat.le_refl _)) hb9)
    have HB9 := Lib.hid ((below_new wr (.cells #[] 9)).trans (hb9.mono (by simp)))
    have HC9 := Lib.hid ((HC.out.below HB8.out).below HB9.out)
    clear hl9 hr9 hA9 hb9
    go_wp2_with (first
      | (at_builtin; refine wpList_strs rfl (.tmp 79) (.tmp 82) rfl wr.heap.size _ [] 0 rfl rfl HE9.out A9 n9 c9 (ls.reverse ++ l) HL9.out rfl HR9.out HA9.out hnc9 (by omega) (by have := HB9.out.size; omega) ?_; intro v10 w10 ho1 hb1 hs1; rw [Nat.zero_add, List.nil_append] at ho1; have HO10 := Lib.hid ho1; have HB10 := Lib.hid (HB9.out.trans hb1); have HC10 := Lib.hid ((HC.out.below HB8.out).below HB10.out); clear ho1 hb1 hs1)
      | (at_builtin; refine wpList_strs rfl (.tmp 83) (.tmp 84) rfl wr.heap.size _ (ls.reverse ++ l) n9 HL9.out rfl HO10.out C p q lb HP.out rfl HC10.out HO3.out hpq (by omega) (by have := HB10.out.size; omega) ?_; intro v11 w11 ho1 hb1 hs1; have HO11 := Lib.hid ho1; have HB11 := Lib.hid (HB10.out.trans hb1); clear ho1 hb1 hs1; obtain ⟨A11, c11, hv11, -, -, -, hr11⟩ := own_rdV HO11.out; subst hv11; have HR11 := Lib.hid hr11; clear hr11))
    refine (num_any 0 _).mono ?_
    rintro e w12 ⟨rfl, rfl⟩
    go_wp2_with fail
    refine (is_ds w0 D (ls.reverse ++ l ++ lb) A11 (n9 + p) c11 _ (HD8.out.below HB11.out) (by rw [List.length_append, HL9.out, HP.out]) HR11.out).mono ?_
    rintro e w12 ⟨rfl, hd12, hb12⟩
    have HB12' := Lib.hid (HB11.out.trans (hb12.mono HB11.out.size))
    have HX12 := Lib.hid (HX8.out.below HB12'.out)
    have HBB12 := Lib.hid ((HBB.out.below HB8.out).below HB12'.out)
    clear hb12 hd12
    go_wp2_with fail
    refine (one_any (some ⟨g2, 0, none⟩) B m m c2 d ls ls w12 HM.out HM.out (by omega) (by omega) HX12.out HBB12.out).mono ?_
    rintro e w13 ⟨he, q13, rfl⟩
    rw [eqS_refl] at he
    subst he
    have HB13 := Lib.hid (below_any q13 HB12'.out)
    have hs1 : (w12.drewN q13).cell? ⟨g1, k, none⟩ = some (.string ⟨#[115, 112, 97, 114, 101]⟩) := (HB13.out.cell (p := ⟨g1, k, none⟩) hs9).trans HS1.out
    have hs2 : (w12.drewN q13).cell? ⟨g2, m, none⟩ = some (.string ⟨#[115, 112, 97, 114, 101]⟩) := (HB13.out.cell (p := ⟨g2, m, none⟩) hs8).trans HS2.out
    generalize w12.drewN q13 = w13 at *
    go_wp2_with (first
      | (refine wpList_slice_hi rfl (.tmp 100) (.tmp 103) 29 9 rfl Try.underlying29 (sz9 _) (some ⟨g1, 0, none⟩) k c1 rfl .i64 (k + 1) (by go_num) (by omega) ?_)
      | (refine wpList_slice_hi rfl (.tmp 112) (.tmp 115) 29 9 rfl Try.underlying29 (sz9 _) (some ⟨g2, 0, none⟩) m c2 rfl .i64 (m + 1) (by go_num) (by omega) ?_))
    refine (works_any _).mono ?_
    rintro e w14 ⟨rfl, hb14⟩
    go_wp2_with fail
    try go_ret
    exact ⟨rfl, HB8.out.trans ((HB13.out.trans (hb14.mono HB13.out.size)).mono HB8.out.size)⟩


theorem reads (os : Os) {H : Type} (enc : TypeId × Value → H) : ∃ places, DataW.whole enc Try.prog ((World.holding Try.prog os ⟨#[], #[.slice none 0 0, .slice none 0 0, .slice none 0 0], []⟩).forCall (fun _ _ => 0) ⟨#[], #[.slice none 0 0, .slice none 0 0, .slice none 0 0], []⟩).memory Try.f5.params.toList Rows.dequePushesSpec.vars false (#[.slice none 0 0, .slice none 0 0, .slice none 0 0] : Array Value).toList 8 = some ([.nil, .nil, .nil], [], places) :=
  ⟨[], by kernel_rfl⟩
theorem laidNone (w : World) : laidMet Try.prog [] w := laidMet_of_run' 8 (by kernel_rfl) (by kernel_rfl)
set_option maxRecDepth 100000 in
theorem lifted (os : Os) (started : os.Started) (H : Type) (enc : TypeId × Value → H) (F : Stop.Interp) :
    ReturnsInHanded {} Try.checked os 5 .any ((OpenSpec.ofChange Rows.dequePushesSpec).preRow enc Try.prog Try.f5 Rows.dequePushesRow.domain false Rows.dequePushesRow.laid) (((OpenSpec.ofChange Rows.dequePushesSpec).at F).post enc Try.prog Try.f5 false true false false) := by
  obtain ⟨places, hx⟩ := reads os enc
  refine returnsInHanded_of_row (C := Try.checked) (s := OpenSpec.ofChange Rows.dequePushesSpec) own started (by kernel_rfl) Try.func5
    (witness_row_at (enc := enc) (C := Try.checked) false (World.holding Try.prog os ⟨#[], #[.slice none 0 0, .slice none 0 0, .slice none 0 0], []⟩) #[.slice none 0 0, .slice none 0 0, .slice none 0 0] rfl (by kernel_rfl) (by kernel_rfl) (by kernel_rfl)
      (OpenSpec.preRow_of_cond 8 hx (by kernel_rfl) (fun k hk => by cases hk) (by kernel_rfl) (laidNone _))) ?_
  intro W base args ds gs before hval0 hW _ _ hZ _ _ _
  show Calls Try.prog 5 args W fun e W' => ∃ v, e = .returned v ∧ Rows.dequePushesSpec.post enc Try.prog Try.f5 false true false false W args v W'
  have hval : ∀ (j : Nat) t v, Try.f5.params[j]? = some t → args[j]? = some v → Value.okWide Try.prog W .any base t v := hval0
  have hW' := hW
  obtain ⟨p, q, hA0, hV, rfl, hfz, hnd⟩ := hW
  have hA : DataW.TrodAll enc Try.prog W 0 (fun _ => true) true Try.f5.params.toList args.toList ds p := hA0
  have hZ1 : (DataW.weightsEach Try.prog (Try.f5.params.toList ++ (OpenSpec.ofChange Rows.dequePushesSpec).bare.plain.varTypes Try.prog) (ds ++ gs)).all (· ≤ reachBytes) = true := hZ
  rw [Try.params5] at hZ1
  rw [Try.params5] at hA hval
  obtain ⟨v0, vs0, d0, ds0, p0, q0, hargs, rfl, rfl, h0, r0⟩ := trodAll_cons hA
  obtain ⟨v1, vs1, d1, ds1, p1, q1, rfl, rfl, rfl, h1, r1⟩ := trodAll_cons r0
  obtain ⟨v2, vs2, d2, ds2, p2, q2, rfl, rfl, rfl, h2, r2⟩ := trodAll_cons r1
  obtain ⟨rfl, rfl, rfl⟩ := trodAll_nil r2
  obtain rfl : args = #[v0, v1, v2] := by cases args; simp_all
  obtain ⟨rfl, rfl⟩ := trodVars_none hV
  have k0 := h0
  have lt0 : ∀ x ∈ p0, x.block < W.heap.size := by obtain ⟨m, hm⟩ := k0; exact DataW.trod_lt m _ _ _ hm
  obtain ⟨ca0, na0, ea0, rfl⟩ := okWide_slice Try.underlying29 (hval 0 29 v0 rfl rfl)
  obtain ⟨fu0, hf0⟩ := h0
  obtain ⟨A0, n0, c0, l0, hv0, hn0, hnc0, hcm0, hO0, hr0, hs0⟩ := strs_of hf0 (weight_at hZ1 (j := 0) rfl rfl)
  cases hv0
  simp only [maxLen] at hcm0
  have k1 := h1
  have lt1 : ∀ x ∈ p1, x.block < W.heap.size := by obtain ⟨m, hm⟩ := k1; exact DataW.trod_lt m _ _ _ hm
  obtain ⟨ca1, na1, ea1, rfl⟩ := okWide_slice Try.underlying29 (hval 1 29 v1 rfl rfl)
  obtain ⟨fu1, hf1⟩ := h1
  obtain ⟨A1, n1, c1, l1, hv1, hn1, hnc1, hcm1, hO1, hr1, hs1⟩ := strs_of hf1 (weight_at hZ1 (j := 1) rfl rfl)
  cases hv1
  simp only [maxLen] at hcm1
  have k2 := h2
  have lt2 : ∀ x ∈ p2, x.block < W.heap.size := by obtain ⟨m, hm⟩ := k2; exact DataW.trod_lt m _ _ _ hm
  obtain ⟨ca2, na2, ea2, rfl⟩ := okWide_slice Try.underlying29 (hval 2 29 v2 rfl rfl)
  obtain ⟨fu2, hf2⟩ := h2
  obtain ⟨A2, n2, c2, l2, hv2, hn2, hnc2, hcm2, hO2, hr2, hs2⟩ := strs_of hf2 (weight_at hZ1 (j := 2) rfl rfl)
  cases hv2
  simp only [maxLen] at hcm2
  clear hA0 hval0
  refine (walk _ _ _ _ _ _ _ _ _ l0 l1 l2 W hn0 (by omega) hnc0 hO0 hs0 hr0 hn1 (by omega) hnc1 hO1 hs1 hr1 hn2 (by omega) hnc2 hO2 hs2 hr2).mono fun e W' ⟨he, bel⟩ => ?_
  subst he
  exact ⟨_, rfl, _, _, _, [], _, [], hW', trodAll_mk1 (shut_bool Try.underlying4 _), (trodAll_cons_mk (Below.trod laidOut (by kernel_rfl) (of_decide_eq_true (by kernel_rfl)) k0 bel lt0) (trodAll_cons_mk (Below.trod laidOut (by kernel_rfl) (of_decide_eq_true (by kernel_rfl)) k1 bel lt1) (trodAll_cons_mk (Below.trod laidOut (by kernel_rfl) (of_decide_eq_true (by kernel_rfl)) k2 bel lt2) trodAll_mk0))), rfl, bel.frame _, fun h => by cases h⟩

/-- The statement. -/
theorem proved : Rows.DequePushesSaid :=
  OpenClaim.holds_of_cond 5 Try.f5 rfl rfl rfl rfl rfl rfl rfl ⟨rfl, rfl, rfl, rfl, rfl⟩ rfl rfl rfl rfl rfl (by kernel_rfl) Try.func5 (by kernel_rfl)
    (of_decide_eq_true (by kernel_rfl)) (by unfold Func.isWrapper; first | (rw [if_pos (by decide +kernel)]; kernel_rfl) | (rw [if_neg (by decide +kernel)]; exact ⟨rfl, rfl⟩))
    (fun os started H enc _ F => by rw [OpenClaim.pre_eq_preRow]; exact lifted os started H enc F)
#print axioms proved
end Go.Proofs.Ytnnlfhdjakabmaa.dequePushes
