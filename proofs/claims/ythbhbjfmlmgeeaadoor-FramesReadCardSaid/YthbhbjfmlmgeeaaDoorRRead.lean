/- Which list bytes begin with, by the reference. -/
import Derived.Test.YthbhbjfmlmgeeaaDoorTexts
import Derived.Test.YthbhbjfmlmgeeaaDoorSteps
import Derived.Test.YthbhbjfmlmgeeaaDoorRead
namespace Go.Proofs.YthbhbjfmlmgeeaaDoor
open Go Go.RowKit
theorem read_fail {w w' : World} {l : List UInt8} (k : Nat) (h : readL l = ([], 0, k)) (hb : Below w.heap.size w w') : ReadEnd w l (.returned (.tuple #[.slice none 0 0, .int .i64 0, .int .i64 k])) w' := by
  refine ⟨.slice none 0 0, [], ?_, ?_, World.ownsRow_nil _ _ _ _, hb⟩
  · rw [h]; rfl
  · rw [h]; rfl
theorem read_done {w w' : World} {l : List UInt8} {v : Value} {ls : List ByteArray} (n : Nat) (h : readL l = (bl ls, n, 0)) (ho : w'.ownsRow w.heap.size 9 1 v ls.length (cellsS ls)) (hb : Below w.heap.size w w') : ReadEnd w l (.returned (.tuple #[v, .int .i64 n, .int .i64 0])) w' := by
  refine ⟨v, ls, ?_, ?_, ho, hb⟩
  · rw [h]; rfl
  · rw [h]
set_option maxHeartbeats 4000000 in
theorem rread_any (A : Option Addr) (n c : Nat) (l : List UInt8) (w : World) (hn : l.length = n) (hnc : n ≤ c) (bn : n ≤ 2000000000) (hA : A = none → c = 0) (hr : Rd w A l) :
    Calls Tryd.prog 18 #[.slice A n c] w (ReadEnd w l) := by
  have HN := Lib.hid hn
  have HA := Lib.hid hA
  have HR := Lib.hid hr
  by_cases h8 : n < 8
  · have hb : readL l = ([], 0, 120) := by unfold readL; rw [if_pos (by omega)]
    have HB := Lib.hid hb
    clear hn hA hr hb
    go_enter Tryd.func18, Tryd.ntmps18
    go_wp2
    go_ret3
    exact read_fail 120 HB.out (Below.refl _ _)
  have h8' : 8 ≤ n := by omega
  have hl8 : 8 ≤ l.length := by omega
  have HC := Lib.hid (rnum_any A n c l w hn (by omega) hnc hr)
  have hlt := of4_lt (l.take 4)
  have hd8 : (l.drop 8).length = n - 8 := by rw [List.length_drop, hn]
  by_cases h1 : 1048576 < of4 (l.take 4)
  · have HB := Lib.hid (rl_long hl8 h1)
    clear hn hA hr hl8 hd8
    generalize of4 (l.take 4) = N at *
    go_enter Tryd.func18, Tryd.ntmps18
    go_wp2_with fail
    refine HC.out.mono ?_
    rintro e w1 ⟨rfl, m, rfl⟩
    go_wp2
    go_ret3
    exact read_fail 121 HB.out (below_any _ (Below.refl _ _))
  have h1' : of4 (l.take 4) ≤ 1048576 := by omega
  by_cases h2 : n - 8 < of4 (l.take 4)
  · have HB := Lib.hid (rl_short hl8 h1' (by omega))
    clear hn hA hr hl8 hd8
    generalize of4 (l.take 4) = N at *
    have d1 : decide ((n : Int) - 8 < (N : Int)) = true := decide_eq_true (by omega)
    go_enter Tryd.func18, Tryd.ntmps18
    go_wp2_with fail
    refine HC.out.mono ?_
    rintro e w1 ⟨rfl, m, rfl⟩
    go_wp2
    go_ret3
    exact read_fail 120 HB.out (below_any _ (Below.refl _ _))
  have hbl : ((l.drop 8).take (of4 (l.take 4))).length = of4 (l.take 4) := by rw [List.length_take, hd8]; omega
  have HR1 := Lib.hid (fun h3 => rl_sum hl8 h1' (by omega) h3)
  have HR2 := Lib.hid (fun h3 => rl_body hl8 h1' (by omega) h3)
  have hl4 : (l.take 4).length = 4 := by rw [List.length_take]; omega
  have hm4 : ((l.drop 4).take 4).length = 4 := by rw [List.length_take, List.length_drop]; omega
  have HL4 := Lib.hid hl4
  have HM4 := Lib.hid hm4
  have hM := of4_lt ((l.drop 4).take 4)
  have hcr := crcOf_lt (l.take 4 ++ (l.drop 8).take (of4 (l.take 4)))
  obtain ⟨body, hbody⟩ : ∃ body, body = (l.drop 8).take (of4 (l.take 4)) := ⟨_, rfl⟩
  rw [← hbody] at hbl HR1 HR2 hcr
  obtain ⟨N, hN⟩ : ∃ N, N = of4 (l.take 4) := ⟨_, rfl⟩
  rw [← hN] at hlt h1 h1' h2 hbl HR2 HC hbody
  have HBODY := Lib.hid hbody
  have HBL := Lib.hid hbl
  have d1 : decide ((n : Int) - 8 < (N : Int)) = false := decide_eq_false (by omega)
  have h8N : 8 + N ≤ n := by omega
  obtain ⟨WT, hWT⟩ : ∃ WT, WT = of4 ((l.drop 4).take 4) := ⟨_, rfl⟩
  rw [← hWT] at hM HR1 HR2
  have HWT := Lib.hid hWT
  obtain ⟨CR, hCR⟩ : ∃ CR, CR = crcOf (l.take 4 ++ body) := ⟨_, rfl⟩
  rw [← hCR] at hcr HR1 HR2
  have HCR := Lib.hid hCR
  clear hn hA hr hl8 hd8 hbl hl4 hm4 hbody hN hWT hCR h1 h2
  go_enter Tryd.func18, Tryd.ntmps18
  go_wp2_with fail
  refine HC.out.mono ?_
  rintro e w1 ⟨rfl, m, rfl⟩
  have HB1 : Hid (Below w.heap.size w (w.drewN m)) := Lib.hid (below_any _ (Below.refl _ _))
  have HS1 : Hid ((w.drewN m).heap.size = w.heap.size) := Lib.hid rfl
  have HR1' := Lib.hid (HR.out.below HB1.out)
  generalize w.drewN m = w1 at *
  go_wp2_with (first
    | (refine wpList_cut_lh (by rfl) (.tmp 22) (.const (.int .i64 8)) (.tmp 24) rfl A n c l HN.out hnc HA.out HR1'.out rfl 8 (8 + N) N rfl rfl rfl h8N ?_; intro A8 c8 hr8 hn8 hc8; have HR8 : Hid (Rd w1 A8 body) := (by rw [HBODY.out]; exact hr8); clear hr8)
    | (refine wpList_cut_hi (by rfl) (.tmp 27) (.const (.int .i64 4)) rfl A n c l HN.out hnc ((HR1'.out).below (below_new w1 (.cells #[] 5))) rfl 4 rfl (by omega) ?_; intro hr4 hc4; have HR4 := Lib.hid hr4; clear hr4)
    | (at_builtin; refine wpList_bytes rfl (.tmp 26) (.tmp 28) rfl w1.heap.size _ [] rfl (own_empty w1 5 w1.heap.size (Nat.le_refl _)) A 4 c (l.take 4) HL4.out rfl HR4.out HA.out hc4 (by simp) (by simp) ?_; intro v10 w10 ho10 hb10 hs10; have hb10' : Below w1.heap.size w1 w10 := (below_new w1 (.cells #[] 5)).trans hb10; have hs10' := hb10'.size; have hr10 := HR8.out.below hb10')
    | (at_builtin; refine wpList_bytes rfl (.tmp 29) (.tmp 30) rfl w1.heap.size v10 _ rfl ho10 A8 N c8 body HBL.out rfl hr10 hn8 hc8 (by rw [List.nil_append, HL4.out]; omega) hs10' ?_; intro v11 w11 ho11 hb11 hs11; have HO11 : Hid (OwnB w11 w1.heap.size v11 (l.take 4 ++ body)) := ho11; obtain ⟨A11, c11, hv11, _, _, _, hr11⟩ := HO11.out.rd; rw [List.length_append, HL4.out, HBL.out] at hv11; subst hv11; have HR11 := Lib.hid hr11; have HB11 := Lib.hid (hb10'.trans hb11); clear ho10 hb10 hb10' ho11 hb11 hr11 hr10))
  refine (rcrc_n A11 (4 + N) c11 _ w11 (by rw [List.length_append, HL4.out, HBL.out]) (by omega) HR11.out).mono ?_
  rintro e w12 ⟨rfl, rfl⟩
  rw [← HCR.out]
  have HR12 := Lib.hid (HR8.out.below HB11.out)
  have hs1 := HS1.out
  have HB12 := Lib.hid (HB1.out.trans (HB11.out.mono (by omega)))
  have hs12 := HB12.out.size
  go_wp2_with fail
  refine (texts_any A8 N c8 body w11 HBL.out hc8 (by omega) hn8 HR12.out).mono ?_
  rintro e w13 ⟨⟨v13, b13, rfl, hres⟩, hb13⟩
  have HRES := Lib.hid hres
  have HB13 := Lib.hid (HB12.out.trans (hb13.mono hs12))
  have HRW := Lib.hid (HR.out.below HB13.out)
  clear hres hb13
  by_cases hcw : CR = WT
  · subst hcw
    have HRL := Lib.hid (HR2.out rfl)
    clear HR1 HR2
    rcases HRES.out with ⟨rfl, hno⟩ | ⟨rfl, ls, hyes, hown⟩
    · have HE := Lib.hid (show readL l = ([], 0, 121) by rw [HRL.out, hno]; rfl)
      clear hno
      go_wp2_with (refine wpList_cut_lh (by rfl) (.tmp 38) (.const (.int .i64 4)) (.const (.int .i64 8)) rfl A n c l HN.out hnc HA.out HRW.out rfl 4 8 4 rfl rfl rfl h8' ?_; intro A9 c9 hr9 hn9 hc9)
      refine (rof_yes A9 c9 _ w13 HM4.out hr9).mono ?_
      rintro e w14 ⟨rfl, m14, rfl⟩
      rw [← HWT.out]
      go_wp2
      go_ret3
      exact read_fail 121 HE.out (below_any _ HB13.out)
    · have HE := Lib.hid (show readL l = (bl ls, 8 + N, 0) by rw [HRL.out, hyes]; rfl)
      have HO := Lib.hid (own_down hown hs12)
      clear hyes hown
      go_wp2_with (refine wpList_cut_lh (by rfl) (.tmp 38) (.const (.int .i64 4)) (.const (.int .i64 8)) rfl A n c l HN.out hnc HA.out HRW.out rfl 4 8 4 rfl rfl rfl h8' ?_; intro A9 c9 hr9 hn9 hc9)
      refine (rof_yes A9 c9 _ w13 HM4.out hr9).mono ?_
      rintro e w14 ⟨rfl, m14, rfl⟩
      rw [← HWT.out]
      go_wp2
      go_ret3
      exact read_done (8 + N) HE.out HO.out (below_any _ HB13.out)
  · have HE := Lib.hid (HR1.out hcw)
    have e1 : ((WT : Int) != (CR : Int)) = true := by simp; omega
    have e2 : (WT != CR) = true := by simp; omega
    clear HR1 HR2 HRES hcw
    go_wp2_with (refine wpList_cut_lh (by rfl) (.tmp 38) (.const (.int .i64 4)) (.const (.int .i64 8)) rfl A n c l HN.out hnc HA.out HRW.out rfl 4 8 4 rfl rfl rfl h8' ?_; intro A9 c9 hr9 hn9 hc9)
    refine (rof_yes A9 c9 _ w13 HM4.out hr9).mono ?_
    rintro e w14 ⟨rfl, m14, rfl⟩
    rw [← HWT.out]
    go_wp2
    go_ret3
    exact read_fail 121 HE.out (below_any _ HB13.out)
end Go.Proofs.YthbhbjfmlmgeeaaDoor
