/- What every law shows besides. -/
import Derived.Test.YtglicojojpggmaaDoorRdr
namespace Go.Proofs.YtglicojojpggmaaDoor
open Go Go.RowKit
theorem Rd.apart {W W' : World} {G : Nat} {A : Option Addr} {l : List UInt8} (h : Rd W A l) (hn : ∀ ad, A = some ad → ad.block ≠ G) (ho : Only G W W') : Rd W' A l := fun h0 => by
  obtain ⟨g, off, e, hlt, hc⟩ := h h0
  have hg : g ≠ G := hn _ e
  exact ⟨g, off, e, Nat.lt_of_lt_of_le hlt ho.size, fun j hj => (World.cell?_of_block (w := W) (a := ⟨g, off + j, none⟩) (ho.block g hlt (fun e => hg (by injection e)))).trans (hc j hj)⟩
theorem RdV.apart {W W' : World} {G : Nat} {A : Option Addr} {l : List Value} (h : RdV W A l) (hn : ∀ ad, A = some ad → ad.block ≠ G) (ho : Only G W W') : RdV W' A l := fun h0 => by
  obtain ⟨g, off, e, hlt, hc⟩ := h h0
  have hg : g ≠ G := hn _ e
  exact ⟨g, off, e, Nat.lt_of_lt_of_le hlt ho.size, fun j hj => (World.cell?_of_block (w := W) (a := ⟨g, off + j, none⟩) (ho.block g hlt (fun e => hg (by injection e)))).trans (hc j hj)⟩
theorem new_rdS (w : World) (ls : List ByteArray) : RdV (w.alloc (.cells (cellsS ls).toArray 9)) (some ⟨w.heap.size, 0, none⟩) (cellsS ls) := fun h0 => by
  refine ⟨_, 0, rfl, by simp, fun j hj => ?_⟩
  have h := heap_alloc_new w (.cells (cellsS ls).toArray 9)
  unfold World.cell?
  rw [h]
  simp [hj]
theorem num_any2 (n : Int) (w : World) : Calls Tryd.prog 16 #[.int .i64 n] w fun e w' => e = .returned (.int .i64 n) ∧ w = w' := (num_any n w).mono fun e w' ⟨h1, h2⟩ => ⟨h1, h2.symm⟩
/-- A row of one's own that is a slice. -/
theorem OwnB.form {w : World} {base n : Nat} {v : Value} {l : List UInt8} (h : OwnB w base v l) (hn : l.length = n) : ∃ A c, v = .slice A n c ∧ n ≤ c ∧ (A = none → c = 0) ∧ Rd w A l ∧ ∀ ad, A = some ad → base ≤ ad.block ∧ ad.block < w.heap.size := by
  obtain ⟨A, c, hv, h1, h2, _, h3⟩ := h.rd
  refine ⟨A, c, by rw [hv, hn], by omega, h2, h3, fun ad e => ?_⟩
  subst e
  refine h.lt ad.block ?_
  rcases h.2 with ⟨e, _⟩ | ⟨g, cap, cur, e, _⟩
  · rw [e] at hv; cases hv
  · rw [e] at hv
    injection hv with e1 _ _
    cases e1
    rw [e]
    rfl
theorem ownS_form {w : World} {base n : Nat} {v : Value} {ls : List ByteArray} (h : w.ownsRow base 9 1 v n (cellsS ls)) : ∃ A c, v = .slice A n c ∧ n ≤ c ∧ (A = none → c = 0) ∧ RdV w A (cellsS ls) ∧ ∀ ad, A = some ad → base ≤ ad.block ∧ ad.block < w.heap.size := by
  obtain ⟨A, c, hv, h1, h2, _, h3⟩ := own_rdV h
  refine ⟨A, c, hv, h1, h2, h3, fun ad e => ?_⟩
  subst e
  refine h.lt ad.block ?_
  rcases h.2 with ⟨e, _⟩ | ⟨g, cap, cur, e, _⟩
  · rw [e] at hv; cases hv
  · rw [e] at hv
    injection hv with e1 _ _
    cases e1
    rw [e]
    rfl
theorem rx_kids (w : World) : RpK (fun _ => True) (w.alloc (.cells #[.int .i64 3, .int .i64 1, .string ⟨#[]⟩, .slice none 0 0, .int .i64 0, .int .i64 0, .string ⟨#[]⟩, .slice none 0 0] 41)) rx (some ⟨w.heap.size, 0, none⟩) 2 := by
  have h := heap_alloc_new w (.cells #[.int .i64 3, .int .i64 1, .string ⟨#[]⟩, .slice none 0 0, .int .i64 0, .int .i64 0, .string ⟨#[]⟩, .slice none 0 0] 41)
  have f1 : Fits (.mk 3 1 noT []) := ⟨by decide, by decide, by decide, by decide, by decide, by decide⟩
  have f2 : Fits noR := fits_noR
  refine ⟨⟨by decide, by decide, by decide, by decide, by decide, by decide⟩, (fun e => by cases e), by decide, ?_⟩
  show RpL _ _ [Rp.mk 3 1 noT [], noR] _
  have hb := lt_of_block h
  rw [RpL]
  refine ⟨_, 0, rfl, hb, trivial, ?_, ?_⟩
  · rw [RpA]
    refine ⟨none, 0, ?_, ?_, ?_, ?_, f1, fun _ => rfl, by decide, by rw [RpL]; trivial⟩
    all_goals
      simp only [World.cell?, h]
      rfl
  · rw [RpL]
    refine ⟨_, 4, rfl, hb, trivial, ?_, by rw [RpL]; trivial⟩
    rw [noR, RpA]
    refine ⟨none, 0, ?_, ?_, ?_, ?_, f2, fun _ => rfl, by decide, by rw [RpL]; trivial⟩
    all_goals
      simp only [World.cell?, h]
      rfl
set_option maxRecDepth 100000 in
set_option maxHeartbeats 8000000 in
theorem works_any (w : World) (ht : TAB w) : Calls Tryd.prog 13 #[] w fun e w' => e = .returned (.bool true) ∧ Below w.heap.size w w' := by
  -- the request
  have hb0 := below_new w (.cells #[.string sg, .string sa] 9)
  have HB0 := Lib.hid hb0
  have HT0 := Lib.hid (tab_below ht hb0)
  have HRQ := Lib.hid (request_any (some ⟨w.heap.size, 0, none⟩) 2 2 [sg, sa] (w.alloc (.cells #[.string sg, .string sa] 9)) rfl (new_rdS w [sg, sa]) (by decide) HT0.out)
  clear hb0 ht
  go_enter Tryd.func13, Tryd.ntmps13
  go_wp2_with fail
  refine HRQ.out.mono ?_
  rintro e w1 ⟨v1, rfl, ho1, hb1⟩
  rw [reqE20] at ho1 ⊢
  rw [if_pos rfl] at ho1
  change OwnB w1 _ v1 (reqL 2 [sg, sa]) at ho1
  rw [req20] at ho1
  obtain ⟨A1, c1, rfl, hc1, hn1, hr1, hA1⟩ := ho1.form (n := 20) rfl
  have HB1 := Lib.hid (HB0.out.trans (hb1.mono HB0.out.size))
  have HT1 := Lib.hid (tab_below HT0.out hb1)
  have HR1 := Lib.hid hr1
  have HA1 : Hid (∀ ad, A1 = some ad → ad.block < w1.heap.size) := Lib.hid (fun ad e => (hA1 ad e).2)
  clear ho1 hb1 hr1 hA1 HRQ HT0 HB0
  -- it is read
  have hb0 := below_new w1 (.cells #[] 5)
  have HBA := Lib.hid hb0
  have HOA : Hid (OwnB (w1.alloc (.cells #[] 5)) w1.heap.size (.slice (some ⟨w1.heap.size, 0, none⟩) 0 0) []) := Lib.hid (own_empty w1 5 _ (Nat.le_refl _))
  have HRA := Lib.hid (HR1.out.below hb0)
  have HSA : Hid (w1.heap.size ≤ (w1.alloc (.cells #[] 5)).heap.size) := Lib.hid hb0.size
  clear hb0
  go_wp2_with (first
    | (at_builtin; refine wpList_bytes rfl (.tmp 23) (.tmp 24) rfl w1.heap.size _ [] rfl HOA.out A1 20 c1 r20 rfl rfl HRA.out hn1 hc1 (by decide) HSA.out ?_; intro v2 w2 ho2 hb2 hs2; rw [List.nil_append] at ho2; have HO2 := Lib.hid ho2; have HB2 := Lib.hid (HBA.out.trans hb2); have HS2 := Lib.hid (Nat.le_trans HSA.out hs2); have HN2 := Lib.hid (below_new w2 (.cells #[.int .u8 9] 5)); have HR2 := Lib.hid (rd_one w2 9); clear ho2 hb2 hs2)
    | (at_builtin; refine wpList_bytes rfl (.tmp 25) (.tmp 26) rfl w1.heap.size v2 r20 rfl (HO2.out.below HN2.out) (some ⟨w2.heap.size, 0, none⟩) 1 1 [9] rfl rfl HR2.out (fun e => by cases e) (Nat.le_refl _) (by decide) (Nat.le_trans HS2.out HN2.out.size) ?_; intro v3 w3 ho3 hb3 hs3; obtain ⟨A3, c3, rfl, hc3, hn3, hr3, hA3⟩ := ho3.form (n := 21) rfl; have HB3 := Lib.hid ((HB2.out.trans (HN2.out.mono HS2.out)).trans hb3); have HP3 := Lib.hid (parse_any A3 21 c3 (r20 ++ [9]) w3 rfl hc3 hn3 hr3 (fun ad e => (hA3 ad e).2) (by decide)); clear ho3 hb3 hs3 hr3 hA3 hc3 hn3)
    | fail)
  refine HP3.out.mono ?_
  rintro e w4 ⟨v4, rfl, ho4, hb4⟩
  rw [parse21] at ho4 ⊢
  have HB4 := Lib.hid (HB3.out.trans (hb4.mono HB3.out.size))
  obtain ⟨A4, c4, rfl, hc4, hn4, hr4, hA4⟩ := ownS_form (n := 2) ho4
  have HR4 := Lib.hid hr4
  have HA4 : Hid (∀ ad, A4 = some ad → ad.block < w4.heap.size) := Lib.hid (fun ad e => (hA4 ad e).2)
  have HT4 := Lib.hid (tab_below HT1.out HB4.out)
  have HR14 := Lib.hid (HR1.out.below HB4.out)
  have HA14 : Hid (∀ ad, A1 = some ad → ad.block < w4.heap.size) := Lib.hid (fun ad e => Nat.lt_of_lt_of_le (HA1.out ad e) HB4.out.size)
  have HW4 := Lib.hid (HB1.out.trans (HB4.out.mono HB1.out.size))
  clear ho4 hb4 hr4 hA4 HP3 HB3 HO2 HB2 HS2 HN2 HR2 HBA HOA HRA HSA HT1 HR1 HA1 HB1 HB4
  -- the reply
  have hb5 := below_new w4 (.cells #[.int .i64 3, .int .i64 1, .string ⟨#[]⟩, .slice none 0 0, .int .i64 0, .int .i64 0, .string ⟨#[]⟩, .slice none 0 0] 41)
  have HB5 := Lib.hid hb5
  have HEN := Lib.hid (encode_any _ rx (some ⟨w4.heap.size, 0, none⟩) 2 _ (rx_kids w4) (tab_below HT4.out hb5))
  clear hb5
  go_wp2_with fail
  refine HEN.out.mono ?_
  rintro e w6 ⟨v6, rfl, ho6, hb6⟩
  rw [chk13] at ho6 ⊢
  rw [if_pos rfl, enc13] at ho6
  obtain ⟨A6, c6, rfl, hc6, hn6, hr6, hA6⟩ := ho6.form (n := 13) rfl
  have HB6 := Lib.hid (HB5.out.trans (hb6.mono HB5.out.size))
  have HR6 := Lib.hid hr6
  have HA6 : Hid (∀ ad, A6 = some ad → ad.block < w6.heap.size) := Lib.hid (fun ad e => (hA6 ad e).2)
  have HDC := Lib.hid (decode_any A6 13 c6 e13 w6 rfl hc6 hn6 hr6 (fun ad e => (hA6 ad e).2) (by decide))
  have HD13 := Lib.hid dec13
  generalize decR e13 = D at HDC HD13
  clear ho6 hb6 hr6 hA6 HEN HB5
  go_wp2_with fail
  refine HDC.out.mono ?_
  rintro e w7 ⟨A7, c7, rfl, hk7, hb7⟩
  obtain ⟨d1, d2, d3⟩ := HD13.out
  have hv7 : rpV D.r A7 c7 = #[.int .i64 D.r.kind, .int .i64 D.r.num, .string D.r.text, .slice A7 2 c7] := by unfold rpV; rw [d3]
  rw [d1, d2, hv7]
  clear hv7
  have HB7 := Lib.hid (HB6.out.trans (hb7.mono HB6.out.size))
  have hb8 := below_new w7 (.cells #[.int .i64 D.r.kind, .int .i64 D.r.num, .string D.r.text, .slice A7 2 c7] 41)
  have HX8 := Lib.hid (heap_alloc_new w7 (.cells #[.int .i64 D.r.kind, .int .i64 D.r.num, .string D.r.text, .slice A7 2 c7] 41))
  have HB8 := Lib.hid (HB7.out.trans (hb8.mono HB7.out.size))
  have HR68 := Lib.hid ((HR6.out.below hb7).below hb8)
  have HA68 : Hid (∀ ad, A6 = some ad → ad.block < (w7.alloc (.cells #[.int .i64 D.r.kind, .int .i64 D.r.num, .string D.r.text, .slice A7 2 c7] 41)).heap.size) := Lib.hid (fun ad e => Nat.lt_of_lt_of_le (HA6.out ad e) (Nat.le_trans hb7.size hb8.size))
  clear d1 d2 d3 HD13 hk7 hb7 hb8 HDC HR6 HA6 HB6 HB7
  have HNW := Lib.hid (newR_any (w7.alloc (.cells #[.int .i64 D.r.kind, .int .i64 D.r.num, .string D.r.text, .slice A7 2 c7] 41)))
  go_wp2_with fail
  clear HNW
  generalize w7.alloc (.cells #[.int .i64 D.r.kind, .int .i64 D.r.num, .string D.r.text, .slice A7 2 c7] 41) = W8 at *
  generalize w7.heap.size = X at *
  refine (newR_any W8).mono ?_
  rintro e w9 ⟨rfl, rfl⟩
  have H9 := Lib.hid (newR_nr W8)
  have hb9 := below_new W8 (.cells #[.bool true, .bool false, .slice none 0 0] 105)
  have HB9 := Lib.hid (HB8.out.trans (hb9.mono HB8.out.size))
  have HX9 := Lib.hid ((hb9.block _ (lt_of_block HX8.out)).trans HX8.out)
  have HXG : Hid (X ≠ W8.heap.size) := Lib.hid (by have := lt_of_block HX8.out; omega)
  have HR19 := Lib.hid ((HR14.out.below HB8.out).below hb9)
  have HR49 := Lib.hid ((HR4.out.below HB8.out).below hb9)
  have HR69 := Lib.hid (HR68.out.below hb9)
  have HA19 : Hid (∀ ad, A1 = some ad → ad.block ≠ W8.heap.size) := Lib.hid (fun ad e => by have := HA14.out ad e; have := HB8.out.size; omega)
  have HA49 : Hid (∀ ad, A4 = some ad → ad.block ≠ W8.heap.size) := Lib.hid (fun ad e => by have := HA4.out ad e; have := HB8.out.size; omega)
  have HA69 : Hid (∀ ad, A6 = some ad → ad.block ≠ W8.heap.size) := Lib.hid (fun ad e => by have := HA68.out ad e; omega)
  have HG4 : Hid (w4.heap.size ≤ W8.heap.size) := Lib.hid HB8.out.size
  clear hb9 HX8 HR14 HR4 HR68 HA14 HA4 HA68 HB8
  generalize W8.alloc (.cells #[.bool true, .bool false, .slice none 0 0] 105) = W9 at *
  generalize W8.heap.size = G at *
  have HFD := Lib.hid (feed_first W9 A1 20 c1 r20 H9.out rfl HR19.out hn1 hc1 (by decide))
  go_wp2_with fail
  refine HFD.out.mono ?_
  rintro e w10 ⟨rfl, ⟨A10, c10, h10⟩, ho10⟩
  have HNX := Lib.hid (next_any w10 h10 (by decide) (by rw [parse20]; decide))
  have HO10 := Lib.hid ho10
  have HG10 := Lib.hid (lt_of_block h10.z)
  clear HFD h10 ho10
  go_wp2_with fail
  refine HNX.out.mono ?_
  rintro e w11 ⟨⟨v11, rfl, ho11⟩, hif, hon11⟩
  rw [parse20] at ho11 hif ⊢
  rw [if_neg (by decide)] at hif
  obtain ⟨A11, c11, h11⟩ := hif
  change NR w11 G false A11 0 c11 [] at h11
  obtain ⟨B11, d11, rfl, hd11, hm11, hr11, hB11⟩ := ownS_form (n := 2) ho11
  have HNY := Lib.hid (next_any w11 h11 (by decide) (by rw [parse0]; decide))
  have HR11 := Lib.hid hr11
  have HBG : Hid (∀ ad, B11 = some ad → ad.block ≠ G) := Lib.hid (fun ad e => by have := (hB11 ad e).1; have := HG10.out; omega)
  have HO11 := Lib.hid (only_trans HO10.out hon11)
  clear HNX h11 ho11 hr11 hB11 hon11 HO10
  go_wp2_with fail
  refine HNY.out.mono ?_
  rintro e w12 ⟨⟨v12, rfl, ho12⟩, hif, hon12⟩
  rw [parse0] at ho12 ⊢
  have HO12 := Lib.hid (only_trans HO11.out hon12)
  have HM12 := Lib.hid (HR11.out.apart HBG.out hon12)
  have HR112 := Lib.hid (HR19.out.apart HA19.out HO12.out)
  have HR412 := Lib.hid (HR49.out.apart HA49.out HO12.out)
  have HR612 := Lib.hid (HR69.out.apart HA69.out HO12.out)
  have hx12 := (HO12.out.block X (lt_of_block HX9.out) (fun e => HXG.out (by injection e))).trans HX9.out
  have hbw : Below w.heap.size w w12 := HW4.out.trans ((HB9.out.mono HW4.out.size).trans (only_below HO12.out (by have := HG4.out; have := HW4.out.size; omega) (by have := HB9.out.size; have := HW4.out.size; omega)))
  have HBW := Lib.hid hbw
  clear ho12 hif hon12 HO12 HO11 HNY HR11 HR19 HR49 HR69 HA19 HA49 HA69 HX9 hbw HW4 HB9 H9 HG10 HG4
  -- all is told
  have hbn := below_new w12 (.cells #[.string sg, .string sa] 9)
  have cv1 : (convert 25 9 (.slice A1 20 c1)).run Tryd.prog w12 = .ok (.string { data := #[42, 50, 13, 10, 36, 51, 13, 10, 71, 69, 84, 13, 10, 36, 49, 13, 10, 97, 13, 10] }) w12 := conv_rd (l := r20) hn1 hc1 HR112.out
  have cv2 : ∀ q, (convert 25 9 (.slice A6 13 c6)).run Tryd.prog ((w12.alloc (.cells #[.string sg, .string sa] 9)).drewN q) = .ok (.string { data := #[42, 50, 13, 10, 58, 49, 13, 10, 36, 45, 49, 13, 10] }) ((w12.alloc (.cells #[.string sg, .string sa] 9)).drewN q) := fun q => conv_rd (l := e13) hn6 hc6 (HR612.out.below (below_any q hbn))
  have x3 : (w12.alloc (.cells #[.string sg, .string sa] 9)).cell? ⟨X, 3, none⟩ = some (.slice A7 2 c7) := by
    have := (hbn.block X (lt_of_block hx12)).trans hx12
    simp only [World.cell?, this]
    rfl
  have HONE := Lib.hid (one_any A4 (some ⟨w12.heap.size, 0, none⟩) 2 2 c4 2 [sg, sa] [sg, sa] (w12.alloc (.cells #[.string sg, .string sa] 9)) rfl rfl (by decide) (by decide) (HR412.out.below hbn) (new_rdS w12 [sg, sa]))
  have HTWO := Lib.hid (fun q => one_any B11 A4 2 2 d11 c4 [sg, sa] [sg, sa] ((w12.alloc (.cells #[.string sg, .string sa] 9)).drewN q) rfl rfl (by decide) (by decide) (HM12.out.below (below_any q hbn)) (HR412.out.below (below_any q hbn)))
  have heq : eqS [sg, sa] [sg, sa] = true := by decide
  rw [heq] at HONE HTWO
  have HBN := Lib.hid hbn
  clear hbn heq
  go_wp2_with (first | (go_at_call 16; refine (num_any2 _ _).mono ?_; rintro e w' ⟨rfl, rfl⟩) | fail)
  refine HONE.out.mono ?_
  rintro e w13 ⟨rfl, q, rfl⟩
  have HTW := Lib.hid (HTWO.out q)
  clear HONE HTWO
  go_wp2_with fail
  refine HTW.out.mono ?_
  rintro e w14 ⟨rfl, q2, rfl⟩
  clear HTW
  go_wp2_with (first | (go_at_call 16; refine (num_any2 _ _).mono ?_; rintro e w' ⟨rfl, rfl⟩) | fail)
  go_ret
  exact ⟨rfl, HBW.out.trans ((below_any (q + q2) HBN.out).mono HBW.out.size)⟩
end Go.Proofs.YtglicojojpggmaaDoor
