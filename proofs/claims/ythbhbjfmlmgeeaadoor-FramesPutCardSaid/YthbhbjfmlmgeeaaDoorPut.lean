/- The frame of a list, by the program. -/
import Derived.Test.YthbhbjfmlmgeeaaDoorOwn
namespace Go.Proofs.YthbhbjfmlmgeeaaDoor
open Go Go.RowKit
/-- What 'Put' tells of a list that may be framed. -/
def PutEnd (w : World) (l : List UInt8) (e : Ending) (w' : World) : Prop := ∃ v, e = .returned (.tuple #[v, .int .i64 0]) ∧ OwnB w' w.heap.size v l ∧ Below w.heap.size w w'
theorem frame_of {ls : List ByteArray} {n T : Nat} (hn : ls.length = n) (hT : T = 4 + szS ls) (body : List UInt8) (hb : body = by4 n ++ tx (bl ls)) : by4 T ++ by4 (crcOf (by4 T ++ body)) ++ body = frameL (bl ls) := by
  have e : body = bodyL (bl ls) := by rw [hb, bodyL, bl_len, hn]
  rw [frameL, body_size, ← hT, e]
theorem body_len {ls : List ByteArray} {n T : Nat} (hT : T = 4 + szS ls) (k : Nat) : (by4 n ++ tx (bl (ls.take k))).length ≤ T := by
  rw [List.length_append, by4_len, tx_size]
  have := szS_take ls k
  omega
set_option maxHeartbeats 4000000 in
theorem put_yes (A : Option Addr) (n c : Nat) (ls : List ByteArray) (w : World) (hn : ls.length = n) (ha : RdV w A (cellsS ls)) (hg : Tabs w) (h0 : 0 < w.heap.size) (hmay : mayL (bl ls) = true) :
    Calls Tryd.prog 12 #[.slice A n c] w (PutEnd w (frameL (bl ls))) := by
  have hm := hmay
  rw [may_iff] at hm
  simp only [Bool.and_eq_true, decide_eq_true_eq] at hm
  obtain ⟨T, hT⟩ : ∃ T, T = 4 + szS ls := ⟨_, rfl⟩
  have bT : T ≤ 1048576 := by omega
  have bn : n ≤ 65536 := by omega
  have HM := Lib.hid hmay
  have HT := Lib.hid hT
  have HN := Lib.hid hn
  have HA := Lib.hid ha
  have HG := Lib.hid hg
  clear hmay hm hT hn ha hg
  go_enter Tryd.func12, Tryd.ntmps12
  go_wp2_with fail
  refine (size_any A n c ls w HN.out (by have := HT.out; omega) HA.out).mono ?_
  rintro e w1 ⟨rfl, hb1⟩
  rw [HM.out, ← HT.out]
  have HB1 := Lib.hid hb1
  clear hb1
  go_wp2_with fail
  refine (bytes_own T w1 (by omega)).mono ?_
  rintro e w2 ⟨a2, rfl, ho2, hb2⟩
  have HO2 := Lib.hid ho2
  have HB2 := Lib.hid (HB1.out.trans (hb2.mono HB1.out.size))
  clear ho2 hb2 HB1
  go_wp2_with (refine wpList_make_bytes rfl (.tmp 21) rfl _ T rfl rfl (by omega) ?_; intro v3 w3 ho3 hb3 hs3)
  refine (bytes_own n w3 (by omega)).mono ?_
  rintro e w4 ⟨a4, rfl, ho4, hb4⟩
  have HO3 := Lib.hid (ho3.below hb4)
  have HO4 := Lib.hid ho4
  have HB4 := Lib.hid (hb3.trans (hb4.mono hs3))
  have hs4 := hb4.size
  obtain ⟨A4, c4, hA4, hc4, hn4, _, hr4⟩ := ho4.rd
  cases hA4
  have HR4 := Lib.hid hr4
  clear ho3 hb3 ho4 hb4 hr4 hn4
  go_wp2_with (at_builtin; refine wpList_bytes rfl (.tmp 23) (.tmp 27) rfl w2.heap.size v3 [] rfl HO3.out (some a4) 4 4 (by4 n) rfl rfl HR4.out (fun h => by cases h) (Nat.le_refl _) (by simp) (by omega) ?_; intro v5 w5 ho5 hb5 hs5)
  have HO5 := Lib.hid ho5
  have HB5 := Lib.hid (HB4.out.trans hb5)
  clear ho5 hb5 HO3 HO4 HB4 HR4 hs3 hs4 hs5 hc4
  go_loopw [7, 31] (fun v i wr => ∃ k : Nat, k ≤ n ∧ i = .int .i64 k ∧ Hid (OwnB wr w2.heap.size v (by4 n ++ tx (bl (ls.take k)))) ∧ Hid (Below w2.heap.size w2 wr)) (fun _ i _ => n - (intOf i).toNat)
  case atStart => exact ⟨0, Nat.zero_le _, rfl, by simpa [bl, tx] using HO5, HB5⟩
  case round =>
    clear HO5 HB5
    obtain ⟨k, hk, rfl, HO, HB⟩ := hrel
    have hkl := body_len (n := n) HT.out k
    by_cases hlt : k < n
    · obtain ⟨b, off, rfl, hbb, hca⟩ := rdS_at HA.out (k := k) (by have := HN.out; omega)
      obtain ⟨x, hx, hxt⟩ := list_at (ls := ls) (k := k) (by have := HN.out; omega)
      rw [hx] at hca
      have hcr := ((HB2.out.trans (HB.out.mono HB2.out.size)).cell (p := ⟨b, off + k, none⟩) hbb).trans hca
      have hxs : x.size ≤ 1048576 := by have := szS_mem (l := ls) (s := x) (by rw [← hx]; exact List.getElem_mem _); have := HT.out; omega
      have HX := Lib.hid (tx_next hxt)
      clear hx hxt hca
      go_wp2_with fail
      refine (bytes_own x.size wr (by omega)).mono ?_
      rintro e w6 ⟨a6, rfl, ho6, hb6⟩
      have HO6 := Lib.hid (HO.out.below hb6)
      have HB6 := Lib.hid (HB.out.trans (hb6.mono HB.out.size))
      obtain ⟨A6, c6, hA6, hc6, hn6, _, hr6⟩ := ho6.rd
      cases hA6
      have HR6 := Lib.hid hr6
      have hs6 := HB6.out.size
      clear ho6 hb6 hr6 hn6 HO hcr hc6
      go_wp2_with (first
        | (at_builtin; refine wpList_bytes rfl (.tmp 35) (.tmp 39) rfl w2.heap.size u7 _ rfl HO6.out (some a6) 4 4 (by4 x.size) rfl rfl HR6.out (fun h => by cases h) (Nat.le_refl _) (by omega) hs6 ?_; intro v7 w7 ho7 hb7 hs7)
        | (at_builtin; refine wpList_text rfl (.tmp 41) (.tmp 42) rfl w2.heap.size v7 _ rfl ho7 x rfl (by rw [List.length_append, by4_len]; omega) (by omega) ?_; intro v8 w8 ho8 hb8 hs8))
      go_roundw
      case rel => exact ⟨k + 1, by omega, by go_num, by show OwnB _ _ _ _; rw [HX.out, ← List.append_assoc, ← List.append_assoc]; simpa [List.append_assoc] using ho8, (HB6.out.trans hb7).trans hb8⟩
      case measure => simp [intOf]; omega
    · obtain rfl : k = n := by omega
      have hfull : ls.take k = ls := List.take_of_length_le (by have := HN.out; omega)
      obtain ⟨body, hbody⟩ : ∃ body, body = by4 k ++ tx (bl ls) := ⟨_, rfl⟩
      have HF := Lib.hid (frame_of HN.out HT.out body hbody)
      have HO' : Hid (OwnB wr w2.heap.size u7 body) := by rw [hfull] at HO; rw [hbody]; exact HO
      have hbl : body.length ≤ T := by rw [hbody]; have := body_len (n := k) HT.out k; rw [hfull] at this; exact this
      obtain ⟨A9, c9, rfl, hc9, hn9, hm9, hr9⟩ := HO'.out.rd
      have HR9 := Lib.hid hr9
      have HN9 := Lib.hid hn9
      have hrl := (OwnB.below HO2.out (w' := wr) HB.out).rd
      obtain ⟨A2, c2, hA2, _, _, _, hr2⟩ := hrl
      cases hA2
      have HR2 := Lib.hid hr2
      have HBW := Lib.hid (HB2.out.trans (HB.out.mono HB2.out.size))
      clear hbody hr9 hn9 hr2 hkl HO HO' HB
      generalize hbL : body.length = L at *
      have HBL := Lib.hid hbL
      clear hbL hfull
      have hcr := crcOf_lt (by4 T ++ body)
      go_wp2_with (first
        | (refine wpList_make_bytes rfl (.tmp 46) rfl _ (8 + T) rfl (by omega) (by omega) ?_; intro v10 w10 ho10 hb10 hs10; have HR2' := Lib.hid (HR2.out.below hb10))
        | (at_builtin; refine wpList_bytes rfl (.tmp 48) (.tmp 49) rfl wr.heap.size v10 [] rfl ho10 (some a2) 4 4 (by4 T) rfl rfl HR2'.out (fun h => by cases h) (Nat.le_refl _) (by simp) hs10 ?_; intro v11 w11 ho11 hb11 hs11))
      have hb11' := hb10.trans hb11
      have hbw11 := HBW.out.trans (hb11'.mono HBW.out.size)
      refine (sum_any (some a2) A9 4 L 4 c9 (by4 T) body w11 rfl HBL.out (by omega) (by omega) (HR2.out.below hb11') (HR9.out.below hb11') (HG.out.below h0 hbw11) (Nat.lt_of_lt_of_le h0 hbw11.size)).mono ?_
      rintro e w12 ⟨rfl, hb12⟩
      generalize hCR : crcOf (by4 T ++ body) = CR at *
      have HCR := Lib.hid hCR
      have HO12 := Lib.hid (ho11.below hb12)
      have HB12 := Lib.hid (hb11'.trans (hb12.mono hb11'.size))
      have hs12 := hb12.size
      have hs12' := hb11'.size
      clear hCR ho11 ho10 hb10 hb11 hb11' hbw11 hb12 HR2'
      go_wp2_with fail
      refine (bytes_own CR w12 hcr).mono ?_
      rintro e w13 ⟨a13, rfl, ho13, hb13⟩
      have HO13 := Lib.hid (HO12.out.below hb13)
      have HB13 := Lib.hid (HB12.out.trans (hb13.mono HB12.out.size))
      obtain ⟨A13, c13, hA13, hc13, hn13, _, hr13⟩ := ho13.rd
      cases hA13
      have HR13 := Lib.hid hr13
      have hs13 := HB13.out.size
      clear ho13 hb13 hr13 hn13 HO12 HB12 hc13
      go_wp2_with (first
        | (at_builtin; refine wpList_bytes rfl (.tmp 51) (.tmp 55) rfl wr.heap.size v11 _ rfl HO13.out (some a13) 4 4 (by4 CR) rfl rfl HR13.out (fun h => by cases h) (Nat.le_refl _) (by simp [by4_len]) hs13 ?_; intro v14 w14 ho14 hb14 hs14; have HB14 := Lib.hid (HB13.out.trans hb14); have HR14 := Lib.hid (HR9.out.below HB14.out))
        | (at_builtin; refine wpList_bytes rfl (.tmp 57) (.tmp 58) rfl wr.heap.size v14 _ rfl ho14 A9 L c9 body HBL.out rfl HR14.out HN9.out hc9 (by simp [by4_len]; omega) (by omega) ?_; intro v15 w15 ho15 hb15 hs15))
      go_ret2
      have hfin := HF.out
      refine ⟨_, rfl, OwnB.down (base := wr.heap.size) ?_ HBW.out.size, HBW.out.trans ((HB14.out.trans hb15).mono HBW.out.size)⟩
      rw [← hfin]
      simpa using ho15
theorem put_no (A : Option Addr) (n c : Nat) (ls : List ByteArray) (w : World) (hn : ls.length = n) (hs : szS ls ≤ 2000000000) (ha : RdV w A (cellsS ls)) (hmay : mayL (bl ls) = false) :
    Calls Tryd.prog 12 #[.slice A n c] w fun e w' => e = .returned (.tuple #[.slice none 0 0, .int .i64 3]) ∧ Below w.heap.size w w' := by
  have HM := Lib.hid hmay
  have HN := Lib.hid hn
  have HA := Lib.hid ha
  clear hmay hn ha
  go_enter Tryd.func12, Tryd.ntmps12
  go_wp2_with fail
  refine (size_any A n c ls w HN.out hs HA.out).mono ?_
  rintro e w1 ⟨rfl, hb1⟩
  rw [HM.out]
  go_wp2
  go_ret2
  exact ⟨rfl, hb1⟩
theorem fsize_any (A : Option Addr) (n c : Nat) (ls : List ByteArray) (w : World) (hn : ls.length = n) (hs : szS ls ≤ 2000000000) (ha : RdV w A (cellsS ls)) :
    Calls Tryd.prog 15 #[.slice A n c] w fun e w' => e = .returned (.int .i64 (fsz ls)) ∧ Below w.heap.size w w' := by
  obtain ⟨m, hm⟩ : ∃ m, m = mayL (bl ls) := ⟨_, rfl⟩
  have HF : Hid ((fsz ls : Int) = if m = true then (12 + szS ls : Nat) else 0) := by rw [hm]; show _ = _; unfold fsz; split <;> rfl
  have HM := Lib.hid hm
  have HN := Lib.hid hn
  have HA := Lib.hid ha
  clear hm hn ha
  go_enter Tryd.func15, Tryd.ntmps15
  go_wp2_with fail
  refine (size_any A n c ls w HN.out hs HA.out).mono ?_
  rintro e w1 ⟨rfl, hb1⟩
  rw [← HM.out]
  generalize szS ls = Z at *
  cases m
  · go_wp2
    go_ret
    exact ⟨ret_i64 (by rw [HF.out]; rfl), hb1⟩
  · go_wp2
    go_ret
    exact ⟨ret_i64 (by rw [HF.out]; simp; omega), hb1⟩
end Go.Proofs.YthbhbjfmlmgeeaaDoor
