/- What a body tells of its texts, by the reference. -/
import Derived.Test.YthbhbjfmlmgeeaaDoorCut
import Derived.Test.YthbhbjfmlmgeeaaDoorSum
import Derived.Test.YthbhbjfmlmgeeaaDoorBody
namespace Go.Proofs.YthbhbjfmlmgeeaaDoor
open Go Go.RowKit
def TextsEnd (w : World) (l : List UInt8) (e : Ending) (w' : World) : Prop := (∃ v b, e = .returned (.tuple #[v, .bool b]) ∧ ((b = false ∧ bodyT l = none) ∨ (b = true ∧ ∃ ls, bodyT l = some (bl ls) ∧ w'.ownsRow w.heap.size 9 1 v ls.length (cellsS ls)))) ∧ Below w.heap.size w w'
theorem texts_no {w w' : World} {l : List UInt8} (h : bodyT l = none) (hb : Below w.heap.size w w') (v : Value) : TextsEnd w l (.returned (.tuple #[v, .bool false])) w' := ⟨⟨v, _, rfl, .inl ⟨rfl, h⟩⟩, hb⟩
theorem drop4 (l : List UInt8) (a : Nat) : (l.drop a).drop 4 = l.drop (a + 4) := by rw [List.drop_drop]
set_option maxHeartbeats 4000000 in
theorem texts_any (A : Option Addr) (n c : Nat) (l : List UInt8) (w : World) (hn : l.length = n) (hnc : n ≤ c) (bn : n ≤ 2000000000) (hA : A = none → c = 0) (hr : Rd w A l) :
    Calls Tryd.prog 37 #[.slice A n c] w (TextsEnd w l) := by
  obtain ⟨i0, hi, hz0, hz1, hz2⟩ := info_parts str_info
  have HN := Lib.hid hn
  have HA := Lib.hid hA
  have HR := Lib.hid hr
  by_cases h4 : n < 4
  · have hb : bodyT l = none := by unfold bodyT; rw [if_pos (by omega)]
    have HB := Lib.hid hb
    clear hn hA hr hb
    go_enter Tryd.func37, Tryd.ntmps37
    go_wp2
    go_ret2
    exact texts_no HB.out (Below.refl _ _) _
  have h4' : 4 ≤ n := by omega
  have hcall := fun q : Nat => rnum_any A n c l (w.drewN q) hn h4' hnc hr
  have HC := Lib.hid hcall
  have hlt := of4_lt (l.take 4)
  by_cases h6 : 65536 < of4 (l.take 4)
  · have hb : bodyT l = none := by unfold bodyT; rw [if_neg (by omega), if_pos h6]
    have HB := Lib.hid hb
    clear hn hA hr hb hcall
    generalize of4 (l.take 4) = N at *
    go_enter Tryd.func37, Tryd.ntmps37
    go_wp2_with fail
    refine (HC.out 0).mono ?_
    rintro e w1 ⟨rfl, m, rfl⟩
    go_wp2
    go_ret2
    exact texts_no HB.out (below_any _ (Below.refl _ _)) _
  have hb : bodyT l = endT (parseN (of4 (l.take 4)) (l.drop 4)) := by unfold bodyT; rw [if_neg (by omega), if_neg h6]
  have HB := Lib.hid hb
  clear hn hA hr hb hcall
  generalize of4 (l.take 4) = N at *
  have hN : N ≤ 65536 := by omega
  have d0 : decide ((n : Int) < 4) = false := decide_eq_false (by omega)
  clear h6 hlt
  go_enter Tryd.func37, Tryd.ntmps37
  go_wp2_with fail
  refine (HC.out 0).mono ?_
  rintro e w1 ⟨rfl, m, rfl⟩
  go_wp2_with fail
  refine (HC.out _).mono ?_
  rintro e w1 ⟨rfl, m', rfl⟩
  have HB0 : Hid (Below w.heap.size w ((w.drewN m).drewN m')) := Lib.hid (below_any _ (below_any _ (Below.refl _ _)))
  generalize (w.drewN m).drewN m' = w0 at *
  go_wp2_with fail
  go_loopw [5, 6, 7] (fun v at_ i wr => ∃ (k a : Nat) (ls : List ByteArray), k ≤ N ∧ i = .int .i64 k ∧ a ≤ n ∧ at_ = .int .i64 a ∧ Hid (wr.ownsRow w.heap.size 9 1 v k (cellsS ls)) ∧ Hid (ls.length = k) ∧ Hid (bodyT l = endT (joinP (bl ls) (parseN (N - k) (l.drop a)))) ∧ Hid (Below w.heap.size w wr)) (fun _ _ i _ => N - (intOf i).toNat)
  case atStart => exact ⟨0, 4, [], Nat.zero_le _, rfl, h4', rfl, World.ownsRow_nil _ _ _ _, rfl, by show _ = _; rw [HB.out]; simp [joinP_nil, bl], HB0⟩
  case round =>
    clear HB HB0
    obtain ⟨k, a, ls, hk, rfl, ha, rfl, HO, HLS, HT, HBW⟩ := hrel
    by_cases hlt : k < N
    · have hrl : (l.drop a).length = n - a := by rw [List.length_drop, HN.out]
      by_cases h5 : n - a < 4
      · have HNO := Lib.hid (parse_end hlt HT.out (takeT_1 (by omega)))
        clear hrl
        go_wp2
        go_ret2
        exact texts_no HNO.out HBW.out _
      · obtain ⟨r4, hr4⟩ : ∃ r4, n = a + 4 + r4 := ⟨n - a - 4, by omega⟩
        have HR4 := Lib.hid hr4
        have d1 : decide ((n : Int) - (a : Int) < 4) = false := decide_eq_false (by omega)
        clear hr4
        have HRW := Lib.hid (HR.out.below HBW.out)
        have hq := of4_lt ((l.drop a).take 4)
        obtain ⟨K, hK⟩ : ∃ K, K = of4 ((l.drop a).take 4) := ⟨_, rfl⟩
        have HK := Lib.hid hK
        rw [← hK] at hq
        clear hK hrl
        have hcut := fun A' c' (hr' : Rd wr A' (l.drop a)) (hc' : 4 + r4 ≤ c') (q : Nat) => rnum_any A' (4 + r4) c' (l.drop a) (wr.drewN q) (by rw [List.length_drop, HN.out]; have := HR4.out; omega) (by omega) hc' hr'
        rw [← HK.out] at hcut
        have HCUT := Lib.hid hcut
        clear hcut
        by_cases h6 : r4 < K
        · have d2 : decide ((n : Int) - (a : Int) - 4 < (K : Int)) = true := decide_eq_true (by have := HR4.out; omega)
          have HNO := Lib.hid (parse_end hlt HT.out (takeT_2 (by rw [List.length_drop, HN.out]; have := HR4.out; omega) (by rw [List.length_drop, List.length_drop, HN.out, ← HK.out]; have := HR4.out; omega)))
          clear h5
          go_wp2_with (refine wpList_cut_lo (by rfl) (.tmp 30) (.tmp 31) rfl A n c l HN.out hnc HA.out HRW.out rfl a (4 + r4) rfl (by have := HR4.out; omega) ?_; intro A' c' hr' hn' hc')
          refine (HCUT.out A' c' hr' hc' 0).mono ?_
          rintro e w5 ⟨rfl, m5, rfl⟩
          go_wp2
          go_ret2
          exact texts_no HNO.out (below_any _ HBW.out) _
        · have d2 : decide ((n : Int) - (a : Int) - 4 < (K : Int)) = false := decide_eq_false (by have := HR4.out; omega)
          obtain ⟨x, hx⟩ : ∃ x : ByteArray, x.data.toList = ((l.drop a).drop 4).take K := ⟨⟨(((l.drop a).drop 4).take K).toArray⟩, rfl⟩
          have hKa : a + 4 + K ≤ n := by have := HR4.out; omega
          have hpc := parse_count hlt HT.out (by rw [List.length_drop, HN.out]; have := HR4.out; omega) (by rw [List.length_drop, List.length_drop, HN.out, ← HK.out]; have := HR4.out; omega) (by rw [← HK.out]; exact hx)
          rw [← HK.out, List.drop_drop, List.drop_drop, show a + (4 + K) = a + 4 + K by omega] at hpc
          rw [List.drop_drop] at hx
          have HPC := Lib.hid hpc
          have HX := Lib.hid hx
          have hlk : ((l.drop (a + 4)).take K).length = K := by rw [List.length_take, List.length_drop, HN.out]; omega
          have HLK := Lib.hid hlk
          clear h5 hpc hx hlk
          go_wp2_with (refine wpList_cut_lo (by rfl) (.tmp 30) (.tmp 31) rfl A n c l HN.out hnc HA.out HRW.out rfl a (4 + r4) rfl (by have := HR4.out; omega) ?_; intro A' c' hr' hn' hc')
          refine (HCUT.out A' c' hr' hc' 0).mono ?_
          rintro e w5 ⟨rfl, m5, rfl⟩
          clear hr' hn' hc'
          go_wp2_with (refine wpList_cut_lo (by rfl) (.tmp 41) (.tmp 42) rfl A n c l HN.out hnc HA.out HRW.out rfl a (4 + r4) rfl (by have := HR4.out; omega) ?_; intro A2 c2 hr2 hn2 hc2)
          refine (HCUT.out A2 c2 hr2 hc2 _).mono ?_
          rintro e w6 ⟨rfl, m6, rfl⟩
          clear hr2 hn2 hc2
          go_wp2_with (first
            | (refine wpList_cut_lh (by rfl) (.tmp 46) (.tmp 48) (.tmp 52) rfl A n c l HN.out hnc HA.out HRW.out rfl (a + 4) (a + 4 + K) K rfl rfl rfl hKa ?_; intro A3 c3 hr3 hn3 hc3; have hconv := conv_rd (w := wr.drewN (m5 + m6)) hn3 (by rw [HLK.out]; exact hc3) hr3; rw [HLK.out, ← HX.out] at hconv)
            | (at_builtin; refine wpList_append_own _ rfl (.tmp 45) (.tmp 55) 22 rfl w.heap.size 9 i0 _ 1 16 Tryd.underlying22 hi hz0 hz1 hz2 rfl (by omega) u5 k (cellsS ls) rfl (HO.out.alloc _) ⟨wr.heap.size, 0, none⟩ 1 1 [.string x] rfl rfl (World.news_of_block (cs := #[.string x]) (t := 9) (fr := (0, 0)) (heap_alloc_new wr _)) (by simp [Value.oneCell']) (by simp only [maxLen]; omega) (by omega) (by simp; have := HBW.out.size; omega) ?_; intro v7 w7 ho7 hg7 _))
          have hbw := HBW.out
          have hbel7 : Below w.heap.size w w7 := (((below_any (m5 + m6) hbw).alloc hbw.size (.cells #[.string x] 9)).grown hg7 (by simp; have := hbw.size; omega) (fun k hk => (HO.out.lt k hk).1))
          go_roundw
          case rel =>
            exact ⟨k + 1, a + 4 + K, ls ++ [x], by omega, by go_num, hKa, by go_num, by show World.ownsRow _ _ _ _ _ _ _; rw [cellsS_app]; exact ho7, by show _ = _; rw [List.length_append, HLS.out]; rfl, HPC, hbel7⟩
          case measure => simp [intOf]; omega
    · obtain rfl : k = N := by omega
      have h1 := HT.out
      rw [Nat.sub_self, parseN] at h1
      by_cases hae : a = n
      · subst hae
        have hd : l.drop a = [] := List.drop_eq_nil_of_le (by rw [HN.out]; exact Nat.le_refl _)
        rw [hd] at h1
        have h2 : bodyT l = some (bl ls) := by rw [h1]; simp [joinP, endT]
        have HE : Hid (TextsEnd w l (.returned (.tuple #[u5, .bool true])) wr) := Lib.hid ⟨⟨u5, _, rfl, .inr ⟨rfl, ls, h2, by rw [HLS.out]; exact HO.out⟩⟩, HBW.out⟩
        clear h1 h2 hd HO HLS HT HBW
        go_wp2
        go_ret2
        exact HE.out
      · have h2 : bodyT l = none := by
          rw [h1]
          have hp : 0 < (l.drop a).length := by rw [List.length_drop, HN.out]; omega
          cases hq : l.drop a with
          | nil => rw [hq] at hp; simp at hp
          | cons x y => rfl
        have HE := Lib.hid (texts_no h2 HBW.out u5)
        have d3 : ((a : Int) == (n : Int)) = false := by simp; omega
        clear h1 h2 HO HLS HT HBW hae
        go_wp2
        go_ret2
        exact HE.out
end Go.Proofs.YthbhbjfmlmgeeaaDoor
