/- The sum of a frame; a number's bytes by the reference. -/
import Derived.Test.YthbhbjfmlmgeeaaDoorStrs
namespace Go.Proofs.YthbhbjfmlmgeeaaDoor
open Go Go.RowKit
theorem sum_any (A B : Option Addr) (n m c d : Nat) (a b : List UInt8) (w : World) (hn : a.length = n) (hm : b.length = m) (bn : n ≤ 2000000000) (bm : m ≤ 2000000000) (ha : Rd w A a) (hb : Rd w B b) (hg : Tabs w) (h0 : 0 < w.heap.size) :
    Calls Tryd.prog 26 #[.slice A n c, .slice B m d] w fun e w' => e = .returned (.int .u32 (crcOf (a ++ b))) ∧ Below w.heap.size w w' := by
  subst hn
  subst hm
  go_enter Tryd.func26, Tryd.ntmps26
  go_wp2_with fail
  refine (crc_any A c a w bn ha hg h0).mono ?_
  rintro e w1 ⟨rfl, hb1⟩
  have hr := hb.below hb1
  have ht := hg.below h0 hb1
  have h1 : 0 < w1.heap.size := Nat.lt_of_lt_of_le h0 hb1.size
  go_wp2_with fail
  refine (upd_any _ B d b w1 (inv_lt _ (crcL_lt _ _ (inv_lt 0 (by omega)))) bm hr ht h1).mono ?_
  rintro e w2 ⟨rfl, hb2⟩
  have hb3 := hb1.trans (hb2.mono hb1.size)
  have he := crc_goes a b
  clear hr ht hb1 hb2
  go_wp2
  go_ret
  exact ⟨ret_u32 (by rw [← he]; rfl), hb3⟩
theorem four_any (n : Nat) (w : World) (h : n < 4294967296) :
    Calls Tryd.prog 28 #[.int .i64 n] w fun e w' => e = .returned (.slice (some ⟨w.heap.size, 0, none⟩) 4 4) ∧ w' = w.alloc (.cells (row4 n) 5) := by
  go_enter Tryd.func28, Tryd.ntmps28
  go_wp2_with fail
  refine (rbytes_any n w h).mono ?_
  rintro e w1 ⟨rfl, rfl⟩
  go_wp2
  go_ret
  exact ⟨rfl, rfl⟩
theorem row4_by4 (n : Nat) (h : n < 4294967296) : row4 n = (cellsB (by4 n)).toArray := by
  simp [row4, cellsB, by4, cellB]
  omega
theorem rnum_any (A : Option Addr) (n c : Nat) (l : List UInt8) (w : World) (hn : l.length = n) (h4 : 4 ≤ n) (hnc : n ≤ c) (hr : Rd w A l) :
    Calls Tryd.prog 36 #[.slice A n c] w fun e w' => e = .returned (.int .i64 (of4 (l.take 4))) ∧ ∃ m, w' = w.drewN m := by
  have hr4 := hr.take 4
  have hl4 : (l.take 4).length = 4 := by rw [List.length_take]; omega
  have hlt := of4_lt (l.take 4)
  generalize l.take 4 = t at *
  clear hr hn
  go_enter Tryd.func36, Tryd.ntmps36
  go_wp2_with (refine wpList_slice_hi rfl (.tmp 3) (.const (.int .i64 4)) 25 5 rfl Tryd.underlying25 (by simp [sizeOf, typeInfo, go_sem]; rfl) A n c rfl .i64 4 rfl (by omega) ?_)
  refine (rof_yes A c t w hl4 hr4).mono ?_
  rintro e w1 ⟨rfl, m, rfl⟩
  go_wp2
  go_ret
  exact ⟨rfl, m, rfl⟩
end Go.Proofs.YthbhbjfmlmgeeaaDoor
