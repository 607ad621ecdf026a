/- Proved here: 'taborlaw01.SumsBlock' returns true for every state and every slice of bytes, which read behind the call as they read before. Conditions: those of the given card (the four listed tables hold what the program's text lays; nothing else). -/
import Derived.Test.YtecioakbgggdfaaDoorFrame
import Derived.Test.YtecioakbgggdfaaDoorState
import Derived.Test.YtecioakbgggdfaaDoorRefBlock
import Derived.Test.YtecioakbgggdfaaDoorQuiet
import Derived.Test.YtecioakbgggdfaaDoorDigest
namespace Go.Proofs.YtecioakbgggdfaaDoor.sumsBlock
open Go Go.RowKit Go.ChangeShapes Go.WideShapes Go.ChangeAt
open Go.ChangeMaps (open_string shut_string)

open Go.BigFrame

set_option maxHeartbeats 2000000 in
theorem walk_yes (s : St) (A : Option Addr) (c : Nat) (l : List UInt8) (w : World) (hs : s.ok) (hl : l.length = 64) (ha : Arg w (.slice A 64 c) l) (hL : Laid w) :
    Calls Tryd.prog 7 #[.agg #[.int .u32 s.a, .int .u32 s.b, .int .u32 s.c, .int .u32 s.d, .int .u32 s.e], .slice A 64 c] w fun e w' => e = .returned (.bool true) ∧ Below w.heap.size w w' := by
  have HL := Lib.hid hL
  have HA := Lib.hid ha
  have HS := Lib.hid hs
  have hl6 : l.length ≤ 1000000 := by omega
  clear ha hL hs
  have hbox : (w.alloc (.cells s.row 36)).heap[w.heap.size]? = some (.cells s.row 36 (0, 0)) := heap_alloc_new w _
  have hb0 : Below w.heap.size w (w.alloc (.cells s.row 36)) := (Below.refl w.heap.size w).alloc (Nat.le_refl _) (.cells s.row 36)
  have HW : Hid (w.alloc (.cells #[.int .u32 s.a, .int .u32 s.b, .int .u32 s.c, .int .u32 s.d, .int .u32 s.e] 36) = w.alloc (.cells s.row 36)) := rfl
  go_enter Tryd.func7, Tryd.ntmps7
  go_wp2_with fail
  rw [HW.out]
  clear HW
  generalize w.alloc (.cells s.row 36) = w0 at *
  have HBOX := Lib.hid hbox
  have hlt0 : w.heap.size < w0.heap.size := (Array.getElem?_eq_some_iff.1 hbox).1
  clear hbox
  have ha0 := HA.out.below hb0
  have HA0 := Lib.hid ha0
  clear ha0
  refine (lent_any _ l w0 hl6 HA0.out).mono ?_
  rintro e w1 ⟨mv, rfl, hm, hb1⟩
  obtain ⟨B, c1, he, hr1⟩ := hm.rd
  rw [hl] at he
  subst he
  have HM := Lib.hid hm
  have hbox1 : w1.heap[w.heap.size]? = some (.cells s.row 36 (0, 0)) := (hb1.block _ hlt0).trans HBOX.out
  have hbw1 : Below w.heap.size w w1 := hb0.trans (hb1.mono hb0.size)
  have HA1 := Lib.hid (HA0.out.below hb1)
  have HL1 := Lib.hid (HL.out.below hbw1)
  obtain ⟨z0, z1, z2, z3, z4⟩ := row36 w1 _ _ hbox1
  have HBOX1 := Lib.hid hbox1
  have HR1 := Lib.hid hr1
  obtain ⟨T, hT⟩ : ∃ T : St, T = blockS l s := ⟨_, rfl⟩
  have HB : Hid (Calls Tryd.prog 26 #[.agg #[.int .u32 s.a, .int .u32 s.b, .int .u32 s.c, .int .u32 s.d, .int .u32 s.e], .slice B 64 c1] w1 fun e w' => e = .returned (.tuple #[.agg #[.int .u32 T.a, .int .u32 T.b, .int .u32 T.c, .int .u32 T.d, .int .u32 T.e], .int .i64 0]) ∧ Below w1.heap.size w1 w') := by
    rw [hT]; exact block_any s B c1 l w1 HS.out hl HR1.out
  have HT := Lib.hid hT
  clear hT hm hbox1 hr1
  go_wp2_with fail
  refine HB.out.mono ?_
  rintro e w2 ⟨rfl, hb2⟩
  have hst : (w2.alloc (.cells T.row 36)).heap[w2.heap.size]? = some (.cells T.row 36 (0, 0)) := heap_alloc_new w2 _
  have hb3 : Below w1.heap.size w1 (w2.alloc (.cells T.row 36)) := hb2.alloc hb2.size _
  have HW : Hid (w2.alloc (.cells #[.int .u32 T.a, .int .u32 T.b, .int .u32 T.c, .int .u32 T.d, .int .u32 T.e] 36) = w2.alloc (.cells T.row 36)) := rfl
  clear z0 z1 z2 z3 z4
  go_wp2_with fail
  rw [HW.out]
  clear HW
  generalize w2.alloc (.cells T.row 36) = w3 at *
  generalize w2.heap.size = D at *
  have hlt1 : w.heap.size < w1.heap.size := Nat.lt_of_lt_of_le hlt0 hb1.size
  have hbw3 : Below w.heap.size w w3 := hbw1.trans (hb3.mono hbw1.size)
  have hDlt : D < w3.heap.size := (Array.getElem?_eq_some_iff.1 hst).1
  have hlt3 : w.heap.size < w3.heap.size := Nat.lt_of_lt_of_le hlt1 hb3.size
  have hbox3 : w3.heap[w.heap.size]? = some (.cells s.row 36 (0, 0)) := (hb3.block _ hlt1).trans HBOX1.out
  have HA3 := Lib.hid (HA1.out.below hb3)
  have HM3 := Lib.hid (HM.out.below hb3)
  have HL3 := Lib.hid (HL1.out.below hb3)
  have HB3 := Lib.hid hbox3
  have HD3 := Lib.hid hst
  clear hbox3 hst
  have hcs : ∀ x : InW (Grown w3), x.w.heap[w.heap.size]? = some (.cells s.row 36 (0, 0)) := fun x => (x.h.block _ hlt3).trans HB3.out
  have z0 : ∀ x : InW (Grown w3), x.w.cell? ⟨w.heap.size, 0, none⟩ = some (.int .u32 s.a) := fun x => (row36 x.w _ _ (hcs x)).1
  have z1 : ∀ x : InW (Grown w3), x.w.cell? ⟨w.heap.size, 1, none⟩ = some (.int .u32 s.b) := fun x => (row36 x.w _ _ (hcs x)).2.1
  have z2 : ∀ x : InW (Grown w3), x.w.cell? ⟨w.heap.size, 2, none⟩ = some (.int .u32 s.c) := fun x => (row36 x.w _ _ (hcs x)).2.2.1
  have z3 : ∀ x : InW (Grown w3), x.w.cell? ⟨w.heap.size, 3, none⟩ = some (.int .u32 s.d) := fun x => (row36 x.w _ _ (hcs x)).2.2.2.1
  have z4 : ∀ x : InW (Grown w3), x.w.cell? ⟨w.heap.size, 4, none⟩ = some (.int .u32 s.e) := fun x => (row36 x.w _ _ (hcs x)).2.2.2.2
  obtain ⟨F, hF⟩ : ∃ F : St, F = first := ⟨_, rfl⟩
  obtain ⟨str, hstr⟩ : ∃ str : ByteArray, str = ⟨(hexS s 5).toArray⟩ := ⟨_, rfl⟩
  have H27 : Hid (∀ x : InW (Grown w3), Calls Tryd.prog 27 #[] x.w (RetIn (Grown w3) (.agg #[.int .u32 F.a, .int .u32 F.b, .int .u32 F.c, .int .u32 F.d, .int .u32 F.e]))) := fun x => by rw [hF]; exact ret_below (start_any x.w)
  have H28 : Hid (∀ x : InW (Grown w3), Calls Tryd.prog 28 #[] x.w (RetIn (Grown w3) (.agg #[.int .u32 F.a, .int .u32 F.b, .int .u32 F.c, .int .u32 F.d, .int .u32 F.e]))) := fun x => by rw [hF]; exact ret_below (rstart_any x.w)
  have H29 : Hid (∀ x : InW (Grown w3), Calls Tryd.prog 29 #[.agg #[.int .u32 s.a, .int .u32 s.b, .int .u32 s.c, .int .u32 s.d, .int .u32 s.e]] x.w (RetIn (Grown w3) (.string str))) := fun x => by rw [hstr]; exact ret_below (text_any s x.w HS.out (HL3.out.below x.h).2.1)
  have H30 : Hid (∀ x : InW (Grown w3), Calls Tryd.prog 30 #[.agg #[.int .u32 s.a, .int .u32 s.b, .int .u32 s.c, .int .u32 s.d, .int .u32 s.e]] x.w (RetIn (Grown w3) (.string str))) := fun x => by rw [hstr]; exact ret_below (rtext_any s x.w HS.out)
  have H16 : Hid (∀ x : InW (Grown w3), Calls Tryd.prog 16 #[.slice B 64 c1, .slice A 64 c] x.w (RetIn (Grown w3) (.bool true))) := fun x => ret_same (kept_any w0 x.w _ _ l hl6 (HM3.out.below x.h) (HA3.out.below x.h))
  have HIN : Nonempty (InW (Grown w3)) := ⟨⟨w3, Below.refl _ _⟩⟩
  clear hF hstr hcs
  have heq : ∀ x : InW (Grown w3), (Op.equalIn 10000 36 (.agg #[.int .u32 F.a, .int .u32 F.b, .int .u32 F.c, .int .u32 F.d, .int .u32 F.e]) (.agg #[.int .u32 F.a, .int .u32 F.b, .int .u32 F.c, .int .u32 F.d, .int .u32 F.e])).run Tryd.prog x.w = .ok true x.w := fun x => eq36 F x.w
  refine region_in (Grown w3) (by kernel_rfl) (by kernel_rfl) (Below.refl _ _).drew ?_
  repeat (go_big_quiet_step ((rename_i x; with_reducible (first | exact H27.out x | exact H28.out x | exact H29.out x | exact H30.out x | exact H16.out x))))
  refine wpQuiet_nil ?_
  rintro _ ⟨x, rfl⟩
  obtain ⟨w4, h4⟩ := x
  clear heq H27 H28 H29 H30 H16 HIN z0 z1 z2 z3 z4
  dsimp only
  have h4' : Below w3.heap.size w3 w4 := h4
  clear h4
  have hbw4 : Below w.heap.size w w4 := hbw3.trans (h4'.mono hbw3.size)
  have HL4 := Lib.hid (HL3.out.below h4')
  have HA4 := Lib.hid (HA3.out.below h4')
  have hlt4 : w.heap.size < w4.heap.size := Nat.lt_of_lt_of_le hlt3 h4'.size
  have hD4 : D < w4.heap.size := Nat.lt_of_lt_of_le hDlt h4'.size
  have hcs : ∀ x : InW (Grown w4), x.w.heap[w.heap.size]? = some (.cells s.row 36 (0, 0)) := fun x => (x.h.block _ hlt4).trans ((h4'.block _ hlt3).trans HB3.out)
  have hct : ∀ x : InW (Grown w4), x.w.heap[D]? = some (.cells T.row 36 (0, 0)) := fun x => (x.h.block _ hD4).trans ((h4'.block _ hDlt).trans HD3.out)
  have z0 : ∀ x : InW (Grown w4), x.w.cell? ⟨w.heap.size, 0, none⟩ = some (.int .u32 s.a) := fun x => (row36 x.w _ _ (hcs x)).1
  have z1 : ∀ x : InW (Grown w4), x.w.cell? ⟨w.heap.size, 1, none⟩ = some (.int .u32 s.b) := fun x => (row36 x.w _ _ (hcs x)).2.1
  have z2 : ∀ x : InW (Grown w4), x.w.cell? ⟨w.heap.size, 2, none⟩ = some (.int .u32 s.c) := fun x => (row36 x.w _ _ (hcs x)).2.2.1
  have z3 : ∀ x : InW (Grown w4), x.w.cell? ⟨w.heap.size, 3, none⟩ = some (.int .u32 s.d) := fun x => (row36 x.w _ _ (hcs x)).2.2.2.1
  have z4 : ∀ x : InW (Grown w4), x.w.cell? ⟨w.heap.size, 4, none⟩ = some (.int .u32 s.e) := fun x => (row36 x.w _ _ (hcs x)).2.2.2.2
  have t0 : ∀ x : InW (Grown w4), x.w.cell? ⟨D, 0, none⟩ = some (.int .u32 T.a) := fun x => (row36 x.w _ _ (hct x)).1
  have t1 : ∀ x : InW (Grown w4), x.w.cell? ⟨D, 1, none⟩ = some (.int .u32 T.b) := fun x => (row36 x.w _ _ (hct x)).2.1
  have t2 : ∀ x : InW (Grown w4), x.w.cell? ⟨D, 2, none⟩ = some (.int .u32 T.c) := fun x => (row36 x.w _ _ (hct x)).2.2.1
  have t3 : ∀ x : InW (Grown w4), x.w.cell? ⟨D, 3, none⟩ = some (.int .u32 T.d) := fun x => (row36 x.w _ _ (hct x)).2.2.2.1
  have t4 : ∀ x : InW (Grown w4), x.w.cell? ⟨D, 4, none⟩ = some (.int .u32 T.e) := fun x => (row36 x.w _ _ (hct x)).2.2.2.2
  have H31 : Hid (∀ x : InW (Grown w4), Calls Tryd.prog 31 #[.agg #[.int .u32 s.a, .int .u32 s.b, .int .u32 s.c, .int .u32 s.d, .int .u32 s.e], .slice A 64 c] x.w (RetIn (Grown w4) (.agg #[.int .u32 T.a, .int .u32 T.b, .int .u32 T.c, .int .u32 T.d, .int .u32 T.e]))) := fun x => by
    obtain ⟨A', c', he, hr⟩ := (HA4.out.below x.h).rd
    rw [hl] at he
    cases he
    rw [HT.out]
    exact ret_below (rblock_any s A c l x.w HS.out hl hr)
  have H20 : Hid (∀ x : InW (Grown w4), Calls Tryd.prog 20 #[.int .i64 0] x.w (RetIn (Grown w4) (.int .i64 0))) := fun x => ret_same (num_any 0 x.w)
  have H12 : Hid (∀ x : InW (Grown w4), Calls Tryd.prog 12 #[] x.w (RetIn (Grown w4) (.bool true))) := fun x => ret_below (works_any x.w (HL4.out.below x.h))
  have HIN : Nonempty (InW (Grown w4)) := ⟨⟨w4, Below.refl _ _⟩⟩
  have heq : ∀ x : InW (Grown w4), (Op.equalIn 10000 36 (.agg #[.int .u32 T.a, .int .u32 T.b, .int .u32 T.c, .int .u32 T.d, .int .u32 T.e]) (.agg #[.int .u32 T.a, .int .u32 T.b, .int .u32 T.c, .int .u32 T.d, .int .u32 T.e])).run Tryd.prog x.w = .ok true x.w := fun x => eq36 T x.w
  clear hcs hct
  go_wp2_with fail
  refine region_in (Grown w4) (by kernel_rfl) (by kernel_rfl) (Below.refl _ _).drew ?_
  repeat (go_big_quiet_step ((rename_i x; with_reducible (first | exact H31.out x | exact H20.out x | exact H12.out x))))
  refine wpQuiet_nil ?_
  rintro _ ⟨x, rfl⟩
  have hbx := hbw4.trans (x.h.mono hbw4.size)
  go_wp2
  all_goals go_ret
  all_goals exact ⟨rfl, hbx⟩

set_option maxHeartbeats 2000000 in
theorem walk_no (s : St) (A : Option Addr) (c : Nat) (l : List UInt8) (w : World) (hs : s.ok) (hl : l.length ≠ 64) (hmax : l.length ≤ 10000) (ha : Arg w (.slice A l.length c) l) (hL : Laid w) :
    Calls Tryd.prog 7 #[.agg #[.int .u32 s.a, .int .u32 s.b, .int .u32 s.c, .int .u32 s.d, .int .u32 s.e], .slice A l.length c] w fun e w' => e = .returned (.bool true) ∧ Below w.heap.size w w' := by
  have HL := Lib.hid hL
  have HA := Lib.hid ha
  have HS := Lib.hid hs
  have hl6 : l.length ≤ 1000000 := by omega
  have hd : decide ((l.length : Int) > 10000) = false := by simp; omega
  have hd4 : ((l.length : Int) != 64) = true := by simp; omega
  clear ha hL hs
  have hbox : (w.alloc (.cells s.row 36)).heap[w.heap.size]? = some (.cells s.row 36 (0, 0)) := heap_alloc_new w _
  have hb0 : Below w.heap.size w (w.alloc (.cells s.row 36)) := (Below.refl w.heap.size w).alloc (Nat.le_refl _) (.cells s.row 36)
  have HW : Hid (w.alloc (.cells #[.int .u32 s.a, .int .u32 s.b, .int .u32 s.c, .int .u32 s.d, .int .u32 s.e] 36) = w.alloc (.cells s.row 36)) := rfl
  go_enter Tryd.func7, Tryd.ntmps7
  go_wp2_with fail
  rw [HW.out]
  clear HW
  generalize w.alloc (.cells s.row 36) = w0 at *
  have HBOX := Lib.hid hbox
  have hlt0 : w.heap.size < w0.heap.size := (Array.getElem?_eq_some_iff.1 hbox).1
  clear hbox
  have ha0 := HA.out.below hb0
  have HA0 := Lib.hid ha0
  clear ha0
  refine (lent_any _ l w0 hl6 HA0.out).mono ?_
  rintro e w1 ⟨mv, rfl, hm, hb1⟩
  obtain ⟨B, c1, he, hr1⟩ := hm.rd
  skip
  subst he
  have HM := Lib.hid hm
  have hbox1 : w1.heap[w.heap.size]? = some (.cells s.row 36 (0, 0)) := (hb1.block _ hlt0).trans HBOX.out
  have hbw1 : Below w.heap.size w w1 := hb0.trans (hb1.mono hb0.size)
  have HA1 := Lib.hid (HA0.out.below hb1)
  have HL1 := Lib.hid (HL.out.below hbw1)
  obtain ⟨z0, z1, z2, z3, z4⟩ := row36 w1 _ _ hbox1
  have HBOX1 := Lib.hid hbox1
  have HR1 := Lib.hid hr1
  obtain ⟨T, hT⟩ : ∃ T : St, T = ⟨0, 0, 0, 0, 0⟩ := ⟨_, rfl⟩
  have HB : Hid (Calls Tryd.prog 26 #[.agg #[.int .u32 s.a, .int .u32 s.b, .int .u32 s.c, .int .u32 s.d, .int .u32 s.e], .slice B l.length c1] w1 fun e w' => e = .returned (.tuple #[.agg #[.int .u32 T.a, .int .u32 T.b, .int .u32 T.c, .int .u32 T.d, .int .u32 T.e], .int .i64 2]) ∧ Below w1.heap.size w1 w') := by
    rw [hT]; exact block_no s B l.length c1 w1 hl
  have HT := Lib.hid hT
  clear hT hm hbox1 hr1
  go_wp2_with fail
  refine HB.out.mono ?_
  rintro e w2 ⟨rfl, hb2⟩
  have hst : (w2.alloc (.cells T.row 36)).heap[w2.heap.size]? = some (.cells T.row 36 (0, 0)) := heap_alloc_new w2 _
  have hb3 : Below w1.heap.size w1 (w2.alloc (.cells T.row 36)) := hb2.alloc hb2.size _
  have HW : Hid (w2.alloc (.cells #[.int .u32 T.a, .int .u32 T.b, .int .u32 T.c, .int .u32 T.d, .int .u32 T.e] 36) = w2.alloc (.cells T.row 36)) := rfl
  clear z0 z1 z2 z3 z4
  go_wp2_with fail
  rw [HW.out]
  clear HW
  generalize w2.alloc (.cells T.row 36) = w3 at *
  generalize w2.heap.size = D at *
  have hlt1 : w.heap.size < w1.heap.size := Nat.lt_of_lt_of_le hlt0 hb1.size
  have hbw3 : Below w.heap.size w w3 := hbw1.trans (hb3.mono hbw1.size)
  have hDlt : D < w3.heap.size := (Array.getElem?_eq_some_iff.1 hst).1
  have hlt3 : w.heap.size < w3.heap.size := Nat.lt_of_lt_of_le hlt1 hb3.size
  have hbox3 : w3.heap[w.heap.size]? = some (.cells s.row 36 (0, 0)) := (hb3.block _ hlt1).trans HBOX1.out
  have HA3 := Lib.hid (HA1.out.below hb3)
  have HM3 := Lib.hid (HM.out.below hb3)
  have HL3 := Lib.hid (HL1.out.below hb3)
  have HB3 := Lib.hid hbox3
  have HD3 := Lib.hid hst
  clear hbox3 hst
  have hcs : ∀ x : InW (Grown w3), x.w.heap[w.heap.size]? = some (.cells s.row 36 (0, 0)) := fun x => (x.h.block _ hlt3).trans HB3.out
  have z0 : ∀ x : InW (Grown w3), x.w.cell? ⟨w.heap.size, 0, none⟩ = some (.int .u32 s.a) := fun x => (row36 x.w _ _ (hcs x)).1
  have z1 : ∀ x : InW (Grown w3), x.w.cell? ⟨w.heap.size, 1, none⟩ = some (.int .u32 s.b) := fun x => (row36 x.w _ _ (hcs x)).2.1
  have z2 : ∀ x : InW (Grown w3), x.w.cell? ⟨w.heap.size, 2, none⟩ = some (.int .u32 s.c) := fun x => (row36 x.w _ _ (hcs x)).2.2.1
  have z3 : ∀ x : InW (Grown w3), x.w.cell? ⟨w.heap.size, 3, none⟩ = some (.int .u32 s.d) := fun x => (row36 x.w _ _ (hcs x)).2.2.2.1
  have z4 : ∀ x : InW (Grown w3), x.w.cell? ⟨w.heap.size, 4, none⟩ = some (.int .u32 s.e) := fun x => (row36 x.w _ _ (hcs x)).2.2.2.2
  obtain ⟨F, hF⟩ : ∃ F : St, F = first := ⟨_, rfl⟩
  obtain ⟨str, hstr⟩ : ∃ str : ByteArray, str = ⟨(hexS s 5).toArray⟩ := ⟨_, rfl⟩
  have H27 : Hid (∀ x : InW (Grown w3), Calls Tryd.prog 27 #[] x.w (RetIn (Grown w3) (.agg #[.int .u32 F.a, .int .u32 F.b, .int .u32 F.c, .int .u32 F.d, .int .u32 F.e]))) := fun x => by rw [hF]; exact ret_below (start_any x.w)
  have H28 : Hid (∀ x : InW (Grown w3), Calls Tryd.prog 28 #[] x.w (RetIn (Grown w3) (.agg #[.int .u32 F.a, .int .u32 F.b, .int .u32 F.c, .int .u32 F.d, .int .u32 F.e]))) := fun x => by rw [hF]; exact ret_below (rstart_any x.w)
  have H29 : Hid (∀ x : InW (Grown w3), Calls Tryd.prog 29 #[.agg #[.int .u32 s.a, .int .u32 s.b, .int .u32 s.c, .int .u32 s.d, .int .u32 s.e]] x.w (RetIn (Grown w3) (.string str))) := fun x => by rw [hstr]; exact ret_below (text_any s x.w HS.out (HL3.out.below x.h).2.1)
  have H30 : Hid (∀ x : InW (Grown w3), Calls Tryd.prog 30 #[.agg #[.int .u32 s.a, .int .u32 s.b, .int .u32 s.c, .int .u32 s.d, .int .u32 s.e]] x.w (RetIn (Grown w3) (.string str))) := fun x => by rw [hstr]; exact ret_below (rtext_any s x.w HS.out)
  have H16 : Hid (∀ x : InW (Grown w3), Calls Tryd.prog 16 #[.slice B l.length c1, .slice A l.length c] x.w (RetIn (Grown w3) (.bool true))) := fun x => ret_same (kept_any w0 x.w _ _ l hl6 (HM3.out.below x.h) (HA3.out.below x.h))
  have HIN : Nonempty (InW (Grown w3)) := ⟨⟨w3, Below.refl _ _⟩⟩
  clear hF hstr hcs
  have heq : ∀ x : InW (Grown w3), (Op.equalIn 10000 36 (.agg #[.int .u32 F.a, .int .u32 F.b, .int .u32 F.c, .int .u32 F.d, .int .u32 F.e]) (.agg #[.int .u32 F.a, .int .u32 F.b, .int .u32 F.c, .int .u32 F.d, .int .u32 F.e])).run Tryd.prog x.w = .ok true x.w := fun x => eq36 F x.w
  refine region_in (Grown w3) (by kernel_rfl) (by kernel_rfl) (Below.refl _ _).drew ?_
  repeat (go_big_quiet_step ((rename_i x; with_reducible (first | exact H27.out x | exact H28.out x | exact H29.out x | exact H30.out x | exact H16.out x))))
  refine wpQuiet_nil ?_
  rintro _ ⟨x, rfl⟩
  obtain ⟨w4, h4⟩ := x
  clear heq H27 H28 H29 H30 H16 HIN z0 z1 z2 z3 z4
  dsimp only
  have h4' : Below w3.heap.size w3 w4 := h4
  clear h4
  have hbw4 : Below w.heap.size w w4 := hbw3.trans (h4'.mono hbw3.size)
  have HL4 := Lib.hid (HL3.out.below h4')
  have HA4 := Lib.hid (HA3.out.below h4')
  have hct : w4.heap[D]? = some (.cells T.row 36 (0, 0)) := (h4'.block _ hDlt).trans HD3.out
  rw [HT.out] at hct
  obtain ⟨t0, t1, t2, t3, t4⟩ := row36 w4 _ _ hct
  have H12 : Hid (Calls Tryd.prog 12 #[] w4 fun e w' => e = .returned (.bool true) ∧ Below w4.heap.size w4 w') := works_any w4 HL4.out
  have heq : (Op.equalIn 10000 36 (.agg #[.int .u32 0, .int .u32 0, .int .u32 0, .int .u32 0, .int .u32 0]) (.agg #[.int .u32 0, .int .u32 0, .int .u32 0, .int .u32 0, .int .u32 0])).run Tryd.prog w4 = .ok true w4 := eq36i 0 0 0 0 0 w4
  clear hct
  go_wp2_with (first
    | (go_at_call 20; refine (num_any 2 _).mono ?_; rintro e w' ⟨rfl, rfl⟩)
    | (go_at_call 12; refine H12.out.mono ?_; rintro e w5 ⟨rfl, hb5⟩; have hbx := hbw4.trans (hb5.mono hbw4.size)))
  all_goals go_ret
  all_goals exact ⟨rfl, hbx⟩

set_option maxHeartbeats 1000000 in
theorem walk_long (s : St) (A : Option Addr) (c n : Nat) (w : World) (h : 10000 < n) (hm : n ≤ maxLen) (hL : Laid w) :
    Calls Tryd.prog 7 #[.agg #[.int .u32 s.a, .int .u32 s.b, .int .u32 s.c, .int .u32 s.d, .int .u32 s.e], .slice A n c] w fun e w' => e = .returned (.bool true) ∧ Below w.heap.size w w' := by
  unfold maxLen at hm
  have hd : decide ((n : Int) > 10000) = true := by simp; omega
  have hb0 : Below w.heap.size w (w.alloc (.cells s.row 36)) := (Below.refl w.heap.size w).alloc (Nat.le_refl _) (.cells s.row 36)
  have HW : Hid (w.alloc (.cells #[.int .u32 s.a, .int .u32 s.b, .int .u32 s.c, .int .u32 s.d, .int .u32 s.e] 36) = w.alloc (.cells s.row 36)) := rfl
  have HL := Lib.hid (hL.below hb0)
  clear hL
  go_enter Tryd.func7, Tryd.ntmps7
  go_wp2_with fail
  rw [HW.out]
  clear HW
  generalize w.alloc (.cells s.row 36) = w0 at *
  refine (works_any w0 HL.out).mono ?_
  rintro e w3 ⟨rfl, hb3⟩
  have hbx := hb0.trans (hb3.mono hb0.size)
  go_wp2
  go_ret
  exact ⟨rfl, hbx⟩
theorem walk (s : St) (hs : s.ok) (A : Option Addr) (c : Nat) (l : List UInt8) (n : Nat) (hn : l.length = n) (w : World) (ha : Arg w (.slice A n c) l) (hm : n ≤ maxLen) (hL : Laid w) :
    Calls Tryd.prog 7 #[.agg #[.int .u32 s.a, .int .u32 s.b, .int .u32 s.c, .int .u32 s.d, .int .u32 s.e], .slice A n c] w fun e w' => e = .returned (.bool true) ∧ Below w.heap.size w w' := by
  subst hn
  by_cases h1 : l.length ≤ 10000
  · by_cases h2 : l.length = 64
    · rw [h2] at ha ⊢
      exact walk_yes s A c l w hs h2 ha hL
    · exact walk_no s A c l w hs h2 h1 ha hL
  · exact walk_long s A c _ w (by omega) hm hL


theorem contract (H : Type) (enc : TypeId × Value → H) (W : World) (base : Nat) (args : Array Value) (ds gs : List (DataW H)) (before : List MemPlace)
    (hval : ∀ (j : Nat) t v, Tryd.f7.params[j]? = some t → args[j]? = some v → Value.okWide Tryd.prog W .any base t v)
    (hW : DataW.Whole enc Tryd.prog Tryd.f7.params.toList Rows.sumsBlockSpec.vars false W args.toList ds gs before) (hL : laidMetH Tryd.prog Rows.sumsBlockRow.laid W) :
    Calls Tryd.prog 7 args W fun e W' => ∃ v, e = .returned v ∧ Rows.sumsBlockSpec.post enc Tryd.prog Tryd.f7 false true false false W args v W' := by
  have hW' := hW
  obtain ⟨p, q, hA0, hV, rfl, hfz, hnd⟩ := hW
  have hA : DataW.TrodAll enc Tryd.prog W 0 (fun _ => true) true Tryd.f7.params.toList args.toList ds p := hA0
  rw [Tryd.params7] at hA hval
  obtain ⟨v0, vs0, d0, ds0, p0, q0, hargs, rfl, rfl, h0, r0⟩ := trodAll_cons hA
  obtain ⟨v1, vs1, d1, ds1, p1, q1, rfl, rfl, rfl, h1, r1⟩ := trodAll_cons r0
  obtain ⟨rfl, rfl, rfl⟩ := trodAll_nil r1
  obtain rfl : args = #[v0, v1] := by cases args; simp_all
  obtain ⟨rfl, rfl⟩ := trodVars_none hV
  have k0 := h0
  have lt0 : ∀ x ∈ p0, x.block < W.heap.size := by obtain ⟨m, hm⟩ := k0; exact DataW.trod_lt m _ _ _ hm
  obtain ⟨st0, rfl, hst0⟩ := state_of (hval 0 36 v0 rfl rfl) h0
  obtain ⟨a1, len1, cap1, rfl⟩ := okWide_slice Tryd.underlying22 (hval 1 22 v1 rfl rfl)
  have k1 := h1
  have lt1 : ∀ x ∈ p1, x.block < W.heap.size := by obtain ⟨m, hm⟩ := k1; exact DataW.trod_lt m _ _ _ hm
  obtain ⟨l1, ha1, hlen1, hmax1⟩ := arg_of h1
  clear hA0
  refine (walk st0 hst0 a1 cap1 l1 len1 hlen1 W ha1 hmax1 (laid_of hL)).mono fun e W' ⟨he, bel⟩ => ?_
  subst he
  exact ⟨_, rfl, _, _, _, [], _, [], hW', trodAll_mk1 (shut_bool Tryd.underlying4 _), (trodAll_cons_mk (Below.trod laidOut (by kernel_rfl) (of_decide_eq_true (by kernel_rfl)) k0 bel lt0) (trodAll_cons_mk (Below.trod laidOut (by kernel_rfl) (of_decide_eq_true (by kernel_rfl)) k1 bel lt1) trodAll_mk0)), rfl, bel.frame _, fun h => by cases h⟩

theorem reads (os : Os) {H : Type} (enc : TypeId × Value → H) : ∃ places, DataW.whole enc Tryd.prog ((laidWorld os).forCall (fun _ _ => 0) ⟨#[], #[.agg #[.int .u32 0, .int .u32 0, .int .u32 0, .int .u32 0, .int .u32 0], .slice none 0 0], []⟩).memory Tryd.f7.params.toList Rows.sumsBlockSpec.vars false (#[.agg #[.int .u32 0, .int .u32 0, .int .u32 0, .int .u32 0, .int .u32 0], .slice none 0 0] : Array Value).toList 8 = some ([.agg [.lit (.int .u32 0), .lit (.int .u32 0), .lit (.int .u32 0), .lit (.int .u32 0), .lit (.int .u32 0)], .nil], [], places) :=
  ⟨[], by kernel_rfl⟩

set_option maxRecDepth 100000 in
theorem lifted (os : Os) (started : os.Started) (H : Type) (enc : TypeId × Value → H) (F : Stop.Interp) :
    ReturnsInHanded {} Tryd.checked os 7 .any ((OpenSpec.ofChange Rows.sumsBlockSpec).preRow enc Tryd.prog Tryd.f7 Rows.sumsBlockRow.domain false Rows.sumsBlockRow.laid) (((OpenSpec.ofChange Rows.sumsBlockSpec).at F).post enc Tryd.prog Tryd.f7 false true false false) := by
  obtain ⟨places, hx⟩ := reads os enc
  refine returnsInHanded_of_row (C := Tryd.checked) (s := OpenSpec.ofChange Rows.sumsBlockSpec) own started (by kernel_rfl) Tryd.func7
    (witness_row_at (enc := enc) (C := Tryd.checked) false (laidWorld os) #[.agg #[.int .u32 0, .int .u32 0, .int .u32 0, .int .u32 0, .int .u32 0], .slice none 0 0] rfl (by kernel_rfl) (by kernel_rfl) (by kernel_rfl)
      (OpenSpec.preRow_of_cond 8 hx (by kernel_rfl) (fun k hk => by cases hk) (by kernel_rfl) (laid_met os _))) ?_
  intro W base args ds gs before hval hW _ _ _ hL _ _
  exact contract H enc W base args ds gs before hval hW hL

theorem said : Rows.SumsBlockSaid :=
  OpenClaim.holds_of_cond 7 Tryd.f7 rfl rfl rfl rfl rfl rfl rfl ⟨rfl, rfl, rfl, rfl, rfl⟩ rfl rfl rfl rfl rfl (by kernel_rfl) Tryd.func7 (by kernel_rfl)
    (of_decide_eq_true (by kernel_rfl)) (by unfold Func.isWrapper; first | (rw [if_pos (by decide +kernel)]; kernel_rfl) | (rw [if_neg (by decide +kernel)]; exact ⟨rfl, rfl⟩))
    (fun os started H enc _ F => by rw [OpenClaim.pre_eq_preRow]; exact lifted os started H enc F)

theorem plain (f : FuncId) (fn : Func) (hf : Tryd.pinned.checked.prog.funcNamed "tabor/taborlaw01.SumsBlock" = some f) (hfn : Tryd.pinned.checked.prog.funcs[f]? = some fn) :
    false = Tryd.pinned.checked.prog.looks [] ∧ ∀ (j : Nat) t, fn.params[j]? = some t → Tryd.pinned.checked.prog.wantsStandIn t = false := by
  obtain rfl : f = 7 := Option.some.inj ((show Tryd.prog.funcNamed "tabor/taborlaw01.SumsBlock" = some 7 by kernel_rfl).symm.trans hf) |>.symm
  obtain rfl : fn = Tryd.f7 := (Option.some.inj (Tryd.func7.symm.trans hfn)).symm
  refine ⟨by kernel_rfl, fun j t ht => ?_⟩
  rw [Tryd.params7] at ht
  have hm : t = 36 ∨ t = 22 := by simpa using Array.mem_of_getElem? ht
  rcases hm with rfl | rfl
  · exact (show Tryd.prog.wantsStandIn 36 = false by kernel_rfl)
  · exact (show Tryd.prog.wantsStandIn 22 = false by kernel_rfl)

/-- The card. -/
theorem card : Rows.SumsBlockCardSaid :=
  Claim7.holds_tied_plain_at .later [] _ _ _ _ said (fun _ h => by cases h) (by kernel_rfl) (fun _ h => by cases h) sumsBlock_row_tie rfl ⟨rfl, rfl⟩ (by kernel_rfl) rfl plain (by kernel_rfl)
#print axioms card
end Go.Proofs.YtecioakbgggdfaaDoor.sumsBlock
