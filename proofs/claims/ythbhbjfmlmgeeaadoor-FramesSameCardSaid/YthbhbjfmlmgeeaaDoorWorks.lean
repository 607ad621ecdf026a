/- What every law shows besides. -/
import Derived.Test.YthbhbjfmlmgeeaaDoorRScan
import Derived.Test.YthbhbjfmlmgeeaaDoorPut
import Derived.Test.YthbhbjfmlmgeeaaDoorOne
import Derived.Test.YthbhbjfmlmgeeaaDoorMany
namespace Go.Proofs.YthbhbjfmlmgeeaaDoor
open Go Go.RowKit
def sa : ByteArray := { data := #[97] }
def sb : ByteArray := { data := #[98] }
def sc : ByteArray := { data := #[99] }
theorem bl_inj {a b : List ByteArray} (h : bl a = bl b) : a = b := by
  unfold bl at h
  refine List.map_inj_right (fun x y e => ?_) |>.1 h
  obtain ⟨x⟩ := x
  obtain ⟨y⟩ := y
  exact congrArg ByteArray.mk (Array.toList_inj.1 e)
theorem may_a : mayL (bl [sa]) = true := by rw [may_iff]; decide
theorem may_bc : mayL (bl [sb, sc]) = true := by rw [may_iff]; decide
theorem len_a : (frameL (bl [sa])).length = 17 := by rw [frameL_len, body_size]; decide
theorem len_bc : (frameL (bl [sb, sc])).length = 22 := by rw [frameL_len, body_size]; decide
theorem scan_abc : scanL (frameL (bl [sa]) ++ frameL (bl [sb, sc]) ++ [9, 0, 0]) = ([bl [sa], bl [sb, sc]], 39) := by
  have h := scanL_rows [bl [sa], bl [sb, sc]] [9, 0, 0] (by intro l hl; simp at hl; rcases hl with rfl | rfl; exact may_a; exact may_bc) (by unfold readL; simp)
  have e : framesL [bl [sa], bl [sb, sc]] = frameL (bl [sa]) ++ frameL (bl [sb, sc]) := by simp [framesL]
  rw [e] at h
  rw [h, List.length_append, len_a, len_bc]
theorem read_a : readL (frameL (bl [sa])) = (bl [sa], 17, 0) := by
  have h := readL_lay (bl [sa]) [] may_a
  rw [List.append_nil, len_a] at h
  exact h
theorem new_rdS (w : World) (ls : List ByteArray) : RdV (w.alloc (.cells (cellsS ls).toArray 9)) (some ⟨w.heap.size, 0, none⟩) (cellsS ls) := fun h0 => by
  refine ⟨_, 0, rfl, by simp, fun j hj => ?_⟩
  have h := heap_alloc_new w (.cells (cellsS ls).toArray 9)
  unfold World.cell?
  rw [h]
  simp [hj]
theorem new_rdB (w : World) (l : List UInt8) : Rd (w.alloc (.cells (cellsB l).toArray 5)) (some ⟨w.heap.size, 0, none⟩) l := by
  refine RdV.rd fun h0 => ⟨_, 0, rfl, by simp, fun j hj => ?_⟩
  have h := heap_alloc_new w (.cells (cellsB l).toArray 5)
  unfold World.cell?
  rw [h]
  simp [hj]
/-- The value of a row of one's own. -/
theorem OwnB.form {w : World} {base n : Nat} {v : Value} {l : List UInt8} (h : OwnB w base v l) (hn : l.length = n) : ∃ A c, v = .slice A n c ∧ n ≤ c ∧ (A = none → c = 0) ∧ Rd w A l := by
  obtain ⟨A, c, hv, h1, h2, _, h3⟩ := h.rd
  exact ⟨A, c, by rw [hv, hn], by omega, h2, h3⟩
/-- How 'Put' ends, from a world further back. -/
theorem PutEnd.back {w0 w : World} {l : List UInt8} {e : Ending} {w' : World} {n : Nat} (h : PutEnd w l e w') (hb : Below w0.heap.size w0 w) (hn : l.length = n) :
    ∃ A c, e = .returned (.tuple #[.slice A n c, .int .i64 0]) ∧ n ≤ c ∧ (A = none → c = 0) ∧ OwnB w' w0.heap.size (.slice A n c) l ∧ Rd w' A l ∧ Below w0.heap.size w0 w' ∧ Below w.heap.size w w' := by
  obtain ⟨v, he, ho, hb'⟩ := h
  obtain ⟨A, c, rfl, h1, h2, h3⟩ := ho.form hn
  exact ⟨A, c, he, h1, h2, ho.down hb.size, h3, hb.trans (hb'.mono hb.size), hb'⟩
theorem ScanEnd.abc {w w' : World} {e : Ending} (h : ScanEnd w (frameL (bl [sa]) ++ frameL (bl [sb, sc]) ++ [9, 0, 0]) e w') :
    ∃ b off c A1 c1, e = .returned (.tuple #[.slice (some ⟨b, off, none⟩) 2 c, .int .i64 39]) ∧ b < w'.heap.size ∧ w'.cell? ⟨b, off + 1, none⟩ = some (.slice A1 2 c1) ∧ RdV w' A1 (cellsS [sb, sc]) ∧ Below w.heap.size w w' := by
  obtain ⟨v, xs, rfl, hs, ho, hi, hb⟩ := h
  obtain ⟨h1, -⟩ := hs
  rw [scan_abc] at h1
  have hl : xs.length = 2 := by have := congrArg List.length h1; simpa using this
  obtain ⟨x0, x1, rfl⟩ : ∃ x0 x1, xs = [x0, x1] := by
    cases xs with
    | nil => simp at hl
    | cons x0 r =>
      cases r with
      | nil => simp at hl
      | cons x1 r2 =>
        cases r2 with
        | nil => exact ⟨_, _, rfl⟩
        | cons x2 r3 => simp at hl
  simp only [List.map_cons, List.map_nil, List.cons.injEq, and_true] at h1
  have e1 := bl_inj h1.2
  obtain ⟨A, c, rfl, hc, hA, -, hr⟩ := own_rdV ho
  obtain ⟨b, off, rfl, hlt, hcell⟩ := hr (by simp)
  obtain ⟨A1, c1, hv, -, -, -, hr1⟩ := own_rdV (hi x1 (by simp))
  refine ⟨b, off, c, A1, c1, by rw [scan_abc]; rfl, hlt, ?_, by rw [← e1]; exact hr1, hb⟩
  rw [hcell 1 (by simp)]
  simp [hv, e1]
theorem ReadEnd.one {w w' : World} {e : Ending} (h : ReadEnd w (frameL (bl [sa])) e w') : ∃ A c, e = .returned (.tuple #[.slice A 1 c, .int .i64 17, .int .i64 0]) ∧ RdV w' A (cellsS [sa]) ∧ Below w.heap.size w w' := by
  obtain ⟨v, ls, rfl, hl, ho, hb⟩ := h
  rw [read_a] at hl
  have e1 := bl_inj hl
  subst e1
  obtain ⟨A, c, rfl, _, _, _, hr⟩ := own_rdV ho
  exact ⟨A, c, by rw [read_a]; rfl, hr, hb⟩
theorem fsz_a : fsz [sa] = 17 := by rw [fsz_yes (by decide) (by decide)]; decide
theorem eq_a : eqS [sa] [sa] = true := by simp [eqS]
theorem eq_bc : eqS [sb, sc] [sb, sc] = true := by simp [eqS]
set_option maxHeartbeats 4000000 in
set_option maxRecDepth 100000 in
theorem works_any (w : World) (hg : Tabs w) (h0 : 0 < w.heap.size) :
    Calls Tryd.prog 11 #[] w fun e w' => e = .returned (.bool true) ∧ Below w.heap.size w w' := by
  have HG := Lib.hid hg
  clear hg
  go_enter Tryd.func11, Tryd.ntmps11
  go_wp2_with fail
  have hb1 := below_new w (.cells (cellsS [sa]).toArray 9)
  refine (put_yes _ 1 1 [sa] _ rfl (new_rdS w [sa]) (HG.out.below h0 hb1) (Nat.lt_of_lt_of_le h0 hb1.size) may_a).mono ?_
  intro e w2 hput
  obtain ⟨A2, c2, rfl, k2, n2, ho2, hr2, hb2, -⟩ := hput.back hb1 len_a
  have HO2 := Lib.hid ho2
  have HB2 := Lib.hid hb2
  have HN2 := Lib.hid n2
  have HR2 := Lib.hid hr2
  have hs2 := hb2.size
  clear hput ho2 hb2 hb1 n2 hr2
  go_wp2_with fail
  have hb3 := below_new w2 (.cells (cellsS [sb, sc]).toArray 9)
  refine (put_yes _ 2 2 [sb, sc] _ rfl (new_rdS w2 [sb, sc]) (HG.out.below h0 (HB2.out.trans (hb3.mono hs2))) (Nat.lt_of_lt_of_le h0 (Nat.le_trans hs2 hb3.size)) may_bc).mono ?_
  intro e w4 hput
  obtain ⟨A4, c4, rfl, k4, n4, ho4, hr4, hb4, -⟩ := hput.back hb3 len_bc
  have HB4 := Lib.hid (HB2.out.trans (hb4.mono hs2))
  have HR24 := Lib.hid (HR2.out.below hb4)
  have HR4 := Lib.hid hr4
  have HN4 := Lib.hid n4
  have hs4 := hb4.size
  clear hput ho4 hb4 hb3 n4 hr4
  go_wp2_with (first
    | (at_builtin; refine wpList_bytes rfl (.tmp 21) (.tmp 22) rfl w4.heap.size _ [] rfl (own_empty w4 5 w4.heap.size (Nat.le_refl _)) A2 17 c2 _ len_a rfl (HR24.out.below (below_new w4 _)) HN2.out k2 (by simp) (by simp) ?_; intro v5 w5 ho5 hb5 hs5; have HB5 := Lib.hid ((below_new w4 (.cells #[] 5)).trans hb5); have hs5' := HB5.out.size; have HR45 := Lib.hid (HR4.out.below HB5.out); have HO5 := Lib.hid ho5; clear ho5 hb5 hs5)
    | (at_builtin; refine wpList_bytes rfl (.tmp 23) (.tmp 24) rfl w4.heap.size v5 _ rfl HO5.out A4 22 c4 _ len_bc rfl HR45.out HN4.out k4 (by rw [List.nil_append, len_a]; omega) hs5' ?_; intro v6 w6 ho6 hb6 hs6; have HB6 := Lib.hid (HB5.out.trans hb6); have hs6' := HB6.out.size; have HO6 := Lib.hid ho6; clear ho6 hb6 hs6)
    | (at_builtin; refine wpList_bytes rfl (.tmp 25) (.tmp 26) rfl w4.heap.size v6 _ rfl (HO6.out.below (below_new w6 _)) (some ⟨w6.heap.size, 0, none⟩) 3 3 [9, 0, 0] rfl rfl (new_rdB w6 [9, 0, 0]) (fun h => by cases h) (Nat.le_refl _) (by rw [List.nil_append, List.length_append, len_a, len_bc]; omega) (by simp; omega) ?_; intro v7 w7 ho7 hb7 hs7; obtain ⟨A7, c7, hv7, k7, n7, hr7⟩ := OwnB.form (n := 42) ho7 (by rw [List.nil_append, List.length_append, List.length_append, len_a, len_bc]; rfl); subst hv7; have HR7 := Lib.hid hr7; have HB7 := Lib.hid ((HB6.out.trans ((below_new w6 (.cells (cellsB [9, 0, 0]).toArray 5)).mono hs6')).trans hb7); have HN7 := Lib.hid n7; clear ho7 hb7 hs7 n7 hr7))
  have HBW := Lib.hid (HB4.out.trans (HB7.out.mono (Nat.le_trans hs2 hs4)))
  have hsw := HBW.out.size
  refine (scan_any A7 42 c7 _ w7 (by rw [List.nil_append, List.length_append, List.length_append, len_a, len_bc]; rfl) k7 (by omega) HN7.out HR7.out (HG.out.below h0 HBW.out) (Nat.lt_of_lt_of_le h0 hsw)).mono ?_
  intro e w8 hscan
  obtain ⟨b, off, c8, A8, c8', rfl, hblt, hcell, hr8, hb8⟩ := ScanEnd.abc hscan
  have HB8 := Lib.hid (HBW.out.trans (hb8.mono hsw))
  have HC8 := Lib.hid hcell
  have HR8 := Lib.hid hr8
  have HRA := Lib.hid ((HR24.out.below HB7.out).below hb8)
  have hs8 := HB8.out.size
  clear hscan hcell hr8 hb8 HBW HR24
  go_wp2_with fail
  refine (fread_any A2 17 c2 _ w8 len_a k2 (by omega) HN2.out HRA.out (HG.out.below h0 HB8.out) (Nat.lt_of_lt_of_le h0 hs8)).mono ?_
  intro e w9 hread
  obtain ⟨A9, c9, rfl, hr9, hb9⟩ := ReadEnd.one hread
  have HB9 := Lib.hid (HB8.out.trans (hb9.mono hs8))
  have hcell9 := (hb9.cell (p := ⟨b, off + 1, none⟩) hblt).trans HC8.out
  have HR8' := Lib.hid (HR8.out.below hb9)
  have HR9 := Lib.hid hr9
  clear hread hr9 hb9
  go_wp2_with fail
  refine (num_any 0 w9).mono ?_
  rintro e w' ⟨rfl, rfl⟩
  go_wp2_with fail
  refine (num_any 0 w9).mono ?_
  rintro e w' ⟨rfl, rfl⟩
  go_wp2_with fail
  refine (num_any 0 w9).mono ?_
  rintro e w' ⟨rfl, rfl⟩
  go_wp2_with fail
  have hb10 := below_new w9 (.cells (cellsS [sb, sc]).toArray 9)
  refine (one_any A8 _ 2 2 c8' 2 [sb, sc] [sb, sc] _ rfl rfl (by omega) (by omega) (HR8'.out.below hb10) (new_rdS w9 [sb, sc])).mono ?_
  rintro e w11 ⟨he, q, rfl⟩
  rw [eq_bc] at he
  subst he
  have hb11 := below_any q hb10
  have HR11 := Lib.hid (HR9.out.below hb11)
  have HB11 := Lib.hid (HB9.out.trans (hb11.mono HB9.out.size))
  generalize hw11 : World.drewN _ q = w11 at *
  clear hw11 hb10 hb11 hcell9
  go_wp2_with fail
  have hb12 := below_new w11 (.cells (cellsS [sa]).toArray 9)
  refine (one_any A9 _ 1 1 c9 1 [sa] [sa] _ rfl rfl (by omega) (by omega) (HR11.out.below hb12) (new_rdS w11 [sa])).mono ?_
  rintro e w13 ⟨he, q', rfl⟩
  rw [eq_a] at he
  subst he
  have hb13 := below_any q' hb12
  have HB13 := Lib.hid (HB11.out.trans (hb13.mono HB11.out.size))
  generalize hw13 : World.drewN _ q' = w13 at *
  clear hw13 hb12 hb13
  go_wp2_with fail
  have hb14 := below_new w13 (.cells (cellsS [sa]).toArray 9)
  refine (fsize_any _ 1 1 [sa] _ rfl (by decide) (new_rdS w13 [sa])).mono ?_
  rintro e w15 ⟨rfl, hb15⟩
  rw [fsz_a]
  have HB15 := Lib.hid ((HB13.out.trans (hb14.mono HB13.out.size)).trans (hb15.mono (Nat.le_trans HB13.out.size hb14.size)))
  clear hb14 hb15
  go_wp2
  go_ret
  exact ⟨rfl, HB15.out⟩
end Go.Proofs.YthbhbjfmlmgeeaaDoor
