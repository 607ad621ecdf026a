/- Two texts or numbers, one behind the other. -/
import Derived.Test.YthbnhplkoomdhaaDoorRefE
import Derived.Test.YthbnhplkoomdhaaDoorQuiet
namespace Go.Proofs.YthbnhplkoomdhaaDoor
open Go Go.RowKit
set_option maxRecDepth 10000 in
set_option maxHeartbeats 2000000 in
theorem join_22 (G ob : Nat) (tb : Value) (c s n n' : Int) (t t' : Array UInt8) (w : World) (hn : Fits n) (hn' : Fits n') (ht : TAB w) (hG : w.heap[G]? = some (.cells #[tb, .int .i64 c, .int .i64 s, .map (some ob)] 51 (0, 0)))
    (V0 : Int) (V1 : Int) (V2 why : Array UInt8) (s' : Int) (hl : ((ByteArray.mk (tl 2 n t)).size : Int) + ((ByteArray.mk (tl 2 n' t')).size : Int) ≤ 2000)
    (hM : ∀ W, W.heap[G]? = some (.cells #[tb, .int .i64 c, .int .i64 s, .map (some ob)] 51 (0, 0)) → Calls Tryd.prog 50 #[.pointer (some ⟨G, 0, none⟩), .string ({ data := tl 2 n t } ++ { data := tl 2 n' t' })] W fun e w' => e = .returned (.tuple #[.agg #[.int .i64 V0, .int .i64 V1, .string { data := V2 }], .string { data := why }]) ∧ w'.heap[G]? = some (.cells #[tb, .int .i64 c, .int .i64 s', .map (some ob)] 51 (0, 0)) ∧ KB G W w') :
    Calls Tryd.prog 33 #[.pointer (some ⟨G, 0, none⟩), .agg #[.int .i64 2, .int .i64 n, .string { data := t }], .agg #[.int .i64 2, .int .i64 n', .string { data := t' }]] w fun e w' => e = .returned (.tuple #[.agg #[.int .i64 V0, .int .i64 V1, .string { data := V2 }], .string { data := why }]) ∧ w'.heap[G]? = some (.cells #[tb, .int .i64 c, .int .i64 s', .map (some ob)] 51 (0, 0)) ∧ KB G w w' := by
  obtain ⟨ha, hb, hc, hB⟩ := three w (.cells #[.int .i64 2, .int .i64 n, .string { data := t }] 24) (.cells #[.int .i64 2, .int .i64 n', .string { data := t' }] 24) (.cells #[.int .i64 0, .int .i64 0, .string { data := #[] }] 24)
  have HA := Lib.hid ha
  have HBB := Lib.hid hb
  have HC := Lib.hid hc
  have HB := Lib.hid hB
  have HM := Lib.hid hM
  have HT := Lib.hid (tab_below ht hB)
  have HG := Lib.hid ((hB.block _ (hlt hG)).trans hG)
  have HGL := Lib.hid (hlt hG)
  have HL := Lib.hid hl
  have HN := Lib.hid hn
  have HN' := Lib.hid hn'
  have hl1 : ((tl 2 n t).size : Int) + ((tl 2 n' t').size : Int) ≤ 2000 := hl
  have hw : wrap64 (((tl 2 n t).size : Int) + ((tl 2 n' t').size : Int)) = ((tl 2 n t).size : Int) + ((tl 2 n' t').size : Int) := by rw [w64]; exact IntWalk.i64_in _ (by omega)
  have hw2 : IntKind.i64.wrap (((tl 2 n t).size : Int) + ((tl 2 n' t').size : Int)) = ((tl 2 n t).size : Int) + ((tl 2 n' t').size : Int) := IntWalk.i64_in _ (by omega)
  clear ha hb hc hB hM ht hG hl hn hn'
  go_enter Tryd.func33, Tryd.ntmps33
  go_wp2_with fail
  generalize (((w.alloc (.cells #[.int .i64 2, .int .i64 n, .string { data := t }] 24)).alloc (.cells #[.int .i64 2, .int .i64 n', .string { data := t' }] 24)).alloc (.cells #[.int .i64 0, .int .i64 0, .string { data := #[] }] 24)) = w3 at *
  have zA : ∀ x : InW (Grown w3), x.w.heap[w.heap.size]? = some (.cells #[.int .i64 2, .int .i64 n, .string { data := t }] 24 (0, 0)) := fun x => (x.h.block _ (hlt HA.out)).trans HA.out
  have zA0 : ∀ x : InW (Grown w3), x.w.cell? ⟨w.heap.size, 0, none⟩ = some (.int .i64 2) := fun x => (box3 (zA x)).1
  have zA1 : ∀ x : InW (Grown w3), x.w.cell? ⟨w.heap.size, 1, none⟩ = some (.int .i64 n) := fun x => (box3 (zA x)).2.1
  have zA2 : ∀ x : InW (Grown w3), x.w.cell? ⟨w.heap.size, 2, none⟩ = some (.string { data := t }) := fun x => (box3 (zA x)).2.2
  have zB : ∀ x : InW (Grown w3), x.w.heap[w.heap.size + 1]? = some (.cells #[.int .i64 2, .int .i64 n', .string { data := t' }] 24 (0, 0)) := fun x => (x.h.block _ (hlt HBB.out)).trans HBB.out
  have zB0 : ∀ x : InW (Grown w3), x.w.cell? ⟨w.heap.size + 1, 0, none⟩ = some (.int .i64 2) := fun x => (box3 (zB x)).1
  have zB1 : ∀ x : InW (Grown w3), x.w.cell? ⟨w.heap.size + 1, 1, none⟩ = some (.int .i64 n') := fun x => (box3 (zB x)).2.1
  have zB2 : ∀ x : InW (Grown w3), x.w.cell? ⟨w.heap.size + 1, 2, none⟩ = some (.string { data := t' }) := fun x => (box3 (zB x)).2.2
  clear zA zB
  have H1 : Hid (∀ x : InW (Grown w3), Calls Tryd.prog 49 #[.agg #[.int .i64 2, .int .i64 n, .string { data := t }]] x.w (RetIn (Grown w3) (.string { data := tl 2 n t }))) := Lib.hid fun x => ret_below (told_any 2 n t x.w (by omega) HN.out (tab_below HT.out x.h))
  have H2 : Hid (∀ x : InW (Grown w3), Calls Tryd.prog 49 #[.agg #[.int .i64 2, .int .i64 n', .string { data := t' }]] x.w (RetIn (Grown w3) (.string { data := tl 2 n' t' }))) := Lib.hid fun x => ret_below (told_any 2 n' t' x.w (by omega) HN'.out (tab_below HT.out x.h))
  have HIN : Nonempty (InW (Grown w3)) := ⟨⟨w3, Below.refl _ _⟩⟩
  refine region_in (Grown w3) (by kernel_rfl) (by kernel_rfl) (Below.refl _ _).drew ?_
  repeat (go_big_quiet_step ((rename_i x; with_reducible (first | exact H1.out x | exact H2.out x))))
  refine wpQuiet_nil ?_
  rintro _ ⟨x, rfl⟩
  have HG4 := Lib.hid ((x.h.block _ (hlt HG.out)).trans HG.out)
  have HC4 := Lib.hid ((x.h.block _ (hlt HC.out)).trans HC.out)
  have HK4 := Lib.hid (KB.of_below G (HB.out.trans (x.h.mono HB.out.size)) HGL.out)
  clear zA0 zA1 zA2 zB0 zB1 zB2 HIN
  generalize x.w = w4 at *
  go_wp2_with fail
  refine (HM.out _ HG4.out).mono ?_
  rintro e w5 ⟨rfl, hG5, hK5⟩
  have hne : w.heap.size + 1 + 1 ≠ G := by have := HGL.out; omega
  have hr5 : w5.heap[w.heap.size + 1 + 1]? = some (.cells #[.int .i64 0, .int .i64 0, .string { data := #[] }] 24 (0, 0)) := (hK5.same _ hne (hlt HC4.out)).trans HC4.out
  have HR5 := Lib.hid hr5
  have HROW := Lib.hid (setRow_at w5 (w.heap.size + 1 + 1) _ #[.int .i64 V0, .int .i64 V1, .string { data := V2 }] 24 (0, 0) hr5)
  have HGF := Lib.hid ((setRow_other w5 (w.heap.size + 1 + 1) G #[.int .i64 V0, .int .i64 V1, .string { data := V2 }] hne).trans hG5)
  have HKF := Lib.hid ((HK4.out.trans hK5).addRow (g := w.heap.size + 1 + 1) #[.int .i64 V0, .int .i64 V1, .string { data := V2 }] (by omega))
  clear hr5 hG5 hK5
  go_wp2_with (refine wpList_store_row rfl 24 (.tmp 6) (.tmp 45) rfl (w.heap.size + 1 + 1) #[.int .i64 V0, .int .i64 V1, .string { data := V2 }] rfl rfl 24 _ HR5.out (by rw [size24]; rfl) rfl (by simp [Value.oneCell']) ?_)
  exact bodyPost_ret (v := .tuple #[.agg #[.int .i64 V0, .int .i64 V1, .string { data := V2 }], .string { data := why }]) (res33 _ _ (w.heap.size + 1 + 1) _ rfl HROW.out) rfl ⟨rfl, HGF.out, HKF.out⟩

set_option maxRecDepth 10000 in
set_option maxHeartbeats 2000000 in
theorem join_23 (G ob : Nat) (tb : Value) (c s n n' : Int) (t t' : Array UInt8) (w : World) (hn : Fits n) (hn' : Fits n') (ht : TAB w) (hG : w.heap[G]? = some (.cells #[tb, .int .i64 c, .int .i64 s, .map (some ob)] 51 (0, 0)))
    (V0 : Int) (V1 : Int) (V2 why : Array UInt8) (s' : Int) (hl : ((ByteArray.mk (tl 2 n t)).size : Int) + ((ByteArray.mk (tl 3 n' t')).size : Int) ≤ 2000)
    (hM : ∀ W, W.heap[G]? = some (.cells #[tb, .int .i64 c, .int .i64 s, .map (some ob)] 51 (0, 0)) → Calls Tryd.prog 50 #[.pointer (some ⟨G, 0, none⟩), .string ({ data := tl 2 n t } ++ { data := tl 3 n' t' })] W fun e w' => e = .returned (.tuple #[.agg #[.int .i64 V0, .int .i64 V1, .string { data := V2 }], .string { data := why }]) ∧ w'.heap[G]? = some (.cells #[tb, .int .i64 c, .int .i64 s', .map (some ob)] 51 (0, 0)) ∧ KB G W w') :
    Calls Tryd.prog 33 #[.pointer (some ⟨G, 0, none⟩), .agg #[.int .i64 2, .int .i64 n, .string { data := t }], .agg #[.int .i64 3, .int .i64 n', .string { data := t' }]] w fun e w' => e = .returned (.tuple #[.agg #[.int .i64 V0, .int .i64 V1, .string { data := V2 }], .string { data := why }]) ∧ w'.heap[G]? = some (.cells #[tb, .int .i64 c, .int .i64 s', .map (some ob)] 51 (0, 0)) ∧ KB G w w' := by
  obtain ⟨ha, hb, hc, hB⟩ := three w (.cells #[.int .i64 2, .int .i64 n, .string { data := t }] 24) (.cells #[.int .i64 3, .int .i64 n', .string { data := t' }] 24) (.cells #[.int .i64 0, .int .i64 0, .string { data := #[] }] 24)
  have HA := Lib.hid ha
  have HBB := Lib.hid hb
  have HC := Lib.hid hc
  have HB := Lib.hid hB
  have HM := Lib.hid hM
  have HT := Lib.hid (tab_below ht hB)
  have HG := Lib.hid ((hB.block _ (hlt hG)).trans hG)
  have HGL := Lib.hid (hlt hG)
  have HL := Lib.hid hl
  have HN := Lib.hid hn
  have HN' := Lib.hid hn'
  have hl1 : ((tl 2 n t).size : Int) + ((tl 3 n' t').size : Int) ≤ 2000 := hl
  have hw : wrap64 (((tl 2 n t).size : Int) + ((tl 3 n' t').size : Int)) = ((tl 2 n t).size : Int) + ((tl 3 n' t').size : Int) := by rw [w64]; exact IntWalk.i64_in _ (by omega)
  have hw2 : IntKind.i64.wrap (((tl 2 n t).size : Int) + ((tl 3 n' t').size : Int)) = ((tl 2 n t).size : Int) + ((tl 3 n' t').size : Int) := IntWalk.i64_in _ (by omega)
  clear ha hb hc hB hM ht hG hl hn hn'
  go_enter Tryd.func33, Tryd.ntmps33
  go_wp2_with fail
  generalize (((w.alloc (.cells #[.int .i64 2, .int .i64 n, .string { data := t }] 24)).alloc (.cells #[.int .i64 3, .int .i64 n', .string { data := t' }] 24)).alloc (.cells #[.int .i64 0, .int .i64 0, .string { data := #[] }] 24)) = w3 at *
  have zA : ∀ x : InW (Grown w3), x.w.heap[w.heap.size]? = some (.cells #[.int .i64 2, .int .i64 n, .string { data := t }] 24 (0, 0)) := fun x => (x.h.block _ (hlt HA.out)).trans HA.out
  have zA0 : ∀ x : InW (Grown w3), x.w.cell? ⟨w.heap.size, 0, none⟩ = some (.int .i64 2) := fun x => (box3 (zA x)).1
  have zA1 : ∀ x : InW (Grown w3), x.w.cell? ⟨w.heap.size, 1, none⟩ = some (.int .i64 n) := fun x => (box3 (zA x)).2.1
  have zA2 : ∀ x : InW (Grown w3), x.w.cell? ⟨w.heap.size, 2, none⟩ = some (.string { data := t }) := fun x => (box3 (zA x)).2.2
  have zB : ∀ x : InW (Grown w3), x.w.heap[w.heap.size + 1]? = some (.cells #[.int .i64 3, .int .i64 n', .string { data := t' }] 24 (0, 0)) := fun x => (x.h.block _ (hlt HBB.out)).trans HBB.out
  have zB0 : ∀ x : InW (Grown w3), x.w.cell? ⟨w.heap.size + 1, 0, none⟩ = some (.int .i64 3) := fun x => (box3 (zB x)).1
  have zB1 : ∀ x : InW (Grown w3), x.w.cell? ⟨w.heap.size + 1, 1, none⟩ = some (.int .i64 n') := fun x => (box3 (zB x)).2.1
  have zB2 : ∀ x : InW (Grown w3), x.w.cell? ⟨w.heap.size + 1, 2, none⟩ = some (.string { data := t' }) := fun x => (box3 (zB x)).2.2
  clear zA zB
  have H1 : Hid (∀ x : InW (Grown w3), Calls Tryd.prog 49 #[.agg #[.int .i64 2, .int .i64 n, .string { data := t }]] x.w (RetIn (Grown w3) (.string { data := tl 2 n t }))) := Lib.hid fun x => ret_below (told_any 2 n t x.w (by omega) HN.out (tab_below HT.out x.h))
  have H2 : Hid (∀ x : InW (Grown w3), Calls Tryd.prog 49 #[.agg #[.int .i64 3, .int .i64 n', .string { data := t' }]] x.w (RetIn (Grown w3) (.string { data := tl 3 n' t' }))) := Lib.hid fun x => ret_below (told_any 3 n' t' x.w (by omega) HN'.out (tab_below HT.out x.h))
  have HIN : Nonempty (InW (Grown w3)) := ⟨⟨w3, Below.refl _ _⟩⟩
  refine region_in (Grown w3) (by kernel_rfl) (by kernel_rfl) (Below.refl _ _).drew ?_
  repeat (go_big_quiet_step ((rename_i x; with_reducible (first | exact H1.out x | exact H2.out x))))
  refine wpQuiet_nil ?_
  rintro _ ⟨x, rfl⟩
  have HG4 := Lib.hid ((x.h.block _ (hlt HG.out)).trans HG.out)
  have HC4 := Lib.hid ((x.h.block _ (hlt HC.out)).trans HC.out)
  have HK4 := Lib.hid (KB.of_below G (HB.out.trans (x.h.mono HB.out.size)) HGL.out)
  clear zA0 zA1 zA2 zB0 zB1 zB2 HIN
  generalize x.w = w4 at *
  go_wp2_with fail
  refine (HM.out _ HG4.out).mono ?_
  rintro e w5 ⟨rfl, hG5, hK5⟩
  have hne : w.heap.size + 1 + 1 ≠ G := by have := HGL.out; omega
  have hr5 : w5.heap[w.heap.size + 1 + 1]? = some (.cells #[.int .i64 0, .int .i64 0, .string { data := #[] }] 24 (0, 0)) := (hK5.same _ hne (hlt HC4.out)).trans HC4.out
  have HR5 := Lib.hid hr5
  have HROW := Lib.hid (setRow_at w5 (w.heap.size + 1 + 1) _ #[.int .i64 V0, .int .i64 V1, .string { data := V2 }] 24 (0, 0) hr5)
  have HGF := Lib.hid ((setRow_other w5 (w.heap.size + 1 + 1) G #[.int .i64 V0, .int .i64 V1, .string { data := V2 }] hne).trans hG5)
  have HKF := Lib.hid ((HK4.out.trans hK5).addRow (g := w.heap.size + 1 + 1) #[.int .i64 V0, .int .i64 V1, .string { data := V2 }] (by omega))
  clear hr5 hG5 hK5
  go_wp2_with (refine wpList_store_row rfl 24 (.tmp 6) (.tmp 45) rfl (w.heap.size + 1 + 1) #[.int .i64 V0, .int .i64 V1, .string { data := V2 }] rfl rfl 24 _ HR5.out (by rw [size24]; rfl) rfl (by simp [Value.oneCell']) ?_)
  exact bodyPost_ret (v := .tuple #[.agg #[.int .i64 V0, .int .i64 V1, .string { data := V2 }], .string { data := why }]) (res33 _ _ (w.heap.size + 1 + 1) _ rfl HROW.out) rfl ⟨rfl, HGF.out, HKF.out⟩

set_option maxRecDepth 10000 in
set_option maxHeartbeats 2000000 in
theorem join_32 (G ob : Nat) (tb : Value) (c s n n' : Int) (t t' : Array UInt8) (w : World) (hn : Fits n) (hn' : Fits n') (ht : TAB w) (hG : w.heap[G]? = some (.cells #[tb, .int .i64 c, .int .i64 s, .map (some ob)] 51 (0, 0)))
    (V0 : Int) (V1 : Int) (V2 why : Array UInt8) (s' : Int) (hl : ((ByteArray.mk (tl 3 n t)).size : Int) + ((ByteArray.mk (tl 2 n' t')).size : Int) ≤ 2000)
    (hM : ∀ W, W.heap[G]? = some (.cells #[tb, .int .i64 c, .int .i64 s, .map (some ob)] 51 (0, 0)) → Calls Tryd.prog 50 #[.pointer (some ⟨G, 0, none⟩), .string ({ data := tl 3 n t } ++ { data := tl 2 n' t' })] W fun e w' => e = .returned (.tuple #[.agg #[.int .i64 V0, .int .i64 V1, .string { data := V2 }], .string { data := why }]) ∧ w'.heap[G]? = some (.cells #[tb, .int .i64 c, .int .i64 s', .map (some ob)] 51 (0, 0)) ∧ KB G W w') :
    Calls Tryd.prog 33 #[.pointer (some ⟨G, 0, none⟩), .agg #[.int .i64 3, .int .i64 n, .string { data := t }], .agg #[.int .i64 2, .int .i64 n', .string { data := t' }]] w fun e w' => e = .returned (.tuple #[.agg #[.int .i64 V0, .int .i64 V1, .string { data := V2 }], .string { data := why }]) ∧ w'.heap[G]? = some (.cells #[tb, .int .i64 c, .int .i64 s', .map (some ob)] 51 (0, 0)) ∧ KB G w w' := by
  obtain ⟨ha, hb, hc, hB⟩ := three w (.cells #[.int .i64 3, .int .i64 n, .string { data := t }] 24) (.cells #[.int .i64 2, .int .i64 n', .string { data := t' }] 24) (.cells #[.int .i64 0, .int .i64 0, .string { data := #[] }] 24)
  have HA := Lib.hid ha
  have HBB := Lib.hid hb
  have HC := Lib.hid hc
  have HB := Lib.hid hB
  have HM := Lib.hid hM
  have HT := Lib.hid (tab_below ht hB)
  have HG := Lib.hid ((hB.block _ (hlt hG)).trans hG)
  have HGL := Lib.hid (hlt hG)
  have HL := Lib.hid hl
  have HN := Lib.hid hn
  have HN' := Lib.hid hn'
  have hl1 : ((tl 3 n t).size : Int) + ((tl 2 n' t').size : Int) ≤ 2000 := hl
  have hw : wrap64 (((tl 3 n t).size : Int) + ((tl 2 n' t').size : Int)) = ((tl 3 n t).size : Int) + ((tl 2 n' t').size : Int) := by rw [w64]; exact IntWalk.i64_in _ (by omega)
  have hw2 : IntKind.i64.wrap (((tl 3 n t).size : Int) + ((tl 2 n' t').size : Int)) = ((tl 3 n t).size : Int) + ((tl 2 n' t').size : Int) := IntWalk.i64_in _ (by omega)
  clear ha hb hc hB hM ht hG hl hn hn'
  go_enter Tryd.func33, Tryd.ntmps33
  go_wp2_with fail
  generalize (((w.alloc (.cells #[.int .i64 3, .int .i64 n, .string { data := t }] 24)).alloc (.cells #[.int .i64 2, .int .i64 n', .string { data := t' }] 24)).alloc (.cells #[.int .i64 0, .int .i64 0, .string { data := #[] }] 24)) = w3 at *
  have zA : ∀ x : InW (Grown w3), x.w.heap[w.heap.size]? = some (.cells #[.int .i64 3, .int .i64 n, .string { data := t }] 24 (0, 0)) := fun x => (x.h.block _ (hlt HA.out)).trans HA.out
  have zA0 : ∀ x : InW (Grown w3), x.w.cell? ⟨w.heap.size, 0, none⟩ = some (.int .i64 3) := fun x => (box3 (zA x)).1
  have zA1 : ∀ x : InW (Grown w3), x.w.cell? ⟨w.heap.size, 1, none⟩ = some (.int .i64 n) := fun x => (box3 (zA x)).2.1
  have zA2 : ∀ x : InW (Grown w3), x.w.cell? ⟨w.heap.size, 2, none⟩ = some (.string { data := t }) := fun x => (box3 (zA x)).2.2
  have zB : ∀ x : InW (Grown w3), x.w.heap[w.heap.size + 1]? = some (.cells #[.int .i64 2, .int .i64 n', .string { data := t' }] 24 (0, 0)) := fun x => (x.h.block _ (hlt HBB.out)).trans HBB.out
  have zB0 : ∀ x : InW (Grown w3), x.w.cell? ⟨w.heap.size + 1, 0, none⟩ = some (.int .i64 2) := fun x => (box3 (zB x)).1
  have zB1 : ∀ x : InW (Grown w3), x.w.cell? ⟨w.heap.size + 1, 1, none⟩ = some (.int .i64 n') := fun x => (box3 (zB x)).2.1
  have zB2 : ∀ x : InW (Grown w3), x.w.cell? ⟨w.heap.size + 1, 2, none⟩ = some (.string { data := t' }) := fun x => (box3 (zB x)).2.2
  clear zA zB
  have H1 : Hid (∀ x : InW (Grown w3), Calls Tryd.prog 49 #[.agg #[.int .i64 3, .int .i64 n, .string { data := t }]] x.w (RetIn (Grown w3) (.string { data := tl 3 n t }))) := Lib.hid fun x => ret_below (told_any 3 n t x.w (by omega) HN.out (tab_below HT.out x.h))
  have H2 : Hid (∀ x : InW (Grown w3), Calls Tryd.prog 49 #[.agg #[.int .i64 2, .int .i64 n', .string { data := t' }]] x.w (RetIn (Grown w3) (.string { data := tl 2 n' t' }))) := Lib.hid fun x => ret_below (told_any 2 n' t' x.w (by omega) HN'.out (tab_below HT.out x.h))
  have HIN : Nonempty (InW (Grown w3)) := ⟨⟨w3, Below.refl _ _⟩⟩
  refine region_in (Grown w3) (by kernel_rfl) (by kernel_rfl) (Below.refl _ _).drew ?_
  repeat (go_big_quiet_step ((rename_i x; with_reducible (first | exact H1.out x | exact H2.out x))))
  refine wpQuiet_nil ?_
  rintro _ ⟨x, rfl⟩
  have HG4 := Lib.hid ((x.h.block _ (hlt HG.out)).trans HG.out)
  have HC4 := Lib.hid ((x.h.block _ (hlt HC.out)).trans HC.out)
  have HK4 := Lib.hid (KB.of_below G (HB.out.trans (x.h.mono HB.out.size)) HGL.out)
  clear zA0 zA1 zA2 zB0 zB1 zB2 HIN
  generalize x.w = w4 at *
  go_wp2_with fail
  refine (HM.out _ HG4.out).mono ?_
  rintro e w5 ⟨rfl, hG5, hK5⟩
  have hne : w.heap.size + 1 + 1 ≠ G := by have := HGL.out; omega
  have hr5 : w5.heap[w.heap.size + 1 + 1]? = some (.cells #[.int .i64 0, .int .i64 0, .string { data := #[] }] 24 (0, 0)) := (hK5.same _ hne (hlt HC4.out)).trans HC4.out
  have HR5 := Lib.hid hr5
  have HROW := Lib.hid (setRow_at w5 (w.heap.size + 1 + 1) _ #[.int .i64 V0, .int .i64 V1, .string { data := V2 }] 24 (0, 0) hr5)
  have HGF := Lib.hid ((setRow_other w5 (w.heap.size + 1 + 1) G #[.int .i64 V0, .int .i64 V1, .string { data := V2 }] hne).trans hG5)
  have HKF := Lib.hid ((HK4.out.trans hK5).addRow (g := w.heap.size + 1 + 1) #[.int .i64 V0, .int .i64 V1, .string { data := V2 }] (by omega))
  clear hr5 hG5 hK5
  go_wp2_with (refine wpList_store_row rfl 24 (.tmp 6) (.tmp 45) rfl (w.heap.size + 1 + 1) #[.int .i64 V0, .int .i64 V1, .string { data := V2 }] rfl rfl 24 _ HR5.out (by rw [size24]; rfl) rfl (by simp [Value.oneCell']) ?_)
  exact bodyPost_ret (v := .tuple #[.agg #[.int .i64 V0, .int .i64 V1, .string { data := V2 }], .string { data := why }]) (res33 _ _ (w.heap.size + 1 + 1) _ rfl HROW.out) rfl ⟨rfl, HGF.out, HKF.out⟩

set_option maxRecDepth 10000 in
set_option maxHeartbeats 2000000 in
theorem join_33 (G ob : Nat) (tb : Value) (c s n n' : Int) (t t' : Array UInt8) (w : World) (hn : Fits n) (hn' : Fits n') (ht : TAB w) (hG : w.heap[G]? = some (.cells #[tb, .int .i64 c, .int .i64 s, .map (some ob)] 51 (0, 0)))
    (V0 : Int) (V1 : Int) (V2 why : Array UInt8) (s' : Int) (hl : ((ByteArray.mk (tl 3 n t)).size : Int) + ((ByteArray.mk (tl 3 n' t')).size : Int) ≤ 2000)
    (hM : ∀ W, W.heap[G]? = some (.cells #[tb, .int .i64 c, .int .i64 s, .map (some ob)] 51 (0, 0)) → Calls Tryd.prog 50 #[.pointer (some ⟨G, 0, none⟩), .string ({ data := tl 3 n t } ++ { data := tl 3 n' t' })] W fun e w' => e = .returned (.tuple #[.agg #[.int .i64 V0, .int .i64 V1, .string { data := V2 }], .string { data := why }]) ∧ w'.heap[G]? = some (.cells #[tb, .int .i64 c, .int .i64 s', .map (some ob)] 51 (0, 0)) ∧ KB G W w') :
    Calls Tryd.prog 33 #[.pointer (some ⟨G, 0, none⟩), .agg #[.int .i64 3, .int .i64 n, .string { data := t }], .agg #[.int .i64 3, .int .i64 n', .string { data := t' }]] w fun e w' => e = .returned (.tuple #[.agg #[.int .i64 V0, .int .i64 V1, .string { data := V2 }], .string { data := why }]) ∧ w'.heap[G]? = some (.cells #[tb, .int .i64 c, .int .i64 s', .map (some ob)] 51 (0, 0)) ∧ KB G w w' := by
  obtain ⟨ha, hb, hc, hB⟩ := three w (.cells #[.int .i64 3, .int .i64 n, .string { data := t }] 24) (.cells #[.int .i64 3, .int .i64 n', .string { data := t' }] 24) (.cells #[.int .i64 0, .int .i64 0, .string { data := #[] }] 24)
  have HA := Lib.hid ha
  have HBB := Lib.hid hb
  have HC := Lib.hid hc
  have HB := Lib.hid hB
  have HM := Lib.hid hM
  have HT := Lib.hid (tab_below ht hB)
  have HG := Lib.hid ((hB.block _ (hlt hG)).trans hG)
  have HGL := Lib.hid (hlt hG)
  have HL := Lib.hid hl
  have HN := Lib.hid hn
  have HN' := Lib.hid hn'
  have hl1 : ((tl 3 n t).size : Int) + ((tl 3 n' t').size : Int) ≤ 2000 := hl
  have hw : wrap64 (((tl 3 n t).size : Int) + ((tl 3 n' t').size : Int)) = ((tl 3 n t).size : Int) + ((tl 3 n' t').size : Int) := by rw [w64]; exact IntWalk.i64_in _ (by omega)
  have hw2 : IntKind.i64.wrap (((tl 3 n t).size : Int) + ((tl 3 n' t').size : Int)) = ((tl 3 n t).size : Int) + ((tl 3 n' t').size : Int) := IntWalk.i64_in _ (by omega)
  clear ha hb hc hB hM ht hG hl hn hn'
  go_enter Tryd.func33, Tryd.ntmps33
  go_wp2_with fail
  generalize (((w.alloc (.cells #[.int .i64 3, .int .i64 n, .string { data := t }] 24)).alloc (.cells #[.int .i64 3, .int .i64 n', .string { data := t' }] 24)).alloc (.cells #[.int .i64 0, .int .i64 0, .string { data := #[] }] 24)) = w3 at *
  have zA : ∀ x : InW (Grown w3), x.w.heap[w.heap.size]? = some (.cells #[.int .i64 3, .int .i64 n, .string { data := t }] 24 (0, 0)) := fun x => (x.h.block _ (hlt HA.out)).trans HA.out
  have zA0 : ∀ x : InW (Grown w3), x.w.cell? ⟨w.heap.size, 0, none⟩ = some (.int .i64 3) := fun x => (box3 (zA x)).1
  have zA1 : ∀ x : InW (Grown w3), x.w.cell? ⟨w.heap.size, 1, none⟩ = some (.int .i64 n) := fun x => (box3 (zA x)).2.1
  have zA2 : ∀ x : InW (Grown w3), x.w.cell? ⟨w.heap.size, 2, none⟩ = some (.string { data := t }) := fun x => (box3 (zA x)).2.2
  have zB : ∀ x : InW (Grown w3), x.w.heap[w.heap.size + 1]? = some (.cells #[.int .i64 3, .int .i64 n', .string { data := t' }] 24 (0, 0)) := fun x => (x.h.block _ (hlt HBB.out)).trans HBB.out
  have zB0 : ∀ x : InW (Grown w3), x.w.cell? ⟨w.heap.size + 1, 0, none⟩ = some (.int .i64 3) := fun x => (box3 (zB x)).1
  have zB1 : ∀ x : InW (Grown w3), x.w.cell? ⟨w.heap.size + 1, 1, none⟩ = some (.int .i64 n') := fun x => (box3 (zB x)).2.1
  have zB2 : ∀ x : InW (Grown w3), x.w.cell? ⟨w.heap.size + 1, 2, none⟩ = some (.string { data := t' }) := fun x => (box3 (zB x)).2.2
  clear zA zB
  have H1 : Hid (∀ x : InW (Grown w3), Calls Tryd.prog 49 #[.agg #[.int .i64 3, .int .i64 n, .string { data := t }]] x.w (RetIn (Grown w3) (.string { data := tl 3 n t }))) := Lib.hid fun x => ret_below (told_any 3 n t x.w (by omega) HN.out (tab_below HT.out x.h))
  have H2 : Hid (∀ x : InW (Grown w3), Calls Tryd.prog 49 #[.agg #[.int .i64 3, .int .i64 n', .string { data := t' }]] x.w (RetIn (Grown w3) (.string { data := tl 3 n' t' }))) := Lib.hid fun x => ret_below (told_any 3 n' t' x.w (by omega) HN'.out (tab_below HT.out x.h))
  have HIN : Nonempty (InW (Grown w3)) := ⟨⟨w3, Below.refl _ _⟩⟩
  refine region_in (Grown w3) (by kernel_rfl) (by kernel_rfl) (Below.refl _ _).drew ?_
  repeat (go_big_quiet_step ((rename_i x; with_reducible (first | exact H1.out x | exact H2.out x))))
  refine wpQuiet_nil ?_
  rintro _ ⟨x, rfl⟩
  have HG4 := Lib.hid ((x.h.block _ (hlt HG.out)).trans HG.out)
  have HC4 := Lib.hid ((x.h.block _ (hlt HC.out)).trans HC.out)
  have HK4 := Lib.hid (KB.of_below G (HB.out.trans (x.h.mono HB.out.size)) HGL.out)
  clear zA0 zA1 zA2 zB0 zB1 zB2 HIN
  generalize x.w = w4 at *
  go_wp2_with fail
  refine (HM.out _ HG4.out).mono ?_
  rintro e w5 ⟨rfl, hG5, hK5⟩
  have hne : w.heap.size + 1 + 1 ≠ G := by have := HGL.out; omega
  have hr5 : w5.heap[w.heap.size + 1 + 1]? = some (.cells #[.int .i64 0, .int .i64 0, .string { data := #[] }] 24 (0, 0)) := (hK5.same _ hne (hlt HC4.out)).trans HC4.out
  have HR5 := Lib.hid hr5
  have HROW := Lib.hid (setRow_at w5 (w.heap.size + 1 + 1) _ #[.int .i64 V0, .int .i64 V1, .string { data := V2 }] 24 (0, 0) hr5)
  have HGF := Lib.hid ((setRow_other w5 (w.heap.size + 1 + 1) G #[.int .i64 V0, .int .i64 V1, .string { data := V2 }] hne).trans hG5)
  have HKF := Lib.hid ((HK4.out.trans hK5).addRow (g := w.heap.size + 1 + 1) #[.int .i64 V0, .int .i64 V1, .string { data := V2 }] (by omega))
  clear hr5 hG5 hK5
  go_wp2_with (refine wpList_store_row rfl 24 (.tmp 6) (.tmp 45) rfl (w.heap.size + 1 + 1) #[.int .i64 V0, .int .i64 V1, .string { data := V2 }] rfl rfl 24 _ HR5.out (by rw [size24]; rfl) rfl (by simp [Value.oneCell']) ?_)
  exact bodyPost_ret (v := .tuple #[.agg #[.int .i64 V0, .int .i64 V1, .string { data := V2 }], .string { data := why }]) (res33 _ _ (w.heap.size + 1 + 1) _ rfl HROW.out) rfl ⟨rfl, HGF.out, HKF.out⟩
end Go.Proofs.YthbnhplkoomdhaaDoor
