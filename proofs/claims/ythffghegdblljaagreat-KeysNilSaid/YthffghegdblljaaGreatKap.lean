/- A text is put into an empty keyspace. -/
import Derived.Test.YthffghegdblljaaGreatKfn
import Derived.Deep.CutRange
namespace Go.Proofs.YthffghegdblljaaGreat
open Go Go.RowKit
attribute [local go_sem] Oper.semAt_some
abbrev sA : ByteArray := { data := #[97] }
abbrev sX : ByteArray := { data := #[120] }
abbrev sE : ByteArray := { data := #[] }
abbrev opV2 : Array Value := #[.int .i64 2, .bool false, .int .i64 0, .func (.func 80) #[] #[], .func (.func 82) #[] #[]]
set_option maxRecDepth 200000 in
theorem fits_known (w : World) : Calls Tryz.prog 104 #[.agg opV2, .agg (efV 2 sA sE sX 0)] w fun e w' => e = .returned (.int .i64 0) ∧ Below w.heap.size w w' := by
  have hb1 := below_new w (.cells opV2 104)
  have hb2 := hb1.trans ((below_new (w.alloc (.cells opV2 104)) (.cells (efV 2 sA sE sX 0) 50)).mono hb1.size)
  have HB := Lib.hid hb2
  clear hb1 hb2
  go_enter Tryz.func104, Tryz.ntmps104
  go_wp2
  go_ret
  exact ⟨rfl, HB.out⟩
def ent1 (h : Nat) : MapEntry := { key := .string sA, val := .pointer (some ⟨h, 0, none⟩), born := 0 }
theorem len72 (W : World) (m : Nat) (h : W.heap[m]? = some (.map #[] 0)) (ty : TypeId) : (Builtin.len_ #[72] ty #[.map (some m)]).run Tryz.prog W = .ok (.int .i64 0) W := by
  simp [Builtin.len_, run_underlying Tryz.underlying72, MapKept.run_getObj_map h, Result.andThen]
  rfl
theorem look72 (W : World) (m : Nat) (h : W.heap[m]? = some (.map #[] 0)) : (Instr.lookup 72 (.map (some m)) (.string sA) false).run Tryz.prog W = .ok (.pointer none) W :=
  look_not Tryz.underlying72 Tryz.underlying9 h (by kernel_rfl) (by kernel_rfl)
theorem put72 (W : World) (m : Nat) (v : Value) (h : W.heap[m]? = some (.map #[] 0)) : (Instr.mapUpdate 72 (.map (some m)) (.string sA) v).run Tryz.prog W = .ok () (putMap W m (.map #[{ key := .string sA, val := v, born := 0 }] 1)) :=
  put_new Tryz.underlying72 Tryz.underlying9 h v (by kernel_rfl)
theorem op_cells {W : World} {b : Nat} (h : W.heap[b]? = some (.cells opV2 104 (0, 0))) : W.cell? ⟨b, 0, none⟩ = some (.int .i64 2) ∧ W.cell? ⟨b, 1, none⟩ = some (.bool false) ∧ W.cell? ⟨b, 2, none⟩ = some (.int .i64 0) ∧ W.cell? ⟨b, 3, none⟩ = some (.func (.func 80) #[] #[]) ∧ W.cell? ⟨b, 4, none⟩ = some (.func (.func 82) #[] #[]) := by
  refine ⟨?_, ?_, ?_, ?_, ?_⟩ <;> (simp only [World.cell?, h]; rfl)
theorem ef_cells {W : World} {b : Nat} {o : Int} {k n t : ByteArray} {i : Int} (h : W.heap[b]? = some (.cells (efV o k n t i) 50 (0, 0))) : W.cell? ⟨b, 0, none⟩ = some (.int .i64 o) ∧ W.cell? ⟨b, 1, none⟩ = some (.string k) ∧ W.cell? ⟨b, 2, none⟩ = some (.string n) ∧ W.cell? ⟨b, 3, none⟩ = some (.string t) ∧ W.cell? ⟨b, 4, none⟩ = some (.int .i64 i) := by
  refine ⟨?_, ?_, ?_, ?_, ?_⟩ <;> (simp only [World.cell?, h]; rfl)
set_option maxRecDepth 200000 in
set_option maxHeartbeats 4000000 in
theorem apply_known (g m : Nat) (w : World) (hg : KB w g m) (hm : w.heap[m]? = some (.map #[] 0)) :
    Calls Tryz.prog 56 #[.pointer (some ⟨g, 0, none⟩), .agg opV2, .agg (efV 2 sA sE sX 0)] w fun e w' => e = .returned (.int .i64 0) ∧ ∃ h, KB w' g m ∧ w'.heap[m]? = some (.map #[ent1 h] 1) ∧ TH w' h 1 sX ∧ (∀ B v, B ≤ m → Below B v w → Below B v w') := by
  have hb1 := below_new w (.cells opV2 104)
  have hn1 := heap_alloc_new w (.cells opV2 104)
  have hs1 : (w.alloc (.cells opV2 104)).heap.size = w.heap.size + 1 := by simp
  have hb2 := hb1.trans ((below_new (w.alloc (.cells opV2 104)) (.cells (efV 2 sA sE sX 0) 50)).mono hb1.size)
  have hn2 := heap_alloc_new (w.alloc (.cells opV2 104)) (.cells (efV 2 sA sE sX 0) 50)
  have hn1' := ((below_new (w.alloc (.cells opV2 104)) (.cells (efV 2 sA sE sX 0) 50)).block w.heap.size (by omega)).trans hn1
  rw [hs1] at hn2
  have hs2 : ((w.alloc (.cells opV2 104)).alloc (.cells (efV 2 sA sE sX 0) 50)).heap.size = w.heap.size + 2 := by simp
  have HB2 := Lib.hid hb2
  have HN1 := Lib.hid hn1'
  have HN2 := Lib.hid hn2
  have HS2 := Lib.hid hs2
  have HG := Lib.hid hg
  have HM := Lib.hid hm
  clear hb1 hb2 hn1 hn1' hn2 hs1 hs2 hg hm
  go_enter Tryz.func56, Tryz.ntmps56
  go_upto_region 1 with (fail)
  generalize (w.alloc (.cells opV2 104)).alloc (.cells (efV 2 sA sE sX 0) 50) = w2 at *
  have HF := Lib.hid (fits_known w2)
  obtain ⟨o0, o1, o2, o3, o4⟩ := op_cells HN1.out
  obtain ⟨e0, e1, e2, e3, e4⟩ := ef_cells HN2.out
  go_wp2_with fail
  refine HF.out.mono ?_
  rintro e w3 ⟨rfl, hb3⟩
  have HB3 := Lib.hid hb3
  clear hb3 HF o0 o1 o2 o3 o4 e0 e1 e2 e3 e4
  have HG3 : Hid (KB w3 g m) := Lib.hid ((HB3.out.block g (Nat.lt_of_lt_of_le (hlt HG.out) HB2.out.size)).trans ((HB2.out.block g (hlt HG.out)).trans HG.out))
  have HM3 : Hid (w3.heap[m]? = some (.map #[] 0)) := Lib.hid ((HB3.out.block m (Nat.lt_of_lt_of_le (hlt HM.out) HB2.out.size)).trans ((HB2.out.block m (hlt HM.out)).trans HM.out))
  have HO3 : Hid (w3.heap[w.heap.size]? = some (.cells opV2 104 (0, 0))) := Lib.hid ((HB3.out.block _ (hlt HN1.out)).trans HN1.out)
  have HE3 : Hid (w3.heap[w.heap.size + 1]? = some (.cells (efV 2 sA sE sX 0) 50 (0, 0))) := Lib.hid ((HB3.out.block _ (hlt HN2.out)).trans HN2.out)
  have HW3 : Hid (∀ B v, B ≤ m → Below B v w → Below B v w3) := Lib.hid (fun B v hB hv => (hv.trans (HB2.out.mono (by have := hlt HM.out; omega))).trans (HB3.out.mono (by have := hlt HM.out; have := HB2.out.size; omega)))
  have hz3 : w.heap.size + 2 ≤ w3.heap.size := by have := HB3.out.size; have := HS2.out; omega
  have HZ3 := Lib.hid hz3
  have HLM := Lib.hid (hlt HM.out)
  clear HB3 HB2 HN1 HN2 HS2 HG HM hz3
  generalize w.heap.size = z at *
  go_upto_region 4 with (fail)
  have c0 := cell1 HG3.out
  obtain ⟨e0, e1, e2, e3, e4⟩ := ef_cells HE3.out
  have hl : ∀ n, (Instr.lookup 72 (.map (some m)) (.string sA) false).run Tryz.prog (w3.drewN n) = .ok (.pointer none) (w3.drewN n) := fun n => look72 (w3.drewN n) m HM3.out
  go_quiet (fail)
  obtain ⟨w4, hw4⟩ : ∃ w4, w3.drewN nq = w4 := ⟨_, rfl⟩
  have HG4 : Hid (KB w4 g m) := Lib.hid (hw4 ▸ HG3.out)
  have HM4 : Hid (w4.heap[m]? = some (.map #[] 0)) := Lib.hid (hw4 ▸ HM3.out)
  have HO4 : Hid (w4.heap[z]? = some (.cells opV2 104 (0, 0))) := Lib.hid (hw4 ▸ HO3.out)
  have HE4 : Hid (w4.heap[z + 1]? = some (.cells (efV 2 sA sE sX 0) 50 (0, 0))) := Lib.hid (hw4 ▸ HE3.out)
  have HW4 : Hid (∀ B v, B ≤ m → Below B v w → Below B v w4) := Lib.hid (fun B v hB hv => hw4 ▸ below_any nq (HW3.out B v hB hv))
  have HZ4 : Hid (z + 2 ≤ w4.heap.size) := Lib.hid (hw4 ▸ HZ3.out)
  rw [hw4]
  clear hw4 HG3 HM3 HO3 HE3 HW3 HZ3 c0 e0 e1 e2 e3 e4 hl
  obtain ⟨o0, o1, o2, o3, o4⟩ := op_cells HO4.out
  have c0 := cell1 HG4.out
  have f1 := eqp96
  have hl := len72 w4 m HM4.out
  go_upto_region 17 with (fail)
  clear o0 o1 o2 o3 o4 c0 f1 hl
  have hn5 := heap_alloc_new w4 (.cells (thV 0 sE false 0) 116)
  have hb5 := below_new w4 (.cells (thV 0 sE false 0) 116)
  have hs5 : (w4.alloc (.cells (thV 0 sE false 0) 116)).heap.size = w4.heap.size + 1 := by simp
  have HO5 := Lib.hid ((hb5.block _ (hlt HO4.out)).trans HO4.out)
  have HE5 := Lib.hid ((hb5.block _ (hlt HE4.out)).trans HE4.out)
  generalize w4.alloc (.cells (thV 0 sE false 0) 116) = w5 at *
  have HBC := Lib.hid (become_any w4.heap.size (thV 0 sE false 0) 2 sA sE sX 0 w5 hn5 rfl)
  have hb6 : Below w4.heap.size w4 ((w5.alloc (.cells (efV 2 sA sE sX 0) 50)).setRow w4.heap.size (thV 1 sX false 0)) := (hb5.alloc hb5.size _).trans ⟨rfl, rfl, rfl, by simp [World.setRow], fun k hk => setRow_other _ _ _ _ (by omega)⟩
  have ht6 : TH ((w5.alloc (.cells (efV 2 sA sE sX 0) 50)).setRow w4.heap.size (thV 1 sX false 0)) w4.heap.size 1 sX := setRow_heap _ _ _ _ _ _ ((Below.heap_alloc w5 _ _ (by omega)).trans hn5)
  have HB6 := Lib.hid hb6
  have HT6 := Lib.hid ht6
  clear hn5 hb5 hs5 hb6 ht6
  obtain ⟨o0, o1, o2, o3, o4⟩ := op_cells HO5.out
  obtain ⟨e0, e1, e2, e3, e4⟩ := ef_cells HE5.out
  go_wp2_with fail
  refine HBC.out.mono ?_
  rintro e w6 ⟨rfl, rfl⟩
  clear o0 o1 o2 o3 o4 e0 e1 e2 e3 e4 HBC HO5 HE5
  obtain ⟨w6, hw6⟩ : ∃ w6, (w5.alloc (.cells (efV 2 sA sE sX 0) 50)).setRow w4.heap.size (thV 1 sX false 0) = w6 := ⟨_, rfl⟩
  rw [hw6] at HB6 HT6 ⊢
  clear hw6
  have HNT := Lib.hid (nothing_text _ _ _ HT6.out)
  go_wp2_with fail
  refine HNT.out.mono ?_
  rintro e w7 ⟨rfl, q, hq⟩
  have HG7 : Hid (KB w7 g m) := Lib.hid (hq ▸ (HB6.out.block g (hlt HG4.out)).trans HG4.out)
  have HM7 : Hid (w7.heap[m]? = some (.map #[] 0)) := Lib.hid (hq ▸ (HB6.out.block m (hlt HM4.out)).trans HM4.out)
  have HE7 : Hid (w7.heap[z + 1]? = some (.cells (efV 2 sA sE sX 0) 50 (0, 0))) := Lib.hid (hq ▸ (HB6.out.block _ (hlt HE4.out)).trans HE4.out)
  have HT7 : Hid (TH w7 w4.heap.size 1 sX) := Lib.hid (hq ▸ HT6.out)
  have HW7 : Hid (∀ B v, B ≤ m → Below B v w → Below B v w7) := Lib.hid (fun B v hB hv => hq ▸ below_any q ((HW4.out B v hB hv).trans (HB6.out.mono (by have := hlt HM4.out; omega))))
  have HGM : Hid (g ≠ m) := Lib.hid (fun e => by have h1 := HG4.out; unfold KB at h1; rw [e, HM4.out] at h1; cases h1)
  have HHM : Hid (w4.heap.size ≠ m) := Lib.hid (by have := hlt HM4.out; omega)
  clear hq HNT HB6 HT6 HG4 HM4 HE4 HW4 HO4 HZ4
  generalize w4.heap.size = h at *
  go_upto_region 20 with (fail)
  have c0 := cell1 HG7.out
  obtain ⟨e0, e1, e2, e3, e4⟩ := ef_cells HE7.out
  go_still_tail 7, (by kernel_rfl)
  change wpList _ _ _ _ _ w7.drew
  have hp := put72 w7.drew m (.pointer (some ⟨h, 0, none⟩)) HM7.out
  clear c0 e0 e1 e2 e3 e4
  go_wp2
  go_ret
  refine ⟨rfl, h, (putMap_other HGM.out).trans HG7.out, putMap_same HM7.out, (putMap_other HHM.out).trans HT7.out, fun B v hB hv => putMap_below ((HW7.out B v hB hv).drew) hB⟩
end Go.Proofs.YthffghegdblljaaGreat
