/- Apply of one effect that puts a text into an empty keyspace. -/
import Derived.Test.YthffghegdblljaaGreatKap
import Derived.Deep.WholeRow
namespace Go.Proofs.YthffghegdblljaaGreat
open Go Go.RowKit
attribute [local go_sem] Oper.semAt_some
theorem find2 : Instr.findNow (.int .i64) (.int .i64 2) (opsA 15).toList 0 = some (some (1, .agg opV2)) := by kernel_rfl
theorem look99 (W : World) (b : Nat) (h : W.heap[b]? = some (.map (opsA 15) 15)) : (Instr.lookup 99 (.map (some b)) (.int .i64 2) true).run Tryz.prog W = .ok (.tuple #[.agg #[.int .i64 2, .bool false, .int .i64 0, .func (.func 80) #[] #[], .func (.func 82) #[] #[]], .bool true]) W :=
  look_int Tryz.underlying99 Tryz.underlying48 h find2
theorem size104 : (Tryz.prog.info? 104).map (·.size) = some 5 := by kernel_rfl
theorem one104 : opV2.all (·.oneCell') = true := by simp [opV2, Value.oneCell']
/-- Ahead of it. -/
structure A0 (w W : World) (g m b tb : Nat) : Prop where
  kb : KB W g m
  mp : W.heap[m]? = some (.map #[] 0)
  row : W.heap[b]? = some (.cells (efV 2 sA sE sX 0) 50 (0, 0))
  tab : W.heap[tb]? = some (.map (opsA 15) 15)
  bel : ∀ B v, B ≤ m → Below B v w → Below B v W
/-- Behind it. -/
structure A1 (w W : World) (g m : Nat) : Prop where
  kb : KB W g m
  th : ∃ h, W.heap[m]? = some (.map #[ent1 h] 1) ∧ TH W h 1 sX
  bel : ∀ B v, B ≤ m → Below B v w → Below B v W
theorem A0.alloc {w W : World} {g m b tb : Nat} (h : A0 w W g m b tb) (o : Obj) : A0 w (W.alloc o) g m b tb :=
  ⟨(Below.heap_alloc W o _ (hlt h.kb)).trans h.kb, (Below.heap_alloc W o _ (hlt h.mp)).trans h.mp, (Below.heap_alloc W o _ (hlt h.row)).trans h.row, (Below.heap_alloc W o _ (hlt h.tab)).trans h.tab,
   fun B v hB hv => (h.bel B v hB hv).trans ((below_new W o).mono (by have := hlt h.mp; omega))⟩
set_option maxRecDepth 200000 in
set_option maxHeartbeats 4000000 in
theorem run_known (g m b : Nat) (w : World) (hg : KB w g m) (hm : w.heap[m]? = some (.map #[] 0)) (hr : w.heap[b]? = some (.cells (efV 2 sA sE sX 0) 50 (0, 0))) :
    Calls Tryz.prog 21 #[.pointer (some ⟨g, 0, none⟩), .slice (some ⟨b, 0, none⟩) 1 1] w fun e w' => e = .returned (.tuple #[.int .i64 1, .int .i64 0]) ∧ A1 w w' g m := by
  have HN := Lib.hid (none_any g m w hg)
  have h1 : A0 w (w.alloc (.map (opsA 15) 15)) g m b w.heap.size :=
    ⟨(Below.heap_alloc w _ _ (hlt hg)).trans hg, (Below.heap_alloc w _ _ (hlt hm)).trans hm, (Below.heap_alloc w _ _ (hlt hr)).trans hr, new_at w _, fun B v hB hv => hv.trans ((below_new w _).mono (by have := hlt hm; omega))⟩
  have H1 := Lib.hid h1
  have HO := Lib.hid (ops_any w)
  clear hg hm hr h1
  go_enter Tryz.func21, Tryz.ntmps21
  go_wp2_with fail
  go_step3
  go_wp2_with fail
  refine HN.out.mono ?_
  rintro e w1 ⟨rfl, rfl⟩
  go_wp2_with fail
  refine HO.out.mono ?_
  rintro e w1 ⟨rfl, rfl⟩
  clear HN HO
  generalize hW : w.alloc (.map (opsA 15) 15) = W at *
  generalize htb : w.heap.size = tb at *
  go_upto_region 7 with (fail)
  go_step3
  go_wp2_with fail
  go_loopw [7, 8, 21] (fun d y i X => ∃ k : Nat, k ≤ 1 ∧ i = .int .i64 k ∧ d = .int .i64 k ∧ y = .int .i64 0 ∧ Hid (k = 0 → A0 w X g m b tb) ∧ Hid (k = 1 → A1 w X g m)) (fun _ _ i _ => 1 - (intOf i).toNat)
  case atStart => exact ⟨0, by omega, rfl, rfl, rfl, Lib.hid (fun _ => H1.out), Lib.hid (fun e => by cases e)⟩
  case round =>
    clear H1
    obtain ⟨k, hk, rfl, rfl, rfl, HA, HB⟩ := hrel
    by_cases hlt1 : k < 1
    · obtain rfl : k = 0 := by omega
      have HA0 := Lib.hid (HA.out rfl)
      clear HA HB hlt1 hk
      have hrow := HA0.out.row
      obtain ⟨e0, e1, e2, e3, e4⟩ := ef_cells hrow
      go_upto_region 10 with (fail)
      clear e0 e1 e2 e3 e4 hrow
      have HE := Lib.hid (heap_alloc_new wr (.cells (efV 2 sA sE sX 0) 50))
      have HA2 := Lib.hid (HA0.out.alloc (.cells (efV 2 sA sE sX 0) 50))
      clear HA0
      generalize hX2 : wr.heap.size = eb at *
      generalize wr.alloc (.cells (efV 2 sA sE sX 0) 50) = X2 at *
      obtain ⟨e0, e1, e2, e3, e4⟩ := ef_cells HE.out
      have hl := look99 X2 tb HA2.out.tab
      go_upto_region 11 with (refine wpList_store_row rfl 104 (.tmp 11) (.tmp 30) rfl X2.heap.size opV2 rfl rfl 104 _ (heap_alloc_new X2 _) size104 rfl one104 ?_; rw [World.setRow_alloc_new])
      clear e0 e1 e2 e3 e4 hl hX2
      have HO3 := Lib.hid (heap_alloc_new X2 (.cells opV2 104))
      have HE3 := Lib.hid ((Below.heap_alloc X2 (.cells opV2 104) _ (hlt HE.out)).trans HE.out)
      have HA3 := Lib.hid (HA2.out.alloc (.cells opV2 104))
      clear HA2 HE
      generalize X2.alloc (.cells opV2 104) = X3 at *
      obtain ⟨e0, e1, e2, e3, e4⟩ := ef_cells HE3.out
      obtain ⟨o0, o1, o2, o3, o4⟩ := op_cells HO3.out
      have HC := Lib.hid (apply_known g m X3 HA3.out.kb HA3.out.mp)
      go_wp2_with fail
      refine HC.out.mono ?_
      rintro e w9 ⟨rfl, h, k1, k2, k3, k4⟩
      have HA4 : Hid (A1 w w9 g m) := Lib.hid ⟨k1, ⟨h, k2, k3⟩, fun B v hB hv => k4 B v hB (HA3.out.bel B v hB hv)⟩
      clear k1 k2 k3 k4 HC e0 e1 e2 e3 e4 o0 o1 o2 o3 o4 HO3 HE3 HA3
      go_wp2_with fail
      go_roundw
      case rel => exact ⟨1, by omega, by go_num, by go_num, rfl, Lib.hid (fun e => by cases e), Lib.hid (fun _ => HA4.out)⟩
      case measure => simp [intOf]
    · obtain rfl : k = 1 := by omega
      have HA1 := Lib.hid (HB.out rfl)
      clear HA HB
      go_wp2_with fail
      change bodyPost Tryz.prog Tryz.f21 (fun e w' => e = .returned (.tuple #[.int .i64 1, .int .i64 0]) ∧ A1 w w' g m) Exit.ret _ _
      go_ret2
      exact ⟨rfl, HA1.out⟩
end Go.Proofs.YthffghegdblljaaGreat
