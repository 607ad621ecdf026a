/- What every law shows besides. -/
import Derived.Test.YthffghegdblljaaGreatKgt
namespace Go.Proofs.YthffghegdblljaaGreat
open Go Go.RowKit
attribute [local go_sem] Oper.semAt_some
theorem tg_cells {W : World} {g : Nat} {k : Int} {t : ByteArray} (c0 : W.heap[g]? = some (.cells (tgV k t) 27 (0, 0))) : W.cell? ⟨g, 0, none⟩ = some (.int .i64 k) ∧ W.cell? ⟨g, 1, none⟩ = some (.string t) ∧ W.cell? ⟨g, 2, none⟩ = some (.slice none 0 0) ∧ W.cell? ⟨g, 3, none⟩ = some (.slice none 0 0) ∧ W.cell? ⟨g, 4, none⟩ = some (.slice none 0 0) ∧ W.cell? ⟨g, 5, none⟩ = some (.bool false) ∧ W.cell? ⟨g, 6, none⟩ = some (.int .i64 0) := by
  refine ⟨?_, ?_, ?_, ?_, ?_, ?_, ?_⟩ <;> (simp only [World.cell?, c0]; rfl)
theorem res28 (tmps : Array Value) (g : Nat) (k : Int) (t : ByteArray) (b : Bool) (W : World) (t6 : tmps.getD 6 undef = .pointer (some ⟨g, 0, none⟩)) (t7 : tmps.getD 7 undef = .bool b) (c0 : W.heap[g]? = some (.cells (tgV k t) 27 (0, 0))) : (results Tryz.f28 tmps).run Tryz.prog W = .ok (.tuple #[.agg (tgV k t), .bool b]) W := by
  obtain ⟨q0, q1, q2, q3, q4, q5, q6⟩ := tg_cells c0
  simp only [Array.getD_eq_getD_getElem?] at t6 t7
  simp [results, Tryz.results28, t6, t7, q0, q1, q2, q3, q4, q5, q6, go_sem]
theorem look72h (W : World) (m h : Nat) (hm : W.heap[m]? = some (.map #[ent1 h] 1)) : (Instr.lookup 72 (.map (some m)) (.string sA) false).run Tryz.prog W = .ok (.pointer (some ⟨h, 0, none⟩)) W :=
  look_there Tryz.underlying72 Tryz.underlying9 hm (i := 0) (by kernel_rfl)
set_option maxRecDepth 200000 in
set_option maxHeartbeats 4000000 in
theorem get_known (g m h : Nat) (n : Int) (w : World) (hg : KB w g m) (hm : w.heap[m]? = some (.map #[ent1 h] 1)) (hh : TH w h 1 sX) : Calls Tryz.prog 28 #[.pointer (some ⟨g, 0, none⟩), .string sA, .int .i64 n] w fun e w' => e = .returned (.tuple #[.agg (tgV 1 sX), .bool true]) ∧ Below w.heap.size w w' := by
  have hn := heap_alloc_new w (.cells #[.int .i64 0, .string sE, .slice none 0 0, .slice none 0 0, .slice none 0 0, .bool false, .int .i64 0] 27)
  have hb := below_new w (.cells #[.int .i64 0, .string sE, .slice none 0 0, .slice none 0 0, .slice none 0 0, .bool false, .int .i64 0] 27)
  have HT : Hid (TH (w.alloc (.cells #[.int .i64 0, .string sE, .slice none 0 0, .slice none 0 0, .slice none 0 0, .bool false, .int .i64 0] 27)) h 1 sX) := Lib.hid ((hb.block h (hlt hh)).trans hh)
  have HG : Hid (KB (w.alloc (.cells #[.int .i64 0, .string sE, .slice none 0 0, .slice none 0 0, .slice none 0 0, .bool false, .int .i64 0] 27)) g m) := Lib.hid ((hb.block g (hlt hg)).trans hg)
  have HM : Hid ((w.alloc (.cells #[.int .i64 0, .string sE, .slice none 0 0, .slice none 0 0, .slice none 0 0, .bool false, .int .i64 0] 27)).heap[m]? = some (.map #[ent1 h] 1)) := Lib.hid ((hb.block m (hlt hm)).trans hm)
  have HN := Lib.hid hn
  have HB := Lib.hid hb
  clear hn hb hh hg hm
  go_enter Tryz.func28, Tryz.ntmps28
  go_upto_region 1 with (fail)
  generalize w.alloc (.cells #[.int .i64 0, .string sE, .slice none 0 0, .slice none 0 0, .slice none 0 0, .bool false, .int .i64 0] 27) = w1 at *
  have HNO := Lib.hid (none_any g m w1 HG.out)
  have c0 := cell1 HG.out
  have hl := look72h w1 m h HM.out
  have HGO := Lib.hid (gone_th h 1 sX n w1 HT.out)
  have HTL := Lib.hid (told_th h 1 sX w1 HT.out)
  have f1 := eqq96
  go_wp2_with fail
  refine HNO.out.mono ?_
  rintro e w2 ⟨rfl, rfl⟩
  go_wp2_with fail
  refine HGO.out.mono ?_
  rintro e w2 ⟨rfl, rfl⟩
  go_wp2_with fail
  refine HTL.out.mono ?_
  rintro e w3 ⟨rfl, hb3⟩
  have HN3 := Lib.hid ((hb3.block _ (hlt HN.out)).trans HN.out)
  have HB3 := Lib.hid (HB.out.trans (hb3.mono HB.out.size))
  clear hb3 HNO HGO HTL c0 hl HN HB HT HG HM
  go_wp2_with (refine wpList_store_row rfl 27 (.tmp 6) (.tmp 36) rfl w.heap.size (tgV 1 sX) rfl rfl 27 _ HN3.out size27 rfl (one27 1 sX) ?_)
  have hr := setRow_heap _ w.heap.size _ (tgV 1 sX) _ _ HN3.out
  refine bodyPost_ret (res28 _ w.heap.size 1 sX true _ rfl rfl hr) rfl ?_
  exact ⟨rfl, HB3.out.trans ⟨rfl, rfl, rfl, by simp [World.setRow], fun k hk => setRow_other _ _ _ _ (by omega)⟩⟩
set_option maxRecDepth 200000 in
set_option maxHeartbeats 4000000 in
theorem known_any (w : World) : Calls Tryz.prog 12 #[] w fun e w' => e = .returned (.bool true) ∧ Below w.heap.size w w' := by
  have HK := Lib.hid (new_keys w)
  have hn1 := new_at w (.map #[] 0)
  have hs1 : (w.alloc (.map #[] 0)).heap.size = w.heap.size + 1 := by simp
  have hn2 : ((w.alloc (.map #[] 0)).alloc (.cells #[.map (some w.heap.size)] 74)).heap[w.heap.size + 1]? = some (.cells #[.map (some w.heap.size)] 74 (0, 0)) := by
    have := heap_alloc_new (w.alloc (.map #[] 0)) (.cells #[.map (some w.heap.size)] 74)
    rw [hs1] at this
    exact this
  have hm2 := (Below.heap_alloc (w.alloc (.map #[] 0)) (.cells #[.map (some w.heap.size)] 74) _ (hlt hn1)).trans hn1
  have hb2 := (below_new w (.map #[] 0)).trans ((below_new (w.alloc (.map #[] 0)) (.cells #[.map (some w.heap.size)] 74)).mono (by omega))
  have HB := Lib.hid hb2
  have HG : Hid (KB ((w.alloc (.map #[] 0)).alloc (.cells #[.map (some w.heap.size)] 74)) (w.heap.size + 1) w.heap.size) := Lib.hid hn2
  have HM := Lib.hid hm2
  clear hn1 hs1 hn2 hm2 hb2
  go_enter Tryz.func12, Tryz.ntmps12
  go_wp2_with fail
  refine HK.out.mono ?_
  rintro e w1 ⟨rfl, rfl⟩
  clear HK
  generalize (w.alloc (.map #[] 0)).alloc (.cells #[.map (some w.heap.size)] 74) = w1 at *
  have hr := heap_alloc_new w1 (.cells (efV 2 sA sE sX 0) 50)
  have hb := below_new w1 (.cells (efV 2 sA sE sX 0) 50)
  have HC := Lib.hid (run_known (w.heap.size + 1) w.heap.size w1.heap.size _ ((hb.block _ (hlt HG.out)).trans HG.out) ((hb.block _ (hlt HM.out)).trans HM.out) hr)
  have HB2 := Lib.hid (HB.out.trans (hb.mono HB.out.size))
  clear hr hb HB HG HM
  go_wp2_with fail
  refine HC.out.mono ?_
  rintro e w3 ⟨rfl, ha⟩
  obtain ⟨h, hm3, ht3⟩ := ha.th
  have HG3 := Lib.hid ha.kb
  have HM3 := Lib.hid hm3
  have HT3 := Lib.hid ht3
  have HB3 := Lib.hid (ha.bel w.heap.size w (Nat.le_refl _) HB2.out)
  clear ha hm3 ht3 HC HB2
  have HGT := Lib.hid (get_known _ _ h 5 w3 HG3.out HM3.out HT3.out)
  go_wp2_with fail
  refine HGT.out.mono ?_
  rintro e w4 ⟨rfl, hb4⟩
  have HB4 := Lib.hid (HB3.out.trans (hb4.mono HB3.out.size))
  clear hb4 HGT HB3 HG3 HM3 HT3
  go_upto_region 4 with (fail)
  have hn5 := heap_alloc_new w4 (.cells (tgV 1 sX) 27)
  have HB5 := Lib.hid (HB4.out.trans ((below_new w4 (.cells (tgV 1 sX) 27)).mono HB4.out.size))
  obtain ⟨q0, q1, q2, q3, q4, q5, q6⟩ := tg_cells hn5
  clear hn5
  go_wp2_with fail
  go_ret
  exact ⟨rfl, HB5.out⟩
end Go.Proofs.YthffghegdblljaaGreat
