/- A call of the program's, by its number. -/
import Derived.Test.YtpomaabkgbaikaaDoorRd
import Derived.Test.YtpomaabkgbaikaaDoorWk
namespace Go.Proofs.YtpomaabkgbaikaaDoor
open Go Go.RowKit
section
variable {C D M : Nat} {ds ns : List En}
/-- What a call tells. -/
def DQ (C D M : Nat) (ds ns : List En) (x : Ac) (w : World) (e : Ending) (w' : World) : Prop := e = .returned (.tuple #[.string (aS ds ns x), .int .i64 (aE ds ns x)]) ∧ CA C D M (aD ds ns x) (aN ds ns x) w' ∧ KeepT (TC C D M) w w'
set_option maxRecDepth 100000 in
set_option maxHeartbeats 4000000 in
theorem do_zero (x : Ac) (w : World) (h : CA C D M ds ns w) (hg : DG w) (h2 : ∀ b, TC C D M b → b ≠ 2) (hd : ds.length ≤ 1000000) (hn : ns.length ≤ 1000000) (hs : x.script.size ≤ 1000000) (hnm : x.name.size ≤ 1000000000) (hw : x.what = 0) : Calls Tryd.prog 21 #[.pointer (some ⟨C, 0, none⟩), .agg (acV x)] w (DQ C D M ds ns x w) := by
  have hb0 := below_new w (.cells (acV x) 39)
  have hca := h.below hb0
  have h0 := heap_alloc_new w (.cells (acV x) 39)
  have z0 : (w.alloc (.cells (acV x) 39)).cell? ⟨w.heap.size, 0, none⟩ = some (.int .i64 x.what) := by simp only [World.cell?, h0]; rfl
  have z1 : (w.alloc (.cells (acV x) 39)).cell? ⟨w.heap.size, 1, none⟩ = some (.string x.name) := by simp only [World.cell?, h0]; rfl
  have z2 : (w.alloc (.cells (acV x) 39)).cell? ⟨w.heap.size, 2, none⟩ = some (.string x.script) := by simp only [World.cell?, h0]; rfl
  have HB := Lib.hid hb0

  have HP := Lib.hid (putc_any x.script _ hca (hg.below hb0) h2 (by omega) (by omega) (.inl hs))
  have q0 : (x.what == 0) = true := by simp [hw]
  have HQ : Hid (aD ds ns x = pL ds (ds.length + ns.length) x.script ∧ aN ds ns x = ns ∧ aS ds ns x = pD ds (ds.length + ns.length) x.script ∧ aE ds ns x = pE ds (ds.length + ns.length) x.script) := Lib.hid (by
    simp [aS, aE, aD, aN, hw])
  clear h hca h0 hb0
  go_enter Tryd.func21, Tryd.ntmps21
  go_upto_region 1 with (fail)
  generalize w.alloc (.cells (acV x) 39) = W at *

  go_wp2_with fail
  refine HP.out.mono ?_
  rintro e w2 ⟨rfl, hca, hk⟩
  have HC := Lib.hid hca
  have HK := Lib.hid hk
  clear hca hk
  go_wp2_with fail
  refine (num_any _ _).mono ?_
  rintro e w3 ⟨rfl, rfl⟩
  go_wp2_with fail
  go_ret2
  exact ⟨by rw [HQ.out.2.2.1, HQ.out.2.2.2]; rfl, by rw [HQ.out.1, HQ.out.2.1]; exact HC.out, (KeepT.of_below HB.out).trans HK.out (fun b t => .inl t)⟩
set_option maxRecDepth 100000 in
set_option maxHeartbeats 4000000 in
theorem do_one (x : Ac) (w : World) (h : CA C D M ds ns w) (hg : DG w) (h2 : ∀ b, TC C D M b → b ≠ 2) (hd : ds.length ≤ 1000000) (hn : ns.length ≤ 1000000) (hs : x.script.size ≤ 1000000) (hnm : x.name.size ≤ 1000000000) (hw : x.what = 1) : Calls Tryd.prog 21 #[.pointer (some ⟨C, 0, none⟩), .agg (acV x)] w (DQ C D M ds ns x w) := by
  have hb0 := below_new w (.cells (acV x) 39)
  have hca := h.below hb0
  have h0 := heap_alloc_new w (.cells (acV x) 39)
  have z0 : (w.alloc (.cells (acV x) 39)).cell? ⟨w.heap.size, 0, none⟩ = some (.int .i64 x.what) := by simp only [World.cell?, h0]; rfl
  have z1 : (w.alloc (.cells (acV x) 39)).cell? ⟨w.heap.size, 1, none⟩ = some (.string x.name) := by simp only [World.cell?, h0]; rfl
  have z2 : (w.alloc (.cells (acV x) 39)).cell? ⟨w.heap.size, 2, none⟩ = some (.string x.script) := by simp only [World.cell?, h0]; rfl
  have HB := Lib.hid hb0

  have HP := Lib.hid (flush_any _ hca)
  have q0 : (x.what == 0) = false := by simp [hw]
  have q1 : (x.what == 1) = true := by simp [hw]
  have HQ : Hid (aD ds ns x = [] ∧ aN ds ns x = ns ∧ aS ds ns x = ⟨#[]⟩ ∧ aE ds ns x = 0) := Lib.hid (by
    simp [aS, aE, aD, aN, hw])
  clear h hca h0 hb0
  go_enter Tryd.func21, Tryd.ntmps21
  go_upto_region 1 with (fail)
  generalize w.alloc (.cells (acV x) 39) = W at *

  go_wp2_with fail
  refine HP.out.mono ?_
  rintro e w2 ⟨rfl, hca, hk⟩
  have HC := Lib.hid hca
  have HK := Lib.hid hk
  clear hca hk
  go_wp2_with fail
  go_ret2
  exact ⟨by rw [HQ.out.2.2.1, HQ.out.2.2.2]; rfl, by rw [HQ.out.1, HQ.out.2.1]; exact HC.out, (KeepT.of_below HB.out).trans HK.out (fun b t => .inl t)⟩
set_option maxRecDepth 100000 in
set_option maxHeartbeats 4000000 in
theorem do_two (x : Ac) (w : World) (h : CA C D M ds ns w) (hg : DG w) (h2 : ∀ b, TC C D M b → b ≠ 2) (hd : ds.length ≤ 1000000) (hn : ns.length ≤ 1000000) (hs : x.script.size ≤ 1000000) (hnm : x.name.size ≤ 1000000000) (hw : x.what = 2) : Calls Tryd.prog 21 #[.pointer (some ⟨C, 0, none⟩), .agg (acV x)] w (DQ C D M ds ns x w) := by
  have hb0 := below_new w (.cells (acV x) 39)
  have hca := h.below hb0
  have h0 := heap_alloc_new w (.cells (acV x) 39)
  have z0 : (w.alloc (.cells (acV x) 39)).cell? ⟨w.heap.size, 0, none⟩ = some (.int .i64 x.what) := by simp only [World.cell?, h0]; rfl
  have z1 : (w.alloc (.cells (acV x) 39)).cell? ⟨w.heap.size, 1, none⟩ = some (.string x.name) := by simp only [World.cell?, h0]; rfl
  have z2 : (w.alloc (.cells (acV x) 39)).cell? ⟨w.heap.size, 2, none⟩ = some (.string x.script) := by simp only [World.cell?, h0]; rfl
  have HB := Lib.hid hb0

  have HP := Lib.hid (load_any x.name x.script _ hca (by simp only [maxLen]; omega) (by omega) (by omega) (by omega))
  have q0 : (x.what == 0) = false := by simp [hw]
  have q1 : (x.what == 1) = false := by simp [hw]
  have q2 : (x.what == 2) = true := by simp [hw]
  have HQ : Hid (aD ds ns x = ds ∧ aN ds ns x = loadL ns (ds.length + ns.length) x.name x.script ∧ aS ds ns x = ⟨#[]⟩ ∧ aE ds ns x = loadE ns (ds.length + ns.length) x.name x.script) := Lib.hid (by
    simp [aS, aE, aD, aN, hw])
  clear h hca h0 hb0
  go_enter Tryd.func21, Tryd.ntmps21
  go_upto_region 1 with (fail)
  generalize w.alloc (.cells (acV x) 39) = W at *

  go_wp2_with fail
  refine HP.out.mono ?_
  rintro e w2 ⟨rfl, hca, hk⟩
  have HC := Lib.hid hca
  have HK := Lib.hid hk
  clear hca hk
  go_wp2_with fail
  refine (num_any _ _).mono ?_
  rintro e w3 ⟨rfl, rfl⟩
  go_wp2_with fail
  go_ret2
  exact ⟨by rw [HQ.out.2.2.1, HQ.out.2.2.2]; rfl, by rw [HQ.out.1, HQ.out.2.1]; exact HC.out, (KeepT.of_below HB.out).trans HK.out (fun b t => .inl t)⟩
set_option maxRecDepth 100000 in
set_option maxHeartbeats 4000000 in
theorem do_un (x : Ac) (w : World) (h : CA C D M ds ns w) (hg : DG w) (h2 : ∀ b, TC C D M b → b ≠ 2) (hd : ds.length ≤ 1000000) (hn : ns.length ≤ 1000000) (hs : x.script.size ≤ 1000000) (hnm : x.name.size ≤ 1000000000) (hw0 : x.what ≠ 0) (hw1 : x.what ≠ 1) (hw2 : x.what ≠ 2) : Calls Tryd.prog 21 #[.pointer (some ⟨C, 0, none⟩), .agg (acV x)] w (DQ C D M ds ns x w) := by
  have hb0 := below_new w (.cells (acV x) 39)
  have hca := h.below hb0
  have h0 := heap_alloc_new w (.cells (acV x) 39)
  have z0 : (w.alloc (.cells (acV x) 39)).cell? ⟨w.heap.size, 0, none⟩ = some (.int .i64 x.what) := by simp only [World.cell?, h0]; rfl
  have z1 : (w.alloc (.cells (acV x) 39)).cell? ⟨w.heap.size, 1, none⟩ = some (.string x.name) := by simp only [World.cell?, h0]; rfl
  have z2 : (w.alloc (.cells (acV x) 39)).cell? ⟨w.heap.size, 2, none⟩ = some (.string x.script) := by simp only [World.cell?, h0]; rfl
  have HB := Lib.hid hb0

  have HP := Lib.hid (unload_any x.name _ hca (by simp only [maxLen]; omega))
  have q0 : (x.what == 0) = false := by simp [hw0]
  have q1 : (x.what == 1) = false := by simp [hw1]
  have q2 : (x.what == 2) = false := by simp [hw2]
  have HQ : Hid (aD ds ns x = ds ∧ aN ds ns x = unL ns x.name ∧ aS ds ns x = ⟨#[]⟩ ∧ aE ds ns x = unE ns x.name) := Lib.hid (by
    simp [aS, aE, aD, aN, hw0, hw1, hw2])
  clear h hca h0 hb0
  go_enter Tryd.func21, Tryd.ntmps21
  go_upto_region 1 with (fail)
  generalize w.alloc (.cells (acV x) 39) = W at *

  go_wp2_with fail
  refine HP.out.mono ?_
  rintro e w2 ⟨rfl, hca, hk⟩
  have HC := Lib.hid hca
  have HK := Lib.hid hk
  clear hca hk
  go_wp2_with fail
  refine (num_any _ _).mono ?_
  rintro e w3 ⟨rfl, rfl⟩
  go_wp2_with fail
  go_ret2
  exact ⟨by rw [HQ.out.2.2.1, HQ.out.2.2.2]; rfl, by rw [HQ.out.1, HQ.out.2.1]; exact HC.out, (KeepT.of_below HB.out).trans HK.out (fun b t => .inl t)⟩
theorem do_any (x : Ac) (w : World) (h : CA C D M ds ns w) (hg : DG w) (h2 : ∀ b, TC C D M b → b ≠ 2) (hd : ds.length ≤ 1000000) (hn : ns.length ≤ 1000000) (hs : x.script.size ≤ 1000000) (hnm : x.name.size ≤ 1000000000) : Calls Tryd.prog 21 #[.pointer (some ⟨C, 0, none⟩), .agg (acV x)] w (DQ C D M ds ns x w) := by
  by_cases hw0 : x.what = 0
  · exact do_zero x w h hg h2 hd hn hs hnm hw0
  by_cases hw1 : x.what = 1
  · exact do_one x w h hg h2 hd hn hs hnm hw1
  by_cases hw2 : x.what = 2
  · exact do_two x w h hg h2 hd hn hs hnm hw2
  · exact do_un x w h hg h2 hd hn hs hnm hw0 hw1 hw2
end
end Go.Proofs.YtpomaabkgbaikaaDoor
