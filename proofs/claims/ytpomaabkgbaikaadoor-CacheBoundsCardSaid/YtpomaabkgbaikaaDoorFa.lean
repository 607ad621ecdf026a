/- The cache's small functions. -/
import Derived.Test.YtpomaabkgbaikaaDoorCa
import Derived.StillTailTactics
import Derived.Lib.Hide
import Derived.BigQuiet
import Derived.Deep.RegionHeld3
import Derived.Deep.QuietTactic
namespace Go.Proofs.YtpomaabkgbaikaaDoor
open Go Go.RowKit Go.Maps
attribute [local go_sem] Oper.semAt_some
section
variable {C D M : Nat} {ds ns : List En}
theorem ptr68 (C : Nat) (w : World) : (binOp .eql 26 (.pointer (some ⟨C, 0, none⟩)) (.pointer none)).run Tryd.prog w = .ok (.bool false) w := by kernel_rfl
theorem none_any (w : World) (h : CA C D M ds ns w) : Calls Tryd.prog 32 #[.pointer (some ⟨C, 0, none⟩)] w fun e w' => e = .returned (.bool false) ∧ w = w' := by
  have h1 := h.cells.1
  clear h
  have hq := fun (w : World) (r : Option Nat) => run_eql_map_nil w 63 9 72 r Tryd.underlying63
  go_enter Tryd.func32, Tryd.ntmps32
  go_wp2
  go_ret
  exact ⟨rfl, rfl⟩
theorem none_nil (w : World) : Calls Tryd.prog 32 #[.pointer none] w fun e w' => e = .returned (.bool true) ∧ w = w' := by
  go_enter Tryd.func32, Tryd.ntmps32
  go_wp2
  go_ret
  exact ⟨rfl, rfl⟩
theorem num_any (n : Int) (w : World) : Calls Tryd.prog 25 #[.int .i64 n] w fun e w' => e = .returned (.int .i64 n) ∧ w = w' := by
  go_enter Tryd.func25, Tryd.ntmps25
  go_wp2
  go_ret
  exact ⟨rfl, rfl⟩
theorem fresh_any (w : World) : Calls Tryd.prog 31 #[] w fun e w' => e = .returned (.agg #[.map (some (w.heap.size + 1)), .map (some (w.heap.size + 1 + 1))]) ∧ MP (w.heap.size + 1) [] w' ∧ MP (w.heap.size + 1 + 1) [] w' ∧ Below w.heap.size w w' := by
  have hmm := @run_makeMap Tryd.prog
  have hb : Below w.heap.size w (((w.alloc (.cells #[.map (some (w.heap.size + 1)), .map (some (w.heap.size + 1 + 1))] 65)).alloc (.map #[] 0)).alloc (.map #[] 0)) := (((Below.refl _ w).alloc (Nat.le_refl _) _).alloc (by simp) _).alloc (by simp; omega) _
  have m1 : MP (w.heap.size + 1) [] (((w.alloc (.cells #[.map (some (w.heap.size + 1)), .map (some (w.heap.size + 1 + 1))] 65)).alloc (.map #[] 0)).alloc (.map #[] 0)) := by
    have h := (World.ownsMap_made (w.alloc (.cells #[.map (some (w.heap.size + 1)), .map (some (w.heap.size + 1 + 1))] 65)) Tryd.prog 9 kR).alloc (.map #[] 0)
    rw [show (w.alloc (.cells #[.map (some (w.heap.size + 1)), .map (some (w.heap.size + 1 + 1))] 65)).heap.size = w.heap.size + 1 by simp] at h
    exact ⟨h, List.Pairwise.nil⟩
  have m2 : MP (w.heap.size + 1 + 1) [] (((w.alloc (.cells #[.map (some (w.heap.size + 1)), .map (some (w.heap.size + 1 + 1))] 65)).alloc (.map #[] 0)).alloc (.map #[] 0)) := by
    have h := World.ownsMap_made ((w.alloc (.cells #[.map (some (w.heap.size + 1)), .map (some (w.heap.size + 1 + 1))] 65)).alloc (.map #[] 0)) Tryd.prog 9 kR
    rw [show ((w.alloc (.cells #[.map (some (w.heap.size + 1)), .map (some (w.heap.size + 1 + 1))] 65)).alloc (.map #[] 0)).heap.size = w.heap.size + 1 + 1 by simp] at h
    exact ⟨h, List.Pairwise.nil⟩
  have c0 : (((w.alloc (.cells #[.map (some (w.heap.size + 1)), .map (some (w.heap.size + 1 + 1))] 65)).alloc (.map #[] 0)).alloc (.map #[] 0)).heap[w.heap.size]? = some (.cells #[.map (some (w.heap.size + 1)), .map (some (w.heap.size + 1 + 1))] 65 (0, 0)) := by
    have h := heap_alloc_new w (.cells #[.map (some (w.heap.size + 1)), .map (some (w.heap.size + 1 + 1))] 65)
    have b := (below_new (w.alloc (.cells #[.map (some (w.heap.size + 1)), .map (some (w.heap.size + 1 + 1))] 65)) (.map #[] 0)).trans ((below_new ((w.alloc (.cells #[.map (some (w.heap.size + 1)), .map (some (w.heap.size + 1 + 1))] 65)).alloc (.map #[] 0)) (.map #[] 0)).mono (by simp))
    exact (b.block _ (by simp)).trans h
  have HB := Lib.hid hb
  have HM1 := Lib.hid m1
  have HM2 := Lib.hid m2
  have HC := Lib.hid c0
  clear hb m1 m2 c0
  go_enter Tryd.func31, Tryd.ntmps31
  go_wp2
  refine bodyPost_ret (results_cell_row Tryd.results31 _ _ w.heap.size 65 _ (0, 0) _ rfl HC.out Tryd.underlying65 rfl (by kernel_rfl)) rfl ?_
  exact ⟨rfl, HM1.out, HM2.out, HB.out⟩
theorem new_any (w : World) : Calls Tryd.prog 11 #[] w fun e w' => ∃ C D M, e = .returned (.pointer (some ⟨C, 0, none⟩)) ∧ CA C D M [] [] w' ∧ Below w.heap.size w w' ∧ ∀ b, TC C D M b → w.heap.size ≤ b := by
  have HF := Lib.hid (fresh_any w)
  go_enter Tryd.func11, Tryd.ntmps11
  go_wp2_with fail
  refine HF.out.mono ?_
  rintro e w1 ⟨rfl, h1, h2, hb⟩
  have hs1 := h1.lt
  have hs2 := h2.lt
  have HB := Lib.hid hb
  have HM1 := Lib.hid h1
  have HM2 := Lib.hid h2
  clear h1 h2 hb HF
  go_wp2_with fail
  go_ret
  have hbn := below_new w1 (.cells #[.map (some (w.heap.size + 1)), .map (some (w.heap.size + 1 + 1))] 68)
  refine ⟨w1.heap.size, w.heap.size + 1, w.heap.size + 1 + 1, rfl, ⟨heap_alloc_new w1 _, HM1.out.keep (hbn.block _ hs1), HM2.out.keep (hbn.block _ hs2), by omega⟩, HB.out.trans (hbn.mono HB.out.size), ?_⟩
  rintro b (rfl | rfl | rfl)
  · exact HB.out.size
  · omega
  · omega
set_option maxRecDepth 100000 in
theorem count_any (w : World) (h : CA C D M ds ns w) (hd : ds.length ≤ 100000000) (hn : ns.length ≤ 100000000) : Calls Tryd.prog 46 #[.pointer (some ⟨C, 0, none⟩)] w fun e w' => e = .returned (.int .i64 ((ds.length + ns.length : Nat) : Int)) ∧ ∃ q, w' = w.drewN q := by
  have h1 := h.cells.1
  have h2 := h.cells.2
  have l1 := fun ty (q : Nat) => (show (Builtin.len_ #[63] ty #[.map (some D)]).run Tryd.prog (w.drewN q) = .ok (.int .i64 (ds.length : Nat)) (w.drewN q) from (h.dig.keep (W' := w.drewN q) rfl).len ty)
  have l2 := fun ty (q : Nat) => (show (Builtin.len_ #[63] ty #[.map (some M)]).run Tryd.prog (w.drewN q) = .ok (.int .i64 (ns.length : Nat)) (w.drewN q) from (h.nam.keep (W' := w.drewN q) rfl).len ty)
  clear h
  go_enter Tryd.func46, Tryd.ntmps46
  go_wp2_with fail
  go_quiet (fail)
  go_wp2_with fail
  go_ret
  exact ⟨by go_num, _, rfl⟩
theorem get_any (K : Nat) (l : List En) (key : ByteArray) (w : World) (v : Value) (h : MP K l w) (hk : key.size ≤ maxLen) : Calls Tryd.prog 33 #[v, .map (some K), .string key] w fun e w' => e = .returned (.tuple #[.string (scr l key), .bool (hasK l key)]) ∧ Below w.heap.size w w' := by
  have hl := h.look key hk
  clear h
  go_enter Tryd.func33, Tryd.ntmps33
  go_wp2_with fail
  go_ret2
  exact ⟨rfl, below_new w _⟩
set_option maxRecDepth 100000 in
theorem getc_any (key : ByteArray) (w : World) (h : CA C D M ds ns w) (hk : key.size ≤ maxLen) : Calls Tryd.prog 13 #[.pointer (some ⟨C, 0, none⟩), .string key] w fun e w' => e = .returned (.tuple #[.string (scr ds key), .bool (hasK ds key)]) ∧ Below w.heap.size w w' := by
  have HN := Lib.hid (none_any w h)
  have h1 := h.cells.1
  have h2 := h.cells.2
  have HG := Lib.hid (fun v => get_any D ds key w.drew v (h.dig.keep (W' := w.drew) rfl) hk)
  have HCC : Hid (∀ w5, Below w.drew.heap.size w.drew w5 → w5.cell? ⟨C, 0, none⟩ = some (.map (some D))) := Lib.hid (fun w5 hb => (hb.cell (p := ⟨C, 0, none⟩) (h.lt C (.inl rfl))).trans h1)
  clear h
  go_enter Tryd.func13, Tryd.ntmps13
  go_wp2_with fail
  refine HN.out.mono ?_
  rintro e w1 ⟨rfl, rfl⟩
  go_wp2_with fail
  go_region_held3 (fun W => W.cell? ⟨C, 0, none⟩ = some (.map (some D)))
    (first | assumption | go_keep | fail)
    (first
      | (go_at_call 33; with_reducible (refine (HG.out _).mono ?_); rintro e w5 ⟨rfl, hb5⟩; have HB5 := Lib.hid hb5; have hc5 := HCC.out _ hb5; clear hb5))
  go_wp2_with fail
  go_ret2
  exact ⟨rfl, (Below.refl _ w).drew.trans HB5.out⟩
end
end Go.Proofs.YtpomaabkgbaikaaDoor
