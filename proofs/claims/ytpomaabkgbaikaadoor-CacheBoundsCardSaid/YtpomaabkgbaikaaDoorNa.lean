/- A cache's keys, sorted; its names. -/
import Derived.Test.YtpomaabkgbaikaaDoorFd
import Derived.Test.YtpomaabkgbaikaaDoorShelf
namespace Go.Proofs.YtpomaabkgbaikaaDoor
open Go Go.RowKit Go.Maps Go.Sort Go.Shelf
attribute [local go_sem] Oper.semAt_some
/-- slices.Sort's two contracts. -/
theorem sorts35 (m : Nat) : AnyZ.SortsIn Tryd.prog Tryd.sorted35_ren Fence.wide m :=
  ⟨fun blk off cap ss W hH hblk hsz => callsIn_wide.2 (AnyM.slices_Sort_string Tryd.sort49 blk off cap ss W hH hblk hsz),
   fun p cap W => callsIn_wide.2 (AnyM.slices_Sort_string_none Tryd.sort49 p cap W)⟩
theorem keys_any (mb : Option Nat) (W : World) : Calls Tryd.prog 36 #[.map mb] W fun e w' => e = .returned (.func (.func 50) #[] #[.pointer (some ⟨W.heap.size, 0, none⟩)]) ∧ w' = W.alloc (.cells #[.map mb] 63) :=
  (callsIn_wide (n := 5)).1 (AnyZ.keys_in Tryd.keys36 Fence.wide 5 trivial rfl mb W)
set_option maxHeartbeats 1000000 in
theorem sorted_any (b nn : Nat) (D0 : DataW Unit) (w : World) (hown : w.ownsMap Tryd.prog 9 kR b nn D0) (hmax : Maps.size D0 ≤ 2000000) :
    Calls Tryd.prog 35 #[.func (.func 50) #[] #[.pointer (some ⟨w.heap.size, 0, none⟩)]] (w.alloc (.cells #[.map (some b)] 63)) fun e w' => ∃ (v : Value) (ss : List (List UInt8)), e = .returned v ∧ ss.Perm (strKeys D0) ∧
      w'.ownsRow (w.alloc (.cells #[.map (some b)] 63)).heap.size 9 1 v ss.length ((ss.mergeSort (fun x y => decide (x ≤ y))).map encStr) ∧ (v = .slice none 0 0 ↔ ss = []) ∧ Below (w.alloc (.cells #[.map (some b)] 63)).heap.size (w.alloc (.cells #[.map (some b)] 63)) w' := by
  have hbl := hown.lt
  have hseq : SeqGives Fence.wide 2 Tryd.prog 50 #[.pointer (some ⟨w.heap.size, 0, none⟩)] encStr (fun ss => ss.Perm (strKeys D0)) (Maps.size D0) (w.alloc (.cells #[.map (some b)] 63)) :=
    AnyZ.keys_gives (ρ := Tryd.keys36_ren) { Tryd.keys36 with } Fence.wide _ trivial rfl (by omega) w.heap.size b nn D0 _ (by simp) (by simp) (by
      obtain ⟨es, clock, hb, Ft, hs, hD⟩ := hown
      exact ⟨es, clock, (Below.heap_alloc _ _ b hbl).trans hb, Ft, hs, hD⟩)
  exact (callsIn_wide (n := 5)).1 (AnyZ.sorted_in Tryd.sorted35 Fence.wide 5 trivial trivial trivial trivial rfl (by omega) (sorts35 _) (enters_of Tryd.func49 (by kernel_rfl) rfl) 50 #[.pointer (some ⟨w.heap.size, 0, none⟩)] trivial (enters_of Tryd.func50 (by kernel_rfl) rfl) _ _ (by simp only [maxLen]; omega) (by omega) _ hseq)

/-- A map's keys, sorted. -/
theorem sorted_mp {K : Nat} {l : List En} (w : World) (h : MP K l w) (hmax : l.length ≤ 2000000) :
    Calls Tryd.prog 35 #[.func (.func 50) #[] #[.pointer (some ⟨w.heap.size, 0, none⟩)]] (w.alloc (.cells #[.map (some K)] 63)) fun e w' => ∃ v, e = .returned v ∧ w'.ownsRow (w.heap.size + 1) 9 1 v l.length (cellsS (l.map En.key)) ∧ Below (w.heap.size + 1) (w.alloc (.cells #[.map (some K)] 63)) w' := by
  refine (sorted_any K _ _ w h.1 (by rw [size_ent]; exact hmax)).mono fun e w' ⟨v, ss, he, hp, ho, _, hbl⟩ => ?_
  have hsz : (w.alloc (.cells #[.map (some K)] 63)).heap.size = w.heap.size + 1 := by simp
  rw [hsz] at ho hbl
  refine ⟨v, he, ?_, hbl⟩
  have hl : ss.length = l.length := by have := hp.length_eq; rw [keys_ent] at this; simpa using this
  rw [sorted_ent h.2 hp] at ho
  rw [hl] at ho
  have hc : (l.map fun g => bl (En.key g)).map encStr = cellsS (l.map En.key) := by
    simp only [cellsS, List.map_map]
    refine List.map_congr_left fun g _ => ?_
    simp [encStr, bl]
  rwa [hc] at ho
section
variable {C D M : Nat} {ds ns : List En}
set_option maxRecDepth 100000 in
theorem names_any (w : World) (h : CA C D M ds ns w) (hmax : ns.length ≤ 1000000) : Calls Tryd.prog 29 #[.pointer (some ⟨C, 0, none⟩)] w fun e w' => ∃ A c, e = .returned (.slice A ns.length c) ∧ RdV w' A (cellsS (ns.map En.key)) ∧ Below w.heap.size w w' := by
  have HN := Lib.hid (none_any w h)
  have h1 := h.cells.2
  have HK := Lib.hid (fun v : World => keys_any (some M) v)
  have HS := Lib.hid (fun q => sorted_mp (w.drewN q) (h.nam.keep rfl) (by omega))
  clear h
  go_enter Tryd.func29, Tryd.ntmps29
  go_wp2_with fail
  refine HN.out.mono ?_
  rintro e w1 ⟨rfl, rfl⟩
  go_wp2_with fail
  refine (HK.out _).mono ?_
  rintro e w2 ⟨rfl, rfl⟩
  go_wp2_with fail
  refine (HS.out 0).mono ?_
  rintro e w3 ⟨v, rfl, ho, hb⟩
  obtain ⟨A, c, rfl, -, -, -, hr⟩ := own_rdV ho
  have HR := Lib.hid hr
  have HB := Lib.hid hb
  clear ho hr hb
  go_wp2_with fail
  go_ret
  exact ⟨A, c, rfl, HR.out, (below_new _ _).trans (HB.out.mono (Nat.le_succ w.heap.size))⟩
end
end Go.Proofs.YtpomaabkgbaikaaDoor
