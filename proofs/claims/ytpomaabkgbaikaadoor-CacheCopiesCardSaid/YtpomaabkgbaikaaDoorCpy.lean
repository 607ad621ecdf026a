/- A copy of a cache. -/
import Derived.Test.YtpomaabkgbaikaaDoorFd
import Derived.Test.YtpomaabkgbaikaaDoorShelf
namespace Go.Proofs.YtpomaabkgbaikaaDoor
open Go Go.RowKit Go.Shelf
attribute [local go_sem] Oper.semAt_some
section
variable {C D M : Nat} {ds ns : List En}
theorem clone_mp {K : Nat} {l : List En} (w : World) (h : MP K l w) : Calls Tryd.prog 34 #[.map (some K)] w fun e w' => e = .returned (.map (some w.heap.size)) ∧ MP w.heap.size l w' ∧ Below w.heap.size w w' :=
  (AnyW.maps_Clone_owns Tryd.clone34 9 kR K l.length _ w h.1).mono fun e w' ⟨he, h1, _, hb⟩ => ⟨he, ⟨h1, h.2⟩, hb⟩
set_option maxRecDepth 100000 in
set_option maxHeartbeats 4000000 in
theorem copy_any (w : World) (h : CA C D M ds ns w) : Calls Tryd.prog 17 #[.pointer (some ⟨C, 0, none⟩)] w fun e w' => ∃ C2 D2 M2, e = .returned (.pointer (some ⟨C2, 0, none⟩)) ∧ CA C2 D2 M2 ds ns w' ∧ Below w.heap.size w w' ∧ ∀ b, TC C2 D2 M2 b → w.heap.size ≤ b := by
  have HN := Lib.hid (none_any w h)
  have h1 := h.cells.1
  have h2 := h.cells.2
  have HC := Lib.hid h
  have HK1 := Lib.hid (clone_mp w.drew (h.dig.keep (W' := w.drew) rfl))
  have HK2 : Hid (∀ w5, Below w.drew.heap.size w.drew w5 → Calls Tryd.prog 34 #[.map (some M)] w5 fun e w' => e = .returned (.map (some w5.heap.size)) ∧ MP w5.heap.size ns w' ∧ Below w5.heap.size w5 w') := Lib.hid (fun w5 hb => clone_mp w5 (h.nam.keep (W' := w5) (hb.block _ h.nam.lt)))
  have HCC : Hid (∀ w5, Below w.drew.heap.size w.drew w5 → w5.cell? ⟨C, 0, none⟩ = some (.map (some D)) ∧ w5.cell? ⟨C, 1, none⟩ = some (.map (some M))) := Lib.hid (fun w5 hb => ⟨(hb.cell (p := ⟨C, 0, none⟩) (h.lt C (.inl rfl))).trans h1, (hb.cell (p := ⟨C, 1, none⟩) (h.lt C (.inl rfl))).trans h2⟩)
  have HTR : Hid (∀ w5 w6, Below w.drew.heap.size w.drew w5 → Below w5.heap.size w5 w6 → Below w.drew.heap.size w.drew w6) := Lib.hid (fun w5 w6 h5 h6 => h5.trans (h6.mono h5.size))
  clear h
  go_enter Tryd.func17, Tryd.ntmps17
  go_wp2_with fail
  refine HN.out.mono ?_
  rintro e w1 ⟨rfl, rfl⟩
  go_wp2_with fail
  go_region_held3 (fun W => W.cell? ⟨C, 0, none⟩ = some (.map (some D)) ∧ W.cell? ⟨C, 1, none⟩ = some (.map (some M)))
    (first | assumption | (exact ⟨h1, h2⟩) | (exact ⟨c7, c8⟩) | (exact ⟨c5, c6⟩) | go_keep | fail)
    (first
      | (go_at_call 34; with_reducible (refine HK1.out.mono ?_); rintro e w5 ⟨rfl, hm5, hb5⟩; have HB5 := Lib.hid hb5; have HM5 := Lib.hid hm5; obtain ⟨c5, c6⟩ := HCC.out _ hb5; clear hb5 hm5)
      | (go_at_call 34; with_reducible (refine (HK2.out _ HB5.out).mono ?_); rintro e w6 ⟨rfl, hm6, hb6⟩; have HM6 := Lib.hid hm6; have HB6 := Lib.hid hb6; have HB7 := Lib.hid (HTR.out _ _ HB5.out hb6); obtain ⟨c7, c8⟩ := HCC.out _ HB7.out; clear hb6 hm6))
  have hs5 : w.heap.size < w5.heap.size := HM5.out.lt
  have hs6 : w5.heap.size < w6.heap.size := HM6.out.lt
  have HA6 := Lib.hid (below_new w6 (.cells #[.map (some w.heap.size), .map (some w5.heap.size)] 68))
  have HC1 := Lib.hid ((HM5.out.keep (W' := w6) (HB6.out.block _ hs5)).keep (HA6.out.block _ (by show w.heap.size < _; omega)))
  have HC2 := Lib.hid (HM6.out.keep (HA6.out.block _ hs6))
  have HC3 := Lib.hid (heap_alloc_new w6 (.cells #[.map (some w.heap.size), .map (some w5.heap.size)] 68))
  have HBB : Hid (Below w.heap.size w (w6.alloc (.cells #[.map (some w.heap.size), .map (some w5.heap.size)] 68))) := Lib.hid (((Below.refl _ w).drew.trans HB7.out).trans (HA6.out.mono (by show w.heap.size ≤ _; omega)))
  go_wp2_with fail
  go_ret
  refine ⟨w6.heap.size, w.heap.size, w5.heap.size, rfl, ⟨HC3.out, HC1.out, HC2.out, by omega⟩, HBB.out, ?_⟩
  rintro b (rfl | rfl | rfl) <;> omega
end
end Go.Proofs.YtpomaabkgbaikaaDoor
