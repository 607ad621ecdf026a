/- What is known. -/
import Derived.Test.YtccofgdcpmplmaaGreatDoorLsa
namespace Go.Proofs.YtccofgdcpmplmaaGreatDoor
open Go Go.RowKit Go.Shelf
abbrev o1 : Obj := .cells #[.int .i64 35, .int .i64 0, .int .i64 0, .int .i64 0] 42
abbrev o2 (b : Nat) : Obj := .cells #[.int .i64 0, .int .i64 0, .slice (some ⟨b, 0, none⟩) 1 1] 39
abbrev gE : Pg := ⟨none, 0, [], none, 0, [], none, 0, []⟩
theorem gE_bad : checkB gE = false := by rfl
theorem gE_fit : gE.fit := by
  refine ⟨(by simp), ?_, (by simp), (by simp), by simp, ?_⟩
  · intro p hp; cases hp
  · intro p hp; cases hp
theorem gE_at (W : World) : gE.at W := by
  refine ⟨fun h => absurd h (by simp), ?_, RdV.nil _ _, RdV.nil _ _⟩
  intro p hp; cases hp
theorem g0_at (W : World) (a b : Nat) (h1 : W.heap[a]? = some (.cells #[.int .i64 35, .int .i64 0, .int .i64 0, .int .i64 0] 42 (0, 0))) (h2 : W.heap[b]? = some (.cells #[.int .i64 0, .int .i64 0, .slice (some ⟨a, 0, none⟩) 1 1] 39 (0, 0))) : (g0 (some ⟨b, 0, none⟩) 1 (some ⟨a, 0, none⟩) 1).at W := by
  obtain ⟨u0, u1, u2, u3⟩ := cell4 h1
  obtain ⟨v0, v1, v2⟩ := cell3 h2
  refine ⟨?_, ?_, RdV.nil _ _, RdV.nil _ _⟩
  · intro _
    refine ⟨b, 0, rfl, (Array.getElem?_eq_some_iff.1 h2).1, ?_⟩
    intro i hi j hj
    simp only [List.length_singleton] at hi
    obtain rfl : i = 0 := by omega
    have hj3 : j = 0 ∨ j = 1 ∨ j = 2 := by omega
    rcases hj3 with rfl | rfl | rfl
    · exact v0
    · exact v1
    · exact v2
  · intro p hp
    simp only [List.mem_singleton] at hp
    subst hp
    intro _
    refine ⟨a, 0, rfl, (Array.getElem?_eq_some_iff.1 h1).1, ?_⟩
    intro i hi j hj
    simp only [List.length_singleton] at hi
    obtain rfl : i = 0 := by omega
    have hj3 : j = 0 ∨ j = 1 ∨ j = 2 ∨ j = 3 := by omega
    rcases hj3 with rfl | rfl | rfl | rfl
    · exact u0
    · exact u1
    · exact u2
    · exact u3
theorem sz_alloc (w : World) (o : Obj) : (w.alloc o).heap.size = w.heap.size + 1 := Array.size_push _
theorem txt_eq : ((ofL l2).toList == [102, 117, 110, 99, 32, 48, 32, 48, 10, 51, 53, 32, 48, 32, 48, 32, 48, 10]) = true := by rw [Lib.toList_data]; rfl
abbrev gK (n : Nat) : Pg := g0 (some ⟨n + 1, 0, none⟩) 1 (some ⟨n, 0, none⟩) 1
theorem known_new (w : World) : BXG (gK w.heap.size) (w.heap.size + 2) (((w.alloc o1).alloc (o2 w.heap.size)).alloc (.cells (gK w.heap.size).vals 26)) ∧ Below w.heap.size w (((w.alloc o1).alloc (o2 w.heap.size)).alloc (.cells (gK w.heap.size).vals 26)) := by
  have b1 := below_new w o1
  have b2 := b1.trans ((below_new (w.alloc o1) (o2 w.heap.size)).mono b1.size)
  have h1 : ((w.alloc o1).alloc (o2 w.heap.size)).heap[w.heap.size]? = some (.cells #[.int .i64 35, .int .i64 0, .int .i64 0, .int .i64 0] 42 (0, 0)) := ((below_new (w.alloc o1) (o2 w.heap.size)).block _ (Array.getElem?_eq_some_iff.1 (heap_alloc_new w o1)).1).trans (heap_alloc_new w o1)
  have h2 : ((w.alloc o1).alloc (o2 w.heap.size)).heap[w.heap.size + 1]? = some (.cells #[.int .i64 0, .int .i64 0, .slice (some ⟨w.heap.size, 0, none⟩) 1 1] 39 (0, 0)) := by
    rw [← sz_alloc w o1]
    exact heap_alloc_new (w.alloc o1) (o2 w.heap.size)
  have hat := g0_at _ _ _ h1 h2
  have hb := BXG.new hat
  have e : ((w.alloc o1).alloc (o2 w.heap.size)).heap.size = w.heap.size + 2 := by rw [sz_alloc, sz_alloc]
  rw [e] at hb
  exact ⟨hb, b2.trans ((below_new _ _).mono b2.size)⟩
theorem cnt_gK (n : Nat) : cnt (gK n).ps = 1 := by rfl
set_option maxRecDepth 100000 in
set_option maxHeartbeats 16000000 in
theorem known_any (w : World) (hs : SPC w) :
    Calls Tryz.prog 6 #[] w fun e w' => e = .returned (.bool true) ∧ Below w.heap.size w w' := by
  obtain ⟨hx, hb⟩ := known_new w
  have HX := Lib.hid hx
  have HB := Lib.hid hb
  have HS := Lib.hid hs
  clear hx hb hs
  go_enter Tryz.func6, Tryz.ntmps6
  go_upto_region 2 with (fail)
  generalize (World.alloc (World.alloc (World.alloc w _) _) _) = w3 at *
  have hcx : ∀ W, Below w3.heap.size w3 W → W.cell? ⟨w.heap.size + 2, 0, none⟩ = some (.slice (some ⟨w.heap.size + 1, 0, none⟩) 1 1) ∧ W.cell? ⟨w.heap.size + 2, 1, none⟩ = some (.slice none 0 0) ∧ W.cell? ⟨w.heap.size + 2, 2, none⟩ = some (.slice none 0 0) := fun W hb => (HX.out.below hb).cells
  have HCX := Lib.hid hcx
  clear hcx
  have HC1 : Hid (Calls Tryz.prog 7 #[.agg #[.slice (some ⟨w.heap.size + 1, 0, none⟩) 1 1, .slice none 0 0, .slice none 0 0]] w3 fun e w' => e = .returned (.tuple #[.string (ofL l2), .int .i64 0]) ∧ Below w3.heap.size w3 w') := Lib.hid (list_one _ _ _ _ w3 HX.out.g (spc_below HS.out HB.out))
  have HC2 : Hid (∀ W, Below w3.heap.size w3 W → Calls Tryz.prog 12 #[.agg #[.slice (some ⟨w.heap.size + 1, 0, none⟩) 1 1, .slice none 0 0, .slice none 0 0]] W fun e w' => e = .returned (.int .i64 0) ∧ Below W.heap.size W w') := Lib.hid (fun W hb => by
    have h := check_any (gK w.heap.size) W (HX.out.g.below hb) (g0_fit _ _ _ _) (spc_below HS.out (HB.out.trans (hb.mono HB.out.size)))
    rw [g0_fine] at h
    exact h)
  have HC3 : Hid (∀ W, Below w3.heap.size w3 W → Calls Tryz.prog 12 #[.agg #[.slice none 0 0, .slice none 0 0, .slice none 0 0]] W fun e w' => e = .returned (.int .i64 2) ∧ Below W.heap.size W w') := Lib.hid (fun W hb => by
    have h := check_any gE W (gE_at W) gE_fit (spc_below HS.out (HB.out.trans (hb.mono HB.out.size)))
    rw [gE_bad] at h
    exact h)
  have HC4 : Hid (∀ W, Below w3.heap.size w3 W → Calls Tryz.prog 13 #[.agg #[.slice (some ⟨w.heap.size + 1, 0, none⟩) 1 1, .slice none 0 0, .slice none 0 0]] W fun e w' => e = .returned (.int .i64 1) ∧ Below W.heap.size W w') := Lib.hid (fun W hb => by
    have h := count_any (gK w.heap.size) W (HX.out.g.below hb) (g0_fit _ _ _ _)
    rw [cnt_gK] at h
    exact h)
  have hq := txt_eq
  obtain ⟨x0, x1, x2⟩ := HCX.out _ (Below.refl _ _)
  go_wp2_with fail
  refine HC1.out.mono ?_
  rintro e w4 ⟨rfl, hb4⟩
  have HB4 := Lib.hid hb4
  clear hb4 x0 x1 x2
  obtain ⟨x0, x1, x2⟩ := HCX.out _ HB4.out
  go_wp2_with fail
  refine (HC2.out _ HB4.out).mono ?_
  rintro e w5 ⟨rfl, hb5⟩
  have HB5 := Lib.hid (HB4.out.trans (hb5.mono HB4.out.size))
  clear hb5 x0 x1 x2
  obtain ⟨x0, x1, x2⟩ := HCX.out _ HB5.out
  go_wp2_with fail
  refine (HC3.out _ HB5.out).mono ?_
  rintro e w6 ⟨rfl, hb6⟩
  have HB6 := Lib.hid (HB5.out.trans (hb6.mono HB5.out.size))
  clear hb6 x0 x1 x2
  obtain ⟨x0, x1, x2⟩ := HCX.out _ HB6.out
  go_wp2_with fail
  refine (HC4.out _ HB6.out).mono ?_
  rintro e w7 ⟨rfl, hb7⟩
  have HB7 := Lib.hid (HB6.out.trans (hb7.mono HB6.out.size))
  clear hb7 x0 x1 x2
  go_wp2_with fail
  go_ret
  exact ⟨rfl, HB.out.trans (HB7.out.mono HB.out.size)⟩
end Go.Proofs.YtccofgdcpmplmaaGreatDoor
