/- A text that is told. -/
import Derived.Test.YthffghegdblljaaGreatKal
namespace Go.Proofs.YthffghegdblljaaGreat
open Go Go.RowKit
attribute [local go_sem] Oper.semAt_some
abbrev tgV (k : Int) (t : ByteArray) : Array Value := #[.int .i64 k, .string t, .slice none 0 0, .slice none 0 0, .slice none 0 0, .bool false, .int .i64 0]
theorem size27 : (Tryz.prog.info? 27).map (·.size) = some 7 := by kernel_rfl
theorem one27 (k : Int) (t : ByteArray) : (tgV k t).all (·.oneCell') = true := by simp [tgV, Value.oneCell']
theorem res64 (tmps : Array Value) (g : Nat) (k : Int) (t : ByteArray) (W : World) (t2 : tmps.getD 2 undef = .pointer (some ⟨g, 0, none⟩)) (c0 : W.heap[g]? = some (.cells (tgV k t) 27 (0, 0))) : (results Tryz.f64 tmps).run Tryz.prog W = .ok (.agg (tgV k t)) W := by
  have q0 : W.cell? ⟨g, 0, none⟩ = some (.int .i64 k) := by simp only [World.cell?, c0]; rfl
  have q1 : W.cell? ⟨g, 1, none⟩ = some (.string t) := by simp only [World.cell?, c0]; rfl
  have q2 : W.cell? ⟨g, 2, none⟩ = some (.slice none 0 0) := by simp only [World.cell?, c0]; rfl
  have q3 : W.cell? ⟨g, 3, none⟩ = some (.slice none 0 0) := by simp only [World.cell?, c0]; rfl
  have q4 : W.cell? ⟨g, 4, none⟩ = some (.slice none 0 0) := by simp only [World.cell?, c0]; rfl
  have q5 : W.cell? ⟨g, 5, none⟩ = some (.bool false) := by simp only [World.cell?, c0]; rfl
  have q6 : W.cell? ⟨g, 6, none⟩ = some (.int .i64 0) := by simp only [World.cell?, c0]; rfl
  simp only [Array.getD_eq_getD_getElem?] at t2
  simp [results, Tryz.results64, t2, q0, q1, q2, q3, q4, q5, q6, go_sem]
set_option maxRecDepth 200000 in
set_option maxHeartbeats 8000000 in
theorem told_th (h : Nat) (k : Int) (t : ByteArray) (w : World) (hh : TH w h k t) : Calls Tryz.prog 64 #[.pointer (some ⟨h, 0, none⟩)] w fun e w' => e = .returned (.agg (tgV k t)) ∧ Below w.heap.size w w' := by
  have hn := heap_alloc_new w (.cells #[.int .i64 0, .string sE, .slice none 0 0, .slice none 0 0, .slice none 0 0, .bool false, .int .i64 0] 27)
  have hb := below_new w (.cells #[.int .i64 0, .string sE, .slice none 0 0, .slice none 0 0, .slice none 0 0, .bool false, .int .i64 0] 27)
  have ht : TH (w.alloc (.cells #[.int .i64 0, .string sE, .slice none 0 0, .slice none 0 0, .slice none 0 0, .bool false, .int .i64 0] 27)) h k t := (hb.block h (hlt hh)).trans hh
  have HN := Lib.hid hn
  have HB := Lib.hid hb
  have HT := Lib.hid ht
  have HHG : Hid (h ≠ w.heap.size) := Lib.hid (by have := hlt hh; omega)
  clear hn hb ht hh
  go_enter Tryz.func64, Tryz.ntmps64
  go_upto_region 1 with (fail)
  generalize w.alloc (.cells #[.int .i64 0, .string sE, .slice none 0 0, .slice none 0 0, .slice none 0 0, .bool false, .int .i64 0] 27) = w1 at *
  refine wp_region_held_drew (S := fun W => TH W h k t ∧ (∃ cs : Array Value, W.heap[w.heap.size]? = some (.cells cs 27 (0, 0)) ∧ cs.size = 7) ∧ Below w.heap.size w W) (by kernel_rfl) ⟨HT.out, ⟨_, HN.out, rfl⟩, HB.out.drew⟩ (fun hHeld => ?_)
  clear HT HN HB
  refine wpAnyH_take (i := 0) (v := ?_) (by simp only [List.getElem?_toArray, List.getElem?_cons_succ, List.getElem?_cons_zero] <;> rfl) (by kernel_rfl) (by kernel_rfl) (by kernel_rfl) (by intro _ _ _ h; exact h) (Or.inl ⟨by rfl, ?_⟩) (by assumption) ?_
  rotate_left
  · intro W9 hSw
    obtain ⟨c0, c1, c2, c3, c4, c5, c7, c8⟩ := hSw.1.cells
    go_simp
    try with_reducible rfl
  try simp only [Act.put, List.setIfInBounds_toArray, List.set_cons_zero, List.set_cons_succ]
  refine wpAnyH_take (i := 1) (v := ?_) (by simp only [List.getElem?_toArray, List.getElem?_cons_succ, List.getElem?_cons_zero] <;> rfl) (by kernel_rfl) (by kernel_rfl) (by kernel_rfl) (by intro _ _ _ h; exact h) (Or.inl ⟨by rfl, ?_⟩) (by assumption) ?_
  rotate_left
  · intro W9 hSw
    obtain ⟨c0, c1, c2, c3, c4, c5, c7, c8⟩ := hSw.1.cells
    go_simp
    try with_reducible rfl
  try simp only [Act.put, List.setIfInBounds_toArray, List.set_cons_zero, List.set_cons_succ]
  refine wpAnyH_take (i := 2) (v := ?_) (by simp only [List.getElem?_toArray, List.getElem?_cons_succ, List.getElem?_cons_zero] <;> rfl) (by kernel_rfl) (by kernel_rfl) (by kernel_rfl) (by intro _ _ _ h; exact h) (Or.inl ⟨by rfl, ?_⟩) (by assumption) ?_
  rotate_left
  · intro W9 hSw
    obtain ⟨c0, c1, c2, c3, c4, c5, c7, c8⟩ := hSw.1.cells
    go_simp
    try with_reducible rfl
  try simp only [Act.put, List.setIfInBounds_toArray, List.set_cons_zero, List.set_cons_succ]
  refine wpAnyH_take (i := 3) (v := ?_) (by simp only [List.getElem?_toArray, List.getElem?_cons_succ, List.getElem?_cons_zero] <;> rfl) (by kernel_rfl) (by kernel_rfl) (by kernel_rfl) (by intro _ _ _ h; exact h) (Or.inl ⟨by rfl, ?_⟩) (by assumption) ?_
  rotate_left
  · intro W9 hSw
    obtain ⟨c0, c1, c2, c3, c4, c5, c7, c8⟩ := hSw.1.cells
    go_simp
    try with_reducible rfl
  try simp only [Act.put, List.setIfInBounds_toArray, List.set_cons_zero, List.set_cons_succ]
  refine wpAnyH_take (i := 4) (v := ?_) (by simp only [List.getElem?_toArray, List.getElem?_cons_succ, List.getElem?_cons_zero] <;> rfl) (by kernel_rfl) (by kernel_rfl) (by kernel_rfl) (by intro _ _ _ h; exact h) (Or.inl ⟨by rfl, ?_⟩) (by assumption) ?_
  rotate_left
  · intro W9 hSw
    obtain ⟨c0, c1, c2, c3, c4, c5, c7, c8⟩ := hSw.1.cells
    go_simp
    try with_reducible rfl
  try simp only [Act.put, List.setIfInBounds_toArray, List.set_cons_zero, List.set_cons_succ]
  refine wpAnyH_take (i := 5) (v := ?_) (by simp only [List.getElem?_toArray, List.getElem?_cons_succ, List.getElem?_cons_zero] <;> rfl) (by kernel_rfl) (by kernel_rfl) (by kernel_rfl) (by intro _ _ _ h; exact h) (Or.inl ⟨by rfl, ?_⟩) (by assumption) ?_
  rotate_left
  · intro W9 hSw
    obtain ⟨c0, c1, c2, c3, c4, c5, c7, c8⟩ := hSw.1.cells
    go_simp
    try with_reducible rfl
  try simp only [Act.put, List.setIfInBounds_toArray, List.set_cons_zero, List.set_cons_succ]
  refine wpAnyH_take (i := 6) (v := ?_) (by simp only [List.getElem?_toArray, List.getElem?_cons_succ, List.getElem?_cons_zero] <;> rfl) (by kernel_rfl) (by kernel_rfl) (by kernel_rfl) (by intro _ _ _ h; exact h) (Or.inl ⟨by rfl, ?_⟩) (by assumption) ?_
  rotate_left
  · intro W9 hSw
    obtain ⟨c0, c1, c2, c3, c4, c5, c7, c8⟩ := hSw.1.cells
    go_simp
    try with_reducible rfl
  try simp only [Act.put, List.setIfInBounds_toArray, List.set_cons_zero, List.set_cons_succ]
  refine wpAnyH_take (i := 7) (v := ?_) (by simp only [List.getElem?_toArray, List.getElem?_cons_succ, List.getElem?_cons_zero] <;> rfl) (by kernel_rfl) (by kernel_rfl) (by kernel_rfl) (by intro _ _ _ h; exact h) (Or.inl ⟨by rfl, ?_⟩) (by assumption) ?_
  rotate_left
  · intro W9 hSw
    obtain ⟨c0, c1, c2, c3, c4, c5, c7, c8⟩ := hSw.1.cells
    go_simp
    try with_reducible rfl
  try simp only [Act.put, List.setIfInBounds_toArray, List.set_cons_zero, List.set_cons_succ]
  refine wpAnyH_take (i := 8) (v := ?_) (by simp only [List.getElem?_toArray, List.getElem?_cons_succ, List.getElem?_cons_zero] <;> rfl) (by kernel_rfl) (by kernel_rfl) (by kernel_rfl) (by intro _ _ _ h; exact h) (Or.inl ⟨by rfl, ?_⟩) (by assumption) ?_
  rotate_left
  · intro W9 hSw
    obtain ⟨c0, c1, c2, c3, c4, c5, c7, c8⟩ := hSw.1.cells
    go_simp
    try with_reducible rfl
  try simp only [Act.put, List.setIfInBounds_toArray, List.set_cons_zero, List.set_cons_succ]
  refine wpAnyH_take (i := 9) (v := ?_) (by simp only [List.getElem?_toArray, List.getElem?_cons_succ, List.getElem?_cons_zero] <;> rfl) (by kernel_rfl) (by kernel_rfl) (by kernel_rfl) (by intro _ _ _ h; exact h) (Or.inl ⟨by rfl, ?_⟩) (by assumption) ?_
  rotate_left
  · intro W9 hSw
    obtain ⟨c0, c1, c2, c3, c4, c5, c7, c8⟩ := hSw.1.cells
    go_simp
    try with_reducible rfl
  try simp only [Act.put, List.setIfInBounds_toArray, List.set_cons_zero, List.set_cons_succ]
  refine wpAnyH_take (i := 10) (v := ?_) (by simp only [List.getElem?_toArray, List.getElem?_cons_succ, List.getElem?_cons_zero] <;> rfl) (by kernel_rfl) (by kernel_rfl) (by kernel_rfl) (by intro _ _ _ h; exact h) (Or.inl ⟨by rfl, ?_⟩) (by assumption) ?_
  rotate_left
  · intro W9 hSw
    obtain ⟨c0, c1, c2, c3, c4, c5, c7, c8⟩ := hSw.1.cells
    go_simp
    try with_reducible rfl
  try simp only [Act.put, List.setIfInBounds_toArray, List.set_cons_zero, List.set_cons_succ]
  refine wpAnyH_take (i := 11) (v := ?_) (by simp only [List.getElem?_toArray, List.getElem?_cons_succ, List.getElem?_cons_zero] <;> rfl) (by kernel_rfl) (by kernel_rfl) (by kernel_rfl) (by intro _ _ _ h; exact h) (Or.inl ⟨by rfl, ?_⟩) (by assumption) ?_
  rotate_left
  · intro W9 hSw
    obtain ⟨c0, c1, c2, c3, c4, c5, c7, c8⟩ := hSw.1.cells
    go_simp
    try with_reducible rfl
  try simp only [Act.put, List.setIfInBounds_toArray, List.set_cons_zero, List.set_cons_succ]
  refine wpAnyH_take (i := 13) (v := ?_) (by simp only [List.getElem?_toArray, List.getElem?_cons_succ, List.getElem?_cons_zero] <;> rfl) (by kernel_rfl) (by kernel_rfl) (by kernel_rfl) (by intro _ _ _ h; exact h) (Or.inl ⟨by rfl, ?_⟩) (by assumption) ?_
  rotate_left
  · intro W9 hSw
    obtain ⟨c0, c1, c2, c3, c4, c5, c7, c8⟩ := hSw.1.cells
    go_simp
    try with_reducible rfl
  try simp only [Act.put, List.setIfInBounds_toArray, List.set_cons_zero, List.set_cons_succ]
  refine wpAnyH_take (i := 16) (v := ?_) (by simp only [List.getElem?_toArray, List.getElem?_cons_succ, List.getElem?_cons_zero] <;> rfl) (by kernel_rfl) (by kernel_rfl) (by kernel_rfl) (by intro _ _ _ h; exact h) (Or.inl ⟨by rfl, ?_⟩) (by assumption) ?_
  rotate_left
  · intro W9 hSw
    obtain ⟨c0, c1, c2, c3, c4, c5, c7, c8⟩ := hSw.1.cells
    go_simp
    try with_reducible rfl
  try simp only [Act.put, List.setIfInBounds_toArray, List.set_cons_zero, List.set_cons_succ]
  refine wpAnyH_take (i := 17) (v := ?_) (by simp only [List.getElem?_toArray, List.getElem?_cons_succ, List.getElem?_cons_zero] <;> rfl) (by kernel_rfl) (by kernel_rfl) (by kernel_rfl) (by intro _ _ _ h; exact h) (Or.inl ⟨by rfl, ?_⟩) (by assumption) ?_
  rotate_left
  · intro W9 hSw
    obtain ⟨c0, c1, c2, c3, c4, c5, c7, c8⟩ := hSw.1.cells
    go_simp
    try with_reducible rfl
  try simp only [Act.put, List.setIfInBounds_toArray, List.set_cons_zero, List.set_cons_succ]
  refine wpAnyH_take (i := 18) (v := ?_) (by simp only [List.getElem?_toArray, List.getElem?_cons_succ, List.getElem?_cons_zero] <;> rfl) (by kernel_rfl) (by kernel_rfl) (by kernel_rfl) (by intro _ _ _ h; exact h) (Or.inl ⟨by rfl, ?_⟩) (by assumption) ?_
  rotate_left
  · intro W9 hSw
    obtain ⟨c0, c1, c2, c3, c4, c5, c7, c8⟩ := hSw.1.cells
    go_simp
    try with_reducible rfl
  try simp only [Act.put, List.setIfInBounds_toArray, List.set_cons_zero, List.set_cons_succ]
  refine wpAnyH_take (i := 19) (v := ?_) (by simp only [List.getElem?_toArray, List.getElem?_cons_succ, List.getElem?_cons_zero] <;> rfl) (by kernel_rfl) (by kernel_rfl) (by kernel_rfl) (by intro _ _ _ h; exact h) (Or.inl ⟨by rfl, ?_⟩) (by assumption) ?_
  rotate_left
  · intro W9 hSw
    obtain ⟨c0, c1, c2, c3, c4, c5, c7, c8⟩ := hSw.1.cells
    go_simp
    try with_reducible rfl
  try simp only [Act.put, List.setIfInBounds_toArray, List.set_cons_zero, List.set_cons_succ]
  refine wpAnyH_take (i := 21) (v := ?_) (by simp only [List.getElem?_toArray, List.getElem?_cons_succ, List.getElem?_cons_zero] <;> rfl) (by kernel_rfl) (by kernel_rfl) (by kernel_rfl) (by intro _ _ _ h; exact h) (Or.inl ⟨by rfl, ?_⟩) (by assumption) ?_
  rotate_left
  · intro W9 hSw
    obtain ⟨c0, c1, c2, c3, c4, c5, c7, c8⟩ := hSw.1.cells
    go_simp
    try with_reducible rfl
  try simp only [Act.put, List.setIfInBounds_toArray, List.set_cons_zero, List.set_cons_succ]
  refine wpAnyH_take (i := 22) (v := ?_) (by simp only [List.getElem?_toArray, List.getElem?_cons_succ, List.getElem?_cons_zero] <;> rfl) (by kernel_rfl) (by kernel_rfl) (by kernel_rfl) (by intro _ _ _ h; exact h) (Or.inl ⟨by rfl, ?_⟩) (by assumption) ?_
  rotate_left
  · intro W9 hSw
    obtain ⟨c0, c1, c2, c3, c4, c5, c7, c8⟩ := hSw.1.cells
    go_simp
    try with_reducible rfl
  try simp only [Act.put, List.setIfInBounds_toArray, List.set_cons_zero, List.set_cons_succ]
  refine wpAnyH_take (i := 23) (v := ?_) (by simp only [List.getElem?_toArray, List.getElem?_cons_succ, List.getElem?_cons_zero] <;> rfl) (by kernel_rfl) (by kernel_rfl) (by kernel_rfl) (by intro _ _ _ h; exact h) (Or.inl ⟨by rfl, ?_⟩) (by assumption) ?_
  rotate_left
  · intro W9 hSw
    obtain ⟨c0, c1, c2, c3, c4, c5, c7, c8⟩ := hSw.1.cells
    go_simp
    try with_reducible rfl
  try simp only [Act.put, List.setIfInBounds_toArray, List.set_cons_zero, List.set_cons_succ]
  refine wpAnyH_take (i := 24) (v := ?_) (by simp only [List.getElem?_toArray, List.getElem?_cons_succ, List.getElem?_cons_zero] <;> rfl) (by kernel_rfl) (by kernel_rfl) (by kernel_rfl) (by intro _ _ _ h; exact h) (Or.inl ⟨by rfl, ?_⟩) (by assumption) ?_
  rotate_left
  · intro W9 hSw
    obtain ⟨c0, c1, c2, c3, c4, c5, c7, c8⟩ := hSw.1.cells
    go_simp
    try with_reducible rfl
  try simp only [Act.put, List.setIfInBounds_toArray, List.set_cons_zero, List.set_cons_succ]
  refine wpAnyH_take (i := 25) (v := ?_) (by simp only [List.getElem?_toArray, List.getElem?_cons_succ, List.getElem?_cons_zero] <;> rfl) (by kernel_rfl) (by kernel_rfl) (by kernel_rfl) (by intro _ _ _ h; exact h) (Or.inl ⟨by rfl, ?_⟩) (by assumption) ?_
  rotate_left
  · intro W9 hSw
    obtain ⟨c0, c1, c2, c3, c4, c5, c7, c8⟩ := hSw.1.cells
    go_simp
    try with_reducible rfl
  try simp only [Act.put, List.setIfInBounds_toArray, List.set_cons_zero, List.set_cons_succ]
  refine wpAnyH_take (i := 26) (v := ?_) (by simp only [List.getElem?_toArray, List.getElem?_cons_succ, List.getElem?_cons_zero] <;> rfl) (by kernel_rfl) (by kernel_rfl) (by kernel_rfl) (by intro _ _ _ h; exact h) (Or.inl ⟨by rfl, ?_⟩) (by assumption) ?_
  rotate_left
  · intro W9 hSw
    obtain ⟨c0, c1, c2, c3, c4, c5, c7, c8⟩ := hSw.1.cells
    go_simp
    try with_reducible rfl
  try simp only [Act.put, List.setIfInBounds_toArray, List.set_cons_zero, List.set_cons_succ]
  refine wpAnyH_take (i := 27) (v := ?_) (by simp only [List.getElem?_toArray, List.getElem?_cons_succ, List.getElem?_cons_zero] <;> rfl) (by kernel_rfl) (by kernel_rfl) (by kernel_rfl) (by intro _ _ _ h; exact h) (Or.inl ⟨by rfl, ?_⟩) (by assumption) ?_
  rotate_left
  · intro W9 hSw
    obtain ⟨c0, c1, c2, c3, c4, c5, c7, c8⟩ := hSw.1.cells
    go_simp
    try with_reducible rfl
  try simp only [Act.put, List.setIfInBounds_toArray, List.set_cons_zero, List.set_cons_succ]
  refine wpAnyH_take (i := 28) (v := ?_) (by simp only [List.getElem?_toArray, List.getElem?_cons_succ, List.getElem?_cons_zero] <;> rfl) (by kernel_rfl) (by kernel_rfl) (by kernel_rfl) (by intro _ _ _ h; exact h) (Or.inl ⟨by rfl, ?_⟩) (by assumption) ?_
  rotate_left
  · intro W9 hSw
    obtain ⟨c0, c1, c2, c3, c4, c5, c7, c8⟩ := hSw.1.cells
    go_simp
    try with_reducible rfl
  try simp only [Act.put, List.setIfInBounds_toArray, List.set_cons_zero, List.set_cons_succ]
  refine wpAnyH_ready (rs := [12]) (by kernel_rfl) (by simp) ?_
  refine AllReadyH.cons (by simp only [List.getElem?_toArray, List.getElem?_cons_succ, List.getElem?_cons_zero] <;> rfl) (fun K hK => ?_) AllReadyH.nil
  · go_simp
    go_at_call 77
    refine (clone_p _).mono ?_
    rintro e w8 ⟨rfl, rfl⟩
    refine hK.out _ _ ⟨hHeld.1, hHeld.2.1, hHeld.2.2⟩ (fun hHeld2 => ?_)
    clear hK K hHeld
    rename _ => hHeld
    try simp only [Act.put, List.setIfInBounds_toArray, List.set_cons_zero, List.set_cons_succ]
    refine wpAnyH_ready (rs := [14]) (by kernel_rfl) (by simp) ?_
    refine AllReadyH.cons (by simp only [List.getElem?_toArray, List.getElem?_cons_succ, List.getElem?_cons_zero] <;> rfl) (fun K hK => ?_) AllReadyH.nil
    · go_simp
      go_at_call 111
      refine (items_th h k t _ hHeld.1).mono ?_
      rintro e w8 ⟨rfl, q, hq⟩
      refine hK.out _ _ ⟨hq ▸ hHeld.1, hq ▸ hHeld.2.1, hq ▸ below_any q hHeld.2.2⟩ (fun hHeld2 => ?_)
      clear hK K hHeld hq
      rename _ => hHeld
      try simp only [Act.put, List.setIfInBounds_toArray, List.set_cons_zero, List.set_cons_succ]
      refine wpAnyH_ready (rs := [15]) (by kernel_rfl) (by simp) ?_
      refine AllReadyH.cons (by simp only [List.getElem?_toArray, List.getElem?_cons_succ, List.getElem?_cons_zero] <;> rfl) (fun K hK => ?_) AllReadyH.nil
      · go_simp
        go_at_call 78
        refine (clone_s _).mono ?_
        rintro e w8 ⟨rfl, rfl⟩
        refine hK.out _ _ ⟨hHeld.1, hHeld.2.1, hHeld.2.2⟩ (fun hHeld2 => ?_)
        clear hK K hHeld
        rename _ => hHeld
        try simp only [Act.put, List.setIfInBounds_toArray, List.set_cons_zero, List.set_cons_succ]
        refine wpAnyH_ready (rs := [20]) (by kernel_rfl) (by simp) ?_
        refine AllReadyH.cons (by simp only [List.getElem?_toArray, List.getElem?_cons_succ, List.getElem?_cons_zero] <;> rfl) (fun K hK => ?_) AllReadyH.nil
        · go_simp
          go_at_call 79
          refine (clone_r _).mono ?_
          rintro e w8 ⟨rfl, rfl⟩
          refine hK.out _ _ ⟨hHeld.1, hHeld.2.1, hHeld.2.2⟩ (fun hHeld2 => ?_)
          clear hK K hHeld
          rename _ => hHeld
          try simp only [Act.put, List.setIfInBounds_toArray, List.set_cons_zero, List.set_cons_succ]
          refine wpAnyH_take (i := 29) (v := ?_) (by simp only [List.getElem?_toArray, List.getElem?_cons_succ, List.getElem?_cons_zero] <;> rfl) (by kernel_rfl) (by kernel_rfl) (by kernel_rfl) (by intro _ _ _ h; exact h) (Or.inl ⟨by rfl, ?_⟩) (by assumption) ?_
          rotate_left
          · intro W9 hSw
            obtain ⟨c0, c1, c2, c3, c4, c5, c7, c8⟩ := hSw.1.cells
            go_simp
            try with_reducible rfl
          try simp only [Act.put, List.setIfInBounds_toArray, List.set_cons_zero, List.set_cons_succ]
          refine wpAnyH_ready (rs := [30]) (by kernel_rfl) (by simp) ?_
          refine AllReadyH.cons (by simp only [List.getElem?_toArray, List.getElem?_cons_succ, List.getElem?_cons_zero] <;> rfl) (fun K hK => ?_) AllReadyH.nil
          obtain ⟨hT, ⟨cs, hcs, hc7⟩, hB⟩ := hHeld
          rw [if_pos (by kernel_rfl)]
          refine wp_store_row 27 (.tmp 2) (.tmp 32) rfl w.heap.size (tgV k t) rfl rfl 27 cs hcs size27 hc7 (one27 k t) ?_
          refine hK.out _ _ ⟨(setRow_other _ _ _ _ HHG.out).trans hT, ⟨_, setRow_heap _ _ _ _ _ _ hcs, rfl⟩, hB.trans ⟨rfl, rfl, rfl, by simp [World.setRow], fun k hk => setRow_other _ _ _ _ (by omega)⟩⟩ (fun hHeld => ?_)
          have HH := Lib.hid hHeld
          have HR := Lib.hid (setRow_heap _ w.heap.size cs (tgV k t) _ _ hcs)
          clear hK K hHeld hT hcs hc7 hB
          refine wpAnyH_done (by kernel_rfl) ?_ _
          go_wp2_with fail
          refine bodyPost_ret (res64 _ w.heap.size k t _ rfl HR.out) rfl ?_
          exact ⟨rfl, HH.out.2.2⟩
end Go.Proofs.YthffghegdblljaaGreat
