/- Whether all instructions may be; whether a program may be. -/
import Derived.Test.YtccofgdcpmplmaaGreatDoorMay
namespace Go.Proofs.YtccofgdcpmplmaaGreatDoor
open Go Go.RowKit Go.Shelf
def namedB (g : Pg) : Bool := g.ps.all fun p => p.code.all (mayB g p)
section
variable {K B : Nat} {g : Pg} {p : Pr}
set_option maxRecDepth 100000 in
theorem nclo_any (x : Ins) (w : World) (h : AK K g p w) (hB : w.heap[B]? = some (.cells #[.pointer (some ⟨K, 0, none⟩)] 88 (0, 0))) (hf : g.fit) (hp : p.mid) (hc : p.code.length ≤ 1000000) (hx : x.ok) :
    Calls Tryz.prog 49 #[.agg x.vals, .pointer (some ⟨B, 0, none⟩)] w fun e w' => e = .returned (.bool (!mayB g p x)) ∧ Below w.heap.size w w' := by
  have hb := below_new w (.cells x.vals 42)
  have HB := Lib.hid hb
  have hX := heap_alloc_new w (.cells x.vals 42)
  have HX := Lib.hid hX
  have HM := Lib.hid (may_any x _ (h.below hb) hf hp hc hx)
  have HB1 := Lib.hid ((hb.block _ (Array.getElem?_eq_some_iff.1 hB).1).trans hB)
  generalize mayB g p x = t at *
  clear h hB hf hp hc hx hb hX
  go_enter Tryz.func49, Tryz.ntmps49
  go_upto_region 1 with (fail)
  generalize w.alloc (.cells x.vals 42) = w1 at *
  obtain ⟨x0, x1, x2, x3⟩ := cell4 HX.out
  have y0 : w1.cell? ⟨B, 0, none⟩ = some (.pointer (some ⟨K, 0, none⟩)) := by simp [World.cell?, HB1.out]
  go_wp2_with fail
  refine HM.out.mono ?_
  rintro e w2 ⟨rfl, hb⟩
  have HB2 := Lib.hid (HB.out.trans (hb.mono HB.out.size))
  clear hb
  go_wp2_with fail
  go_ret
  exact ⟨rfl, HB2.out⟩
end
abbrev lit12 : Array Value := #[.int .i64 0, .int .i64 0, .int .i64 0, .int .i64 1, .int .i64 2, .int .i64 0, .int .i64 1, .int .i64 0, .int .i64 0, .int .i64 1, .int .i64 0, .int .i64 0, .int .i64 1, .int .i64 5, .int .i64 0, .int .i64 1, .int .i64 6, .int .i64 0, .int .i64 1, .int .i64 1, .int .i64 0, .int .i64 1, .int .i64 0, .int .i64 0, .int .i64 1, .int .i64 0, .int .i64 0, .int .i64 1, .int .i64 0, .int .i64 0, .int .i64 1, .int .i64 1, .int .i64 1, .int .i64 1, .int .i64 1, .int .i64 1, .int .i64 1, .int .i64 1, .int .i64 1, .int .i64 1, .int .i64 1, .int .i64 1, .int .i64 1, .int .i64 1, .int .i64 1, .int .i64 1, .int .i64 1, .int .i64 1, .int .i64 1, .int .i64 1, .int .i64 1, .int .i64 1, .int .i64 1, .int .i64 1, .int .i64 1, .int .i64 1, .int .i64 1, .int .i64 1, .int .i64 1, .int .i64 1, .int .i64 1, .int .i64 1, .int .i64 1, .int .i64 1, .int .i64 1, .int .i64 1, .int .i64 1, .int .i64 1, .int .i64 1, .int .i64 1, .int .i64 1, .int .i64 1, .int .i64 1, .int .i64 1, .int .i64 0, .int .i64 1, .int .i64 1, .int .i64 0, .int .i64 1, .int .i64 1, .int .i64 0, .int .i64 4, .int .i64 0, .int .i64 0, .int .i64 1, .int .i64 4, .int .i64 0, .int .i64 1, .int .i64 4, .int .i64 0, .int .i64 3, .int .i64 4, .int .i64 1, .int .i64 3, .int .i64 4, .int .i64 1, .int .i64 1, .int .i64 8, .int .i64 0, .int .i64 1, .int .i64 7, .int .i64 9, .int .i64 1, .int .i64 0, .int .i64 0, .int .i64 0, .int .i64 0, .int .i64 0]
theorem lit_eq : arrK 12 = lit12 := by kernel_rfl
/-- The row of one who asks, before a function is set. -/
def akRow0 (g : Pg) : Array Value := #[.slice g.PA g.ps.length g.Pc, .slice g.IA g.is.length g.Ic, .slice g.TA g.ts.length g.Tc, .int .i64 0, .int .i64 0, .slice none 0 0] ++ arrK 12
def akRowN (g : Pg) (n : Nat) : Array Value := #[.slice g.PA n g.Pc, .slice g.IA g.is.length g.Ic, .slice g.TA g.ts.length g.Tc, .int .i64 0, .int .i64 0, .slice none 0 0] ++ arrK 12
theorem akRowN_eq {g : Pg} {n : Nat} (h : g.ps.length = n) : akRowN g n = akRow g ⟨0, 0, none, 0, []⟩ := by subst h; rfl
theorem akRow_size (g : Pg) (p : Pr) : (akRow g p).size = 114 := by simp [akRow, arrK_size]
theorem akRow0_eq (g : Pg) : akRow0 g = akRow g ⟨0, 0, none, 0, []⟩ := rfl
theorem nm_a {w1 w5 : World} {row : Array Value} (hb : Below w1.heap.size w1 w5) :
    Hid (((w5.alloc (.cells row 94)).alloc (.cells #[.pointer (some ⟨w5.heap.size, 0, none⟩)] 88)).heap[w5.heap.size + 1]? = some (.cells #[.pointer (some ⟨w5.heap.size, 0, none⟩)] 88 (0, 0)) ∧ ((w5.alloc (.cells row 94)).alloc (.cells #[.pointer (some ⟨w5.heap.size, 0, none⟩)] 88)).heap[w5.heap.size]? = some (.cells row 94 (0, 0)) ∧ Below w1.heap.size w1 ((w5.alloc (.cells row 94)).alloc (.cells #[.pointer (some ⟨w5.heap.size, 0, none⟩)] 88)) ∧ w1.heap.size ≤ w5.heap.size) := by
  have h1 := heap_alloc_new w5 (.cells row 94)
  have h2 := heap_alloc_new (w5.alloc (.cells row 94)) (.cells #[.pointer (some ⟨w5.heap.size, 0, none⟩)] 88)
  have b1 := below_new w5 (.cells row 94)
  have b2 := below_new (w5.alloc (.cells row 94)) (.cells #[.pointer (some ⟨w5.heap.size, 0, none⟩)] 88)
  have s1 : (w5.alloc (.cells row 94)).heap.size = w5.heap.size + 1 := by simp
  rw [s1] at h2
  exact Lib.hid ⟨h2, (b2.block _ (by omega)).trans h1, hb.trans ((b1.trans (b2.mono (by omega))).mono hb.size), hb.size⟩
theorem nm_b {w1 w5 : World} {row : Array Value} (hb : Below w1.heap.size w1 w5) :
    Hid (((w5.alloc (.cells #[.pointer (some ⟨w5.heap.size + 1, 0, none⟩)] 88)).alloc (.cells row 94)).heap[w5.heap.size]? = some (.cells #[.pointer (some ⟨w5.heap.size + 1, 0, none⟩)] 88 (0, 0)) ∧ ((w5.alloc (.cells #[.pointer (some ⟨w5.heap.size + 1, 0, none⟩)] 88)).alloc (.cells row 94)).heap[w5.heap.size + 1]? = some (.cells row 94 (0, 0)) ∧ Below w1.heap.size w1 ((w5.alloc (.cells #[.pointer (some ⟨w5.heap.size + 1, 0, none⟩)] 88)).alloc (.cells row 94)) ∧ w1.heap.size ≤ w5.heap.size + 1) := by
  have h1 := heap_alloc_new w5 (.cells #[.pointer (some ⟨w5.heap.size + 1, 0, none⟩)] 88)
  have h2 := heap_alloc_new (w5.alloc (.cells #[.pointer (some ⟨w5.heap.size + 1, 0, none⟩)] 88)) (.cells row 94)
  have b1 := below_new w5 (.cells #[.pointer (some ⟨w5.heap.size + 1, 0, none⟩)] 88)
  have b2 := below_new (w5.alloc (.cells #[.pointer (some ⟨w5.heap.size + 1, 0, none⟩)] 88)) (.cells row 94)
  have s1 : (w5.alloc (.cells #[.pointer (some ⟨w5.heap.size + 1, 0, none⟩)] 88)).heap.size = w5.heap.size + 1 := by simp
  rw [s1] at h2
  exact Lib.hid ⟨(b2.block _ (by omega)).trans h1, h2, hb.trans ((b1.trans (b2.mono (by omega))).mono hb.size), Nat.le_succ_of_le hb.size⟩
theorem nm_c {w1 w5 : World} {row : Array Value} (hb : Below w1.heap.size w1 w5) (hlt : w1.heap.size < w5.heap.size) (h0 : w5.heap[w1.heap.size]? = some (.cells #[.pointer none] 88 (0, 0))) :
    Hid (((w5.alloc (.cells row 94)).setCell ⟨w1.heap.size, 0, none⟩ (.pointer (some ⟨w5.heap.size, 0, none⟩))).heap[w1.heap.size]? = some (.cells #[.pointer (some ⟨w5.heap.size, 0, none⟩)] 88 (0, 0)) ∧ ((w5.alloc (.cells row 94)).setCell ⟨w1.heap.size, 0, none⟩ (.pointer (some ⟨w5.heap.size, 0, none⟩))).heap[w5.heap.size]? = some (.cells row 94 (0, 0)) ∧ Below w1.heap.size w1 ((w5.alloc (.cells row 94)).setCell ⟨w1.heap.size, 0, none⟩ (.pointer (some ⟨w5.heap.size, 0, none⟩))) ∧ w1.heap.size ≤ w5.heap.size) := by
  have h1 := heap_alloc_new w5 (.cells row 94)
  have b1 := below_new w5 (.cells row 94)
  have h2 := (b1.block _ hlt).trans h0
  exact Lib.hid ⟨row_put h2, (RowKit.Below.heap_setCell _ ⟨w1.heap.size, 0, none⟩ _ w5.heap.size (by show w5.heap.size ≠ w1.heap.size; omega)).trans h1, (hb.trans (b1.mono hb.size)).setCell (p := ⟨w1.heap.size, 0, none⟩) (Nat.le_refl _) _, hb.size⟩
theorem akRow_set (g : Pg) (p q : Pr) : (((akRow g q).setIfInBounds 3 (.int .i64 p.params)).setIfInBounds 4 (.int .i64 p.regs)).setIfInBounds 5 (.slice p.A p.code.length p.cap) = akRow g p := by kernel_rfl
theorem ak_place {W : World} {K : Nat} {g : Pg} {q : Pr} (h : W.heap[K]? = some (.cells (akRow g q) 94 (0, 0))) : W.cell? ⟨K, 3, none⟩ = some (.int .i64 q.params) ∧ W.cell? ⟨K, 4, none⟩ = some (.int .i64 q.regs) ∧ W.cell? ⟨K, 5, none⟩ = some (.slice q.A q.code.length q.cap) := by
  refine ⟨?_, ?_, ?_⟩ <;> (simp only [World.cell?, h]; unfold akRow; exact (Array.getElem?_append_left (by simp)).trans rfl)
set_option maxRecDepth 100000 in
set_option maxHeartbeats 16000000 in
theorem named_any (g : Pg) (w : World) (hg : g.at w) (hf : g.fit) (hm : ∀ p ∈ g.ps, p.mid) (hs : SPC w) :
    Calls Tryz.prog 27 #[.agg g.vals] w fun e w' => e = .returned (.bool (namedB g)) ∧ Below w.heap.size w w' := by
  have HB := Lib.hid (below_new w (.cells g.vals 26))
  have HX := Lib.hid (BXG.new hg)
  have HF := Lib.hid hf
  have HM := Lib.hid hm
  have HS := Lib.hid (spc_below hs HB.out)
  obtain ⟨n1, hn1⟩ : ∃ n, g.ps.length = n := ⟨_, rfl⟩
  have HN := Lib.hid hn1
  have hle := hf.p
  rw [hn1] at hle
  clear hg hf hm hs hn1
  go_enter Tryz.func27, Tryz.ntmps27
  go_upto_region 1 with (fail)
  generalize w.alloc (.cells g.vals 26) = w1 at *
  have HSH := Lib.hid (fun W => shapes_any W)
  obtain ⟨x0, x1, x2⟩ := HX.out.cells
  rw [HN.out] at x0
  have HSA : Hid (Calls Tryz.prog 47 #[] w1.drew fun e w' => e = .returned (.agg lit12) ∧ Below w1.drew.heap.size w1.drew w') := Lib.hid (by rw [← lit_eq]; exact HSH.out _)
  have HSB : Hid (Calls Tryz.prog 47 #[] (w1.alloc (.cells #[.pointer none] 88)).drew fun e w' => e = .returned (.agg lit12) ∧ Below (w1.alloc (.cells #[.pointer none] 88)).drew.heap.size (w1.alloc (.cells #[.pointer none] 88)).drew w') := Lib.hid (by rw [← lit_eq]; exact HSH.out _)
  have HCA : Hid (∀ W, Below w1.drew.heap.size w1.drew W → W.cell? ⟨w.heap.size, 0, none⟩ = some (.slice g.PA n1 g.Pc) ∧ W.cell? ⟨w.heap.size, 1, none⟩ = some (.slice g.IA g.is.length g.Ic) ∧ W.cell? ⟨w.heap.size, 2, none⟩ = some (.slice g.TA g.ts.length g.Tc)) := Lib.hid (fun W hb => by
    rw [← HN.out]
    exact (HX.out.below ((Below.refl _ _).drew.trans hb)).cells)
  have HCB : Hid (∀ W, Below (w1.alloc (.cells #[.pointer none] 88)).drew.heap.size (w1.alloc (.cells #[.pointer none] 88)).drew W → (W.cell? ⟨w.heap.size, 0, none⟩ = some (.slice g.PA n1 g.Pc) ∧ W.cell? ⟨w.heap.size, 1, none⟩ = some (.slice g.IA g.is.length g.Ic) ∧ W.cell? ⟨w.heap.size, 2, none⟩ = some (.slice g.TA g.ts.length g.Tc)) ∧ W.heap[w1.heap.size]? = some (.cells #[.pointer none] 88 (0, 0)) ∧ (∀ o, (W.alloc o).cell? ⟨w1.heap.size, 0, none⟩ = some (.pointer none)) ∧ (∀ o, (W.alloc o).frozen? ⟨w1.heap.size, 0, none⟩ = false) ∧ (∀ o v, ((W.alloc o).setCell ⟨w1.heap.size, 0, none⟩ v).cell? ⟨w.heap.size, 0, none⟩ = some (.slice g.PA n1 g.Pc) ∧ ((W.alloc o).setCell ⟨w1.heap.size, 0, none⟩ v).cell? ⟨w.heap.size, 1, none⟩ = some (.slice g.IA g.is.length g.Ic) ∧ ((W.alloc o).setCell ⟨w1.heap.size, 0, none⟩ v).cell? ⟨w.heap.size, 2, none⟩ = some (.slice g.TA g.ts.length g.Tc))) := Lib.hid (fun W hb => by
    have h1 := (below_new w1 (.cells #[.pointer none] 88)).drew.trans (hb.mono (by show w1.heap.size ≤ (w1.alloc _).heap.size; simp))
    have h2 : W.heap[w1.heap.size]? = some (.cells #[.pointer none] 88 (0, 0)) := (hb.block _ (by show w1.heap.size < (w1.alloc _).heap.size; simp)).trans (heap_alloc_new w1 _)
    rw [← HN.out]
    have h3 : ∀ o, (W.alloc o).heap[w1.heap.size]? = some (.cells #[.pointer none] 88 (0, 0)) := fun o => ((below_new W o).block _ (Array.getElem?_eq_some_iff.1 h2).1).trans h2
    exact ⟨(HX.out.below h1).cells, h2, fun o => by simp only [World.cell?, h3]; rfl, fun o => by simp only [World.frozen?, h3]; rfl, fun o v => by
      have hx := HX.out.below (h1.trans ((below_new W o).mono h1.size))
      have hlt : w.heap.size < w1.heap.size := (Array.getElem?_eq_some_iff.1 HX.out.b).1
      have hh : ((W.alloc o).setCell ⟨w1.heap.size, 0, none⟩ v).heap[w.heap.size]? = some (.cells g.vals 26 (0, 0)) := (RowKit.Below.heap_setCell _ ⟨w1.heap.size, 0, none⟩ _ w.heap.size (by show w.heap.size ≠ w1.heap.size; omega)).trans hx.b
      exact cell3 hh⟩)
  go_cut [3] from 6 to 9 (fun x3 W => ∃ b K row, x3 = .pointer (some ⟨b, 0, none⟩) ∧ Hid (row = akRowN g n1) ∧ Hid (W.heap[b]? = some (.cells #[.pointer (some ⟨K, 0, none⟩)] 88 (0, 0)) ∧ W.heap[K]? = some (.cells row 94 (0, 0)) ∧ Below w1.heap.size w1 W ∧ w1.heap.size ≤ K))
  case first =>
    go_region_held3 (fun W => W.cell? ⟨w.heap.size, 0, none⟩ = some (.slice g.PA n1 g.Pc) ∧ W.cell? ⟨w.heap.size, 1, none⟩ = some (.slice g.IA g.is.length g.Ic) ∧ W.cell? ⟨w.heap.size, 2, none⟩ = some (.slice g.TA g.ts.length g.Tc))
      (first | assumption | (exact ⟨x0, x1, x2⟩) | (exact ⟨y0, y1, y2⟩) | (exact ⟨z0, z1, z2⟩) | (exact z6 _ _) | go_keep | fail)
      (first
        | (go_at_call 47; with_reducible (refine HSA.out.mono ?_); rintro e w5 ⟨rfl, hb5⟩; obtain ⟨y0, y1, y2⟩ := HCA.out _ hb5; have HB5 := Lib.hid hb5; clear hb5)
        | (go_at_call 47; with_reducible (refine HSB.out.mono ?_); rintro e w5 ⟨rfl, hb5⟩; obtain ⟨⟨z0, z1, z2⟩, z3, z4, z5, z6⟩ := HCB.out _ hb5; have HB5 := Lib.hid hb5; clear hb5))
    · go_wp2_with fail
      go_meet
      exact ⟨_, _, _, rfl, Lib.hid (by kernel_rfl), nm_a ((Below.refl _ _).drew.trans HB5.out)⟩
    · go_wp2_with fail
      go_meet
      exact ⟨_, _, _, rfl, Lib.hid (by kernel_rfl), nm_b ((Below.refl _ _).drew.trans HB5.out)⟩
    · go_wp2_with fail
      go_meet
      exact ⟨_, _, _, rfl, Lib.hid (by kernel_rfl), nm_c ((below_new w1 _).drew.trans (HB5.out.mono (by show w1.heap.size ≤ (w1.alloc _).heap.size; simp))) (Nat.lt_of_lt_of_le (by show w1.heap.size < (w1.alloc (.cells #[.pointer none] 88)).drew.heap.size; show w1.heap.size < (w1.alloc (.cells #[.pointer none] 88)).heap.size; simp) HB5.out.size) z3⟩
  case rest =>
    obtain ⟨b, K, row, rfl, HRW, HW⟩ := hcut
    have HXC := Lib.hid (HX.out.below HW.out.2.2.1)
    have x0 := HXC.out.cells.1
    rw [HN.out] at x0
    have HAK0 : Hid (∃ q, wc.heap[K]? = some (.cells (akRow g q) 94 (0, 0))) := Lib.hid ⟨⟨0, 0, none, 0, []⟩, by rw [← akRowN_eq HN.out, ← HRW.out]; exact HW.out.2.1⟩
    have HBB := Lib.hid HW.out.1
    have HBW := Lib.hid HW.out.2.2.1
    have HKK := Lib.hid HW.out.2.2.2
    have HNE : Hid (b ≠ K) := Lib.hid (fun e => by have h1 := HW.out.1; rw [e, HW.out.2.1] at h1; cases h1)
    clear HSH HSA HSB HCA HCB HW
    go_wp2_with fail
    clear x0 x1 x2
    go_loopw [13] (fun i wr => ∃ k : Nat, k ≤ n1 ∧ i = .int .i64 k ∧ Hid ((g.ps.take k).all (fun p => p.code.all (mayB g p)) = true) ∧ Hid (∃ q, wr.heap[K]? = some (.cells (akRow g q) 94 (0, 0))) ∧ Hid (wr.heap[b]? = some (.cells #[.pointer (some ⟨K, 0, none⟩)] 88 (0, 0))) ∧ Hid (Below w1.heap.size w1 wr)) (fun i _ => n1 - (intOf i).toNat)
    case atStart => exact ⟨0, Nat.zero_le _, rfl, Lib.hid (by simp), HAK0, HBB, HBW⟩
    case round =>
      clear HAK0 HBB HBW HXC
      obtain ⟨k, hk, rfl, HE, HAQ, HBB, HBL⟩ := hrel
      by_cases hlt : k < n1
      rotate_left
      · have d1 : decide (k < n1) = false := decide_eq_false hlt
        have HR : Hid (namedB g = true) := Lib.hid (by
          have h1 := HE.out
          rwa [List.take_of_length_le (by have := HN.out; omega)] at h1)
        go_wp2_with fail
        go_ret
        exact ⟨by rw [HR.out]; rfl, HB.out.trans (HBL.out.mono HB.out.size)⟩
      have d1 : decide (k < n1) = true := decide_eq_true hlt
      have hk0 : (0 : Int) ≤ (k : Int) := by omega
      have hkl : (k : Int) < (n1 : Int) := by omega
      have hka : k < g.ps.length := by have := HN.out; omega
      obtain ⟨b3, o3, hA, -, u0, u1, u2⟩ := (HX.out.below HBL.out).g.ps.at hka
      have HPM := Lib.hid (List.getElem_mem hka)
      have HNX : Hid (g.ps[k].code.any (fun x => !mayB g g.ps[k] x) = false → (g.ps.take (k + 1)).all (fun p => p.code.all (mayB g p)) = true) := Lib.hid (fun h => by
        have h1 := HE.out
        rw [List.take_succ_eq_append_getElem hka]
        generalize g.ps.take k = m at *
        rw [List.all_append, h1]
        simp only [Bool.true_and, List.all_cons, List.all_nil, Bool.and_true]
        rw [List.all_eq_true]
        intro x hx
        have h2 := List.any_eq_false.1 h x hx
        simpa using h2)
      have HNO : Hid (g.ps[k].code.any (fun x => !mayB g g.ps[k] x) = true → namedB g = false) := Lib.hid (fun h => by
        obtain ⟨x, hx, h2⟩ := List.any_eq_true.1 h
        unfold namedB
        cases hq : (g.ps.all fun p => p.code.all (mayB g p)) with
        | false => rfl
        | true =>
          have h3 := List.all_eq_true.1 (List.all_eq_true.1 hq _ (List.getElem_mem hka)) x hx
          rw [h3] at h2
          cases h2)
      obtain ⟨p, hp⟩ : ∃ p, g.ps[k] = p := ⟨_, rfl⟩
      rw [hp] at u0 u1 u2 HPM HNX HNO
      rw [hA]
      clear hp hka hA HE
      have hb2 := below_new wr (.cells p.vals 39)
      have hx2 := heap_alloc_new wr (.cells p.vals 39)
      have hB2 := (hb2.block _ (Array.getElem?_eq_some_iff.1 HBB.out).1).trans HBB.out
      obtain ⟨q, hq⟩ := HAQ.out
      have hKlt : K < wr.heap.size := (Array.getElem?_eq_some_iff.1 hq).1
      have hK2 := (hb2.block _ hKlt).trans hq
      have y0 : (wr.alloc (.cells p.vals 39)).cell? ⟨b, 0, none⟩ = some (.pointer (some ⟨K, 0, none⟩)) := by simp only [World.cell?, hB2]; rfl
      obtain ⟨z0, z1, z2⟩ := cell3 hx2
      obtain ⟨v3, v4, v5⟩ := ak_place hK2
      have f3 := freeK hK2 3
      have f4 := freeK hK2 4
      have f5 := freeK hK2 5
      have HW2 := Lib.hid (And.intro hb2 (And.intro hx2 (And.intro hB2 (And.intro hK2 hKlt))))
      clear hb2 hx2 hB2 hq hKlt hK2
      go_upto_region 6 with (fail)
      have hne1 : b ≠ K := HNE.out
      have hne2 : wr.heap.size ≠ K := by have := HW2.out.2.2.2.2; omega
      have r1 := row_put (j := 3) (v := .int .i64 p.params) HW2.out.2.2.2.1
      have r2 := row_put (j := 4) (v := .int .i64 p.regs) r1
      have r3 := row_put (j := 5) (v := .slice p.A p.code.length p.cap) r2
      rw [akRow_set] at r3
      have hs : ∀ (i : Nat), i ≠ K → ((((wr.alloc (.cells p.vals 39)).setCell ⟨K, 3, none⟩ (.int .i64 p.params)).setCell ⟨K, 4, none⟩ (.int .i64 p.regs)).setCell ⟨K, 5, none⟩ (.slice p.A p.code.length p.cap)).heap[i]? = (wr.alloc (.cells p.vals 39)).heap[i]? := fun i hi =>
        (RowKit.Below.heap_setCell _ ⟨K, 5, none⟩ _ i hi).trans ((RowKit.Below.heap_setCell _ ⟨K, 4, none⟩ _ i hi).trans (RowKit.Below.heap_setCell _ ⟨K, 3, none⟩ _ i hi))
      have HB3 : Hid (Below w1.heap.size w1 ((((wr.alloc (.cells p.vals 39)).setCell ⟨K, 3, none⟩ (.int .i64 p.params)).setCell ⟨K, 4, none⟩ (.int .i64 p.regs)).setCell ⟨K, 5, none⟩ (.slice p.A p.code.length p.cap))) := Lib.hid ((((HBL.out.trans (HW2.out.1.mono HBL.out.size)).setCell (p := ⟨K, 3, none⟩) HKK.out _).setCell (p := ⟨K, 4, none⟩) HKK.out _).setCell (p := ⟨K, 5, none⟩) HKK.out _)
      have HK3 := Lib.hid r3
      have HBB3 := Lib.hid ((hs b hne1).trans HW2.out.2.2.1)
      have HX3 := Lib.hid ((hs wr.heap.size hne2).trans HW2.out.2.1)
      clear r1 r2 r3 hs hne1 hne2 HW2 HBB HBL y0 z0 z1 z2 v3 v4 v5 f3 f4 f5 u0 u1 u2
      generalize (((wr.alloc (.cells p.vals 39)).setCell ⟨K, 3, none⟩ (.int .i64 p.params)).setCell ⟨K, 4, none⟩ (.int .i64 p.regs)).setCell ⟨K, 5, none⟩ (.slice p.A p.code.length p.cap) = w3 at *
      generalize wr.heap.size = X at *
      obtain ⟨z0, z1, z2⟩ := cell3 HX3.out
      have HGX := Lib.hid (HX.out.below HB3.out).g
      have HAK : Hid (AK K g p w3) := Lib.hid ⟨HK3.out, HGX.out, spc_below HS.out HB3.out⟩
      have HCF := Lib.hid (cfi_any (fun x => !mayB g p x) b p.A p.cap p.code w3 (HGX.out.code p HPM.out) (by have := HF.out.c p HPM.out; omega) (fun x hx W hb => nclo_any x W (HAK.out.below hb) ((hb.block _ (Array.getElem?_eq_some_iff.1 HBB3.out).1).trans HBB3.out) HF.out (HM.out p HPM.out) (HF.out.c p HPM.out) ((HF.out.r p HPM.out).2.2 x hx)))
      cases ht : p.code.any (fun x => !mayB g p x) with
      | true =>
        rw [ht] at HCF
        have HR := Lib.hid (HNO.out ht)
        clear HNO HNX ht
        go_wp2_with fail
        refine HCF.out.mono ?_
        rintro e w6 ⟨rfl, hb6⟩
        have HB6 := Lib.hid (HB3.out.trans (hb6.mono HB3.out.size))
        clear hb6
        go_wp2_with fail
        go_ret
        exact ⟨by rw [HR.out]; rfl, HB.out.trans (HB6.out.mono HB.out.size)⟩
      | false =>
        rw [ht] at HCF
        have HN2 := Lib.hid (HNX.out ht)
        clear HNO HNX ht
        go_wp2_with fail
        refine HCF.out.mono ?_
        rintro e w6 ⟨rfl, hb6⟩
        have HB6 := Lib.hid (HB3.out.trans (hb6.mono HB3.out.size))
        have HAQ6 : Hid (∃ q, w6.heap[K]? = some (.cells (akRow g q) 94 (0, 0))) := Lib.hid ⟨p, (hb6.block _ (Array.getElem?_eq_some_iff.1 HK3.out).1).trans HK3.out⟩
        have HBB6 := Lib.hid ((hb6.block _ (Array.getElem?_eq_some_iff.1 HBB3.out).1).trans HBB3.out)
        clear hb6 HCF HAK HGX z0 z1 z2 HX3 HK3 HBB3 HB3
        go_wp2_with fail
        go_roundw
        case rel => exact ⟨k + 1, by omega, by go_num, HN2, HAQ6, HBB6, HB6⟩
        case measure => simp [intOf]; omega
end Go.Proofs.YtccofgdcpmplmaaGreatDoor
