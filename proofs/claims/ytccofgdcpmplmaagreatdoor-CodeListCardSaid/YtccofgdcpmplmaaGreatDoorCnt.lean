/- How many instructions; the first three asks. -/
import Derived.Test.YtccofgdcpmplmaaGreatDoorLrg
namespace Go.Proofs.YtccofgdcpmplmaaGreatDoor
open Go Go.RowKit Go.Shelf
def cnt (l : List Pr) : Nat := (l.map fun p => p.code.length).sum
theorem cnt_next {l : List Pr} {k : Nat} (h : k < l.length) : cnt (l.take (k + 1)) = cnt (l.take k) + l[k].code.length := by
  unfold cnt
  rw [List.take_succ_eq_append_getElem h]
  generalize l.take k = m
  simp
theorem cnt_le {l : List Pr} {B : Nat} (h : ∀ p ∈ l, p.code.length ≤ B) : cnt l ≤ B * l.length := by
  unfold cnt
  induction l with
  | nil => simp
  | cons x l ih =>
    have h1 := h x (by simp)
    have h2 := ih (fun p hp => h p (by simp [hp]))
    simp only [List.map_cons, List.sum_cons, List.length_cons]
    rw [Nat.mul_add]
    omega
/-- A program whose parts are not too great to be counted. -/
structure Pg.fit (g : Pg) : Prop where
  p : g.ps.length ≤ 1000000
  c : ∀ p ∈ g.ps, p.code.length ≤ 1000000
  i : g.is.length ≤ 1000000
  t : g.ts.length ≤ 1000000
  s : ∀ x ∈ g.ts, x.size ≤ 140737488351232
  r : ∀ p ∈ g.ps, inI p.params ∧ inI p.regs ∧ ∀ x ∈ p.code, x.ok
theorem Pg.few.fit {g : Pg} (h : g.few) (ok : g.ok) : g.fit := ⟨by have := h.p; omega, fun p hp => by have := h.c p hp; omega, by have := h.i; omega, by have := h.t; omega, ok.to, fun p hp => ⟨(ok.po p hp).params, (ok.po p hp).regs, (ok.po p hp).ins⟩⟩
theorem Pg.fit.cnt {g : Pg} (h : g.fit) (k : Nat) (hk : k ≤ g.ps.length) : cnt (g.ps.take k) ≤ 1000000 * k := by
  have := cnt_le (l := g.ps.take k) (B := 1000000) (fun p hp => h.c p (List.mem_of_mem_take hp))
  rwa [List.length_take, Nat.min_eq_left hk] at this
/-- A box of a program. -/
theorem one_box (w : World) (a : Array Value) (t : TypeId) : (w.alloc (.cells a t)).heap[w.heap.size]? = some (.cells a t (0, 0)) ∧ Below w.heap.size w (w.alloc (.cells a t)) := ⟨heap_alloc_new w _, below_new w _⟩
structure BXG (g : Pg) (b : Nat) (W : World) : Prop where
  b : W.heap[b]? = some (.cells g.vals 26 (0, 0))
  g : g.at W
theorem BXG.below {g : Pg} {b : Nat} {W W' : World} (h : BXG g b W) (hb : Below W.heap.size W W') : BXG g b W' := ⟨(hb.block _ (Array.getElem?_eq_some_iff.1 h.b).1).trans h.b, h.g.below hb⟩
theorem BXG.cells {g : Pg} {b : Nat} {W : World} (h : BXG g b W) : W.cell? ⟨b, 0, none⟩ = some (.slice g.PA g.ps.length g.Pc) ∧ W.cell? ⟨b, 1, none⟩ = some (.slice g.IA g.is.length g.Ic) ∧ W.cell? ⟨b, 2, none⟩ = some (.slice g.TA g.ts.length g.Tc) := cell3 h.b
theorem BXG.new {g : Pg} {w : World} (h : g.at w) : BXG g w.heap.size (w.alloc (.cells g.vals 26)) := ⟨heap_alloc_new w _, h.below (below_new w _)⟩
set_option maxRecDepth 100000 in
set_option maxHeartbeats 4000000 in
theorem count_any (g : Pg) (w : World) (hg : g.at w) (hf : g.fit) :
    Calls Tryz.prog 13 #[.agg g.vals] w fun e w' => e = .returned (.int .i64 (cnt g.ps : Nat)) ∧ Below w.heap.size w w' := by
  have HB := Lib.hid (below_new w (.cells g.vals 26))
  have HX := Lib.hid (BXG.new hg)
  have HF := Lib.hid hf
  obtain ⟨n1, hn1⟩ : ∃ n, g.ps.length = n := ⟨_, rfl⟩
  have HN := Lib.hid hn1
  have hle := hf.p
  rw [hn1] at hle
  clear hg hf
  go_enter Tryz.func13, Tryz.ntmps13
  go_upto_region 2 with (fail)
  generalize w.alloc (.cells g.vals 26) = w1 at *
  obtain ⟨x0, x1, x2⟩ := HX.out.cells
  rw [hn1] at x0
  clear hn1
  go_wp2_with fail
  clear x0 x1 x2
  go_loopw [3, 9] (fun z i wr => ∃ k s : Nat, k ≤ n1 ∧ i = .int .i64 k ∧ z = .int .i64 s ∧ s ≤ 1000000 * k ∧ Hid (s = cnt (g.ps.take k)) ∧ Hid (Below w1.heap.size w1 wr)) (fun _ i _ => n1 - (intOf i).toNat)
  case atStart => exact ⟨0, 0, Nat.zero_le _, rfl, rfl, by omega, Lib.hid rfl, Lib.hid (Below.refl _ _)⟩
  case round =>
    obtain ⟨k, s, hk, rfl, rfl, hs, HE, HBL⟩ := hrel
    by_cases hlt : k < n1
    rotate_left
    · have d1 : decide (k < n1) = false := decide_eq_false hlt
      have HR : Hid (s = cnt g.ps) := Lib.hid (by
        have h1 := HE.out
        rwa [List.take_of_length_le (by have := HN.out; omega)] at h1)
      go_wp2_with fail
      go_ret
      exact ⟨by rw [← HR.out]; rfl, HB.out.trans (HBL.out.mono HB.out.size)⟩
    have d1 : decide (k < n1) = true := decide_eq_true hlt
    have hk0 : (0 : Int) ≤ (k : Int) := by omega
    have hkl : (k : Int) < (n1 : Int) := by omega
    have hka : k < g.ps.length := by have := HN.out; omega
    obtain ⟨b3, o3, hA, -, u0, u1, u2⟩ := (HX.out.g.ps.below HBL.out).at hka
    have HNX := Lib.hid (cnt_next hka)
    have hc := HF.out.c _ (List.getElem_mem hka)
    obtain ⟨p, hp⟩ : ∃ p, g.ps[k] = p := ⟨_, rfl⟩
    rw [hp] at u0 u1 u2 HNX hc
    have HZ2 : Hid (s + p.code.length = cnt (g.ps.take (k + 1))) := Lib.hid (by rw [HNX.out, ← HE.out])
    have hx := heap_alloc_new wr (.cells p.vals 39)
    have HB6 := Lib.hid (HBL.out.trans ((below_new wr (.cells p.vals 39)).mono HBL.out.size))
    obtain ⟨y0, y1, y2⟩ := cell3 hx
    rw [hA]
    clear hp hka HNX HE hx HBL
    go_wp2_with fail
    go_roundw
    case rel => exact ⟨k + 1, s + p.code.length, by omega, by go_num, by go_num, by omega, HZ2, HB6⟩
    case measure => simp [intOf]; omega
set_option maxRecDepth 100000 in
set_option maxHeartbeats 4000000 in
theorem rcount_any (g : Pg) (w : World) (hg : g.at w) (hf : g.fit) :
    Calls Tryz.prog 19 #[.agg g.vals] w fun e w' => e = .returned (.int .i64 (cnt g.ps : Nat)) ∧ Below w.heap.size w w' := by
  have HB := Lib.hid (below_new w (.cells g.vals 26))
  have HX := Lib.hid (BXG.new hg)
  have HF := Lib.hid hf
  obtain ⟨n1, hn1⟩ : ∃ n, g.ps.length = n := ⟨_, rfl⟩
  have HN := Lib.hid hn1
  have hle := hf.p
  rw [hn1] at hle
  clear hg hf
  go_enter Tryz.func19, Tryz.ntmps19
  go_upto_region 1 with (fail)
  generalize w.alloc (.cells g.vals 26) = w1 at *
  clear hn1
  go_wp2_with fail
  go_loopw [3, 4] (fun z i wr => ∃ k s : Nat, k ≤ n1 ∧ i = .int .i64 k ∧ z = .int .i64 s ∧ s ≤ 1000000 * k ∧ Hid (s = cnt (g.ps.take k)) ∧ Hid (Below w1.heap.size w1 wr)) (fun _ i _ => n1 - (intOf i).toNat)
  case atStart => exact ⟨0, 0, Nat.zero_le _, rfl, rfl, by omega, Lib.hid rfl, Lib.hid (Below.refl _ _)⟩
  case round =>
    obtain ⟨k, s, hk, rfl, rfl, hs, HE, HBL⟩ := hrel
    obtain ⟨x0, x1, x2⟩ := (HX.out.below HBL.out).cells
    rw [HN.out] at x0
    by_cases hlt : k < n1
    rotate_left
    · have d1 : decide (k < n1) = false := decide_eq_false hlt
      have HR : Hid (s = cnt g.ps) := Lib.hid (by
        have h1 := HE.out
        rwa [List.take_of_length_le (by have := HN.out; omega)] at h1)
      go_wp2_with fail
      go_ret
      exact ⟨by rw [← HR.out]; rfl, HB.out.trans (HBL.out.mono HB.out.size)⟩
    have d1 : decide (k < n1) = true := decide_eq_true hlt
    have hk0 : (0 : Int) ≤ (k : Int) := by omega
    have hkl : (k : Int) < (n1 : Int) := by omega
    have hka : k < g.ps.length := by have := HN.out; omega
    obtain ⟨b3, o3, hA, -, u0, u1, u2⟩ := (HX.out.g.ps.below HBL.out).at hka
    rw [hA] at x0
    have HNX := Lib.hid (cnt_next hka)
    have hc := HF.out.c _ (List.getElem_mem hka)
    obtain ⟨p, hp⟩ : ∃ p, g.ps[k] = p := ⟨_, rfl⟩
    rw [hp] at u0 u1 u2 HNX hc
    have HZ2 : Hid (s + p.code.length = cnt (g.ps.take (k + 1))) := Lib.hid (by rw [HNX.out, ← HE.out])
    clear hp hka HNX HE hA
    go_wp2_with fail
    go_roundw
    case rel => exact ⟨k + 1, s + p.code.length, by omega, by go_num, by go_num, by omega, HZ2, HBL⟩
    case measure => simp [intOf]; omega
end Go.Proofs.YtccofgdcpmplmaaGreatDoor
