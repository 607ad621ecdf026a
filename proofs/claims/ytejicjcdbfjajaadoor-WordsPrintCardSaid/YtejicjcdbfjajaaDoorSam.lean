/- Which words are the same: the program's. -/
import Derived.Test.YtejicjcdbfjajaaDoorWds
namespace Go.Proofs.YtejicjcdbfjajaaDoor
open Go Go.RowKit
def sameW (x y : Wr) : Bool := decide (x.kind = y.kind) && decide (x.text = y.text) && decide (x.num = y.num)
def sameL : List Wr → List Wr → Bool
  | [], [] => true
  | r :: l, r' :: l' => sameW r r' && sameL l l'
  | _, _ => false
theorem sameL_len : ∀ (l m : List Wr), l.length ≠ m.length → sameL l m = false
  | [], [], h => absurd rfl h
  | [], _ :: _, _ => by simp [sameL]
  | _ :: _, [], _ => by simp [sameL]
  | r :: l, r' :: m, h => by
    rw [sameL, sameL_len l m (fun e => h (by simp [e])), Bool.and_false]
theorem sameL_next : ∀ (l m : List Wr) (k : Nat) (hk : k < l.length) (hm : k < m.length), sameL (l.take (k + 1)) (m.take (k + 1)) = (sameL (l.take k) (m.take k) && sameW l[k] m[k])
  | [], _, _, h, _ => absurd h (by simp)
  | _ :: _, [], _, _, h => absurd h (by simp)
  | r :: l, r' :: m, 0, _, _ => by simp [sameL]
  | r :: l, r' :: m, k + 1, h1, h2 => by
    have := sameL_next l m k (by simpa using h1) (by simpa using h2)
    rw [List.take_succ_cons, List.take_succ_cons, sameL, this, List.take_succ_cons, List.take_succ_cons, sameL]
    simp [Bool.and_assoc]
theorem sameL_cut : ∀ (l m : List Wr) (k : Nat) (hk : k < l.length) (hm : k < m.length), sameW l[k] m[k] = false → sameL l m = false
  | [], _, _, h, _, _ => absurd h (by simp)
  | _ :: _, [], _, _, h, _ => absurd h (by simp)
  | r :: l, r' :: m, 0, _, _, h => by
    have h' : sameW r r' = false := h
    rw [sameL, h', Bool.false_and]
  | r :: l, r' :: m, k + 1, h1, h2, h => by
    rw [sameL, sameL_cut l m k (by simpa using h1) (by simpa using h2) (by simpa using h), Bool.and_false]
theorem sameW_refl (x : Wr) : sameW x x = true := by simp [sameW]
theorem sameL_refl : ∀ l, sameL l l = true
  | [] => by simp [sameL]
  | x :: l => by rw [sameL, sameW_refl, sameL_refl l]; rfl
abbrev wrV (x : Wr) : Array Value := #[.int .i64 x.kind, .string x.text, .int .i64 x.num, .int .i64 x.at_]
set_option maxRecDepth 100000 in
set_option maxHeartbeats 8000000 in
theorem samew_any (x y : Wr) (w : World) : Calls Tryd.prog 36 #[.agg (wrV x), .agg (wrV y)] w fun e w' => e = .returned (.bool (sameW x y)) ∧ Below w.heap.size w w' := by
  have hb : Below w.heap.size w ((w.alloc (.cells (wrV x) 31)).alloc (.cells (wrV y) 31)) := (below_new w _).alloc (by simp) _
  have h0 : ((w.alloc (.cells (wrV x) 31)).alloc (.cells (wrV y) 31)).heap[w.heap.size]? = some (.cells (wrV x) 31 (0, 0)) := heap_alloc2_old _ _ _
  have h1 : ((w.alloc (.cells (wrV x) 31)).alloc (.cells (wrV y) 31)).heap[w.heap.size + 1]? = some (.cells (wrV y) 31 (0, 0)) := heap_alloc2_new _ _ _
  have HB := Lib.hid hb
  have HX0 := Lib.hid h0
  have HX1 := Lib.hid h1
  clear hb h0 h1
  go_enter Tryd.func36, Tryd.ntmps36
  go_upto_region 1 with (fail)
  generalize (w.alloc (.cells (wrV x) 31)).alloc (.cells (wrV y) 31) = W2 at *
  have z0 : W2.cell? ⟨w.heap.size, 0, none⟩ = some (.int .i64 x.kind) := by simp only [World.cell?, HX0.out]; rfl
  have z1 : W2.cell? ⟨w.heap.size, 1, none⟩ = some (.string x.text) := by simp only [World.cell?, HX0.out]; rfl
  have z2 : W2.cell? ⟨w.heap.size, 2, none⟩ = some (.int .i64 x.num) := by simp only [World.cell?, HX0.out]; rfl
  have t0 : W2.cell? ⟨w.heap.size + 1, 0, none⟩ = some (.int .i64 y.kind) := by simp only [World.cell?, HX1.out]; rfl
  have t1 : W2.cell? ⟨w.heap.size + 1, 1, none⟩ = some (.string y.text) := by simp only [World.cell?, HX1.out]; rfl
  have t2 : W2.cell? ⟨w.heap.size + 1, 2, none⟩ = some (.int .i64 y.num) := by simp only [World.cell?, HX1.out]; rfl
  by_cases hk : x.kind = y.kind
  rotate_left
  · have e1 : (x.kind == y.kind) = false := by simpa using hk
    have e2 : decide (x.kind = y.kind) = false := decide_eq_false hk
    have HR : Hid (sameW x y = false) := Lib.hid (by simp [sameW, hk])
    clear hk
    go_wp2_with fail
    go_ret
    exact ⟨by rw [HR.out]; rfl, HB.out⟩
  have e1 : (x.kind == y.kind) = true := by simpa using hk
  have e2 : decide (x.kind = y.kind) = true := decide_eq_true hk
  have HK := Lib.hid hk
  clear hk
  by_cases ht : x.text = y.text
  rotate_left
  · have e5 := bytes_ne ht
    have HR : Hid (sameW x y = false) := Lib.hid (by simp [sameW, ht])
    clear ht
    go_wp2_with fail
    go_ret
    exact ⟨by rw [HR.out]; rfl, HB.out⟩
  have e5 : (x.text.toList == y.text.toList) = true := by rw [ht]; exact bytes_eq _
  have HT := Lib.hid ht
  clear ht
  by_cases hn : x.num = y.num
  · have e3 : (x.num == y.num) = true := by simpa using hn
    have e4 : decide (x.num = y.num) = true := decide_eq_true hn
    have HR : Hid (sameW x y = true) := Lib.hid (by simp [sameW, HK.out, HT.out, hn])
    clear hn
    go_wp2_with fail
    go_ret
    exact ⟨by rw [HR.out]; rfl, HB.out⟩
  · have e3 : (x.num == y.num) = false := by simpa using hn
    have e4 : decide (x.num = y.num) = false := decide_eq_false hn
    have HR : Hid (sameW x y = false) := Lib.hid (by simp [sameW, hn])
    clear hn
    go_wp2_with fail
    go_ret
    exact ⟨by rw [HR.out]; rfl, HB.out⟩
set_option maxRecDepth 100000 in
set_option maxHeartbeats 8000000 in
theorem eqf_any (A B : Option Addr) (c d : Nat) (a b : List Wr) (w : World) (ha : RdA w A a) (hb : RdA w B b) (la : a.length ≤ 9223372036854775807) (lb : b.length ≤ 9223372036854775807) :
    Calls Tryd.prog 35 #[.slice A a.length c, .slice B b.length d, .func (.func 36) #[] #[]] w fun e w' => e = .returned (.bool (sameL a b)) ∧ Below w.heap.size w w' := by
  have HKA := Lib.hid ha
  have HKB := Lib.hid hb
  clear ha hb
  by_cases hl : a.length = b.length
  rotate_left
  · have e7 : ((a.length : Int) != (b.length : Int)) = true := by simp; omega
    have e8 : (a.length != b.length) = true := by simpa using hl
    have HR := Lib.hid (sameL_len _ _ hl)
    clear hl
    go_enter Tryd.func35, Tryd.ntmps35
    go_wp2_with fail
    go_ret
    exact ⟨by rw [HR.out]; rfl, Below.refl _ _⟩
  have e7 : ((a.length : Int) != (b.length : Int)) = false := by simp; omega
  have e8 : (a.length != b.length) = false := by simpa using hl
  have HL := Lib.hid hl
  clear hl
  go_enter Tryd.func35, Tryd.ntmps35
  go_wp2_with fail
  clear e7 e8
  go_loopw [17] (fun i wr => ∃ k : Nat, k ≤ a.length ∧ i = .int .i64 k ∧ Hid (Below w.heap.size w wr) ∧ Hid (sameL (a.take k) (b.take k) = true)) (fun i _ => a.length - (intOf i).toNat)
  case atStart => exact ⟨0, Nat.zero_le _, rfl, Lib.hid (Below.refl _ _), Lib.hid (by simp [sameL])⟩
  case round =>
    obtain ⟨k, hk, rfl, HB, HS⟩ := hrel
    by_cases hlt : k < a.length
    · have hlt2 : k < b.length := by have := HL.out; omega
      obtain ⟨bA, oA, hA, hbA, x0, x1, x2, x3⟩ := (HKA.out.below HB.out).at hlt
      obtain ⟨bB, oB, hB, hbB, y0, y1, y2, y3⟩ := (HKB.out.below HB.out).at hlt2
      have HNX := Lib.hid (sameL_next a b k hlt hlt2)
      have HCU := Lib.hid (sameL_cut a b k hlt hlt2)
      subst hA
      subst hB
      have hk0 : (0 : Int) ≤ (k : Int) := by omega
      have hka : (k : Int) < (a.length : Int) := by omega
      have hkb : (k : Int) < (b.length : Int) := by omega
      generalize a[k] = p at *
      generalize b[k] = q at *
      have hb1 := below_new wr (.cells (wrV p) 31)
      have y0' := (World.cell?_of_block (w := wr) (a := ⟨bB, oB + k * 4, none⟩) (hb1.block bB hbB)).trans y0
      have y1' := (World.cell?_of_block (w := wr) (a := ⟨bB, oB + k * 4 + 1, none⟩) (hb1.block bB hbB)).trans y1
      have y2' := (World.cell?_of_block (w := wr) (a := ⟨bB, oB + k * 4 + 2, none⟩) (hb1.block bB hbB)).trans y2
      have y3' := (World.cell?_of_block (w := wr) (a := ⟨bB, oB + k * 4 + 3, none⟩) (hb1.block bB hbB)).trans y3
      have hb2 := below_new (wr.alloc (.cells (wrV p) 31)) (.cells (wrV q) 31)
      have hs1 : (wr.alloc (.cells (wrV p) 31)).heap.size = wr.heap.size + 1 := by simp
      have hb12 := hb1.trans (hb2.mono (by omega))
      have hx0 := (hb2.block wr.heap.size (by omega)).trans (heap_alloc_new wr (.cells (wrV p) 31))
      have hx1 := heap_alloc_new (wr.alloc (.cells (wrV p) 31)) (.cells (wrV q) 31)
      rw [hs1] at hx1
      have HX0 := Lib.hid hx0
      have HX1 := Lib.hid hx1
      have HB12 := Lib.hid hb12
      have HSX := Lib.hid HB.out.size
      have HC := Lib.hid (samew_any p q ((wr.alloc (.cells (wrV p) 31)).alloc (.cells (wrV q) 31)))
      clear hb1 hb2 hb12 hx0 hx1 hs1
      go_upto_region 7 with (fail)
      generalize ((wr.alloc (.cells (wrV p) 31)).alloc (.cells (wrV q) 31)) = W2 at *
      clear x0 x1 x2 x3 y0 y1 y2 y3 y0' y1' y2' y3'
      generalize wr.heap.size = X at *
      have z0 : W2.cell? ⟨X, 0, none⟩ = some (.int .i64 p.kind) := by simp only [World.cell?, HX0.out]; rfl
      have z1 : W2.cell? ⟨X, 1, none⟩ = some (.string p.text) := by simp only [World.cell?, HX0.out]; rfl
      have z2 : W2.cell? ⟨X, 2, none⟩ = some (.int .i64 p.num) := by simp only [World.cell?, HX0.out]; rfl
      have z3 : W2.cell? ⟨X, 3, none⟩ = some (.int .i64 p.at_) := by simp only [World.cell?, HX0.out]; rfl
      have t0 : W2.cell? ⟨X + 1, 0, none⟩ = some (.int .i64 q.kind) := by simp only [World.cell?, HX1.out]; rfl
      have t1 : W2.cell? ⟨X + 1, 1, none⟩ = some (.string q.text) := by simp only [World.cell?, HX1.out]; rfl
      have t2 : W2.cell? ⟨X + 1, 2, none⟩ = some (.int .i64 q.num) := by simp only [World.cell?, HX1.out]; rfl
      have t3 : W2.cell? ⟨X + 1, 3, none⟩ = some (.int .i64 q.at_) := by simp only [World.cell?, HX1.out]; rfl
      go_wp2_with fail
      refine HC.out.mono ?_
      rintro e w1 ⟨rfl, hbel⟩
      have HB1 : Hid (Below w.heap.size w w1) := Lib.hid (HB.out.trans ((HB12.out.mono HSX.out).trans (hbel.mono (Nat.le_trans HB.out.size HB12.out.size))))
      clear hbel HC z0 z1 z2 z3 t0 t1 t2 t3
      cases hs : sameW p q with
      | true =>
        rw [hs] at HNX
        have HS2 : Hid (sameL (a.take (k + 1)) (b.take (k + 1)) = true) := Lib.hid (by rw [HNX.out, HS.out]; rfl)
        clear hs HNX HCU
        go_wp2_with fail
        go_roundw
        case rel => exact ⟨k + 1, by omega, by go_num, HB1, HS2⟩
        case measure => simp [intOf]; omega
      | false =>
        have HR := Lib.hid (HCU.out hs)
        clear hs HNX HCU
        go_wp2_with fail
        go_ret
        exact ⟨by rw [HR.out]; rfl, HB1.out⟩
    · obtain rfl : k = a.length := by omega
      have HR : Hid (sameL a b = true) := Lib.hid (by
        have h1 := HS.out
        rw [List.take_length, HL.out, List.take_length] at h1
        exact h1)
      go_wp2_with fail
      go_ret
      exact ⟨by rw [HR.out]; rfl, HB.out⟩
theorem same_any (A B : Option Addr) (c d : Nat) (a b : List Wr) (w : World) (ha : RdA w A a) (hb : RdA w B b) (la : a.length ≤ 9223372036854775807) (lb : b.length ≤ 9223372036854775807) :
    Calls Tryd.prog 16 #[.slice A a.length c, .slice B b.length d] w fun e w' => e = .returned (.bool (sameL a b)) ∧ Below w.heap.size w w' := by
  have HC := Lib.hid (eqf_any A B c d a b w ha hb la lb)
  go_enter Tryd.func16, Tryd.ntmps16
  go_wp2_with fail
  refine HC.out.mono ?_
  rintro e w1 ⟨rfl, hb1⟩
  go_wp2_with fail
  go_ret
  exact ⟨rfl, hb1⟩
end Go.Proofs.YtejicjcdbfjajaaDoor
