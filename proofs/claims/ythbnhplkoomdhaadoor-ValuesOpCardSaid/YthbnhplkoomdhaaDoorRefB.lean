/- What the reference makes of two numbers. -/
import Derived.Test.YthbnhplkoomdhaaDoorRefA
import Derived.Test.YthbnhplkoomdhaaDoorCmp
import Derived.Test.YthbnhplkoomdhaaDoorBase
namespace Go.Proofs.YthbnhplkoomdhaaDoor
open Go Go.RowKit
theorem res22 (tmps : Array Value) (w : World) (g : Nat) (cs : Array Value) (hp : tmps.getD 6 undef = .pointer (some ⟨g, 0, none⟩)) (hg : w.heap[g]? = some (.cells cs 24 (0, 0))) (hs : cs.size = 3 := by rfl) :
    (results Tryd.f22 tmps).run Tryd.prog w = .ok (.tuple #[.agg cs, tmps.getD 7 undef]) w := by
  rw [results_cell_tmp Tryd.results22, hp]
  simp only [asAddr, Sem.run_pure, Result.andThen_ok]
  rw [run_loadVar_row (P := Tryd.prog) w g 24 24 cs (0, 0) _ hg Tryd.underlying24 rfl (by rw [size24, hs])]
  rfl
set_option maxRecDepth 10000 in
set_option maxHeartbeats 1000000 in
theorem num_add (a b : Int) (w : World) (ha : Fits a) (hb : Fits b) (h : Fits (a + b)) :
    Calls Tryd.prog 22 #[.string { data := #[43] }, .int .i64 a, .int .i64 b] w fun e w' => e = .returned (.tuple #[.agg #[.int .i64 2, .int .i64 (a + b), .string { data := #[] }], .string { data := #[] }]) ∧ Below w.heap.size w w' := by
  have HR : Hid ((w.alloc (.cells #[.int .i64 0, .int .i64 0, .string { data := #[] }] 24)).heap[w.heap.size]? = some (.cells #[.int .i64 0, .int .i64 0, .string { data := #[] }] 24 (0, 0))) := Lib.hid (newc w _)
  have HB : Hid (Below w.heap.size w (w.alloc (.cells #[.int .i64 0, .int .i64 0, .string { data := #[] }] 24))) := Lib.hid ((Below.refl _ _).alloc (Nat.le_refl _) _)
  go_enter Tryd.func22, Tryd.ntmps22
  have HC := Lib.hid (fun w => plus_fine a b w ha hb h)
  clear ha hb h
  go_wp2_with fail
  refine (HC.out _).mono ?_
  rintro e w1 ⟨rfl, rfl⟩
  go_wp2_with fail
  refine (rint_any (a + b) _).mono ?_
  rintro e w5 ⟨rfl, hb5⟩
  have HR5 := Lib.hid ((hb5.block _ (hlt HR.out)).trans HR.out)
  have HB5 := Lib.hid (HB.out.trans (hb5.mono HB.out.size))
  clear hb5 HR HB
  have HROW := Lib.hid (setRow_at w5 w.heap.size _ #[.int .i64 2, .int .i64 (a + b), .string { data := #[] }] 24 (0, 0) HR5.out)
  have hbelow : Below w.heap.size w (w5.setRow w.heap.size #[.int .i64 2, .int .i64 (a + b), .string { data := #[] }]) := setRow_below HB5.out (Nat.le_refl _) _
  go_wp2_with (refine wpList_store_row rfl 24 (.tmp 6) (.tmp 64) rfl w.heap.size #[.int .i64 2, .int .i64 (a + b), .string { data := #[] }] rfl rfl 24 _ HR5.out (by rw [size24]; rfl) rfl (by simp [Value.oneCell']) ?_)
  exact bodyPost_ret (v := .tuple #[.agg #[.int .i64 2, .int .i64 (a + b), .string { data := #[] }], .string { data := #[] }]) (res22 _ _ w.heap.size _ rfl HROW.out) rfl ⟨rfl, hbelow⟩
set_option maxRecDepth 10000 in
set_option maxHeartbeats 1000000 in
theorem num_add_over (a b : Int) (w : World) (ha : Fits a) (hb : Fits b) (h : ¬ Fits (a + b)) :
    Calls Tryd.prog 22 #[.string { data := #[43] }, .int .i64 a, .int .i64 b] w fun e w' => e = .returned (.tuple #[.agg #[.int .i64 0, .int .i64 0, .string { data := #[] }], .string { data := #[111, 118, 101, 114] }]) ∧ Below w.heap.size w w' := by
  have HR : Hid ((w.alloc (.cells #[.int .i64 0, .int .i64 0, .string { data := #[] }] 24)).heap[w.heap.size]? = some (.cells #[.int .i64 0, .int .i64 0, .string { data := #[] }] 24 (0, 0))) := Lib.hid (newc w _)
  have HB : Hid (Below w.heap.size w (w.alloc (.cells #[.int .i64 0, .int .i64 0, .string { data := #[] }] 24))) := Lib.hid ((Below.refl _ _).alloc (Nat.le_refl _) _)
  go_enter Tryd.func22, Tryd.ntmps22
  have HC := Lib.hid (fun w => plus_over a b w ha hb h)
  clear ha hb h
  go_wp2_with fail
  refine (HC.out _).mono ?_
  rintro e w1 ⟨rfl, rfl⟩
  generalize hw1 : w.alloc (.cells #[.int .i64 0, .int .i64 0, .string { data := #[] }] 24) = w1 at *
  have HROW := Lib.hid (setRow_at w1 w.heap.size _ #[.int .i64 0, .int .i64 0, .string { data := #[] }] 24 (0, 0) HR.out)
  have hbelow : Below w.heap.size w (w1.setRow w.heap.size #[.int .i64 0, .int .i64 0, .string { data := #[] }]) := setRow_below HB.out (Nat.le_refl _) _
  go_wp2_with (refine wpList_store_row rfl 24 (.tmp 6) (.tmp 62) rfl w.heap.size #[.int .i64 0, .int .i64 0, .string { data := #[] }] rfl rfl 24 _ HR.out (by rw [size24]; rfl) rfl (by simp [Value.oneCell']) ?_)
  exact bodyPost_ret (v := .tuple #[.agg #[.int .i64 0, .int .i64 0, .string { data := #[] }], .string { data := #[111, 118, 101, 114] }]) (res22 _ _ w.heap.size _ rfl HROW.out) rfl ⟨rfl, hbelow⟩
set_option maxRecDepth 10000 in
set_option maxHeartbeats 1000000 in
theorem num_sub (a b : Int) (w : World) (ha : Fits a) (hb : Fits b) (h : Fits (a - b)) :
    Calls Tryd.prog 22 #[.string { data := #[45] }, .int .i64 a, .int .i64 b] w fun e w' => e = .returned (.tuple #[.agg #[.int .i64 2, .int .i64 (a - b), .string { data := #[] }], .string { data := #[] }]) ∧ Below w.heap.size w w' := by
  have HR : Hid ((w.alloc (.cells #[.int .i64 0, .int .i64 0, .string { data := #[] }] 24)).heap[w.heap.size]? = some (.cells #[.int .i64 0, .int .i64 0, .string { data := #[] }] 24 (0, 0))) := Lib.hid (newc w _)
  have HB : Hid (Below w.heap.size w (w.alloc (.cells #[.int .i64 0, .int .i64 0, .string { data := #[] }] 24))) := Lib.hid ((Below.refl _ _).alloc (Nat.le_refl _) _)
  go_enter Tryd.func22, Tryd.ntmps22
  have HC := Lib.hid (fun w => minus_fine a b w ha hb h)
  clear ha hb h
  go_wp2_with fail
  refine (HC.out _).mono ?_
  rintro e w1 ⟨rfl, rfl⟩
  go_wp2_with fail
  refine (rint_any (a - b) _).mono ?_
  rintro e w5 ⟨rfl, hb5⟩
  have HR5 := Lib.hid ((hb5.block _ (hlt HR.out)).trans HR.out)
  have HB5 := Lib.hid (HB.out.trans (hb5.mono HB.out.size))
  clear hb5 HR HB
  have HROW := Lib.hid (setRow_at w5 w.heap.size _ #[.int .i64 2, .int .i64 (a - b), .string { data := #[] }] 24 (0, 0) HR5.out)
  have hbelow : Below w.heap.size w (w5.setRow w.heap.size #[.int .i64 2, .int .i64 (a - b), .string { data := #[] }]) := setRow_below HB5.out (Nat.le_refl _) _
  go_wp2_with (refine wpList_store_row rfl 24 (.tmp 6) (.tmp 64) rfl w.heap.size #[.int .i64 2, .int .i64 (a - b), .string { data := #[] }] rfl rfl 24 _ HR5.out (by rw [size24]; rfl) rfl (by simp [Value.oneCell']) ?_)
  exact bodyPost_ret (v := .tuple #[.agg #[.int .i64 2, .int .i64 (a - b), .string { data := #[] }], .string { data := #[] }]) (res22 _ _ w.heap.size _ rfl HROW.out) rfl ⟨rfl, hbelow⟩
set_option maxRecDepth 10000 in
set_option maxHeartbeats 1000000 in
theorem num_sub_over (a b : Int) (w : World) (ha : Fits a) (hb : Fits b) (h : ¬ Fits (a - b)) :
    Calls Tryd.prog 22 #[.string { data := #[45] }, .int .i64 a, .int .i64 b] w fun e w' => e = .returned (.tuple #[.agg #[.int .i64 0, .int .i64 0, .string { data := #[] }], .string { data := #[111, 118, 101, 114] }]) ∧ Below w.heap.size w w' := by
  have HR : Hid ((w.alloc (.cells #[.int .i64 0, .int .i64 0, .string { data := #[] }] 24)).heap[w.heap.size]? = some (.cells #[.int .i64 0, .int .i64 0, .string { data := #[] }] 24 (0, 0))) := Lib.hid (newc w _)
  have HB : Hid (Below w.heap.size w (w.alloc (.cells #[.int .i64 0, .int .i64 0, .string { data := #[] }] 24))) := Lib.hid ((Below.refl _ _).alloc (Nat.le_refl _) _)
  go_enter Tryd.func22, Tryd.ntmps22
  have HC := Lib.hid (fun w => minus_over a b w ha hb h)
  clear ha hb h
  go_wp2_with fail
  refine (HC.out _).mono ?_
  rintro e w1 ⟨rfl, rfl⟩
  generalize hw1 : w.alloc (.cells #[.int .i64 0, .int .i64 0, .string { data := #[] }] 24) = w1 at *
  have HROW := Lib.hid (setRow_at w1 w.heap.size _ #[.int .i64 0, .int .i64 0, .string { data := #[] }] 24 (0, 0) HR.out)
  have hbelow : Below w.heap.size w (w1.setRow w.heap.size #[.int .i64 0, .int .i64 0, .string { data := #[] }]) := setRow_below HB.out (Nat.le_refl _) _
  go_wp2_with (refine wpList_store_row rfl 24 (.tmp 6) (.tmp 62) rfl w.heap.size #[.int .i64 0, .int .i64 0, .string { data := #[] }] rfl rfl 24 _ HR.out (by rw [size24]; rfl) rfl (by simp [Value.oneCell']) ?_)
  exact bodyPost_ret (v := .tuple #[.agg #[.int .i64 0, .int .i64 0, .string { data := #[] }], .string { data := #[111, 118, 101, 114] }]) (res22 _ _ w.heap.size _ rfl HROW.out) rfl ⟨rfl, hbelow⟩
set_option maxRecDepth 10000 in
set_option maxHeartbeats 1000000 in
theorem num_mul (a b : Int) (w : World) (ha : Fits a) (hb : Fits b) (h : Fits (a * b)) :
    Calls Tryd.prog 22 #[.string { data := #[42] }, .int .i64 a, .int .i64 b] w fun e w' => e = .returned (.tuple #[.agg #[.int .i64 2, .int .i64 (a * b), .string { data := #[] }], .string { data := #[] }]) ∧ Below w.heap.size w w' := by
  have HR : Hid ((w.alloc (.cells #[.int .i64 0, .int .i64 0, .string { data := #[] }] 24)).heap[w.heap.size]? = some (.cells #[.int .i64 0, .int .i64 0, .string { data := #[] }] 24 (0, 0))) := Lib.hid (newc w _)
  have HB : Hid (Below w.heap.size w (w.alloc (.cells #[.int .i64 0, .int .i64 0, .string { data := #[] }] 24))) := Lib.hid ((Below.refl _ _).alloc (Nat.le_refl _) _)
  go_enter Tryd.func22, Tryd.ntmps22
  have HT : ∀ w, Calls Tryd.prog 42 #[.int .i64 a, .int .i64 b] w fun e w' => e = .returned (.tuple #[.int .i64 (a * b), .bool true]) ∧ w' = w := fun w => (times_any a b w ha hb).mono fun e w' ⟨he, hw⟩ => ⟨by rw [he, if_pos h]; simp [h], hw⟩
  have HC := Lib.hid HT
  clear ha hb h HT
  go_wp2_with fail
  refine (HC.out _).mono ?_
  rintro e w1 ⟨rfl, rfl⟩
  go_wp2_with fail
  refine (rint_any (a * b) _).mono ?_
  rintro e w5 ⟨rfl, hb5⟩
  have HR5 := Lib.hid ((hb5.block _ (hlt HR.out)).trans HR.out)
  have HB5 := Lib.hid (HB.out.trans (hb5.mono HB.out.size))
  clear hb5 HR HB
  have HROW := Lib.hid (setRow_at w5 w.heap.size _ #[.int .i64 2, .int .i64 (a * b), .string { data := #[] }] 24 (0, 0) HR5.out)
  have hbelow : Below w.heap.size w (w5.setRow w.heap.size #[.int .i64 2, .int .i64 (a * b), .string { data := #[] }]) := setRow_below HB5.out (Nat.le_refl _) _
  go_wp2_with (refine wpList_store_row rfl 24 (.tmp 6) (.tmp 64) rfl w.heap.size #[.int .i64 2, .int .i64 (a * b), .string { data := #[] }] rfl rfl 24 _ HR5.out (by rw [size24]; rfl) rfl (by simp [Value.oneCell']) ?_)
  exact bodyPost_ret (v := .tuple #[.agg #[.int .i64 2, .int .i64 (a * b), .string { data := #[] }], .string { data := #[] }]) (res22 _ _ w.heap.size _ rfl HROW.out) rfl ⟨rfl, hbelow⟩
set_option maxRecDepth 10000 in
set_option maxHeartbeats 1000000 in
theorem num_mul_over (a b : Int) (w : World) (ha : Fits a) (hb : Fits b) (h : ¬ Fits (a * b)) :
    Calls Tryd.prog 22 #[.string { data := #[42] }, .int .i64 a, .int .i64 b] w fun e w' => e = .returned (.tuple #[.agg #[.int .i64 0, .int .i64 0, .string { data := #[] }], .string { data := #[111, 118, 101, 114] }]) ∧ Below w.heap.size w w' := by
  have HR : Hid ((w.alloc (.cells #[.int .i64 0, .int .i64 0, .string { data := #[] }] 24)).heap[w.heap.size]? = some (.cells #[.int .i64 0, .int .i64 0, .string { data := #[] }] 24 (0, 0))) := Lib.hid (newc w _)
  have HB : Hid (Below w.heap.size w (w.alloc (.cells #[.int .i64 0, .int .i64 0, .string { data := #[] }] 24))) := Lib.hid ((Below.refl _ _).alloc (Nat.le_refl _) _)
  go_enter Tryd.func22, Tryd.ntmps22
  have HT : ∀ w, Calls Tryd.prog 42 #[.int .i64 a, .int .i64 b] w fun e w' => e = .returned (.tuple #[.int .i64 0, .bool false]) ∧ w' = w := fun w => (times_any a b w ha hb).mono fun e w' ⟨he, hw⟩ => ⟨by rw [he, if_neg h]; simp [h], hw⟩
  have HC := Lib.hid HT
  clear ha hb h HT
  go_wp2_with fail
  refine (HC.out _).mono ?_
  rintro e w1 ⟨rfl, rfl⟩
  generalize hw1 : w.alloc (.cells #[.int .i64 0, .int .i64 0, .string { data := #[] }] 24) = w1 at *
  have HROW := Lib.hid (setRow_at w1 w.heap.size _ #[.int .i64 0, .int .i64 0, .string { data := #[] }] 24 (0, 0) HR.out)
  have hbelow : Below w.heap.size w (w1.setRow w.heap.size #[.int .i64 0, .int .i64 0, .string { data := #[] }]) := setRow_below HB.out (Nat.le_refl _) _
  go_wp2_with (refine wpList_store_row rfl 24 (.tmp 6) (.tmp 62) rfl w.heap.size #[.int .i64 0, .int .i64 0, .string { data := #[] }] rfl rfl 24 _ HR.out (by rw [size24]; rfl) rfl (by simp [Value.oneCell']) ?_)
  exact bodyPost_ret (v := .tuple #[.agg #[.int .i64 0, .int .i64 0, .string { data := #[] }], .string { data := #[111, 118, 101, 114] }]) (res22 _ _ w.heap.size _ rfl HROW.out) rfl ⟨rfl, hbelow⟩
set_option maxRecDepth 10000 in
set_option maxHeartbeats 1000000 in
theorem num_div_zero (a b : Int) (w : World) (h : b = 0) :
    Calls Tryd.prog 22 #[.string { data := #[47] }, .int .i64 a, .int .i64 b] w fun e w' => e = .returned (.tuple #[.agg #[.int .i64 0, .int .i64 0, .string { data := #[] }], .string { data := #[122, 101, 114, 111] }]) ∧ Below w.heap.size w w' := by
  have HR : Hid ((w.alloc (.cells #[.int .i64 0, .int .i64 0, .string { data := #[] }] 24)).heap[w.heap.size]? = some (.cells #[.int .i64 0, .int .i64 0, .string { data := #[] }] 24 (0, 0))) := Lib.hid (newc w _)
  have HB : Hid (Below w.heap.size w (w.alloc (.cells #[.int .i64 0, .int .i64 0, .string { data := #[] }] 24))) := Lib.hid ((Below.refl _ _).alloc (Nat.le_refl _) _)
  subst h
  go_enter Tryd.func22, Tryd.ntmps22
  generalize hw1 : w.alloc (.cells #[.int .i64 0, .int .i64 0, .string { data := #[] }] 24) = w1 at *
  have HROW := Lib.hid (setRow_at w1 w.heap.size _ #[.int .i64 0, .int .i64 0, .string { data := #[] }] 24 (0, 0) HR.out)
  have hbelow : Below w.heap.size w (w1.setRow w.heap.size #[.int .i64 0, .int .i64 0, .string { data := #[] }]) := setRow_below HB.out (Nat.le_refl _) _
  go_wp2_with (refine wpList_store_row rfl 24 (.tmp 6) (.tmp 16) rfl w.heap.size #[.int .i64 0, .int .i64 0, .string { data := #[] }] rfl rfl 24 _ HR.out (by rw [size24]; rfl) rfl (by simp [Value.oneCell']) ?_)
  exact bodyPost_ret (v := .tuple #[.agg #[.int .i64 0, .int .i64 0, .string { data := #[] }], .string { data := #[122, 101, 114, 111] }]) (res22 _ _ w.heap.size _ rfl HROW.out) rfl ⟨rfl, hbelow⟩
set_option maxRecDepth 10000 in
set_option maxHeartbeats 1000000 in
theorem num_rest_zero (a b : Int) (w : World) (h : b = 0) :
    Calls Tryd.prog 22 #[.string { data := #[37] }, .int .i64 a, .int .i64 b] w fun e w' => e = .returned (.tuple #[.agg #[.int .i64 0, .int .i64 0, .string { data := #[] }], .string { data := #[122, 101, 114, 111] }]) ∧ Below w.heap.size w w' := by
  have HR : Hid ((w.alloc (.cells #[.int .i64 0, .int .i64 0, .string { data := #[] }] 24)).heap[w.heap.size]? = some (.cells #[.int .i64 0, .int .i64 0, .string { data := #[] }] 24 (0, 0))) := Lib.hid (newc w _)
  have HB : Hid (Below w.heap.size w (w.alloc (.cells #[.int .i64 0, .int .i64 0, .string { data := #[] }] 24))) := Lib.hid ((Below.refl _ _).alloc (Nat.le_refl _) _)
  subst h
  go_enter Tryd.func22, Tryd.ntmps22
  generalize hw1 : w.alloc (.cells #[.int .i64 0, .int .i64 0, .string { data := #[] }] 24) = w1 at *
  have HROW := Lib.hid (setRow_at w1 w.heap.size _ #[.int .i64 0, .int .i64 0, .string { data := #[] }] 24 (0, 0) HR.out)
  have hbelow : Below w.heap.size w (w1.setRow w.heap.size #[.int .i64 0, .int .i64 0, .string { data := #[] }]) := setRow_below HB.out (Nat.le_refl _) _
  go_wp2_with (refine wpList_store_row rfl 24 (.tmp 6) (.tmp 16) rfl w.heap.size #[.int .i64 0, .int .i64 0, .string { data := #[] }] rfl rfl 24 _ HR.out (by rw [size24]; rfl) rfl (by simp [Value.oneCell']) ?_)
  exact bodyPost_ret (v := .tuple #[.agg #[.int .i64 0, .int .i64 0, .string { data := #[] }], .string { data := #[122, 101, 114, 111] }]) (res22 _ _ w.heap.size _ rfl HROW.out) rfl ⟨rfl, hbelow⟩
set_option maxRecDepth 10000 in
set_option maxHeartbeats 1000000 in
theorem num_div_fine (a b : Int) (w : World) (ha : Fits a) (hb : Fits b) (hb0 : b ≠ 0) (h : ¬ (a = -9223372036854775808 ∧ b = -1)) :
    Calls Tryd.prog 22 #[.string { data := #[47] }, .int .i64 a, .int .i64 b] w fun e w' => e = .returned (.tuple #[.agg #[.int .i64 2, .int .i64 (divV a b), .string { data := #[] }], .string { data := #[] }]) ∧ Below w.heap.size w w' := by
  have HR : Hid ((w.alloc (.cells #[.int .i64 0, .int .i64 0, .string { data := #[] }] 24)).heap[w.heap.size]? = some (.cells #[.int .i64 0, .int .i64 0, .string { data := #[] }] 24 (0, 0))) := Lib.hid (newc w _)
  have HB : Hid (Below w.heap.size w (w.alloc (.cells #[.int .i64 0, .int .i64 0, .string { data := #[] }] 24))) := Lib.hid ((Below.refl _ _).alloc (Nat.le_refl _) _)
  go_enter Tryd.func22, Tryd.ntmps22
  have d1 := beq_no b 0 hb0
  have HC := Lib.hid (fun w => divided_fine a b w ha hb hb0 h)
  clear ha hb h hb0
  go_wp2_with fail
  refine (HC.out _).mono ?_
  rintro e w1 ⟨rfl, q, rfl⟩
  have HR1 : Hid (((w.alloc (.cells #[.int .i64 0, .int .i64 0, .string { data := #[] }] 24)).drewN q).heap[w.heap.size]? = _) := HR
  have HB1 : Hid (Below w.heap.size w ((w.alloc (.cells #[.int .i64 0, .int .i64 0, .string { data := #[] }] 24)).drewN q)) := Lib.hid (below_drewN HB.out q)
  clear HR HB
  generalize (w.alloc (.cells #[.int .i64 0, .int .i64 0, .string { data := #[] }] 24)).drewN q = w1 at *
  go_wp2_with fail
  refine (rint_any (divV a b) _).mono ?_
  rintro e w5 ⟨rfl, hb5⟩
  have HR5 := Lib.hid ((hb5.block _ (hlt HR1.out)).trans HR1.out)
  have HB5 := Lib.hid (HB1.out.trans (hb5.mono HB1.out.size))
  clear hb5 HR1 HB1
  have HROW := Lib.hid (setRow_at w5 w.heap.size _ #[.int .i64 2, .int .i64 (divV a b), .string { data := #[] }] 24 (0, 0) HR5.out)
  have hbelow : Below w.heap.size w (w5.setRow w.heap.size #[.int .i64 2, .int .i64 (divV a b), .string { data := #[] }]) := setRow_below HB5.out (Nat.le_refl _) _
  go_wp2_with (refine wpList_store_row rfl 24 (.tmp 6) (.tmp 64) rfl w.heap.size #[.int .i64 2, .int .i64 (divV a b), .string { data := #[] }] rfl rfl 24 _ HR5.out (by rw [size24]; rfl) rfl (by simp [Value.oneCell']) ?_)
  exact bodyPost_ret (v := .tuple #[.agg #[.int .i64 2, .int .i64 (divV a b), .string { data := #[] }], .string { data := #[] }]) (res22 _ _ w.heap.size _ rfl HROW.out) rfl ⟨rfl, hbelow⟩
set_option maxRecDepth 10000 in
set_option maxHeartbeats 1000000 in
theorem num_div_over (a b : Int) (w : World) (h : a = -9223372036854775808 ∧ b = -1) :
    Calls Tryd.prog 22 #[.string { data := #[47] }, .int .i64 a, .int .i64 b] w fun e w' => e = .returned (.tuple #[.agg #[.int .i64 0, .int .i64 0, .string { data := #[] }], .string { data := #[111, 118, 101, 114] }]) ∧ Below w.heap.size w w' := by
  have HR : Hid ((w.alloc (.cells #[.int .i64 0, .int .i64 0, .string { data := #[] }] 24)).heap[w.heap.size]? = some (.cells #[.int .i64 0, .int .i64 0, .string { data := #[] }] 24 (0, 0))) := Lib.hid (newc w _)
  have HB : Hid (Below w.heap.size w (w.alloc (.cells #[.int .i64 0, .int .i64 0, .string { data := #[] }] 24))) := Lib.hid ((Below.refl _ _).alloc (Nat.le_refl _) _)
  go_enter Tryd.func22, Tryd.ntmps22
  have HC := Lib.hid (fun w => divided_over a b w h)
  have d1 := beq_no b 0 (by omega)
  clear h
  go_wp2_with fail
  refine (HC.out _).mono ?_
  rintro e w1 ⟨rfl, rfl⟩
  generalize hw1 : w.alloc (.cells #[.int .i64 0, .int .i64 0, .string { data := #[] }] 24) = w1 at *
  have HROW := Lib.hid (setRow_at w1 w.heap.size _ #[.int .i64 0, .int .i64 0, .string { data := #[] }] 24 (0, 0) HR.out)
  have hbelow : Below w.heap.size w (w1.setRow w.heap.size #[.int .i64 0, .int .i64 0, .string { data := #[] }]) := setRow_below HB.out (Nat.le_refl _) _
  go_wp2_with (refine wpList_store_row rfl 24 (.tmp 6) (.tmp 62) rfl w.heap.size #[.int .i64 0, .int .i64 0, .string { data := #[] }] rfl rfl 24 _ HR.out (by rw [size24]; rfl) rfl (by simp [Value.oneCell']) ?_)
  exact bodyPost_ret (v := .tuple #[.agg #[.int .i64 0, .int .i64 0, .string { data := #[] }], .string { data := #[111, 118, 101, 114] }]) (res22 _ _ w.heap.size _ rfl HROW.out) rfl ⟨rfl, hbelow⟩
set_option maxRecDepth 10000 in
set_option maxHeartbeats 1000000 in
theorem num_rest_m1 (a b : Int) (w : World) (h : b = -1) :
    Calls Tryd.prog 22 #[.string { data := #[37] }, .int .i64 a, .int .i64 b] w fun e w' => e = .returned (.tuple #[.agg #[.int .i64 2, .int .i64 (0), .string { data := #[] }], .string { data := #[] }]) ∧ Below w.heap.size w w' := by
  have HR : Hid ((w.alloc (.cells #[.int .i64 0, .int .i64 0, .string { data := #[] }] 24)).heap[w.heap.size]? = some (.cells #[.int .i64 0, .int .i64 0, .string { data := #[] }] 24 (0, 0))) := Lib.hid (newc w _)
  have HB : Hid (Below w.heap.size w (w.alloc (.cells #[.int .i64 0, .int .i64 0, .string { data := #[] }] 24))) := Lib.hid ((Below.refl _ _).alloc (Nat.le_refl _) _)
  subst h
  go_enter Tryd.func22, Tryd.ntmps22
  go_wp2_with fail
  refine (rint_any 0 _).mono ?_
  rintro e w5 ⟨rfl, hb5⟩
  have HR5 := Lib.hid ((hb5.block _ (hlt HR.out)).trans HR.out)
  have HB5 := Lib.hid (HB.out.trans (hb5.mono HB.out.size))
  clear hb5 HR HB
  have HROW := Lib.hid (setRow_at w5 w.heap.size _ #[.int .i64 2, .int .i64 (0), .string { data := #[] }] 24 (0, 0) HR5.out)
  have hbelow : Below w.heap.size w (w5.setRow w.heap.size #[.int .i64 2, .int .i64 (0), .string { data := #[] }]) := setRow_below HB5.out (Nat.le_refl _) _
  go_wp2_with (refine wpList_store_row rfl 24 (.tmp 6) (.tmp 23) rfl w.heap.size #[.int .i64 2, .int .i64 (0), .string { data := #[] }] rfl rfl 24 _ HR5.out (by rw [size24]; rfl) rfl (by simp [Value.oneCell']) ?_)
  exact bodyPost_ret (v := .tuple #[.agg #[.int .i64 2, .int .i64 (0), .string { data := #[] }], .string { data := #[] }]) (res22 _ _ w.heap.size _ rfl HROW.out) rfl ⟨rfl, hbelow⟩
set_option maxRecDepth 10000 in
set_option maxHeartbeats 1000000 in
theorem num_rest_fine (a b : Int) (w : World) (ha : Fits a) (hb : Fits b) (hb0 : b ≠ 0) (hm : b ≠ -1) :
    Calls Tryd.prog 22 #[.string { data := #[37] }, .int .i64 a, .int .i64 b] w fun e w' => e = .returned (.tuple #[.agg #[.int .i64 2, .int .i64 (modV a b), .string { data := #[] }], .string { data := #[] }]) ∧ Below w.heap.size w w' := by
  have HR : Hid ((w.alloc (.cells #[.int .i64 0, .int .i64 0, .string { data := #[] }] 24)).heap[w.heap.size]? = some (.cells #[.int .i64 0, .int .i64 0, .string { data := #[] }] 24 (0, 0))) := Lib.hid (newc w _)
  have HB : Hid (Below w.heap.size w (w.alloc (.cells #[.int .i64 0, .int .i64 0, .string { data := #[] }] 24))) := Lib.hid ((Below.refl _ _).alloc (Nat.le_refl _) _)
  go_enter Tryd.func22, Tryd.ntmps22
  have d1 := beq_no b 0 hb0
  have d2 := beq_no b (-1) hm
  have h : ¬ (a = -9223372036854775808 ∧ b = -1) := fun e => hm e.2
  have HC := Lib.hid (fun w => divided_fine a b w ha hb hb0 h)
  clear ha hb h hb0 hm
  go_wp2_with fail
  refine (HC.out _).mono ?_
  rintro e w1 ⟨rfl, q, rfl⟩
  have HR1 : Hid (((w.alloc (.cells #[.int .i64 0, .int .i64 0, .string { data := #[] }] 24)).drewN q).heap[w.heap.size]? = _) := HR
  have HB1 : Hid (Below w.heap.size w ((w.alloc (.cells #[.int .i64 0, .int .i64 0, .string { data := #[] }] 24)).drewN q)) := Lib.hid (below_drewN HB.out q)
  clear HR HB
  generalize (w.alloc (.cells #[.int .i64 0, .int .i64 0, .string { data := #[] }] 24)).drewN q = w1 at *
  go_wp2_with fail
  refine (rint_any (modV a b) _).mono ?_
  rintro e w5 ⟨rfl, hb5⟩
  have HR5 := Lib.hid ((hb5.block _ (hlt HR1.out)).trans HR1.out)
  have HB5 := Lib.hid (HB1.out.trans (hb5.mono HB1.out.size))
  clear hb5 HR1 HB1
  have HROW := Lib.hid (setRow_at w5 w.heap.size _ #[.int .i64 2, .int .i64 (modV a b), .string { data := #[] }] 24 (0, 0) HR5.out)
  have hbelow : Below w.heap.size w (w5.setRow w.heap.size #[.int .i64 2, .int .i64 (modV a b), .string { data := #[] }]) := setRow_below HB5.out (Nat.le_refl _) _
  go_wp2_with (refine wpList_store_row rfl 24 (.tmp 6) (.tmp 64) rfl w.heap.size #[.int .i64 2, .int .i64 (modV a b), .string { data := #[] }] rfl rfl 24 _ HR5.out (by rw [size24]; rfl) rfl (by simp [Value.oneCell']) ?_)
  exact bodyPost_ret (v := .tuple #[.agg #[.int .i64 2, .int .i64 (modV a b), .string { data := #[] }], .string { data := #[] }]) (res22 _ _ w.heap.size _ rfl HROW.out) rfl ⟨rfl, hbelow⟩
end Go.Proofs.YthbnhplkoomdhaaDoor
