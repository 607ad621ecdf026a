/- What two values of any kind make: truths, sameness, order. -/
import Derived.Test.YthbnhplkoomdhaaDoorVals
namespace Go.Proofs.YthbnhplkoomdhaaDoor
open Go Go.RowKit
theorem res35 (tmps : Array Value) (w : World) (g : Nat) (cs : Array Value) (hp : tmps.getD 2 undef = .pointer (some ⟨g, 0, none⟩)) (hg : w.heap[g]? = some (.cells cs 24 (0, 0))) (hs : cs.size = 3 := by rfl) :
    (results Tryd.f35 tmps).run Tryd.prog w = .ok (.agg cs) w :=
  results_cell_row (P := Tryd.prog) (p := 2) (ty := 24) Tryd.results35 tmps w g 24 cs (0, 0) _ hp hg Tryd.underlying24 rfl (by rw [size24, hs])
abbrev valN (bn : Int) : Value := .agg #[.int .i64 1, .int .i64 bn, .string { data := #[] }]
abbrev valB (b : Bool) : Value := .agg #[.int .i64 1, .int .i64 (if b then 1 else 0), .string { data := #[] }]
theorem bool_any (b : Bool) (w : World) : Calls Tryd.prog 35 #[.bool b] w fun e w' => e = .returned (valB b) ∧ Below w.heap.size w w' := by
  cases b
  · go_enter Tryd.func35, Tryd.ntmps35
    go_wp2
    exact bodyPost_ret (v := valB false) (res35 _ _ w.heap.size _ rfl (newc w _)) rfl ⟨rfl, (Below.refl _ _).alloc (Nat.le_refl _) _⟩
  · go_enter Tryd.func35, Tryd.ntmps35
    go_wp2
    exact bodyPost_ret (v := valB true) (res35 _ _ w.heap.size _ rfl (newc w _)) rfl ⟨rfl, (Below.refl _ _).alloc (Nat.le_refl _) _⟩
theorem so_bool (b : Bool) (w : World) : Calls Tryd.prog 16 #[valB b] w fun e w' => e = .returned (.bool b) ∧ Below w.heap.size w w' := by
  cases b
  · go_enter Tryd.func16, Tryd.ntmps16
    go_wp2
    go_ret
    exact ⟨rfl, (Below.refl _ _).alloc (Nat.le_refl _) _⟩
  · go_enter Tryd.func16, Tryd.ntmps16
    go_wp2
    go_ret
    exact ⟨rfl, (Below.refl _ _).alloc (Nat.le_refl _) _⟩
theorem ret_b {a b : Bool} (h : a = b) : Ending.returned (.bool a) = .returned (.bool b) := by rw [h]
def same (k n : Int) (t : ByteArray) (k' n' : Int) (t' : ByteArray) : Bool := (k == k') && (n == n') && (t.toList == t'.toList)
theorem same_any (k n k' n' : Int) (t t' : ByteArray) (w : World) :
    Calls Tryd.prog 36 #[.agg #[.int .i64 k, .int .i64 n, .string t], .agg #[.int .i64 k', .int .i64 n', .string t']] w fun e w' => e = .returned (.bool (same k n t k' n' t')) ∧ Below w.heap.size w w' := by
  have hb := ((Below.refl w.heap.size w).alloc (Nat.le_refl _) (.cells #[.int .i64 k, .int .i64 n, .string t] 24)).alloc (by simp) (.cells #[.int .i64 k', .int .i64 n', .string t'] 24)
  by_cases hk : (k == k') = true
  · by_cases hn : (n == n') = true
    · go_enter Tryd.func36, Tryd.ntmps36
      go_wp2_with fail
      go_ret
      exact ⟨ret_b (a := (t.toList == t'.toList)) (by simp only [same, hk, hn, Bool.true_and]), hb⟩
    · have hn' : (n == n') = false := by simpa using hn
      go_enter Tryd.func36, Tryd.ntmps36
      go_wp2_with fail
      go_ret
      exact ⟨ret_b (a := false) (by simp only [same, hk, hn', Bool.true_and, Bool.false_and]), hb⟩
  · have hk' : (k == k') = false := by simpa using hk
    go_enter Tryd.func36, Tryd.ntmps36
    go_wp2_with fail
    go_ret
    exact ⟨ret_b (a := false) (by simp only [same, hk', Bool.false_and]), hb⟩
theorem ord_lt (a b : Int) (w : World) : Calls Tryd.prog 51 #[.string { data := #[60] }, .int .i64 a, .int .i64 b] w fun e w' => e = .returned (.bool (decide (a < b))) ∧ w' = w := by
  go_enter Tryd.func51, Tryd.ntmps51
  go_wp2
  go_ret
  exact ⟨rfl, rfl⟩
theorem ord_le (a b : Int) (w : World) : Calls Tryd.prog 51 #[.string { data := #[60, 61] }, .int .i64 a, .int .i64 b] w fun e w' => e = .returned (.bool (decide (a ≤ b))) ∧ w' = w := by
  go_enter Tryd.func51, Tryd.ntmps51
  go_wp2
  go_ret
  exact ⟨rfl, rfl⟩
theorem ord_gt (a b : Int) (w : World) : Calls Tryd.prog 51 #[.string { data := #[62] }, .int .i64 a, .int .i64 b] w fun e w' => e = .returned (.bool (decide (a > b))) ∧ w' = w := by
  go_enter Tryd.func51, Tryd.ntmps51
  go_wp2
  go_ret
  exact ⟨rfl, rfl⟩
theorem ord_ge (a b : Int) (w : World) : Calls Tryd.prog 51 #[.string { data := #[62, 61] }, .int .i64 a, .int .i64 b] w fun e w' => e = .returned (.bool (decide (a ≥ b))) ∧ w' = w := by
  go_enter Tryd.func51, Tryd.ntmps51
  go_wp2
  go_ret
  exact ⟨rfl, rfl⟩
theorem ords_lt (a b : ByteArray) (w : World) : Calls Tryd.prog 52 #[.string { data := #[60] }, .string a, .string b] w fun e w' => e = .returned (.bool (Op.bytesLess a.toList b.toList)) ∧ w' = w := by
  go_enter Tryd.func52, Tryd.ntmps52
  go_wp2
  go_ret
  exact ⟨rfl, rfl⟩
theorem ords_le (a b : ByteArray) (w : World) : Calls Tryd.prog 52 #[.string { data := #[60, 61] }, .string a, .string b] w fun e w' => e = .returned (.bool (Op.bytesLess a.toList b.toList || a.toList == b.toList)) ∧ w' = w := by
  go_enter Tryd.func52, Tryd.ntmps52
  go_wp2
  go_ret
  exact ⟨rfl, rfl⟩
theorem ords_gt (a b : ByteArray) (w : World) : Calls Tryd.prog 52 #[.string { data := #[62] }, .string a, .string b] w fun e w' => e = .returned (.bool (!Op.bytesLess a.toList b.toList && !a.toList == b.toList)) ∧ w' = w := by
  go_enter Tryd.func52, Tryd.ntmps52
  go_wp2
  go_ret
  exact ⟨rfl, rfl⟩
theorem ords_ge (a b : ByteArray) (w : World) : Calls Tryd.prog 52 #[.string { data := #[62, 61] }, .string a, .string b] w fun e w' => e = .returned (.bool (!Op.bytesLess a.toList b.toList)) ∧ w' = w := by
  go_enter Tryd.func52, Tryd.ntmps52
  go_wp2
  go_ret
  exact ⟨rfl, rfl⟩
theorem res39 (tmps : Array Value) (w : World) (g : Nat) (cs : Array Value) (hp : tmps.getD 6 undef = .pointer (some ⟨g, 0, none⟩)) (hg : w.heap[g]? = some (.cells cs 24 (0, 0))) (hs : cs.size = 3 := by rfl) :
    (results Tryd.f39 tmps).run Tryd.prog w = .ok (.tuple #[.agg cs, tmps.getD 7 undef]) w := by
  rw [results_cell_tmp Tryd.results39, hp]
  simp only [asAddr, Sem.run_pure, Result.andThen_ok]
  rw [run_loadVar_row (P := Tryd.prog) w g 24 24 cs (0, 0) _ hg Tryd.underlying24 rfl (by rw [size24, hs])]
  rfl
theorem newd (w : World) (a b c : Obj) : (((w.alloc a).alloc b).alloc c).heap[w.heap.size + 1 + 1]? = some c := by
  have := newc ((w.alloc a).alloc b) c
  simpa using this
theorem belowd (w : World) (a b c : Obj) : Below w.heap.size w (((w.alloc a).alloc b).alloc c) := (((Below.refl w.heap.size w).alloc (Nat.le_refl _) a).alloc (by simp) b).alloc (by simp; omega) c

set_option maxRecDepth 10000 in
set_option maxHeartbeats 1000000 in
theorem cmp_int (o t t' : ByteArray) (k n k' n' : Int) (v : Bool) (bn : Int) (w : World) (h2 : (k == 2) = true) (h2' : (k' == 2) = true)
    (hO : ∀ W, Calls Tryd.prog 51 #[.string o, .int .i64 n, .int .i64 n'] W fun e w' => e = .returned (.bool v) ∧ w' = W)
    (hB : ∀ W, Calls Tryd.prog 35 #[.bool v] W fun e w' => e = .returned (valN bn) ∧ Below W.heap.size W w') :
    Calls Tryd.prog 39 #[.string o, .agg #[.int .i64 k, .int .i64 n, .string t], .agg #[.int .i64 k', .int .i64 n', .string t']] w fun e w' => e = .returned (.tuple #[valN bn, .string { data := #[] }]) ∧ Below w.heap.size w w' := by
  have HO := Lib.hid hO
  have HBN := Lib.hid hB
  have HR : Hid ((((w.alloc (.cells #[.int .i64 k, .int .i64 n, .string t] 24)).alloc (.cells #[.int .i64 k', .int .i64 n', .string t'] 24)).alloc (.cells #[.int .i64 0, .int .i64 0, .string { data := #[] }] 24)).heap[w.heap.size + 1 + 1]? = some (.cells #[.int .i64 0, .int .i64 0, .string { data := #[] }] 24 (0, 0))) := Lib.hid (newd w _ _ _)
  have HB : Hid (Below w.heap.size w (((w.alloc (.cells #[.int .i64 k, .int .i64 n, .string t] 24)).alloc (.cells #[.int .i64 k', .int .i64 n', .string t'] 24)).alloc (.cells #[.int .i64 0, .int .i64 0, .string { data := #[] }] 24))) := Lib.hid (belowd w _ _ _)
  clear hO hB
  go_enter Tryd.func39, Tryd.ntmps39
  go_wp2_with fail
  refine (HO.out _).mono ?_
  rintro e w4 ⟨rfl, rfl⟩
  go_wp2_with fail
  refine (HBN.out _).mono ?_
  rintro e w5 ⟨rfl, hb5⟩
  have hr5 := (hb5.block _ (hlt HR.out)).trans HR.out
  have HR5 := Lib.hid hr5
  have HROW := Lib.hid (setRow_at w5 (w.heap.size + 1 + 1) _ #[.int .i64 1, .int .i64 bn, .string { data := #[] }] 24 (0, 0) hr5)
  have hbelow : Below w.heap.size w (w5.setRow (w.heap.size + 1 + 1) #[.int .i64 1, .int .i64 bn, .string { data := #[] }]) := setRow_below (HB.out.trans (hb5.mono HB.out.size)) (by omega) _
  clear hr5
  go_wp2_with (refine wpList_store_row rfl 24 (.tmp 6) (.tmp 23) rfl (w.heap.size + 1 + 1) #[.int .i64 1, .int .i64 bn, .string { data := #[] }] rfl rfl 24 _ HR5.out (by rw [size24]; rfl) rfl (by simp [Value.oneCell']) ?_)
  exact bodyPost_ret (v := .tuple #[valN bn, .string { data := #[] }]) (res39 _ _ (w.heap.size + 1 + 1) _ rfl HROW.out) rfl ⟨rfl, hbelow⟩

set_option maxRecDepth 10000 in
set_option maxHeartbeats 1000000 in
theorem cmp_str (o t t' : ByteArray) (k n k' n' : Int) (v : Bool) (bn : Int) (w : World) (h2 : (k == 2) = false) (h3 : (k == 3) = true) (h3' : (k' == 3) = true)
    (hO : ∀ W, Calls Tryd.prog 52 #[.string o, .string t, .string t'] W fun e w' => e = .returned (.bool v) ∧ w' = W)
    (hB : ∀ W, Calls Tryd.prog 35 #[.bool v] W fun e w' => e = .returned (valN bn) ∧ Below W.heap.size W w') :
    Calls Tryd.prog 39 #[.string o, .agg #[.int .i64 k, .int .i64 n, .string t], .agg #[.int .i64 k', .int .i64 n', .string t']] w fun e w' => e = .returned (.tuple #[valN bn, .string { data := #[] }]) ∧ Below w.heap.size w w' := by
  have HO := Lib.hid hO
  have HBN := Lib.hid hB
  have HR : Hid ((((w.alloc (.cells #[.int .i64 k, .int .i64 n, .string t] 24)).alloc (.cells #[.int .i64 k', .int .i64 n', .string t'] 24)).alloc (.cells #[.int .i64 0, .int .i64 0, .string { data := #[] }] 24)).heap[w.heap.size + 1 + 1]? = some (.cells #[.int .i64 0, .int .i64 0, .string { data := #[] }] 24 (0, 0))) := Lib.hid (newd w _ _ _)
  have HB : Hid (Below w.heap.size w (((w.alloc (.cells #[.int .i64 k, .int .i64 n, .string t] 24)).alloc (.cells #[.int .i64 k', .int .i64 n', .string t'] 24)).alloc (.cells #[.int .i64 0, .int .i64 0, .string { data := #[] }] 24))) := Lib.hid (belowd w _ _ _)
  clear hO hB
  go_enter Tryd.func39, Tryd.ntmps39
  go_wp2_with fail
  refine (HO.out _).mono ?_
  rintro e w4 ⟨rfl, rfl⟩
  go_wp2_with fail
  refine (HBN.out _).mono ?_
  rintro e w5 ⟨rfl, hb5⟩
  have hr5 := (hb5.block _ (hlt HR.out)).trans HR.out
  have HR5 := Lib.hid hr5
  have HROW := Lib.hid (setRow_at w5 (w.heap.size + 1 + 1) _ #[.int .i64 1, .int .i64 bn, .string { data := #[] }] 24 (0, 0) hr5)
  have hbelow : Below w.heap.size w (w5.setRow (w.heap.size + 1 + 1) #[.int .i64 1, .int .i64 bn, .string { data := #[] }]) := setRow_below (HB.out.trans (hb5.mono HB.out.size)) (by omega) _
  clear hr5
  go_wp2_with (refine wpList_store_row rfl 24 (.tmp 6) (.tmp 39) rfl (w.heap.size + 1 + 1) #[.int .i64 1, .int .i64 bn, .string { data := #[] }] rfl rfl 24 _ HR5.out (by rw [size24]; rfl) rfl (by simp [Value.oneCell']) ?_)
  exact bodyPost_ret (v := .tuple #[valN bn, .string { data := #[] }]) (res39 _ _ (w.heap.size + 1 + 1) _ rfl HROW.out) rfl ⟨rfl, hbelow⟩

set_option maxRecDepth 10000 in
set_option maxHeartbeats 1000000 in
theorem cmp_no (o t t' : ByteArray) (k n k' n' : Int) (w : World) (h2 : ((k == 2) && (k' == 2)) = false) (h3 : ((k == 3) && (k' == 3)) = false) :
    Calls Tryd.prog 39 #[.string o, .agg #[.int .i64 k, .int .i64 n, .string t], .agg #[.int .i64 k', .int .i64 n', .string t']] w fun e w' => e = .returned (.tuple #[valNo, .string { data := #[116, 121, 112, 101] }]) ∧ Below w.heap.size w w' := by
  have hr := newd w (.cells #[.int .i64 k, .int .i64 n, .string t] 24) (.cells #[.int .i64 k', .int .i64 n', .string t'] 24) (.cells #[.int .i64 0, .int .i64 0, .string { data := #[] }] 24)
  have hb := belowd w (.cells #[.int .i64 k, .int .i64 n, .string t] 24) (.cells #[.int .i64 k', .int .i64 n', .string t'] 24) (.cells #[.int .i64 0, .int .i64 0, .string { data := #[] }] 24)
  have HR := Lib.hid hr
  clear hr
  rcases Bool.and_eq_false_iff.1 h2 with a2 | a2 <;> rcases Bool.and_eq_false_iff.1 h3 with a3 | a3 <;> clear h2 h3
  all_goals cases b2 : (k == 2) <;> cases b3 : (k == 3)
  all_goals
    first
    | (exfalso; simp_all; done)
    | (go_enter Tryd.func39, Tryd.ntmps39
       go_wp2_with fail
       exact bodyPost_ret (v := .tuple #[valNo, .string { data := #[116, 121, 112, 101] }]) (res39 _ _ (w.heap.size + 2) _ rfl HR.out) rfl ⟨rfl, hb⟩)
end Go.Proofs.YthbnhplkoomdhaaDoor
