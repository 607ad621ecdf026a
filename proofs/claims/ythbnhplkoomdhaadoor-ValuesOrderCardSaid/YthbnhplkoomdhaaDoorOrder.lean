/- The law of order: all ways together. -/
import Derived.Test.YthbnhplkoomdhaaDoorOrdA
import Derived.Test.YthbnhplkoomdhaaDoorOrdB
import Derived.Test.YthbnhplkoomdhaaDoorOrdC
import Derived.Test.YthbnhplkoomdhaaDoorOrdE
namespace Go.Proofs.YthbnhplkoomdhaaDoor
open Go Go.RowKit

theorem ci_lt (k n k' n' : Int) (t t' : Array UInt8) (v : Bool) (h2 : (k == 2) = true) (h2' : (k' == 2) = true) (hv : decide (n < n') = v) (W : World) : Calls Tryd.prog 39 #[.string { data := #[60] }, .agg #[.int .i64 k, .int .i64 n, .string { data := t }], .agg #[.int .i64 k', .int .i64 n', .string { data := t' }]] W fun e w' => e = .returned (.tuple #[.agg #[.int .i64 1, .int .i64 (if v then 1 else 0), .string { data := #[] }], .string { data := #[] }]) ∧ Below W.heap.size W w' :=
  cmp_int { data := #[60] } { data := t } { data := t' } k n k' n' v (if v then 1 else 0) W h2 h2' (fun W => by rw [← hv]; exact ord_lt n n' W) (fun W => bool_any v W)
theorem cs_lt (k n k' n' : Int) (t t' : Array UInt8) (v : Bool) (h2 : (k == 2) = false) (h3 : (k == 3) = true) (h3' : (k' == 3) = true) (hv : (Op.bytesLess (ByteArray.mk t).toList (ByteArray.mk t').toList) = v) (W : World) : Calls Tryd.prog 39 #[.string { data := #[60] }, .agg #[.int .i64 k, .int .i64 n, .string { data := t }], .agg #[.int .i64 k', .int .i64 n', .string { data := t' }]] W fun e w' => e = .returned (.tuple #[.agg #[.int .i64 1, .int .i64 (if v then 1 else 0), .string { data := #[] }], .string { data := #[] }]) ∧ Below W.heap.size W w' :=
  cmp_str { data := #[60] } { data := t } { data := t' } k n k' n' v (if v then 1 else 0) W h2 h3 h3' (fun W => by rw [← hv]; exact ords_lt _ _ W) (fun W => bool_any v W)
theorem cn_lt (k n k' n' : Int) (t t' : Array UInt8) (h2 : ((k == 2) && (k' == 2)) = false) (h3 : ((k == 3) && (k' == 3)) = false) (W : World) : Calls Tryd.prog 39 #[.string { data := #[60] }, .agg #[.int .i64 k, .int .i64 n, .string { data := t }], .agg #[.int .i64 k', .int .i64 n', .string { data := t' }]] W fun e w' => e = .returned (.tuple #[valNo, .string { data := #[116, 121, 112, 101] }]) ∧ Below W.heap.size W w' :=
  cmp_no { data := #[60] } { data := t } { data := t' } k n k' n' W h2 h3

theorem ci_le (k n k' n' : Int) (t t' : Array UInt8) (v : Bool) (h2 : (k == 2) = true) (h2' : (k' == 2) = true) (hv : decide (n ≤ n') = v) (W : World) : Calls Tryd.prog 39 #[.string { data := #[60, 61] }, .agg #[.int .i64 k, .int .i64 n, .string { data := t }], .agg #[.int .i64 k', .int .i64 n', .string { data := t' }]] W fun e w' => e = .returned (.tuple #[.agg #[.int .i64 1, .int .i64 (if v then 1 else 0), .string { data := #[] }], .string { data := #[] }]) ∧ Below W.heap.size W w' :=
  cmp_int { data := #[60, 61] } { data := t } { data := t' } k n k' n' v (if v then 1 else 0) W h2 h2' (fun W => by rw [← hv]; exact ord_le n n' W) (fun W => bool_any v W)
theorem cs_le (k n k' n' : Int) (t t' : Array UInt8) (v : Bool) (h2 : (k == 2) = false) (h3 : (k == 3) = true) (h3' : (k' == 3) = true) (hv : (Op.bytesLess (ByteArray.mk t).toList (ByteArray.mk t').toList || (ByteArray.mk t).toList == (ByteArray.mk t').toList) = v) (W : World) : Calls Tryd.prog 39 #[.string { data := #[60, 61] }, .agg #[.int .i64 k, .int .i64 n, .string { data := t }], .agg #[.int .i64 k', .int .i64 n', .string { data := t' }]] W fun e w' => e = .returned (.tuple #[.agg #[.int .i64 1, .int .i64 (if v then 1 else 0), .string { data := #[] }], .string { data := #[] }]) ∧ Below W.heap.size W w' :=
  cmp_str { data := #[60, 61] } { data := t } { data := t' } k n k' n' v (if v then 1 else 0) W h2 h3 h3' (fun W => by rw [← hv]; exact ords_le _ _ W) (fun W => bool_any v W)
theorem cn_le (k n k' n' : Int) (t t' : Array UInt8) (h2 : ((k == 2) && (k' == 2)) = false) (h3 : ((k == 3) && (k' == 3)) = false) (W : World) : Calls Tryd.prog 39 #[.string { data := #[60, 61] }, .agg #[.int .i64 k, .int .i64 n, .string { data := t }], .agg #[.int .i64 k', .int .i64 n', .string { data := t' }]] W fun e w' => e = .returned (.tuple #[valNo, .string { data := #[116, 121, 112, 101] }]) ∧ Below W.heap.size W w' :=
  cmp_no { data := #[60, 61] } { data := t } { data := t' } k n k' n' W h2 h3

theorem ci_gt (k n k' n' : Int) (t t' : Array UInt8) (v : Bool) (h2 : (k == 2) = true) (h2' : (k' == 2) = true) (hv : decide (n > n') = v) (W : World) : Calls Tryd.prog 39 #[.string { data := #[62] }, .agg #[.int .i64 k, .int .i64 n, .string { data := t }], .agg #[.int .i64 k', .int .i64 n', .string { data := t' }]] W fun e w' => e = .returned (.tuple #[.agg #[.int .i64 1, .int .i64 (if v then 1 else 0), .string { data := #[] }], .string { data := #[] }]) ∧ Below W.heap.size W w' :=
  cmp_int { data := #[62] } { data := t } { data := t' } k n k' n' v (if v then 1 else 0) W h2 h2' (fun W => by rw [← hv]; exact ord_gt n n' W) (fun W => bool_any v W)
theorem cs_gt (k n k' n' : Int) (t t' : Array UInt8) (v : Bool) (h2 : (k == 2) = false) (h3 : (k == 3) = true) (h3' : (k' == 3) = true) (hv : (!Op.bytesLess (ByteArray.mk t).toList (ByteArray.mk t').toList && !(ByteArray.mk t).toList == (ByteArray.mk t').toList) = v) (W : World) : Calls Tryd.prog 39 #[.string { data := #[62] }, .agg #[.int .i64 k, .int .i64 n, .string { data := t }], .agg #[.int .i64 k', .int .i64 n', .string { data := t' }]] W fun e w' => e = .returned (.tuple #[.agg #[.int .i64 1, .int .i64 (if v then 1 else 0), .string { data := #[] }], .string { data := #[] }]) ∧ Below W.heap.size W w' :=
  cmp_str { data := #[62] } { data := t } { data := t' } k n k' n' v (if v then 1 else 0) W h2 h3 h3' (fun W => by rw [← hv]; exact ords_gt _ _ W) (fun W => bool_any v W)
theorem cn_gt (k n k' n' : Int) (t t' : Array UInt8) (h2 : ((k == 2) && (k' == 2)) = false) (h3 : ((k == 3) && (k' == 3)) = false) (W : World) : Calls Tryd.prog 39 #[.string { data := #[62] }, .agg #[.int .i64 k, .int .i64 n, .string { data := t }], .agg #[.int .i64 k', .int .i64 n', .string { data := t' }]] W fun e w' => e = .returned (.tuple #[valNo, .string { data := #[116, 121, 112, 101] }]) ∧ Below W.heap.size W w' :=
  cmp_no { data := #[62] } { data := t } { data := t' } k n k' n' W h2 h3

theorem ci_ge (k n k' n' : Int) (t t' : Array UInt8) (v : Bool) (h2 : (k == 2) = true) (h2' : (k' == 2) = true) (hv : decide (n ≥ n') = v) (W : World) : Calls Tryd.prog 39 #[.string { data := #[62, 61] }, .agg #[.int .i64 k, .int .i64 n, .string { data := t }], .agg #[.int .i64 k', .int .i64 n', .string { data := t' }]] W fun e w' => e = .returned (.tuple #[.agg #[.int .i64 1, .int .i64 (if v then 1 else 0), .string { data := #[] }], .string { data := #[] }]) ∧ Below W.heap.size W w' :=
  cmp_int { data := #[62, 61] } { data := t } { data := t' } k n k' n' v (if v then 1 else 0) W h2 h2' (fun W => by rw [← hv]; exact ord_ge n n' W) (fun W => bool_any v W)
theorem cs_ge (k n k' n' : Int) (t t' : Array UInt8) (v : Bool) (h2 : (k == 2) = false) (h3 : (k == 3) = true) (h3' : (k' == 3) = true) (hv : (!Op.bytesLess (ByteArray.mk t).toList (ByteArray.mk t').toList) = v) (W : World) : Calls Tryd.prog 39 #[.string { data := #[62, 61] }, .agg #[.int .i64 k, .int .i64 n, .string { data := t }], .agg #[.int .i64 k', .int .i64 n', .string { data := t' }]] W fun e w' => e = .returned (.tuple #[.agg #[.int .i64 1, .int .i64 (if v then 1 else 0), .string { data := #[] }], .string { data := #[] }]) ∧ Below W.heap.size W w' :=
  cmp_str { data := #[62, 61] } { data := t } { data := t' } k n k' n' v (if v then 1 else 0) W h2 h3 h3' (fun W => by rw [← hv]; exact ords_ge _ _ W) (fun W => bool_any v W)
theorem cn_ge (k n k' n' : Int) (t t' : Array UInt8) (h2 : ((k == 2) && (k' == 2)) = false) (h3 : ((k == 3) && (k' == 3)) = false) (W : World) : Calls Tryd.prog 39 #[.string { data := #[62, 61] }, .agg #[.int .i64 k, .int .i64 n, .string { data := t }], .agg #[.int .i64 k', .int .i64 n', .string { data := t' }]] W fun e w' => e = .returned (.tuple #[valNo, .string { data := #[116, 121, 112, 101] }]) ∧ Below W.heap.size W w' :=
  cmp_no { data := #[62, 61] } { data := t } { data := t' } k n k' n' W h2 h3

theorem less_ne : ∀ a b : List UInt8, Op.bytesLess a b = true → (a == b) = false := by
  intro a
  induction a with
  | nil => intro b h; cases b <;> simp_all [Op.bytesLess]
  | cons x l ih =>
    intro b h
    cases b with
    | nil => simp
    | cons y m =>
      simp only [Op.bytesLess] at h
      by_cases hxy : x = y
      · subst hxy
        have hm : Op.bytesLess l m = true := by simpa using h
        have := ih m hm
        simpa using this
      · simp [hxy]
theorem chk_two {k n : Int} {t : Array UInt8} (h : chk k n t = true) (h2 : k = 2) : t = #[] := by
  subst h2
  by_cases ht : t = #[]
  · exact ht
  · simp [chk, ht] at h
theorem chk_three {k n : Int} {t : Array UInt8} (h : chk k n t = true) (h3 : k = 3) : n = 0 := by
  subst h3
  simpa [chk] using h
theorem order_any (k n k' n' : Int) (t t' : Array UInt8) (w : World) :
    Calls Tryd.prog 5 #[.agg #[.int .i64 k, .int .i64 n, .string { data := t }], .agg #[.int .i64 k', .int .i64 n', .string { data := t' }]] w fun e w' => e = .returned (.bool true) ∧ Below w.heap.size w w' := by
  by_cases hl : 500 < t.size ∨ 500 < t'.size
  · exact vpath_long k n k' n' t t' w (fun b W h => by have := long_two b W k n k' n' t t' h; rwa [decide_eq_true hl] at this)
  have HLONG : ∀ b W, W.heap[b]? = some (.cells #[.int .i64 k, .int .i64 n, .string { data := t }, .int .i64 k', .int .i64 n', .string { data := t' }] 24 (0, 0)) → Calls Tryd.prog 6 #[.slice (some ⟨b, 0, none⟩) 2 2] W fun e w' => e = .returned (.bool false) ∧ w' = W :=
    fun b W h => by have := long_two b W k n k' n' t t' h; rwa [decide_eq_false hl] at this
  have hs : t.size ≤ 500 := by omega
  have hs' : t'.size ≤ 500 := by omega
  cases hx : chk k n t
  · exact vpath_bad1 k n k' n' t t' w (opc_lt_bad k n k' n' t t' (.inl hx)) (opc_eq_bad k n k' n' t t' (.inl hx)) (opc_gt_bad k n k' n' t t' (.inl hx)) (fun W => by have := refcheck_any k n t W hs; rwa [hx] at this) HLONG
  have HCX : ∀ W, Calls Tryd.prog 15 #[.agg #[.int .i64 k, .int .i64 n, .string { data := t }]] W fun e w' => e = .returned (.bool true) ∧ Below W.heap.size W w' := fun W => by have := refcheck_any k n t W hs; rwa [hx] at this
  cases hy : chk k' n' t'
  · exact vpath_bad2 k n k' n' t t' w (opc_lt_bad k n k' n' t t' (.inr hy)) (opc_eq_bad k n k' n' t t' (.inr hy)) (opc_gt_bad k n k' n' t t' (.inr hy)) HCX (fun W => by have := refcheck_any k' n' t' W hs'; rwa [hy] at this) HLONG
  have HCY : ∀ W, Calls Tryd.prog 15 #[.agg #[.int .i64 k', .int .i64 n', .string { data := t' }]] W fun e w' => e = .returned (.bool true) ∧ Below W.heap.size W w' := fun W => by have := refcheck_any k' n' t' W hs'; rwa [hy] at this
  by_cases hk : k = k'
  · subst hk
    by_cases h2 : k = 2
    · have h2b : (k == 2) = true := by simp [h2]
      have ht := chk_two hx h2
      have ht' := chk_two hy h2
      have hsame : same k n { data := t } k n' { data := t' } = (n == n') := by simp [same, ht, ht']
      rcases Int.lt_trichotomy n n' with h | h | h
      · exact vpath_cmp_100_n k n k n' t t' w (opc_lt k n k n' t t' hx hy 1 1 #[] #[] (ci_lt k n k n' t t' true h2b h2b (by simp; omega))) (opc_eq k n k n' t t' hx hy false (by rw [hsame]; simp; omega)) (opc_gt k n k n' t t' hx hy 1 0 #[] #[] (ci_gt k n k n' t t' false h2b h2b (by simp; omega))) HCX HCY HLONG (opc_le k n k n' t t' hx hy 1 1 #[] #[] (ci_le k n k n' t t' true h2b h2b (by simp; omega))) (opc_ge k n k n' t t' hx hy 1 0 #[] #[] (ci_ge k n k n' t t' false h2b h2b (by simp; omega))) (by simp) (by subst h2; rfl)
      · exact vpath_cmp_010_n k n k n' t t' w (opc_lt k n k n' t t' hx hy 1 0 #[] #[] (ci_lt k n k n' t t' false h2b h2b (by simp; omega))) (opc_eq k n k n' t t' hx hy true (by rw [hsame]; simp; omega)) (opc_gt k n k n' t t' hx hy 1 0 #[] #[] (ci_gt k n k n' t t' false h2b h2b (by simp; omega))) HCX HCY HLONG (opc_le k n k n' t t' hx hy 1 1 #[] #[] (ci_le k n k n' t t' true h2b h2b (by simp; omega))) (opc_ge k n k n' t t' hx hy 1 1 #[] #[] (ci_ge k n k n' t t' true h2b h2b (by simp; omega))) (by simp) (by subst h2; rfl)
      · exact vpath_cmp_001_n k n k n' t t' w (opc_lt k n k n' t t' hx hy 1 0 #[] #[] (ci_lt k n k n' t t' false h2b h2b (by simp; omega))) (opc_eq k n k n' t t' hx hy false (by rw [hsame]; simp; omega)) (opc_gt k n k n' t t' hx hy 1 1 #[] #[] (ci_gt k n k n' t t' true h2b h2b (by simp; omega))) HCX HCY HLONG (opc_le k n k n' t t' hx hy 1 0 #[] #[] (ci_le k n k n' t t' false h2b h2b (by simp; omega))) (opc_ge k n k n' t t' hx hy 1 1 #[] #[] (ci_ge k n k n' t t' true h2b h2b (by simp; omega))) (by simp) (by subst h2; rfl)
    by_cases h3 : k = 3
    · have h2b : (k == 2) = false := by simp [h3]
      have h3b : (k == 3) = true := by simp [h3]
      have hn := chk_three hx h3
      have hn' := chk_three hy h3
      have hsame : same k n { data := t } k n' { data := t' } = ((ByteArray.mk t).toList == (ByteArray.mk t').toList) := by simp only [same, hn, hn', beq_self_eq_true, Bool.true_and]
      have hnl := less_ne (ByteArray.mk t).toList (ByteArray.mk t').toList
      cases hlt : Op.bytesLess (ByteArray.mk t).toList (ByteArray.mk t').toList
      · cases heq : ((ByteArray.mk t).toList == (ByteArray.mk t').toList)
        · exact vpath_cmp_001_t k n k n' t t' w (opc_lt k n k n' t t' hx hy 1 0 #[] #[] (cs_lt k n k n' t t' false h2b h3b h3b hlt)) (opc_eq k n k n' t t' hx hy false (hsame.trans heq)) (opc_gt k n k n' t t' hx hy 1 1 #[] #[] (cs_gt k n k n' t t' true h2b h3b h3b (by rw [hlt, heq]; rfl))) HCX HCY HLONG (opc_le k n k n' t t' hx hy 1 0 #[] #[] (cs_le k n k n' t t' false h2b h3b h3b (by rw [hlt, heq]; rfl))) (opc_ge k n k n' t t' hx hy 1 1 #[] #[] (cs_ge k n k n' t t' true h2b h3b h3b (by rw [hlt]; rfl))) (by simp) (by subst h3; rfl) (by subst h3; rfl)
        · exact vpath_cmp_010_t k n k n' t t' w (opc_lt k n k n' t t' hx hy 1 0 #[] #[] (cs_lt k n k n' t t' false h2b h3b h3b hlt)) (opc_eq k n k n' t t' hx hy true (hsame.trans heq)) (opc_gt k n k n' t t' hx hy 1 0 #[] #[] (cs_gt k n k n' t t' false h2b h3b h3b (by rw [hlt, heq]; rfl))) HCX HCY HLONG (opc_le k n k n' t t' hx hy 1 1 #[] #[] (cs_le k n k n' t t' true h2b h3b h3b (by rw [hlt, heq]; rfl))) (opc_ge k n k n' t t' hx hy 1 1 #[] #[] (cs_ge k n k n' t t' true h2b h3b h3b (by rw [hlt]; rfl))) (by simp) (by subst h3; rfl) (by subst h3; rfl)
      · have heq := hnl hlt
        exact vpath_cmp_100_t k n k n' t t' w (opc_lt k n k n' t t' hx hy 1 1 #[] #[] (cs_lt k n k n' t t' true h2b h3b h3b hlt)) (opc_eq k n k n' t t' hx hy false (hsame.trans heq)) (opc_gt k n k n' t t' hx hy 1 0 #[] #[] (cs_gt k n k n' t t' false h2b h3b h3b (by rw [hlt, heq]; rfl))) HCX HCY HLONG (opc_le k n k n' t t' hx hy 1 1 #[] #[] (cs_le k n k n' t t' true h2b h3b h3b (by rw [hlt, heq]; rfl))) (opc_ge k n k n' t t' hx hy 1 0 #[] #[] (cs_ge k n k n' t t' false h2b h3b h3b (by rw [hlt]; rfl))) (by simp) (by subst h3; rfl) (by subst h3; rfl)
    have c2 : ((k == 2) && (k == 2)) = false := by simp [h2]
    have c3 : ((k == 3) && (k == 3)) = false := by simp [h3]
    have f2 : (k != 2) = true := by simp [h2]
    have f3 : (k != 3) = true := by simp [h3]
    cases hsm : same k n { data := t } k n' { data := t' }
    · exact vpath_diff_no k n k n' t t' w (opc_lt k n k n' t t' hx hy 0 0 #[] _ (cn_lt k n k n' t t' c2 c3)) (opc_eq k n k n' t t' hx hy false hsm) (opc_gt k n k n' t t' hx hy 0 0 #[] _ (cn_gt k n k n' t t' c2 c3)) HCX HCY HLONG (by simp) f2 f3
    · exact vpath_diff_same k n k n' t t' w (opc_lt k n k n' t t' hx hy 0 0 #[] _ (cn_lt k n k n' t t' c2 c3)) (opc_eq k n k n' t t' hx hy true hsm) (opc_gt k n k n' t t' hx hy 0 0 #[] _ (cn_gt k n k n' t t' c2 c3)) HCX HCY HLONG (by simp) f2 f3
  · have c2 : ((k == 2) && (k' == 2)) = false := by rw [Bool.and_eq_false_iff]; by_cases h : k = 2 <;> simp [h]; omega
    have c3 : ((k == 3) && (k' == 3)) = false := by rw [Bool.and_eq_false_iff]; by_cases h : k = 3 <;> simp [h]; omega
    have hsm : same k n { data := t } k' n' { data := t' } = false := by simp [same, hk]
    exact vpath_diff_ne k n k' n' t t' w (opc_lt k n k' n' t t' hx hy 0 0 #[] _ (cn_lt k n k' n' t t' c2 c3)) (opc_eq k n k' n' t t' hx hy false hsm) (opc_gt k n k' n' t t' hx hy 0 0 #[] _ (cn_gt k n k' n' t t' c2 c3)) HCX HCY HLONG (by simp [hk])
end Go.Proofs.YthbnhplkoomdhaaDoor
