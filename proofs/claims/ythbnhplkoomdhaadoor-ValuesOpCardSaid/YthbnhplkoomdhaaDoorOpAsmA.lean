/- The program of any two values: every operator. -/
import Derived.Test.YthbnhplkoomdhaaDoorOpMore
import Derived.Test.YthbnhplkoomdhaaDoorOpLawA
import Derived.Test.YthbnhplkoomdhaaDoorOpTell
import Derived.Test.YthbnhplkoomdhaaDoorArith
import Derived.Test.YthbnhplkoomdhaaDoorVals
namespace Go.Proofs.YthbnhplkoomdhaaDoor
open Go Go.RowKit
section
variable (k n k' n' : Int) (t t' : Array UInt8)
theorem opc_ne (hx : chk k n t = true) (hy : chk k' n' t' = true) (v : Bool) (hv : same k n { data := t } k' n' { data := t' } = v) : OpC #[126, 61] (.agg #[.int .i64 k, .int .i64 n, .string { data := t }]) (.agg #[.int .i64 k', .int .i64 n', .string { data := t' }]) (valB (!v)) #[] := fun W H ob tb c s0 ⟨hH, p, q, hT⟩ =>
  op_unlike W H ob tb c s0 k n k' n' #[126, 61] t t' 1 (if (!v) then 1 else 0) #[] #[] hx hy hH (fun w hw => look47 (hT.below hw) #[126, 61] 7 _ (by rfl))
    (fun w _ => unlike_op _ k n k' n' t t' v _ w (fun w => by rw [← hv]; exact same_any k n k' n' { data := t } { data := t' } w) (fun w => bool_any (!v) w))
theorem opc_ne_bad (h : chk k n t = false ∨ chk k' n' t' = false) : OpC #[126, 61] (.agg #[.int .i64 k, .int .i64 n, .string { data := t }]) (.agg #[.int .i64 k', .int .i64 n', .string { data := t' }]) valNo #[116, 121, 112, 101] := fun W H ob tb c s0 ⟨hH, p, q, hT⟩ => by
  cases hx : chk k n t
  · exact op_unlike_bad1 W H ob tb c s0 k n k' n' #[126, 61] t t' hx hH (fun w hw => look47 (hT.below hw) #[126, 61] 7 _ (by rfl))
  · exact op_unlike_bad2 W H ob tb c s0 k n k' n' #[126, 61] t t' hx (h.resolve_left (by simp [hx])) hH (fun w hw => look47 (hT.below hw) #[126, 61] 7 _ (by rfl))
theorem opc_join_bad (h : chk k n t = false ∨ chk k' n' t' = false) : OpC #[46, 46] (.agg #[.int .i64 k, .int .i64 n, .string { data := t }]) (.agg #[.int .i64 k', .int .i64 n', .string { data := t' }]) valNo #[116, 121, 112, 101] := fun W H ob tb c s0 ⟨hH, p, q, hT⟩ => by
  cases hx : chk k n t
  · exact op_join_bad1 W H ob tb c s0 k n k' n' #[46, 46] t t' hx hH (fun w hw => look47 (hT.below hw) #[46, 46] 5 _ (by rfl))
  · exact op_join_bad2 W H ob tb c s0 k n k' n' #[46, 46] t t' hx (h.resolve_left (by simp [hx])) hH (fun w hw => look47 (hT.below hw) #[46, 46] 5 _ (by rfl))
theorem opc_join_type (hx : chk k n t = true) (hy : chk k' n' t' = true) (h : ∀ (h : Value) (w : World), Calls Tryd.prog 33 #[h, .agg #[.int .i64 k, .int .i64 n, .string { data := t }], .agg #[.int .i64 k', .int .i64 n', .string { data := t' }]] w fun e w' => e = .returned (.tuple #[valNo, .string { data := #[116, 121, 112, 101] }]) ∧ Below w.heap.size w w') :
    ∀ W H ob tb c s0, HeapAt W H ob tb c s0 → Calls Tryd.prog 10 #[.pointer (some ⟨H, 0, none⟩), .string { data := #[46, 46] }, .agg #[.int .i64 k, .int .i64 n, .string { data := t }], .agg #[.int .i64 k', .int .i64 n', .string { data := t' }]] W fun e w' => e = .returned (.tuple #[valNo, .string { data := #[116, 121, 112, 101] }]) ∧ w'.heap[H]? = some (.cells #[tb, .int .i64 c, .int .i64 s0, .map (some ob)] 51 (0, 0)) ∧ KB H W w' := fun W H ob tb c s0 ⟨hH, p, q, hT⟩ =>
  op_join W H ob tb c s0 k n k' n' s0 #[46, 46] t t' 0 0 #[] #[116, 121, 112, 101] hx hy hH (fun w hw => look47 (hT.below hw) #[46, 46] 5 _ (by rfl))
    (fun w hw => (h _ w).mono fun _ w' ⟨a, b⟩ => ⟨a, (b.block _ (hlt ((hw.block _ (hlt hH)).trans hH))).trans ((hw.block _ (hlt hH)).trans hH), KB.of_below H b (hlt ((hw.block _ (hlt hH)).trans hH))⟩)
theorem opc_none (op : Array UInt8) (hf : ∀ p q, Instr.findNow .string (.string ⟨op⟩) (opsL p q 4) 0 = some none) : OpC op (.agg #[.int .i64 k, .int .i64 n, .string { data := t }]) (.agg #[.int .i64 k', .int .i64 n', .string { data := t' }]) valNo #[116, 121, 112, 101] := fun W H ob tb c s0 ⟨hH, p, q, hT⟩ =>
  op_none W H ob tb c s0 k n k' n' op t t' hH (fun w hw => look_not Tryd.underlying47 Tryd.underlying9 (hT.below hw).1 (by kernel_rfl) (by simpa using hf p q))
theorem opc_add_type (hx : chk k n t = true) (hy : chk k' n' t' = true) (h : ∀ (h x : Value) (w : World), Calls Tryd.prog 48 #[h, .agg #[.int .i64 k, .int .i64 n, .string { data := t }], .agg #[.int .i64 k', .int .i64 n', .string { data := t' }], x] w fun e w' => e = .returned (.tuple #[valNo, .string { data := #[116, 121, 112, 101] }]) ∧ Below w.heap.size w w') : OpC #[43] (.agg #[.int .i64 k, .int .i64 n, .string { data := t }]) (.agg #[.int .i64 k', .int .i64 n', .string { data := t' }]) valNo #[116, 121, 112, 101] := fun W H ob tb c s0 ⟨hH, p, q, hT⟩ =>
  op_rk W H ob (p 0) tb c s0 k n k' n' #[43] t t' 0 0 #[] #[116, 121, 112, 101] hx hy hH (fun w hw => look47 (hT.below hw) #[43] 0 _ (by rfl)) (fun w _ => h _ _ w)
theorem opc_add_bad (h : chk k n t = false ∨ chk k' n' t' = false) : OpC #[43] (.agg #[.int .i64 k, .int .i64 n, .string { data := t }]) (.agg #[.int .i64 k', .int .i64 n', .string { data := t' }]) valNo #[116, 121, 112, 101] := fun W H ob tb c s0 ⟨hH, p, q, hT⟩ => by
  cases hx : chk k n t
  · exact op_rk_bad1 W H ob (p 0) tb c s0 k n k' n' #[43] t t' hx hH (fun w hw => look47 (hT.below hw) #[43] 0 _ (by rfl))
  · exact op_rk_bad2 W H ob (p 0) tb c s0 k n k' n' #[43] t t' hx (h.resolve_left (by simp [hx])) hH (fun w hw => look47 (hT.below hw) #[43] 0 _ (by rfl))
theorem opc_sub_type (hx : chk k n t = true) (hy : chk k' n' t' = true) (h : ∀ (h x : Value) (w : World), Calls Tryd.prog 48 #[h, .agg #[.int .i64 k, .int .i64 n, .string { data := t }], .agg #[.int .i64 k', .int .i64 n', .string { data := t' }], x] w fun e w' => e = .returned (.tuple #[valNo, .string { data := #[116, 121, 112, 101] }]) ∧ Below w.heap.size w w') : OpC #[45] (.agg #[.int .i64 k, .int .i64 n, .string { data := t }]) (.agg #[.int .i64 k', .int .i64 n', .string { data := t' }]) valNo #[116, 121, 112, 101] := fun W H ob tb c s0 ⟨hH, p, q, hT⟩ =>
  op_rk W H ob (p 1) tb c s0 k n k' n' #[45] t t' 0 0 #[] #[116, 121, 112, 101] hx hy hH (fun w hw => look47 (hT.below hw) #[45] 1 _ (by rfl)) (fun w _ => h _ _ w)
theorem opc_sub_bad (h : chk k n t = false ∨ chk k' n' t' = false) : OpC #[45] (.agg #[.int .i64 k, .int .i64 n, .string { data := t }]) (.agg #[.int .i64 k', .int .i64 n', .string { data := t' }]) valNo #[116, 121, 112, 101] := fun W H ob tb c s0 ⟨hH, p, q, hT⟩ => by
  cases hx : chk k n t
  · exact op_rk_bad1 W H ob (p 1) tb c s0 k n k' n' #[45] t t' hx hH (fun w hw => look47 (hT.below hw) #[45] 1 _ (by rfl))
  · exact op_rk_bad2 W H ob (p 1) tb c s0 k n k' n' #[45] t t' hx (h.resolve_left (by simp [hx])) hH (fun w hw => look47 (hT.below hw) #[45] 1 _ (by rfl))
theorem opc_mul_type (hx : chk k n t = true) (hy : chk k' n' t' = true) (h : ∀ (h x : Value) (w : World), Calls Tryd.prog 48 #[h, .agg #[.int .i64 k, .int .i64 n, .string { data := t }], .agg #[.int .i64 k', .int .i64 n', .string { data := t' }], x] w fun e w' => e = .returned (.tuple #[valNo, .string { data := #[116, 121, 112, 101] }]) ∧ Below w.heap.size w w') : OpC #[42] (.agg #[.int .i64 k, .int .i64 n, .string { data := t }]) (.agg #[.int .i64 k', .int .i64 n', .string { data := t' }]) valNo #[116, 121, 112, 101] := fun W H ob tb c s0 ⟨hH, p, q, hT⟩ =>
  op_rk W H ob (p 2) tb c s0 k n k' n' #[42] t t' 0 0 #[] #[116, 121, 112, 101] hx hy hH (fun w hw => look47 (hT.below hw) #[42] 2 _ (by rfl)) (fun w _ => h _ _ w)
theorem opc_mul_bad (h : chk k n t = false ∨ chk k' n' t' = false) : OpC #[42] (.agg #[.int .i64 k, .int .i64 n, .string { data := t }]) (.agg #[.int .i64 k', .int .i64 n', .string { data := t' }]) valNo #[116, 121, 112, 101] := fun W H ob tb c s0 ⟨hH, p, q, hT⟩ => by
  cases hx : chk k n t
  · exact op_rk_bad1 W H ob (p 2) tb c s0 k n k' n' #[42] t t' hx hH (fun w hw => look47 (hT.below hw) #[42] 2 _ (by rfl))
  · exact op_rk_bad2 W H ob (p 2) tb c s0 k n k' n' #[42] t t' hx (h.resolve_left (by simp [hx])) hH (fun w hw => look47 (hT.below hw) #[42] 2 _ (by rfl))
theorem opc_div_type (hx : chk k n t = true) (hy : chk k' n' t' = true) (h : ∀ (h x : Value) (w : World), Calls Tryd.prog 48 #[h, .agg #[.int .i64 k, .int .i64 n, .string { data := t }], .agg #[.int .i64 k', .int .i64 n', .string { data := t' }], x] w fun e w' => e = .returned (.tuple #[valNo, .string { data := #[116, 121, 112, 101] }]) ∧ Below w.heap.size w w') : OpC #[47] (.agg #[.int .i64 k, .int .i64 n, .string { data := t }]) (.agg #[.int .i64 k', .int .i64 n', .string { data := t' }]) valNo #[116, 121, 112, 101] := fun W H ob tb c s0 ⟨hH, p, q, hT⟩ =>
  op_rk W H ob (p 3) tb c s0 k n k' n' #[47] t t' 0 0 #[] #[116, 121, 112, 101] hx hy hH (fun w hw => look47 (hT.below hw) #[47] 3 _ (by rfl)) (fun w _ => h _ _ w)
theorem opc_div_bad (h : chk k n t = false ∨ chk k' n' t' = false) : OpC #[47] (.agg #[.int .i64 k, .int .i64 n, .string { data := t }]) (.agg #[.int .i64 k', .int .i64 n', .string { data := t' }]) valNo #[116, 121, 112, 101] := fun W H ob tb c s0 ⟨hH, p, q, hT⟩ => by
  cases hx : chk k n t
  · exact op_rk_bad1 W H ob (p 3) tb c s0 k n k' n' #[47] t t' hx hH (fun w hw => look47 (hT.below hw) #[47] 3 _ (by rfl))
  · exact op_rk_bad2 W H ob (p 3) tb c s0 k n k' n' #[47] t t' hx (h.resolve_left (by simp [hx])) hH (fun w hw => look47 (hT.below hw) #[47] 3 _ (by rfl))
theorem opc_rest_type (hx : chk k n t = true) (hy : chk k' n' t' = true) (h : ∀ (h x : Value) (w : World), Calls Tryd.prog 48 #[h, .agg #[.int .i64 k, .int .i64 n, .string { data := t }], .agg #[.int .i64 k', .int .i64 n', .string { data := t' }], x] w fun e w' => e = .returned (.tuple #[valNo, .string { data := #[116, 121, 112, 101] }]) ∧ Below w.heap.size w w') : OpC #[37] (.agg #[.int .i64 k, .int .i64 n, .string { data := t }]) (.agg #[.int .i64 k', .int .i64 n', .string { data := t' }]) valNo #[116, 121, 112, 101] := fun W H ob tb c s0 ⟨hH, p, q, hT⟩ =>
  op_rk W H ob (p 4) tb c s0 k n k' n' #[37] t t' 0 0 #[] #[116, 121, 112, 101] hx hy hH (fun w hw => look47 (hT.below hw) #[37] 4 _ (by rfl)) (fun w _ => h _ _ w)
theorem opc_rest_bad (h : chk k n t = false ∨ chk k' n' t' = false) : OpC #[37] (.agg #[.int .i64 k, .int .i64 n, .string { data := t }]) (.agg #[.int .i64 k', .int .i64 n', .string { data := t' }]) valNo #[116, 121, 112, 101] := fun W H ob tb c s0 ⟨hH, p, q, hT⟩ => by
  cases hx : chk k n t
  · exact op_rk_bad1 W H ob (p 4) tb c s0 k n k' n' #[37] t t' hx hH (fun w hw => look47 (hT.below hw) #[37] 4 _ (by rfl))
  · exact op_rk_bad2 W H ob (p 4) tb c s0 k n k' n' #[37] t t' hx (h.resolve_left (by simp [hx])) hH (fun w hw => look47 (hT.below hw) #[37] 4 _ (by rfl))
end
theorem dci_lt (k n k' n' : Int) (t t' : Array UInt8) (v : Bool) (h2 : (k == 2) = true) (h2' : (k' == 2) = true) (hv : decide (n < n') = v) (W : World) : Calls Tryd.prog 39 #[.string { data := #[60] }, .agg #[.int .i64 k, .int .i64 n, .string { data := t }], .agg #[.int .i64 k', .int .i64 n', .string { data := t' }]] W fun e w' => e = .returned (.tuple #[.agg #[.int .i64 1, .int .i64 (if v then 1 else 0), .string { data := #[] }], .string { data := #[] }]) ∧ Below W.heap.size W w' :=
  cmp_int { data := #[60] } { data := t } { data := t' } k n k' n' v (if v then 1 else 0) W h2 h2' (fun W => by rw [← hv]; exact ord_lt n n' W) (fun W => bool_any v W)
theorem dcs_lt (k n k' n' : Int) (t t' : Array UInt8) (v : Bool) (h2 : (k == 2) = false) (h3 : (k == 3) = true) (h3' : (k' == 3) = true) (hv : (Op.bytesLess (ByteArray.mk t).toList (ByteArray.mk t').toList) = v) (W : World) : Calls Tryd.prog 39 #[.string { data := #[60] }, .agg #[.int .i64 k, .int .i64 n, .string { data := t }], .agg #[.int .i64 k', .int .i64 n', .string { data := t' }]] W fun e w' => e = .returned (.tuple #[.agg #[.int .i64 1, .int .i64 (if v then 1 else 0), .string { data := #[] }], .string { data := #[] }]) ∧ Below W.heap.size W w' :=
  cmp_str { data := #[60] } { data := t } { data := t' } k n k' n' v (if v then 1 else 0) W h2 h3 h3' (fun W => by rw [← hv]; exact ords_lt _ _ W) (fun W => bool_any v W)
theorem dcn_lt (k n k' n' : Int) (t t' : Array UInt8) (h2 : ((k == 2) && (k' == 2)) = false) (h3 : ((k == 3) && (k' == 3)) = false) (W : World) : Calls Tryd.prog 39 #[.string { data := #[60] }, .agg #[.int .i64 k, .int .i64 n, .string { data := t }], .agg #[.int .i64 k', .int .i64 n', .string { data := t' }]] W fun e w' => e = .returned (.tuple #[valNo, .string { data := #[116, 121, 112, 101] }]) ∧ Below W.heap.size W w' :=
  cmp_no { data := #[60] } { data := t } { data := t' } k n k' n' W h2 h3

theorem dci_le (k n k' n' : Int) (t t' : Array UInt8) (v : Bool) (h2 : (k == 2) = true) (h2' : (k' == 2) = true) (hv : decide (n ≤ n') = v) (W : World) : Calls Tryd.prog 39 #[.string { data := #[60, 61] }, .agg #[.int .i64 k, .int .i64 n, .string { data := t }], .agg #[.int .i64 k', .int .i64 n', .string { data := t' }]] W fun e w' => e = .returned (.tuple #[.agg #[.int .i64 1, .int .i64 (if v then 1 else 0), .string { data := #[] }], .string { data := #[] }]) ∧ Below W.heap.size W w' :=
  cmp_int { data := #[60, 61] } { data := t } { data := t' } k n k' n' v (if v then 1 else 0) W h2 h2' (fun W => by rw [← hv]; exact ord_le n n' W) (fun W => bool_any v W)
theorem dcs_le (k n k' n' : Int) (t t' : Array UInt8) (v : Bool) (h2 : (k == 2) = false) (h3 : (k == 3) = true) (h3' : (k' == 3) = true) (hv : (Op.bytesLess (ByteArray.mk t).toList (ByteArray.mk t').toList || (ByteArray.mk t).toList == (ByteArray.mk t').toList) = v) (W : World) : Calls Tryd.prog 39 #[.string { data := #[60, 61] }, .agg #[.int .i64 k, .int .i64 n, .string { data := t }], .agg #[.int .i64 k', .int .i64 n', .string { data := t' }]] W fun e w' => e = .returned (.tuple #[.agg #[.int .i64 1, .int .i64 (if v then 1 else 0), .string { data := #[] }], .string { data := #[] }]) ∧ Below W.heap.size W w' :=
  cmp_str { data := #[60, 61] } { data := t } { data := t' } k n k' n' v (if v then 1 else 0) W h2 h3 h3' (fun W => by rw [← hv]; exact ords_le _ _ W) (fun W => bool_any v W)
theorem dcn_le (k n k' n' : Int) (t t' : Array UInt8) (h2 : ((k == 2) && (k' == 2)) = false) (h3 : ((k == 3) && (k' == 3)) = false) (W : World) : Calls Tryd.prog 39 #[.string { data := #[60, 61] }, .agg #[.int .i64 k, .int .i64 n, .string { data := t }], .agg #[.int .i64 k', .int .i64 n', .string { data := t' }]] W fun e w' => e = .returned (.tuple #[valNo, .string { data := #[116, 121, 112, 101] }]) ∧ Below W.heap.size W w' :=
  cmp_no { data := #[60, 61] } { data := t } { data := t' } k n k' n' W h2 h3

theorem dci_gt (k n k' n' : Int) (t t' : Array UInt8) (v : Bool) (h2 : (k == 2) = true) (h2' : (k' == 2) = true) (hv : decide (n > n') = v) (W : World) : Calls Tryd.prog 39 #[.string { data := #[62] }, .agg #[.int .i64 k, .int .i64 n, .string { data := t }], .agg #[.int .i64 k', .int .i64 n', .string { data := t' }]] W fun e w' => e = .returned (.tuple #[.agg #[.int .i64 1, .int .i64 (if v then 1 else 0), .string { data := #[] }], .string { data := #[] }]) ∧ Below W.heap.size W w' :=
  cmp_int { data := #[62] } { data := t } { data := t' } k n k' n' v (if v then 1 else 0) W h2 h2' (fun W => by rw [← hv]; exact ord_gt n n' W) (fun W => bool_any v W)
theorem dcs_gt (k n k' n' : Int) (t t' : Array UInt8) (v : Bool) (h2 : (k == 2) = false) (h3 : (k == 3) = true) (h3' : (k' == 3) = true) (hv : (!Op.bytesLess (ByteArray.mk t).toList (ByteArray.mk t').toList && !(ByteArray.mk t).toList == (ByteArray.mk t').toList) = v) (W : World) : Calls Tryd.prog 39 #[.string { data := #[62] }, .agg #[.int .i64 k, .int .i64 n, .string { data := t }], .agg #[.int .i64 k', .int .i64 n', .string { data := t' }]] W fun e w' => e = .returned (.tuple #[.agg #[.int .i64 1, .int .i64 (if v then 1 else 0), .string { data := #[] }], .string { data := #[] }]) ∧ Below W.heap.size W w' :=
  cmp_str { data := #[62] } { data := t } { data := t' } k n k' n' v (if v then 1 else 0) W h2 h3 h3' (fun W => by rw [← hv]; exact ords_gt _ _ W) (fun W => bool_any v W)
theorem dcn_gt (k n k' n' : Int) (t t' : Array UInt8) (h2 : ((k == 2) && (k' == 2)) = false) (h3 : ((k == 3) && (k' == 3)) = false) (W : World) : Calls Tryd.prog 39 #[.string { data := #[62] }, .agg #[.int .i64 k, .int .i64 n, .string { data := t }], .agg #[.int .i64 k', .int .i64 n', .string { data := t' }]] W fun e w' => e = .returned (.tuple #[valNo, .string { data := #[116, 121, 112, 101] }]) ∧ Below W.heap.size W w' :=
  cmp_no { data := #[62] } { data := t } { data := t' } k n k' n' W h2 h3

theorem dci_ge (k n k' n' : Int) (t t' : Array UInt8) (v : Bool) (h2 : (k == 2) = true) (h2' : (k' == 2) = true) (hv : decide (n ≥ n') = v) (W : World) : Calls Tryd.prog 39 #[.string { data := #[62, 61] }, .agg #[.int .i64 k, .int .i64 n, .string { data := t }], .agg #[.int .i64 k', .int .i64 n', .string { data := t' }]] W fun e w' => e = .returned (.tuple #[.agg #[.int .i64 1, .int .i64 (if v then 1 else 0), .string { data := #[] }], .string { data := #[] }]) ∧ Below W.heap.size W w' :=
  cmp_int { data := #[62, 61] } { data := t } { data := t' } k n k' n' v (if v then 1 else 0) W h2 h2' (fun W => by rw [← hv]; exact ord_ge n n' W) (fun W => bool_any v W)
theorem dcs_ge (k n k' n' : Int) (t t' : Array UInt8) (v : Bool) (h2 : (k == 2) = false) (h3 : (k == 3) = true) (h3' : (k' == 3) = true) (hv : (!Op.bytesLess (ByteArray.mk t).toList (ByteArray.mk t').toList) = v) (W : World) : Calls Tryd.prog 39 #[.string { data := #[62, 61] }, .agg #[.int .i64 k, .int .i64 n, .string { data := t }], .agg #[.int .i64 k', .int .i64 n', .string { data := t' }]] W fun e w' => e = .returned (.tuple #[.agg #[.int .i64 1, .int .i64 (if v then 1 else 0), .string { data := #[] }], .string { data := #[] }]) ∧ Below W.heap.size W w' :=
  cmp_str { data := #[62, 61] } { data := t } { data := t' } k n k' n' v (if v then 1 else 0) W h2 h3 h3' (fun W => by rw [← hv]; exact ords_ge _ _ W) (fun W => bool_any v W)
theorem dcn_ge (k n k' n' : Int) (t t' : Array UInt8) (h2 : ((k == 2) && (k' == 2)) = false) (h3 : ((k == 3) && (k' == 3)) = false) (W : World) : Calls Tryd.prog 39 #[.string { data := #[62, 61] }, .agg #[.int .i64 k, .int .i64 n, .string { data := t }], .agg #[.int .i64 k', .int .i64 n', .string { data := t' }]] W fun e w' => e = .returned (.tuple #[valNo, .string { data := #[116, 121, 112, 101] }]) ∧ Below W.heap.size W w' :=
  cmp_no { data := #[62, 61] } { data := t } { data := t' } k n k' n' W h2 h3

theorem less_ne' : ∀ a b : List UInt8, Op.bytesLess a b = true → (a == b) = false := by
  intro a
  induction a with
  | nil => intro b h; cases b <;> simp_all [Op.bytesLess]
  | cons x l ih =>
    intro b h
    cases b with
    | nil => simp
    | cons y m =>
      simp only [Op.bytesLess] at h
      by_cases hxy : x = y
      · subst hxy
        have hm : Op.bytesLess l m = true := by simpa using h
        have := ih m hm
        simpa using this
      · simp [hxy]
theorem chk_two' {k n : Int} {t : Array UInt8} (h : chk k n t = true) (h2 : k = 2) : t = #[] := by
  subst h2
  by_cases ht : t = #[]
  · exact ht
  · simp [chk, ht] at h
theorem chk_three' {k n : Int} {t : Array UInt8} (h : chk k n t = true) (h3 : k = 3) : n = 0 := by
  subst h3
  simpa [chk] using h
end Go.Proofs.YthbnhplkoomdhaaDoor
