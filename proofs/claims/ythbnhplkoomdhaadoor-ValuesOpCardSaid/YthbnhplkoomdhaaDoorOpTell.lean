/- What a heap tells of any two values, by the operators of order and sameness. -/
import Derived.Test.YthbnhplkoomdhaaDoorOpBad
import Derived.Test.YthbnhplkoomdhaaDoorClos
import Derived.Test.YthbnhplkoomdhaaDoorNumH
namespace Go.Proofs.YthbnhplkoomdhaaDoor
open Go Go.RowKit
section
variable (k n k' n' : Int) (t t' : Array UInt8)
theorem opc_eq (hx : chk k n t = true) (hy : chk k' n' t' = true) (v : Bool) (hv : same k n { data := t } k' n' { data := t' } = v) : OpC #[61, 61] (.agg #[.int .i64 k, .int .i64 n, .string { data := t }]) (.agg #[.int .i64 k', .int .i64 n', .string { data := t' }]) (valB v) #[] := fun W H ob tb c s0 ⟨hH, p, q, hT⟩ =>
  op_same W H ob tb c s0 k n k' n' #[61, 61] t t' 1 (if v then 1 else 0) #[] #[] hx hy hH (fun w hw => look47 (hT.below hw) #[61, 61] 6 _ (by rfl))
    (fun w _ => same_op _ k n k' n' t t' v _ w (fun w => by rw [← hv]; exact same_any k n k' n' { data := t } { data := t' } w) (fun w => bool_any v w))
theorem opc_eq_bad (h : chk k n t = false ∨ chk k' n' t' = false) : OpC #[61, 61] (.agg #[.int .i64 k, .int .i64 n, .string { data := t }]) (.agg #[.int .i64 k', .int .i64 n', .string { data := t' }]) valNo #[116, 121, 112, 101] := fun W H ob tb c s0 ⟨hH, p, q, hT⟩ => by
  cases hx : chk k n t
  · exact op_same_bad1 W H ob tb c s0 k n k' n' #[61, 61] t t' hx hH (fun w hw => look47 (hT.below hw) #[61, 61] 6 _ (by rfl))
  · exact op_same_bad2 W H ob tb c s0 k n k' n' #[61, 61] t t' hx (h.resolve_left (by simp [hx])) hH (fun w hw => look47 (hT.below hw) #[61, 61] 6 _ (by rfl))
theorem opc_lt (hx : chk k n t = true) (hy : chk k' n' t' = true) (va vb : Int) (vs why : Array UInt8)
    (hC : ∀ W, Calls Tryd.prog 39 #[.string { data := #[60] }, .agg #[.int .i64 k, .int .i64 n, .string { data := t }], .agg #[.int .i64 k', .int .i64 n', .string { data := t' }]] W fun e w' => e = .returned (.tuple #[.agg #[.int .i64 va, .int .i64 vb, .string { data := vs }], .string { data := why }]) ∧ Below W.heap.size W w') :
    OpC #[60] (.agg #[.int .i64 k, .int .i64 n, .string { data := t }]) (.agg #[.int .i64 k', .int .i64 n', .string { data := t' }]) (.agg #[.int .i64 va, .int .i64 vb, .string { data := vs }]) why := fun W H ob tb c s0 ⟨hH, p, q, hT⟩ =>
  op_ord W H ob (q 0) tb c s0 k n k' n' #[60] t t' va vb vs why hx hy hH (fun w hw => look47 (hT.below hw) #[60] 8 _ (by rfl))
    (fun w hw => ord_op _ (q 0) { data := #[60] } k n k' n' t t' va vb vs why w ((hT.below hw).2.2 0 (by omega)).1 hC)
theorem opc_lt_bad (h : chk k n t = false ∨ chk k' n' t' = false) : OpC #[60] (.agg #[.int .i64 k, .int .i64 n, .string { data := t }]) (.agg #[.int .i64 k', .int .i64 n', .string { data := t' }]) valNo #[116, 121, 112, 101] := fun W H ob tb c s0 ⟨hH, p, q, hT⟩ => by
  cases hx : chk k n t
  · exact op_ord_bad1 W H ob (q 0) tb c s0 k n k' n' #[60] t t' hx hH (fun w hw => look47 (hT.below hw) #[60] 8 _ (by rfl))
  · exact op_ord_bad2 W H ob (q 0) tb c s0 k n k' n' #[60] t t' hx (h.resolve_left (by simp [hx])) hH (fun w hw => look47 (hT.below hw) #[60] 8 _ (by rfl))
theorem opc_le (hx : chk k n t = true) (hy : chk k' n' t' = true) (va vb : Int) (vs why : Array UInt8)
    (hC : ∀ W, Calls Tryd.prog 39 #[.string { data := #[60, 61] }, .agg #[.int .i64 k, .int .i64 n, .string { data := t }], .agg #[.int .i64 k', .int .i64 n', .string { data := t' }]] W fun e w' => e = .returned (.tuple #[.agg #[.int .i64 va, .int .i64 vb, .string { data := vs }], .string { data := why }]) ∧ Below W.heap.size W w') :
    OpC #[60, 61] (.agg #[.int .i64 k, .int .i64 n, .string { data := t }]) (.agg #[.int .i64 k', .int .i64 n', .string { data := t' }]) (.agg #[.int .i64 va, .int .i64 vb, .string { data := vs }]) why := fun W H ob tb c s0 ⟨hH, p, q, hT⟩ =>
  op_ord W H ob (q 1) tb c s0 k n k' n' #[60, 61] t t' va vb vs why hx hy hH (fun w hw => look47 (hT.below hw) #[60, 61] 9 _ (by rfl))
    (fun w hw => ord_op _ (q 1) { data := #[60, 61] } k n k' n' t t' va vb vs why w ((hT.below hw).2.2 1 (by omega)).1 hC)
theorem opc_le_bad (h : chk k n t = false ∨ chk k' n' t' = false) : OpC #[60, 61] (.agg #[.int .i64 k, .int .i64 n, .string { data := t }]) (.agg #[.int .i64 k', .int .i64 n', .string { data := t' }]) valNo #[116, 121, 112, 101] := fun W H ob tb c s0 ⟨hH, p, q, hT⟩ => by
  cases hx : chk k n t
  · exact op_ord_bad1 W H ob (q 1) tb c s0 k n k' n' #[60, 61] t t' hx hH (fun w hw => look47 (hT.below hw) #[60, 61] 9 _ (by rfl))
  · exact op_ord_bad2 W H ob (q 1) tb c s0 k n k' n' #[60, 61] t t' hx (h.resolve_left (by simp [hx])) hH (fun w hw => look47 (hT.below hw) #[60, 61] 9 _ (by rfl))
theorem opc_gt (hx : chk k n t = true) (hy : chk k' n' t' = true) (va vb : Int) (vs why : Array UInt8)
    (hC : ∀ W, Calls Tryd.prog 39 #[.string { data := #[62] }, .agg #[.int .i64 k, .int .i64 n, .string { data := t }], .agg #[.int .i64 k', .int .i64 n', .string { data := t' }]] W fun e w' => e = .returned (.tuple #[.agg #[.int .i64 va, .int .i64 vb, .string { data := vs }], .string { data := why }]) ∧ Below W.heap.size W w') :
    OpC #[62] (.agg #[.int .i64 k, .int .i64 n, .string { data := t }]) (.agg #[.int .i64 k', .int .i64 n', .string { data := t' }]) (.agg #[.int .i64 va, .int .i64 vb, .string { data := vs }]) why := fun W H ob tb c s0 ⟨hH, p, q, hT⟩ =>
  op_ord W H ob (q 2) tb c s0 k n k' n' #[62] t t' va vb vs why hx hy hH (fun w hw => look47 (hT.below hw) #[62] 10 _ (by rfl))
    (fun w hw => ord_op _ (q 2) { data := #[62] } k n k' n' t t' va vb vs why w ((hT.below hw).2.2 2 (by omega)).1 hC)
theorem opc_gt_bad (h : chk k n t = false ∨ chk k' n' t' = false) : OpC #[62] (.agg #[.int .i64 k, .int .i64 n, .string { data := t }]) (.agg #[.int .i64 k', .int .i64 n', .string { data := t' }]) valNo #[116, 121, 112, 101] := fun W H ob tb c s0 ⟨hH, p, q, hT⟩ => by
  cases hx : chk k n t
  · exact op_ord_bad1 W H ob (q 2) tb c s0 k n k' n' #[62] t t' hx hH (fun w hw => look47 (hT.below hw) #[62] 10 _ (by rfl))
  · exact op_ord_bad2 W H ob (q 2) tb c s0 k n k' n' #[62] t t' hx (h.resolve_left (by simp [hx])) hH (fun w hw => look47 (hT.below hw) #[62] 10 _ (by rfl))
theorem opc_ge (hx : chk k n t = true) (hy : chk k' n' t' = true) (va vb : Int) (vs why : Array UInt8)
    (hC : ∀ W, Calls Tryd.prog 39 #[.string { data := #[62, 61] }, .agg #[.int .i64 k, .int .i64 n, .string { data := t }], .agg #[.int .i64 k', .int .i64 n', .string { data := t' }]] W fun e w' => e = .returned (.tuple #[.agg #[.int .i64 va, .int .i64 vb, .string { data := vs }], .string { data := why }]) ∧ Below W.heap.size W w') :
    OpC #[62, 61] (.agg #[.int .i64 k, .int .i64 n, .string { data := t }]) (.agg #[.int .i64 k', .int .i64 n', .string { data := t' }]) (.agg #[.int .i64 va, .int .i64 vb, .string { data := vs }]) why := fun W H ob tb c s0 ⟨hH, p, q, hT⟩ =>
  op_ord W H ob (q 3) tb c s0 k n k' n' #[62, 61] t t' va vb vs why hx hy hH (fun w hw => look47 (hT.below hw) #[62, 61] 11 _ (by rfl))
    (fun w hw => ord_op _ (q 3) { data := #[62, 61] } k n k' n' t t' va vb vs why w ((hT.below hw).2.2 3 (by omega)).1 hC)
theorem opc_ge_bad (h : chk k n t = false ∨ chk k' n' t' = false) : OpC #[62, 61] (.agg #[.int .i64 k, .int .i64 n, .string { data := t }]) (.agg #[.int .i64 k', .int .i64 n', .string { data := t' }]) valNo #[116, 121, 112, 101] := fun W H ob tb c s0 ⟨hH, p, q, hT⟩ => by
  cases hx : chk k n t
  · exact op_ord_bad1 W H ob (q 3) tb c s0 k n k' n' #[62, 61] t t' hx hH (fun w hw => look47 (hT.below hw) #[62, 61] 11 _ (by rfl))
  · exact op_ord_bad2 W H ob (q 3) tb c s0 k n k' n' #[62, 61] t t' hx (h.resolve_left (by simp [hx])) hH (fun w hw => look47 (hT.below hw) #[62, 61] 11 _ (by rfl))
end
end Go.Proofs.YthbnhplkoomdhaaDoor
