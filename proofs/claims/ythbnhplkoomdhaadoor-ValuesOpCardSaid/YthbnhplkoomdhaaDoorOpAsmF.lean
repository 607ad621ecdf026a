/- Both tell the same of any two values, by any operator. -/
import Derived.Test.YthbnhplkoomdhaaDoorOpAsmC
import Derived.Test.YthbnhplkoomdhaaDoorOpAsmD
import Derived.Test.YthbnhplkoomdhaaDoorOpAsmE
import Derived.Laws.StructEq
namespace Go.Proofs.YthbnhplkoomdhaaDoor
open Go Go.RowKit
theorem list_ne (op l : Array UInt8) (h : op ≠ l) : ((ByteArray.mk op).toList == l.toList) = false := by
  rw [ByteArray.toList_eq]
  have : op.toList ≠ l.toList := fun e => h (Array.toList_inj.1 e)
  exact beq_eq_false_iff_ne.2 this
theorem arr_ne (op l : Array UInt8) (h : op ≠ l) : (ByteArray.mk op == ByteArray.mk l) = false := by
  rw [beq_toListBytes, ByteArray.toList_eq (ByteArray.mk l)]
  exact list_ne op l h
theorem find_none (op : Array UInt8) (h0 : op ≠ #[61, 61]) (h1 : op ≠ #[126, 61]) (h2 : op ≠ #[43]) (h3 : op ≠ #[45]) (h4 : op ≠ #[42]) (h5 : op ≠ #[47]) (h6 : op ≠ #[37]) (h7 : op ≠ #[46, 46]) (h8 : op ≠ #[60]) (h9 : op ≠ #[60, 61]) (h10 : op ≠ #[62]) (h11 : op ≠ #[62, 61]) (p q : Nat → Nat) : Instr.findNow .string (.string ⟨op⟩) (opsL p q 4) 0 = some none := by
  have g0 := arr_ne op #[61, 61] h0
  have f0 := arr_ne #[61, 61] op (Ne.symm h0)
  have g1 := arr_ne op #[126, 61] h1
  have f1 := arr_ne #[126, 61] op (Ne.symm h1)
  have g2 := arr_ne op #[43] h2
  have f2 := arr_ne #[43] op (Ne.symm h2)
  have g3 := arr_ne op #[45] h3
  have f3 := arr_ne #[45] op (Ne.symm h3)
  have g4 := arr_ne op #[42] h4
  have f4 := arr_ne #[42] op (Ne.symm h4)
  have g5 := arr_ne op #[47] h5
  have f5 := arr_ne #[47] op (Ne.symm h5)
  have g6 := arr_ne op #[37] h6
  have f6 := arr_ne #[37] op (Ne.symm h6)
  have g7 := arr_ne op #[46, 46] h7
  have f7 := arr_ne #[46, 46] op (Ne.symm h7)
  have g8 := arr_ne op #[60] h8
  have f8 := arr_ne #[60] op (Ne.symm h8)
  have g9 := arr_ne op #[60, 61] h9
  have f9 := arr_ne #[60, 61] op (Ne.symm h9)
  have g10 := arr_ne op #[62] h10
  have f10 := arr_ne #[62] op (Ne.symm h10)
  have g11 := arr_ne op #[62, 61] h11
  have f11 := arr_ne #[62, 61] op (Ne.symm h11)
  have e : opsL p q 4 = ops8 p ++ [opE (ordS 0) (ordF (q 0)) 8, opE (ordS 1) (ordF (q 1)) 9, opE (ordS 2) (ordF (q 2)) 10, opE (ordS 3) (ordF (q 3)) 11] := rfl
  rw [e]
  simp [ops8, opE, ordS, Instr.findNow, Instr.sameNow, *]
theorem both_none (op t t' : Array UInt8) (k n k' n' c : Int) (hs : t.size ≤ 500) (hs' : t'.size ≤ 500) (h0 : op ≠ #[61, 61]) (h1 : op ≠ #[126, 61]) (h2 : op ≠ #[43]) (h3 : op ≠ #[45]) (h4 : op ≠ #[42]) (h5 : op ≠ #[47]) (h6 : op ≠ #[37]) (h7 : op ≠ #[46, 46]) (h8 : op ≠ #[60]) (h9 : op ≠ #[60, 61]) (h10 : op ≠ #[62]) (h11 : op ≠ #[62, 61]) : Both op t t' k n k' n' c := by
  have HP := opc_none k n k' n' t t' op (find_none op h0 h1 h2 h3 h4 h5 h6 h7 h8 h9 h10 h11)
  cases hx : chk k n t
  · exact both_bad op t t' k n k' n' c hs hs' (.inl hx) HP
  cases hy : chk k' n' t'
  · exact both_bad op t t' k n k' n' c hs hs' (.inr hy) HP
  have HCX := hcx_of t k n hs hx
  have HCY := hcx_of t' k' n' hs' hy
  have l0 := list_ne op #[61, 61] h0
  have l1 := list_ne op #[126, 61] h1
  have l2 := list_ne op #[43] h2
  have l3 := list_ne op #[45] h3
  have l4 := list_ne op #[42] h4
  have l5 := list_ne op #[47] h5
  have l6 := list_ne op #[37] h6
  have l7 := list_ne op #[46, 46] h7
  have l8 := list_ne op #[60] h8
  have l9 := list_ne op #[60, 61] h9
  have l10 := list_ne op #[62] h10
  have l11 := list_ne op #[62, 61] h11
  refine both_of op t t' k n k' n' c 0 0 #[] #[116, 121, 112, 101] HP fun g w => ?_
  rcases kinds k k' with ⟨rfl, e⟩ | ⟨rfl, e⟩ | ⟨rfl, e⟩ | ⟨rfl, e⟩ | ⟨e, e3⟩
  · exact ro_unA g n k' n' t t' w e HCX HCY op l0 l1 l2 l3 l4 l5 l6 l7 l8 l9 l10 l11
  · exact ro_unB g n k' n' t t' w e HCX HCY op l0 l1 l2 l3 l4 l5 l6 l7 l8 l9 l10 l11
  · exact ro_unC g n k' n' t t' w e HCX HCY op l0 l1 l2 l3 l4 l5 l6 l7 l8 l9 l10 l11
  · exact ro_unD g n k' n' t t' w e HCX HCY op l0 l1 l2 l3 l4 l5 l6 l7 l8 l9 l10 l11
  · exact ro_unE g k n k' n' t t' w e e3 HCX HCY op l0 l1 l2 l3 l4 l5 l6 l7 l8 l9 l10 l11
theorem both_any (op t t' : Array UInt8) (k n k' n' c : Int) (hn : Fits n) (hn' : Fits n') (hc0 : 0 ≤ c) (hc : c ≤ 1000) (hs : t.size ≤ 500) (hs' : t'.size ≤ 500) : Both op t t' k n k' n' c := by
  by_cases h0 : op = #[61, 61]
  · subst h0
    by_cases hb : chk k n t = false ∨ chk k' n' t' = false
    · exact both_bad _ t t' k n k' n' c hs hs' hb (opc_eq_bad k n k' n' t t' hb)
    have hx : chk k n t = true := by cases h : chk k n t <;> simp_all
    have hy : chk k' n' t' = true := by cases h : chk k' n' t' <;> simp_all
    exact both_eq t t' k n k' n' c hs hs' hx hy
  by_cases h1 : op = #[126, 61]
  · subst h1
    by_cases hb : chk k n t = false ∨ chk k' n' t' = false
    · exact both_bad _ t t' k n k' n' c hs hs' hb (opc_ne_bad k n k' n' t t' hb)
    have hx : chk k n t = true := by cases h : chk k n t <;> simp_all
    have hy : chk k' n' t' = true := by cases h : chk k' n' t' <;> simp_all
    exact both_ne t t' k n k' n' c hs hs' hx hy
  by_cases h2 : op = #[43]
  · subst h2
    by_cases hb : chk k n t = false ∨ chk k' n' t' = false
    · exact both_bad _ t t' k n k' n' c hs hs' hb (opc_add_bad k n k' n' t t' hb)
    have hx : chk k n t = true := by cases h : chk k n t <;> simp_all
    have hy : chk k' n' t' = true := by cases h : chk k' n' t' <;> simp_all
    by_cases h2 : k = 2 ∧ k' = 2
    · obtain ⟨rfl, rfl⟩ := h2
      obtain rfl := chk_two' hx rfl
      obtain rfl := chk_two' hy rfl
      exact both_add n n' c hn hn'
    · exact both_add_type t t' k n k' n' c hs hs' hx hy h2
  by_cases h3 : op = #[45]
  · subst h3
    by_cases hb : chk k n t = false ∨ chk k' n' t' = false
    · exact both_bad _ t t' k n k' n' c hs hs' hb (opc_sub_bad k n k' n' t t' hb)
    have hx : chk k n t = true := by cases h : chk k n t <;> simp_all
    have hy : chk k' n' t' = true := by cases h : chk k' n' t' <;> simp_all
    by_cases h2 : k = 2 ∧ k' = 2
    · obtain ⟨rfl, rfl⟩ := h2
      obtain rfl := chk_two' hx rfl
      obtain rfl := chk_two' hy rfl
      exact both_sub n n' c hn hn'
    · exact both_sub_type t t' k n k' n' c hs hs' hx hy h2
  by_cases h4 : op = #[42]
  · subst h4
    by_cases hb : chk k n t = false ∨ chk k' n' t' = false
    · exact both_bad _ t t' k n k' n' c hs hs' hb (opc_mul_bad k n k' n' t t' hb)
    have hx : chk k n t = true := by cases h : chk k n t <;> simp_all
    have hy : chk k' n' t' = true := by cases h : chk k' n' t' <;> simp_all
    by_cases h2 : k = 2 ∧ k' = 2
    · obtain ⟨rfl, rfl⟩ := h2
      obtain rfl := chk_two' hx rfl
      obtain rfl := chk_two' hy rfl
      exact both_mul n n' c hn hn'
    · exact both_mul_type t t' k n k' n' c hs hs' hx hy h2
  by_cases h5 : op = #[47]
  · subst h5
    by_cases hb : chk k n t = false ∨ chk k' n' t' = false
    · exact both_bad _ t t' k n k' n' c hs hs' hb (opc_div_bad k n k' n' t t' hb)
    have hx : chk k n t = true := by cases h : chk k n t <;> simp_all
    have hy : chk k' n' t' = true := by cases h : chk k' n' t' <;> simp_all
    by_cases h2 : k = 2 ∧ k' = 2
    · obtain ⟨rfl, rfl⟩ := h2
      obtain rfl := chk_two' hx rfl
      obtain rfl := chk_two' hy rfl
      exact both_div n n' c hn hn'
    · exact both_div_type t t' k n k' n' c hs hs' hx hy h2
  by_cases h6 : op = #[37]
  · subst h6
    by_cases hb : chk k n t = false ∨ chk k' n' t' = false
    · exact both_bad _ t t' k n k' n' c hs hs' hb (opc_rest_bad k n k' n' t t' hb)
    have hx : chk k n t = true := by cases h : chk k n t <;> simp_all
    have hy : chk k' n' t' = true := by cases h : chk k' n' t' <;> simp_all
    by_cases h2 : k = 2 ∧ k' = 2
    · obtain ⟨rfl, rfl⟩ := h2
      obtain rfl := chk_two' hx rfl
      obtain rfl := chk_two' hy rfl
      exact both_rest n n' c hn hn'
    · exact both_rest_type t t' k n k' n' c hs hs' hx hy h2
  by_cases h7 : op = #[46, 46]
  · subst h7
    by_cases hb : chk k n t = false ∨ chk k' n' t' = false
    · exact both_bad _ t t' k n k' n' c hs hs' hb (opc_join_bad k n k' n' t t' hb)
    have hx : chk k n t = true := by cases h : chk k n t <;> simp_all
    have hy : chk k' n' t' = true := by cases h : chk k' n' t' <;> simp_all
    by_cases h2 : (k = 2 ∨ k = 3) ∧ (k' = 2 ∨ k' = 3)
    · obtain ⟨rfl | rfl, rfl | rfl⟩ := h2
      · exact both_join22 n n' c t t' hn hn' hc0 hc hs hs' hx hy
      · exact both_join23 n n' c t t' hn hn' hc0 hc hs hs' hx hy
      · exact both_join32 n n' c t t' hn hn' hc0 hc hs hs' hx hy
      · exact both_join33 n n' c t t' hn hn' hc0 hc hs hs' hx hy
    · exact both_jointype t t' k n k' n' c hn hn' hs hs' hx hy h2
  by_cases h8 : op = #[60]
  · subst h8
    by_cases hb : chk k n t = false ∨ chk k' n' t' = false
    · exact both_bad _ t t' k n k' n' c hs hs' hb (opc_lt_bad k n k' n' t t' hb)
    have hx : chk k n t = true := by cases h : chk k n t <;> simp_all
    have hy : chk k' n' t' = true := by cases h : chk k' n' t' <;> simp_all
    exact both_lt t t' k n k' n' c hs hs' hx hy
  by_cases h9 : op = #[60, 61]
  · subst h9
    by_cases hb : chk k n t = false ∨ chk k' n' t' = false
    · exact both_bad _ t t' k n k' n' c hs hs' hb (opc_le_bad k n k' n' t t' hb)
    have hx : chk k n t = true := by cases h : chk k n t <;> simp_all
    have hy : chk k' n' t' = true := by cases h : chk k' n' t' <;> simp_all
    exact both_le t t' k n k' n' c hs hs' hx hy
  by_cases h10 : op = #[62]
  · subst h10
    by_cases hb : chk k n t = false ∨ chk k' n' t' = false
    · exact both_bad _ t t' k n k' n' c hs hs' hb (opc_gt_bad k n k' n' t t' hb)
    have hx : chk k n t = true := by cases h : chk k n t <;> simp_all
    have hy : chk k' n' t' = true := by cases h : chk k' n' t' <;> simp_all
    exact both_gt t t' k n k' n' c hs hs' hx hy
  by_cases h11 : op = #[62, 61]
  · subst h11
    by_cases hb : chk k n t = false ∨ chk k' n' t' = false
    · exact both_bad _ t t' k n k' n' c hs hs' hb (opc_ge_bad k n k' n' t t' hb)
    have hx : chk k n t = true := by cases h : chk k n t <;> simp_all
    have hy : chk k' n' t' = true := by cases h : chk k' n' t' <;> simp_all
    exact both_ge t t' k n k' n' c hs hs' hx hy
  exact both_none op t t' k n k' n' c hs hs' h0 h1 h2 h3 h4 h5 h6 h7 h8 h9 h10 h11
end Go.Proofs.YthbnhplkoomdhaaDoor
