/- Both tell the same of an order. -/
import Derived.Test.YthbnhplkoomdhaaDoorOpAsmB
import Derived.Test.YthbnhplkoomdhaaDoorRefN
import Derived.Test.YthbnhplkoomdhaaDoorRefP
import Derived.Test.YthbnhplkoomdhaaDoorRefQ
import Derived.Test.YthbnhplkoomdhaaDoorRefR
namespace Go.Proofs.YthbnhplkoomdhaaDoor
open Go Go.RowKit
section
variable (t t' : Array UInt8) (k n k' n' c : Int) (hs : t.size ≤ 500) (hs' : t'.size ≤ 500) (hx : chk k n t = true) (hy : chk k' n' t' = true)
include hs hs' hx hy
theorem both_lt : Both #[60] t t' k n k' n' c := by
  have HCX := hcx_of t k n hs hx
  have HCY := hcx_of t' k' n' hs' hy
  have e1 : (ByteArray.mk t).toList = t.toList := by rw [ByteArray.toList_eq]
  have e2 : (ByteArray.mk t').toList = t'.toList := by rw [ByteArray.toList_eq]
  rcases kinds k k' with ⟨rfl, e⟩ | ⟨rfl, e⟩ | ⟨rfl, e⟩ | ⟨rfl, e⟩ | ⟨e, e3⟩
  · rcases Int.lt_trichotomy n n' with h | h | h
    · exact both_of #[60] t t' 2 n k' n' c 1 1 #[] #[] (opc_lt 2 n k' n' t t' hx hy 1 1 #[] #[] (dci_lt 2 n k' n' t t' true (by rfl) e (by simp; omega))) (fun g w => ro_lti10 g n k' n' t t' w e HCX HCY (by simp; omega) (by simp; omega))
    · exact both_of #[60] t t' 2 n k' n' c 1 0 #[] #[] (opc_lt 2 n k' n' t t' hx hy 1 0 #[] #[] (dci_lt 2 n k' n' t t' false (by rfl) e (by simp; omega))) (fun g w => ro_lti01 g n k' n' t t' w e HCX HCY (by simp; omega) (by simp; omega))
    · exact both_of #[60] t t' 2 n k' n' c 1 0 #[] #[] (opc_lt 2 n k' n' t t' hx hy 1 0 #[] #[] (dci_lt 2 n k' n' t t' false (by rfl) e (by simp; omega))) (fun g w => ro_lti00 g n k' n' t t' w e HCX HCY (by simp; omega) (by simp; omega))
  · exact both_of #[60] t t' 2 n k' n' c 0 0 #[] #[116, 121, 112, 101] (opc_lt 2 n k' n' t t' hx hy 0 0 #[] #[116, 121, 112, 101] (dcn_lt 2 n k' n' t t' (by simp_all) (by simp_all))) (fun g w => ro_ltB g n k' n' t t' w e HCX HCY)
  · have HL : ∀ W, _ := fun W => less_any t t' W (by omega) (by omega)
    cases h1 : Op.bytesLess t.toList t'.toList
    · rw [h1] at HL
      cases h2 : ((ByteArray.mk t).toList == (ByteArray.mk t').toList)
      · exact both_of #[60] t t' 3 n k' n' c 1 0 #[] #[] (opc_lt 3 n k' n' t t' hx hy 1 0 #[] #[] (dcs_lt 3 n k' n' t t' false (by rfl) (by rfl) e (by rw [e1, e2, h1] <;> first | rfl | (rw [e1, e2] at h2; rw [h2]; rfl)))) (fun g w => ro_ltt00 g n k' n' t t' w e HCX HCY HL h2)
      · exact both_of #[60] t t' 3 n k' n' c 1 0 #[] #[] (opc_lt 3 n k' n' t t' hx hy 1 0 #[] #[] (dcs_lt 3 n k' n' t t' false (by rfl) (by rfl) e (by rw [e1, e2, h1] <;> first | rfl | (rw [e1, e2] at h2; rw [h2]; rfl)))) (fun g w => ro_ltt01 g n k' n' t t' w e HCX HCY HL h2)
    · rw [h1] at HL
      have h2 : ((ByteArray.mk t).toList == (ByteArray.mk t').toList) = false := by rw [e1, e2]; exact less_ne' _ _ h1
      exact both_of #[60] t t' 3 n k' n' c 1 1 #[] #[] (opc_lt 3 n k' n' t t' hx hy 1 1 #[] #[] (dcs_lt 3 n k' n' t t' true (by rfl) (by rfl) e (by rw [e1, e2, h1] <;> first | rfl | (rw [e1, e2] at h2; rw [h2]; rfl)))) (fun g w => ro_ltt10 g n k' n' t t' w e HCX HCY HL h2)
  · exact both_of #[60] t t' 3 n k' n' c 0 0 #[] #[116, 121, 112, 101] (opc_lt 3 n k' n' t t' hx hy 0 0 #[] #[116, 121, 112, 101] (dcn_lt 3 n k' n' t t' (by simp_all) (by simp_all))) (fun g w => ro_ltD g n k' n' t t' w e HCX HCY)
  · exact both_of #[60] t t' k n k' n' c 0 0 #[] #[116, 121, 112, 101] (opc_lt k n k' n' t t' hx hy 0 0 #[] #[116, 121, 112, 101] (dcn_lt k n k' n' t t' (by simp_all) (by simp_all))) (fun g w => ro_ltE g k n k' n' t t' w e e3 HCX HCY)
theorem both_le : Both #[60, 61] t t' k n k' n' c := by
  have HCX := hcx_of t k n hs hx
  have HCY := hcx_of t' k' n' hs' hy
  have e1 : (ByteArray.mk t).toList = t.toList := by rw [ByteArray.toList_eq]
  have e2 : (ByteArray.mk t').toList = t'.toList := by rw [ByteArray.toList_eq]
  rcases kinds k k' with ⟨rfl, e⟩ | ⟨rfl, e⟩ | ⟨rfl, e⟩ | ⟨rfl, e⟩ | ⟨e, e3⟩
  · rcases Int.lt_trichotomy n n' with h | h | h
    · exact both_of #[60, 61] t t' 2 n k' n' c 1 1 #[] #[] (opc_le 2 n k' n' t t' hx hy 1 1 #[] #[] (dci_le 2 n k' n' t t' true (by rfl) e (by simp; omega))) (fun g w => ro_lei10 g n k' n' t t' w e HCX HCY (by simp; omega) (by simp; omega))
    · exact both_of #[60, 61] t t' 2 n k' n' c 1 1 #[] #[] (opc_le 2 n k' n' t t' hx hy 1 1 #[] #[] (dci_le 2 n k' n' t t' true (by rfl) e (by simp; omega))) (fun g w => ro_lei01 g n k' n' t t' w e HCX HCY (by simp; omega) (by simp; omega))
    · exact both_of #[60, 61] t t' 2 n k' n' c 1 0 #[] #[] (opc_le 2 n k' n' t t' hx hy 1 0 #[] #[] (dci_le 2 n k' n' t t' false (by rfl) e (by simp; omega))) (fun g w => ro_lei00 g n k' n' t t' w e HCX HCY (by simp; omega) (by simp; omega))
  · exact both_of #[60, 61] t t' 2 n k' n' c 0 0 #[] #[116, 121, 112, 101] (opc_le 2 n k' n' t t' hx hy 0 0 #[] #[116, 121, 112, 101] (dcn_le 2 n k' n' t t' (by simp_all) (by simp_all))) (fun g w => ro_leB g n k' n' t t' w e HCX HCY)
  · have HL : ∀ W, _ := fun W => less_any t t' W (by omega) (by omega)
    cases h1 : Op.bytesLess t.toList t'.toList
    · rw [h1] at HL
      cases h2 : ((ByteArray.mk t).toList == (ByteArray.mk t').toList)
      · exact both_of #[60, 61] t t' 3 n k' n' c 1 0 #[] #[] (opc_le 3 n k' n' t t' hx hy 1 0 #[] #[] (dcs_le 3 n k' n' t t' false (by rfl) (by rfl) e (by rw [e1, e2, h1] <;> first | rfl | (rw [e1, e2] at h2; rw [h2]; rfl)))) (fun g w => ro_let00 g n k' n' t t' w e HCX HCY HL h2)
      · exact both_of #[60, 61] t t' 3 n k' n' c 1 1 #[] #[] (opc_le 3 n k' n' t t' hx hy 1 1 #[] #[] (dcs_le 3 n k' n' t t' true (by rfl) (by rfl) e (by rw [e1, e2, h1] <;> first | rfl | (rw [e1, e2] at h2; rw [h2]; rfl)))) (fun g w => ro_let01 g n k' n' t t' w e HCX HCY HL h2)
    · rw [h1] at HL
      have h2 : ((ByteArray.mk t).toList == (ByteArray.mk t').toList) = false := by rw [e1, e2]; exact less_ne' _ _ h1
      exact both_of #[60, 61] t t' 3 n k' n' c 1 1 #[] #[] (opc_le 3 n k' n' t t' hx hy 1 1 #[] #[] (dcs_le 3 n k' n' t t' true (by rfl) (by rfl) e (by rw [e1, e2, h1] <;> first | rfl | (rw [e1, e2] at h2; rw [h2]; rfl)))) (fun g w => ro_let10 g n k' n' t t' w e HCX HCY HL h2)
  · exact both_of #[60, 61] t t' 3 n k' n' c 0 0 #[] #[116, 121, 112, 101] (opc_le 3 n k' n' t t' hx hy 0 0 #[] #[116, 121, 112, 101] (dcn_le 3 n k' n' t t' (by simp_all) (by simp_all))) (fun g w => ro_leD g n k' n' t t' w e HCX HCY)
  · exact both_of #[60, 61] t t' k n k' n' c 0 0 #[] #[116, 121, 112, 101] (opc_le k n k' n' t t' hx hy 0 0 #[] #[116, 121, 112, 101] (dcn_le k n k' n' t t' (by simp_all) (by simp_all))) (fun g w => ro_leE g k n k' n' t t' w e e3 HCX HCY)
theorem both_gt : Both #[62] t t' k n k' n' c := by
  have HCX := hcx_of t k n hs hx
  have HCY := hcx_of t' k' n' hs' hy
  have e1 : (ByteArray.mk t).toList = t.toList := by rw [ByteArray.toList_eq]
  have e2 : (ByteArray.mk t').toList = t'.toList := by rw [ByteArray.toList_eq]
  rcases kinds k k' with ⟨rfl, e⟩ | ⟨rfl, e⟩ | ⟨rfl, e⟩ | ⟨rfl, e⟩ | ⟨e, e3⟩
  · rcases Int.lt_trichotomy n n' with h | h | h
    · exact both_of #[62] t t' 2 n k' n' c 1 0 #[] #[] (opc_gt 2 n k' n' t t' hx hy 1 0 #[] #[] (dci_gt 2 n k' n' t t' false (by rfl) e (by simp; omega))) (fun g w => ro_gti10 g n k' n' t t' w e HCX HCY (by simp; omega) (by simp; omega))
    · exact both_of #[62] t t' 2 n k' n' c 1 0 #[] #[] (opc_gt 2 n k' n' t t' hx hy 1 0 #[] #[] (dci_gt 2 n k' n' t t' false (by rfl) e (by simp; omega))) (fun g w => ro_gti01 g n k' n' t t' w e HCX HCY (by simp; omega) (by simp; omega))
    · exact both_of #[62] t t' 2 n k' n' c 1 1 #[] #[] (opc_gt 2 n k' n' t t' hx hy 1 1 #[] #[] (dci_gt 2 n k' n' t t' true (by rfl) e (by simp; omega))) (fun g w => ro_gti00 g n k' n' t t' w e HCX HCY (by simp; omega) (by simp; omega))
  · exact both_of #[62] t t' 2 n k' n' c 0 0 #[] #[116, 121, 112, 101] (opc_gt 2 n k' n' t t' hx hy 0 0 #[] #[116, 121, 112, 101] (dcn_gt 2 n k' n' t t' (by simp_all) (by simp_all))) (fun g w => ro_gtB g n k' n' t t' w e HCX HCY)
  · have HL : ∀ W, _ := fun W => less_any t t' W (by omega) (by omega)
    cases h1 : Op.bytesLess t.toList t'.toList
    · rw [h1] at HL
      cases h2 : ((ByteArray.mk t).toList == (ByteArray.mk t').toList)
      · exact both_of #[62] t t' 3 n k' n' c 1 1 #[] #[] (opc_gt 3 n k' n' t t' hx hy 1 1 #[] #[] (dcs_gt 3 n k' n' t t' true (by rfl) (by rfl) e (by rw [e1, e2, h1] <;> first | rfl | (rw [e1, e2] at h2; rw [h2]; rfl)))) (fun g w => ro_gtt00 g n k' n' t t' w e HCX HCY HL h2)
      · exact both_of #[62] t t' 3 n k' n' c 1 0 #[] #[] (opc_gt 3 n k' n' t t' hx hy 1 0 #[] #[] (dcs_gt 3 n k' n' t t' false (by rfl) (by rfl) e (by rw [e1, e2, h1] <;> first | rfl | (rw [e1, e2] at h2; rw [h2]; rfl)))) (fun g w => ro_gtt01 g n k' n' t t' w e HCX HCY HL h2)
    · rw [h1] at HL
      have h2 : ((ByteArray.mk t).toList == (ByteArray.mk t').toList) = false := by rw [e1, e2]; exact less_ne' _ _ h1
      exact both_of #[62] t t' 3 n k' n' c 1 0 #[] #[] (opc_gt 3 n k' n' t t' hx hy 1 0 #[] #[] (dcs_gt 3 n k' n' t t' false (by rfl) (by rfl) e (by rw [e1, e2, h1] <;> first | rfl | (rw [e1, e2] at h2; rw [h2]; rfl)))) (fun g w => ro_gtt10 g n k' n' t t' w e HCX HCY HL h2)
  · exact both_of #[62] t t' 3 n k' n' c 0 0 #[] #[116, 121, 112, 101] (opc_gt 3 n k' n' t t' hx hy 0 0 #[] #[116, 121, 112, 101] (dcn_gt 3 n k' n' t t' (by simp_all) (by simp_all))) (fun g w => ro_gtD g n k' n' t t' w e HCX HCY)
  · exact both_of #[62] t t' k n k' n' c 0 0 #[] #[116, 121, 112, 101] (opc_gt k n k' n' t t' hx hy 0 0 #[] #[116, 121, 112, 101] (dcn_gt k n k' n' t t' (by simp_all) (by simp_all))) (fun g w => ro_gtE g k n k' n' t t' w e e3 HCX HCY)
theorem both_ge : Both #[62, 61] t t' k n k' n' c := by
  have HCX := hcx_of t k n hs hx
  have HCY := hcx_of t' k' n' hs' hy
  have e1 : (ByteArray.mk t).toList = t.toList := by rw [ByteArray.toList_eq]
  have e2 : (ByteArray.mk t').toList = t'.toList := by rw [ByteArray.toList_eq]
  rcases kinds k k' with ⟨rfl, e⟩ | ⟨rfl, e⟩ | ⟨rfl, e⟩ | ⟨rfl, e⟩ | ⟨e, e3⟩
  · rcases Int.lt_trichotomy n n' with h | h | h
    · exact both_of #[62, 61] t t' 2 n k' n' c 1 0 #[] #[] (opc_ge 2 n k' n' t t' hx hy 1 0 #[] #[] (dci_ge 2 n k' n' t t' false (by rfl) e (by simp; omega))) (fun g w => ro_gei10 g n k' n' t t' w e HCX HCY (by simp; omega) (by simp; omega))
    · exact both_of #[62, 61] t t' 2 n k' n' c 1 1 #[] #[] (opc_ge 2 n k' n' t t' hx hy 1 1 #[] #[] (dci_ge 2 n k' n' t t' true (by rfl) e (by simp; omega))) (fun g w => ro_gei01 g n k' n' t t' w e HCX HCY (by simp; omega) (by simp; omega))
    · exact both_of #[62, 61] t t' 2 n k' n' c 1 1 #[] #[] (opc_ge 2 n k' n' t t' hx hy 1 1 #[] #[] (dci_ge 2 n k' n' t t' true (by rfl) e (by simp; omega))) (fun g w => ro_gei00 g n k' n' t t' w e HCX HCY (by simp; omega) (by simp; omega))
  · exact both_of #[62, 61] t t' 2 n k' n' c 0 0 #[] #[116, 121, 112, 101] (opc_ge 2 n k' n' t t' hx hy 0 0 #[] #[116, 121, 112, 101] (dcn_ge 2 n k' n' t t' (by simp_all) (by simp_all))) (fun g w => ro_geB g n k' n' t t' w e HCX HCY)
  · have HL : ∀ W, _ := fun W => less_any t t' W (by omega) (by omega)
    cases h1 : Op.bytesLess t.toList t'.toList
    · rw [h1] at HL
      cases h2 : ((ByteArray.mk t).toList == (ByteArray.mk t').toList)
      · exact both_of #[62, 61] t t' 3 n k' n' c 1 1 #[] #[] (opc_ge 3 n k' n' t t' hx hy 1 1 #[] #[] (dcs_ge 3 n k' n' t t' true (by rfl) (by rfl) e (by rw [e1, e2, h1] <;> first | rfl | (rw [e1, e2] at h2; rw [h2]; rfl)))) (fun g w => ro_get00 g n k' n' t t' w e HCX HCY HL h2)
      · exact both_of #[62, 61] t t' 3 n k' n' c 1 1 #[] #[] (opc_ge 3 n k' n' t t' hx hy 1 1 #[] #[] (dcs_ge 3 n k' n' t t' true (by rfl) (by rfl) e (by rw [e1, e2, h1] <;> first | rfl | (rw [e1, e2] at h2; rw [h2]; rfl)))) (fun g w => ro_get01 g n k' n' t t' w e HCX HCY HL h2)
    · rw [h1] at HL
      have h2 : ((ByteArray.mk t).toList == (ByteArray.mk t').toList) = false := by rw [e1, e2]; exact less_ne' _ _ h1
      exact both_of #[62, 61] t t' 3 n k' n' c 1 0 #[] #[] (opc_ge 3 n k' n' t t' hx hy 1 0 #[] #[] (dcs_ge 3 n k' n' t t' false (by rfl) (by rfl) e (by rw [e1, e2, h1] <;> first | rfl | (rw [e1, e2] at h2; rw [h2]; rfl)))) (fun g w => ro_get10 g n k' n' t t' w e HCX HCY HL h2)
  · exact both_of #[62, 61] t t' 3 n k' n' c 0 0 #[] #[116, 121, 112, 101] (opc_ge 3 n k' n' t t' hx hy 0 0 #[] #[116, 121, 112, 101] (dcn_ge 3 n k' n' t t' (by simp_all) (by simp_all))) (fun g w => ro_geD g n k' n' t t' w e HCX HCY)
  · exact both_of #[62, 61] t t' k n k' n' c 0 0 #[] #[116, 121, 112, 101] (opc_ge k n k' n' t t' hx hy 0 0 #[] #[116, 121, 112, 101] (dcn_ge k n k' n' t t' (by simp_all) (by simp_all))) (fun g w => ro_geE g k n k' n' t t' w e e3 HCX HCY)
end
end Go.Proofs.YthbnhplkoomdhaaDoor
