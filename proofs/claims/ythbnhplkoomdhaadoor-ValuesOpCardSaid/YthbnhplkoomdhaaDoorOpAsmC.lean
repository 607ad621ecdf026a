/- Both tell the same of two numbers. -/
import Derived.Test.YthbnhplkoomdhaaDoorOpAsmB
namespace Go.Proofs.YthbnhplkoomdhaaDoor
open Go Go.RowKit
theorem both_add (n n' c : Int) (hn : Fits n) (hn' : Fits n') : Both #[43] #[] #[] 2 n 2 n' c := by
  have HCX := hcx_of #[] 2 n (by decide) (by rfl)
  have HCY := hcx_of #[] 2 n' (by decide) (by rfl)
  by_cases hf : Fits (n + n')
  · refine both_of #[43] #[] #[] 2 n 2 n' c 2 (n + n') #[] #[] (fun W H ob tb c s h => op_add_fine W H ob tb c s n n' h hn hn' hf) (fun g w => ro_add g n 2 n' #[] #[] w (by rfl) HCX HCY 2 (n + n') #[] #[] (fun W => num_add n n' W hn hn' hf))
  · refine both_of #[43] #[] #[] 2 n 2 n' c 0 (0) #[] #[111, 118, 101, 114] (fun W H ob tb c s h => op_add_over W H ob tb c s n n' h hn hn' hf) (fun g w => ro_add g n 2 n' #[] #[] w (by rfl) HCX HCY 0 (0) #[] #[111, 118, 101, 114] (fun W => num_add_over n n' W hn hn' hf))
theorem both_sub (n n' c : Int) (hn : Fits n) (hn' : Fits n') : Both #[45] #[] #[] 2 n 2 n' c := by
  have HCX := hcx_of #[] 2 n (by decide) (by rfl)
  have HCY := hcx_of #[] 2 n' (by decide) (by rfl)
  by_cases hf : Fits (n - n')
  · refine both_of #[45] #[] #[] 2 n 2 n' c 2 (n - n') #[] #[] (fun W H ob tb c s h => op_sub_fine W H ob tb c s n n' h hn hn' hf) (fun g w => ro_sub g n 2 n' #[] #[] w (by rfl) HCX HCY 2 (n - n') #[] #[] (fun W => num_sub n n' W hn hn' hf))
  · refine both_of #[45] #[] #[] 2 n 2 n' c 0 (0) #[] #[111, 118, 101, 114] (fun W H ob tb c s h => op_sub_over W H ob tb c s n n' h hn hn' hf) (fun g w => ro_sub g n 2 n' #[] #[] w (by rfl) HCX HCY 0 (0) #[] #[111, 118, 101, 114] (fun W => num_sub_over n n' W hn hn' hf))
theorem both_mul (n n' c : Int) (hn : Fits n) (hn' : Fits n') : Both #[42] #[] #[] 2 n 2 n' c := by
  have HCX := hcx_of #[] 2 n (by decide) (by rfl)
  have HCY := hcx_of #[] 2 n' (by decide) (by rfl)
  by_cases hz : n = 0 ∨ n' = 0
  · have hz0 : n * n' = 0 := by rcases hz with rfl | rfl <;> simp
    have hf : Fits (n * n') := by rw [hz0]; unfold Fits; omega
    have HN : ∀ W, _ := fun W => num_mul n n' W hn hn' hf
    rw [hz0] at HN
    refine both_of #[42] #[] #[] 2 n 2 n' c 2 (0) #[] #[] (fun W H ob tb c s h => op_mul_zero W H ob tb c s n n' h hz) (fun g w => ro_mul g n 2 n' #[] #[] w (by rfl) HCX HCY 2 (0) #[] #[] (fun W => HN W))
  have h0 : n ≠ 0 := fun h => hz (.inl h)
  have h0' : n' ≠ 0 := fun h => hz (.inr h)
  by_cases hf : Fits (n * n')
  · refine both_of #[42] #[] #[] 2 n 2 n' c 2 (n * n') #[] #[] (fun W H ob tb c s h => op_mul_fine W H ob tb c s n n' h hn hn' h0 h0' ((mul_iff n n' hn hn' h0').2 hf)) (fun g w => ro_mul g n 2 n' #[] #[] w (by rfl) HCX HCY 2 (n * n') #[] #[] (fun W => num_mul n n' W hn hn' hf))
  · refine both_of #[42] #[] #[] 2 n 2 n' c 0 (0) #[] #[111, 118, 101, 114] (fun W H ob tb c s h => op_mul_over W H ob tb c s n n' h hn hn' h0 h0' (fun hm => hf ((mul_iff n n' hn hn' h0').1 hm))) (fun g w => ro_mul g n 2 n' #[] #[] w (by rfl) HCX HCY 0 (0) #[] #[111, 118, 101, 114] (fun W => num_mul_over n n' W hn hn' hf))
theorem both_div (n n' c : Int) (hn : Fits n) (hn' : Fits n') : Both #[47] #[] #[] 2 n 2 n' c := by
  have HCX := hcx_of #[] 2 n (by decide) (by rfl)
  have HCY := hcx_of #[] 2 n' (by decide) (by rfl)
  by_cases hz : n' = 0
  · refine both_of #[47] #[] #[] 2 n 2 n' c 0 (0) #[] #[122, 101, 114, 111] (fun W H ob tb c s h => op_div_zero W H ob tb c s n n' h hz) (fun g w => ro_div g n 2 n' #[] #[] w (by rfl) HCX HCY 0 (0) #[] #[122, 101, 114, 111] (fun W => num_div_zero n n' W hz))
  by_cases hv : n = -9223372036854775808 ∧ n' = -1
  · refine both_of #[47] #[] #[] 2 n 2 n' c 0 (0) #[] #[111, 118, 101, 114] (fun W H ob tb c s h => op_div_over W H ob tb c s n n' h hv) (fun g w => ro_div g n 2 n' #[] #[] w (by rfl) HCX HCY 0 (0) #[] #[111, 118, 101, 114] (fun W => num_div_over n n' W hv))
  · refine both_of #[47] #[] #[] 2 n 2 n' c 2 (divV n n') #[] #[] (fun W H ob tb c s h => op_div_fine W H ob tb c s n n' h hn hn' hz hv) (fun g w => ro_div g n 2 n' #[] #[] w (by rfl) HCX HCY 2 (divV n n') #[] #[] (fun W => num_div_fine n n' W hn hn' hz hv))
theorem both_rest (n n' c : Int) (hn : Fits n) (hn' : Fits n') : Both #[37] #[] #[] 2 n 2 n' c := by
  have HCX := hcx_of #[] 2 n (by decide) (by rfl)
  have HCY := hcx_of #[] 2 n' (by decide) (by rfl)
  by_cases hz : n' = 0
  · refine both_of #[37] #[] #[] 2 n 2 n' c 0 (0) #[] #[122, 101, 114, 111] (fun W H ob tb c s h => op_rest_zero W H ob tb c s n n' h hz) (fun g w => ro_rest g n 2 n' #[] #[] w (by rfl) HCX HCY 0 (0) #[] #[122, 101, 114, 111] (fun W => num_rest_zero n n' W hz))
  by_cases hv : n' = -1
  · have HP : ∀ W H ob tb c s, HeapAt W H ob tb c s → _ := fun W H ob tb c s h => op_rest_fine W H ob tb c s n n' h hn hn' hz
    have e : modV n n' = 0 := by rw [hv, modV_m1]
    rw [e] at HP
    refine both_of #[37] #[] #[] 2 n 2 n' c 2 (0) #[] #[] (fun W H ob tb c s h => HP W H ob tb c s h) (fun g w => ro_rest g n 2 n' #[] #[] w (by rfl) HCX HCY 2 (0) #[] #[] (fun W => num_rest_m1 n n' W hv))
  · refine both_of #[37] #[] #[] 2 n 2 n' c 2 (modV n n') #[] #[] (fun W H ob tb c s h => op_rest_fine W H ob tb c s n n' h hn hn' hz) (fun g w => ro_rest g n 2 n' #[] #[] w (by rfl) HCX HCY 2 (modV n n') #[] #[] (fun W => num_rest_fine n n' W hn hn' hz hv))
end Go.Proofs.YthbnhplkoomdhaaDoor
