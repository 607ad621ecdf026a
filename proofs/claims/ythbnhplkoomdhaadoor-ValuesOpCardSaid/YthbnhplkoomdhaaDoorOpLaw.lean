/- The law of operators: any operator, any two values, any cells. -/
import Derived.Test.YthbnhplkoomdhaaDoorOpAsmF
import Derived.Test.YthbnhplkoomdhaaDoorOpLawC
namespace Go.Proofs.YthbnhplkoomdhaaDoor
open Go Go.RowKit
theorem oplaw_any (op t t' : Array UInt8) (k n k' n' c : Int) (w : World) (hn : Fits n) (hn' : Fits n') (ht : TAB w) :
    Calls Tryd.prog 3 #[.string { data := op }, .agg #[.int .i64 k, .int .i64 n, .string { data := t }, .int .i64 k', .int .i64 n', .string { data := t' }], .int .i64 c] w fun e w' => e = .returned (.bool true) ∧ Below w.heap.size w w' := by
  by_cases hl : 500 < t.size ∨ 500 < t'.size
  · exact law_long k n k' n' c op t t' w (decide_eq_true hl)
  by_cases ho : 500 < op.size
  · exact law_op k n k' n' c op t t' w (decide_eq_false hl) ho
  by_cases hc : 1000 < c
  · exact law_cells k n k' n' c op t t' w (decide_eq_false hl) (by omega) hc
  have hcap := capI_in c (by omega)
  obtain ⟨s, va, vb, vs, why, hP, hR⟩ := both_any op t t' k n k' n' (capI c) hn hn' hcap.1 hcap.2 (by omega) (by omega)
  exact law_run k n k' n' c s va vb op t t' vs why w (decide_eq_false hl) (by omega) (by omega) ht hP hR
end Go.Proofs.YthbnhplkoomdhaaDoor
