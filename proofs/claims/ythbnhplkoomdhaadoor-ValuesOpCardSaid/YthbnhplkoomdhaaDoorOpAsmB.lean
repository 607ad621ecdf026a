/- Both heaps tell the same of any two values: sameness, and what is no number. -/
import Derived.Test.YthbnhplkoomdhaaDoorOpAsmA
import Derived.Test.YthbnhplkoomdhaaDoorOpLawC
import Derived.Test.YthbnhplkoomdhaaDoorRefI
import Derived.Test.YthbnhplkoomdhaaDoorRefJ
import Derived.Test.YthbnhplkoomdhaaDoorRefK
import Derived.Test.YthbnhplkoomdhaaDoorRefL
namespace Go.Proofs.YthbnhplkoomdhaaDoor
open Go Go.RowKit
theorem mul_iff (a b : Int) (ha : Fits a) (hb : Fits b) (hb0 : b ≠ 0) : MulFits a b ↔ Fits (a * b) := by
  constructor
  · rintro ⟨h1, h2, h3⟩
    have e := mul_exact a b ha hb hb0 (fun h => h2 ⟨h.2, h.1⟩) h3
    rw [← e]
    obtain ⟨z, hz, hf⟩ := wrap_turns (a * b)
    exact hf
  · intro h
    have e : IntKind.i64.wrap (a * b) = a * b := IntWalk.i64_in _ (by unfold Fits at h; omega)
    refine ⟨?_, ?_, ?_⟩
    · rintro ⟨rfl, rfl⟩; revert h; decide
    · rintro ⟨rfl, rfl⟩; revert h; decide
    · rw [e, Int.mul_tdiv_cancel _ hb0]
      exact IntWalk.i64_in _ (by unfold Fits at ha; omega)
theorem modV_m1 (a : Int) : modV a (-1) = 0 := by
  unfold modV
  rw [tmod_m1]
  simp
/-- Both tell the same, and take the same. -/
def Both (op t t' : Array UInt8) (k n k' n' c : Int) : Prop := ∃ s va vb vs why, OpP op t t' k n k' n' c s (.agg #[.int .i64 va, .int .i64 vb, .string { data := vs }]) (.string { data := why }) ∧ OpR op t t' k n k' n' c s (.agg #[.int .i64 va, .int .i64 vb, .string { data := vs }]) (.string { data := why })
/-- What the reference tells, where it takes nothing. -/
def OpD (op : Array UInt8) (x y V : Value) (why : Array UInt8) : Prop := ∀ (g : Value) (w : World), Calls Tryd.prog 11 #[g, .string { data := op }, x, y] w fun e w' => e = .returned (.tuple #[V, .string { data := why }]) ∧ Below w.heap.size w w'
section
variable (op t t' : Array UInt8) (k n k' n' c : Int)
theorem both_of (va vb : Int) (vs why : Array UInt8) (hp : OpC op (.agg #[.int .i64 k, .int .i64 n, .string { data := t }]) (.agg #[.int .i64 k', .int .i64 n', .string { data := t' }]) (.agg #[.int .i64 va, .int .i64 vb, .string { data := vs }]) why) (hr : OpD op (.agg #[.int .i64 k, .int .i64 n, .string { data := t }]) (.agg #[.int .i64 k', .int .i64 n', .string { data := t' }]) (.agg #[.int .i64 va, .int .i64 vb, .string { data := vs }]) why) : Both op t t' k n k' n' c :=
  ⟨0, va, vb, vs, why, fun W H ob hH _ => (hp W H ob _ _ _ hH).mono fun _ _ ⟨a, b⟩ => ⟨a, (b.block _ (hlt hH.1)).trans hH.1, KB.of_below H b (hlt hH.1)⟩,
    fun W G hG _ => (hr _ W).mono fun _ _ ⟨a, b⟩ => ⟨a, (b.block _ (hlt hG)).trans hG, KB.of_below G b (hlt hG)⟩⟩
theorem both_bad (hs : t.size ≤ 500) (hs' : t'.size ≤ 500) (hb : chk k n t = false ∨ chk k' n' t' = false) (hp : OpC op (.agg #[.int .i64 k, .int .i64 n, .string { data := t }]) (.agg #[.int .i64 k', .int .i64 n', .string { data := t' }]) valNo #[116, 121, 112, 101]) : Both op t t' k n k' n' c := by
  refine both_of op t t' k n k' n' c 0 0 #[] #[116, 121, 112, 101] hp fun g w => ?_
  cases hx : chk k n t
  · exact ro_bad1 g k n k' n' t t' w (fun W => by have := refcheck_any k n t W hs; rwa [hx] at this) op
  · have hy := hb.resolve_left (by simp [hx])
    exact ro_bad2 g k n k' n' t t' w (fun W => by have := refcheck_any k n t W hs; rwa [hx] at this) (fun W => by have := refcheck_any k' n' t' W hs'; rwa [hy] at this) op
end
theorem hcx_of (t : Array UInt8) (k n : Int) (hs : t.size ≤ 500) (hx : chk k n t = true) : ∀ W, Calls Tryd.prog 15 #[.agg #[.int .i64 k, .int .i64 n, .string { data := t }]] W fun e w' => e = .returned (.bool true) ∧ Below W.heap.size W w' := fun W => by have := refcheck_any k n t W hs; rwa [hx] at this
/-- Five ways that two kinds may lie. -/
theorem kinds (k k' : Int) : (k = 2 ∧ (k' == 2) = true) ∨ (k = 2 ∧ (k' == 2) = false) ∨ (k = 3 ∧ (k' == 3) = true) ∨ (k = 3 ∧ (k' == 3) = false) ∨ ((k == 2) = false ∧ (k == 3) = false) := by
  by_cases h2 : k = 2
  · cases h : (k' == 2) <;> simp [h2]
  · by_cases h3 : k = 3
    · cases h : (k' == 3) <;> simp [h3]
    · simp [h2, h3]
section
variable (t t' : Array UInt8) (k n k' n' c : Int) (hn : Fits n) (hn' : Fits n') (hc0 : 0 ≤ c) (hc : c ≤ 1000) (hs : t.size ≤ 500) (hs' : t'.size ≤ 500) (hx : chk k n t = true) (hy : chk k' n' t' = true)
include hs hs' hx hy
theorem both_eq : Both #[61, 61] t t' k n k' n' c := by
  have HCX := hcx_of t k n hs hx
  have HCY := hcx_of t' k' n' hs' hy
  obtain ⟨v, hv⟩ : ∃ v, same k n { data := t } k' n' { data := t' } = v := ⟨_, rfl⟩
  refine both_of #[61, 61] t t' k n k' n' c 1 (if v then 1 else 0) #[] #[] (opc_eq k n k' n' t t' hx hy v hv) fun g w => ?_
  rcases kinds k k' with ⟨rfl, e⟩ | ⟨rfl, e⟩ | ⟨rfl, e⟩ | ⟨rfl, e⟩ | ⟨e, e3⟩
  · exact ro_eqA g n k' n' t t' w e HCX HCY v _ (fun W => rbool_any (v) W) hv
  · exact ro_eqB g n k' n' t t' w e HCX HCY v _ (fun W => rbool_any (v) W) hv
  · exact ro_eqC g n k' n' t t' w e HCX HCY v _ (fun W => rbool_any (v) W) hv
  · exact ro_eqD g n k' n' t t' w e HCX HCY v _ (fun W => rbool_any (v) W) hv
  · exact ro_eqE g k n k' n' t t' w e e3 HCX HCY v _ (fun W => rbool_any (v) W) hv
theorem both_ne : Both #[126, 61] t t' k n k' n' c := by
  have HCX := hcx_of t k n hs hx
  have HCY := hcx_of t' k' n' hs' hy
  obtain ⟨v, hv⟩ : ∃ v, same k n { data := t } k' n' { data := t' } = v := ⟨_, rfl⟩
  refine both_of #[126, 61] t t' k n k' n' c 1 (if !v then 1 else 0) #[] #[] (opc_ne k n k' n' t t' hx hy v hv) fun g w => ?_
  rcases kinds k k' with ⟨rfl, e⟩ | ⟨rfl, e⟩ | ⟨rfl, e⟩ | ⟨rfl, e⟩ | ⟨e, e3⟩
  · exact ro_neA g n k' n' t t' w e HCX HCY v _ (fun W => rbool_any (!v) W) hv
  · exact ro_neB g n k' n' t t' w e HCX HCY v _ (fun W => rbool_any (!v) W) hv
  · exact ro_neC g n k' n' t t' w e HCX HCY v _ (fun W => rbool_any (!v) W) hv
  · exact ro_neD g n k' n' t t' w e HCX HCY v _ (fun W => rbool_any (!v) W) hv
  · exact ro_neE g k n k' n' t t' w e e3 HCX HCY v _ (fun W => rbool_any (!v) W) hv
theorem both_add_type (h2 : ¬ (k = 2 ∧ k' = 2)) : Both #[43] t t' k n k' n' c := by
  have HCX := hcx_of t k n hs hx
  have HCY := hcx_of t' k' n' hs' hy
  have HP : ∀ (h x : Value) (w : World), Calls Tryd.prog 48 #[h, .agg #[.int .i64 k, .int .i64 n, .string { data := t }], .agg #[.int .i64 k', .int .i64 n', .string { data := t' }], x] w fun e w' => e = .returned (.tuple #[valNo, .string { data := #[116, 121, 112, 101] }]) ∧ Below w.heap.size w w' := fun h x w => by
    by_cases h1 : k = 2
    · exact rk_bad2 h k n k' n' t t' w x h1 (by have : k' ≠ 2 := fun h => h2 ⟨h1, h⟩; simpa using this)
    · exact rk_bad1 h k n k' n' t t' w x (by simpa using h1)
  refine both_of #[43] t t' k n k' n' c 0 0 #[] #[116, 121, 112, 101] (opc_add_type k n k' n' t t' hx hy HP) fun g w => ?_
  rcases kinds k k' with ⟨rfl, e⟩ | ⟨rfl, e⟩ | ⟨rfl, e⟩ | ⟨rfl, e⟩ | ⟨e, e3⟩
  · exact absurd ⟨rfl, by simpa using e⟩ h2
  · exact ro_addB g n k' n' t t' w e HCX HCY
  · exact ro_addC g n k' n' t t' w e HCX HCY
  · exact ro_addD g n k' n' t t' w e HCX HCY
  · exact ro_addE g k n k' n' t t' w e e3 HCX HCY
theorem both_sub_type (h2 : ¬ (k = 2 ∧ k' = 2)) : Both #[45] t t' k n k' n' c := by
  have HCX := hcx_of t k n hs hx
  have HCY := hcx_of t' k' n' hs' hy
  have HP : ∀ (h x : Value) (w : World), Calls Tryd.prog 48 #[h, .agg #[.int .i64 k, .int .i64 n, .string { data := t }], .agg #[.int .i64 k', .int .i64 n', .string { data := t' }], x] w fun e w' => e = .returned (.tuple #[valNo, .string { data := #[116, 121, 112, 101] }]) ∧ Below w.heap.size w w' := fun h x w => by
    by_cases h1 : k = 2
    · exact rk_bad2 h k n k' n' t t' w x h1 (by have : k' ≠ 2 := fun h => h2 ⟨h1, h⟩; simpa using this)
    · exact rk_bad1 h k n k' n' t t' w x (by simpa using h1)
  refine both_of #[45] t t' k n k' n' c 0 0 #[] #[116, 121, 112, 101] (opc_sub_type k n k' n' t t' hx hy HP) fun g w => ?_
  rcases kinds k k' with ⟨rfl, e⟩ | ⟨rfl, e⟩ | ⟨rfl, e⟩ | ⟨rfl, e⟩ | ⟨e, e3⟩
  · exact absurd ⟨rfl, by simpa using e⟩ h2
  · exact ro_subB g n k' n' t t' w e HCX HCY
  · exact ro_subC g n k' n' t t' w e HCX HCY
  · exact ro_subD g n k' n' t t' w e HCX HCY
  · exact ro_subE g k n k' n' t t' w e e3 HCX HCY
theorem both_mul_type (h2 : ¬ (k = 2 ∧ k' = 2)) : Both #[42] t t' k n k' n' c := by
  have HCX := hcx_of t k n hs hx
  have HCY := hcx_of t' k' n' hs' hy
  have HP : ∀ (h x : Value) (w : World), Calls Tryd.prog 48 #[h, .agg #[.int .i64 k, .int .i64 n, .string { data := t }], .agg #[.int .i64 k', .int .i64 n', .string { data := t' }], x] w fun e w' => e = .returned (.tuple #[valNo, .string { data := #[116, 121, 112, 101] }]) ∧ Below w.heap.size w w' := fun h x w => by
    by_cases h1 : k = 2
    · exact rk_bad2 h k n k' n' t t' w x h1 (by have : k' ≠ 2 := fun h => h2 ⟨h1, h⟩; simpa using this)
    · exact rk_bad1 h k n k' n' t t' w x (by simpa using h1)
  refine both_of #[42] t t' k n k' n' c 0 0 #[] #[116, 121, 112, 101] (opc_mul_type k n k' n' t t' hx hy HP) fun g w => ?_
  rcases kinds k k' with ⟨rfl, e⟩ | ⟨rfl, e⟩ | ⟨rfl, e⟩ | ⟨rfl, e⟩ | ⟨e, e3⟩
  · exact absurd ⟨rfl, by simpa using e⟩ h2
  · exact ro_mulB g n k' n' t t' w e HCX HCY
  · exact ro_mulC g n k' n' t t' w e HCX HCY
  · exact ro_mulD g n k' n' t t' w e HCX HCY
  · exact ro_mulE g k n k' n' t t' w e e3 HCX HCY
theorem both_div_type (h2 : ¬ (k = 2 ∧ k' = 2)) : Both #[47] t t' k n k' n' c := by
  have HCX := hcx_of t k n hs hx
  have HCY := hcx_of t' k' n' hs' hy
  have HP : ∀ (h x : Value) (w : World), Calls Tryd.prog 48 #[h, .agg #[.int .i64 k, .int .i64 n, .string { data := t }], .agg #[.int .i64 k', .int .i64 n', .string { data := t' }], x] w fun e w' => e = .returned (.tuple #[valNo, .string { data := #[116, 121, 112, 101] }]) ∧ Below w.heap.size w w' := fun h x w => by
    by_cases h1 : k = 2
    · exact rk_bad2 h k n k' n' t t' w x h1 (by have : k' ≠ 2 := fun h => h2 ⟨h1, h⟩; simpa using this)
    · exact rk_bad1 h k n k' n' t t' w x (by simpa using h1)
  refine both_of #[47] t t' k n k' n' c 0 0 #[] #[116, 121, 112, 101] (opc_div_type k n k' n' t t' hx hy HP) fun g w => ?_
  rcases kinds k k' with ⟨rfl, e⟩ | ⟨rfl, e⟩ | ⟨rfl, e⟩ | ⟨rfl, e⟩ | ⟨e, e3⟩
  · exact absurd ⟨rfl, by simpa using e⟩ h2
  · exact ro_divB g n k' n' t t' w e HCX HCY
  · exact ro_divC g n k' n' t t' w e HCX HCY
  · exact ro_divD g n k' n' t t' w e HCX HCY
  · exact ro_divE g k n k' n' t t' w e e3 HCX HCY
theorem both_rest_type (h2 : ¬ (k = 2 ∧ k' = 2)) : Both #[37] t t' k n k' n' c := by
  have HCX := hcx_of t k n hs hx
  have HCY := hcx_of t' k' n' hs' hy
  have HP : ∀ (h x : Value) (w : World), Calls Tryd.prog 48 #[h, .agg #[.int .i64 k, .int .i64 n, .string { data := t }], .agg #[.int .i64 k', .int .i64 n', .string { data := t' }], x] w fun e w' => e = .returned (.tuple #[valNo, .string { data := #[116, 121, 112, 101] }]) ∧ Below w.heap.size w w' := fun h x w => by
    by_cases h1 : k = 2
    · exact rk_bad2 h k n k' n' t t' w x h1 (by have : k' ≠ 2 := fun h => h2 ⟨h1, h⟩; simpa using this)
    · exact rk_bad1 h k n k' n' t t' w x (by simpa using h1)
  refine both_of #[37] t t' k n k' n' c 0 0 #[] #[116, 121, 112, 101] (opc_rest_type k n k' n' t t' hx hy HP) fun g w => ?_
  rcases kinds k k' with ⟨rfl, e⟩ | ⟨rfl, e⟩ | ⟨rfl, e⟩ | ⟨rfl, e⟩ | ⟨e, e3⟩
  · exact absurd ⟨rfl, by simpa using e⟩ h2
  · exact ro_restB g n k' n' t t' w e HCX HCY
  · exact ro_restC g n k' n' t t' w e HCX HCY
  · exact ro_restD g n k' n' t t' w e HCX HCY
  · exact ro_restE g k n k' n' t t' w e e3 HCX HCY
end
end Go.Proofs.YthbnhplkoomdhaaDoor
