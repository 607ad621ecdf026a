/- A step that comes in, as it is read. -/
import Derived.Test.YthbnhplkoomdhaaGreatDoorFrame
namespace Go.Proofs.YthbnhplkoomdhaaGreatDoor
open Go Go.RowKit Go.ChangeShapes Go.WideShapes Go.ChangeAt
theorem cell_int {P : Program} {W : World} {r : Reach} {base : Nat} {t : TypeId} {k : IntKind} {v : Value} (hu : P.underlying t = some (.int k)) (h : Cell.okWide P W r base t v) : ∃ n, v = .int k n := by
  simp only [Cell.okWide, hu, Cell.ok] at h
  cases v <;> simp_all
theorem cell_str {P : Program} {W : World} {r : Reach} {base : Nat} {t : TypeId} {v : Value} (hu : P.underlying t = some .string) (h : Cell.okWide P W r base t v) : ∃ s, v = .string s := by
  simp only [Cell.okWide, hu, Cell.ok] at h
  cases v <;> simp_all
theorem types26 : Tryz.prog.cellTypes Tryz.prog.depth 26 = some [3, 22, 2, 9, 22, 2, 9, 22, 2, 9] := by kernel_rfl
theorem cells26 : Tryz.prog.cellsOf 26 = 10 := by kernel_rfl
set_option maxRecDepth 20000 in
theorem step_of {W : World} {v : Value} {base : Nat} (h : Value.okWide Tryz.prog W .any base 26 v) :
    ∃ kd tk tn tt kk kn kt vk vn vt, v = .agg #[.int .i64 kd, .int .i64 tk, .int .i64 tn, .string tt, .int .i64 kk, .int .i64 kn, .string kt, .int .i64 vk, .int .i64 vn, .string vt] := by
  simp only [Value.okWide, Tryz.underlying26] at h
  obtain ⟨cs, rfl, hn, ts, hts, _, hall⟩ := h
  rw [types26] at hts
  obtain rfl := Option.some.inj hts
  rw [cells26] at hn
  have hc : ∀ i (hi : i < cs.size), ∃ u, [3, 22, 2, 9, 22, 2, 9, 22, 2, 9][i % 10]? = some u ∧ Cell.okWide Tryz.prog W .any base u cs[i] := fun i hi => hall i _ (Array.getElem?_eq_getElem hi)
  clear hall hts
  obtain ⟨u0, eu0, ok0⟩ := hc 0 (by omega)
  obtain rfl : 3 = u0 := by simpa using eu0
  obtain ⟨kd, e0⟩ := cell_int Tryz.underlying3 ok0
  obtain ⟨u1, eu1, ok1⟩ := hc 1 (by omega)
  obtain rfl : 22 = u1 := by simpa using eu1
  obtain ⟨tk, e1⟩ := cell_int Tryz.underlying22 ok1
  obtain ⟨u2, eu2, ok2⟩ := hc 2 (by omega)
  obtain rfl : 2 = u2 := by simpa using eu2
  obtain ⟨tn, e2⟩ := cell_int Tryz.underlying2 ok2
  obtain ⟨u3, eu3, ok3⟩ := hc 3 (by omega)
  obtain rfl : 9 = u3 := by simpa using eu3
  obtain ⟨tt, e3⟩ := cell_str Tryz.underlying9 ok3
  obtain ⟨u4, eu4, ok4⟩ := hc 4 (by omega)
  obtain rfl : 22 = u4 := by simpa using eu4
  obtain ⟨kk, e4⟩ := cell_int Tryz.underlying22 ok4
  obtain ⟨u5, eu5, ok5⟩ := hc 5 (by omega)
  obtain rfl : 2 = u5 := by simpa using eu5
  obtain ⟨kn, e5⟩ := cell_int Tryz.underlying2 ok5
  obtain ⟨u6, eu6, ok6⟩ := hc 6 (by omega)
  obtain rfl : 9 = u6 := by simpa using eu6
  obtain ⟨kt, e6⟩ := cell_str Tryz.underlying9 ok6
  obtain ⟨u7, eu7, ok7⟩ := hc 7 (by omega)
  obtain rfl : 22 = u7 := by simpa using eu7
  obtain ⟨vk, e7⟩ := cell_int Tryz.underlying22 ok7
  obtain ⟨u8, eu8, ok8⟩ := hc 8 (by omega)
  obtain rfl : 2 = u8 := by simpa using eu8
  obtain ⟨vn, e8⟩ := cell_int Tryz.underlying2 ok8
  obtain ⟨u9, eu9, ok9⟩ := hc 9 (by omega)
  obtain rfl : 9 = u9 := by simpa using eu9
  obtain ⟨vt, e9⟩ := cell_str Tryz.underlying9 ok9
  refine ⟨kd, tk, tn, tt, kk, kn, kt, vk, vn, vt, ?_⟩
  congr 1
  apply Array.ext
  · simp [hn]
  · intro i h1 h2
    have : i < 10 := by omega
    match i, this with
    | 0, _ => simpa using e0
    | 1, _ => simpa using e1
    | 2, _ => simpa using e2
    | 3, _ => simpa using e3
    | 4, _ => simpa using e4
    | 5, _ => simpa using e5
    | 6, _ => simpa using e6
    | 7, _ => simpa using e7
    | 8, _ => simpa using e8
    | 9, _ => simpa using e9
end Go.Proofs.YthbnhplkoomdhaaGreatDoor
