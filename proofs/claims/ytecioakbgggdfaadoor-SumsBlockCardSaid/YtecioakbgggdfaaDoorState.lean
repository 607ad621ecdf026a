/- A state that comes in, as it is read; and the block of bytes that are none. -/
import Derived.Test.YtecioakbgggdfaaDoorFrame
import Derived.WideKeyArr2
import Derived.Laws.StructEq
namespace Go.Proofs.YtecioakbgggdfaaDoor
open Go Go.RowKit Go.ChangeShapes Go.WideShapes Go.ChangeAt
theorem arr36 : Go.WideMaps.ArrKey Tryd.prog 36 25 5 := ⟨Tryd.underlying36, by kernel_rfl, cells25, by kernel_rfl⟩
theorem mapM_ints {H : Type} {enc : TypeId × Value → H} {P : Program} {e : TypeId} {q : IntKind} {W : World} {base : Nat} {sp : Nat → Bool} {held : Bool} (he : P.underlying e = some (.int q)) {m : Nat} {cs : List Value} {c : Nat} : ∀ (L : List Nat) (xs : List (DataW H × List MemPlace)),
    L.mapM (fun i => DataW.trod enc P W base sp held m e ((cs.drop (i * c)).take c)) = some xs → ∀ i ∈ L, ∃ a : Int, (cs.drop (i * c)).take c = [.int q a] ∧ (Lit.int q a).wf = true
  | [], _, _ => by simp
  | i :: L, xs, h => by
    rw [List.mapM_cons] at h
    simp only [bind, Option.bind_eq_some_iff, pure, Option.some.injEq] at h
    obtain ⟨y, hy, ys, hys, rfl⟩ := h
    intro j hj
    rcases List.mem_cons.1 hj with rfl | hj
    · obtain ⟨a, ea, rfl, wa⟩ := DataW.trod_int he hy
      exact ⟨a, ea, wa⟩
    · exact mapM_ints he L ys hys j hj
theorem state_of {H : Type} {enc : TypeId × Value → H} {W : World} {v : Value} {d : DataW H} {p : List MemPlace} {base : Nat} (hval : Value.okWide Tryd.prog W .any base 36 v) (h : DataW.Trod enc Tryd.prog W 0 (fun _ => true) true 36 v d p) :
    ∃ s : St, v = .agg #[.int .u32 s.a, .int .u32 s.b, .int .u32 s.c, .int .u32 s.d, .int .u32 s.e] ∧ s.ok := by
  obtain ⟨xs, rfl, hn⟩ := Go.WideMaps.okWide_arr arr36 hval
  obtain ⟨fuel, hf⟩ := h
  cases fuel with
  | zero => simp [DataW.trod] at hf
  | succ m =>
    rw [DataW.trod_step] at hf
    unfold DataW.trodStep at hf
    simp only [arr36.hu, Value.cells] at hf
    rw [if_pos (by rw [arr36.size]; simpa using hn)] at hf
    simp only [Option.map_eq_some_iff] at hf
    obtain ⟨ys, hy, e1⟩ := hf
    have hall := mapM_ints Tryd.underlying25 _ ys hy
    rw [cells25] at hall
    have hone : ∀ i, i < 5 → ∃ n : Nat, xs[i]? = some (.int .u32 n) ∧ n < 4294967296 := by
      intro i hi
      obtain ⟨a, ha, hw⟩ := hall i (by simpa using hi)
      obtain ⟨n, rfl, hn2⟩ := u32_nat hw
      refine ⟨n, ?_, hn2⟩
      have h0 := congrArg (fun l => l[0]?) ha
      simp at h0
      simpa using h0
    obtain ⟨a, ha, la⟩ := hone 0 (by omega)
    obtain ⟨b, hb, lb⟩ := hone 1 (by omega)
    obtain ⟨c, hc, lc⟩ := hone 2 (by omega)
    obtain ⟨dd, hd, ld⟩ := hone 3 (by omega)
    obtain ⟨e, he, le⟩ := hone 4 (by omega)
    refine ⟨⟨a, b, c, dd, e⟩, ?_, la, lb, lc, ld, le⟩
    congr 1
    apply Array.ext
    · simp [hn]
    · intro i h1 h2
      have : i < 5 := by omega
      match i, this with
      | 0, _ => simpa [Array.getElem?_eq_getElem h1] using ha
      | 1, _ => simpa [Array.getElem?_eq_getElem h1] using hb
      | 2, _ => simpa [Array.getElem?_eq_getElem h1] using hc
      | 3, _ => simpa [Array.getElem?_eq_getElem h1] using hd
      | 4, _ => simpa [Array.getElem?_eq_getElem h1] using he

theorem block_no (s0 : St) (A : Option Addr) (n c : Nat) (w : World) (h : n ≠ 64) :
    Calls Tryd.prog 26 #[.agg #[.int .u32 s0.a, .int .u32 s0.b, .int .u32 s0.c, .int .u32 s0.d, .int .u32 s0.e], .slice A n c] w fun e w' => e = .returned (.tuple #[.agg #[.int .u32 0, .int .u32 0, .int .u32 0, .int .u32 0, .int .u32 0], .int .i64 2]) ∧ Below w.heap.size w w' := by
  have hd : ((n : Int) != 64) = true := by simp; omega
  go_enter Tryd.func26, Tryd.ntmps26
  go_wp2_with fail
  have hb : Below w.heap.size w ((w.alloc (.cells #[.int .u32 s0.a, .int .u32 s0.b, .int .u32 s0.c, .int .u32 s0.d, .int .u32 s0.e] 36)).alloc (.cells #[.int .u32 0, .int .u32 0, .int .u32 0, .int .u32 0, .int .u32 0] 36)) := Below.two w _ _
  exact bodyPost_ret (v := .tuple #[.agg (⟨0, 0, 0, 0, 0⟩ : St).row, .int .i64 2]) (res26 _ _ (w.heap.size + 1) ⟨0, 0, 0, 0, 0⟩ rfl (heap_alloc2_new _ _ _)) rfl ⟨rfl, hb⟩
theorem eq36i (a b c d e : Int) (w : World) : (Op.equalIn 10000 36 (.agg #[.int .u32 a, .int .u32 b, .int .u32 c, .int .u32 d, .int .u32 e]) (.agg #[.int .u32 a, .int .u32 b, .int .u32 c, .int .u32 d, .int .u32 e])).run Tryd.prog w = .ok true w := by
  have u3 := Tryd.underlying25
  have a3 := Tryd.isAgg25
  have z3 := Tryd.sizeOf25
  rw [show (10000 : Nat) = 9999 + 1 from rfl, Op.equalIn]
  simp only [Sem.run_bind, run_underlying Tryd.underlying36, Result.andThen_ok]
  simp only [Std.Legacy.Range.forIn_eq_forIn_range', Std.Legacy.Range.size, Nat.sub_zero, Nat.add_sub_cancel, Nat.div_one, List.range'_succ, List.range'_zero, List.forIn_cons, List.forIn_nil]
  go_simp
theorem eq36 (s : St) (w : World) : (Op.equalIn 10000 36 (.agg #[.int .u32 s.a, .int .u32 s.b, .int .u32 s.c, .int .u32 s.d, .int .u32 s.e]) (.agg #[.int .u32 s.a, .int .u32 s.b, .int .u32 s.c, .int .u32 s.d, .int .u32 s.e])).run Tryd.prog w = .ok true w := eq36i _ _ _ _ _ w
end Go.Proofs.YtecioakbgggdfaaDoor
