/- Small steps; the reference's new disk. -/
import Derived.Test.YtcfglgejjmapdaaRefD
namespace Go.Proofs.Ytcfglgejjmapdaa
open Go Go.RowKit Go.Shelf
def smallB (nm to_ : ByteArray) (n : Nat) : Bool := decide (nm.size ≤ 200) && decide (to_.size ≤ 200) && decide (n ≤ 1000)
set_option maxRecDepth 100000 in
set_option maxHeartbeats 4000000 in
theorem small_any (wh N : Int) (nm to_ : ByteArray) (A : Option Addr) (n c : Nat) (w : World) :
    Calls Try.prog 22 #[.agg #[.int .i64 wh, .string nm, .string to_, .slice A n c, .int .i64 N]] w fun e w' => e = .returned (.bool (smallB nm to_ n)) ∧ Below w.heap.size w w' := by
  have HB := Lib.hid (below_new w (.cells #[.int .i64 wh, .string nm, .string to_, .slice A n c, .int .i64 N] 43))
  by_cases h1 : nm.size ≤ 200
  · by_cases h2 : to_.size ≤ 200
    · by_cases h3 : n ≤ 1000
      · have HS : Hid (smallB nm to_ n = true) := Lib.hid (by unfold smallB; simp [h1, h2, h3])
        have d1 : decide ((nm.size : Int) ≤ 200) = true := decide_eq_true (by omega)
        have d2 : decide ((to_.size : Int) ≤ 200) = true := decide_eq_true (by omega)
        have d3 : decide ((n : Int) ≤ 1000) = true := decide_eq_true (by omega)
        go_enter Try.func22, Try.ntmps22
        go_wp2_with fail
        go_ret
        exact ⟨ret_bool (by rw [HS.out]; try simp [h3]; try omega), HB.out⟩
      · have HS : Hid (smallB nm to_ n = false) := Lib.hid (by unfold smallB; simp [h3])
        have d1 : decide ((nm.size : Int) ≤ 200) = true := decide_eq_true (by omega)
        have d2 : decide ((to_.size : Int) ≤ 200) = true := decide_eq_true (by omega)
        have d3 : decide ((n : Int) ≤ 1000) = false := decide_eq_false (by omega)
        go_enter Try.func22, Try.ntmps22
        go_wp2_with fail
        go_ret
        exact ⟨ret_bool (by rw [HS.out]; try simp [h3]; try omega), HB.out⟩
    · have HS : Hid (smallB nm to_ n = false) := Lib.hid (by unfold smallB; simp [h2])
      have d1 : decide ((nm.size : Int) ≤ 200) = true := decide_eq_true (by omega)
      have d2 : decide ((to_.size : Int) ≤ 200) = false := decide_eq_false (by omega)
      go_enter Try.func22, Try.ntmps22
      go_wp2_with fail
      go_ret
      exact ⟨ret_bool (by rw [HS.out]), HB.out⟩
  · have HS : Hid (smallB nm to_ n = false) := Lib.hid (by unfold smallB; simp [h1])
    have d1 : decide ((nm.size : Int) ≤ 200) = false := decide_eq_false (by omega)
    go_enter Try.func22, Try.ntmps22
    go_wp2_with fail
    go_ret
    exact ⟨ret_bool (by rw [HS.out]), HB.out⟩
theorem size46 : (Try.prog.info? 46).map (·.size) = some 3 := by kernel_rfl
theorem res24 (tmps : Array Value) (w : World) (g : Nat) (cs : Array Value) (hp : tmps.getD 2 undef = .pointer (some ⟨g, 0, none⟩)) (hg : w.heap[g]? = some (.cells cs 46 (0, 0))) (hs : cs.size = 3 := by rfl) :
    (results Try.f24 tmps).run Try.prog w = .ok (.agg cs) w :=
  results_cell_row (P := Try.prog) (p := 2) (ty := 46) Try.results24 tmps w g 46 cs (0, 0) _ hp hg Try.underlying46 rfl (by rw [size46, hs])
theorem rnew_any (A : Option Addr) (n c : Nat) (w : World) : Calls Try.prog 24 #[.slice A n c] w fun e w' => e = .returned (.agg #[.slice A n c, .int .i64 0, .int .i64 (-1)]) ∧ Below w.heap.size w w' := by
  have HB := Lib.hid (below_new w (.cells #[.slice A n c, .int .i64 0, .int .i64 (-1)] 46))
  go_enter Try.func24, Try.ntmps24
  go_wp2_with fail
  exact bodyPost_ret (v := .agg #[.slice A n c, .int .i64 0, .int .i64 (-1)]) (res24 _ _ w.heap.size #[.slice A n c, .int .i64 0, .int .i64 (-1)] rfl (heap_alloc_new w _)) rfl ⟨rfl, HB.out⟩
end Go.Proofs.Ytcfglgejjmapdaa
