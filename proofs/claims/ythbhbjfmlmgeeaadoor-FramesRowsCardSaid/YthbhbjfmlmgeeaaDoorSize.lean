/- How many bytes a list's body has, by the program. -/
import Derived.Test.YthbhbjfmlmgeeaaDoorStrs
namespace Go.Proofs.YthbhbjfmlmgeeaaDoor
open Go Go.RowKit
theorem add_any (g m n : Nat) (w : World) (h : w.heap[g]? = some (.cells #[.int .i64 m] 3 (0, 0))) (bm : m ≤ 4000000000) (bn : n ≤ 4000000000) :
    Calls Tryd.prog 41 #[.int .i64 n, .pointer (some ⟨g, 0, none⟩)] w fun e w' => e = .returned (.tuple #[]) ∧ w' = w.setCell ⟨g, 0, none⟩ (.int .i64 (m + (4 + n) : Nat)) := by
  have hc := cell_of_one h
  have hf := free_of_one h
  clear h
  go_enter Tryd.func41, Tryd.ntmps41
  go_wp2
  go_end0
  exact ⟨rfl, by congr 2⟩
theorem add_below {g : Nat} {w w0 : World} (u : Value) (hb : Below w0.heap.size w0 w) (hg : w0.heap.size ≤ g) : Below w0.heap.size w0 (w.setCell ⟨g, 0, none⟩ u) := hb.setCell (p := ⟨g, 0, none⟩) hg u
theorem ret_int_bool {a b : Int} {x y : Bool} (h : a = b) (h2 : x = y) : Ending.returned (.tuple #[.int .i64 a, .bool x]) = .returned (.tuple #[.int .i64 b, .bool y]) := by rw [h, h2]
set_option maxHeartbeats 1000000 in
theorem size_any (A : Option Addr) (n c : Nat) (ls : List ByteArray) (w : World) (hn : ls.length = n) (hs : szS ls ≤ 2000000000) (ha : RdV w A (cellsS ls)) :
    Calls Tryd.prog 24 #[.slice A n c] w fun e w' => e = .returned (.tuple #[.int .i64 (4 + szS ls : Nat), .bool (mayL (bl ls))]) ∧ Below w.heap.size w w' := by
  have HN := Lib.hid hn
  have HS := Lib.hid hs
  have bn : n ≤ 500000000 := by have := szS_len ls; omega
  clear hn hs
  go_enter Tryd.func24, Tryd.ntmps24
  go_wp2
  go_loopw [11] (fun i wr => ∃ k m : Nat, k ≤ n ∧ i = .int .i64 k ∧ Hid (m = 4 + szS (ls.take k)) ∧ m ≤ 2000000004 ∧ Hid (wr.heap[w.heap.size]? = some (.cells #[.int .i64 m] 3 (0, 0))) ∧ Below w.heap.size w wr) (fun i _ => n - (intOf i).toNat)
  case atStart => exact ⟨0, 4, Nat.zero_le _, rfl, by simp [Hid, szS], by omega, heap_alloc_new w _, (Below.refl _ _).alloc (Nat.le_refl _) _⟩
  case round =>
    obtain ⟨k, m, hk, rfl, HT, hm, HG, hbel⟩ := hrel
    by_cases hlt : k < n
    · obtain ⟨b, off, rfl, hbb, hca⟩ := rdS_at ha (k := k) (by have := HN.out; omega)
      obtain ⟨x, hx, hxt⟩ := list_at (ls := ls) (k := k) (by have := HN.out; omega)
      rw [hx] at hca
      have hcr := (hbel.cell (p := ⟨b, off + k, none⟩) hbb).trans hca
      have h1 := HT.out
      have h2 : m + (4 + x.size) = 4 + szS (ls.take (k + 1)) := by rw [hxt, szS_snoc, h1]; omega
      have h3 : m + (4 + x.size) ≤ 2000000004 := by have := szS_take ls (k + 1); have := HS.out; omega
      have HX := Lib.hid h2
      clear hx hxt h1 h2 hca
      go_wp2_with fail
      refine (add_any w.heap.size m x.size wr HG.out (by omega) (by omega)).mono ?_
      rintro e w2 ⟨rfl, rfl⟩
      have HG2 := Lib.hid (one_setCell (u := .int .i64 (m + (4 + x.size) : Nat)) HG.out)
      have hbel2 := add_below (.int .i64 (m + (4 + x.size) : Nat)) hbel (Nat.le_refl _)
      generalize wr.setCell ⟨w.heap.size, 0, none⟩ (.int .i64 (m + (4 + x.size) : Nat)) = w2 at *
      clear HG hbel hcr
      go_wp2
      go_roundw
      case rel => exact ⟨k + 1, m + (4 + x.size), by omega, by go_num, HX.out, h3, HG2, hbel2⟩
      case measure => simp [intOf]; omega
    · obtain rfl : k = n := by omega
      have h1 := HT.out
      rw [List.take_of_length_le (by have := HN.out; omega)] at h1
      have hcell := cell_of_one HG.out
      have HM := Lib.hid (may_iff ls)
      have HN' := HN
      rw [← h1, HN.out] at HM
      have H1 := Lib.hid h1
      clear h1 HT
      by_cases h6 : k ≤ 65536
      · have d6 : decide ((k : Int) ≤ 65536) = true := by simp; omega
        go_wp2
        go_quiet (fail)
        go_wp2
        go_ret2
        refine ⟨ret_int_bool (by rw [H1.out]) ?_, Below.drewN' hbel _⟩
        rw [HM.out]
        simp [h6]
        try omega
      · have d6 : decide ((k : Int) ≤ 65536) = false := by simp; omega
        go_wp2
        go_quiet (fail)
        go_wp2
        go_ret2
        refine ⟨ret_int_bool (by rw [H1.out]) ?_, Below.drewN' hbel _⟩
        rw [HM.out]
        simp [h6]
end Go.Proofs.YthbhbjfmlmgeeaaDoor
