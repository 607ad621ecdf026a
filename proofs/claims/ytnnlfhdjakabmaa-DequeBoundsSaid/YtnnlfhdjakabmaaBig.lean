/- Long lists and long texts; a deque that is full, or none. -/
import Derived.Test.YtnnlfhdjakabmaaDp
import Derived.Laws.OwnMore
import Derived.Laws.IdiomStrings
namespace Go.Proofs.Ytnnlfhdjakabmaa
open Go Go.RowKit
open Go.Shelf
theorem u8_info : (Try.prog.info? 5).map (fun i => (i.zero, i.size, i.bytes)) = some (some (.int .u8 0), 1, 1) := by kernel_rfl
theorem made_at (z : Value) (S : Nat) {j : Nat} (hj : j < S) : (madeCells #[z] S)[j]? = some z := by
  rw [← Array.getElem?_toList, toList_madeCells_one, List.getElem?_replicate, if_pos hj]
theorem big_any (S : Nat) (hS : S + 1 ≤ 500000) : ∃ (O : Obj) (l : List ByteArray), l.length = S ∧ (∀ s ∈ l, s.size = 0) ∧
    (∀ W : World, (Instr.makeSlice 29 (.int .i64 ((S + 1 : Nat) : Int)) (.int .i64 ((S + 1 : Nat) : Int))).run Try.prog W = .ok (.slice (some ⟨W.heap.size, 0, none⟩) (S + 1) (S + 1)) (W.alloc O)) ∧ ∀ W : World, RdV (W.alloc O) (some ⟨W.heap.size, 0, none⟩) (cellsS (l ++ [⟨#[]⟩])) := by
  refine ⟨.cells (madeCells #[.string ⟨#[]⟩] (S + 1)) 9, List.replicate S ⟨#[]⟩, by simp, fun s hs => by rw [(List.mem_replicate.1 hs).2]; rfl, fun W => ?_, fun W h0 => ⟨_, 0, rfl, by simp, fun j hj => ?_⟩⟩
  · obtain ⟨i0, hi, hz0, hz1, hz2⟩ := info_parts str_info
    have h := run_make (P := Try.prog) W 29 9 i0 _ Try.underlying29 hi hz0 .i64 .i64 ((S + 1 : Nat) : Int) ((S + 1 : Nat) : Int) (by omega) (by omega) (by rw [hz2]; omega) (by omega)
    rw [hz1, Nat.mul_one] at h
    exact h
  · rw [cellsS_len] at hj
    simp at hj
    have h := heap_alloc_new W (.cells (madeCells #[.string ⟨#[]⟩] (S + 1)) 9)
    simp only [World.cell?, h, Nat.zero_add]
    have h2 : (madeCells #[.string ⟨#[]⟩] (S + 1))[j]? = some (.string ⟨#[]⟩) := made_at _ _ hj
    have h3 : ∀ v ∈ cellsS (List.replicate S (⟨#[]⟩ : ByteArray) ++ [⟨#[]⟩]), v = Value.string ⟨#[]⟩ := by
      intro v hv
      simp only [cellsS, List.mem_map, List.mem_append, List.mem_replicate, List.mem_singleton] at hv
      obtain ⟨x, hx, rfl⟩ := hv
      rcases hx with hx | hx
      · rw [hx.2]
      · rw [hx]
    rw [h3 _ (List.getElem_mem _)]
    simpa using h2
theorem bytes_of (S : Nat) (hS : S ≤ 5000000) : ∃ (O : Obj) (s : ByteArray), s.size = S ∧ (∀ W : World, (Instr.makeSlice 56 (.int .i64 (S : Int)) (.int .i64 (S : Int))).run Try.prog W = .ok (.slice (some ⟨W.heap.size, 0, none⟩) S S) (W.alloc O)) ∧
    ∀ W : World, (convert 56 9 (.slice (some ⟨W.heap.size, 0, none⟩) S S)).run Try.prog (W.alloc O) = .ok (.string s) (W.alloc O) := by
  refine ⟨.cells (madeCells #[.int .u8 0] S) 5, ⟨(List.replicate S (0 : UInt8)).toArray⟩, by show (List.replicate S (0 : UInt8)).toArray.size = S; simp, fun W => ?_, fun W => ?_⟩
  · obtain ⟨i0, hi, hz0, hz1, hz2⟩ := info_parts u8_info
    have h := run_make (P := Try.prog) W 56 5 i0 _ Try.underlying56 hi hz0 .i64 .i64 (S : Int) (S : Int) (by omega) (by omega) (by rw [hz2]; omega) (by omega)
    rw [hz1, Nat.mul_one] at h
    exact h
  · have h := run_convert_bytes_back (P := Try.prog) (W.alloc (.cells (madeCells #[.int .u8 0] S) 5)) 56 9 5 ⟨W.heap.size, 0, none⟩ S (List.replicate S (0 : UInt8)) Try.underlying56 Try.underlying5 Try.underlying9 (fun j hj => by
      simp at hj
      have h := heap_alloc_new W (.cells (madeCells #[.int .u8 0] S) 5)
      have h2 : (madeCells #[.int .u8 0] S)[j]? = some (.int .u8 0) := made_at _ _ hj
      rw [addoff]
      simp only [World.cell?, h, Nat.zero_add]
      rw [List.getElem_replicate]
      simpa using h2)
    rwa [List.length_replicate] at h
theorem back_ds_no (w : World) (D : Nat) (L : List ByteArray) (A : Option Addr) (n c : Nat) (ls : List ByteArray) (W : World) (h : DS w D L W) (hn : ls.length = n) (bn : n ≤ 9223372036854775807) (hs : ∀ s ∈ ls, s.size ≤ 9223372036854775807) (ha : RdV W A (cellsS ls)) (hbad : longB ls = true ∨ 65536 < L.length + n) :
    Calls Try.prog 24 #[.pointer (some ⟨D, 0, none⟩), .slice A n c] W fun e w' => e = .returned (.int .i64 3) ∧ w' = W := by
  obtain ⟨⟨r, hd, hf⟩, hb⟩ := h
  exact back_no D r L A n c ls W hd hn bn hs ha hbad
theorem front_ds_no (w : World) (D : Nat) (L : List ByteArray) (A : Option Addr) (n c : Nat) (ls : List ByteArray) (W : World) (h : DS w D L W) (hn : ls.length = n) (bn : n ≤ 9223372036854775807) (hs : ∀ s ∈ ls, s.size ≤ 9223372036854775807) (ha : RdV W A (cellsS ls)) (hbad : longB ls = true ∨ 65536 < L.length + n) :
    Calls Try.prog 20 #[.pointer (some ⟨D, 0, none⟩), .slice A n c] W fun e w' => e = .returned (.int .i64 3) ∧ w' = W := by
  obtain ⟨⟨r, hd, hf⟩, hb⟩ := h
  exact front_no D r L A n c ls W hd hn bn hs ha hbad
theorem put_ds_long (w : World) (D : Nat) (L : List ByteArray) (a : Int) (t : ByteArray) (W : World) (h : DS w D L W) (ht : 1048576 < t.size) (hts : t.size ≤ 9223372036854775807) :
    Calls Try.prog 31 #[.pointer (some ⟨D, 0, none⟩), .int .i64 a, .string t] W fun e w' => e = .returned (.int .i64 3) ∧ w' = W := by
  obtain ⟨⟨r, hd, hf⟩, hb⟩ := h
  exact put_long D r L a t W hd ht hts
theorem long_of {s : ByteArray} {l : List ByteArray} (h : 1048576 < s.size) (hm : s ∈ l) : longB l = true := by
  cases hl : longB l
  · have := longB_no.1 hl s hm; omega
  · rfl
theorem drop_nil (a : Int) (t : ByteArray) (w : World) :
    Calls Try.prog 33 #[.pointer none, .int .i64 a, .string t] w fun e w' => e = .returned (.int .i64 0) ∧ Below w.heap.size w w' := by
  go_enter Try.func33, Try.ntmps33
  go_wp2_with fail
  refine (none_nil _).mono ?_
  rintro e w' ⟨rfl, rfl⟩
  go_wp2
  go_ret
  exact ⟨rfl, by repeat first | exact Below.refl _ _ | exact below_new _ _ | refine Below.alloc ?_ (by simp) _⟩
end Go.Proofs.Ytnnlfhdjakabmaa
