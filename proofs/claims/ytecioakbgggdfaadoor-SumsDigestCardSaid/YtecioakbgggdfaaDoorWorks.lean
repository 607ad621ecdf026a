/- The laws' known sums and digests come out as they should. -/
import Derived.Test.YtecioakbgggdfaaDoorKnown
import Derived.Test.YtecioakbgggdfaaDoorIs
import Derived.Lib.SlBytesConst
namespace Go.Proofs.YtecioakbgggdfaaDoor
open Go Go.RowKit
/-- What the package's tables hold. -/
def Laid (w : World) : Prop := Tabs w ∧ w.cell? ⟨3, 15, none⟩ = some (.int .u8 4) ∧ 3 < w.heap.size
theorem Laid.below {w w' : World} (h : Laid w) (hb : Below w.heap.size w w') : Laid w' :=
  ⟨h.1.below (by have := h.2.2; omega) hb, (hb.cell (p := ⟨3, 15, none⟩) h.2.2).trans h.2.1, Nat.lt_of_lt_of_le h.2.2 hb.size⟩
theorem rd_new (w : World) (l : List UInt8) (fr : Nat × Nat) : Rd (w.alloc (.cells (cellsB l).toArray 5 fr)) (some ⟨w.heap.size, 0, none⟩) l := by
  intro _
  refine ⟨w.heap.size, 0, rfl, by simp, fun j hj => ?_⟩
  rw [cell_of_row _ w.heap.size (0 + j) _ 5 fr (heap_alloc_new w _)]
  simp [cellsB, cellB, hj]
theorem rd_new4 (w : World) : Rd (w.alloc (.cells (row4 3421780262) 5)) (some ⟨w.heap.size, 0, none⟩) [38, 57, 244, 203] := rd_new w [38, 57, 244, 203] (0, 0)
theorem of4_known : ((of4 [38, 57, 244, 203] : Nat) : Int) = 3421780262 := by decide +kernel

set_option maxHeartbeats 1000000 in
theorem works_any (w : World) (h : Laid w) : Calls Tryd.prog 12 #[] w fun e w' => e = .returned (.bool true) ∧ Below w.heap.size w w' := by
  have kc := fun (w : World) (C : Array Value) (n c : Nat) => Lib.run_convert_bytes_const (P := Tryd.prog) w 22 5 C n c Tryd.underlying22 Tryd.underlying5
  have H := Lib.hid h
  clear h
  go_enter Tryd.func12, Tryd.ntmps12
  go_wp2_with fail
  -- the bytes of the first known text
  have hr0 : Rd (w.alloc (.cells (cellsB [49, 50, 51, 52, 53, 54, 55, 56, 57]).toArray 5 (9, 10))) (some ⟨w.heap.size, 0, none⟩) [49, 50, 51, 52, 53, 54, 55, 56, 57] := rd_new w _ _
  have hb0 : Below w.heap.size w (w.alloc (.cells (cellsB [49, 50, 51, 52, 53, 54, 55, 56, 57]).toArray 5 (9, 10))) := (Below.refl _ _).alloc (Nat.le_refl _) _
  have hl0 := H.out.below hb0
  have e0 : w.alloc (.cells #[.int .u8 49, .int .u8 50, .int .u8 51, .int .u8 52, .int .u8 53, .int .u8 54, .int .u8 55, .int .u8 56, .int .u8 57] 5 (9, 10)) = w.alloc (.cells (cellsB [49, 50, 51, 52, 53, 54, 55, 56, 57]).toArray 5 (9, 10)) := rfl
  rw [e0]
  clear e0
  generalize w.alloc (.cells (cellsB [49, 50, 51, 52, 53, 54, 55, 56, 57]).toArray 5 (9, 10)) = w0 at *
  refine (bytes_any 3421780262 w0 (by omega)).mono ?_
  rintro e w1 ⟨rfl, rfl⟩
  have hr1 : Rd (w0.alloc (.cells (row4 3421780262) 5)) (some ⟨w0.heap.size, 0, none⟩) [38, 57, 244, 203] := rd_new4 w0
  have hb1 : Below w0.heap.size w0 (w0.alloc (.cells (row4 3421780262) 5)) := (Below.refl _ _).alloc (Nat.le_refl _) _
  have hr0' := hr0.below hb1
  have hl1 := hl0.below hb1
  have hbw1 := hb0.trans (hb1.mono hb0.size)
  generalize w0.alloc (.cells (row4 3421780262) 5) = w1 at *
  clear hr0 hl0 hb1 hb0
  go_wp2_with fail
  refine (of_yes (some ⟨w0.heap.size, 0, none⟩) 4 [38, 57, 244, 203] w1 rfl hr1).mono ?_
  rintro e w2 ⟨rfl, m, rfl⟩
  rw [of4_known]
  have hr2 : Rd (w1.drewN m) (some ⟨w.heap.size, 0, none⟩) [49, 50, 51, 52, 53, 54, 55, 56, 57] := hr0'
  have hl2 : Laid (w1.drewN m) := hl1
  have hbw2 : Below w.heap.size w (w1.drewN m) := Below.drewN' hbw1 m
  generalize w1.drewN m = w2 at *
  clear hr0' hr1 hl1 hbw1
  go_wp2_with fail
  refine (crc_any (some ⟨w.heap.size, 0, none⟩) 9 [49, 50, 51, 52, 53, 54, 55, 56, 57] w2 (by simp) hr2 hl2.1 (by have := hl2.2.2; omega)).mono ?_
  rintro e w3 ⟨rfl, hb3⟩
  rw [crc_known]
  have hl3 := hl2.below hb3
  have hbw3 := hbw2.trans (hb3.mono hbw2.size)
  clear hr2 hl2 hbw2 hb3
  go_wp2_with (go_at_call 20; refine (num_any 0 _).mono ?_; rintro e w' ⟨rfl, rfl⟩)
  have hr4 : Rd (w3.alloc (.cells (cellsB [97, 98, 99]).toArray 5 (3, 4))) (some ⟨w3.heap.size, 0, none⟩) [97, 98, 99] := rd_new w3 _ _
  have hb4 : Below w3.heap.size w3 (w3.alloc (.cells (cellsB [97, 98, 99]).toArray 5 (3, 4))) := (Below.refl _ _).alloc (Nat.le_refl _) _
  have hl4 := hl3.below hb4
  have hbw4 := hbw3.trans (hb4.mono hbw3.size)
  have e4 : w3.alloc (.cells #[.int .u8 97, .int .u8 98, .int .u8 99] 5 (3, 4)) = w3.alloc (.cells (cellsB [97, 98, 99]).toArray 5 (3, 4)) := rfl
  rw [e4]
  clear e4
  generalize w3.alloc (.cells (cellsB [97, 98, 99]).toArray 5 (3, 4)) = w4 at *
  clear hl3 hbw3 hb4
  refine (digest_any (some ⟨w3.heap.size, 0, none⟩) 3 [97, 98, 99] w4 (by simp) hr4 hl4.2.1).mono ?_
  rintro e w5 ⟨rfl, hb5⟩
  rw [dig_abc]
  have hl5 := hl4.below hb5
  have hbw5 := hbw4.trans (hb5.mono hbw4.size)
  clear hr4 hl4 hbw4 hb5
  go_wp2_with fail
  refine (digest_any none 0 [] w5 (by simp) (fun h => absurd h (by simp)) hl5.2.1).mono ?_
  rintro e w6 ⟨rfl, hb6⟩
  have hbw6 := hbw5.trans (hb6.mono hbw5.size)
  have hlen : (⟨(digS []).toArray⟩ : ByteArray).size ≤ maxLen := by
    show (digS []).toArray.size ≤ maxLen
    rw [List.size_toArray, digS, hexS_len]; decide
  have hdig : isDig (⟨(digS []).toArray⟩ : ByteArray).data.toList = true := dig_nil
  clear hl5 hbw5 hb6
  generalize (⟨(digS []).toArray⟩ : ByteArray) = str at *
  have HD := Lib.hid hdig
  clear hdig
  go_wp2_with fail
  refine (is_any str w6 hlen).mono ?_
  rintro e w7 ⟨rfl, rfl⟩
  rw [HD.out]
  go_wp2
  go_ret
  exact ⟨rfl, hbw6⟩
end Go.Proofs.YtecioakbgggdfaaDoor
