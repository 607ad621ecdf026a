/- Padded bytes, as the program lays them: one plain function of the bytes. -/
import Derived.Test.YtpomaabkgbaikaaDoorD1Block
import Derived.Laws.CopyOwn
namespace Go.Proofs.YtpomaabkgbaikaaDoor.Dg
open Go Go.RowKit
def noughts (n : Nat) : Nat := (119 - n % 64) % 64
def padN (n : Nat) : Nat := n + 1 + noughts n + 8
set_option maxRecDepth 100000 in
theorem own_full {w : World} {base g n : Nat} {xs : List Value} (h : w.ownsRow base 5 1 (.slice (some ⟨g, 0, none⟩) n n) n xs) : w.heap[g]? = some (.cells xs.toArray 5 (0, 0)) := by
  rcases h.2 with ⟨h0, _⟩ | ⟨g', cap, cur, hv, _, hh, _, _, hs, ht⟩
  · cases h0
  · simp only [Value.slice.injEq, Option.some.injEq, Addr.mk.injEq] at hv
    obtain ⟨⟨rfl, _, _⟩, _, rfl⟩ := hv
    rw [hh]
    have : cur = xs.toArray := by
      rw [← ht, List.take_of_length_le (by simp [hs])]
    rw [this]
set_option maxRecDepth 100000 in
theorem made_zero (n : Nat) : (madeCells (Value.int .u8 0).cells (n * 1)).toList = cellsB (List.replicate n 0) := by
  apply List.ext_getElem
  · simp [size_madeCells, cellsB]
  · intro i h1 h2
    simp [madeCells, cellsB, cellB, Value.cells, Nat.mod_one]
/-- A block of bytes of the call's own. -/
def RowB (w : World) (g : Nat) (l : List UInt8) : Prop := w.heap[g]? = some (.cells (cellsB l).toArray 5 (0, 0))
set_option maxRecDepth 100000 in
theorem RowB.cell {w : World} {g : Nat} {l : List UInt8} (h : RowB w g l) (j : Nat) (hj : j < l.length) : w.cell? ⟨g, j, none⟩ = some (.int .u8 l[j].toNat) := by
  rw [cell_of_row w g j _ 5 (0, 0) h]
  simp [cellsB, cellB, hj]
set_option maxRecDepth 100000 in
theorem RowB.set {w : World} {g : Nat} {l : List UInt8} (h : RowB w g l) (j : Nat) (b : UInt8) : RowB (w.setCell ⟨g, j, none⟩ (.int .u8 b.toNat)) g (l.set j b) := by
  unfold RowB
  rw [heap_setCell_same w g j _ 5 _ h]
  simp [cellsB, cellB, List.map_set]

set_option maxRecDepth 100000 in
theorem rd_cells {w : World} {A : Option Addr} {l : List UInt8} (h : Rd w A l) (hl : 0 < l.length) : ∃ ad, A = some ad ∧ ∀ j v, (cellsB l)[j]? = some v → w.cell? (ad.add j) = some v := by
  obtain ⟨b, off, rfl, hlt, hc⟩ := h hl
  refine ⟨_, rfl, fun j v hv => ?_⟩
  obtain ⟨hj, he⟩ := List.getElem?_eq_some_iff.1 hv
  have hj' : j < l.length := by simpa [cellsB] using hj
  rw [addoff, hc j hj', ← he]
  simp [cellsB, cellB]
set_option maxRecDepth 100000 in
theorem row_at {w : World} {g : Nat} {l : List UInt8} (h : w.heap[g]? = some (.cells (cellsB (l ++ (List.replicate (padN l.length) (0 : UInt8)).drop l.length)).toArray 5 (0, 0))) : w.cell? ⟨g, l.length, none⟩ = some (.int .u8 0) := by
  have hr : RowB w g (l ++ (List.replicate (padN l.length) (0 : UInt8)).drop l.length) := h
  have hlen : l.length < (l ++ (List.replicate (padN l.length) (0 : UInt8)).drop l.length).length := by simp [padN]; omega
  rw [hr.cell l.length hlen]
  simp [List.getElem_append_right]
set_option maxRecDepth 100000 in
theorem splice_cells (r l : List UInt8) (h : l.length ≤ r.length) : splice (cellsB r) 0 (cellsB l) = cellsB (l ++ r.drop l.length) := by
  simp [splice, cellsB]
def beb (b j : Nat) : UInt8 := UInt8.ofNat (b / 256 ^ (7 - j) % 256)
def tl (b i : Nat) : List UInt8 := (List.range 8).map fun j => if 8 ≤ j + i then beb b j else 0
def padL (l : List UInt8) : List UInt8 := (l ++ 128 :: List.replicate (noughts l.length) 0) ++ tl (l.length * 8) 8
set_option maxRecDepth 100000 in
theorem tl_set (b i : Nat) (h : i < 8) : (tl b i).set (7 - i) (beb b (7 - i)) = tl b (i + 1) := by
  match i, h with
  | 0, _ => rfl
  | 1, _ => rfl
  | 2, _ => rfl
  | 3, _ => rfl
  | 4, _ => rfl
  | 5, _ => rfl
  | 6, _ => rfl
  | 7, _ => rfl
set_option maxRecDepth 100000 in
theorem base_len (l : List UInt8) : (l ++ 128 :: List.replicate (noughts l.length) 0).length + 8 = padN l.length := by simp [padN]; omega
set_option maxRecDepth 100000 in
theorem pad_start (l : List UInt8) : (l ++ (List.replicate (padN l.length) (0 : UInt8)).drop l.length).set l.length 128 = (l ++ 128 :: List.replicate (noughts l.length) 0) ++ tl (l.length * 8) 0 := by
  have h0 : tl (l.length * 8) 0 = List.replicate 8 0 := rfl
  rw [List.drop_replicate, List.set_append_right _ _ (Nat.le_refl _), Nat.sub_self, show padN l.length - l.length = (noughts l.length + 8) + 1 from by unfold padN; omega, List.replicate_succ, List.set_cons_zero, h0, List.append_assoc, List.cons_append, List.replicate_append_replicate]
set_option maxRecDepth 100000 in
theorem pad_step (l : List UInt8) (b i : Nat) (h : i < 8) (k : Nat) (hk : k = padN l.length - 1 - i) :
    ((l ++ 128 :: List.replicate (noughts l.length) 0) ++ tl b i).set k (beb b (7 - i)) = (l ++ 128 :: List.replicate (noughts l.length) 0) ++ tl b (i + 1) := by
  have hb := base_len l
  generalize (l ++ (128 : UInt8) :: List.replicate (noughts l.length) 0) = base at *
  have e : k - base.length = 7 - i := by omega
  rw [List.set_append_right _ _ (by omega), e, tl_set b i h]
set_option maxRecDepth 100000 in
theorem beb_nat (b i : Nat) (h : i < 8) : (beb b (7 - i)).toNat = b / 256 ^ i % 256 := by
  unfold beb
  rw [show 7 - (7 - i) = i from by omega]
  simp

set_option maxRecDepth 100000 in
theorem byte_at (n k : Nat) (h : k < 8) : ((n : Int) * 8 / 2 ^ (8 * k) % 256) = ((beb (n * 8) (7 - k)).toNat : Int) := by
  rw [beb_nat _ _ h, show (256 : Nat) ^ k = 2 ^ (8 * k) from by rw [Nat.pow_mul]]
  simp

set_option maxHeartbeats 1000000 in
set_option maxRecDepth 100000 in
theorem pad_any (A : Option Addr) (c : Nat) (l : List UInt8) (w : World) (hl : l.length ≤ 1000000) (hr : Rd w A l) :
    Calls Tryd.prog 58 #[.slice A l.length c] w fun e w' => e = .returned (.slice (some ⟨w.heap.size, 0, none⟩) (padN l.length) (padN l.length)) ∧ RowB w' w.heap.size (padL l) ∧ Below w.heap.size w w' := by
  obtain ⟨i0, hi, hz0, hz1, hz2⟩ := info_parts u8_info
  have hn0 : noughts l.length < 64 := Nat.mod_lt _ (by omega)
  have e1 : (119 - (l.length : Int) % 64) % 64 = (noughts l.length : Nat) := by unfold noughts; omega
  have hN : padN l.length = l.length + 1 + noughts l.length + 8 := rfl
  have HN := Lib.hid hN
  have hpn : padN l.length ≤ 1000100 := by omega
  have hpl : l.length < padN l.length := by omega
  have hp9 : 9 ≤ padN l.length := by omega
  clear hN
  have hsz : (Tryd.prog.info? 5).map (·.size) = some 1 := by kernel_rfl
  have HR := Lib.hid hr
  clear hr
  go_enter Tryd.func58, Tryd.ntmps58
  go_wp2_with (first
    | (at_make
       refine wpList_make_full _ rfl (.tmp 17) (.tmp 17) 52 rfl w.heap.size 5 i0 _ 1 Tryd.underlying52 hi hz0 hz1 .i64 .i64 _ _ (padN l.length) rfl rfl (by rw [HN.out]; omega) (by rw [HN.out]; omega) (by rw [hz2]; omega) (by unfold maxLen; omega) (Nat.le_refl _) ?_
       intro w1 hown1 hg1
       have hrow1 := own_full hown1
       rw [made_zero] at hrow1
       have hb1 : Below w.heap.size w w1 := (Below.refl w.heap.size w).grown hg1 (Nat.le_refl _) (by simp)
       have hsrc : 0 < (cellsB l).length → (some (⟨w.heap.size, 0, none⟩ : Addr)) = some ⟨w.heap.size, 0, none⟩ ∧ ∃ ad, A = some ad ∧ ∀ j v, (cellsB l)[j]? = some v → w1.cell? (ad.add j) = some v := (fun h => ⟨rfl, rd_cells (HR.out.below hb1) (by simpa [cellsB] using h)⟩)
       have HR1 := Lib.hid hrow1
       clear hrow1 hown1)
    | (refine wpList_copy_splice rfl (.tmp 19) (.tmp 20) 52 52 rfl 5 Tryd.underlying52 hsz (some ⟨w.heap.size, 0, none⟩) A (padN l.length) (padN l.length) l.length c rfl rfl w.heap.size 0 (cellsB (List.replicate (padN l.length) 0)) 5 HR1.out (cellsB l) (by simp [cellsB, Nat.min_eq_left (Nat.le_of_lt hpl)]) hsrc (by simp [cellsB]; omega) (cellsB_one l) w.heap.size w hb1 (Nat.le_refl _) ?_
       intro w2 hrow2 hb2
       rw [splice_cells _ _ (by simp; omega)] at hrow2
       have hc2 : w2.cell? ⟨w.heap.size, l.length, none⟩ = some (.int .u8 0) := row_at hrow2.out
       have hf2 : w2.frozen? ⟨w.heap.size, l.length, none⟩ = false := frozen_of_row w2 _ _ _ 5 hrow2.out))
  have hstart : RowB (w2.setCell ⟨w.heap.size, l.length, none⟩ (.int .u8 128)) w.heap.size ((l ++ 128 :: List.replicate (noughts l.length) 0) ++ tl (l.length * 8) 0) := by
    have hr2 : RowB w2 w.heap.size (l ++ (List.replicate (padN l.length) (0 : UInt8)).drop l.length) := hrow2.out
    rw [← pad_start]
    exact hr2.set l.length 128
  have HST := Lib.hid hstart
  clear hstart hsrc hc2 hf2
  go_loopw [30] (fun i wr => ∃ k : Nat, k ≤ 8 ∧ i = .int .i64 k ∧ Hid (RowB wr w.heap.size ((l ++ 128 :: List.replicate (noughts l.length) 0) ++ tl (l.length * 8) k)) ∧ Below w.heap.size w wr) (fun i _ => 8 - (intOf i).toNat)
  case atStart => exact ⟨0, by omega, rfl, HST, hb2.setCell (Nat.le_refl _) _⟩
  case round =>
    obtain ⟨k, hk, rfl, HRW, hbel⟩ := hrel
    by_cases hlt : k < 8
    · have hlen : ((l ++ 128 :: List.replicate (noughts l.length) 0) ++ tl (l.length * 8) k).length = padN l.length := by rw [List.length_append, ← base_len]; rfl
      have hc : ∃ v, wr.cell? ⟨w.heap.size, padN l.length - 1 - k, none⟩ = some v := ⟨_, HRW.out.cell (padN l.length - 1 - k) (by omega)⟩
      obtain ⟨v, hc⟩ := hc
      have hf : wr.frozen? ⟨w.heap.size, padN l.length - 1 - k, none⟩ = false := frozen_of_row wr _ _ _ 5 HRW.out
      clear hlen
      have HS := Lib.hid (pad_step l (l.length * 8) k hlt (padN l.length - 1 - k) rfl)
      have HV := Lib.hid (byte_at l.length k hlt)
      go_wp2
      go_roundw
      case rel =>
        rw [HV.out]
        refine ⟨k + 1, by omega, by go_num, ?_, hbel.setCell (Nat.le_refl _) _⟩
        have h := HRW.out.set (padN l.length - 1 - k) (beb (l.length * 8) (7 - k))
        rw [HS.out] at h
        exact h
      case measure => simp [intOf]; omega
    · have hk8 : Hid (RowB wr w.heap.size (padL l)) := by
        obtain rfl : k = 8 := by omega
        exact HRW
      go_wp2
      go_ret
      exact ⟨rfl, hk8.out, hbel⟩
end Go.Proofs.YtpomaabkgbaikaaDoor.Dg
