/- A state as forty digits, as the program writes it: one plain function of the state. -/
import Derived.Test.YtpomaabkgbaikaaDoorD1Hex
import Derived.Test.YtpomaabkgbaikaaDoorD1Block
import Derived.Lib.AppendStr
namespace Go.Proofs.YtpomaabkgbaikaaDoor.Dg
open Go Go.RowKit
/-- The digits of a state's first k numbers. -/
def hexS (s : St) : Nat → List UInt8
  | 0 => []
  | k + 1 => hexS s k ++ low (comp k s) 8
set_option maxRecDepth 100000 in
theorem hexS_len (s : St) (k : Nat) : (hexS s k).length = 8 * k := by
  induction k with
  | zero => rfl
  | succ k ih => simp [hexS, ih, low_len]; omega
set_option maxRecDepth 100000 in
theorem hx0 : hx 0 = 48 := rfl
set_option maxRecDepth 100000 in
theorem low_more (n j i : Nat) (h : n < 16 ^ j) : low n (j + i) = List.replicate i 48 ++ low n j := by
  induction i with
  | zero => simp
  | succ i ih =>
    have hz : n / 16 ^ (j + i) % 16 = 0 := by
      rw [Nat.div_eq_of_lt (Nat.lt_of_lt_of_le h (Nat.pow_le_pow_right (by omega) (by omega)))]
    rw [← Nat.add_assoc, low, hz, ih, hx0, List.replicate_succ, List.cons_append]
set_option maxRecDepth 100000 in
theorem str_cells (l : List UInt8) : Lib.strCells ⟨l.toArray⟩ = cellsB l := by simp [Lib.strCells, cellsB, cellB]
set_option maxRecDepth 100000 in
theorem comp_index (k : Nat) (hk : k < 5) (s : St) (W : World) :
    (Instr.index 90 (.agg #[.int .u32 s.a, .int .u32 s.b, .int .u32 s.c, .int .u32 s.d, .int .u32 s.e]) (.int .i64 (k : Int))).run Tryd.prog W = .ok (.int .u32 (comp k s)) W := by
  match k, hk with
  | 0, _ => rfl
  | 1, _ => rfl
  | 2, _ => rfl
  | 3, _ => rfl
  | 4, _ => rfl

set_option maxRecDepth 100000 in
theorem cellsB_app (a b : List UInt8) : cellsB (a ++ b) = cellsB a ++ cellsB b := by simp [cellsB]
set_option maxRecDepth 100000 in
theorem snoc48 (a : List UInt8) (m : Nat) : cellsB (a ++ List.replicate m 48) ++ [Value.int .u8 48] = cellsB (a ++ List.replicate (m + 1) 48) := by
  rw [List.replicate_succ', ← List.append_assoc, cellsB_app (a ++ List.replicate m 48)]; rfl
set_option maxRecDepth 100000 in
theorem own_conv {W : World} {base : Nat} {v : Value} {l : List UInt8} {n : Nat} (h : W.ownsRow base 5 1 v n (cellsB l)) : (convert 52 9 v).run Tryd.prog W = .ok (.string ⟨l.toArray⟩) W := by
  have hl := h.1
  rcases h.2 with ⟨rfl, rfl⟩ | ⟨g, cap, cur, rfl, _, _⟩
  · have : l = [] := by simpa [cellsB] using hl
    subst this
    exact conv_none W 0
  · have hn : l.length = n := by simpa [cellsB] using hl
    subst hn
    refine conv_some W g 0 cap l fun j hj => ?_
    have := h.cells (g := g) rfl j (.int .u8 l[j].toNat) (by simp [cellsB, cellB, hj])
    rw [add0] at this
    rw [Nat.zero_add]
    exact this

set_option maxHeartbeats 1000000 in
set_option maxRecDepth 100000 in
theorem text_any (s : St) (w : World) (hs : s.ok) (h : w.cell? ⟨2, 15, none⟩ = some (.int .u8 4)) :
    Calls Tryd.prog 60 #[.agg s.row] w fun e w' => e = .returned (.string ⟨(hexS s 5).toArray⟩) ∧ Below w.heap.size w w' := by
  obtain ⟨i0, hi, hz0, hz1, hz2⟩ := info_parts u8_info
  have hb3 : 2 < w.heap.size := block_lt_of_cell h
  unfold St.row
  go_enter Tryd.func60, Tryd.ntmps60
  go_wp2
  go_loopw [3, 8] (fun v i wr => ∃ k : Nat, k ≤ 5 ∧ i = .int .i64 k ∧ Hid (wr.ownsRow w.heap.size 5 1 v (8 * k) (cellsB (hexS s k))) ∧ Below w.heap.size w wr) (fun _ i _ => 5 - (intOf i).toNat)
  case atStart => exact ⟨0, by omega, rfl, World.ownsRow_nil _ _ _ _, (Below.refl _ _).alloc (Nat.le_refl _) _⟩
  case round =>
    obtain ⟨k, hk, rfl, HO, hbel⟩ := hrel
    by_cases hlt : k < 5
    · have hix := comp_index k hlt s
      have hc := comp_lt k s hs
      have h3 := (hbel.cell (p := ⟨2, 15, none⟩) hb3).trans h
      go_wp2_with fail
      refine (fu_any (comp k s) wr hc h3).mono ?_
      rintro e w2 ⟨⟨j, hj, hlow, rfl⟩, hb2⟩
      have hO2 : w2.ownsRow w.heap.size 5 1 u3 (8 * k) (cellsB (hexS s k)) := HO.out.kept (row := none) ⟨hb2.os, hb2.tape, hb2.output, hb2.size, fun i hi _ => hb2.block i hi⟩ (by cases u3.ownBlock <;> simp)
      have hbel2 : Below w.heap.size w w2 := hbel.trans (hb2.mono hbel.size)
      have hsz : (⟨(low (comp k s) (j + 1)).toArray⟩ : ByteArray).size = j + 1 := by show (low (comp k s) (j + 1)).toArray.size = j + 1; simp [low_len]
      have hcells : Lib.strCells ⟨(low (comp k s) (j + 1)).toArray⟩ = cellsB (low (comp k s) (j + 1)) := str_cells _
      have HLow : Hid (hexS s k ++ List.replicate (7 - j) 48 ++ low (comp k s) (j + 1) = hexS s (k + 1)) := by
        show _ = _
        have := low_more (comp k s) (j + 1) (7 - j) hlow
        rw [hexS, show 8 = j + 1 + (7 - j) from by omega, this, List.append_assoc]
      generalize (⟨(low (comp k s) (j + 1)).toArray⟩ : ByteArray) = str at *
      have HCS := Lib.hid hcells
      have hs1 : 1 ≤ str.size := by omega
      have hs8 : str.size ≤ 8 := by omega
      have HSZ := Lib.hid hsz
      have HO2 := Lib.hid hO2
      clear hsz hcells hO2 HO hix h3 hc hlow hbel hb2
      go_wp2
      obtain ⟨wo, rfl⟩ : ∃ wo : World, wo = w2 := ⟨_, rfl⟩
      go_loopw [3, 17] (fun v i wr => ∃ m : Nat, m + str.size ≤ 8 ∧ i = .int .i64 m ∧ Hid (wr.ownsRow w.heap.size 5 1 v (8 * k + m) (cellsB (hexS s k ++ List.replicate m 48))) ∧ Below w.heap.size w wr) (fun _ i _ => 8 - (intOf i).toNat)
      case atStart => exact ⟨0, by omega, rfl, by simpa using HO2, hbel2⟩
      case round =>
        clear HO2
        obtain ⟨m, hm, rfl, HO, hbel⟩ := hrel
        by_cases hmlt : m + str.size < 8
        · have hml : (m : Int) < 8 - (str.size : Int) := by omega
          go_wp2_with (at_builtin; go_must (refine wpList_append_own _ rfl (.tmp 19) (.tmp 20) _ rfl w.heap.size 5 i0 _ 1 1 Tryd.underlying52 hi hz0 hz1 hz2 rfl (by omega) _ (8 * k + m) (cellsB (hexS s k ++ List.replicate m 48)) rfl (HO.out.alloc _) ⟨wr.heap.size, 0, none⟩ 1 1 [.int .u8 48] rfl rfl (one_new wr _ _) (by simp [Value.oneCell']) (by simp only [maxLen]; omega) (by omega) (by have := hbel.size; simp; omega) ?_); intro v4 w4 hown4 hg4 _)
          have hbel4 : Below w.heap.size w w4 := (hbel.alloc hbel.size (.cells #[.int .u8 48] 5)).grown hg4 (by have := hbel.size; simp; omega) (fun k' hk' => (HO.out.lt k' hk').1)
          have HO4 := Lib.hid hown4
          clear hown4
          go_wp2
          go_roundw
          case rel => exact ⟨m + 1, by omega, by go_num, (by have h4 := HO4.out; rw [snoc48] at h4; exact h4), hbel4⟩
          case measure => simp [intOf]; omega
        · have hml : ¬ (m : Int) < 8 - (str.size : Int) := by omega
          have hmj : m = 7 - j := by have := HSZ.out; omega
          have HMJ := Lib.hid hmj
          have hOm : Hid (wr.ownsRow w.heap.size 5 1 u3 (8 * k + m) (cellsB (hexS s k ++ List.replicate (7 - j) 48))) := by rw [← hmj]; exact HO
          clear hmj HO
          go_wp2_with (at_builtin; go_must (refine Lib.wpList_append_own_string _ rfl (.tmp 23) (.tmp 24) 52 9 rfl w.heap.size 5 i0 Tryd.underlying52 Tryd.underlying9 hi hz0 hz1 hz2 _ (8 * k + m) (cellsB (hexS s k ++ List.replicate (7 - j) 48)) rfl hOm.out str rfl (by simp only [maxLen]; omega) (by omega) hbel.size ?_); intro v4 w4 hown4 hg4 _)
          have hbel4 : Below w.heap.size w w4 := hbel.grown hg4 hbel.size (fun k' hk' => (hOm.out.lt k' hk').1)
          have HO4 := Lib.hid hown4
          clear hown4
          go_wp2
          go_roundw
          case rel =>
            refine ⟨k + 1, by omega, by go_num, ?_, hbel4⟩
            have h4 := HO4.out
            rw [HCS.out, ← cellsB_app, HLow.out, show 8 * k + m + str.size = 8 * (k + 1) from by have := HSZ.out; have := HMJ.out; omega] at h4
            exact h4
          case measure => simp [intOf]; omega
    · obtain rfl : k = 5 := by omega
      have hA := own_conv HO.out
      clear HO
      go_wp2
      go_ret
      exact ⟨rfl, hbel⟩
end Go.Proofs.YtpomaabkgbaikaaDoor.Dg
