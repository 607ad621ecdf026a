/- A block's eighty numbers, as the program spreads them: one plain function of the block's bytes. -/
import Derived.Test.YtpomaabkgbaikaaDoorD1Sha
import Derived.StillTailTactics
import Derived.BigRegion
import Derived.Laws.Tables
namespace Go.Proofs.YtpomaabkgbaikaaDoor.Dg
open Go Go.RowKit
def byt (l : List UInt8) (i : Nat) : Nat := (l.getD i 0).toNat
set_option maxRecDepth 100000 in
theorem byt_lt (l : List UInt8) (i : Nat) : byt l i < 256 := (l.getD i 0).toNat_lt
def word (l : List UInt8) (t : Nat) : Nat := ((byt l (4 * t) * 16777216 ||| byt l (4 * t + 1) * 65536) ||| byt l (4 * t + 2) * 256) ||| byt l (4 * t + 3)
def nextW (p : List Nat) (n : Nat) : Nat := rot 1 (((p.getD (n - 3) 0 ^^^ p.getD (n - 8) 0) ^^^ p.getD (n - 14) 0) ^^^ p.getD (n - 16) 0)
def sch (l : List UInt8) : Nat → List Nat
  | 0 => []
  | n + 1 => sch l n ++ [if n < 16 then word l n else nextW (sch l n) n]
set_option maxRecDepth 100000 in
theorem sch_len (l : List UInt8) (n : Nat) : (sch l n).length = n := by
  induction n with
  | zero => rfl
  | succ n ih => simp [sch, ih]
set_option maxRecDepth 100000 in
theorem word_lt (l : List UInt8) (t : Nat) : word l t < 4294967296 := by
  have h0 := byt_lt l (4 * t)
  have h1 := byt_lt l (4 * t + 1)
  have h2 := byt_lt l (4 * t + 2)
  have h3 := byt_lt l (4 * t + 3)
  exact or_lt _ _ (or_lt _ _ (or_lt _ _ (by omega) (by omega)) (by omega)) (by omega)
set_option maxRecDepth 100000 in
theorem word_bits (a b c d : Nat) (ha : a < 256) (hb : b < 256) (hc : c < 256) (hd : d < 256) :
    bits .or .u32 (bits .or .u32 (bits .or .u32 ((a : Int) * 16777216) ((b : Int) * 65536)) ((c : Int) * 256)) (d : Int) = ((((a * 16777216 ||| b * 65536) ||| c * 256) ||| d : Nat) : Int) := by
  have h1 : a * 16777216 ||| b * 65536 < 4294967296 := or_lt _ _ (by omega) (by omega)
  have h2 : (a * 16777216 ||| b * 65536) ||| c * 256 < 4294967296 := or_lt _ _ h1 (by omega)
  rw [show ((a : Int) * 16777216) = ((a * 16777216 : Nat) : Int) from by omega, show ((b : Int) * 65536) = ((b * 65536 : Nat) : Int) from by omega, u32_or_nat _ _ (by omega) (by omega), show ((c : Int) * 256) = ((c * 256 : Nat) : Int) from by omega, u32_or_nat _ _ h1 (by omega), u32_or_nat _ _ h2 (by omega)]
/-- Block g holds eighty numbers, the first ones p. -/
def Eighty (w : World) (g : Nat) (p : List Nat) : Prop := ∃ cs, w.heap[g]? = some (.cells cs 110 (0, 0)) ∧ cs.size = 80 ∧ (∀ j (h : j < p.length), cs[j]? = some (.int .u32 p[j])) ∧ ∀ j, j < 80 → ∃ n : Nat, cs[j]? = some (.int .u32 n)

set_option maxRecDepth 100000 in
theorem xor4_bits (a b c d : Nat) (ha : a < 4294967296) (hb : b < 4294967296) (hc : c < 4294967296) (hd : d < 4294967296) :
    bits .xor .u32 (bits .xor .u32 (bits .xor .u32 (a : Int) (b : Int)) (c : Int)) (d : Int) = ((((a ^^^ b) ^^^ c) ^^^ d : Nat) : Int) := by
  rw [u32_xor_nat _ _ ha hb, u32_xor_nat _ _ (xor_lt _ _ ha hb) hc, u32_xor_nat _ _ (xor_lt _ _ (xor_lt _ _ ha hb) hc) hd]

set_option maxRecDepth 100000 in
theorem zero49 : Tryd.zeroCells110 = (List.replicate 80 (Value.int .u32 0)).toArray := by kernel_rfl
set_option maxRecDepth 100000 in
theorem size49 : (Tryd.prog.info? 110).map (·.size) = some 80 := by kernel_rfl
set_option maxRecDepth 100000 in
theorem sch_lt (l : List UInt8) (n : Nat) : ∀ v ∈ sch l n, v < 4294967296 := by
  induction n with
  | zero => intro v hv; cases hv
  | succ n ih =>
    intro v hv
    rw [sch] at hv
    rcases List.mem_append.1 hv with h | h
    · exact ih v h
    · obtain rfl := List.mem_singleton.1 h
      split
      · exact word_lt l n
      · have hd : ∀ i, (sch l n).getD i 0 < 4294967296 := by
          intro i
          rcases Nat.lt_or_ge i (sch l n).length with hi | hi
          · rw [List.getD_eq_getElem?_getD, List.getElem?_eq_getElem hi]; exact ih _ (List.getElem_mem _)
          · rw [List.getD_eq_getElem?_getD, List.getElem?_eq_none hi]; simp
        exact rot_lt _ _ (xor_lt _ _ (xor_lt _ _ (xor_lt _ _ (hd _) (hd _)) (hd _)) (hd _))
set_option maxRecDepth 100000 in
theorem Eighty.new (w : World) : Eighty ((w.alloc (.cells Tryd.zeroCells110 110)).alloc (.cells Tryd.zeroCells110 110)) (w.heap.size + 1) [] :=
  ⟨_, heap_alloc2_new _ _ _, by rw [zero49]; simp, fun j h => absurd h (by simp), fun j h => ⟨0, by rw [zero49, List.getElem?_toArray, List.getElem?_replicate, if_pos h]; rfl⟩⟩
set_option maxRecDepth 100000 in
theorem Eighty.push {w : World} {g : Nat} {p : List Nat} (h : Eighty w g p) (n t : Nat) (ht : t = p.length) (h80 : t < 80) : Eighty (w.setCell ⟨g, t, none⟩ (.int .u32 n)).drew g (p ++ [n]) := by
  subst ht
  obtain ⟨cs, hg, hsz, hpre, hall⟩ := h
  refine ⟨cs.setIfInBounds p.length (.int .u32 n), heap_setCell_same w g p.length cs 110 _ hg, by simpa using hsz, fun j hj => ?_, fun j hj => ?_⟩
  · rw [List.length_append] at hj
    rcases Nat.lt_or_ge j p.length with h | h
    · rw [Array.getElem?_setIfInBounds_ne (by omega), hpre j h]; simp [List.getElem_append_left h]
    · obtain rfl : j = p.length := by simp at hj; omega
      rw [Array.getElem?_setIfInBounds_self_of_lt (by omega)]; simp
  · by_cases he : p.length = j
    · subst he
      rw [Array.getElem?_setIfInBounds_self_of_lt (by omega)]; exact ⟨n, rfl⟩
    · rw [Array.getElem?_setIfInBounds_ne he]; exact hall j hj
set_option maxRecDepth 100000 in
theorem Eighty.full {w : World} {g : Nat} {p : List Nat} (h : Eighty w g p) (hp : p.length = 80) : w.heap[g]? = some (.cells (p.map u32v).toArray 110 (0, 0)) := by
  obtain ⟨cs, hg, hsz, hpre, hall⟩ := h
  rw [hg]
  have : cs = (p.map u32v).toArray := by
    apply Array.ext
    · simp [hsz, hp]
    · intro i h1 h2
      have := hpre i (by omega)
      rw [Array.getElem?_eq_getElem h1] at this
      simp [Option.some.inj this, u32v]
  rw [this]
set_option maxRecDepth 100000 in
theorem res37 (tmps : Array Value) (w : World) (g : Nat) (cs : Array Value) (hp : tmps.getD 2 undef = .pointer (some ⟨g, 0, none⟩)) (hg : w.heap[g]? = some (.cells cs 110 (0, 0))) (hs : cs.size = 80) :
    (results Tryd.f67 tmps).run Tryd.prog w = .ok (.agg cs) w :=
  results_cell_row (P := Tryd.prog) (p := 2) (ty := 110) Tryd.results67 tmps w g 110 cs (0, 0) _ hp hg Tryd.underlying110 rfl (by rw [size49, hs])

set_option maxHeartbeats 2000000 in
set_option maxRecDepth 100000 in
theorem spread_any (A : Option Addr) (c : Nat) (l : List UInt8) (w : World) (hl : l.length = 64) (hr : Rd w A l) :
    Calls Tryd.prog 67 #[.slice A 64 c] w fun e w' => e = .returned (.agg ((sch l 80).map u32v).toArray) ∧ Below w.heap.size w w' := by
  obtain ⟨b, off, rfl, hbb, hcell⟩ := hr (by omega)
  have hcell' : ∀ j, j < 64 → w.cell? ⟨b, off + j, none⟩ = some (.int .u8 (byt l j)) := by
    intro j hj
    rw [hcell j (by omega)]
    simp [byt, List.getD, List.getElem?_eq_getElem (show j < l.length by omega)]
  clear hcell hr
  have HL := Lib.hid hl
  clear hl
  have HC := Lib.hid hcell'
  clear hcell'
  go_enter Tryd.func67, Tryd.ntmps67
  go_wp2
  go_loopw [6] (fun i wr => ∃ k : Nat, k ≤ 16 ∧ i = .int .i64 k ∧ Eighty wr (w.heap.size + 1) (sch l k) ∧ wr.heap[w.heap.size]? = some (.cells Tryd.zeroCells110 110 (0, 0)) ∧ Below w.heap.size w wr) (fun i _ => 16 - (intOf i).toNat)
  case atStart => exact ⟨0, Nat.zero_le _, rfl, Eighty.new w, heap_alloc2_old _ _ _, ((Below.refl _ _).alloc (Nat.le_refl _) _).alloc (by simp) _⟩
  case round =>
    obtain ⟨k, hk, rfl, H80, hz, hbel⟩ := hrel
    by_cases hlt : k < 16
    · obtain ⟨cs, hg, hsz, hpre, hall⟩ := id H80
      have hb0 : byt l (4 * k) < 256 := byt_lt _ _
      have hb1 : byt l (4 * k + 1) < 256 := byt_lt _ _
      have hb2 : byt l (4 * k + 2) < 256 := byt_lt _ _
      have hb3 : byt l (4 * k + 3) < 256 := byt_lt _ _
      have hc0 : wr.cell? ⟨b, off + 4 * k, none⟩ = some (.int .u8 (byt l (4 * k))) := (hbel.cell (p := ⟨b, off + 4 * k, none⟩) hbb).trans (HC.out (4 * k) (by omega))
      have hc1 : wr.cell? ⟨b, off + (4 * k + 1), none⟩ = some (.int .u8 (byt l (4 * k + 1))) := (hbel.cell (p := ⟨b, off + (4 * k + 1), none⟩) hbb).trans (HC.out (4 * k + 1) (by omega))
      have hc2 : wr.cell? ⟨b, off + (4 * k + 2), none⟩ = some (.int .u8 (byt l (4 * k + 2))) := (hbel.cell (p := ⟨b, off + (4 * k + 2), none⟩) hbb).trans (HC.out (4 * k + 2) (by omega))
      have hc3 : wr.cell? ⟨b, off + (4 * k + 3), none⟩ = some (.int .u8 (byt l (4 * k + 3))) := (hbel.cell (p := ⟨b, off + (4 * k + 3), none⟩) hbb).trans (HC.out (4 * k + 3) (by omega))
      obtain ⟨old, hold⟩ := hall k (by omega)
      have hst : wr.cell? ⟨w.heap.size + 1, k, none⟩ = some (.int .u32 old) := (cell_of_row wr _ k cs 110 (0, 0) hg).trans hold
      have hfz : wr.frozen? ⟨w.heap.size + 1, k, none⟩ = false := frozen_of_row wr _ k cs 110 hg
      have HB := Lib.hid (word_bits _ _ _ _ hb0 hb1 hb2 hb3)
      have HH := Lib.hid H80
      have HZ := Lib.hid hz
      clear hg hz hpre hall hold hsz H80
      have HW : Hid (((byt l (4 * k) * 16777216 ||| byt l (4 * k + 1) * 65536) ||| byt l (4 * k + 2) * 256) ||| byt l (4 * k + 3) = word l k) := rfl
      generalize byt l (4 * k) = x0 at *
      generalize byt l (4 * k + 1) = x1 at *
      generalize byt l (4 * k + 2) = x2 at *
      generalize byt l (4 * k + 3) = x3 at *
      go_wp2
      go_region
      go_wp2
      go_roundw
      case rel =>
        rw [HB.out, HW.out]
        refine ⟨k + 1, by omega, by go_num, ?_, (heap_setCell_other _ _ _ _ (by simp)).trans HZ.out, (hbel.setCell (p := ⟨w.heap.size + 1, k, none⟩) (by simp) _).drew⟩
        have := HH.out.push (word l k) k (sch_len l k).symm (by omega)
        rwa [sch, if_pos hlt]
      case measure => simp [intOf]; omega
    · have HH : Hid (Eighty wr (w.heap.size + 1) (sch l 16)) := by
        obtain rfl : k = 16 := by omega
        exact H80
      have HZ := Lib.hid hz
      clear H80 hz
      go_wp2
      go_loopw [5] (fun i wr => ∃ t : Nat, 16 ≤ t ∧ t ≤ 80 ∧ i = .int .i64 t ∧ Eighty wr (w.heap.size + 1) (sch l t) ∧ wr.heap[w.heap.size]? = some (.cells Tryd.zeroCells110 110 (0, 0)) ∧ Below w.heap.size w wr) (fun i _ => 80 - (intOf i).toNat)
      case atStart => exact ⟨16, by omega, by omega, rfl, HH.out, HZ.out, hbel⟩
      case round =>
        clear HH HZ hbel hk
        obtain ⟨t, ht, ht', rfl, H80, hz, hbel⟩ := hrel
        by_cases hlt : t < 80
        · obtain ⟨cs, hg, hsz, hpre, hall⟩ := id H80
          obtain ⟨i3, e3⟩ : ∃ i : Nat, (t : Int) - 3 = i := ⟨t - 3, by omega⟩
          obtain ⟨i8, e8⟩ : ∃ i : Nat, (t : Int) - 8 = i := ⟨t - 8, by omega⟩
          obtain ⟨i14, e14⟩ : ∃ i : Nat, (t : Int) - 14 = i := ⟨t - 14, by omega⟩
          obtain ⟨i16, e16⟩ : ∃ i : Nat, (t : Int) - 16 = i := ⟨t - 16, by omega⟩
          have h3 : (i3 : Int) < 80 := by omega
          have h8 : (i8 : Int) < 80 := by omega
          have h14 : (i14 : Int) < 80 := by omega
          have h16 : (i16 : Int) < 80 := by omega
          obtain ⟨old, hold⟩ := hall t (by omega)
          have hst : wr.cell? ⟨w.heap.size + 1, t, none⟩ = some (.int .u32 old) := (cell_of_row wr _ t cs 110 (0, 0) hg).trans hold
          have hfz : wr.frozen? ⟨w.heap.size + 1, t, none⟩ = false := frozen_of_row wr _ t cs 110 hg
          have hcell : ∀ i j, i = t - j → 0 < j → j ≤ 16 → ∃ v : Nat, v = (sch l t).getD (t - j) 0 ∧ v < 4294967296 ∧ wr.cell? ⟨w.heap.size + 1, i, none⟩ = some (.int .u32 v) := by
            intro i j hi hj0 hj
            have hlen : i < (sch l t).length := by rw [sch_len]; omega
            refine ⟨(sch l t)[i], by rw [← hi, List.getD_eq_getElem?_getD, List.getElem?_eq_getElem hlen]; rfl, sch_lt l t _ (List.getElem_mem _), (cell_of_row wr _ i cs 110 (0, 0) hg).trans (hpre i hlen)⟩
          obtain ⟨v3, hv3, l3, c3⟩ := hcell i3 3 (by omega) (by omega) (by omega)
          obtain ⟨v8, hv8, l8, c8⟩ := hcell i8 8 (by omega) (by omega) (by omega)
          obtain ⟨v14, hv14, l14, c14⟩ := hcell i14 14 (by omega) (by omega) (by omega)
          obtain ⟨v16, hv16, l16, c16⟩ := hcell i16 16 (by omega) (by omega) (by omega)
          have ex := xor4_bits v3 v8 v14 v16 l3 l8 l14 l16
          have lx : ((v3 ^^^ v8) ^^^ v14) ^^^ v16 < 4294967296 := xor_lt _ _ (xor_lt _ _ (xor_lt _ _ l3 l8) l14) l16
          have HX : Hid (rot 1 (((v3 ^^^ v8) ^^^ v14) ^^^ v16) = nextW (sch l t) t) := by rw [hv3, hv8, hv14, hv16]; rfl
          generalize ((v3 ^^^ v8) ^^^ v14) ^^^ v16 = x4 at *
          have HH := Lib.hid H80
          have HZ := Lib.hid hz
          clear hcell hg hz hpre hall hold hsz hv3 hv8 hv14 hv16 H80
          go_wp2
          have w3 : IntKind.i64.wrap (i3 : Int) = (i3 : Int) := IntWalk.i64_in _ (by omega)
          have w8 : IntKind.i64.wrap (i8 : Int) = (i8 : Int) := IntWalk.i64_in _ (by omega)
          have w14 : IntKind.i64.wrap (i14 : Int) = (i14 : Int) := IntWalk.i64_in _ (by omega)
          have w16 : IntKind.i64.wrap (i16 : Int) = (i16 : Int) := IntWalk.i64_in _ (by omega)
          have ht80 : (t : Int) < 80 := by omega
          go_still_tail 22, (by kernel_rfl)
          still_call ((rot1_any x4 _ lx).mono fun _ _ ⟨a, b⟩ => ⟨a, b.symm⟩)
          repeat still_step
          refine wpStill_nil ?_
          change wpList _ _ _ _ _ wr.drew
          go_wp2
          go_roundw
          case rel =>
            rw [HX.out]
            refine ⟨t + 1, by omega, by omega, by go_num, ?_, (heap_setCell_other _ _ _ _ (by simp)).trans HZ.out, (hbel.setCell (p := ⟨w.heap.size + 1, t, none⟩) (by simp) _).drew⟩
            have := HH.out.push (nextW (sch l t) t) t (sch_len l t).symm (by omega)
            rwa [sch, if_neg (by omega)]
          case measure => simp [intOf]; omega
        · obtain rfl : t = 80 := by omega
          have hfull := H80.full (sch_len l 80)
          have hs80 : ((sch l 80).map u32v).toArray.size = 80 := by simp [sch_len]
          have h1 : ((sch l 80).map u32v).toArray.all (·.oneCell') = true := by simp [u32v, Value.oneCell']
          clear H80
          have hrow : (wr.setRow w.heap.size ((sch l 80).map u32v).toArray).heap[w.heap.size]? = some (.cells ((sch l 80).map u32v).toArray 110 (0, 0)) := setRow_heap wr _ _ _ 110 (0, 0) hz
          have hbel2 : Below w.heap.size w (wr.setRow w.heap.size ((sch l 80).map u32v).toArray) := hbel.trans ⟨rfl, rfl, rfl, by simp [World.setRow], fun k hk => by simp [World.setRow, Array.getElem?_modify, show w.heap.size ≠ k by omega]⟩
          generalize hcs : ((sch l 80).map u32v).toArray = cs at *
          have HCS := Lib.hid hcs
          clear hcs
          go_wp2_with (first
            | (refine wpList_load_row rfl 110 (.tmp 3) rfl (w.heap.size + 1) rfl 110 cs (0, 0) _ hfull Tryd.underlying110 rfl (by rw [size49, hs80]) ?_)
            | (refine wpList_store_row rfl 110 (.tmp 2) (.tmp 71) rfl w.heap.size cs rfl rfl 110 _ hz (by rw [size49, hs80]) (by rw [hs80, zero49]; simp) h1 ?_))
          exact bodyPost_ret (v := .agg cs) (res37 _ _ w.heap.size cs rfl hrow hs80) rfl ⟨by rw [HCS.out], hbel2⟩
end Go.Proofs.YtpomaabkgbaikaaDoor.Dg
