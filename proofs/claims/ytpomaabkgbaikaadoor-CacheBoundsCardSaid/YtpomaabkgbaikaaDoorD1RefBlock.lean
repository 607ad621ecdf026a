/- The reference's block of a state: the same plain function as the program's. -/
import Derived.Test.YtpomaabkgbaikaaDoorD1RefText
import Derived.Deep.CutRange
import Derived.Deep.RegionHeld3
import Derived.Deep.AppendLies
import Derived.Deep.RegionLaw
import Derived.Deep.RegionLawGrows
import Derived.BigRegion
import Derived.Deep.QuietTactic
import Derived.BigQuiet
namespace Go.Proofs.YtpomaabkgbaikaaDoor.Dg
open Go Go.RowKit
def cellsW (p : List Nat) : List Value := p.map fun n : Nat => Value.int .u64 (n : Int)
set_option maxRecDepth 100000 in
theorem cellsW_snoc (p : List Nat) (n : Nat) : cellsW (p ++ [n]) = cellsW p ++ [.int .u64 n] := by simp [cellsW]
set_option maxRecDepth 100000 in
theorem u64_info : (Tryd.prog.info? 104).map (fun i => (i.zero, i.size, i.bytes)) = some (some (.int .u64 0), 1, 8) := by kernel_rfl
set_option maxRecDepth 100000 in
theorem ownW_shape {w : World} {base n : Nat} {v : Value} {xs : List Value} (hn : 0 < n) (h : w.ownsRow base 104 1 v n xs) : ∃ g cap, v = .slice (some ⟨g, 0, none⟩) n cap ∧ g < w.heap.size := by
  have hlt := h.lt
  rcases h.2 with ⟨_, h0⟩ | ⟨g, cap, cur, rfl, _⟩
  · omega
  · exact ⟨_, _, rfl, (hlt g rfl).2⟩
set_option maxRecDepth 100000 in
theorem ownW_cell {w : World} {base n g cap : Nat} {p : List Nat} (h : w.ownsRow base 104 1 (.slice (some ⟨g, 0, none⟩) n cap) n (cellsW p)) (j : Nat) (hj : j < p.length) : w.cell? ⟨g, j, none⟩ = some (.int .u64 p[j]) := by
  have := h.cells (g := g) rfl j (.int .u64 p[j]) (by simp [cellsW, hj])
  rw [add0] at this
  exact this
set_option maxRecDepth 100000 in
theorem word64 (a b c d : Nat) (ha : a < 256) (hb : b < 256) (hc : c < 256) (hd : d < 256) :
    bits .or .u64 (bits .or .u64 (bits .or .u64 ((a : Int) * 16777216) ((b : Int) * 65536)) ((c : Int) * 256)) (d : Int) = ((((a * 16777216 ||| b * 65536) ||| c * 256) ||| d : Nat) : Int) := by
  have h1 : a * 16777216 ||| b * 65536 < 4294967296 := or_lt _ _ (by omega) (by omega)
  have h2 : (a * 16777216 ||| b * 65536) ||| c * 256 < 4294967296 := or_lt _ _ h1 (by omega)
  rw [show ((a : Int) * 16777216) = ((a * 16777216 : Nat) : Int) from by omega, show ((b : Int) * 65536) = ((b * 65536 : Nat) : Int) from by omega, u64_or_nat _ _ (by omega) (by omega), show ((c : Int) * 256) = ((c * 256 : Nat) : Int) from by omega, u64_or_nat _ _ (by omega) (by omega), u64_or_nat _ _ (by omega) (by omega)]
set_option maxRecDepth 100000 in
theorem xor64_4 (a b c d : Nat) (ha : a < 4294967296) (hb : b < 4294967296) (hc : c < 4294967296) (hd : d < 4294967296) :
    bits .xor .u64 (bits .xor .u64 (bits .xor .u64 (a : Int) (b : Int)) (c : Int)) (d : Int) = ((((a ^^^ b) ^^^ c) ^^^ d : Nat) : Int) := by
  have h1 := xor_lt _ _ ha hb
  have h2 := xor_lt _ _ h1 hc
  rw [u64_xor_nat _ _ (by omega) (by omega), u64_xor_nat _ _ (by omega) (by omega), u64_xor_nat _ _ (by omega) (by omega)]
set_option maxRecDepth 100000 in
theorem ownW_nil (w : World) (base : Nat) : w.ownsRow base 104 1 (.slice none 0 0) 0 (cellsW []) := ⟨rfl, .inl ⟨rfl, rfl⟩⟩

set_option maxRecDepth 100000 in
theorem res31 (tmps : Array Value) (w : World) (g : Nat) (cs : Array Value) (hp : tmps.getD 4 undef = .pointer (some ⟨g, 0, none⟩)) (hg : w.heap[g]? = some (.cells cs 90 (0, 0))) (hs : cs.size = 5 := by rfl) :
    (results Tryd.f54 tmps).run Tryd.prog w = .ok (.agg cs) w :=
  results_cell_row (P := Tryd.prog) (p := 4) (ty := 90) Tryd.results54 tmps w g 90 cs (0, 0) _ hp hg Tryd.underlying90 rfl (by rw [size36, hs])
set_option maxRecDepth 100000 in
theorem mixOf_lt (i b c d : Nat) (hb : b < 4294967296) (hc : c < 4294967296) (hd : d < 4294967296) : mixOf i b c d < 4294967296 := by
  unfold mixOf
  split
  · exact mixA_lt b c d hb
  · exact mixB_lt b c d hb hc hd
  · exact mixC_lt b c d hb hc
  · exact mixB_lt b c d hb hc hd
set_option maxRecDepth 100000 in
theorem addOf_lt (i : Nat) : addOf i < 4294967296 := by
  unfold addOf
  split <;> omega
set_option maxRecDepth 100000 in
theorem mask_bits (n : Nat) (h : n < 18446744073709551616) : bits .and .u64 (n : Int) 4294967295 = ((n % 4294967296 : Nat) : Int) := by
  rw [show (4294967295 : Int) = ((4294967295 : Nat) : Int) from rfl, u64_and_nat _ _ h (by omega), mask_nat]
def noughtS : St := ⟨0, 0, 0, 0, 0⟩
def rowR (s : St) : Obj := .cells #[.int .u32 s.a, .int .u32 s.b, .int .u32 s.c, .int .u32 s.d, .int .u32 s.e] 90
set_option maxRecDepth 10000 in
set_option maxHeartbeats 16000000 in
theorem rblock_any (s0 : St) (A : Option Addr) (c : Nat) (l : List UInt8) (w : World) (hs : s0.ok) (hl : l.length = 64) (hr : Rd w A l) :
    Calls Tryd.prog 54 #[.agg #[.int .u32 s0.a, .int .u32 s0.b, .int .u32 s0.c, .int .u32 s0.d, .int .u32 s0.e], .slice A 64 c] w fun e w' => e = .returned (.agg (blockS l s0).row) ∧ Below w.heap.size w w' := by
  obtain ⟨b, off, rfl, hbb, hcell⟩ := hr (by omega)
  have hcell' : ∀ j, j < 64 → w.cell? ⟨b, off + j, none⟩ = some (.int .u8 (byt l j)) := by
    intro j hj
    rw [hcell j (by omega)]
    simp [byt, List.getD, List.getElem?_eq_getElem (show j < l.length by omega)]
  clear hcell hr
  obtain ⟨i0, hi, hz0, hz1, hz2⟩ := info_parts u64_info
  have HC := Lib.hid hcell'
  have HS := Lib.hid hs
  clear hcell' hs hl
  go_enter Tryd.func54, Tryd.ntmps54
  go_wp2_with fail
  have hw0 : (w.alloc (.cells #[.int .u32 s0.a, .int .u32 s0.b, .int .u32 s0.c, .int .u32 s0.d, .int .u32 s0.e] 90)).alloc (.cells #[.int .u32 0, .int .u32 0, .int .u32 0, .int .u32 0, .int .u32 0] 90) = (w.alloc (.cells s0.row 90)).alloc (.cells noughtS.row 90) := rfl
  rw [hw0]
  clear hw0
  have hbox : ((w.alloc (.cells s0.row 90)).alloc (.cells noughtS.row 90)).heap[w.heap.size]? = some (.cells s0.row 90 (0, 0)) := heap_alloc2_old _ _ _
  have hres : ((w.alloc (.cells s0.row 90)).alloc (.cells noughtS.row 90)).heap[w.heap.size + 1]? = some (.cells noughtS.row 90 (0, 0)) := heap_alloc2_new _ _ _
  have hbW : Below w.heap.size w ((w.alloc (.cells s0.row 90)).alloc (.cells noughtS.row 90)) := Below.two w _ _
  have hsz0 : ((w.alloc (.cells s0.row 90)).alloc (.cells noughtS.row 90)).heap.size = w.heap.size + 2 := by simp
  generalize (w.alloc (.cells s0.row 90)).alloc (.cells noughtS.row 90) = w0 at *
  have HB := Lib.hid hbox
  have HR := Lib.hid hres
  have HZ := Lib.hid hsz0
  clear hbox hres hsz0
  go_loopw [5, 6] (fun v i wr => ∃ (k : Nat) (D : Option Addr) (cap : Nat), k ≤ 16 ∧ i = .int .i64 k ∧ v = .slice D k cap ∧ Hid (wr.ownsRow w0.heap.size 104 1 v k (cellsW (sch l k))) ∧ Below w0.heap.size w0 wr) (fun _ i _ => 16 - (intOf i).toNat)
  case atStart => exact ⟨0, none, 0, by omega, rfl, rfl, ownW_nil w0 _, Below.refl _ _⟩
  case round =>
    obtain ⟨k, D, cap, hk, rfl, rfl, HO, hbel⟩ := hrel
    by_cases hlt : k < 16
    · have hb0 : byt l (4 * k) < 256 := byt_lt _ _
      have hb1 : byt l (4 * k + 1) < 256 := byt_lt _ _
      have hb2 : byt l (4 * k + 2) < 256 := byt_lt _ _
      have hb3 : byt l (4 * k + 3) < 256 := byt_lt _ _
      have hwb : Below w.heap.size w wr := hbW.trans (hbel.mono hbW.size)
      have hc0 : wr.cell? ⟨b, off + 4 * k, none⟩ = some (.int .u8 (byt l (4 * k))) := (hwb.cell (p := ⟨b, off + 4 * k, none⟩) hbb).trans (HC.out (4 * k) (by omega))
      have hc1 : wr.cell? ⟨b, off + (4 * k + 1), none⟩ = some (.int .u8 (byt l (4 * k + 1))) := (hwb.cell (p := ⟨b, off + (4 * k + 1), none⟩) hbb).trans (HC.out (4 * k + 1) (by omega))
      have hc2 : wr.cell? ⟨b, off + (4 * k + 2), none⟩ = some (.int .u8 (byt l (4 * k + 2))) := (hwb.cell (p := ⟨b, off + (4 * k + 2), none⟩) hbb).trans (HC.out (4 * k + 2) (by omega))
      have hc3 : wr.cell? ⟨b, off + (4 * k + 3), none⟩ = some (.int .u8 (byt l (4 * k + 3))) := (hwb.cell (p := ⟨b, off + (4 * k + 3), none⟩) hbb).trans (HC.out (4 * k + 3) (by omega))
      have hx := word64 _ _ _ _ hb0 hb1 hb2 hb3
      have HW : Hid (((byt l (4 * k) * 16777216 ||| byt l (4 * k + 1) * 65536) ||| byt l (4 * k + 2) * 256) ||| byt l (4 * k + 3) = word l k) := rfl
      have hlt32 : ((byt l (4 * k) * 16777216 ||| byt l (4 * k + 1) * 65536) ||| byt l (4 * k + 2) * 256) ||| byt l (4 * k + 3) < 4294967296 := word_lt l k
      generalize ((byt l (4 * k) * 16777216 ||| byt l (4 * k + 1) * 65536) ||| byt l (4 * k + 2) * 256) ||| byt l (4 * k + 3) = x at *
      generalize byt l (4 * k) = x0 at *
      generalize byt l (4 * k + 1) = x1 at *
      generalize byt l (4 * k + 2) = x2 at *
      generalize byt l (4 * k + 3) = x3 at *
      go_wp2_with fail
      have i0a : (0 : Int) ≤ 4 * (k : Int) := by omega
      have i0b : 4 * (k : Int) < 64 := by omega
      have i1b : 4 * (k : Int) + 1 < 64 := by omega
      have i2b : 4 * (k : Int) + 2 < 64 := by omega
      have i3b : 4 * (k : Int) + 3 < 64 := by omega
      have wr0 : IntKind.i64.wrap (4 * (k : Int)) = 4 * (k : Int) := IntWalk.i64_in _ (by omega)
      have wr1 : IntKind.i64.wrap (4 * (k : Int) + 1) = 4 * (k : Int) + 1 := IntWalk.i64_in _ (by omega)
      have wr2 : IntKind.i64.wrap (4 * (k : Int) + 2) = 4 * (k : Int) + 2 := IntWalk.i64_in _ (by omega)
      have wr3 : IntKind.i64.wrap (4 * (k : Int) + 3) = 4 * (k : Int) + 3 := IntWalk.i64_in _ (by omega)
      have n0 : (4 * (k : Int)).toNat = 4 * k := by omega
      have n1 : (4 * (k : Int) + 1).toNat = 4 * k + 1 := by omega
      have n2 : (4 * (k : Int) + 2).toNat = 4 * k + 2 := by omega
      have n3 : (4 * (k : Int) + 3).toNat = 4 * k + 3 := by omega
      have i1a : (0 : Int) ≤ 4 * (k : Int) + 1 := by omega
      have i2a : (0 : Int) ≤ 4 * (k : Int) + 2 := by omega
      have i3a : (0 : Int) ≤ 4 * (k : Int) + 3 := by omega
      have hbb0 : b < w0.heap.size := Nat.lt_of_lt_of_le hbb hbW.size
      have HSZ := Lib.hid hbel.size
      have hu0 : IntKind.u64.wrap (x0 : Int) = x0 := IntWalk.u64_in _ (by omega)
      have hu1 : IntKind.u64.wrap (x1 : Int) = x1 := IntWalk.u64_in _ (by omega)
      have hu2 : IntKind.u64.wrap (x2 : Int) = x2 := IntWalk.u64_in _ (by omega)
      have hu3 : IntKind.u64.wrap (x3 : Int) = x3 := IntWalk.u64_in _ (by omega)
      have hv0 : IntKind.u64.wrap ((x0 : Int) * 16777216) = x0 * 16777216 := IntWalk.u64_in _ (by omega)
      have hv1 : IntKind.u64.wrap ((x1 : Int) * 65536) = x1 * 65536 := IntWalk.u64_in _ (by omega)
      have hv2 : IntKind.u64.wrap ((x2 : Int) * 256) = x2 * 256 := IntWalk.u64_in _ (by omega)
      go_region_held3 (fun w' => w'.cell? ⟨b, off + 4 * k, none⟩ = some (.int .u8 x0) ∧ w'.cell? ⟨b, off + (4 * k + 1), none⟩ = some (.int .u8 x1) ∧ w'.cell? ⟨b, off + (4 * k + 2), none⟩ = some (.int .u8 x2) ∧ w'.cell? ⟨b, off + (4 * k + 3), none⟩ = some (.int .u8 x3))
        (first
          | go_keep
          | exact hkeep)
        (first
          | (refine step_append_lies _ (by rfl) _ _ _ (by rfl) w0.heap.size 104 i0 _ 1 8 Tryd.underlying105 hi hz0 hz1 hz2 rfl (by omega) (.slice D k cap) k (cellsW (sch l k)) (by rfl) ((HO.out.alloc _).drew) ⟨wr.heap.size, 0, none⟩ 1 1 [.int .u64 x] (by rfl) (by rfl) (World.news_of_block (cs := #[.int .u64 x]) (t := 104) (fr := (0, 0)) (show (wr.alloc (.cells #[.int .u64 x] 104)).drew.heap[wr.heap.size]? = _ from heap_alloc_new wr _)) (by simp [Value.oneCell']) (by omega) (by simp only [maxLen]; omega) (by omega) (by have := HSZ.out; simp; omega) (wr.heap.size + 1) (by simp) ?_
             intro g1 c1 w1 hown1 hg1 hat hlt1
             have hbw1 : Below w0.heap.size w0 w1 := ((hbel.alloc hbel.size (.cells #[.int .u64 x] 104)).drew).grown hg1 (by have := hbel.size; simp; omega) (fun k hk => (HO.out.lt k hk).1)
             have hkeep : w1.cell? ⟨b, off + 4 * k, none⟩ = some (.int .u8 x0) ∧ w1.cell? ⟨b, off + (4 * k + 1), none⟩ = some (.int .u8 x1) ∧ w1.cell? ⟨b, off + (4 * k + 2), none⟩ = some (.int .u8 x2) ∧ w1.cell? ⟨b, off + (4 * k + 3), none⟩ = some (.int .u8 x3) := by
               have hb1 : Below w.heap.size w w1 := hbW.trans (hbw1.mono hbW.size)
               have e : ∀ j, w1.cell? ⟨b, off + j, none⟩ = w.cell? ⟨b, off + j, none⟩ := fun j => hb1.cell (p := ⟨b, off + j, none⟩) hbb
               have e' : ∀ j, wr.cell? ⟨b, off + j, none⟩ = w.cell? ⟨b, off + j, none⟩ := fun j => hwb.cell (p := ⟨b, off + j, none⟩) hbb
               exact ⟨by rw [e, ← e']; exact hc0, by rw [e, ← e']; exact hc1, by rw [e, ← e']; exact hc2, by rw [e, ← e']; exact hc3⟩
             have hown1' : w1.ownsRow w0.heap.size 104 1 (.slice (some ⟨g1, 0, none⟩) (k + 1) c1) (k + 1) (cellsW (sch l (k + 1))) := by
               rw [sch, if_pos hlt, cellsW_snoc, ← HW.out]; exact hown1))
      go_wp2
      go_roundw
      case rel => exact ⟨k + 1, some ⟨g1, 0, none⟩, c1, by omega, by go_num, rfl, hown1', hbw1⟩
      case measure => simp [intOf]; omega
    · obtain rfl : k = 16 := by omega
      obtain ⟨g, cg, hDg, hglt⟩ := ownW_shape (by omega) HO.out
      cases hDg
      obtain ⟨wo, hwo⟩ : ∃ wo : World, wo = wr := ⟨_, rfl⟩
      have HO' : Hid (wo.ownsRow w0.heap.size 104 1 (.slice (some ⟨g, 0, none⟩) 16 cap) 16 (cellsW (sch l 16))) := by rw [hwo]; exact HO
      have hbel' : Below w0.heap.size w0 wo := by rw [hwo]; exact hbel
      clear HO hbel hglt
      subst hwo
      go_wp2_with fail
      go_loopw [5, 7] (fun v i wr => ∃ (t g cap : Nat), 16 ≤ t ∧ t ≤ 80 ∧ i = .int .i64 t ∧ v = .slice (some ⟨g, 0, none⟩) t cap ∧ Hid (wr.ownsRow w0.heap.size 104 1 (.slice (some ⟨g, 0, none⟩) t cap) t (cellsW (sch l t))) ∧ Below w0.heap.size w0 wr) (fun _ i _ => 80 - (intOf i).toNat)
      case atStart => exact ⟨16, g, cap, by omega, by omega, rfl, rfl, HO', hbel'⟩
      case round =>
        clear HO' hbel'
        obtain ⟨t, g, cap, ht, ht', rfl, rfl, HO, hbel⟩ := hrel
        by_cases hlt2 : t < 80
        · obtain ⟨i3, e3⟩ : ∃ i : Nat, (t : Int) - 3 = i := ⟨t - 3, by omega⟩
          obtain ⟨i8, e8⟩ : ∃ i : Nat, (t : Int) - 8 = i := ⟨t - 8, by omega⟩
          obtain ⟨i14, e14⟩ : ∃ i : Nat, (t : Int) - 14 = i := ⟨t - 14, by omega⟩
          obtain ⟨i16, e16⟩ : ∃ i : Nat, (t : Int) - 16 = i := ⟨t - 16, by omega⟩
          have h3 : (i3 : Int) < (t : Int) := by omega
          have h8 : (i8 : Int) < (t : Int) := by omega
          have h14 : (i14 : Int) < (t : Int) := by omega
          have h16 : (i16 : Int) < (t : Int) := by omega
          have hcell : ∀ i j, i = t - j → 0 < j → j ≤ 16 → ∃ v : Nat, v = (sch l t).getD (t - j) 0 ∧ v < 4294967296 ∧ wr.cell? ⟨g, i, none⟩ = some (.int .u64 v) := by
            intro i j hi hj0 hj
            have hlen : i < (sch l t).length := by rw [sch_len]; omega
            exact ⟨(sch l t)[i], by rw [← hi, List.getD_eq_getElem?_getD, List.getElem?_eq_getElem hlen]; rfl, sch_lt l t _ (List.getElem_mem _), ownW_cell HO.out i hlen⟩
          obtain ⟨v3, hv3, l3, c3⟩ := hcell i3 3 (by omega) (by omega) (by omega)
          obtain ⟨v8, hv8, l8, c8⟩ := hcell i8 8 (by omega) (by omega) (by omega)
          obtain ⟨v14, hv14, l14, c14⟩ := hcell i14 14 (by omega) (by omega) (by omega)
          obtain ⟨v16, hv16, l16, c16⟩ := hcell i16 16 (by omega) (by omega) (by omega)
          have ex := xor64_4 v3 v8 v14 v16 l3 l8 l14 l16
          have lx : ((v3 ^^^ v8) ^^^ v14) ^^^ v16 < 4294967296 := xor_lt _ _ (xor_lt _ _ (xor_lt _ _ l3 l8) l14) l16
          have HX : Hid (rot 1 (((v3 ^^^ v8) ^^^ v14) ^^^ v16) = nextW (sch l t) t) := by rw [hv3, hv8, hv14, hv16]; rfl
          generalize ((v3 ^^^ v8) ^^^ v14) ^^^ v16 = x4 at *
          clear hcell hv3 hv8 hv14 hv16
          have HT1 := Lib.hid (fun w => turned1 x4 w lx)
          have hsz := Lib.hid hbel.size
          go_wp2_with fail
          have w3 : IntKind.i64.wrap (i3 : Int) = (i3 : Int) := IntWalk.i64_in _ (by omega)
          have w8 : IntKind.i64.wrap (i8 : Int) = (i8 : Int) := IntWalk.i64_in _ (by omega)
          have w14 : IntKind.i64.wrap (i14 : Int) = (i14 : Int) := IntWalk.i64_in _ (by omega)
          have w16 : IntKind.i64.wrap (i16 : Int) = (i16 : Int) := IntWalk.i64_in _ (by omega)
          go_region_law (first
            | (go_simp
               go_at_call 64
               refine (HT1.out _).mono ?_
               rintro e w4 ⟨rfl, m, hw4⟩
               rw [HX.out]
               have hown4 : w4.ownsRow w0.heap.size 104 1 (.slice (some ⟨g, 0, none⟩) t cap) t (cellsW (sch l t)) := by rw [hw4]; exact HO.out
               have hbel4 : Below w0.heap.size w0 w4 := by rw [hw4]; exact Below.drewN' hbel.drew m
               clear hw4
               have hsz4 := Lib.hid hbel4.size)
            | (refine step_append_lies _ (by rfl) _ _ _ (by rfl) w0.heap.size 104 i0 _ 1 8 Tryd.underlying105 hi hz0 hz1 hz2 rfl (by omega) (.slice (some ⟨g, 0, none⟩) t cap) t (cellsW (sch l t)) (by rfl) (hown4.alloc _) ⟨w4.heap.size, 0, none⟩ 1 1 [.int .u64 (nextW (sch l t) t)] (by rfl) (by rfl) (World.news_of_block (cs := #[.int .u64 (nextW (sch l t) t)]) (t := 104) (fr := (0, 0)) (heap_alloc_new w4 _)) (by simp [Value.oneCell']) (by omega) (by simp only [maxLen]; omega) (by omega) (by have := hsz4.out; simp; omega) (w4.heap.size + 1) (by simp) ?_
               intro g1 c1 w5 hown5 hg5 hat hlt5
               have hbel5 : Below w0.heap.size w0 w5 := (hbel4.alloc hbel4.size (.cells #[.int .u64 (nextW (sch l t) t)] 104)).grown hg5 (by have := hbel4.size; simp; omega) (fun k hk => (hown4.lt k hk).1)
               have hown5' : w5.ownsRow w0.heap.size 104 1 (.slice (some ⟨g1, 0, none⟩) (t + 1) c1) (t + 1) (cellsW (sch l (t + 1))) := by
                 rw [sch, if_neg (by omega), cellsW_snoc]; exact hown5))
          all_goals go_wp2
          all_goals go_roundw
          all_goals first
            | (simp [intOf]; omega; done)
            | ((repeat apply Exists.intro)
               exact ⟨⟨t + 1, _, _, by omega, by omega, by go_num, rfl, hown5', hbel5⟩, rfl⟩)
        · obtain rfl : t = 80 := by omega
          obtain ⟨wo, hwo⟩ : ∃ wo : World, wo = wr := ⟨_, rfl⟩
          have hbo : Below w0.heap.size w0 wo := by rw [hwo]; exact hbel
          have hcw : Hid (∀ j, j < 80 → wo.cell? ⟨g, j, none⟩ = some (.int .u64 (wAt l j : Nat))) := by
            intro j hj
            rw [hwo, ownW_cell HO.out j (by rw [sch_len]; exact hj)]
            simp [wAt, List.getD_eq_getElem?_getD, List.getElem?_eq_getElem (show j < (sch l 80).length by rw [sch_len]; exact hj)]
          have hwlt : Hid (∀ j, j < 80 → wAt l j < 4294967296) := by
            intro j hj
            have hlen : j < (sch l 80).length := by rw [sch_len]; exact hj
            simp only [wAt, List.getD_eq_getElem?_getD, List.getElem?_eq_getElem hlen]
            exact sch_lt l 80 _ (List.getElem_mem _)
          have hbx : Hid (wo.heap[w.heap.size]? = some (.cells s0.row 90 (0, 0))) := (hbo.block _ (by have := HZ.out; omega)).trans HB.out
          have hrs : Hid (wo.heap[w.heap.size + 1]? = some (.cells noughtS.row 90 (0, 0))) := (hbo.block _ (by have := HZ.out; omega)).trans HR.out
          have hbw : Below w.heap.size w wo := hbW.trans (hbo.mono hbW.size)
          clear HO hbel hlt2
          subst hwo
          clear ht ht'
          obtain ⟨y0, y1, y2, y3, y4⟩ := row36 wo _ _ hbx.out
          obtain ⟨z0, z1, z2, z3, z4⟩ := HS.out
          go_wp2_with fail
          go_quiet (fail)
          go_wp2_with fail
          have hv0 : IntKind.u64.wrap (s0.a : Int) = s0.a := IntWalk.u64_in _ (by omega)
          go_loopw [8, 9, 10, 11, 12, 13] (fun a b c d e i wr => ∃ (k : Nat) (s : St) (m : Nat), k ≤ 80 ∧ s.ok ∧ Hid (s = roundsS (wAt l) k s0) ∧ a = .int .u64 s.a ∧ b = .int .u64 s.b ∧ c = .int .u64 s.c ∧ d = .int .u64 s.d ∧ e = .int .u64 s.e ∧ i = .int .i64 k ∧ wr = wo.drewN m) (fun _ _ _ _ _ i _ => 80 - (intOf i).toNat)
          case atStart => exact ⟨0, s0, nq, by omega, HS.out, rfl, by go_num, by go_num, by go_num, by go_num, by go_num, rfl, rfl⟩
          case round =>
            clear hv0
            obtain ⟨k, s, m, hk, hok, HE, rfl, rfl, rfl, rfl, rfl, rfl, hwr⟩ := hrel
            have HWR := Lib.hid hwr
            by_cases hlt3 : k < 80
            · obtain ⟨ka, kb, kc, kd, ke⟩ := id hok
              have hm := Lib.hid hok
              clear hok
              have HRD := Lib.hid (fun W => round_any k s.b s.c s.d W hlt3 kb kc kd)
              have hc : wr.cell? ⟨g, k, none⟩ = some (.int .u64 (wAt l k : Nat)) := by rw [hwr]; exact hcw.out k hlt3
              clear hwr
              have hwl := hwlt.out k hlt3
              have HT := Lib.hid (stepS_ok (wAt l) k s hm.out)
              have HEQ : Hid (stepS (wAt l) k s = roundsS (wAt l) (k + 1) s0) := by rw [HE.out]; rfl
              obtain ⟨r5, hr5⟩ : ∃ r, r = rot 5 s.a := ⟨_, rfl⟩
              obtain ⟨f, hf⟩ : ∃ r, r = mixOf (k / 20) s.b s.c s.d := ⟨_, rfl⟩
              obtain ⟨q, hq⟩ : ∃ r, r = addOf (k / 20) := ⟨_, rfl⟩
              obtain ⟨x, hx⟩ : ∃ r, r = wAt l k := ⟨_, rfl⟩
              obtain ⟨r30, hr30⟩ : ∃ r, r = rot 30 s.b := ⟨_, rfl⟩
              have l5 : r5 < 4294967296 := by rw [hr5]; exact rot_lt 5 _ ka
              have l30 : r30 < 4294967296 := by rw [hr30]; exact rot_lt 30 _ kb
              have lf : f < 4294967296 := by rw [hf]; exact mixOf_lt _ _ _ _ kb kc kd
              have lq : q < 4294967296 := by rw [hq]; exact addOf_lt _
              have H5 : Hid (∀ W, Calls Tryd.prog 64 #[.int .u64 s.a, .int .i64 5] W fun e w' => e = .returned (.int .u64 r5) ∧ ∃ m, w' = W.drewN m) := by rw [hr5]; exact fun W => turned5 s.a W ka
              have H30 : Hid (∀ W, Calls Tryd.prog 64 #[.int .u64 s.b, .int .i64 30] W fun e w' => e = .returned (.int .u64 r30) ∧ ∃ m, w' = W.drewN m) := by rw [hr30]; exact fun W => turned30 s.b W kb
              obtain ⟨nx, hnx⟩ : ∃ n, n = (r5 + f + s.e + q + x) % 4294967296 := ⟨_, rfl⟩
              have HA : Hid (nx = (stepS (wAt l) k s).a) := by show nx = (rot 5 s.a + mixOf (k / 20) s.b s.c s.d + s.e + addOf (k / 20) + wAt l k) % 4294967296; rw [hnx, hr5, hf, hq, hx]
              have HB30 : Hid (r30 = (stepS (wAt l) k s).c) := hr30
              rw [← hf, ← hq] at HRD
              rw [← hx] at hc hwl
              have hmask := mask_bits (r5 + f + s.e + q + x) (by omega)
              rw [← hnx] at hmask
              have hnx32 : nx < 4294967296 := by rw [hnx]; exact Nat.mod_lt _ (by omega)
              have e1 : IntKind.u64.wrap ((r5 : Int) + (f : Int)) = (r5 : Int) + (f : Int) := IntWalk.u64_in _ (by omega)
              have e2 : IntKind.u64.wrap ((r5 : Int) + (f : Int) + (s.e : Int)) = (r5 : Int) + (f : Int) + (s.e : Int) := IntWalk.u64_in _ (by omega)
              have e3 : IntKind.u64.wrap ((r5 : Int) + (f : Int) + (s.e : Int) + (q : Int)) = (r5 : Int) + (f : Int) + (s.e : Int) + (q : Int) := IntWalk.u64_in _ (by omega)
              have e4 : IntKind.u64.wrap ((r5 : Int) + (f : Int) + (s.e : Int) + (q : Int) + (x : Int)) = (r5 : Int) + (f : Int) + (s.e : Int) + (q : Int) + (x : Int) := IntWalk.u64_in _ (by omega)
              have e5 : bits .and .u64 ((r5 : Int) + (f : Int) + (s.e : Int) + (q : Int) + (x : Int)) 4294967295 = (nx : Int) := by rw [← hmask]; push_cast; rfl
              have hk80 : (k : Int) < 80 := by omega
              have hk00 : (0 : Int) ≤ (k : Int) := by omega
              clear hr5 hf hq hx hr30 hnx hmask HE
              go_wp2_with (go_at_call 65; refine (HRD.out _).mono ?_; rintro e w' ⟨rfl, rfl⟩)
              go_quiet ((go_at_call 64; exact Calls.quiet_of (H5.out _)))
              go_wp2_with (go_at_call 64; refine (H30.out _).mono ?_; rintro e w' ⟨rfl, m2, rfl⟩)
              go_roundw
              case rel =>
                (repeat apply Exists.intro)
                refine ⟨⟨k + 1, stepS (wAt l) k s, m + nq + m2, by omega, HT.out, HEQ, congrArg (fun n : Nat => Value.int .u64 n) HA.out, rfl, congrArg (fun n : Nat => Value.int .u64 n) HB30.out, rfl, rfl, by go_num, ?_⟩, rfl⟩
                rw [HWR.out, World.drewN_drewN, Nat.add_assoc]
              case measure => simp [intOf]; omega
            · have hfin : Hid (blockS l s0 = addS s s0) := by
                obtain rfl : k = 80 := by omega
                rw [HE.out]; rfl
              obtain ⟨ka, kb, kc, kd, ke⟩ := hok
              obtain ⟨na, hna⟩ : ∃ n, n = (s.a + s0.a) % 4294967296 := ⟨_, rfl⟩
              have ma : na < 4294967296 := by rw [hna]; exact Nat.mod_lt _ (by omega)
              have wa : IntKind.u64.wrap ((s.a : Int) + (s0.a : Int)) = (s.a : Int) + (s0.a : Int) := IntWalk.u64_in _ (by omega)
              have aa : bits .and .u64 ((s.a : Int) + (s0.a : Int)) 4294967295 = (na : Int) := by rw [hna, ← mask_bits _ (by omega)]; push_cast; rfl
              obtain ⟨nb, hnb⟩ : ∃ n, n = (s.b + s0.b) % 4294967296 := ⟨_, rfl⟩
              have mb : nb < 4294967296 := by rw [hnb]; exact Nat.mod_lt _ (by omega)
              have wb : IntKind.u64.wrap ((s.b : Int) + (s0.b : Int)) = (s.b : Int) + (s0.b : Int) := IntWalk.u64_in _ (by omega)
              have ab : bits .and .u64 ((s.b : Int) + (s0.b : Int)) 4294967295 = (nb : Int) := by rw [hnb, ← mask_bits _ (by omega)]; push_cast; rfl
              obtain ⟨nc, hnc⟩ : ∃ n, n = (s.c + s0.c) % 4294967296 := ⟨_, rfl⟩
              have mc : nc < 4294967296 := by rw [hnc]; exact Nat.mod_lt _ (by omega)
              have wc : IntKind.u64.wrap ((s.c : Int) + (s0.c : Int)) = (s.c : Int) + (s0.c : Int) := IntWalk.u64_in _ (by omega)
              have ac : bits .and .u64 ((s.c : Int) + (s0.c : Int)) 4294967295 = (nc : Int) := by rw [hnc, ← mask_bits _ (by omega)]; push_cast; rfl
              obtain ⟨nd, hnd⟩ : ∃ n, n = (s.d + s0.d) % 4294967296 := ⟨_, rfl⟩
              have md : nd < 4294967296 := by rw [hnd]; exact Nat.mod_lt _ (by omega)
              have wd : IntKind.u64.wrap ((s.d : Int) + (s0.d : Int)) = (s.d : Int) + (s0.d : Int) := IntWalk.u64_in _ (by omega)
              have ad : bits .and .u64 ((s.d : Int) + (s0.d : Int)) 4294967295 = (nd : Int) := by rw [hnd, ← mask_bits _ (by omega)]; push_cast; rfl
              obtain ⟨ne, hne⟩ : ∃ n, n = (s.e + s0.e) % 4294967296 := ⟨_, rfl⟩
              have me : ne < 4294967296 := by rw [hne]; exact Nat.mod_lt _ (by omega)
              have we : IntKind.u64.wrap ((s.e : Int) + (s0.e : Int)) = (s.e : Int) + (s0.e : Int) := IntWalk.u64_in _ (by omega)
              have ae : bits .and .u64 ((s.e : Int) + (s0.e : Int)) 4294967295 = (ne : Int) := by rw [hne, ← mask_bits _ (by omega)]; push_cast; rfl
              have HT : Hid ((⟨na, nb, nc, nd, ne⟩ : St) = blockS l s0) := by rw [hfin.out, hna, hnb, hnc, hnd, hne]; rfl
              have hres1 : wr.heap[w.heap.size + 1]? = some (.cells noughtS.row 90 (0, 0)) := by rw [hwr]; exact hrs.out
              have hbw1 : Below w.heap.size w wr := by rw [hwr]; exact Below.drewN' hbw m
              have HR1 := Lib.hid hres1
              have x0 : wr.cell? ⟨w.heap.size, 0, none⟩ = some (.int .u32 s0.a) := by rw [hwr]; exact y0
              have x1 : wr.cell? ⟨w.heap.size, 1, none⟩ = some (.int .u32 s0.b) := by rw [hwr]; exact y1
              have x2 : wr.cell? ⟨w.heap.size, 2, none⟩ = some (.int .u32 s0.c) := by rw [hwr]; exact y2
              have x3 : wr.cell? ⟨w.heap.size, 3, none⟩ = some (.int .u32 s0.d) := by rw [hwr]; exact y3
              have x4 : wr.cell? ⟨w.heap.size, 4, none⟩ = some (.int .u32 s0.e) := by rw [hwr]; exact y4
              have hrow : Hid ((wr.setRow (w.heap.size + 1) (⟨na, nb, nc, nd, ne⟩ : St).row).heap[w.heap.size + 1]? = some (.cells (⟨na, nb, nc, nd, ne⟩ : St).row 90 (0, 0))) := setRow_heap wr _ _ _ 90 (0, 0) hres1
              have hbelow : Below w.heap.size w (wr.setRow (w.heap.size + 1) (⟨na, nb, nc, nd, ne⟩ : St).row) := below_setRow hbw1 (by omega) _
              clear hna hnb hnc hnd hne hfin HE hwr hres1 y0 y1 y2 y3 y4
              go_wp2_with (refine wpList_store_row rfl 90 (.tmp 4) (.tmp 170) rfl (w.heap.size + 1) (⟨na, nb, nc, nd, ne⟩ : St).row rfl rfl 90 _ HR1.out (size36r _) (row_sizes _ _) (row_one _) ?_)
              refine bodyPost_ret (v := .agg (⟨na, nb, nc, nd, ne⟩ : St).row) (res31 _ _ (w.heap.size + 1) _ rfl hrow.out) rfl ⟨?_, hbelow⟩
              rw [HT.out]
end Go.Proofs.YtpomaabkgbaikaaDoor.Dg
