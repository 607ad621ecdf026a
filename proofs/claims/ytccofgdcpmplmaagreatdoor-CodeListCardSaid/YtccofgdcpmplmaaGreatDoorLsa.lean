/- The listing of the smallest program. -/
import Derived.Test.YtccofgdcpmplmaaGreatDoorLn
import Derived.Test.YtccofgdcpmplmaaGreatDoorChk
namespace Go.Proofs.YtccofgdcpmplmaaGreatDoor
open Go Go.RowKit Go.Shelf
abbrev p0 (A : Option Addr) (c : Nat) : Pr := ⟨0, 0, A, c, [⟨35, 0, 0, 0⟩]⟩
abbrev g0 (PA : Option Addr) (Pc : Nat) (A : Option Addr) (c : Nat) : Pg := ⟨PA, Pc, [p0 A c], none, 0, [], none, 0, []⟩
theorem g0_fine (PA : Option Addr) (Pc : Nat) (A : Option Addr) (c : Nat) : checkB (g0 PA Pc A c) = true := by rfl
theorem g0_fit (PA : Option Addr) (Pc : Nat) (A : Option Addr) (c : Nat) : (g0 PA Pc A c).fit := by
  have i0 : inI 0 := by unfold inI; omega
  have i35 : inI 35 := by unfold inI; omega
  refine ⟨(by simp), ?_, (by simp), (by simp), by simp, ?_⟩
  · intro p hp
    simp only [List.mem_singleton] at hp
    subst hp
    simp
  · intro p hp
    simp only [List.mem_singleton] at hp
    subst hp
    refine ⟨i0, i0, ?_⟩
    intro x hx
    simp only [List.mem_singleton] at hx
    subst hx
    exact ⟨i35, i0, i0, i0⟩
theorem dig0 : Lib.decDigits 0 = [48] := by rw [Lib.decDigits]; rfl
theorem dig3 : Lib.decDigits 3 = [51] := by rw [Lib.decDigits]; rfl
theorem dig35 : Lib.decDigits 35 = [51, 53] := by rw [Lib.decDigits, dif_neg (by decide)]; show Lib.decDigits 3 ++ _ = _; rw [dig3]; rfl
abbrev tF : ByteArray := ⟨#[102, 117, 110, 99]⟩
abbrev t0 : ByteArray := ⟨#[48]⟩
abbrev t35 : ByteArray := ⟨#[51, 53]⟩
theorem i0_any (W : World) : Calls Tryz.prog 15 #[.int .i64 0] W fun e w' => e = .returned (.string t0) ∧ w' = W := by
  have h := Tryz.strconv_Itoa_small 0 (by decide) W
  rw [dig0] at h
  exact h
theorem i35_any (W : World) : Calls Tryz.prog 15 #[.int .i64 35] W fun e w' => e = .returned (.string t35) ∧ w' = W := by
  have h := Tryz.strconv_Itoa_small 35 (by decide) W
  rw [dig35] at h
  exact h
abbrev l1 : List UInt8 := [102, 117, 110, 99, 32, 48, 32, 48, 10]
abbrev l2 : List UInt8 := [102, 117, 110, 99, 32, 48, 32, 48, 10, 51, 53, 32, 48, 32, 48, 32, 48, 10]
def txt : Nat → List UInt8
  | 0 => l1
  | _ => l2
def txt0 : Nat → List UInt8
  | 0 => []
  | _ => l2
theorem nthS (W : World) (l : List ByteArray) (j : Nat) (x : ByteArray) (h : l[j]? = some x) : (W.alloc (.cells (cellsS l).toArray 9)).cell? ⟨W.heap.size, 0 + j, none⟩ = some (.string x) := by
  rw [Lib.cell_of_heap (heap_alloc_new W _)]
  simp [cellsS, h]
abbrev oF : Obj := .cells #[.string tF, .string t0, .string t0] 9
abbrev oI : Obj := .cells #[.string t35, .string t0, .string t0, .string t0] 9
/-- The first line. -/
theorem lineF (b : Nat) (W W' : World) (h : Gr b [] W) (hb : Below (W.alloc oF).heap.size (W.alloc oF) W') : Calls Tryz.prog 14 #[GrP b, .slice (some ⟨W.heap.size, 0, none⟩) 3 3] W' fun e w' => e = .returned (.tuple #[]) ∧ Gr b l1 w' ∧ Below b W' w' ∧ K34 W' w' :=
  have hl := (Array.getElem?_eq_some_iff.1 (heap_alloc_new W oF)).1
  line_any b [] W.heap.size 0 3 [tF, t0, t0] W' (gr_below (gr_below h (below_new W _)) hb) (fun j x hx => (hb.cell (p := ⟨W.heap.size, 0 + j, none⟩) hl).trans (nthS W [tF, t0, t0] j x hx)) (Nat.lt_of_lt_of_le hl hb.size) (by decide) (by decide) (by decide) (by decide) (by decide)
theorem lineI (b : Nat) (W W' : World) (h : Gr b l1 W) (hb : Below (W.alloc oI).heap.size (W.alloc oI) W') : Calls Tryz.prog 14 #[GrP b, .slice (some ⟨W.heap.size, 0, none⟩) 4 4] W' fun e w' => e = .returned (.tuple #[]) ∧ Gr b l2 w' ∧ Below b W' w' ∧ K34 W' w' :=
  have hl := (Array.getElem?_eq_some_iff.1 (heap_alloc_new W oI)).1
  line_any b l1 W.heap.size 0 4 [t35, t0, t0, t0] W' (gr_below (gr_below h (below_new W _)) hb) (fun j x hx => (hb.cell (p := ⟨W.heap.size, 0 + j, none⟩) hl).trans (nthS W [t35, t0, t0, t0] j x hx)) (Nat.lt_of_lt_of_le hl hb.size) (by decide) (by decide) (by decide) (by decide) (by decide)
set_option maxRecDepth 100000 in
set_option maxHeartbeats 16000000 in
theorem list_one (PA : Option Addr) (Pc : Nat) (A : Option Addr) (c : Nat) (w : World) (hg : (g0 PA Pc A c).at w) (hs : SPC w) :
    Calls Tryz.prog 7 #[.agg (g0 PA Pc A c).vals] w fun e w' => e = .returned (.tuple #[.string (ofL l2), .int .i64 0]) ∧ Below w.heap.size w w' := by
  have HB := Lib.hid (below_new w (.cells (g0 PA Pc A c).vals 26))
  have HX := Lib.hid (BXG.new hg)
  have HCK : Hid (∀ W, Below (w.alloc (.cells (g0 PA Pc A c).vals 26)).heap.size (w.alloc (.cells (g0 PA Pc A c).vals 26)) W → Calls Tryz.prog 12 #[.agg #[.slice PA 1 Pc, .slice none 0 0, .slice none 0 0]] W fun e w' => e = .returned (.int .i64 0) ∧ Below W.heap.size W w') := Lib.hid (fun W hb => by
    have h := check_any (g0 PA Pc A c) W (HX.out.g.below hb) (g0_fit PA Pc A c) (spc_below hs (HB.out.trans (hb.mono HB.out.size)))
    rw [g0_fine] at h
    exact h)
  clear hg hs
  go_enter Tryz.func7, Tryz.ntmps7
  go_upto_region 1 with (fail)
  generalize w.alloc (.cells (g0 PA Pc A c).vals 26) = w1 at *
  have HC1 := Lib.hid (HCK.out w1 (Below.refl _ _))
  have hcx : ∀ W, Below w1.heap.size w1 W → W.cell? ⟨w.heap.size, 0, none⟩ = some (.slice PA 1 Pc) ∧ W.cell? ⟨w.heap.size, 1, none⟩ = some (.slice none 0 0) ∧ W.cell? ⟨w.heap.size, 2, none⟩ = some (.slice none 0 0) := fun W hb => (HX.out.below hb).cells
  have HCX := Lib.hid hcx
  clear hcx
  obtain ⟨x0, x1, x2⟩ := HCX.out _ (Below.refl _ _)
  go_wp2_with fail
  refine HC1.out.mono ?_
  rintro e w2 ⟨rfl, hb2⟩
  have HB2 := Lib.hid hb2
  clear HC1 HCK x0 x1 x2 hb2
  go_upto_region 5 with (fail)
  have HG3 := Lib.hid (gr_new w2)
  have HB3 := Lib.hid (below_new w2 (.cells #[.pointer none, .slice none 0 0] 50))
  generalize w2.alloc (.cells #[.pointer none, .slice none 0 0] 50) = w3 at *
  have hs2 : ∀ W, Below w2.heap.size w2 W → Below w1.heap.size w1 W := fun W h => HB2.out.trans (h.mono HB2.out.size)
  have HS2 := Lib.hid hs2
  obtain ⟨x0, x1, x2⟩ := HCX.out _ (hs2 _ HB3.out)
  clear hs2
  go_wp2_with fail
  clear x0 x1 x2
  go_loopw [22] (fun i wr => ∃ k : Nat, k ≤ 1 ∧ i = .int .i64 k ∧ Hid (Gr w2.heap.size (txt0 k) wr) ∧ Hid (Below w2.heap.size w2 wr)) (fun i _ => 1 - (intOf i).toNat)
  case atStart => exact ⟨0, by omega, rfl, HG3, HB3⟩
  case round =>
    obtain ⟨k, hk, rfl, HGR, HBR⟩ := hrel
    have hk2 : k = 0 ∨ k = 1 := by omega
    clear hk
    rcases hk2 with rfl | rfl
    · obtain ⟨bp, op, hPA, -, u0, u1, u2⟩ := ((HX.out.g.ps.below HB2.out).below HBR.out).at (k := 0) (by simp)
      have hPA' : PA = some ⟨bp, op, none⟩ := hPA
      clear hPA
      subst hPA'
      simp only [Nat.zero_mul, Nat.add_zero, List.getElem_cons_zero, List.length_singleton] at u0 u1 u2
      have hx := heap_alloc_new wr (.cells #[.int .i64 0, .int .i64 0, .slice A 1 c] 39)
      have HB4 := Lib.hid (HBR.out.trans ((below_new wr (.cells #[.int .i64 0, .int .i64 0, .slice A 1 c] 39)).mono HBR.out.size))
      have HG4 := Lib.hid (gr_below HGR.out (below_new wr (.cells #[.int .i64 0, .int .i64 0, .slice A 1 c] 39)))
      have HX4 := Lib.hid hx
      clear hx HGR HBR
      go_upto_region 8 with (fail)
      generalize wr.alloc (.cells #[.int .i64 0, .int .i64 0, .slice A 1 c] 39) = w4 at *
      obtain ⟨y0, y1, y2⟩ := cell3 HX4.out
      have HLF : Hid (∀ W', Below (w4.alloc oF).heap.size (w4.alloc oF) W' → Calls Tryz.prog 14 #[GrP w2.heap.size, .slice (some ⟨w4.heap.size, 0, none⟩) 3 3] W' fun e w' => e = .returned (.tuple #[]) ∧ Gr w2.heap.size l1 w' ∧ Below w2.heap.size w2 w' ∧ w'.heap[wr.heap.size]? = some (.cells #[.int .i64 0, .int .i64 0, .slice A 1 c] 39 (0, 0))) := Lib.hid (fun W' hb => (lineF w2.heap.size w4 W' HG4.out hb).mono fun e w' ⟨h1, h2, h3, h4⟩ => by
        have hb' : Below w4.heap.size w4 W' := (below_new w4 oF).trans (hb.mono (below_new w4 oF).size)
        exact ⟨h1, h2, (HB4.out.trans (hb'.mono HB4.out.size)).trans h3, h4 _ (.inl rfl) _ _ _ ((hb'.block _ (Array.getElem?_eq_some_iff.1 HX4.out).1).trans HX4.out)⟩)
      have HI0 := Lib.hid i0_any
      have HBD := Lib.hid ((Below.refl w4.heap.size w4).drew)
      go_region_held3 (fun W => W.cell? ⟨wr.heap.size, 0, none⟩ = some (.int .i64 0) ∧ W.cell? ⟨wr.heap.size, 1, none⟩ = some (.int .i64 0))
        (first | assumption | (exact ⟨y0, y1⟩) | (exact ⟨z0, z1⟩) | go_keep | fail)
        (first
          | (go_at_call 15; with_reducible (refine (HI0.out _).mono ?_); rintro e w5 ⟨rfl, rfl⟩)
          | (go_at_call 14; with_reducible (refine (HLF.out _ ((Below.refl _ _).drew)).mono ?_); rintro e w6 ⟨rfl, hg6, hb6, hx6⟩; have HG6 := Lib.hid hg6; have HB6 := Lib.hid hb6; have HX6 := Lib.hid hx6; obtain ⟨z0, z1, z2⟩ := cell3 hx6; clear hg6 hb6 hx6))
      clear y0 y1 y2
      go_wp2_with fail
      clear z0 z1 z2
      have HAC : Hid (∀ W, Below w2.heap.size w2 W → RdI W A [⟨35, 0, 0, 0⟩]) := Lib.hid (fun W hb => ((HX.out.g.code (p0 A c) (by simp)).below HB2.out).below hb)
      go_loopw [37] (fun i wr => ∃ j : Nat, j ≤ 1 ∧ i = .int .i64 j ∧ Hid (Gr w2.heap.size (txt j) wr) ∧ Hid (Below w2.heap.size w2 wr)) (fun i _ => 1 - (intOf i).toNat)
      case atStart => exact ⟨0, by omega, rfl, HG6, HB6⟩
      case round =>
        obtain ⟨j, hj, rfl, HGI, HBI⟩ := hrel
        have hj2 : j = 0 ∨ j = 1 := by omega
        clear hj
        rcases hj2 with rfl | rfl
        · obtain ⟨bi, oi, hA, -, u0, u1, u2, u3⟩ := (HAC.out _ HBI.out).at (k := 0) (by simp)
          subst hA
          simp only [Nat.zero_mul, Nat.add_zero, List.getElem_cons_zero] at u0 u1 u2 u3
          have hx7 := heap_alloc_new wr (.cells #[.int .i64 35, .int .i64 0, .int .i64 0, .int .i64 0] 42)
          have HB7 := Lib.hid (HBI.out.trans ((below_new wr (.cells #[.int .i64 35, .int .i64 0, .int .i64 0, .int .i64 0] 42)).mono HBI.out.size))
          have HG7 := Lib.hid (gr_below HGI.out (below_new wr (.cells #[.int .i64 35, .int .i64 0, .int .i64 0, .int .i64 0] 42)))
          have HX7 := Lib.hid hx7
          clear hx7 HGI HBI
          go_upto_region 12 with (fail)
          generalize wr.alloc (.cells #[.int .i64 35, .int .i64 0, .int .i64 0, .int .i64 0] 42) = w7 at *
          obtain ⟨y0, y1, y2, y3⟩ := cell4 HX7.out
          have HLI : Hid (∀ W', Below (w7.alloc oI).heap.size (w7.alloc oI) W' → Calls Tryz.prog 14 #[GrP w2.heap.size, .slice (some ⟨w7.heap.size, 0, none⟩) 4 4] W' fun e w' => e = .returned (.tuple #[]) ∧ Gr w2.heap.size l2 w' ∧ Below w2.heap.size w2 w' ∧ w'.heap[wr.heap.size]? = some (.cells #[.int .i64 35, .int .i64 0, .int .i64 0, .int .i64 0] 42 (0, 0))) := Lib.hid (fun W' hb => (lineI w2.heap.size w7 W' HG7.out hb).mono fun e w' ⟨h1, h2, h3, h4⟩ => by
            have hb' : Below w7.heap.size w7 W' := (below_new w7 oI).trans (hb.mono (below_new w7 oI).size)
            exact ⟨h1, h2, (HB7.out.trans (hb'.mono HB7.out.size)).trans h3, h4 _ (.inr rfl) _ _ _ ((hb'.block _ (Array.getElem?_eq_some_iff.1 HX7.out).1).trans HX7.out)⟩)
          have HI0 := Lib.hid i0_any
          have HI35 := Lib.hid i35_any
          go_region_held3 (fun W => W.cell? ⟨wr.heap.size, 0, none⟩ = some (.int .i64 35) ∧ W.cell? ⟨wr.heap.size, 1, none⟩ = some (.int .i64 0) ∧ W.cell? ⟨wr.heap.size, 2, none⟩ = some (.int .i64 0) ∧ W.cell? ⟨wr.heap.size, 3, none⟩ = some (.int .i64 0))
            (first | assumption | (exact ⟨y0, y1, y2, y3⟩) | (exact ⟨z0, z1, z2, z3⟩) | go_keep | fail)
            (first
              | (go_at_call 15; with_reducible (refine (HI0.out _).mono ?_); rintro e w8 ⟨rfl, rfl⟩)
              | (go_at_call 15; with_reducible (refine (HI35.out _).mono ?_); rintro e w8 ⟨rfl, rfl⟩)
              | (go_at_call 14; with_reducible (refine (HLI.out _ ((Below.refl _ _).drew)).mono ?_); rintro e w9 ⟨rfl, hg9, hb9, hx9⟩; have HG9 := Lib.hid hg9; have HB9 := Lib.hid hb9; obtain ⟨z0, z1, z2, z3⟩ := cell4 hx9; clear hg9 hb9 hx9))
          go_wp2_with fail
          go_roundw
          case rel => exact ⟨1, by omega, by go_num, HG9, HB9⟩
          case measure => simp [intOf]
        · go_wp2_with fail
          go_roundw
          case rel => exact ⟨1, by omega, by go_num, HGI, HBI⟩
          case measure => simp [intOf]
    · obtain ⟨x0, x1, x2⟩ := HCX.out _ (HS2.out _ HBR.out)
      go_wp2_with fail
      clear x0 x1 x2
      go_loopw [60] (fun i wr => i = .int .i64 0 ∧ Hid (Gr w2.heap.size l2 wr) ∧ Hid (Below w2.heap.size w2 wr)) (fun _ _ => 0)
      case atStart => exact ⟨rfl, HGR, HBR⟩
      case round =>
        obtain ⟨rfl, HGS, HBS⟩ := hrel
        obtain ⟨x0, x1, x2⟩ := HCX.out _ (HS2.out _ HBS.out)
        go_wp2_with fail
        clear x0 x1 x2
        go_loopw [72] (fun i wr => i = .int .i64 0 ∧ Hid (Gr w2.heap.size l2 wr) ∧ Hid (Below w2.heap.size w2 wr)) (fun _ _ => 0)
        case atStart => exact ⟨rfl, HGS, HBS⟩
        case round =>
          obtain ⟨rfl, HGT, HBT⟩ := hrel
          have HD := Lib.hid (done_gr w2.heap.size l2 _ HGT.out)
          go_wp2_with fail
          refine HD.out.mono ?_
          rintro e w8 ⟨rfl, hb8⟩
          have HB8 := Lib.hid ((HBT.out.trans hb8).mono (Nat.le_of_eq rfl))
          clear hb8 HD
          go_wp2_with fail
          go_ret2
          exact ⟨rfl, HB.out.trans ((HS2.out _ HB8.out).mono HB.out.size)⟩
end Go.Proofs.YtccofgdcpmplmaaGreatDoor
