/- Proved here: 'taborlaw01.SumsBytes' returns true for every number and every slice of bytes, which read behind the call as they read before. Conditions: those of the given card (the four listed tables hold what the program's text lays; nothing else). -/
import Derived.Test.YtjilpdnogcbebaaDoorFrame
import Derived.Test.YtjilpdnogcbebaaDoorMath
import Derived.Deep.RegionWith
namespace Go.Proofs.YtjilpdnogcbebaaDoor.sumsBytes
open Go Go.RowKit Go.ChangeShapes Go.WideShapes Go.ChangeAt
open Go.ChangeMaps (open_string shut_string)

/-- The four bytes of a number lie in a block. -/
def Four (w : World) (g n : Nat) : Prop := w.heap[g]? = some (.cells (row4 n) 5 (0, 0)) ∧ g < w.heap.size
theorem Four.below {w w' : World} {g n : Nat} (h : Four w g n) (hb : Below w.heap.size w w') : Four w' g n :=
  ⟨(hb.block g h.2).trans h.1, Nat.lt_of_lt_of_le h.2 hb.size⟩
theorem row4_cells (n : Nat) : row4 n = (cellsB (bytes4 n)).toArray ∨ 4294967296 ≤ n := by
  by_cases h : n < 4294967296
  · left
    have h1 : n / 16777216 % 256 = n / 16777216 := by omega
    simp [row4, cellsB, cellB, bytes4, h1]
  · right; omega
theorem Four.conv {w : World} {g n : Nat} (h : Four w g n) (hn : n < 4294967296) :
    (convert 22 9 (.slice (some ⟨g, 0, none⟩) 4 4)).run Tryd.prog w = .ok (.string ⟨(bytes4 n).toArray⟩) w := by
  have e := conv_some w g 0 4 (bytes4 n) (fun j hj => ?_)
  · exact e
  · rw [Nat.zero_add, cell_of_row w g j _ 5 (0, 0) h.1]
    rcases row4_cells n with h1 | h1
    · rw [h1]; simp [cellsB, cellB, hj]
    · omega
theorem bytes_four (n : Nat) (w : World) (hn : n < 4294967296) :
    Calls Tryd.prog 21 #[.int .u32 n] w fun e w' => ∃ g, e = .returned (.slice (some ⟨g, 0, none⟩) 4 4) ∧ Four w' g n ∧ Below w.heap.size w w' := by
  refine (bytes_any n w hn).mono ?_
  rintro e w' ⟨rfl, rfl⟩
  exact ⟨_, rfl, ⟨heap_alloc_new w _, by simp⟩, (Below.refl _ _).alloc (Nat.le_refl _) _⟩
theorem rbytes_four (n : Nat) (w : World) (hn : n < 4294967296) :
    Calls Tryd.prog 22 #[.int .u32 n] w fun e w' => ∃ g, e = .returned (.slice (some ⟨g, 0, none⟩) 4 4) ∧ Four w' g n ∧ Below w.heap.size w w' := by
  refine (rbytes_any n w hn).mono ?_
  rintro e w' ⟨rfl, rfl⟩
  exact ⟨_, rfl, ⟨heap_alloc_new w _, by simp⟩, (Below.refl _ _).alloc (Nat.le_refl _) _⟩

set_option maxHeartbeats 1000000 in
theorem walk_no (n : Nat) (hn : n < 4294967296) (A : Option Addr) (k c : Nat) (w : World) (hk : k ≠ 4) (hm : k ≤ maxLen) (hL : Laid w) :
    Calls Tryd.prog 5 #[.int .u32 n, .slice A k c] w fun e w' => e = .returned (.bool true) ∧ Below w.heap.size w w' := by
  unfold maxLen at hm
  have HL := Lib.hid hL
  have hd : ((k : Int) != 4) = true := by simp; omega
  clear hL
  go_enter Tryd.func5, Tryd.ntmps5
  go_wp2_with fail
  refine (of_no A k c w hk (by omega)).mono ?_
  rintro e w1 ⟨rfl, rfl⟩
  go_wp2_with fail
  go_region_with (first
    | (go_at_call 20; refine (num_any _ _).mono ?_; rintro e w1 ⟨rfl, rfl⟩)
    | (go_at_call 21; refine (bytes_four n _ hn).mono ?_; rintro e w1 ⟨g1, rfl, hg1, hb1⟩; have hbw1 : Below w.heap.size w w1 := (Below.refl w.heap.size w).drew.trans hb1; have hc1 := hg1.conv hn)
    | (go_at_call 22; refine (rbytes_four n _ hn).mono ?_; rintro e w2 ⟨g2, rfl, hg2, hb2⟩; have hbw2 : Below w.heap.size w w2 := hbw1.trans (hb2.mono hbw1.size); have hc2 := hg2.conv hn; have hc3 := (hg1.below hb2).conv hn)
    | (go_at_call 12; refine (works_any _ (HL.out.below hbw2)).mono ?_; rintro e w3 ⟨rfl, hb3⟩; have hbw3 : Below w.heap.size w w3 := hbw2.trans (hb3.mono hbw2.size)))
  all_goals go_wp2
  all_goals go_ret
  all_goals exact ⟨rfl, hbw3⟩

set_option maxHeartbeats 1000000 in
theorem walk_yes (n : Nat) (hn : n < 4294967296) (A : Option Addr) (l : List UInt8) (c : Nat) (w : World) (hk : l.length = 4) (hr : Rd w A l) (hL : Laid w) :
    Calls Tryd.prog 5 #[.int .u32 n, .slice A 4 c] w fun e w' => e = .returned (.bool true) ∧ Below w.heap.size w w' := by
  have HL := Lib.hid hL
  have HR := Lib.hid hr
  clear hL hr
  go_enter Tryd.func5, Tryd.ntmps5
  go_wp2_with fail
  refine (of_yes A c l w hk HR.out).mono ?_
  rintro e w0 ⟨rfl, m0, hw0⟩
  have hb0 : Below w.heap.size w w0 := by rw [hw0]; exact Below.drewN' (Below.refl _ _) m0
  clear hw0
  have hr0 := HR.out.below hb0
  have HR0 := Lib.hid hr0
  clear hr0
  go_wp2_with fail
  go_region_with (first
    | (go_at_call 23; refine (rof_yes A c l _ hk (HR0.out.below (Below.refl w0.heap.size w0).drew)).mono ?_; rintro e wa ⟨rfl, ma, hwa⟩; have hbwa : Below w.heap.size w wa := (by rw [hwa]; exact Below.drewN' hb0.drew ma); clear hwa)
    | (go_at_call 20; refine (num_any _ _).mono ?_; rintro e w1 ⟨rfl, rfl⟩)
    | (go_at_call 21; refine (bytes_four n _ hn).mono ?_; rintro e w1 ⟨g1, rfl, hg1, hb1⟩; have hbw1 : Below w.heap.size w w1 := hbwa.trans (hb1.mono hbwa.size); have hc1 := hg1.conv hn)
    | (go_at_call 22; refine (rbytes_four n _ hn).mono ?_; rintro e w2 ⟨g2, rfl, hg2, hb2⟩; have hbw2 : Below w.heap.size w w2 := hbw1.trans (hb2.mono hbw1.size); have hc2 := hg2.conv hn; have hc3 := (hg1.below hb2).conv hn)
    | (go_at_call 12; refine (works_any _ (HL.out.below hbw2)).mono ?_; rintro e w3 ⟨rfl, hb3⟩; have hbw3 : Below w.heap.size w w3 := hbw2.trans (hb3.mono hbw2.size)))
  all_goals go_wp2
  all_goals go_ret
  all_goals exact ⟨rfl, hbw3⟩
theorem walk (n : Nat) (hn : n < 4294967296) (v : Value) (l : List UInt8) (w : World) (ha : Arg w v l) (hm : l.length ≤ maxLen) (hL : Laid w) :
    Calls Tryd.prog 5 #[.int .u32 n, v] w fun e w' => e = .returned (.bool true) ∧ Below w.heap.size w w' := by
  obtain ⟨A, c, rfl, hr⟩ := ha.rd
  by_cases h : l.length = 4
  · rw [h]; exact walk_yes n hn A l c w h hr hL
  · exact walk_no n hn A l.length c w h hm hL


theorem contract (H : Type) (enc : TypeId × Value → H) (W : World) (base : Nat) (args : Array Value) (ds gs : List (DataW H)) (before : List MemPlace)
    (hval : ∀ (j : Nat) t v, Tryd.f5.params[j]? = some t → args[j]? = some v → Value.okWide Tryd.prog W .any base t v)
    (hW : DataW.Whole enc Tryd.prog Tryd.f5.params.toList Rows.sumsBytesSpec.vars false W args.toList ds gs before) (hL : laidMetH Tryd.prog Rows.sumsBytesRow.laid W) :
    Calls Tryd.prog 5 args W fun e W' => ∃ v, e = .returned v ∧ Rows.sumsBytesSpec.post enc Tryd.prog Tryd.f5 false true false false W args v W' := by
  have hW' := hW
  obtain ⟨p, q, hA0, hV, rfl, hfz, hnd⟩ := hW
  have hA : DataW.TrodAll enc Tryd.prog W 0 (fun _ => true) true Tryd.f5.params.toList args.toList ds p := hA0
  rw [Tryd.params5] at hA hval
  obtain ⟨v0, vs0, d0, ds0, p0, q0, hargs, rfl, rfl, h0, r0⟩ := trodAll_cons hA
  obtain ⟨v1, vs1, d1, ds1, p1, q1, rfl, rfl, rfl, h1, r1⟩ := trodAll_cons r0
  obtain ⟨rfl, rfl, rfl⟩ := trodAll_nil r1
  obtain rfl : args = #[v0, v1] := by cases args; simp_all
  obtain ⟨rfl, rfl⟩ := trodVars_none hV
  obtain ⟨n0, rfl, rfl, rfl, hn0⟩ := open_int Tryd.underlying25 (hval 0 25 v0 rfl rfl) h0
  have hw0 := hn0
  obtain ⟨m0, rfl, hm0⟩ := u32_nat hn0
  obtain ⟨a1, len1, cap1, rfl⟩ := okWide_slice Tryd.underlying22 (hval 1 22 v1 rfl rfl)
  have k1 := h1
  have lt1 : ∀ x ∈ p1, x.block < W.heap.size := by obtain ⟨m, hm⟩ := k1; exact DataW.trod_lt m _ _ _ hm
  obtain ⟨l1, ha1, hlen1, hmax1⟩ := arg_of h1
  clear hA0
  refine (walk m0 hm0 _ l1 W ha1 (by omega) (laid_of hL)).mono fun e W' ⟨he, bel⟩ => ?_
  subst he
  exact ⟨_, rfl, _, _, _, [], _, [], hW', trodAll_mk1 (shut_bool Tryd.underlying4 _), (trodAll_cons_mk (shut_int Tryd.underlying25 hw0) (trodAll_cons_mk (Below.trod laidOut (by kernel_rfl) (of_decide_eq_true (by kernel_rfl)) k1 bel lt1) trodAll_mk0)), rfl, bel.frame _, fun h => by cases h⟩

theorem reads (os : Os) {H : Type} (enc : TypeId × Value → H) : ∃ places, DataW.whole enc Tryd.prog ((laidWorld os).forCall (fun _ _ => 0) ⟨#[], #[.int .u32 0, .slice none 0 0], []⟩).memory Tryd.f5.params.toList Rows.sumsBytesSpec.vars false (#[.int .u32 0, .slice none 0 0] : Array Value).toList 8 = some ([.lit (.int .u32 0), .nil], [], places) :=
  ⟨[], by kernel_rfl⟩

set_option maxRecDepth 100000 in
theorem lifted (os : Os) (started : os.Started) (H : Type) (enc : TypeId × Value → H) (F : Stop.Interp) :
    ReturnsInHanded {} Tryd.checked os 5 .any ((OpenSpec.ofChange Rows.sumsBytesSpec).preRow enc Tryd.prog Tryd.f5 Rows.sumsBytesRow.domain false Rows.sumsBytesRow.laid) (((OpenSpec.ofChange Rows.sumsBytesSpec).at F).post enc Tryd.prog Tryd.f5 false true false false) := by
  obtain ⟨places, hx⟩ := reads os enc
  refine returnsInHanded_of_row (C := Tryd.checked) (s := OpenSpec.ofChange Rows.sumsBytesSpec) own started (by kernel_rfl) Tryd.func5
    (witness_row_at (enc := enc) (C := Tryd.checked) false (laidWorld os) #[.int .u32 0, .slice none 0 0] rfl (by kernel_rfl) (by kernel_rfl) (by kernel_rfl)
      (OpenSpec.preRow_of_cond 8 hx (by kernel_rfl) (fun k hk => by cases hk) (by kernel_rfl) (laid_met os _))) ?_
  intro W base args ds gs before hval hW _ _ _ hL _ _
  exact contract H enc W base args ds gs before hval hW hL

theorem said : Rows.SumsBytesSaid :=
  OpenClaim.holds_of_cond 5 Tryd.f5 rfl rfl rfl rfl rfl rfl rfl ⟨rfl, rfl, rfl, rfl, rfl⟩ rfl rfl rfl rfl rfl (by kernel_rfl) Tryd.func5 (by kernel_rfl)
    (of_decide_eq_true (by kernel_rfl)) (by unfold Func.isWrapper; first | (rw [if_pos (by decide +kernel)]; kernel_rfl) | (rw [if_neg (by decide +kernel)]; exact ⟨rfl, rfl⟩))
    (fun os started H enc _ F => by rw [OpenClaim.pre_eq_preRow]; exact lifted os started H enc F)

theorem plain (f : FuncId) (fn : Func) (hf : Tryd.pinned.checked.prog.funcNamed "tabor/taborlaw01.SumsBytes" = some f) (hfn : Tryd.pinned.checked.prog.funcs[f]? = some fn) :
    false = Tryd.pinned.checked.prog.looks [] ∧ ∀ (j : Nat) t, fn.params[j]? = some t → Tryd.pinned.checked.prog.wantsStandIn t = false := by
  obtain rfl : f = 5 := Option.some.inj ((show Tryd.prog.funcNamed "tabor/taborlaw01.SumsBytes" = some 5 by kernel_rfl).symm.trans hf) |>.symm
  obtain rfl : fn = Tryd.f5 := (Option.some.inj (Tryd.func5.symm.trans hfn)).symm
  refine ⟨by kernel_rfl, fun j t ht => ?_⟩
  rw [Tryd.params5] at ht
  have hm : t = 25 ∨ t = 22 := by simpa using Array.mem_of_getElem? ht
  rcases hm with rfl | rfl
  · exact (show Tryd.prog.wantsStandIn 25 = false by kernel_rfl)
  · exact (show Tryd.prog.wantsStandIn 22 = false by kernel_rfl)

/-- The card. -/
theorem card : Rows.SumsBytesCardSaid :=
  Claim7.holds_tied_plain_at .later [] _ _ _ _ said (fun _ h => by cases h) (by kernel_rfl) (fun _ h => by cases h) sumsBytes_row_tie rfl ⟨rfl, rfl⟩ (by kernel_rfl) rfl plain (by kernel_rfl)
#print axioms card
end Go.Proofs.YtjilpdnogcbebaaDoor.sumsBytes
