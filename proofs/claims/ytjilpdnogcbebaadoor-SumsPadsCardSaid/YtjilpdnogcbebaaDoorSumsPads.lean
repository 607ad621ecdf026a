/- Proved here: 'taborlaw01.SumsPads' returns true for every slice of bytes, which reads behind the call as it read before. Conditions: those of the given card (the four listed tables hold what the program's text lays; nothing else). -/
import Derived.Test.YtjilpdnogcbebaaDoorFrame
import Derived.Test.YtjilpdnogcbebaaDoorRefPad
import Derived.Deep.RegionWith
namespace Go.Proofs.YtjilpdnogcbebaaDoor.sumsPads
open Go Go.RowKit Go.ChangeShapes Go.WideShapes Go.ChangeAt
open Go.ChangeMaps (open_string shut_string)

/-- Bytes of the call's own, as they are read. -/
def Cv (w : World) (v : Value) (l : List UInt8) : Prop := ∃ A c, v = .slice A l.length c ∧ Rd w A l
theorem Cv.below {w w' : World} {v : Value} {l : List UInt8} (h : Cv w v l) (hb : Below w.heap.size w w') : Cv w' v l := by
  obtain ⟨A, c, rfl, hr⟩ := h
  exact ⟨A, c, rfl, hr.below hb⟩
theorem Cv.conv {w : World} {v : Value} {l : List UInt8} (hl : 0 < l.length) (h : Cv w v l) : (convert 22 9 v).run Tryd.prog w = .ok (.string ⟨l.toArray⟩) w := by
  obtain ⟨A, c, rfl, hr⟩ := h
  obtain ⟨b, off, rfl, hb, hc⟩ := hr hl
  exact conv_some w b off c l hc
theorem padL_pos (l : List UInt8) : 0 < (padL l).length := by rw [padL_len]; unfold padN; omega
theorem pad_cv (A : Option Addr) (c : Nat) (l : List UInt8) (w : World) (hl : l.length ≤ 1000000) (hr : Rd w A l) :
    Calls Tryd.prog 24 #[.slice A l.length c] w fun e w' => ∃ v, e = .returned v ∧ Cv w' v (padL l) ∧ Below w.heap.size w w' := by
  refine (pad_any A c l w hl hr).mono ?_
  rintro e w' ⟨rfl, hrow, hb⟩
  have hlt : w.heap.size < w'.heap.size := by
    rcases Nat.lt_or_ge w.heap.size w'.heap.size with h1 | h1
    · exact h1
    · unfold RowB at hrow; rw [Array.getElem?_eq_none h1] at hrow; cases hrow
  refine ⟨_, rfl, ⟨_, _, by rw [padL_len], fun _ => ⟨w.heap.size, 0, rfl, hlt, fun j hj => ?_⟩⟩, hb⟩
  rw [Nat.zero_add]; exact hrow.cell j hj

set_option maxHeartbeats 1000000 in
theorem walk (v : Value) (l : List UInt8) (w : World) (ha : Arg w v l) (hL : Laid w) :
    Calls Tryd.prog 6 #[v] w fun e w' => e = .returned (.bool true) ∧ Below w.heap.size w w' := by
  have HL := Lib.hid hL
  have HA := Lib.hid ha
  obtain ⟨A, c, rfl, hr⟩ := ha.rd
  clear ha hr hL
  by_cases h : l.length ≤ 10000
  · have hd : decide ((l.length : Int) > 10000) = false := by simp; omega
    have hl : l.length ≤ 1000000 := by omega
    go_enter Tryd.func6, Tryd.ntmps6
    go_wp2_with fail
    refine (lent_any _ l w hl HA.out).mono ?_
    rintro e w1 ⟨m, rfl, hm, hb1⟩
    have HM := Lib.hid hm
    obtain ⟨B, c1, rfl, hr1⟩ := hm.rd
    have HR1 := Lib.hid hr1
    clear hm hr1
    go_wp2_with fail
    go_region_with (first
      | (go_at_call 24; refine (pad_cv B c1 l _ hl (HR1.out.below (Below.refl w1.heap.size w1).drew)).mono ?_; rintro e w2 ⟨v2, rfl, hv2, hb2⟩; have hb12 : Below w1.heap.size w1 w2 := (Below.refl w1.heap.size w1).drew.trans hb2; have hbw2 : Below w.heap.size w w2 := hb1.trans (hb12.mono hb1.size); have HV2 := Lib.hid hv2; have hc2 := hv2.conv (padL_pos l); clear hv2)
      | (go_at_call 25; refine (rpad_any _ l w2 hl (HA.out.below hbw2)).mono ?_; rintro e w3 ⟨v3, rfl, hv3, hb3⟩; have hb13 : Below w1.heap.size w1 w3 := hb12.trans (hb3.mono hb12.size); have hbw3 : Below w.heap.size w w3 := hb1.trans (hb13.mono hb1.size); have hc3 := Cv.conv (padL_pos l) hv3; have hc4 := (HV2.out.below hb3).conv (padL_pos l); clear hv3)
      | (go_at_call 16; refine (kept_any w w3 _ _ l hl (HM.out.below hb13) (HA.out.below hbw3)).mono ?_; rintro e w4 ⟨rfl, rfl⟩)
      | (go_at_call 12; refine (works_any w3 (HL.out.below hbw3)).mono ?_; rintro e w5 ⟨rfl, hb5⟩; have hbw5 : Below w.heap.size w w5 := hbw3.trans (hb5.mono hbw3.size)))
    all_goals go_wp2
    all_goals go_ret
    all_goals exact ⟨rfl, hbw5⟩
  · have hd : decide ((l.length : Int) > 10000) = true := by simp; omega
    go_enter Tryd.func6, Tryd.ntmps6
    go_wp2_with fail
    refine (works_any w HL.out).mono ?_
    rintro e w3 ⟨rfl, hb3⟩
    go_wp2
    go_ret
    exact ⟨rfl, hb3⟩


theorem contract (H : Type) (enc : TypeId × Value → H) (W : World) (base : Nat) (args : Array Value) (ds gs : List (DataW H)) (before : List MemPlace)
    (hval : ∀ (j : Nat) t v, Tryd.f6.params[j]? = some t → args[j]? = some v → Value.okWide Tryd.prog W .any base t v)
    (hW : DataW.Whole enc Tryd.prog Tryd.f6.params.toList Rows.sumsPadsSpec.vars false W args.toList ds gs before) (hL : laidMetH Tryd.prog Rows.sumsPadsRow.laid W) :
    Calls Tryd.prog 6 args W fun e W' => ∃ v, e = .returned v ∧ Rows.sumsPadsSpec.post enc Tryd.prog Tryd.f6 false true false false W args v W' := by
  have hW' := hW
  obtain ⟨p, q, hA0, hV, rfl, hfz, hnd⟩ := hW
  have hA : DataW.TrodAll enc Tryd.prog W 0 (fun _ => true) true Tryd.f6.params.toList args.toList ds p := hA0
  rw [Tryd.params6] at hA hval
  obtain ⟨v0, vs0, d0, ds0, p0, q0, hargs, rfl, rfl, h0, r0⟩ := trodAll_cons hA
  obtain ⟨rfl, rfl, rfl⟩ := trodAll_nil r0
  obtain rfl : args = #[v0] := by cases args; simp_all
  obtain ⟨rfl, rfl⟩ := trodVars_none hV
  obtain ⟨a0, len0, cap0, rfl⟩ := okWide_slice Tryd.underlying22 (hval 0 22 v0 rfl rfl)
  have k0 := h0
  have lt0 : ∀ x ∈ p0, x.block < W.heap.size := by obtain ⟨m, hm⟩ := k0; exact DataW.trod_lt m _ _ _ hm
  obtain ⟨l0, ha0, hlen0, hmax0⟩ := arg_of h0
  clear hA0
  refine (walk _ l0 W ha0 (laid_of hL)).mono fun e W' ⟨he, bel⟩ => ?_
  subst he
  exact ⟨_, rfl, _, _, _, [], _, [], hW', trodAll_mk1 (shut_bool Tryd.underlying4 _), (trodAll_cons_mk (Below.trod laidOut (by kernel_rfl) (of_decide_eq_true (by kernel_rfl)) k0 bel lt0) trodAll_mk0), rfl, bel.frame _, fun h => by cases h⟩

theorem reads (os : Os) {H : Type} (enc : TypeId × Value → H) : ∃ places, DataW.whole enc Tryd.prog ((laidWorld os).forCall (fun _ _ => 0) ⟨#[], #[.slice none 0 0], []⟩).memory Tryd.f6.params.toList Rows.sumsPadsSpec.vars false (#[.slice none 0 0] : Array Value).toList 8 = some ([.nil], [], places) :=
  ⟨[], by kernel_rfl⟩

set_option maxRecDepth 100000 in
theorem lifted (os : Os) (started : os.Started) (H : Type) (enc : TypeId × Value → H) (F : Stop.Interp) :
    ReturnsInHanded {} Tryd.checked os 6 .any ((OpenSpec.ofChange Rows.sumsPadsSpec).preRow enc Tryd.prog Tryd.f6 Rows.sumsPadsRow.domain false Rows.sumsPadsRow.laid) (((OpenSpec.ofChange Rows.sumsPadsSpec).at F).post enc Tryd.prog Tryd.f6 false true false false) := by
  obtain ⟨places, hx⟩ := reads os enc
  refine returnsInHanded_of_row (C := Tryd.checked) (s := OpenSpec.ofChange Rows.sumsPadsSpec) own started (by kernel_rfl) Tryd.func6
    (witness_row_at (enc := enc) (C := Tryd.checked) false (laidWorld os) #[.slice none 0 0] rfl (by kernel_rfl) (by kernel_rfl) (by kernel_rfl)
      (OpenSpec.preRow_of_cond 8 hx (by kernel_rfl) (fun k hk => by cases hk) (by kernel_rfl) (laid_met os _))) ?_
  intro W base args ds gs before hval hW _ _ _ hL _ _
  exact contract H enc W base args ds gs before hval hW hL

theorem said : Rows.SumsPadsSaid :=
  OpenClaim.holds_of_cond 6 Tryd.f6 rfl rfl rfl rfl rfl rfl rfl ⟨rfl, rfl, rfl, rfl, rfl⟩ rfl rfl rfl rfl rfl (by kernel_rfl) Tryd.func6 (by kernel_rfl)
    (of_decide_eq_true (by kernel_rfl)) (by unfold Func.isWrapper; first | (rw [if_pos (by decide +kernel)]; kernel_rfl) | (rw [if_neg (by decide +kernel)]; exact ⟨rfl, rfl⟩))
    (fun os started H enc _ F => by rw [OpenClaim.pre_eq_preRow]; exact lifted os started H enc F)

theorem plain (f : FuncId) (fn : Func) (hf : Tryd.pinned.checked.prog.funcNamed "tabor/taborlaw01.SumsPads" = some f) (hfn : Tryd.pinned.checked.prog.funcs[f]? = some fn) :
    false = Tryd.pinned.checked.prog.looks [] ∧ ∀ (j : Nat) t, fn.params[j]? = some t → Tryd.pinned.checked.prog.wantsStandIn t = false := by
  obtain rfl : f = 6 := Option.some.inj ((show Tryd.prog.funcNamed "tabor/taborlaw01.SumsPads" = some 6 by kernel_rfl).symm.trans hf) |>.symm
  obtain rfl : fn = Tryd.f6 := (Option.some.inj (Tryd.func6.symm.trans hfn)).symm
  refine ⟨by kernel_rfl, fun j t ht => ?_⟩
  rw [Tryd.params6] at ht
  obtain rfl : t = 22 := by simpa using Array.mem_of_getElem? ht
  exact (show Tryd.prog.wantsStandIn 22 = false by kernel_rfl)

/-- The card. -/
theorem card : Rows.SumsPadsCardSaid :=
  Claim7.holds_tied_plain_at .later [] _ _ _ _ said (fun _ h => by cases h) (by kernel_rfl) (fun _ h => by cases h) sumsPads_row_tie rfl ⟨rfl, rfl⟩ (by kernel_rfl) rfl plain (by kernel_rfl)
#print axioms card
end Go.Proofs.YtjilpdnogcbebaaDoor.sumsPads
