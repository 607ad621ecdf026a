/- Proved here: 'taborlaw01.SumsDigest' returns true for every slice of bytes, which reads behind the call as it read before. Conditions: those of the given card (the four listed tables hold what the program's text lays; nothing else). -/
import Derived.Test.YtecioakbgggdfaaDoorFrame
import Derived.Test.YtecioakbgggdfaaDoorRefDigest
namespace Go.Proofs.YtecioakbgggdfaaDoor.sumsDigest
open Go Go.RowKit Go.ChangeShapes Go.WideShapes Go.ChangeAt
open Go.ChangeMaps (open_string shut_string)


set_option maxHeartbeats 1000000 in
theorem walk (v : Value) (l : List UInt8) (w : World) (ha : Arg w v l) (hm : l.length ≤ maxLen) (hL : Laid w) :
    Calls Tryd.prog 8 #[v] w fun e w' => e = .returned (.bool true) ∧ Below w.heap.size w w' := by
  unfold maxLen at hm
  have HL := Lib.hid hL
  have HA := Lib.hid ha
  obtain ⟨A, c, rfl, hr⟩ := ha.rd
  clear ha hr hL
  by_cases h : l.length ≤ 3000
  · have hd : decide ((l.length : Int) > 3000) = false := by simp; omega
    have hl : l.length ≤ 1000000 := by omega
    go_enter Tryd.func8, Tryd.ntmps8
    go_wp2_with fail
    refine (lent_any _ l w hl HA.out).mono ?_
    rintro e w1 ⟨m, rfl, hm, hb1⟩
    have HM := Lib.hid hm
    obtain ⟨B, c1, rfl, hr1⟩ := hm.rd
    have HL1 := HL.out.below hb1
    have HA1 := HA.out.below hb1
    clear hm
    go_wp2_with fail
    refine (digest_any B c1 l w1 hl hr1 HL1.2.1).mono ?_
    rintro e w2 ⟨rfl, hb2⟩
    have hm2 := HM.out.below hb2
    have ha2 := HA1.below hb2
    have hl2 := HL1.below hb2
    have hb := hb1.trans (hb2.mono hb1.size)
    clear HL1 HA1 hr1 HM
    obtain ⟨str, hstr⟩ : ∃ str : ByteArray, str = ⟨(digS l).toArray⟩ := ⟨_, rfl⟩
    rw [← hstr]
    have HST := Lib.hid hstr
    clear hstr
    go_wp2_with fail
    refine (rdigest_any _ l w2 hl ha2).mono ?_
    rintro e w3 ⟨rfl, hb3⟩
    rw [← HST.out]
    have hm3 := hm2.below hb3
    have ha3 := ha2.below hb3
    have hl3 := hl2.below hb3
    have hbb := hb.trans (hb3.mono hb.size)
    clear hm2 ha2 hl2 hb
    go_wp2_with fail
    refine (kept_any w w3 _ _ l hl hm3 ha3).mono ?_
    rintro e w4 ⟨rfl, rfl⟩
    go_wp2_with fail
    refine (works_any w3 hl3).mono ?_
    rintro e w5 ⟨rfl, hb5⟩
    have hbx := hbb.trans (hb5.mono hbb.size)
    go_wp2
    go_ret
    exact ⟨rfl, hbx⟩
  · have hd : decide ((l.length : Int) > 3000) = true := by simp; omega
    go_enter Tryd.func8, Tryd.ntmps8
    go_wp2_with fail
    refine (works_any w HL.out).mono ?_
    rintro e w3 ⟨rfl, hb3⟩
    go_wp2
    go_ret
    exact ⟨rfl, hb3⟩


theorem contract (H : Type) (enc : TypeId × Value → H) (W : World) (base : Nat) (args : Array Value) (ds gs : List (DataW H)) (before : List MemPlace)
    (hval : ∀ (j : Nat) t v, Tryd.f8.params[j]? = some t → args[j]? = some v → Value.okWide Tryd.prog W .any base t v)
    (hW : DataW.Whole enc Tryd.prog Tryd.f8.params.toList Rows.sumsDigestSpec.vars false W args.toList ds gs before) (hL : laidMetH Tryd.prog Rows.sumsDigestRow.laid W) :
    Calls Tryd.prog 8 args W fun e W' => ∃ v, e = .returned v ∧ Rows.sumsDigestSpec.post enc Tryd.prog Tryd.f8 false true false false W args v W' := by
  have hW' := hW
  obtain ⟨p, q, hA0, hV, rfl, hfz, hnd⟩ := hW
  have hA : DataW.TrodAll enc Tryd.prog W 0 (fun _ => true) true Tryd.f8.params.toList args.toList ds p := hA0
  rw [Tryd.params8] at hA hval
  obtain ⟨v0, vs0, d0, ds0, p0, q0, hargs, rfl, rfl, h0, r0⟩ := trodAll_cons hA
  obtain ⟨rfl, rfl, rfl⟩ := trodAll_nil r0
  obtain rfl : args = #[v0] := by cases args; simp_all
  obtain ⟨rfl, rfl⟩ := trodVars_none hV
  obtain ⟨a0, len0, cap0, rfl⟩ := okWide_slice Tryd.underlying22 (hval 0 22 v0 rfl rfl)
  have k0 := h0
  have lt0 : ∀ x ∈ p0, x.block < W.heap.size := by obtain ⟨m, hm⟩ := k0; exact DataW.trod_lt m _ _ _ hm
  obtain ⟨l0, ha0, hlen0, hmax0⟩ := arg_of h0
  clear hA0
  refine (walk _ l0 W ha0 (by omega) (laid_of hL)).mono fun e W' ⟨he, bel⟩ => ?_
  subst he
  exact ⟨_, rfl, _, _, _, [], _, [], hW', trodAll_mk1 (shut_bool Tryd.underlying4 _), (trodAll_cons_mk (Below.trod laidOut (by kernel_rfl) (of_decide_eq_true (by kernel_rfl)) k0 bel lt0) trodAll_mk0), rfl, bel.frame _, fun h => by cases h⟩

theorem reads (os : Os) {H : Type} (enc : TypeId × Value → H) : ∃ places, DataW.whole enc Tryd.prog ((laidWorld os).forCall (fun _ _ => 0) ⟨#[], #[.slice none 0 0], []⟩).memory Tryd.f8.params.toList Rows.sumsDigestSpec.vars false (#[.slice none 0 0] : Array Value).toList 8 = some ([.nil], [], places) :=
  ⟨[], by kernel_rfl⟩

set_option maxRecDepth 100000 in
theorem lifted (os : Os) (started : os.Started) (H : Type) (enc : TypeId × Value → H) (F : Stop.Interp) :
    ReturnsInHanded {} Tryd.checked os 8 .any ((OpenSpec.ofChange Rows.sumsDigestSpec).preRow enc Tryd.prog Tryd.f8 Rows.sumsDigestRow.domain false Rows.sumsDigestRow.laid) (((OpenSpec.ofChange Rows.sumsDigestSpec).at F).post enc Tryd.prog Tryd.f8 false true false false) := by
  obtain ⟨places, hx⟩ := reads os enc
  refine returnsInHanded_of_row (C := Tryd.checked) (s := OpenSpec.ofChange Rows.sumsDigestSpec) own started (by kernel_rfl) Tryd.func8
    (witness_row_at (enc := enc) (C := Tryd.checked) false (laidWorld os) #[.slice none 0 0] rfl (by kernel_rfl) (by kernel_rfl) (by kernel_rfl)
      (OpenSpec.preRow_of_cond 8 hx (by kernel_rfl) (fun k hk => by cases hk) (by kernel_rfl) (laid_met os _))) ?_
  intro W base args ds gs before hval hW _ _ _ hL _ _
  exact contract H enc W base args ds gs before hval hW hL

theorem said : Rows.SumsDigestSaid :=
  OpenClaim.holds_of_cond 8 Tryd.f8 rfl rfl rfl rfl rfl rfl rfl ⟨rfl, rfl, rfl, rfl, rfl⟩ rfl rfl rfl rfl rfl (by kernel_rfl) Tryd.func8 (by kernel_rfl)
    (of_decide_eq_true (by kernel_rfl)) (by unfold Func.isWrapper; first | (rw [if_pos (by decide +kernel)]; kernel_rfl) | (rw [if_neg (by decide +kernel)]; exact ⟨rfl, rfl⟩))
    (fun os started H enc _ F => by rw [OpenClaim.pre_eq_preRow]; exact lifted os started H enc F)

theorem plain (f : FuncId) (fn : Func) (hf : Tryd.pinned.checked.prog.funcNamed "tabor/taborlaw01.SumsDigest" = some f) (hfn : Tryd.pinned.checked.prog.funcs[f]? = some fn) :
    false = Tryd.pinned.checked.prog.looks [] ∧ ∀ (j : Nat) t, fn.params[j]? = some t → Tryd.pinned.checked.prog.wantsStandIn t = false := by
  obtain rfl : f = 8 := Option.some.inj ((show Tryd.prog.funcNamed "tabor/taborlaw01.SumsDigest" = some 8 by kernel_rfl).symm.trans hf) |>.symm
  obtain rfl : fn = Tryd.f8 := (Option.some.inj (Tryd.func8.symm.trans hfn)).symm
  refine ⟨by kernel_rfl, fun j t ht => ?_⟩
  rw [Tryd.params8] at ht
  obtain rfl : t = 22 := by simpa using Array.mem_of_getElem? ht
  exact (show Tryd.prog.wantsStandIn 22 = false by kernel_rfl)

/-- The card. -/
theorem card : Rows.SumsDigestCardSaid :=
  Claim7.holds_tied_plain_at .later [] _ _ _ _ said (fun _ h => by cases h) (by kernel_rfl) (fun _ h => by cases h) sumsDigest_row_tie rfl ⟨rfl, rfl⟩ (by kernel_rfl) rfl plain (by kernel_rfl)
#print axioms card
end Go.Proofs.YtecioakbgggdfaaDoor.sumsDigest
