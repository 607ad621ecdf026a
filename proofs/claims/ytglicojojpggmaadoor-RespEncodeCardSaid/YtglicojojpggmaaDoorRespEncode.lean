/- Proved here: 'taborlaw04.RespEncode' returns true for any reply, which reads behind the call as it read before. Conditions: those of the given card (the three listed tables hold what the program's text lays; nothing else). -/
import Derived.Test.YtglicojojpggmaaDoorFrame
import Derived.Test.YtglicojojpggmaaDoorArgs
import Derived.Test.YtglicojojpggmaaDoorChA
import Derived.Test.YtglicojojpggmaaDoorWorks
import Derived.Test.YtglicojojpggmaaDoorCopy
namespace Go.Proofs.YtglicojojpggmaaDoor.respEncode
open Go Go.RowKit Go.ChangeShapes Go.WideShapes Go.ChangeAt
open Go.ChangeMaps (open_string shut_string)

set_option maxHeartbeats 4000000 in
set_option maxRecDepth 100000 in
theorem walk (r : Rp) (A : Option Addr) (c : Nat) (w : World) (ha : RpK (fun _ => True) w r A c) (hg : TAB w) :
    Calls Tryd.prog 5 #[.agg (rpV r A c)] w fun e w' => e = .returned (.bool true) ∧ Below w.heap.size w w' := by
  have HBX := Lib.hid (BX.new ha)
  have HG := Lib.hid hg
  clear ha hg
  go_enter Tryd.func5, Tryd.ntmps5
  go_upto_region 1 with (fail)
  generalize w.alloc (.cells (rpV r A c) 41) = W at *
  obtain ⟨v0, v1, v2, v3⟩ := HBX.out.rows
  have HSA := Lib.hid (size_any r A c _ W HBX.out.ks)
  go_wp2_with fail
  refine HSA.out.mono ?_
  rintro e w1 ⟨s, rfl, hs, hs6, hb1⟩
  have HB1 := Lib.hid (HBX.out.next hb1)
  have HSS := Lib.hid hs
  clear HSA HBX hb1 hs v0 v1 v2 v3
  have HW1 := Lib.hid (works_any w1 (tab_below HG.out HB1.out.bel))
  by_cases h3 : 3000 < s
  · have g1 : decide ((3000 : Int) < (s : Int)) = true := decide_eq_true (by omega)
    have g2 : decide (3000 < s) = true := decide_eq_true h3
    go_wp2_with fail
    refine HW1.out.mono ?_
    rintro e w2 ⟨rfl, hb2⟩
    go_wp2
    go_ret
    exact ⟨rfl, HB1.out.bel.trans (hb2.mono HB1.out.bel.size)⟩
  have g1 : decide ((3000 : Int) < (s : Int)) = false := decide_eq_false (by omega)
  have g2 : decide (3000 < s) = false := decide_eq_false h3
  have HZ : Hid (szR r ≤ 3000) := Lib.hid (by have := HSS.out (by omega); omega)
  obtain ⟨v0, v1, v2, v3⟩ := HB1.out.rows
  have HCK := Lib.hid (rcheck_any _ r A c w1 HB1.out.ks)
  clear HW1 h3 HSS
  go_wp2_with fail
  refine HCK.out.mono ?_
  rintro e w2 ⟨rfl, hb2⟩
  have HB2 := Lib.hid (HB1.out.next hb2)
  clear HCK HB1 hb2 v0 v1 v2 v3 g1 g2
  obtain ⟨v0, v1, v2, v3⟩ := HB2.out.rows
  have HEN := Lib.hid (encode_any _ r A c w2 HB2.out.ks (tab_below HG.out HB2.out.bel))
  go_wp2_with fail
  refine HEN.out.mono ?_
  rintro e w3 ⟨v, rfl, ho3, hb3⟩
  have HB3 := Lib.hid (HB2.out.next hb3)
  have HO3 := Lib.hid ho3
  clear HEN HB2 hb3 ho3 v0 v1 v2 v3
  obtain ⟨v0, v1, v2, v3⟩ := HB3.out.rows
  have HCP := Lib.hid (check_any _ r A c w3 HB3.out.ks)
  go_wp2_with fail
  refine HCP.out.mono ?_
  rintro e w4 ⟨rfl, hb4⟩
  have HB4 := Lib.hid (HB3.out.next hb4)
  have HO4 : Hid (OwnB w4 w2.heap.size v (if chkR r = 0 then encR r else [])) := Lib.hid (HO3.out.below hb4)
  clear HCP HB3 HO3 hb4 v0 v1 v2 v3
  have HNM := Lib.hid (num_any2 (chkR r) w4)
  go_wp2_with fail
  refine HNM.out.mono ?_
  rintro e w' ⟨rfl, rfl⟩
  go_wp2_with fail
  refine HNM.out.mono ?_
  rintro e w' ⟨rfl, rfl⟩
  clear HNM
  by_cases hc : chkR r = 0
  rotate_left
  · have e1 : (chkR r != 0) = true := by simpa using hc
    have e2 : decide (chkR r = 0) = false := decide_eq_false hc
    have ho := HO4.out
    rw [if_neg hc] at ho
    obtain ⟨A4, c4, rfl, hc4, hn4, hr4, hA4⟩ := ho.form (n := 0) rfl
    have HW4 := Lib.hid (works_any w4 (tab_below HG.out HB4.out.bel))
    clear ho hr4 hA4 hn4 hc4 HO4 hc
    go_wp2_with fail
    refine HW4.out.mono ?_
    rintro e w5 ⟨rfl, hb5⟩
    go_wp2
    go_ret
    exact ⟨rfl, HB4.out.bel.trans (hb5.mono HB4.out.bel.size)⟩
  have e1 : (chkR r != 0) = false := by simpa using hc
  have e2 : decide (chkR r = 0) = true := decide_eq_true hc
  have ho := HO4.out
  rw [if_pos hc] at ho
  obtain ⟨n, hn⟩ : ∃ n, (encR r).length = n := ⟨_, rfl⟩
  obtain ⟨A4, c4, rfl, hc4, hn4, hr4, hA4⟩ := ho.form (n := n) hn
  have HR4 := Lib.hid hr4
  have HC4 := Lib.hid hc4
  have HN4 := Lib.hid hn4
  have HLN := Lib.hid hn
  clear ho hr4 hA4 hn4 hc4 hc HO4 hn
  go_wp2_with fail
  clear e1 e2
  have HBB : Hid (∀ x : InW (Grown w4), BX w x.w r A c) := Lib.hid fun x => HB4.out.next x.h
  have zA0 : ∀ x : InW (Grown w4), x.w.cell? ⟨w.heap.size, 0, none⟩ = some (.int .i64 r.kind) := fun x => (HBB.out x).rows.1
  have zA1 : ∀ x : InW (Grown w4), x.w.cell? ⟨w.heap.size, 1, none⟩ = some (.int .i64 r.num) := fun x => (HBB.out x).rows.2.1
  have zA2 : ∀ x : InW (Grown w4), x.w.cell? ⟨w.heap.size, 2, none⟩ = some (.string r.text) := fun x => (HBB.out x).rows.2.2.1
  have zA3 : ∀ x : InW (Grown w4), x.w.cell? ⟨w.heap.size, 3, none⟩ = some (.slice A r.kids.length c) := fun x => (HBB.out x).rows.2.2.2
  have hcv : ∀ x : InW (Grown w4), (convert 25 9 (.slice A4 n c4)).run Tryd.prog x.w = .ok (.string (ofL (encR r))) x.w := fun x => conv_n HLN.out HN4.out HC4.out (HR4.out.below x.h)
  have H1 : Hid (∀ x : InW (Grown w4), Calls Tryd.prog 24 #[.agg (rpV r A c)] x.w (RetIn (Grown w4) (.string (ofL (encR r))))) := Lib.hid fun x => ret_below (renc_all _ r A c _ x.w (Nat.le_refl _) (HBB.out x).ks (by have := HZ.out; omega) (tab_below HG.out (HBB.out x).bel))
  have H4 : Hid (∀ x : InW (Grown w4), Calls Tryd.prog 13 #[] x.w (RetIn (Grown w4) (.bool true))) := Lib.hid fun x => ret_below (works_any x.w (tab_below HG.out (HBB.out x).bel))
  have HIN : Nonempty (InW (Grown w4)) := ⟨⟨w4, Below.refl _ _⟩⟩
  have hS : ((ofL (encR r)).toList == (ofL (encR r)).toList) = true := by simp
  refine region_in (Grown w4) (by kernel_rfl) (by kernel_rfl) (Below.refl _ _).drew ?_
  repeat (go_big_quiet_step ((rename_i x; with_reducible (first | exact H1.out x | exact H4.out x))))
  refine wpQuiet_nil ?_
  rintro _ ⟨x, rfl⟩
  have HBX := Lib.hid (HBB.out x).bel
  clear zA0 zA1 zA2 zA3 HIN H1 H4 HBB hcv
  go_wp2
  go_ret
  exact ⟨rfl, HBX.out⟩


set_option maxRecDepth 20000 in
theorem contract (H : Type) (enc : TypeId × Value → H) (W : World) (base : Nat) (args : Array Value) (ds gs : List (DataW H)) (before : List MemPlace)
    (hval : ∀ (j : Nat) t v, Tryd.f5.params[j]? = some t → args[j]? = some v → Value.okWide Tryd.prog W .any base t v)
    (hW : DataW.Whole enc Tryd.prog Tryd.f5.params.toList Rows.respEncodeSpec.vars false W args.toList ds gs before) 
    (hZ : (DataW.weightsEach Tryd.prog (Tryd.f5.params.toList ++ (OpenSpec.ofChange Rows.respEncodeSpec).bare.plain.varTypes Tryd.prog) (ds ++ gs)).all (· ≤ reachBytes) = true) (hL : laidMetH Tryd.prog Rows.respEncodeRow.laid W) :
    Calls Tryd.prog 5 args W fun e W' => ∃ v, e = .returned v ∧ Rows.respEncodeSpec.post enc Tryd.prog Tryd.f5 false true false false W args v W' := by
  have hW' := hW
  obtain ⟨p, q, hA0, hV, rfl, hfz, hnd⟩ := hW
  have hA : DataW.TrodAll enc Tryd.prog W 0 (fun _ => true) true Tryd.f5.params.toList args.toList ds p := hA0
  rw [Tryd.params5] at hA hval hZ
  obtain ⟨v0, vs0, d0, ds0, p0, q0, hargs, rfl, rfl, h0, r0⟩ := trodAll_cons hA
  obtain ⟨rfl, rfl, rfl⟩ := trodAll_nil r0
  obtain rfl : args = #[v0] := by cases args; simp_all
  obtain ⟨rfl, rfl⟩ := trodVars_none hV
  have k0 := h0
  have lt0 : ∀ x ∈ p0, x.block < W.heap.size := by obtain ⟨m, hm⟩ := k0; exact DataW.trod_lt m _ _ _ hm
  obtain ⟨g0, rfl, hk0⟩ := reply_of (hval 0 41 v0 rfl rfl) h0 (weight_at hZ (j := 0) rfl rfl)
  clear hA0
  refine (walk g0.r g0.A g0.c W hk0 (laid_pow hL)).mono fun e W' ⟨he, bel⟩ => ?_
  subst he
  exact ⟨_, rfl, _, _, _, [], _, [], hW', trodAll_mk1 (shut_bool Tryd.underlying4 _), (trodAll_cons_mk (Below.trod laidOut (by kernel_rfl) (of_decide_eq_true (by kernel_rfl)) k0 bel lt0) trodAll_mk0), rfl, bel.frame _, fun h => by cases h⟩

theorem reads (os : Os) {H : Type} (enc : TypeId × Value → H) : ∃ places, DataW.whole enc Tryd.prog ((laidWorld os).forCall (fun _ _ => 0) ⟨#[], #[.agg #[.int .i64 0, .int .i64 0, .string ⟨#[]⟩, .slice none 0 0]], []⟩).memory Tryd.f5.params.toList Rows.respEncodeSpec.vars false (#[.agg #[.int .i64 0, .int .i64 0, .string ⟨#[]⟩, .slice none 0 0]] : Array Value).toList 8 = some ([.agg [.lit (.int .i64 0), .lit (.int .i64 0), .lit (.string []), .nil]], [], places) :=
  ⟨[], by kernel_rfl⟩

set_option maxRecDepth 100000 in
theorem lifted (os : Os) (started : os.Started) (H : Type) (enc : TypeId × Value → H) (F : Stop.Interp) :
    ReturnsInHanded {} Tryd.checked os 5 .any ((OpenSpec.ofChange Rows.respEncodeSpec).preRow enc Tryd.prog Tryd.f5 Rows.respEncodeRow.domain false Rows.respEncodeRow.laid) (((OpenSpec.ofChange Rows.respEncodeSpec).at F).post enc Tryd.prog Tryd.f5 false true false false) := by
  obtain ⟨places, hx⟩ := reads os enc
  refine returnsInHanded_of_row (C := Tryd.checked) (s := OpenSpec.ofChange Rows.respEncodeSpec) own started (by kernel_rfl) Tryd.func5
    (witness_row_at (enc := enc) (C := Tryd.checked) false (laidWorld os) #[.agg #[.int .i64 0, .int .i64 0, .string ⟨#[]⟩, .slice none 0 0]] rfl (by kernel_rfl) (by kernel_rfl) (by kernel_rfl)
      (OpenSpec.preRow_of_cond 8 hx (by kernel_rfl) (fun k hk => by cases hk) (by kernel_rfl) (laid_met os _))) ?_
  intro W base args ds gs before hval hW _ _ hZ hL _ _
  exact contract H enc W base args ds gs before hval hW hZ hL

theorem said : Rows.RespEncodeSaid :=
  OpenClaim.holds_of_cond 5 Tryd.f5 rfl rfl rfl rfl rfl rfl rfl ⟨rfl, rfl, rfl, rfl, rfl⟩ rfl rfl rfl rfl rfl (by kernel_rfl) Tryd.func5 (by kernel_rfl)
    (of_decide_eq_true (by kernel_rfl)) (by unfold Func.isWrapper; first | (rw [if_pos (by decide +kernel)]; kernel_rfl) | (rw [if_neg (by decide +kernel)]; exact ⟨rfl, rfl⟩))
    (fun os started H enc _ F => by rw [OpenClaim.pre_eq_preRow]; exact lifted os started H enc F)

theorem plain (f : FuncId) (fn : Func) (hf : Tryd.pinned.checked.prog.funcNamed "tabor/taborlaw04.RespEncode" = some f) (hfn : Tryd.pinned.checked.prog.funcs[f]? = some fn) :
    true = Tryd.pinned.checked.prog.looks [] ∧ ∀ (j : Nat) t, fn.params[j]? = some t → Tryd.pinned.checked.prog.wantsStandIn t = false := by
  obtain rfl : f = 5 := Option.some.inj ((show Tryd.prog.funcNamed "tabor/taborlaw04.RespEncode" = some 5 by kernel_rfl).symm.trans hf) |>.symm
  obtain rfl : fn = Tryd.f5 := (Option.some.inj (Tryd.func5.symm.trans hfn)).symm
  refine ⟨by kernel_rfl, fun j t ht => ?_⟩
  rw [Tryd.params5] at ht
  obtain rfl : t = 41 := by simpa using Array.mem_of_getElem? ht
  exact (show Tryd.prog.wantsStandIn 41 = false by kernel_rfl)

/-- The card. -/
theorem card : Rows.RespEncodeCardSaid :=
  Claim7.holds_tied_plain_at .later [] _ _ _ _ said (fun _ h => by cases h) (by kernel_rfl) (fun _ h => by cases h) respEncode_row_tie rfl ⟨rfl, rfl⟩ (by kernel_rfl) rfl plain (by kernel_rfl)
#print axioms card
end Go.Proofs.YtglicojojpggmaaDoor.respEncode
