/- Proved here: 'taborlaw04.RespSame' returns true for any two replies, which read behind the call as they read before. Conditions: those of the given card (the three listed tables hold what the program's text lays; nothing else). -/
import Derived.Test.YtglicojojpggmaaDoorFrame
import Derived.Test.YtglicojojpggmaaDoorArgs
import Derived.Test.YtglicojojpggmaaDoorRsA
import Derived.Test.YtglicojojpggmaaDoorWorks
import Derived.Test.YtglicojojpggmaaDoorQui
namespace Go.Proofs.YtglicojojpggmaaDoor.respSame
open Go Go.RowKit Go.ChangeShapes Go.WideShapes Go.ChangeAt
open Go.ChangeMaps (open_string shut_string)

set_option maxHeartbeats 4000000 in
set_option maxRecDepth 100000 in
theorem walk (a b : Rp) (A B : Option Addr) (c d : Nat) (w : World) (ha : RpK (fun _ => True) w a A c) (hb : RpK (fun _ => True) w b B d) (hg : TAB w) :
    Calls Tryd.prog 7 #[.agg (rpV a A c), .agg (rpV b B d)] w fun e w' => e = .returned (.bool true) ∧ Below w.heap.size w w' := by
  have HBY := Lib.hid (BY.new ha hb)
  have HG := Lib.hid hg
  clear ha hb hg
  go_enter Tryd.func7, Tryd.ntmps7
  go_upto_region 1 with (fail)
  generalize (w.alloc (.cells (rpV a A c) 41)).alloc (.cells (rpV b B d) 41) = W at *
  obtain ⟨v0, v1, v2, v3, u0, u1, u2, u3⟩ := HBY.out.rows
  have HSA := Lib.hid (size_any a A c _ W HBY.out.ka)
  go_wp2_with fail
  refine HSA.out.mono ?_
  rintro e w1 ⟨s, rfl, hs, hs6, hb1⟩
  have HB1 := Lib.hid (HBY.out.next hb1)
  clear HSA HBY hb1 hs v0 v1 v2 v3 u0 u1 u2 u3
  have HW1 := Lib.hid (works_any w1 (tab_below HG.out HB1.out.bel))
  by_cases h3 : 3000 < s
  · have g1 : decide ((3000 : Int) < (s : Int)) = true := decide_eq_true (by omega)
    have g2 : decide (3000 < s) = true := decide_eq_true h3
    go_wp2_with fail
    refine HW1.out.mono ?_
    rintro e w2 ⟨rfl, hb2⟩
    go_wp2
    go_ret
    exact ⟨rfl, HB1.out.bel.trans (hb2.mono HB1.out.bel.size)⟩
  have g1 : decide ((3000 : Int) < (s : Int)) = false := decide_eq_false (by omega)
  have g2 : decide (3000 < s) = false := decide_eq_false h3
  have HSB := Lib.hid (size_any b B d _ w1 HB1.out.kb)
  obtain ⟨v0, v1, v2, v3, u0, u1, u2, u3⟩ := HB1.out.rows
  clear HW1 h3
  go_wp2_with fail
  refine HSB.out.mono ?_
  rintro e w2 ⟨s2, rfl, hs2, hs26, hb2⟩
  have HB2 := Lib.hid (HB1.out.next hb2)
  clear HSB HB1 hb2 hs2 v0 v1 v2 v3 u0 u1 u2 u3 g1 g2
  have HW2 := Lib.hid (works_any w2 (tab_below HG.out HB2.out.bel))
  by_cases h3 : 3000 < s2
  · have g1 : decide ((3000 : Int) < (s2 : Int)) = true := decide_eq_true (by omega)
    have g2 : decide (3000 < s2) = true := decide_eq_true h3
    go_wp2_with fail
    refine HW2.out.mono ?_
    rintro e w3 ⟨rfl, hb3⟩
    go_wp2
    go_ret
    exact ⟨rfl, HB2.out.bel.trans (hb3.mono HB2.out.bel.size)⟩
  have g1 : decide ((3000 : Int) < (s2 : Int)) = false := decide_eq_false (by omega)
  have g2 : decide (3000 < s2) = false := decide_eq_false h3
  clear h3 HW2
  go_wp2_with fail
  clear g1 g2
  have HBB : Hid (∀ x : InW (Grown w2), BY w x.w a b A B c d) := Lib.hid fun x => HB2.out.next x.h
  have zA0 : ∀ x : InW (Grown w2), x.w.cell? ⟨w.heap.size, 0, none⟩ = some (.int .i64 a.kind) := fun x => (HBB.out x).rows.1
  have zA1 : ∀ x : InW (Grown w2), x.w.cell? ⟨w.heap.size, 1, none⟩ = some (.int .i64 a.num) := fun x => (HBB.out x).rows.2.1
  have zA2 : ∀ x : InW (Grown w2), x.w.cell? ⟨w.heap.size, 2, none⟩ = some (.string a.text) := fun x => (HBB.out x).rows.2.2.1
  have zA3 : ∀ x : InW (Grown w2), x.w.cell? ⟨w.heap.size, 3, none⟩ = some (.slice A a.kids.length c) := fun x => (HBB.out x).rows.2.2.2.1
  have zB0 : ∀ x : InW (Grown w2), x.w.cell? ⟨w.heap.size + 1, 0, none⟩ = some (.int .i64 b.kind) := fun x => (HBB.out x).rows.2.2.2.2.1
  have zB1 : ∀ x : InW (Grown w2), x.w.cell? ⟨w.heap.size + 1, 1, none⟩ = some (.int .i64 b.num) := fun x => (HBB.out x).rows.2.2.2.2.2.1
  have zB2 : ∀ x : InW (Grown w2), x.w.cell? ⟨w.heap.size + 1, 2, none⟩ = some (.string b.text) := fun x => (HBB.out x).rows.2.2.2.2.2.2.1
  have zB3 : ∀ x : InW (Grown w2), x.w.cell? ⟨w.heap.size + 1, 3, none⟩ = some (.slice B b.kids.length d) := fun x => (HBB.out x).rows.2.2.2.2.2.2.2
  have H1 : Hid (∀ x : InW (Grown w2), Calls Tryd.prog 28 #[.agg (rpV a A c), .agg (rpV b B d)] x.w (RetIn (Grown w2) (.bool (sameR a b)))) := Lib.hid fun x => ret_below (same_any a b A B c d _ _ x.w (HBB.out x).ka (HBB.out x).kb)
  have H2 : Hid (∀ x : InW (Grown w2), Calls Tryd.prog 27 #[.agg (rpV a A c), .agg (rpV b B d)] x.w (RetIn (Grown w2) (.bool (sameR a b)))) := Lib.hid fun x => ret_below (rsame_any a b A B c d _ _ x.w (HBB.out x).ka (HBB.out x).kb)
  have H3 : Hid (∀ x : InW (Grown w2), Calls Tryd.prog 28 #[.agg (rpV a A c), .agg (rpV a A c)] x.w (RetIn (Grown w2) (.bool true))) := Lib.hid fun x => ret_below (by have := same_any a a A A c c _ _ x.w (HBB.out x).ka (HBB.out x).ka; rw [sameR_refl] at this; exact this)
  have H4 : Hid (∀ x : InW (Grown w2), Calls Tryd.prog 13 #[] x.w (RetIn (Grown w2) (.bool true))) := Lib.hid fun x => ret_below (works_any x.w (tab_below HG.out (HBB.out x).bel))
  have HIN : Nonempty (InW (Grown w2)) := ⟨⟨w2, Below.refl _ _⟩⟩
  generalize sameR a b = S at *
  have hS : (S == S) = true := by simp
  refine region_in (Grown w2) (by kernel_rfl) (by kernel_rfl) (Below.refl _ _).drew ?_
  repeat (go_big_quiet_step ((rename_i x; with_reducible (first | exact H1.out x | exact H2.out x | exact H3.out x | exact H4.out x))))
  refine wpQuiet_nil ?_
  rintro _ ⟨x, rfl⟩
  have HBX := Lib.hid (HBB.out x).bel
  clear zA0 zA1 zA2 zA3 zB0 zB1 zB2 zB3 HIN H1 H2 H3 H4 HBB
  go_wp2
  go_ret
  exact ⟨rfl, HBX.out⟩


set_option maxRecDepth 20000 in
theorem contract (H : Type) (enc : TypeId × Value → H) (W : World) (base : Nat) (args : Array Value) (ds gs : List (DataW H)) (before : List MemPlace)
    (hval : ∀ (j : Nat) t v, Tryd.f7.params[j]? = some t → args[j]? = some v → Value.okWide Tryd.prog W .any base t v)
    (hW : DataW.Whole enc Tryd.prog Tryd.f7.params.toList Rows.respSameSpec.vars false W args.toList ds gs before) 
    (hZ : (DataW.weightsEach Tryd.prog (Tryd.f7.params.toList ++ (OpenSpec.ofChange Rows.respSameSpec).bare.plain.varTypes Tryd.prog) (ds ++ gs)).all (· ≤ reachBytes) = true) (hL : laidMetH Tryd.prog Rows.respSameRow.laid W) :
    Calls Tryd.prog 7 args W fun e W' => ∃ v, e = .returned v ∧ Rows.respSameSpec.post enc Tryd.prog Tryd.f7 false true false false W args v W' := by
  have hW' := hW
  obtain ⟨p, q, hA0, hV, rfl, hfz, hnd⟩ := hW
  have hA : DataW.TrodAll enc Tryd.prog W 0 (fun _ => true) true Tryd.f7.params.toList args.toList ds p := hA0
  rw [Tryd.params7] at hA hval hZ
  obtain ⟨v0, vs0, d0, ds0, p0, q0, hargs, rfl, rfl, h0, r0⟩ := trodAll_cons hA
  obtain ⟨v1, vs1, d1, ds1, p1, q1, rfl, rfl, rfl, h1, r1⟩ := trodAll_cons r0
  obtain ⟨rfl, rfl, rfl⟩ := trodAll_nil r1
  obtain rfl : args = #[v0, v1] := by cases args; simp_all
  obtain ⟨rfl, rfl⟩ := trodVars_none hV
  have k0 := h0
  have lt0 : ∀ x ∈ p0, x.block < W.heap.size := by obtain ⟨m, hm⟩ := k0; exact DataW.trod_lt m _ _ _ hm
  obtain ⟨g0, rfl, hk0⟩ := reply_of (hval 0 41 v0 rfl rfl) h0 (weight_at hZ (j := 0) rfl rfl)
  have k1 := h1
  have lt1 : ∀ x ∈ p1, x.block < W.heap.size := by obtain ⟨m, hm⟩ := k1; exact DataW.trod_lt m _ _ _ hm
  obtain ⟨g1, rfl, hk1⟩ := reply_of (hval 1 41 v1 rfl rfl) h1 (weight_at hZ (j := 1) rfl rfl)
  clear hA0
  refine (walk g0.r g1.r g0.A g1.A g0.c g1.c W hk0 hk1 (laid_pow hL)).mono fun e W' ⟨he, bel⟩ => ?_
  subst he
  exact ⟨_, rfl, _, _, _, [], _, [], hW', trodAll_mk1 (shut_bool Tryd.underlying4 _), (trodAll_cons_mk (Below.trod laidOut (by kernel_rfl) (of_decide_eq_true (by kernel_rfl)) k0 bel lt0) (trodAll_cons_mk (Below.trod laidOut (by kernel_rfl) (of_decide_eq_true (by kernel_rfl)) k1 bel lt1) trodAll_mk0)), rfl, bel.frame _, fun h => by cases h⟩

theorem reads (os : Os) {H : Type} (enc : TypeId × Value → H) : ∃ places, DataW.whole enc Tryd.prog ((laidWorld os).forCall (fun _ _ => 0) ⟨#[], #[.agg #[.int .i64 0, .int .i64 0, .string ⟨#[]⟩, .slice none 0 0], .agg #[.int .i64 0, .int .i64 0, .string ⟨#[]⟩, .slice none 0 0]], []⟩).memory Tryd.f7.params.toList Rows.respSameSpec.vars false (#[.agg #[.int .i64 0, .int .i64 0, .string ⟨#[]⟩, .slice none 0 0], .agg #[.int .i64 0, .int .i64 0, .string ⟨#[]⟩, .slice none 0 0]] : Array Value).toList 8 = some ([.agg [.lit (.int .i64 0), .lit (.int .i64 0), .lit (.string []), .nil], .agg [.lit (.int .i64 0), .lit (.int .i64 0), .lit (.string []), .nil]], [], places) :=
  ⟨[], by kernel_rfl⟩

set_option maxRecDepth 100000 in
theorem lifted (os : Os) (started : os.Started) (H : Type) (enc : TypeId × Value → H) (F : Stop.Interp) :
    ReturnsInHanded {} Tryd.checked os 7 .any ((OpenSpec.ofChange Rows.respSameSpec).preRow enc Tryd.prog Tryd.f7 Rows.respSameRow.domain false Rows.respSameRow.laid) (((OpenSpec.ofChange Rows.respSameSpec).at F).post enc Tryd.prog Tryd.f7 false true false false) := by
  obtain ⟨places, hx⟩ := reads os enc
  refine returnsInHanded_of_row (C := Tryd.checked) (s := OpenSpec.ofChange Rows.respSameSpec) own started (by kernel_rfl) Tryd.func7
    (witness_row_at (enc := enc) (C := Tryd.checked) false (laidWorld os) #[.agg #[.int .i64 0, .int .i64 0, .string ⟨#[]⟩, .slice none 0 0], .agg #[.int .i64 0, .int .i64 0, .string ⟨#[]⟩, .slice none 0 0]] rfl (by kernel_rfl) (by kernel_rfl) (by kernel_rfl)
      (OpenSpec.preRow_of_cond 8 hx (by kernel_rfl) (fun k hk => by cases hk) (by kernel_rfl) (laid_met os _))) ?_
  intro W base args ds gs before hval hW _ _ hZ hL _ _
  exact contract H enc W base args ds gs before hval hW hZ hL

theorem said : Rows.RespSameSaid :=
  OpenClaim.holds_of_cond 7 Tryd.f7 rfl rfl rfl rfl rfl rfl rfl ⟨rfl, rfl, rfl, rfl, rfl⟩ rfl rfl rfl rfl rfl (by kernel_rfl) Tryd.func7 (by kernel_rfl)
    (of_decide_eq_true (by kernel_rfl)) (by unfold Func.isWrapper; first | (rw [if_pos (by decide +kernel)]; kernel_rfl) | (rw [if_neg (by decide +kernel)]; exact ⟨rfl, rfl⟩))
    (fun os started H enc _ F => by rw [OpenClaim.pre_eq_preRow]; exact lifted os started H enc F)

theorem plain (f : FuncId) (fn : Func) (hf : Tryd.pinned.checked.prog.funcNamed "tabor/taborlaw04.RespSame" = some f) (hfn : Tryd.pinned.checked.prog.funcs[f]? = some fn) :
    true = Tryd.pinned.checked.prog.looks [] ∧ ∀ (j : Nat) t, fn.params[j]? = some t → Tryd.pinned.checked.prog.wantsStandIn t = false := by
  obtain rfl : f = 7 := Option.some.inj ((show Tryd.prog.funcNamed "tabor/taborlaw04.RespSame" = some 7 by kernel_rfl).symm.trans hf) |>.symm
  obtain rfl : fn = Tryd.f7 := (Option.some.inj (Tryd.func7.symm.trans hfn)).symm
  refine ⟨by kernel_rfl, fun j t ht => ?_⟩
  rw [Tryd.params7] at ht
  obtain rfl : t = 41 := by simpa using Array.mem_of_getElem? ht
  exact (show Tryd.prog.wantsStandIn 41 = false by kernel_rfl)

/-- The card. -/
theorem card : Rows.RespSameCardSaid :=
  Claim7.holds_tied_plain_at .later [] _ _ _ _ said (fun _ h => by cases h) (by kernel_rfl) (fun _ h => by cases h) respSame_row_tie rfl ⟨rfl, rfl⟩ (by kernel_rfl) rfl plain (by kernel_rfl)
#print axioms card
end Go.Proofs.YtglicojojpggmaaDoor.respSame
