/- Proved here: 'taborlaw04.RespDecode' returns true for every slice of bytes, which reads behind the call as it read before. Conditions: those of the given card (the three listed tables hold what the program's text lays; nothing else). -/
import Derived.Test.YtglicojojpggmaaDoorFrame
import Derived.Test.YtglicojojpggmaaDoorCopy
import Derived.Test.YtglicojojpggmaaDoorDecode
import Derived.Test.YtglicojojpggmaaDoorRdB
import Derived.Test.YtglicojojpggmaaDoorRsA
namespace Go.Proofs.YtglicojojpggmaaDoor.respDecode
open Go Go.RowKit Go.ChangeShapes Go.WideShapes Go.ChangeAt
open Go.ChangeMaps (open_string shut_string)

set_option maxHeartbeats 4000000 in
set_option maxRecDepth 100000 in
theorem walk (A : Option Addr) (n c : Nat) (l : List UInt8) (w : World) (hn : l.length = n) (hnc : n ≤ c) (bn : n ≤ 9223372036854775807) (hA : A = none → c = 0) (hr : Rd w A l) (hg : TAB w) :
    Calls Tryd.prog 6 #[.slice A n c] w fun e w' => e = .returned (.bool true) ∧ Below w.heap.size w w' := by
  have HN := Lib.hid hn
  have HA := Lib.hid hA
  have HR := Lib.hid hr
  have HG := Lib.hid hg
  by_cases hb : 3000 < n
  · have HW := Lib.hid (works_any w hg)
    clear hn hA hr hg
    go_enter Tryd.func6, Tryd.ntmps6
    go_wp2_with fail
    refine HW.out.mono ?_
    rintro e w2 ⟨rfl, hb2⟩
    go_wp2
    go_ret
    exact ⟨rfl, hb2⟩
  have bn' : n ≤ 3000 := by omega
  have hbs : (⟨l.toArray⟩ : ByteArray).size = n := by rw [← hn]; rfl
  have HS := Lib.hid hbs
  obtain ⟨D, hp⟩ : ∃ D, decR l = D := ⟨_, rfl⟩
  have HP := Lib.hid hp
  clear hn hA hr hg hb bn hbs hp
  go_enter Tryd.func6, Tryd.ntmps6
  go_wp2_with (first
    | (at_builtin; refine wpList_bytes rfl (.tmp 14) (.tmp 15) rfl w.heap.size _ [] rfl (own_empty w 5 w.heap.size (Nat.le_refl _)) A n c l HN.out rfl (HR.out.below (below_new w _)) HA.out hnc (by simp; omega) (by simp) ?_; intro v5 w5 ho5 hb5 hs5; have HB5 := Lib.hid ((below_new w (.cells #[] 5)).trans hb5); have hs5' := HB5.out.size; have HO5 := Lib.hid ho5; clear ho5 hb5 hs5)
    | (at_builtin; refine wpList_bytes rfl (.tmp 16) (.tmp 17) rfl w.heap.size v5 _ rfl (HO5.out.below (below_new w5 _)) (some ⟨w5.heap.size, 0, none⟩) 1 1 [77] rfl rfl (new_rdB w5 [77]) (fun h => by cases h) (Nat.le_refl _) (by rw [List.nil_append, HN.out]; omega) (by simp; omega) ?_; intro v7 w7 ho7 hb7 hs7; obtain ⟨g, off, c7, hv7, hc7, hgl, hgb, hr7, hcell7⟩ := copy_form ho7 HN.out; subst hv7; have HR7 := Lib.hid hr7; have HC7 := Lib.hid hcell7; have HB7 := Lib.hid ((HB5.out.trans ((below_new w5 (.cells (cellsB [77]).toArray 5)).mono hs5')).trans hb7); clear ho7 hb7 hs7 hr7 hcell7)
    | (refine wpList_up (by rfl) (.tmp 18) (.tmp 20) rfl (some ⟨g, off, none⟩) (n + 1) c7 rfl n rfl (by omega) ?_))
  have hs7 := HB7.out.size
  refine (decode_any (some ⟨g, off, none⟩) n c7 l w7 HN.out (by omega) (fun h => by cases h) HR7.out (fun ad e => by cases e; exact hgl) (by omega)).mono ?_
  intro e8 w8 hread
  rw [HP.out] at hread
  obtain ⟨A8, c8, rfl, hk8, hb8⟩ := hread
  have HB8 := Lib.hid (HB7.out.trans (hb8.mono hs7))
  have HR78 := Lib.hid (HR7.out.below hb8)
  have HC8 := Lib.hid ((hb8.cell (p := ⟨g, off + n, none⟩) hgl).trans HC7.out)
  have hs8 := hb8.size
  have hb9 := below_new w8 (.cells (rpV D.r A8 c8) 41)
  have HK9 := Lib.hid (hk8.old.below hb9)
  have HX9 := Lib.hid (heap_alloc_new w8 (.cells (rpV D.r A8 c8) 41))
  have HB9 := Lib.hid (HB8.out.trans (hb9.mono HB8.out.size))
  have HR79 := Lib.hid (HR78.out.below hb9)
  have HC9 := Lib.hid ((hb9.cell (p := ⟨g, off + n, none⟩) (Nat.lt_of_lt_of_le hgl hs8)).trans HC8.out)
  have hg9 : g < (w8.alloc (.cells (rpV D.r A8 c8) 41)).heap.size := Nat.lt_of_lt_of_le (Nat.lt_of_lt_of_le hgl hs8) hb9.size
  have hconv := conv_n HN.out HA.out hnc (HR.out.below HB9.out)
  clear hk8 hb8 hb9 HR78 HC8 HB8 HR7 HC7
  go_wp2_with fail
  generalize (w8.alloc (.cells (rpV D.r A8 c8) 41)) = W9 at *
  generalize w8.heap.size = X at *
  refine (rdecode_any ⟨l.toArray⟩ W9 (by rw [HS.out]; omega)).mono ?_
  intro e10 w10 hread
  rw [show bl ⟨l.toArray⟩ = l from rfl, HP.out] at hread
  obtain ⟨A10, c10, rfl, hk10, hb10⟩ := hread
  have hb11 := below_new w10 (.cells (rpV D.r A10 c10) 41)
  have hb9t := hb10.trans (hb11.mono hb10.size)
  have HK11 := Lib.hid (hk10.old.below hb11)
  have HKA := Lib.hid ((HK9.out.imp (Nat.le_refl _) (fun b hb _ => ⟨rfl, (by have h0 := lt_of_block HX9.out; omega : b < W9.heap.size)⟩)).below hb9t)
  have HX11 := Lib.hid (heap_alloc_new w10 (.cells (rpV D.r A10 c10) 41))
  have HXA := Lib.hid ((hb9t.block _ (lt_of_block HX9.out)).trans HX9.out)
  have HB11 := Lib.hid (HB9.out.trans (hb9t.mono HB9.out.size))
  have HR11 := Lib.hid (HR79.out.below hb9t)
  have HC11 := Lib.hid ((hb9t.cell (p := ⟨g, off + n, none⟩) hg9).trans HC9.out)
  clear hconv hk10 hb10 hb11 hb9t HK9 HX9 HB9 HR79 HC9 hg9
  go_upto_region 6 with (fail)
  generalize (w10.alloc (.cells (rpV D.r A10 c10) 41)) = W11 at *
  generalize w10.heap.size = Y at *
  have x0 : W11.cell? ⟨X, 0, none⟩ = some (.int .i64 D.r.kind) := by simp only [World.cell?, HXA.out]; rfl
  have x1 : W11.cell? ⟨X, 1, none⟩ = some (.int .i64 D.r.num) := by simp only [World.cell?, HXA.out]; rfl
  have x2 : W11.cell? ⟨X, 2, none⟩ = some (.string D.r.text) := by simp only [World.cell?, HXA.out]; rfl
  have x3 : W11.cell? ⟨X, 3, none⟩ = some (.slice A8 D.r.kids.length c8) := by simp only [World.cell?, HXA.out]; rfl
  have y0 : W11.cell? ⟨Y, 0, none⟩ = some (.int .i64 D.r.kind) := by simp only [World.cell?, HX11.out]; rfl
  have y1 : W11.cell? ⟨Y, 1, none⟩ = some (.int .i64 D.r.num) := by simp only [World.cell?, HX11.out]; rfl
  have y2 : W11.cell? ⟨Y, 2, none⟩ = some (.string D.r.text) := by simp only [World.cell?, HX11.out]; rfl
  have y3 : W11.cell? ⟨Y, 3, none⟩ = some (.slice A10 D.r.kids.length c10) := by simp only [World.cell?, HX11.out]; rfl
  have HSM := Lib.hid (rsame_any D.r D.r A8 A10 c8 c10 _ _ W11 HKA.out HK11.out)
  go_wp2_with fail
  refine HSM.out.mono ?_
  rintro e w12 ⟨he, hb12⟩
  rw [sameR_refl] at he
  subst he
  have HB12 := Lib.hid (HB11.out.trans (hb12.mono HB11.out.size))
  have hconv1 := conv_n HN.out (fun h => by cases h) (show n ≤ c7 by omega) (HR11.out.below hb12)
  have hconv2 := conv_n HN.out HA.out hnc (HR.out.below HB12.out)
  have hcell := (hb12.cell (p := ⟨g, off + n, none⟩) (block_lt HC11.out)).trans HC11.out
  clear hb12 HSM x0 x1 x2 x3 y0 y1 y2 y3
  go_wp2_with fail
  refine (num_any2 _ w12).mono ?_
  rintro e w' ⟨rfl, rfl⟩
  have hn1 : (n : Int) < (n : Int) + 1 := by omega
  go_wp2_with (refine wpList_up (by rfl) (.tmp 57) (.tmp 60) rfl (some ⟨g, off, none⟩) n c7 rfl (n + 1) rfl hc7 ?_)
  refine (works_any w12 (tab_below HG.out HB12.out)).mono ?_
  rintro e w13 ⟨rfl, hb13⟩
  go_wp2
  go_ret
  exact ⟨rfl, HB12.out.trans (hb13.mono HB12.out.size)⟩


set_option maxRecDepth 20000 in
theorem contract (H : Type) (enc : TypeId × Value → H) (W : World) (base : Nat) (args : Array Value) (ds gs : List (DataW H)) (before : List MemPlace)
    (hval : ∀ (j : Nat) t v, Tryd.f6.params[j]? = some t → args[j]? = some v → Value.okWide Tryd.prog W .any base t v)
    (hW : DataW.Whole enc Tryd.prog Tryd.f6.params.toList Rows.respDecodeSpec.vars false W args.toList ds gs before) 
    (hZ : (DataW.weightsEach Tryd.prog (Tryd.f6.params.toList ++ (OpenSpec.ofChange Rows.respDecodeSpec).bare.plain.varTypes Tryd.prog) (ds ++ gs)).all (· ≤ reachBytes) = true) (hL : laidMetH Tryd.prog Rows.respDecodeRow.laid W) :
    Calls Tryd.prog 6 args W fun e W' => ∃ v, e = .returned v ∧ Rows.respDecodeSpec.post enc Tryd.prog Tryd.f6 false true false false W args v W' := by
  have hW' := hW
  obtain ⟨p, q, hA0, hV, rfl, hfz, hnd⟩ := hW
  have hA : DataW.TrodAll enc Tryd.prog W 0 (fun _ => true) true Tryd.f6.params.toList args.toList ds p := hA0
  rw [Tryd.params6] at hA hval hZ
  obtain ⟨v0, vs0, d0, ds0, p0, q0, hargs, rfl, rfl, h0, r0⟩ := trodAll_cons hA
  obtain ⟨rfl, rfl, rfl⟩ := trodAll_nil r0
  obtain rfl : args = #[v0] := by cases args; simp_all
  obtain ⟨rfl, rfl⟩ := trodVars_none hV
  have k0 := h0
  have lt0 : ∀ x ∈ p0, x.block < W.heap.size := by obtain ⟨m, hm⟩ := k0; exact DataW.trod_lt m _ _ _ hm
  obtain ⟨ca0, na0, ea0, rfl⟩ := okWide_slice Tryd.underlying25 (hval 0 25 v0 rfl rfl)
  obtain ⟨fu0, hf0⟩ := h0
  obtain ⟨A0, n0, c0, l0, hv0, hn0, hnc0, hcm0, hO0, hr0⟩ := bytes_of hf0
  cases hv0
  simp only [maxLen] at hcm0
  clear hA0
  refine (walk _ _ _ l0 W hn0 hnc0 (by omega) hO0 hr0 (laid_pow hL)).mono fun e W' ⟨he, bel⟩ => ?_
  subst he
  exact ⟨_, rfl, _, _, _, [], _, [], hW', trodAll_mk1 (shut_bool Tryd.underlying4 _), (trodAll_cons_mk (Below.trod laidOut (by kernel_rfl) (of_decide_eq_true (by kernel_rfl)) k0 bel lt0) trodAll_mk0), rfl, bel.frame _, fun h => by cases h⟩

theorem reads (os : Os) {H : Type} (enc : TypeId × Value → H) : ∃ places, DataW.whole enc Tryd.prog ((laidWorld os).forCall (fun _ _ => 0) ⟨#[], #[.slice none 0 0], []⟩).memory Tryd.f6.params.toList Rows.respDecodeSpec.vars false (#[.slice none 0 0] : Array Value).toList 8 = some ([.nil], [], places) :=
  ⟨[], by kernel_rfl⟩

set_option maxRecDepth 100000 in
theorem lifted (os : Os) (started : os.Started) (H : Type) (enc : TypeId × Value → H) (F : Stop.Interp) :
    ReturnsInHanded {} Tryd.checked os 6 .any ((OpenSpec.ofChange Rows.respDecodeSpec).preRow enc Tryd.prog Tryd.f6 Rows.respDecodeRow.domain false Rows.respDecodeRow.laid) (((OpenSpec.ofChange Rows.respDecodeSpec).at F).post enc Tryd.prog Tryd.f6 false true false false) := by
  obtain ⟨places, hx⟩ := reads os enc
  refine returnsInHanded_of_row (C := Tryd.checked) (s := OpenSpec.ofChange Rows.respDecodeSpec) own started (by kernel_rfl) Tryd.func6
    (witness_row_at (enc := enc) (C := Tryd.checked) false (laidWorld os) #[.slice none 0 0] rfl (by kernel_rfl) (by kernel_rfl) (by kernel_rfl)
      (OpenSpec.preRow_of_cond 8 hx (by kernel_rfl) (fun k hk => by cases hk) (by kernel_rfl) (laid_met os _))) ?_
  intro W base args ds gs before hval hW _ _ hZ hL _ _
  exact contract H enc W base args ds gs before hval hW hZ hL

theorem said : Rows.RespDecodeSaid :=
  OpenClaim.holds_of_cond 6 Tryd.f6 rfl rfl rfl rfl rfl rfl rfl ⟨rfl, rfl, rfl, rfl, rfl⟩ rfl rfl rfl rfl rfl (by kernel_rfl) Tryd.func6 (by kernel_rfl)
    (of_decide_eq_true (by kernel_rfl)) (by unfold Func.isWrapper; first | (rw [if_pos (by decide +kernel)]; kernel_rfl) | (rw [if_neg (by decide +kernel)]; exact ⟨rfl, rfl⟩))
    (fun os started H enc _ F => by rw [OpenClaim.pre_eq_preRow]; exact lifted os started H enc F)

theorem plain (f : FuncId) (fn : Func) (hf : Tryd.pinned.checked.prog.funcNamed "tabor/taborlaw04.RespDecode" = some f) (hfn : Tryd.pinned.checked.prog.funcs[f]? = some fn) :
    true = Tryd.pinned.checked.prog.looks [] ∧ ∀ (j : Nat) t, fn.params[j]? = some t → Tryd.pinned.checked.prog.wantsStandIn t = false := by
  obtain rfl : f = 6 := Option.some.inj ((show Tryd.prog.funcNamed "tabor/taborlaw04.RespDecode" = some 6 by kernel_rfl).symm.trans hf) |>.symm
  obtain rfl : fn = Tryd.f6 := (Option.some.inj (Tryd.func6.symm.trans hfn)).symm
  refine ⟨by kernel_rfl, fun j t ht => ?_⟩
  rw [Tryd.params6] at ht
  obtain rfl : t = 25 := by simpa using Array.mem_of_getElem? ht
  exact (show Tryd.prog.wantsStandIn 25 = false by kernel_rfl)

/-- The card. -/
theorem card : Rows.RespDecodeCardSaid :=
  Claim7.holds_tied_plain_at .later [] _ _ _ _ said (fun _ h => by cases h) (by kernel_rfl) (fun _ h => by cases h) respDecode_row_tie rfl ⟨rfl, rfl⟩ (by kernel_rfl) rfl plain (by kernel_rfl)
#print axioms card
end Go.Proofs.YtglicojojpggmaaDoor.respDecode
