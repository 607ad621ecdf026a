/- Proved here: 'taborlaw04.RespRequest' returns true for every list of texts, which reads behind the call as it read before. Conditions: those of the given card (the three listed tables hold what the program's text lays; nothing else). -/
import Derived.Test.YtglicojojpggmaaDoorFrame
import Derived.Test.YtglicojojpggmaaDoorCopy
import Derived.Test.YtglicojojpggmaaDoorRReq
import Derived.Test.YtglicojojpggmaaDoorFew
namespace Go.Proofs.YtglicojojpggmaaDoor.respRequest
open Go Go.RowKit Go.ChangeShapes Go.WideShapes Go.ChangeAt
open Go.ChangeMaps (open_string shut_string)

set_option maxHeartbeats 4000000 in
set_option maxRecDepth 100000 in
theorem walk (A : Option Addr) (n c : Nat) (ls : List ByteArray) (w : World) (hn : ls.length = n) (hnc : n ≤ c) (bn : n ≤ 9223372036854775807) (hs : ∀ s ∈ ls, s.size ≤ 140737488351232) (hA : A = none → c = 0) (hr : RdV w A (cellsS ls)) (hg : TAB w) :
    Calls Tryd.prog 3 #[.slice A n c] w fun e w' => e = .returned (.bool true) ∧ Below w.heap.size w w' := by
  have hcall := few_any A n c ls w hn bn hs hr
  have HN := Lib.hid hn
  have HO := Lib.hid hA
  have HR := Lib.hid hr
  have HG := Lib.hid hg
  by_cases hf : szS ls ≤ 3000
  rotate_left
  · rw [decide_eq_false hf] at hcall
    have HC := Lib.hid hcall
    have HW := Lib.hid (works_any w hg)
    clear hn hA hr hg hcall hs hf
    go_enter Tryd.func3, Tryd.ntmps3
    go_wp2_with fail
    refine HC.out.mono ?_
    rintro e w2 ⟨rfl, rfl⟩
    go_wp2_with fail
    refine HW.out.mono ?_
    rintro e w2 ⟨rfl, hb2⟩
    go_wp2
    go_ret
    exact ⟨rfl, hb2⟩
  rw [decide_eq_true hf] at hcall
  have HC := Lib.hid hcall
  have hln := szS_len ls
  have bn' : n ≤ 750 := by omega
  have HF := Lib.hid (show szS ls ≤ 10000000 by omega)
  clear hn hA hr hg hcall hs hf hln
  go_enter Tryd.func3, Tryd.ntmps3
  go_wp2_with fail
  refine HC.out.mono ?_
  rintro e w2 ⟨rfl, rfl⟩
  go_wp2_with (first
    | (at_builtin; refine wpList_strs rfl (.tmp 12) (.tmp 13) rfl w2.heap.size _ [] 0 rfl rfl (own_empty w2 9 w2.heap.size (Nat.le_refl _)) A n c ls HN.out rfl (HR.out.below (below_new w2 _)) HO.out hnc (by omega) (by simp) ?_; intro v5 w5 ho5 hb5 hs5; have HB5 := Lib.hid ((below_new w2 (.cells #[] 9)).trans hb5); have hs5' := HB5.out.size; have HO5 := Lib.hid ho5; clear ho5 hb5 hs5)
    | (at_builtin; refine wpList_strs rfl (.tmp 14) (.tmp 15) rfl w2.heap.size v5 _ (0 + n) (by rw [List.nil_append, HN.out]; omega) rfl (own_below HO5.out (below_new w5 _)) (some ⟨w5.heap.size, 0, none⟩) 1 1 [spare] rfl rfl (new_rdS w5 [spare]) (fun h => by cases h) (Nat.le_refl _) (by omega) (by simp; omega) ?_; intro v7 w7 ho7 hb7 hs7; obtain ⟨g, off, c7, hv7, hc7, hgl, hgb, hr7, hcell7⟩ := copy_formS ho7 HN.out (by omega); subst hv7; have HR7 := Lib.hid hr7; have HC7 := Lib.hid hcell7; have HB7 := Lib.hid ((HB5.out.trans ((below_new w5 (.cells (cellsS [spare]).toArray 9)).mono hs5')).trans hb7); clear ho7 hb7 hs7 hr7 hcell7)
    | (refine wpList_upS (by rfl) (.tmp 16) (.tmp 18) rfl (some ⟨g, off, none⟩) (0 + n + 1) c7 (by first | rfl | (simp only [Nat.zero_add]; rfl)) n rfl (by omega) ?_))
  have hs7 := HB7.out.size
  refine (request_any (some ⟨g, off, none⟩) n c7 ls w7 HN.out HR7.out HF.out (tab_below HG.out HB7.out)).mono ?_
  intro e w8 hput
  obtain ⟨v8, rfl, ho8, hb8⟩ := hput
  have HRB := Lib.hid ho8
  have HB8 := Lib.hid (HB7.out.trans (hb8.mono hs7))
  have HR8 := Lib.hid (HR7.out.below hb8)
  have HC8 := Lib.hid ((hb8.cell (p := ⟨g, off + n, none⟩) hgl).trans HC7.out)
  have hs8 := hb8.size
  clear ho8 hb8 HC7 HR7
  obtain ⟨L, hL⟩ : ∃ L, (if reqE ls = 0 then reqL ls.length ls else []) = L := ⟨_, rfl⟩
  have hS : (if reqE ls = 0 then reqS ls.length ls else ⟨#[]⟩) = ⟨L.toArray⟩ := by
    rw [← hL]
    split
    · rw [← req_same]
    · rfl
  rw [hL] at HRB
  have HS := Lib.hid hS
  clear hS hL
  obtain ⟨A8, c8, rfl, hc8, hA8, hr8, hlt8⟩ := HRB.out.form rfl
  have HR88 := Lib.hid hr8
  clear hr8
  go_wp2_with fail
  refine (rreq_any A n c ls w8 HN.out (HR.out.below HB8.out) HF.out (tab_below HG.out HB8.out)).mono ?_
  rintro e w9 ⟨rfl, hb9⟩
  rw [HS.out]
  have hconv := conv_rd hA8 hc8 (HR88.out.below hb9)
  have HB9 := Lib.hid (HB8.out.trans (hb9.mono HB8.out.size))
  have HR9 := Lib.hid (HR8.out.below hb9)
  have HC9 := Lib.hid ((hb9.cell (p := ⟨g, off + n, none⟩) (Nat.lt_of_lt_of_le hgl hs8)).trans HC8.out)
  have hs9 := hb9.size
  clear HC8 HR8
  generalize reqE ls = E at *
  go_wp2_with fail
  refine (num_any2 E w9).mono ?_
  rintro e w' ⟨rfl, rfl⟩
  clear hconv
  go_wp2_with fail
  refine (one_any (some ⟨g, off, none⟩) A n n c7 c ls ls w9 HN.out HN.out (by omega) (by omega) HR9.out (HR.out.below HB9.out)).mono ?_
  rintro e w11 ⟨he, q11, rfl⟩
  rw [eqS_refl] at he
  subst he
  have hb11 := below_any q11 (Below.refl w9.heap.size w9)
  have HB11 := Lib.hid (HB9.out.trans (hb11.mono HB9.out.size))
  have hcell := (show (w9.drewN q11).cell? ⟨g, off + n, none⟩ = some (.string { data := #[115, 112, 97, 114, 101] }) from HC9.out)
  generalize w9.drewN q11 = w11 at *
  clear hb11
  have hn1 : (n : Int) < (n : Int) + 1 := by omega
  go_wp2_with (refine wpList_upS (by rfl) (.tmp 46) (.tmp 49) rfl (some ⟨g, off, none⟩) n c7 rfl (n + 1) rfl hc7 ?_)
  refine (works_any w11 (tab_below HG.out HB11.out)).mono ?_
  rintro e w12 ⟨rfl, hb12⟩
  go_wp2
  go_ret
  exact ⟨rfl, HB11.out.trans (hb12.mono HB11.out.size)⟩


set_option maxRecDepth 20000 in
theorem contract (H : Type) (enc : TypeId × Value → H) (W : World) (base : Nat) (args : Array Value) (ds gs : List (DataW H)) (before : List MemPlace)
    (hval : ∀ (j : Nat) t v, Tryd.f3.params[j]? = some t → args[j]? = some v → Value.okWide Tryd.prog W .any base t v)
    (hW : DataW.Whole enc Tryd.prog Tryd.f3.params.toList Rows.respRequestSpec.vars false W args.toList ds gs before) 
    (hZ : (DataW.weightsEach Tryd.prog (Tryd.f3.params.toList ++ (OpenSpec.ofChange Rows.respRequestSpec).bare.plain.varTypes Tryd.prog) (ds ++ gs)).all (· ≤ reachBytes) = true) (hL : laidMetH Tryd.prog Rows.respRequestRow.laid W) :
    Calls Tryd.prog 3 args W fun e W' => ∃ v, e = .returned v ∧ Rows.respRequestSpec.post enc Tryd.prog Tryd.f3 false true false false W args v W' := by
  have hW' := hW
  obtain ⟨p, q, hA0, hV, rfl, hfz, hnd⟩ := hW
  have hA : DataW.TrodAll enc Tryd.prog W 0 (fun _ => true) true Tryd.f3.params.toList args.toList ds p := hA0
  rw [Tryd.params3] at hA hval hZ
  obtain ⟨v0, vs0, d0, ds0, p0, q0, hargs, rfl, rfl, h0, r0⟩ := trodAll_cons hA
  obtain ⟨rfl, rfl, rfl⟩ := trodAll_nil r0
  obtain rfl : args = #[v0] := by cases args; simp_all
  obtain ⟨rfl, rfl⟩ := trodVars_none hV
  have k0 := h0
  have lt0 : ∀ x ∈ p0, x.block < W.heap.size := by obtain ⟨m, hm⟩ := k0; exact DataW.trod_lt m _ _ _ hm
  obtain ⟨ca0, na0, ea0, rfl⟩ := okWide_slice Tryd.underlying22 (hval 0 22 v0 rfl rfl)
  obtain ⟨fu0, hf0⟩ := h0
  obtain ⟨A0, n0, c0, l0, hv0, hn0, hnc0, hcm0, hO0, hr0, hs0⟩ := strs_of hf0 (weight_at hZ (j := 0) rfl rfl)
  cases hv0
  simp only [maxLen] at hcm0
  clear hA0
  refine (walk _ _ _ l0 W hn0 hnc0 (by omega) hs0 hO0 hr0 (laid_pow hL)).mono fun e W' ⟨he, bel⟩ => ?_
  subst he
  exact ⟨_, rfl, _, _, _, [], _, [], hW', trodAll_mk1 (shut_bool Tryd.underlying4 _), (trodAll_cons_mk (Below.trod laidOut (by kernel_rfl) (of_decide_eq_true (by kernel_rfl)) k0 bel lt0) trodAll_mk0), rfl, bel.frame _, fun h => by cases h⟩

theorem reads (os : Os) {H : Type} (enc : TypeId × Value → H) : ∃ places, DataW.whole enc Tryd.prog ((laidWorld os).forCall (fun _ _ => 0) ⟨#[], #[.slice none 0 0], []⟩).memory Tryd.f3.params.toList Rows.respRequestSpec.vars false (#[.slice none 0 0] : Array Value).toList 8 = some ([.nil], [], places) :=
  ⟨[], by kernel_rfl⟩

set_option maxRecDepth 100000 in
theorem lifted (os : Os) (started : os.Started) (H : Type) (enc : TypeId × Value → H) (F : Stop.Interp) :
    ReturnsInHanded {} Tryd.checked os 3 .any ((OpenSpec.ofChange Rows.respRequestSpec).preRow enc Tryd.prog Tryd.f3 Rows.respRequestRow.domain false Rows.respRequestRow.laid) (((OpenSpec.ofChange Rows.respRequestSpec).at F).post enc Tryd.prog Tryd.f3 false true false false) := by
  obtain ⟨places, hx⟩ := reads os enc
  refine returnsInHanded_of_row (C := Tryd.checked) (s := OpenSpec.ofChange Rows.respRequestSpec) own started (by kernel_rfl) Tryd.func3
    (witness_row_at (enc := enc) (C := Tryd.checked) false (laidWorld os) #[.slice none 0 0] rfl (by kernel_rfl) (by kernel_rfl) (by kernel_rfl)
      (OpenSpec.preRow_of_cond 8 hx (by kernel_rfl) (fun k hk => by cases hk) (by kernel_rfl) (laid_met os _))) ?_
  intro W base args ds gs before hval hW _ _ hZ hL _ _
  exact contract H enc W base args ds gs before hval hW hZ hL

theorem said : Rows.RespRequestSaid :=
  OpenClaim.holds_of_cond 3 Tryd.f3 rfl rfl rfl rfl rfl rfl rfl ⟨rfl, rfl, rfl, rfl, rfl⟩ rfl rfl rfl rfl rfl (by kernel_rfl) Tryd.func3 (by kernel_rfl)
    (of_decide_eq_true (by kernel_rfl)) (by unfold Func.isWrapper; first | (rw [if_pos (by decide +kernel)]; kernel_rfl) | (rw [if_neg (by decide +kernel)]; exact ⟨rfl, rfl⟩))
    (fun os started H enc _ F => by rw [OpenClaim.pre_eq_preRow]; exact lifted os started H enc F)

theorem plain (f : FuncId) (fn : Func) (hf : Tryd.pinned.checked.prog.funcNamed "tabor/taborlaw04.RespRequest" = some f) (hfn : Tryd.pinned.checked.prog.funcs[f]? = some fn) :
    true = Tryd.pinned.checked.prog.looks [] ∧ ∀ (j : Nat) t, fn.params[j]? = some t → Tryd.pinned.checked.prog.wantsStandIn t = false := by
  obtain rfl : f = 3 := Option.some.inj ((show Tryd.prog.funcNamed "tabor/taborlaw04.RespRequest" = some 3 by kernel_rfl).symm.trans hf) |>.symm
  obtain rfl : fn = Tryd.f3 := (Option.some.inj (Tryd.func3.symm.trans hfn)).symm
  refine ⟨by kernel_rfl, fun j t ht => ?_⟩
  rw [Tryd.params3] at ht
  obtain rfl : t = 22 := by simpa using Array.mem_of_getElem? ht
  exact (show Tryd.prog.wantsStandIn 22 = false by kernel_rfl)

/-- The card. -/
theorem card : Rows.RespRequestCardSaid :=
  Claim7.holds_tied_plain_at .later [] _ _ _ _ said (fun _ h => by cases h) (by kernel_rfl) (fun _ h => by cases h) respRequest_row_tie rfl ⟨rfl, rfl⟩ (by kernel_rfl) rfl plain (by kernel_rfl)
#print axioms card
end Go.Proofs.YtglicojojpggmaaDoor.respRequest
