/- What is told of a cache that is none. -/
import Derived.Test.YtpomaabkgbaikaaDoorAlx
import Derived.Test.YtpomaabkgbaikaaDoorSa
namespace Go.Proofs.YtpomaabkgbaikaaDoor
open Go Go.RowKit Go.Shelf
attribute [local go_sem] Oper.semAt_some
theorem put_nil (s : ByteArray) (w : World) : Calls Tryd.prog 23 #[.pointer none, .string s] w fun e w' => e = .returned (.tuple #[.string ⟨#[]⟩, .int .i64 1]) ∧ w' = w := by
  go_enter Tryd.func23, Tryd.ntmps23
  go_wp2_with fail
  refine (none_nil _).mono ?_
  rintro e w1 ⟨rfl, rfl⟩
  go_wp2_with fail
  go_ret2
  exact ⟨rfl, rfl⟩
theorem get_nil (s : ByteArray) (w : World) : Calls Tryd.prog 13 #[.pointer none, .string s] w fun e w' => e = .returned (.tuple #[.string ⟨#[]⟩, .bool false]) ∧ w' = w := by
  go_enter Tryd.func13, Tryd.ntmps13
  go_wp2_with fail
  refine (none_nil _).mono ?_
  rintro e w1 ⟨rfl, rfl⟩
  go_wp2_with fail
  go_ret2
  exact ⟨rfl, rfl⟩
theorem flush_nil (w : World) : Calls Tryd.prog 27 #[.pointer none] w fun e w' => e = .returned (.tuple #[]) ∧ w' = w := by
  go_enter Tryd.func27, Tryd.ntmps27
  go_wp2_with fail
  refine (none_nil _).mono ?_
  rintro e w1 ⟨rfl, rfl⟩
  go_wp2_with fail
  go_end0
  exact ⟨rfl, rfl⟩
theorem named_nil (s : ByteArray) (w : World) : Calls Tryd.prog 45 #[.pointer none, .string s, .func (.func 7) #[] #[]] w fun e w' => e = .returned (.int .i64 1) ∧ w' = w := by
  go_enter Tryd.func45, Tryd.ntmps45
  go_wp2_with fail
  refine (none_nil _).mono ?_
  rintro e w1 ⟨rfl, rfl⟩
  go_wp2_with fail
  go_ret
  exact ⟨rfl, rfl⟩
theorem load_nil (s t : ByteArray) (w : World) : Calls Tryd.prog 24 #[.pointer none, .string s, .string t] w fun e w' => e = .returned (.int .i64 1) ∧ w' = w := by
  go_enter Tryd.func24, Tryd.ntmps24
  go_wp2_with fail
  refine (named_nil s _).mono ?_
  rintro e w1 ⟨rfl, rfl⟩
  go_wp2_with fail
  go_ret
  exact ⟨rfl, rfl⟩
theorem unload_nil (s : ByteArray) (w : World) : Calls Tryd.prog 26 #[.pointer none, .string s] w fun e w' => e = .returned (.int .i64 1) ∧ w' = w := by
  go_enter Tryd.func26, Tryd.ntmps26
  go_wp2_with fail
  refine (named_nil s _).mono ?_
  rintro e w1 ⟨rfl, rfl⟩
  go_wp2_with fail
  go_ret
  exact ⟨rfl, rfl⟩
theorem copy_nil (w : World) : Calls Tryd.prog 17 #[.pointer none] w fun e w' => e = .returned (.pointer none) ∧ w' = w := by
  go_enter Tryd.func17, Tryd.ntmps17
  go_wp2_with fail
  refine (none_nil _).mono ?_
  rintro e w1 ⟨rfl, rfl⟩
  go_wp2_with fail
  go_ret
  exact ⟨rfl, rfl⟩
theorem len_nil (w : World) : Calls Tryd.prog 28 #[.pointer none] w fun e w' => e = .returned (.int .i64 0) ∧ w' = w := by
  go_enter Tryd.func28, Tryd.ntmps28
  go_wp2_with fail
  refine (none_nil _).mono ?_
  rintro e w1 ⟨rfl, rfl⟩
  go_wp2_with fail
  go_ret
  exact ⟨rfl, rfl⟩
theorem names_nil (w : World) : Calls Tryd.prog 29 #[.pointer none] w fun e w' => e = .returned (.slice none 0 0) ∧ w' = w := by
  go_enter Tryd.func29, Tryd.ntmps29
  go_wp2_with fail
  refine (none_nil _).mono ?_
  rintro e w1 ⟨rfl, rfl⟩
  go_wp2_with fail
  go_ret
  exact ⟨rfl, rfl⟩
theorem same_nil (w : World) : Calls Tryd.prog 19 #[.pointer none, .pointer none] w fun e w' => e = .returned (.bool true) ∧ w' = w := by
  go_enter Tryd.func19, Tryd.ntmps19
  go_wp2_with fail
  refine (none_nil _).mono ?_
  rintro e w1 ⟨rfl, rfl⟩
  go_wp2_with fail
  refine (none_nil _).mono ?_
  rintro e w1 ⟨rfl, rfl⟩
  go_wp2_with fail
  refine (none_nil _).mono ?_
  rintro e w1 ⟨rfl, rfl⟩
  go_wp2_with fail
  go_ret
  exact ⟨rfl, rfl⟩
theorem same_nil2 {C D M : Nat} {ds ns : List En} (w : World) (h : CA C D M ds ns w) : Calls Tryd.prog 19 #[.pointer none, .pointer (some ⟨C, 0, none⟩)] w fun e w' => e = .returned (.bool false) ∧ w' = w := by
  have HN := Lib.hid (none_any w h)
  clear h
  go_enter Tryd.func19, Tryd.ntmps19
  go_wp2_with fail
  refine (none_nil _).mono ?_
  rintro e w1 ⟨rfl, rfl⟩
  go_wp2_with fail
  refine (none_nil _).mono ?_
  rintro e w1 ⟨rfl, rfl⟩
  go_wp2_with fail
  refine HN.out.mono ?_
  rintro e w1 ⟨rfl, rfl⟩
  go_wp2_with fail
  go_ret
  exact ⟨rfl, rfl⟩
set_option maxRecDepth 100000 in
theorem all_nil (w : World) : Calls Tryd.prog 18 #[.pointer none] w (AllP w []) := by
  have hb1 := below_new w (.cells #[.slice none 0 0] 60)
  have hb2 := below_new (w.alloc (.cells #[.slice none 0 0] 60)) (.cells #[.slice none 0 0] 60)
  have hs1 : (w.alloc (.cells #[.slice none 0 0] 60)).heap.size = w.heap.size + 1 := by simp
  have hbb : Below w.heap.size w ((w.alloc (.cells #[.slice none 0 0] 60)).alloc (.cells #[.slice none 0 0] 60)) := hb1.trans (hb2.mono (by omega))
  have hn1 := heap_alloc_new w (.cells #[.slice none 0 0] 60)
  have hn2 := heap_alloc_new (w.alloc (.cells #[.slice none 0 0] 60)) (.cells #[.slice none 0 0] 60)
  rw [hs1] at hn2
  have hn3 := (hb2.block _ (by omega)).trans hn1
  clear hn1 hb1 hb2 hs1
  go_enter Tryd.func18, Tryd.ntmps18
  go_upto_region 2 with (fail)
  have HB0 := Lib.hid hbb
  generalize (w.alloc (.cells #[.slice none 0 0] 60)).alloc (.cells #[.slice none 0 0] 60) = W0 at *
  have HAL : Hid (AL W0 w.heap.size (w.heap.size + 1) W0 (.slice none 0 0) (.slice none 0 0) [] []) := Lib.hid ⟨hn3, hn2, World.ownsRow_nil _ _ _ _, World.ownsRow_nil _ _ _ _, (fun b e => by cases e), KeepT.refl _ _, (Array.getElem?_eq_some_iff.1 hn3).1, (Array.getElem?_eq_some_iff.1 hn2).1, by omega⟩
  clear hn3 hn2 hbb
  go_wp2_with fail
  refine (none_nil _).mono ?_
  rintro e w1 ⟨rfl, rfl⟩
  go_wp2_with fail
  go_ret
  exact ⟨rfl, HB0.out, _, _, _, HAL.out⟩
def tmpsN (wz z0 z2 : Nat) (k s : Value) : Array Value := #[.pointer none, undef, .slice none 0 0, .pointer (some ⟨wz, 0, none⟩), k, s, .pointer none, .func (.func 37) #[] #[.pointer (some ⟨z0, 0, none⟩), .pointer (some ⟨z0 + 1, 0, none⟩)], .bool false, .pointer none, .func (.func 37) #[] #[.pointer (some ⟨z2, 0, none⟩), .pointer (some ⟨z2 + 1, 0, none⟩)], k, s, undef, undef, undef, undef, undef, undef, undef]
set_option maxRecDepth 100000 in
set_option maxHeartbeats 8000000 in
theorem allx_nil (w : World) : Calls Tryd.prog 30 #[.pointer none] w fun e w' => ∃ v, e = .returned v ∧ OE w w' v [] := by
  have hfn := run_fn_nil
  have HA := Lib.hid (fun (W : World) => all_nil W)
  have hn0 := heap_alloc_new w (.cells #[.slice none 0 0] 28)
  have hb0 := below_new w (.cells #[.slice none 0 0] 28)
  have hs0 : (w.alloc (.cells #[.slice none 0 0] 28)).heap.size = w.heap.size + 1 := by simp
  obtain ⟨i0, hi, hz0, hz1, hz2⟩ := info_parts e49_info
  refine (callsIn_wide (n := 4)).1 ?_
  refine callsIn_of_wp_marks Tryd.func30 rfl trivial ?_ rfl
  simp only [Tryd.ntmps30, List.size_toArray, List.length_cons, List.length_nil, Nat.reduceAdd, Nat.reduceSub, Array.replicate_succ, Array.replicate_zero, List.push_toArray, List.append_toArray, List.nil_append, List.cons_append]
  gi_wp2_with fail
  have HB0 := Lib.hid hb0
  have HN0 := Lib.hid hn0
  have HS0 := Lib.hid hs0
  clear hb0 hn0 hs0
  generalize w.alloc (.cells #[.slice none 0 0] 28) = W0 at *
  refine ⟨trivial, (callsIn_wide.2 (HA.out _)).mono ?_⟩
  rintro e w2 ⟨rfl, hb2, -⟩
  have HB2 := Lib.hid (HB0.out.trans (hb2.mono HB0.out.size))
  have HN2 := Lib.hid ((hb2.block w.heap.size (by have := HS0.out; omega)).trans HN0.out)
  have HZ2 := Lib.hid (Nat.le_trans (Nat.le_of_eq HS0.out.symm) hb2.size)
  clear hb2
  gi_wp2_with fail
  refine ⟨trivial, (callsIn_wide.2 (HA.out _)).mono ?_⟩
  rintro e w4 ⟨rfl, hb4, W1, v3, v4, hal⟩
  have HB4 := Lib.hid (HB2.out.trans (hb4.mono HB2.out.size))
  have HN4 := Lib.hid ((hb4.block w.heap.size (by have := HZ2.out; omega)).trans HN2.out)
  have HZ4 := Lib.hid (Nat.le_trans HZ2.out hb4.size)
  have HAL := Lib.hid hal
  clear hb4 hal
  gi_wp2_with fail
  have hBz : w.heap.size + 1 ≤ w4.heap.size := HZ4.out
  refine rangeG (n := 4) (by omega) (gf := 37) (lb := #[.pointer (some ⟨w2.heap.size, 0, none⟩), .pointer (some ⟨w2.heap.size + 1, 0, none⟩)]) rfl (enters_of Tryd.func37 (by kernel_rfl) rfl)
    (all1_seq (ds := []) 3 w4 (by omega) HAL.out (by simp)) KS.trans (fun W k o o' hk ho => KS.putObj hk ho) (fun _ => rfl)
    (AI w w4.heap.size) (fun pre A1 A2 row h hg ht => h.keep hBz hg ht)
    ⟨⟨_, HN4.out, World.ownsRow_nil _ _ _ _⟩, HB4.out, Nat.le_refl _⟩
    (fun x => { tmps := tmpsN w.heap.size W0.heap.size w2.heap.size (.string x.key) (.string x.script), defers := [] })
    ?assign ?body ?done
  case assign =>
    intro l' x W K hK
    unfold tmpsN at hK
    gi_wp2
    exact hK
  case body =>
    rintro l' pre g W hl hpx hI hlen
    obtain ⟨v, hv, ho⟩ := hI.out
    obtain ⟨Av, cv, hvo, -, -, -, -, -⟩ := own_rdE ho
    subst hvo
    have hcell : W.cell? ⟨w.heap.size, 0, none⟩ = some (.slice Av pre.length cv) := by simp [World.cell?, hv]
    have hple : pre.length ≤ 100000 := by simp at hlen; simp [hlen]
    have HI := Lib.hid hI
    have HV := Lib.hid hv
    have HO := Lib.hid ho
    have hBs := hI.big
    clear hI hv ho hpx hl hlen
    unfold tmpsN
    gi_wp2_with (gi_at_builtin; refine wpListIn_append_own _ rfl (.tmp 13) (.tmp 17) 28 rfl w4.heap.size 49 i0 _ 2 32 Tryd.underlying28 hi hz0 hz1 hz2 rfl (by decide) (.slice Av pre.length cv) pre.length (cellsE pre) rfl (HO.out.alloc _) ⟨W.heap.size, 0, none⟩ 1 1 [.string g.key, .string g.script] rfl rfl (World.news_of_block (cs := #[.string g.key, .string g.script]) (t := 49) (fr := (0, 0)) (heap_alloc_new W _)) (by simp [Value.oneCell']) (by simp only [maxLen]; omega) (by omega) (by have := HI.out.big; simp; omega) ?_; intro v3 w3 ho3 hg3 _; have HS := al_step (g := g) hBz HI.out HV.out HO.out ho3 hg3; obtain ⟨Hc, HK, HKS, HIn⟩ := HS; obtain ⟨A3, c3, hv3⟩ := own2_slice ho3; subst hv3; have hc3 := cell1 Hc.out; have hf3 : w3.frozen? ⟨w.heap.size, 0, none⟩ = false := free1 Hc.out; clear ho3 hg3)
    exact ⟨HK.out, HKS.out, HIn.out⟩
  case done =>
    rintro D' xs W hD rfl hI hdf
    obtain ⟨v, hv, ho⟩ := hI.out
    have hcell : W.cell? ⟨w.heap.size, 0, none⟩ = some v := by simp [World.cell?, hv]
    have HI := Lib.hid hI
    have HO := Lib.hid ho
    have HDF := Lib.hid hdf
    clear hv ho hI hdf
    gi_wp2_with fail
    have hrow : W.grownBy (W.putObj D' (.deferred none)) (some D') := grownBy_putObj' _ _ _
    have htd : ∀ r, some D' = some r → ∃ o : Obj, W.heap[r]? = some o ∧ o.isCells = false := fun r e => by cases e; exact ⟨_, HDF.out, rfl⟩
    refine ⟨by simp, .inl ⟨_, _, rfl, run_takeDeferred (w := W) HDF.out, ?_⟩⟩
    have ho5 := own_keepc HO.out hrow htd
    refine ⟨_, results_tmp Tryd.results30 _ _ _, v, rfl, ?_, HI.out.bel.grown hrow HI.out.bel.size (fun k e => by cases e; omega)⟩
    exact own_down2 ho5 (by omega)
end Go.Proofs.YtpomaabkgbaikaaDoor
