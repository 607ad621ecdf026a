/- Which words may be: the program's. -/
import Derived.Test.YtejicjcdbfjajaaDoorPt
import Derived.Test.YtejicjcdbfjajaaDoorSig
namespace Go.Proofs.YtejicjcdbfjajaaDoor
open Go Go.RowKit
theorem all25 (t : ByteArray) (h : t ≠ ⟨#[]⟩) : Lib.containsS (sgs25.take 25) t = signB t := by
  rw [Bool.eq_iff_iff, Lib.containsS_iff]
  unfold signB
  rw [decide_eq_true_eq, show sgs25.take 25 = sgs ++ [⟨#[]⟩] from rfl, List.mem_append, List.mem_singleton]
  exact ⟨fun h1 => h1.resolve_right h, Or.inl⟩
theorem quiet_P {P : Program} {f : FuncId} {args : Array Value} {w : World} {n : Nat} {v : Value} (h : Calls P f args (w.drewN n) fun e w' => e = .returned v ∧ w' = w.drewN n) :
    Calls P f args (w.drewN n) fun e w'' => e = .returned v ∧ ∃ m, w'' = w.drewN m := h.mono fun _ _ ⟨he, hm⟩ => ⟨he, n, hm⟩
theorem may_form (k : Int) (t : ByteArray) (n at_ : Int) : mayW ⟨k, t, n, at_⟩ = if k = 2 then decide (t = ⟨#[]⟩) && decide (0 ≤ n) else if n = 0 then (if k = 0 then nameB t else if k = 1 then keyB t else if k = 3 then true else if k = 4 then signB t else false) else false := by
  unfold mayW
  simp only
  by_cases h2 : k = 2
  · subst h2; simp
  rw [if_neg h2]
  by_cases hn : n = 0
  · rw [if_pos hn]
    simp [hn, h2]
  · rw [if_neg hn]
    simp [hn, h2]
set_option maxRecDepth 100000 in
set_option maxHeartbeats 16000000 in
theorem may_any (p : Wr) (m : Nat) (w : World) (hk : KeysAt w m kws) (hs : p.text.size ≤ 100000000) : Calls Tryd.prog 27 #[.agg (wrV p), .map (some m)] w fun e w' => e = .returned (.bool (mayW p)) ∧ Below w.heap.size w w' := by
  have hb0 := below_new w (.cells (wrV p) 31)
  have hl0 := look_keys (hk.below hb0) p.text
  obtain ⟨kb, hkb⟩ : ∃ kb, keyB p.text = kb := ⟨_, rfl⟩
  rw [show decide (p.text ∈ kws) = keyB p.text from rfl, hkb] at hl0
  obtain ⟨z0, z1, z2⟩ := wr_cells w p
  have HB := Lib.hid hb0
  have HB1 := Lib.hid (hb0.alloc hb0.size (.cells #[] 67))
  have hg : w.heap.size < (w.alloc (.cells (wrV p) 31)).heap.size := by simp
  have hb1 := below_new (w.alloc (.cells (wrV p) 31)) (.cells #[] 67)
  have y0 := (hb1.cell (p := ⟨w.heap.size, 0, none⟩) hg).trans z0
  have y1 := (hb1.cell (p := ⟨w.heap.size, 1, none⟩) hg).trans z1
  have y2 := (hb1.cell (p := ⟨w.heap.size, 2, none⟩) hg).trans z2
  have hg1 := Nat.lt_of_lt_of_le hg hb1.size
  obtain ⟨k, t, n, at_⟩ := p
  simp only at z0 z1 z2 y0 y1 y2 hl0 hs hkb
  have HFO := Lib.hid (fun W => formed_any t W (by omega))
  have HSI := Lib.hid (fun W => signs_any W)
  have HTO := Lib.hid (may_form k t n at_)
  have HKB := Lib.hid hkb
  have HG1 := Lib.hid hg1
  generalize mayW ⟨k, t, n, at_⟩ = R at *
  clear hb0 hb1 hg hg1 hk hkb
  by_cases h2 : k = 2
  · subst h2
    by_cases ht : t = ⟨#[]⟩
    · subst ht
      by_cases hn : 0 ≤ n
      · have e0 : decide (0 ≤ n) = true := decide_eq_true hn
        have HY : Hid (R = true) := Lib.hid (by rw [HTO.out, if_pos rfl, e0]; rfl)
        clear HTO HKB
        go_enter Tryd.func27, Tryd.ntmps27
        go_upto_region 1 with (fail)
        generalize w.alloc (.cells (wrV ⟨2, ⟨#[]⟩, n, at_⟩) 31) = W at *
        go_wp2_with fail
        go_ret
        exact ⟨by rw [HY.out]; rfl, HB1.out⟩

      · have e0 : decide (0 ≤ n) = false := decide_eq_false hn
        have HY : Hid (R = false) := Lib.hid (by rw [HTO.out, if_pos rfl, e0]; rfl)
        clear HTO HKB
        go_enter Tryd.func27, Tryd.ntmps27
        go_upto_region 1 with (fail)
        generalize w.alloc (.cells (wrV ⟨2, ⟨#[]⟩, n, at_⟩) 31) = W at *
        go_wp2_with fail
        go_ret
        exact ⟨by rw [HY.out]; rfl, HB1.out⟩

    · have he2 : (t.toList == []) = false := ne_empty ((empty_or t).resolve_left ht)
      have HY : Hid (R = false) := Lib.hid (by rw [HTO.out, if_pos rfl, decide_eq_false ht]; rfl)
      clear HTO ht HKB
      go_enter Tryd.func27, Tryd.ntmps27
      go_upto_region 1 with (fail)
      generalize w.alloc (.cells (wrV ⟨2, t, n, at_⟩) 31) = W at *
      go_wp2_with fail
      go_ret
      exact ⟨by rw [HY.out]; rfl, HB1.out⟩

  have m2 : (k != 2) = true := by simpa using h2
  have e2 : (k == 2) = false := by simpa using h2
  by_cases hn : n = 0
  rotate_left
  · have mn : (n != 0) = true := by simpa using hn
    have HY : Hid (R = false) := Lib.hid (by rw [HTO.out, if_neg h2, if_neg hn])
    clear HTO h2 hn HKB
    go_enter Tryd.func27, Tryd.ntmps27
    go_upto_region 1 with (fail)
    generalize w.alloc (.cells (wrV ⟨k, t, n, at_⟩) 31) = W at *
    go_wp2_with fail
    go_ret
    exact ⟨by rw [HY.out]; rfl, HB.out⟩

  subst hn
  have HT2 : Hid (R = if k = 0 then nameB t else if k = 1 then keyB t else if k = 3 then true else if k = 4 then signB t else false) := Lib.hid (by rw [HTO.out, if_neg h2, if_pos rfl])
  clear HTO
  by_cases h0 : k = 0
  · subst h0
    have HY0 : Hid (R = (formB t && !kb)) := Lib.hid (by rw [HT2.out, if_pos rfl, ← HKB.out]; rfl)
    clear HT2 h2 HKB
    cases kb with
    | true =>
      have HY : Hid (R = false) := Lib.hid (by rw [HY0.out]; simp)
      go_enter Tryd.func27, Tryd.ntmps27
      go_upto_region 1 with (fail)
      generalize w.alloc (.cells (wrV ⟨0, t, 0, at_⟩) 31) = W at *
      go_wp2_with fail
      go_ret
      exact ⟨by rw [HY.out]; rfl, HB1.out⟩

    | false =>
      have HY : Hid (R = formB t) := Lib.hid (by rw [HY0.out]; simp)
      go_enter Tryd.func27, Tryd.ntmps27
      go_upto_region 1 with (fail)
      generalize w.alloc (.cells (wrV ⟨0, t, 0, at_⟩) 31) = W at *
      go_wp2_with fail
      refine (HFO.out _).mono ?_
      rintro e w2 ⟨rfl, rfl⟩
      go_wp2_with fail
      go_ret
      exact ⟨by rw [HY.out]; rfl, HB1.out⟩

  by_cases h1 : k = 1
  · subst h1
    have HY : Hid (R = kb) := Lib.hid (by rw [HT2.out, if_neg (by decide), if_pos rfl, HKB.out])
    clear HT2 h2 h0 HKB
    go_enter Tryd.func27, Tryd.ntmps27
    go_upto_region 1 with (fail)
    generalize w.alloc (.cells (wrV ⟨1, t, 0, at_⟩) 31) = W at *
    go_wp2_with fail
    go_ret
    exact ⟨by rw [HY.out]; rfl, HB1.out⟩

  by_cases h3 : k = 3
  · subst h3
    have HY : Hid (R = true) := Lib.hid (by rw [HT2.out, if_neg (by decide), if_neg (by decide), if_pos rfl])
    clear HT2 h2 h0 h1 HKB
    go_enter Tryd.func27, Tryd.ntmps27
    go_upto_region 1 with (fail)
    generalize w.alloc (.cells (wrV ⟨3, t, 0, at_⟩) 31) = W at *
    go_wp2_with fail
    go_ret
    exact ⟨by rw [HY.out]; rfl, HB1.out⟩

  by_cases h4 : k = 4
  · subst h4
    have HY0 : Hid (R = signB t) := Lib.hid (by rw [HT2.out, if_neg (by decide), if_neg (by decide), if_neg (by decide), if_pos rfl])
    clear HT2 h2 h0 h1 h3 HKB
    by_cases ht : t = ⟨#[]⟩
    · have HY : Hid (R = false) := Lib.hid (by rw [HY0.out, ht]; rfl)
      subst ht
      go_enter Tryd.func27, Tryd.ntmps27
      go_upto_region 1 with (fail)
      generalize w.alloc (.cells (wrV ⟨4, ⟨#[]⟩, 0, at_⟩) 31) = W at *
      go_wp2_with fail
      refine (HSI.out _).mono ?_
      rintro e w2 ⟨rfl, hb2⟩
      have HB2 := Lib.hid (HB1.out.trans (hb2.mono HB1.out.size))
      have x1 := (hb2.cell (p := ⟨w.heap.size, 1, none⟩) HG1.out).trans y1
      have hg2 := Nat.lt_of_lt_of_le HG1.out hb2.size
      have HX1 := Lib.hid x1
      have HG2 := Lib.hid hg2
      have HZ := Lib.hid (heap_alloc_new w2 Z71)
      clear hb2 x1 hg2 z0 z1 z2 y0 y1 y2
      go_wp2_with (refine wpList_store_row rfl 71 (.tmp 7) (.tmp 51) rfl w2.heap.size (cellsS sgs25).toArray rfl rfl 71 _ HZ.out size71 (by kernel_rfl) (by kernel_rfl) ?_)
      obtain ⟨W4, hW4⟩ : ∃ W4, (w2.alloc Z71).setRow w2.heap.size (cellsS sgs25).toArray = W4 := ⟨_, rfl⟩
      have hr4 : W4.heap[w2.heap.size]? = some (.cells (cellsS sgs25).toArray 71 (0, 0)) := by rw [← hW4]; exact setRow_heap _ _ _ _ _ _ HZ.out
      have hb4 : Below w2.heap.size w2 W4 := by rw [← hW4]; exact (below_new w2 _).trans ⟨rfl, rfl, rfl, by simp [World.setRow], fun k hk => setRow_other _ _ _ _ (by omega)⟩
      have x1 := (hb4.cell (p := ⟨w.heap.size, 1, none⟩) HG2.out).trans HX1.out
      have HB4 := Lib.hid (HB2.out.trans (hb4.mono HB2.out.size))
      have hcs : ∀ j, j < sgs25.length → W4.cell? ⟨w2.heap.size, 0 + j, none⟩ = some (.string (sgs25.getD j ByteArray.empty)) := by
        intro j hj
        rw [Lib.cell_of_heap hr4, Nat.zero_add]
        simp [cellsS, List.getD, hj]
      have HCS := Lib.hid (fun q => Go.Proofs.Tryd.slices_Contains_string w2.heap.size 0 25 25 sgs25 ⟨#[]⟩ (W4.drewN q) (by decide) (by decide) hcs)
      change Code.wp _ _ _ _ ((w2.alloc Z71).setRow w2.heap.size (cellsS sgs25).toArray)
      rw [hW4]
      clear hr4 hcs hb4 hW4 HZ
      go_quiet ((go_at_call 50; exact quiet_P (HCS.out _)))
      go_wp2_with fail
      go_ret
      exact ⟨by rw [HY.out]; rfl, below_any _ HB4.out⟩
    · have he2 : (t.toList != []) = true := by simp only [bne, ne_empty ((empty_or t).resolve_left ht)]; rfl
      have he3 : (t.toList == []) = false := ne_empty ((empty_or t).resolve_left ht)
      have HY : Hid (R = Lib.containsS (sgs25.take 25) t) := Lib.hid (by rw [HY0.out, all25 t ht])
      clear ht
      go_enter Tryd.func27, Tryd.ntmps27
      go_upto_region 1 with (fail)
      generalize w.alloc (.cells (wrV ⟨4, t, 0, at_⟩) 31) = W at *
      go_wp2_with fail
      refine (HSI.out _).mono ?_
      rintro e w2 ⟨rfl, hb2⟩
      have HB2 := Lib.hid (HB1.out.trans (hb2.mono HB1.out.size))
      have x1 := (hb2.cell (p := ⟨w.heap.size, 1, none⟩) HG1.out).trans y1
      have hg2 := Nat.lt_of_lt_of_le HG1.out hb2.size
      have HX1 := Lib.hid x1
      have HG2 := Lib.hid hg2
      have HZ := Lib.hid (heap_alloc_new w2 Z71)
      clear hb2 x1 hg2 z0 z1 z2 y0 y1 y2
      go_wp2_with (refine wpList_store_row rfl 71 (.tmp 7) (.tmp 51) rfl w2.heap.size (cellsS sgs25).toArray rfl rfl 71 _ HZ.out size71 (by kernel_rfl) (by kernel_rfl) ?_)
      obtain ⟨W4, hW4⟩ : ∃ W4, (w2.alloc Z71).setRow w2.heap.size (cellsS sgs25).toArray = W4 := ⟨_, rfl⟩
      have hr4 : W4.heap[w2.heap.size]? = some (.cells (cellsS sgs25).toArray 71 (0, 0)) := by rw [← hW4]; exact setRow_heap _ _ _ _ _ _ HZ.out
      have hb4 : Below w2.heap.size w2 W4 := by rw [← hW4]; exact (below_new w2 _).trans ⟨rfl, rfl, rfl, by simp [World.setRow], fun k hk => setRow_other _ _ _ _ (by omega)⟩
      have x1 := (hb4.cell (p := ⟨w.heap.size, 1, none⟩) HG2.out).trans HX1.out
      have HB4 := Lib.hid (HB2.out.trans (hb4.mono HB2.out.size))
      have hcs : ∀ j, j < sgs25.length → W4.cell? ⟨w2.heap.size, 0 + j, none⟩ = some (.string (sgs25.getD j ByteArray.empty)) := by
        intro j hj
        rw [Lib.cell_of_heap hr4, Nat.zero_add]
        simp [cellsS, List.getD, hj]
      have HCS := Lib.hid (fun q => Go.Proofs.Tryd.slices_Contains_string w2.heap.size 0 25 25 sgs25 t (W4.drewN q) (by decide) (by decide) hcs)
      change Code.wp _ _ _ _ ((w2.alloc Z71).setRow w2.heap.size (cellsS sgs25).toArray)
      rw [hW4]
      clear hr4 hcs hb4 hW4 HZ
      go_quiet ((go_at_call 50; exact quiet_P (HCS.out _)))
      go_wp2_with fail
      go_ret
      exact ⟨by rw [HY.out]; rfl, below_any _ HB4.out⟩
  · have HY : Hid (R = false) := Lib.hid (by rw [HT2.out, if_neg h0, if_neg h1, if_neg h3, if_neg h4])
    have e0 : (k == 0) = false := by simpa using h0
    have e1 : (k == 1) = false := by simpa using h1
    have e3 : (k == 3) = false := by simpa using h3
    have e4 : (k == 4) = false := by simpa using h4
    clear HT2 h2 h0 h1 h3 h4 HKB
    go_enter Tryd.func27, Tryd.ntmps27
    go_upto_region 1 with (fail)
    generalize w.alloc (.cells (wrV ⟨k, t, 0, at_⟩) 31) = W at *
    go_wp2_with fail
    go_ret
    exact ⟨by rw [HY.out]; rfl, HB1.out⟩

end Go.Proofs.YtejicjcdbfjajaaDoor
