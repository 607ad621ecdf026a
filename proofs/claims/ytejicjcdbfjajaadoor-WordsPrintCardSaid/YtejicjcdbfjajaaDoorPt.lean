/- A word as a text: the program's, the document's; which words may be: the document's. -/
import Derived.Test.YtejicjcdbfjajaaDoorPri
import Derived.Test.YtejicjcdbfjajaaDoorRqo
import Derived.Lib.SmallJoins
namespace Go.Proofs.YtejicjcdbfjajaaDoor
open Go Go.RowKit
theorem gPow' : Tryd.prog.globalNamed "internal/strconv.uint64pow10" = some 2 := by kernel_rfl
abbrev TAB (w : World) : Prop := Go.Lib.TabIs Tryd.prog w "internal/strconv.uint64pow10" .u64 Go.Lib.pow10Tab
theorem tab_below {w w' : World} (h : TAB w) (hb : Below w.heap.size w w') : TAB w' := Go.Joins.tab_stays gPow' h hb (Nat.le_refl _)
theorem below_growN (w : World) (k : Nat) (os : Array Obj) : Below w.heap.size w (Go.Sort.grow (w.drewN k) os) := by
  refine ⟨rfl, rfl, rfl, ?_, fun j hj => ?_⟩
  · show w.heap.size ≤ (w.heap ++ os).size
    simp
  · show (w.heap ++ os)[j]? = w.heap[j]?
    rw [Array.getElem?_append_left hj]
theorem fmt_any (n : Int) (w : World) (h0 : -9223372036854775808 ≤ n) (h1 : n ≤ 9223372036854775807) (ht : TAB w) :
    Calls Tryd.prog 52 #[.int .i64 n, .int .i64 10] w fun e w' => e = .returned (.string (ofL (Lib.itoa n))) ∧ Below w.heap.size w w' := by
  refine (Go.Proofs.Tryd.strconv_FormatInt_10 n h0 h1 w ht).mono ?_
  rintro e w' ⟨rfl, k, os, rfl⟩
  exact ⟨rfl, below_growN w k os⟩
theorem wr_cells (w : World) (p : Wr) : (w.alloc (.cells (wrV p) 31)).cell? ⟨w.heap.size, 0, none⟩ = some (.int .i64 p.kind) ∧ (w.alloc (.cells (wrV p) 31)).cell? ⟨w.heap.size, 1, none⟩ = some (.string p.text) ∧ (w.alloc (.cells (wrV p) 31)).cell? ⟨w.heap.size, 2, none⟩ = some (.int .i64 p.num) := by
  have h := heap_alloc_new w (.cells (wrV p) 31)
  refine ⟨?_, ?_, ?_⟩ <;> (simp only [World.cell?, h]; rfl)
set_option maxRecDepth 100000 in
set_option maxHeartbeats 8000000 in
theorem told_any (p : Wr) (w : World) (ht : TAB w) (ho : p.ok) (hs : p.text.size ≤ 100000000) : Calls Tryd.prog 30 #[.agg (wrV p)] w fun e w' => e = .returned (.string (ofL (toldW p))) ∧ Below w.heap.size w w' := by
  have hb0 := below_new w (.cells (wrV p) 31)
  obtain ⟨z0, z1, z2⟩ := wr_cells w p
  have HB := Lib.hid hb0
  have HT := Lib.hid (tab_below ht hb0)
  have HF := Lib.hid (fmt_any p.num (w.alloc (.cells (wrV p) 31)) ho.2.2.1.1 ho.2.2.1.2 HT.out)
  have HQ := Lib.hid (fun W => quote_any p.text W hs)
  have HTO : Hid (toldW p = if p.kind = 2 then Lib.itoa p.num else if p.kind = 3 then quoL (bl p.text) else bl p.text) := Lib.hid rfl
  generalize toldW p = R at *
  obtain ⟨k, t, n, at_⟩ := p
  simp only at z0 z1 z2 HF HQ HTO
  clear hb0 ht ho HT
  by_cases h2 : k = 2
  · have HY : Hid (R = Lib.itoa n) := Lib.hid (by rw [HTO.out, if_pos h2])
    subst h2
    go_enter Tryd.func30, Tryd.ntmps30
    go_upto_region 1 with (fail)
    generalize w.alloc (.cells (wrV ⟨2, t, n, at_⟩) 31) = W at *
    go_wp2_with fail
    refine HF.out.mono ?_
    rintro e w2 ⟨rfl, hb2⟩
    go_wp2_with fail
    go_ret
    exact ⟨by rw [HY.out]; rfl, HB.out.trans (hb2.mono HB.out.size)⟩
  have e2 : (k == 2) = false := by simpa using h2
  by_cases h3 : k = 3
  · have HY : Hid (R = quoL (bl t)) := Lib.hid (by rw [HTO.out, if_neg h2, if_pos h3])
    subst h3
    clear HF e2 h2
    go_enter Tryd.func30, Tryd.ntmps30
    go_upto_region 1 with (fail)
    generalize w.alloc (.cells (wrV ⟨3, t, n, at_⟩) 31) = W at *
    go_wp2_with fail
    refine (HQ.out _).mono ?_
    rintro e w2 ⟨rfl, hb2⟩
    go_wp2_with fail
    go_ret
    exact ⟨by rw [HY.out]; rfl, HB.out.trans (hb2.mono HB.out.size)⟩
  · have e3 : (k == 3) = false := by simpa using h3
    have HY : Hid (R = bl t) := Lib.hid (by rw [HTO.out, if_neg h2, if_neg h3])
    clear HF HQ h2 h3
    go_enter Tryd.func30, Tryd.ntmps30
    go_upto_region 1 with (fail)
    generalize w.alloc (.cells (wrV ⟨k, t, n, at_⟩) 31) = W at *
    go_wp2_with fail
    go_ret
    exact ⟨by rw [HY.out, ofL_bl]; rfl, HB.out⟩
set_option maxRecDepth 100000 in
set_option maxHeartbeats 8000000 in
theorem rtold_any (p : Wr) (w : World) (ht : TAB w) (ho : p.ok) (hs : p.text.size ≤ 100000000) : Calls Tryd.prog 34 #[.agg (wrV p)] w fun e w' => e = .returned (.string (ofL (toldW p))) ∧ Below w.heap.size w w' := by
  have hb0 := below_new w (.cells (wrV p) 31)
  obtain ⟨z0, z1, z2⟩ := wr_cells w p
  have HB := Lib.hid hb0
  have HT := Lib.hid (tab_below ht hb0)
  have HF := Lib.hid (fmt_any p.num (w.alloc (.cells (wrV p) 31)) ho.2.2.1.1 ho.2.2.1.2 HT.out)
  have HQ := Lib.hid (fun W => rquote_any p.text W hs)
  have HTO : Hid (toldW p = if p.kind = 2 then Lib.itoa p.num else if p.kind = 3 then quoL (bl p.text) else bl p.text) := Lib.hid rfl
  generalize toldW p = R at *
  obtain ⟨k, t, n, at_⟩ := p
  simp only at z0 z1 z2 HF HQ HTO
  clear hb0 ht ho HT
  by_cases h2 : k = 2
  · have HY : Hid (R = Lib.itoa n) := Lib.hid (by rw [HTO.out, if_pos h2])
    subst h2
    go_enter Tryd.func34, Tryd.ntmps34
    go_upto_region 1 with (fail)
    generalize w.alloc (.cells (wrV ⟨2, t, n, at_⟩) 31) = W at *
    go_wp2_with fail
    refine HF.out.mono ?_
    rintro e w2 ⟨rfl, hb2⟩
    go_wp2_with fail
    go_ret
    exact ⟨by rw [HY.out]; rfl, HB.out.trans (hb2.mono HB.out.size)⟩
  have e2 : (k == 2) = false := by simpa using h2
  by_cases h3 : k = 3
  · have HY : Hid (R = quoL (bl t)) := Lib.hid (by rw [HTO.out, if_neg h2, if_pos h3])
    subst h3
    clear HF e2 h2
    go_enter Tryd.func34, Tryd.ntmps34
    go_upto_region 1 with (fail)
    generalize w.alloc (.cells (wrV ⟨3, t, n, at_⟩) 31) = W at *
    go_wp2_with fail
    refine (HQ.out _).mono ?_
    rintro e w2 ⟨rfl, hb2⟩
    go_wp2_with fail
    go_ret
    exact ⟨by rw [HY.out]; rfl, HB.out.trans (hb2.mono HB.out.size)⟩
  · have e3 : (k == 3) = false := by simpa using h3
    have HY : Hid (R = bl t) := Lib.hid (by rw [HTO.out, if_neg h2, if_neg h3])
    clear HF HQ h2 h3
    go_enter Tryd.func34, Tryd.ntmps34
    go_upto_region 1 with (fail)
    generalize w.alloc (.cells (wrV ⟨k, t, n, at_⟩) 31) = W at *
    go_wp2_with fail
    go_ret
    exact ⟨by rw [HY.out, ofL_bl]; rfl, HB.out⟩
theorem take_hasS {s : ByteArray} {k : Nat} (hk : k < sgs.length) (h : s ∉ sgs.take k) (hn : sgs[k] ≠ s) : s ∉ sgs.take (k + 1) := by
  rw [List.take_succ_eq_append_getElem hk]
  simp only [List.mem_append, List.mem_singleton]
  rintro (h1 | h1)
  · exact h h1
  · exact hn h1.symm
set_option maxRecDepth 100000 in
set_option maxHeartbeats 4000000 in
theorem rsign_any (s : ByteArray) (w : World) : Calls Tryd.prog 53 #[.string s] w fun e w' => e = .returned (.bool (signB s)) ∧ Below w.heap.size w w' := by
  have HSG := Lib.hid (rsigns_any w)
  have HR : Hid (RdV (w.alloc (.cells (cellsS sgs).toArray 9)) (some ⟨w.heap.size, 0, none⟩) (cellsS sgs)) := Lib.hid (rdV_new w (cellsS sgs) 9)
  have HB : Hid (Below w.heap.size w (w.alloc (.cells (cellsS sgs).toArray 9))) := Lib.hid (below_new _ _)
  go_enter Tryd.func53, Tryd.ntmps53
  go_wp2_with fail
  refine HSG.out.mono ?_
  clear HSG
  rintro e w0 ⟨rfl, rfl⟩
  generalize w.alloc (.cells (cellsS sgs).toArray 9) = w1 at *
  go_wp2_with fail
  go_loop [4] (fun i => ∃ k : Nat, k ≤ 24 ∧ i = .int .i64 k ∧ Hid (s ∉ sgs.take k)) (fun i => 24 - (intOf i).toNat)
  case atStart => exact ⟨0, Nat.zero_le _, rfl, by simp [Hid]⟩
  case round =>
    obtain ⟨k, hk, rfl, HN⟩ := hrel
    by_cases hlt : k < 24
    · have hl : k < sgs.length := hlt
      obtain ⟨b, off, hA, hbb, hca⟩ := rdS_at HR.out (k := k) hl
      cases hA
      rw [Nat.zero_add] at hca
      by_cases hs : sgs[k] = s
      · have HY : Hid (signB s = true) := Lib.hid (by unfold signB; rw [← hs]; simp)
        rw [hs] at hca
        have he := bytes_eq s
        clear hs
        go_wp2_with fail
        go_ret
        exact ⟨ret_bool HY.out.symm, HB.out⟩
      · have he := bytes_ne hs
        have HY := Lib.hid (take_hasS hl HN.out hs)
        generalize sgs[k] = t at *
        clear hs
        go_wp2_with fail
        go_round
        case rel => exact ⟨k + 1, by omega, by go_num, HY⟩
        case measure => simp [intOf]; omega
    · obtain rfl : k = 24 := by omega
      go_wp2_with fail
      go_ret
      exact ⟨ret_bool (by have h1 : s ∉ sgs := HN.out; unfold signB; simp [h1]), HB.out⟩
set_option maxRecDepth 100000 in
set_option maxHeartbeats 16000000 in
theorem rmay_any (p : Wr) (w : World) (hs : p.text.size ≤ 100000000) : Calls Tryd.prog 33 #[.agg (wrV p)] w fun e w' => e = .returned (.bool (mayW p)) ∧ Below w.heap.size w w' := by
  have HB := Lib.hid (below_new w (.cells (wrV p) 31))
  obtain ⟨z0, z1, z2⟩ := wr_cells w p
  have HNM := Lib.hid (fun W => rname_any p.text W (by omega))
  have HKE := Lib.hid (fun W => rkey_any p.text W)
  have HSI := Lib.hid (fun W => rsign_any p.text W)
  have HTO : Hid (mayW p = if p.kind = 0 then nameB p.text && decide (p.num = 0)
  else if p.kind = 1 then keyB p.text && decide (p.num = 0)
  else if p.kind = 2 then decide (p.text = ⟨#[]⟩) && decide (0 ≤ p.num)
  else if p.kind = 3 then decide (p.num = 0)
  else if p.kind = 4 then signB p.text && decide (p.num = 0)
  else false) := Lib.hid rfl
  generalize mayW p = R at *
  obtain ⟨k, t, n, at_⟩ := p
  simp only at z0 z1 z2 HNM HKE HSI HTO hs
  by_cases h0 : k = 0
  rotate_left
  by_cases h1 : k = 1
  rotate_left
  by_cases h2 : k = 2
  rotate_left
  by_cases h3 : k = 3
  rotate_left
  by_cases h4 : k = 4
  rotate_left
  · have HY : Hid (R = false) := Lib.hid (by rw [HTO.out, if_neg h0, if_neg h1, if_neg h2, if_neg h3, if_neg h4])
    have e0 : (k == 0) = false := by simpa using h0
    have e1 : (k == 1) = false := by simpa using h1
    have e2 : (k == 2) = false := by simpa using h2
    have e3 : (k == 3) = false := by simpa using h3
    have e4 : (k == 4) = false := by simpa using h4
    clear h0 h1 h2 h3 h4 HTO
    go_enter Tryd.func33, Tryd.ntmps33
    go_upto_region 1 with (fail)
    generalize w.alloc (.cells (wrV ⟨k, t, n, at_⟩) 31) = W at *
    go_wp2_with fail
    go_ret
    exact ⟨by rw [HY.out]; rfl, HB.out⟩
  · subst h0
    have HY : Hid (R = (nameB t && decide (n = 0))) := Lib.hid HTO.out
    cases hq : nameB t with
    | false =>
      rw [hq] at HNM HY
      clear hq
      go_enter Tryd.func33, Tryd.ntmps33
      go_upto_region 1 with (fail)
      generalize w.alloc (.cells (wrV ⟨0, t, n, at_⟩) 31) = W at *
      go_wp2_with fail
      refine (HNM.out _).mono ?_
      rintro e w2 ⟨rfl, hb2⟩
      have HB2 := Lib.hid (HB.out.trans (hb2.mono HB.out.size))
      clear hb2
      go_wp2_with fail
      go_ret
      exact ⟨by rw [HY.out]; rfl, HB2.out⟩
    | true =>
      rw [hq] at HNM HY
      clear hq
      by_cases hn : n = 0
      · subst hn
        go_enter Tryd.func33, Tryd.ntmps33
        go_upto_region 1 with (fail)
        generalize hWW : w.alloc (.cells (wrV ⟨0, t, 0, at_⟩) 31) = W at *
        have hg : w.heap.size < W.heap.size := by rw [← hWW]; simp
        clear hWW
        go_wp2_with fail
        refine (HNM.out _).mono ?_
        rintro e w2 ⟨rfl, hb2⟩
        have HB2 := Lib.hid (HB.out.trans (hb2.mono HB.out.size))
        have y2 := (hb2.cell (p := ⟨w.heap.size, 2, none⟩) hg).trans z2
        clear hb2 hg z0 z1 z2
        go_wp2_with fail
        go_ret
        exact ⟨by rw [HY.out]; rfl, HB2.out⟩
      · have e0 : (n == 0) = false := by simpa using hn
        have HN : Hid (decide (n = 0) = false) := Lib.hid (by simpa using hn)
        clear hn
        go_enter Tryd.func33, Tryd.ntmps33
        go_upto_region 1 with (fail)
        generalize hWW : w.alloc (.cells (wrV ⟨0, t, n, at_⟩) 31) = W at *
        have hg : w.heap.size < W.heap.size := by rw [← hWW]; simp
        clear hWW
        go_wp2_with fail
        refine (HNM.out _).mono ?_
        rintro e w2 ⟨rfl, hb2⟩
        have HB2 := Lib.hid (HB.out.trans (hb2.mono HB.out.size))
        have y2 := (hb2.cell (p := ⟨w.heap.size, 2, none⟩) hg).trans z2
        clear hb2 hg z0 z1 z2
        go_wp2_with fail
        go_ret
        exact ⟨by rw [HY.out, HN.out]; rfl, HB2.out⟩
  · subst h1
    have HY : Hid (R = (keyB t && decide (n = 0))) := Lib.hid HTO.out
    cases hq : keyB t with
    | false =>
      rw [hq] at HKE HY
      clear hq
      go_enter Tryd.func33, Tryd.ntmps33
      go_upto_region 1 with (fail)
      generalize w.alloc (.cells (wrV ⟨1, t, n, at_⟩) 31) = W at *
      go_wp2_with fail
      refine (HKE.out _).mono ?_
      rintro e w2 ⟨rfl, hb2⟩
      have HB2 := Lib.hid (HB.out.trans (hb2.mono HB.out.size))
      clear hb2
      go_wp2_with fail
      go_ret
      exact ⟨by rw [HY.out]; rfl, HB2.out⟩
    | true =>
      rw [hq] at HKE HY
      clear hq
      by_cases hn : n = 0
      · subst hn
        go_enter Tryd.func33, Tryd.ntmps33
        go_upto_region 1 with (fail)
        generalize hWW : w.alloc (.cells (wrV ⟨1, t, 0, at_⟩) 31) = W at *
        have hg : w.heap.size < W.heap.size := by rw [← hWW]; simp
        clear hWW
        go_wp2_with fail
        refine (HKE.out _).mono ?_
        rintro e w2 ⟨rfl, hb2⟩
        have HB2 := Lib.hid (HB.out.trans (hb2.mono HB.out.size))
        have y2 := (hb2.cell (p := ⟨w.heap.size, 2, none⟩) hg).trans z2
        clear hb2 hg z0 z1 z2
        go_wp2_with fail
        go_ret
        exact ⟨by rw [HY.out]; rfl, HB2.out⟩
      · have e0 : (n == 0) = false := by simpa using hn
        have HN : Hid (decide (n = 0) = false) := Lib.hid (by simpa using hn)
        clear hn
        go_enter Tryd.func33, Tryd.ntmps33
        go_upto_region 1 with (fail)
        generalize hWW : w.alloc (.cells (wrV ⟨1, t, n, at_⟩) 31) = W at *
        have hg : w.heap.size < W.heap.size := by rw [← hWW]; simp
        clear hWW
        go_wp2_with fail
        refine (HKE.out _).mono ?_
        rintro e w2 ⟨rfl, hb2⟩
        have HB2 := Lib.hid (HB.out.trans (hb2.mono HB.out.size))
        have y2 := (hb2.cell (p := ⟨w.heap.size, 2, none⟩) hg).trans z2
        clear hb2 hg z0 z1 z2
        go_wp2_with fail
        go_ret
        exact ⟨by rw [HY.out, HN.out]; rfl, HB2.out⟩
  · subst h2
    have HY : Hid (R = (decide (t = ⟨#[]⟩) && decide (0 ≤ n))) := Lib.hid HTO.out
    clear HTO
    by_cases ht : t = ⟨#[]⟩
    · subst ht
      by_cases hn : 0 ≤ n
      · have e0 : decide (0 ≤ n) = true := decide_eq_true hn
        go_enter Tryd.func33, Tryd.ntmps33
        go_upto_region 1 with (fail)
        generalize w.alloc (.cells (wrV ⟨2, ⟨#[]⟩, n, at_⟩) 31) = W at *
        go_wp2_with fail
        go_ret
        exact ⟨by rw [HY.out, e0]; rfl, HB.out⟩
      · have e0 : decide (0 ≤ n) = false := decide_eq_false hn
        go_enter Tryd.func33, Tryd.ntmps33
        go_upto_region 1 with (fail)
        generalize w.alloc (.cells (wrV ⟨2, ⟨#[]⟩, n, at_⟩) 31) = W at *
        go_wp2_with fail
        go_ret
        exact ⟨by rw [HY.out, e0]; rfl, HB.out⟩
    · have he2 : (t.toList == []) = false := ne_empty ((empty_or t).resolve_left ht)
      have HN : Hid (decide (t = ⟨#[]⟩) = false) := Lib.hid (by simpa using ht)
      clear ht
      go_enter Tryd.func33, Tryd.ntmps33
      go_upto_region 1 with (fail)
      generalize w.alloc (.cells (wrV ⟨2, t, n, at_⟩) 31) = W at *
      go_wp2_with fail
      go_ret
      exact ⟨by rw [HY.out, HN.out]; rfl, HB.out⟩
  · subst h3
    have HY : Hid (R = decide (n = 0)) := Lib.hid HTO.out
    by_cases hn : n = 0
    · subst hn
      go_enter Tryd.func33, Tryd.ntmps33
      go_upto_region 1 with (fail)
      generalize w.alloc (.cells (wrV ⟨3, t, 0, at_⟩) 31) = W at *
      go_wp2_with fail
      go_ret
      exact ⟨by rw [HY.out]; rfl, HB.out⟩
    · have e0 : (n == 0) = false := by simpa using hn
      have HN : Hid (decide (n = 0) = false) := Lib.hid (by simpa using hn)
      clear hn
      go_enter Tryd.func33, Tryd.ntmps33
      go_upto_region 1 with (fail)
      generalize w.alloc (.cells (wrV ⟨3, t, n, at_⟩) 31) = W at *
      go_wp2_with fail
      go_ret
      exact ⟨by rw [HY.out, HN.out]; rfl, HB.out⟩
  · subst h4
    have HY : Hid (R = (signB t && decide (n = 0))) := Lib.hid HTO.out
    cases hq : signB t with
    | false =>
      rw [hq] at HSI HY
      clear hq
      go_enter Tryd.func33, Tryd.ntmps33
      go_upto_region 1 with (fail)
      generalize w.alloc (.cells (wrV ⟨4, t, n, at_⟩) 31) = W at *
      go_wp2_with fail
      refine (HSI.out _).mono ?_
      rintro e w2 ⟨rfl, hb2⟩
      have HB2 := Lib.hid (HB.out.trans (hb2.mono HB.out.size))
      clear hb2
      go_wp2_with fail
      go_ret
      exact ⟨by rw [HY.out]; rfl, HB2.out⟩
    | true =>
      rw [hq] at HSI HY
      clear hq
      by_cases hn : n = 0
      · subst hn
        go_enter Tryd.func33, Tryd.ntmps33
        go_upto_region 1 with (fail)
        generalize hWW : w.alloc (.cells (wrV ⟨4, t, 0, at_⟩) 31) = W at *
        have hg : w.heap.size < W.heap.size := by rw [← hWW]; simp
        clear hWW
        go_wp2_with fail
        refine (HSI.out _).mono ?_
        rintro e w2 ⟨rfl, hb2⟩
        have HB2 := Lib.hid (HB.out.trans (hb2.mono HB.out.size))
        have y2 := (hb2.cell (p := ⟨w.heap.size, 2, none⟩) hg).trans z2
        clear hb2 hg z0 z1 z2
        go_wp2_with fail
        go_ret
        exact ⟨by rw [HY.out]; rfl, HB2.out⟩
      · have e0 : (n == 0) = false := by simpa using hn
        have HN : Hid (decide (n = 0) = false) := Lib.hid (by simpa using hn)
        clear hn
        go_enter Tryd.func33, Tryd.ntmps33
        go_upto_region 1 with (fail)
        generalize hWW : w.alloc (.cells (wrV ⟨4, t, n, at_⟩) 31) = W at *
        have hg : w.heap.size < W.heap.size := by rw [← hWW]; simp
        clear hWW
        go_wp2_with fail
        refine (HSI.out _).mono ?_
        rintro e w2 ⟨rfl, hb2⟩
        have HB2 := Lib.hid (HB.out.trans (hb2.mono HB.out.size))
        have y2 := (hb2.cell (p := ⟨w.heap.size, 2, none⟩) hg).trans z2
        clear hb2 hg z0 z1 z2
        go_wp2_with fail
        go_ret
        exact ⟨by rw [HY.out, HN.out]; rfl, HB2.out⟩
end Go.Proofs.YtejicjcdbfjajaaDoor
