/- What is listed of a program: the law's walk. -/
import Derived.Test.YtccofgdcpmplmaaGreatDoorRtp
import Derived.Test.YtccofgdcpmplmaaGreatDoorRls
import Derived.Test.YtccofgdcpmplmaaGreatDoorRck
import Derived.Test.YtccofgdcpmplmaaGreatDoorRsa
import Derived.Test.YtccofgdcpmplmaaGreatDoorKno
namespace Go.Proofs.YtccofgdcpmplmaaGreatDoor
open Go Go.RowKit Go.Shelf
theorem sum_bound : ∀ (l : List Nat) (b : Nat), (∀ x ∈ l, x ≤ b) → l.sum ≤ b * l.length
  | [], _, _ => Nat.zero_le _
  | x :: l, b, h => by
    have h1 := h x (by simp)
    have h2 := sum_bound l b (fun y hy => h y (by simp [hy]))
    rw [List.sum_cons, List.length_cons, Nat.mul_succ]
    omega
theorem few_cnt {g : Pg} (h : g.few) : cnt g.ps ≤ 1000 := by
  have h1 := sum_bound (g.ps.map fun p => p.code.length) 100 (fun x hx => by
    obtain ⟨p, hp, rfl⟩ := List.mem_map.1 hx
    exact h.c p hp)
  have h2 := h.p
  unfold cnt
  rw [List.length_map] at h1
  omega
theorem few_lim {g : Pg} (h : g.few) (ok : g.ok) : limC (coreG g) := by
  refine ⟨by have := h.p; simp [coreG]; omega, ?_, by have := h.i; show g.is.length ≤ 4000; omega, by have := h.t; show g.ts.length ≤ 4000; omega, by have := h.z; show (g.ts.map ByteArray.size).sum ≤ 4000; omega, ok.io, fun q hq => ?_⟩
  · have h1 := few_cnt h
    unfold cnt at h1
    simp only [coreG, List.map_map]
    exact Nat.le_trans h1 (by omega)
  · obtain ⟨p, hp, rfl⟩ := List.mem_map.1 hq
    have := ok.po p hp
    exact ⟨this.params, this.regs, this.ins⟩
theorem few_size {g : Pg} (h : g.few) (ok : g.ok) : (ofL (listL g)).size ≤ 900000 := by
  have h1 := protsL_len (l := g.ps) (h.fit ok).r
  have h2 := intsL_len (l := g.is) ok.io
  have h3 := textsL_len g.ts
  have h4 := few_cnt h
  have h5 := h.p
  have h6 := h.i
  have h7 := h.t
  have h8 := h.z
  rw [size_ofL]
  unfold listL
  simp only [List.length_append]
  omega
theorem core_small {g h : Pg} (e : coreG g = coreG h) (s : g.few) : h.small := by
  have hl : limC (coreG h) → h.small := fun k => by
    have k1 := k.lim
    exact ⟨by have := k1.p; omega, fun p hp => by have := k1.code hp; omega, by have := k1.i; omega, by have := k1.t; omega⟩
  have e1 : g.ps.map Pr.core = h.ps.map Pr.core := congrArg Prod.fst e
  have e2 : g.is = h.is := congrArg (fun x => x.2.1) e
  have e3 : g.ts = h.ts := congrArg (fun x => x.2.2) e
  have e4 : h.ps.length = g.ps.length := by have := congrArg List.length e1; simpa using this.symm
  refine ⟨by have := s.p; omega, fun p hp => ?_, by have := s.i; rw [← e2]; omega, by have := s.t; rw [← e3]; omega⟩
  have hm : p.core ∈ g.ps.map Pr.core := by rw [e1]; exact List.mem_map_of_mem hp
  obtain ⟨q, hq, hqe⟩ := List.mem_map.1 hm
  have h1 : q.code = p.code := congrArg (fun x => x.2.2) hqe
  have h2 := s.c q hq
  rw [← h1]
  omega
/-- What is read of a listing. -/
theorem read_back {g : Pg} (h : g.few) (ok : g.ok) (hc : checkB g = true) (w : World) (he : Env w) :
    Calls Tryz.prog 9 #[.string (ofL (listL g))] w fun e W' => (∃ g', e = .returned (.tuple #[.agg g'.vals, .int .i64 0]) ∧ g'.at W' ∧ g'.small ∧ sameG g g' = true) ∧ Below w.heap.size w W' := by
  have hrd := readL_listL g (h.fit ok) ok.io
  refine (rea_any (ofL (listL g)) w he (few_size h ok) (fun pre t e c k => by
    rw [bl_ofL'] at e
    exact list_lim (h.fit ok) ok.io (few_lim h ok) pre t e c k)).mono ?_
  rintro e W' ⟨hq, hb⟩
  refine ⟨?_, hb⟩
  unfold ReaQ at hq
  rw [bl_ofL', hrd] at hq
  rcases hq with ⟨g', h1, h2, h3, h4, h5⟩ | ⟨h1, h2 | ⟨g', h2, h3⟩⟩
  · have e1 := Option.some.inj h1
    exact ⟨g', h4, h5, core_small e1 h, (same_core e1).2.2⟩
  · cases h2
  · have e1 := Option.some.inj h2
    obtain ⟨k1, k2, _⟩ := same_core e1
    rcases h3 with h3 | h3
    · rw [← k1, hc] at h3
      cases h3
    · exact absurd (by rw [k2]) h3
set_option maxRecDepth 100000 in
set_option maxHeartbeats 16000000 in
theorem list_walk (g : Pg) (w : World) (hg : g.at w) (og : g.ok) (he : Env w) :
    Calls Tryz.prog 3 #[.agg g.vals] w fun e w' => e = .returned (.bool true) ∧ Below w.heap.size w w' := by
  have HB := Lib.hid (below_new w (.cells g.vals 26))
  have HG : Hid (∀ W, Below w.heap.size w W → g.at W) := Lib.hid (fun W hb => hg.below hb)
  have HE : Hid (∀ W, Below w.heap.size w W → Env W) := Lib.hid (fun W hb => he.below hb)
  have HOG := Lib.hid og
  have H1 := Lib.hid (heap_alloc_new w (.cells g.vals 26))
  have L1 : ∀ W, Below w.heap.size w W → Calls Tryz.prog 5 #[.agg g.vals] W fun e w' => (∃ b, e = .returned (.bool b) ∧ (b = false → g.few)) ∧ Below W.heap.size W w' := fun W hb => large_any g W (HG.out W hb) og
  have HK : Hid (∀ W, Below w.heap.size w W → Calls Tryz.prog 6 #[] W fun e w' => e = .returned (.bool true) ∧ Below W.heap.size W w') := Lib.hid (fun W hb => known_any W (HE.out W hb).spc)
  have S1 : ∀ W, g.few → Below w.heap.size w W → Calls Tryz.prog 8 #[.agg g.vals] W fun e w' => e = .returned (.bool (checkB g)) ∧ Below W.heap.size W w' := fun W f1 hb => rcheck_any g W (HG.out W hb) (f1.fit og)
  have S2 : ∀ W, g.few → checkB g = false → Below w.heap.size w W → Calls Tryz.prog 7 #[.agg g.vals] W fun e w' => e = .returned (.tuple #[.string { data := #[] }, .int .i64 2]) ∧ Below W.heap.size W w' := fun W f1 hc hb => list_no g W (HG.out W hb) (f1.fit og) (HE.out W hb) hc
  obtain ⟨s, hs⟩ : ∃ s, ofL (listL g) = s := ⟨_, rfl⟩
  have S3 : ∀ W, g.few → checkB g = true → Below w.heap.size w W → Calls Tryz.prog 7 #[.agg g.vals] W fun e w' => e = .returned (.tuple #[.string s, .int .i64 0]) ∧ Below W.heap.size W w' := fun W f1 hc hb => hs ▸ list_yes g W (HG.out W hb) (few_lim f1 og).lim (HE.out W hb) hc
  have S4 : ∀ W, g.few → Below w.heap.size w W → Calls Tryz.prog 10 #[.agg g.vals] W fun e w' => e = .returned (.string s) ∧ Below W.heap.size W w' := fun W f1 hb => hs ▸ rlist_any g W (HG.out W hb) (few_lim f1 og).lim (HE.out W hb)
  have S5 : ∀ W, g.few → checkB g = true → Below w.heap.size w W → Calls Tryz.prog 9 #[.string s] W fun e W' => (∃ g', e = .returned (.tuple #[.agg g'.vals, .int .i64 0]) ∧ g'.at W' ∧ g'.small ∧ sameG g g' = true) ∧ Below W.heap.size W W' := fun W f1 hc hb => hs ▸ read_back f1 og hc W (HE.out W hb)
  have S6 : ∀ W g', g.few → Below w.heap.size w W → g'.at W → g'.small → sameG g g' = true → Calls Tryz.prog 11 #[.agg g.vals, .agg g'.vals] W fun e w' => e = .returned (.bool true) ∧ Below W.heap.size W w' := fun W g' f1 hb k1 k2 k3 => by
    have h := rsame_any g g' W (HG.out W hb) k1 f1.small k2
    rw [k3] at h
    exact h
  have hbe := bytes_dec s s
  rw [decide_eq_true rfl] at hbe
  have hbz := bytes_dec { data := #[] } { data := #[] }
  rw [decide_eq_true rfl] at hbz
  obtain ⟨v0, v1, v2, hv⟩ : ∃ v0 v1 v2, g.vals = #[v0, v1, v2] := ⟨_, _, _, rfl⟩
  obtain ⟨t, ht⟩ : ∃ t, checkB g = t := ⟨_, rfl⟩
  rw [hv] at HB H1 L1 S1 S2 S3 S4 S6 ⊢
  rw [ht] at S1 S2 S3 S5
  have HL1 := Lib.hid L1
  have HS1 := Lib.hid S1
  have HS2 := Lib.hid S2
  have HS3 := Lib.hid S3
  have HS4 := Lib.hid S4
  have HS5 := Lib.hid S5
  have HS6 := Lib.hid S6
  clear hg og hs hv ht he L1 S1 S2 S3 S4 S5 S6 HG HOG
  go_enter Tryz.func3, Tryz.ntmps3
  go_upto_region 1 with (fail)
  generalize w.alloc _ = w2 at *
  have HCX : Hid (∀ W, Below w2.heap.size w2 W → W.cell? ⟨w.heap.size, 0, none⟩ = some v0 ∧ W.cell? ⟨w.heap.size, 1, none⟩ = some v1 ∧ W.cell? ⟨w.heap.size, 2, none⟩ = some v2) := Lib.hid (fun W hb => cell3 ((hb.block _ (Array.getElem?_eq_some_iff.1 H1.out).1).trans H1.out))
  have HW : Hid (∀ W, Below w2.heap.size w2 W → Below w.heap.size w W) := Lib.hid (fun W hb => HB.out.trans (hb.mono HB.out.size))
  have HR2 := Lib.hid (Below.refl w2.heap.size w2)
  obtain ⟨x0, x1, x2⟩ := HCX.out _ HR2.out
  go_wp2_with fail
  refine (HL1.out _ (HW.out _ HR2.out)).mono ?_
  rintro e w3 ⟨⟨b1, rfl, hf1⟩, hb3⟩
  have HF1 := Lib.hid hf1
  have HB3 := Lib.hid hb3
  clear hf1 hb3 x0 x1 x2
  obtain ⟨x0, x1, x2⟩ := HCX.out _ HB3.out
  have HK3 := Lib.hid (HK.out _ (HW.out _ HB3.out))
  cases b1
  rotate_left
  · go_wp2_with fail
    refine HK3.out.mono ?_
    rintro e w4 ⟨rfl, hb4⟩
    have HB4 := Lib.hid (HB3.out.trans (hb4.mono HB3.out.size))
    clear hb4 HK3 x0 x1 x2
    go_wp2_with fail
    go_ret
    exact ⟨rfl, HW.out _ HB4.out⟩
  clear HK3
  have HFW : Hid g.few := Lib.hid (HF1.out (by first | trivial | rfl))
  cases t
  · go_wp2_with fail
    refine (HS2.out _ HFW.out trivial (HW.out _ HB3.out)).mono ?_
    rintro e w4 ⟨rfl, hb4⟩
    have HB4 := Lib.hid (HB3.out.trans (hb4.mono HB3.out.size))
    clear hb4 x0 x1 x2
    obtain ⟨x0, x1, x2⟩ := HCX.out _ HB4.out
    go_wp2_with fail
    refine (HS1.out _ HFW.out (HW.out _ HB4.out)).mono ?_
    rintro e w5 ⟨rfl, hb5⟩
    have HB5 := Lib.hid (HB4.out.trans (hb5.mono HB4.out.size))
    clear hb5 x0 x1 x2
    go_wp2_with fail
    refine (HK.out _ (HW.out _ HB5.out)).mono ?_
    rintro e w6 ⟨rfl, hb6⟩
    have HB6 := Lib.hid (HB5.out.trans (hb6.mono HB5.out.size))
    clear hb6
    go_wp2_with fail
    go_ret
    exact ⟨rfl, HW.out _ HB6.out⟩
  · go_wp2_with fail
    refine (HS3.out _ HFW.out trivial (HW.out _ HB3.out)).mono ?_
    rintro e w4 ⟨rfl, hb4⟩
    have HB4 := Lib.hid (HB3.out.trans (hb4.mono HB3.out.size))
    clear hb4 x0 x1 x2
    obtain ⟨x0, x1, x2⟩ := HCX.out _ HB4.out
    go_wp2_with fail
    refine (HS1.out _ HFW.out (HW.out _ HB4.out)).mono ?_
    rintro e w5 ⟨rfl, hb5⟩
    have HB5 := Lib.hid (HB4.out.trans (hb5.mono HB4.out.size))
    clear hb5 x0 x1 x2
    go_wp2_with fail
    refine (HS5.out _ HFW.out trivial (HW.out _ HB5.out)).mono ?_
    rintro e w6 ⟨⟨g', rfl, hat, hsm, hse⟩, hb6⟩
    have HB6 := Lib.hid (HB5.out.trans (hb6.mono HB5.out.size))
    have HAT : Hid (∀ W, Below w6.heap.size w6 W → g'.at W) := Lib.hid (fun W hb => hat.below hb)
    have HS7 : Hid (∀ W, Below w2.heap.size w2 W → Below w6.heap.size w6 W → Calls Tryz.prog 11 #[.agg #[v0, v1, v2], .agg g'.vals] W fun e w' => e = .returned (.bool true) ∧ Below W.heap.size W w') := Lib.hid (fun W h1 h2 => HS6.out W g' HFW.out (HW.out _ h1) (HAT.out W h2) hsm hse)
    obtain ⟨m0, hm0⟩ : ∃ v, g'.ps.length = v := ⟨_, rfl⟩
    obtain ⟨m1, hm1⟩ : ∃ v, g'.is.length = v := ⟨_, rfl⟩
    obtain ⟨m2, hm2⟩ : ∃ v, g'.ts.length = v := ⟨_, rfl⟩
    have hu : g'.vals = #[.slice g'.PA m0 g'.Pc, .slice g'.IA m1 g'.Ic, .slice g'.TA m2 g'.Tc] := by rw [← hm0, ← hm1, ← hm2]
    rw [hu] at HS7 ⊢
    have HX : Hid ((w6.alloc (.cells #[.slice g'.PA m0 g'.Pc, .slice g'.IA m1 g'.Ic, .slice g'.TA m2 g'.Tc] 26)).heap[w6.heap.size]? = some (.cells #[.slice g'.PA m0 g'.Pc, .slice g'.IA m1 g'.Ic, .slice g'.TA m2 g'.Tc] 26 (0, 0))) := Lib.hid (heap_alloc_new w6 _)
    have HB7 := Lib.hid (below_new w6 (.cells #[.slice g'.PA m0 g'.Pc, .slice g'.IA m1 g'.Ic, .slice g'.TA m2 g'.Tc] 26))
    clear hat hsm hse hu hm0 hm1 hm2 hb6 HAT HS6 HS5 HS3 HS2 HS1 HL1 HF1
    go_upto_region 7 with (fail)
    generalize w6.alloc _ = w7 at *
    have HCY : Hid (∀ W, Below w7.heap.size w7 W → W.cell? ⟨w6.heap.size, 0, none⟩ = some (.slice g'.PA m0 g'.Pc) ∧ W.cell? ⟨w6.heap.size, 1, none⟩ = some (.slice g'.IA m1 g'.Ic) ∧ W.cell? ⟨w6.heap.size, 2, none⟩ = some (.slice g'.TA m2 g'.Tc)) := Lib.hid (fun W hb => cell3 ((hb.block _ (Array.getElem?_eq_some_iff.1 HX.out).1).trans HX.out))
    have HB7' := Lib.hid (HB6.out.trans (HB7.out.mono HB6.out.size))
    have HR7 := Lib.hid (Below.refl w7.heap.size w7)
    obtain ⟨x0, x1, x2⟩ := HCX.out _ HB7'.out
    obtain ⟨y0, y1, y2⟩ := HCY.out _ HR7.out
    go_wp2_with fail
    refine (HS4.out _ HFW.out (HW.out _ HB7'.out)).mono ?_
    rintro e w8 ⟨rfl, hb8⟩
    have HB8 := Lib.hid (HB7'.out.trans (hb8.mono HB7'.out.size))
    have HD8 := Lib.hid hb8
    have HC8 := Lib.hid (HB7.out.trans (hb8.mono HB7.out.size))
    clear hb8 x0 x1 x2 y0 y1 y2
    obtain ⟨x0, x1, x2⟩ := HCX.out _ HB8.out
    obtain ⟨y0, y1, y2⟩ := HCY.out _ HD8.out
    go_wp2_with fail
    refine (HS7.out _ HB8.out HC8.out).mono ?_
    rintro e w9 ⟨rfl, hb9⟩
    have HB9 := Lib.hid (HB8.out.trans (hb9.mono HB8.out.size))
    clear hb9 x0 x1 x2 y0 y1 y2
    go_wp2_with fail
    refine (HK.out _ (HW.out _ HB9.out)).mono ?_
    rintro e w10 ⟨rfl, hb10⟩
    have HB10 := Lib.hid (HB9.out.trans (hb10.mono HB9.out.size))
    clear hb10
    go_wp2_with fail
    go_ret
    exact ⟨rfl, HW.out _ HB10.out⟩
end Go.Proofs.YtccofgdcpmplmaaGreatDoor
