/- What is read of a text: the law's walk. -/
import Derived.Test.YtccofgdcpmplmaaGreatDoorRea
import Derived.Test.YtccofgdcpmplmaaGreatDoorRls
import Derived.Test.YtccofgdcpmplmaaGreatDoorRck
import Derived.Test.YtccofgdcpmplmaaGreatDoorRsa
import Derived.Test.YtccofgdcpmplmaaGreatDoorKno
import Derived.Lib.ParseIntBTie
namespace Go.Proofs.YtccofgdcpmplmaaGreatDoor
open Go Go.RowKit Go.Shelf
/-- What some lines may make. -/
structure Inv (o : Co) (k b : Nat) : Prop where
  p : o.1.length ≤ k
  c : (o.1.map fun q => q.2.2.length).sum ≤ k
  i : o.2.1.length ≤ k
  t : o.2.2.length ≤ k
  z : (o.2.2.map ByteArray.size).sum ≤ b
  io : ∀ z ∈ o.2.1, inI z
  r : ∀ q ∈ o.1, inI q.1 ∧ inI q.2.1 ∧ ∀ x ∈ q.2.2, x.ok
theorem pint_in {s : ByteArray} {v : Int} (h : pintO s = some v) : inI v := by
  unfold pintO at h
  rw [Lib.parseIntB_64] at h
  exact atoiO_in (s := s) h
theorem unsp_size {s t : ByteArray} (h : unspP s = some t) : t.size ≤ s.size := by
  unfold unspP at h
  split at h
  · cases h
    exact Nat.zero_le _
  · cases hu : unspF s.data.toList with
    | none => rw [hu] at h; cases h
    | some u =>
      rw [hu] at h
      cases h
      have h1 := unspF_len hu
      rw [show s.data.toList.length = s.size from Array.length_toList] at h1
      rw [size_ofL]
      exact h1
theorem Inv.line {c c' : Co} {k b : Nat} {line : ByteArray} (h : Inv c k b) (hl : lineP c line = some c') : Inv c' (k + 1) (b + line.size) := by
  have hsz := words_size line
  unfold lineP at hl
  split at hl
  · cases hl
  · rename_i w0 wr hw
    rw [hw] at hsz
    have hlast := hsz _ (List.getLast_mem (l := w0 :: wr) (by simp))
    split at hl
    · unfold funcP at hl
      split at hl
      · rename_i a x hm
        cases hl
        have hin := mapM_in hm
        refine ⟨by have := h.p; simp; omega, by have := h.c; simp; omega, by have := h.i; simp; omega, by have := h.t; simp; omega, by have := h.z; simp; omega, h.io, fun q hq => ?_⟩
        rcases List.mem_append.1 hq with hq | hq
        · exact h.r q hq
        · rw [List.mem_singleton.1 hq]
          exact ⟨hin a (by simp), hin x (by simp), fun y hy => by cases hy⟩
      · cases hl
    · split at hl
      · cases hz : pintO ((w0 :: wr).getLast (by simp)) with
        | none => rw [hz] at hl; cases hl
        | some z =>
          rw [hz] at hl
          cases hl
          refine ⟨by have := h.p; simp; omega, by have := h.c; simp; omega, by have := h.i; simp; omega, by have := h.t; simp; omega, by have := h.z; simp; omega, fun y hy => ?_, h.r⟩
          rcases List.mem_append.1 hy with hy | hy
          · exact h.io y hy
          · rw [List.mem_singleton.1 hy]
            exact pint_in hz
      · split at hl
        · cases hz : unspP ((w0 :: wr).getLast (by simp)) with
          | none => rw [hz] at hl; cases hl
          | some z =>
            rw [hz] at hl
            cases hl
            have h1 := unsp_size hz
            refine ⟨by have := h.p; simp; omega, by have := h.c; simp; omega, by have := h.i; simp; omega, by have := h.t; simp; omega, by have := h.z; simp; omega, h.io, h.r⟩
        · unfold instP at hl
          split at hl
          · rename_i a x y d hm
            have hin := mapM_in hm
            rcases List.eq_nil_or_concat c.1 with h0 | ⟨l, ⟨qa, qb, qk⟩, hlq⟩
            · rw [h0] at hl
              cases hl
            · have hlq' : c.1 = l ++ [(qa, qb, qk)] := by simpa using hlq
              rw [hlq'] at hl
              simp at hl
              cases hl
              have hp := h.p
              have hc := h.c
              rw [hlq'] at hp hc
              simp at hp hc
              refine ⟨by simp; omega, by simp; omega, by have := h.i; simp; omega, by have := h.t; simp; omega, by have := h.z; simp; omega, h.io, fun q' hq => ?_⟩
              rcases List.mem_append.1 hq with hq | hq
              · exact h.r q' (by rw [hlq']; simp [hq])
              · have h2 := h.r (qa, qb, qk) (by rw [hlq']; simp)
                rw [List.mem_singleton.1 hq]
                refine ⟨h2.1, h2.2.1, fun u hu => ?_⟩
                rcases List.mem_append.1 hu with hu | hu
                · exact h2.2.2 u hu
                · rw [List.mem_singleton.1 hu]
                  exact ⟨hin a (by simp), hin x (by simp), hin y (by simp), hin d (by simp)⟩
          · cases hl
theorem readL_inv : ∀ (l : List (List UInt8)) (pre : List (List UInt8)) {c c' : Co} {k b : Nat}, Inv c k b → (l.map ofL).foldlM lineP c = some c' → Inv c' (k + l.length) (b + (l.map List.length).sum)
  | [], pre, c, c', k, b, h, hr => by
    simp at hr
    subst hr
    simpa using h
  | x :: r, pre, c, c', k, b, h, hr => by
    rw [List.map_cons, List.foldlM_cons] at hr
    cases hx : lineP c (ofL x) with
    | none => rw [hx] at hr; cases hr
    | some c1 =>
      rw [hx] at hr
      have h1 := h.line hx
      have h2 := readL_inv r pre h1 hr
      rw [size_ofL] at h2
      simp only [List.length_cons, List.map_cons, List.sum_cons]
      have e1 : k + (r.length + 1) = k + 1 + r.length := by omega
      have e2 : b + (x.length + (r.map List.length).sum) = b + x.length + (r.map List.length).sum := by omega
      rw [e1, e2]
      exact h2
theorem cut_sum {s : List UInt8} (h : s ≠ []) : (Lib.cut s [10]).1.length + (Lib.cut s [10]).2.1.length ≤ s.length := by
  unfold Lib.cut
  split
  · simp
    omega
  · simp
theorem linesL_sum : ∀ (k : Nat) (s : List UInt8), s.length ≤ k → (linesL s).length ≤ s.length ∧ ((linesL s).map List.length).sum ≤ s.length
  | 0, s, h => by
    have : s = [] := List.eq_nil_of_length_eq_zero (by omega)
    subst this
    exact ⟨Nat.le_refl _, Nat.le_refl _⟩
  | k + 1, s, h => by
    by_cases h0 : s = []
    · subst h0
      exact ⟨Nat.le_refl _, Nat.le_refl _⟩
    · rw [linesL_cons h0]
      have h1 := cut_len h0
      have h2 := cut_sum h0
      have h3 := linesL_sum k _ (show (Lib.cut s [10]).2.1.length ≤ k by omega)
      simp only [List.length_cons, List.map_cons, List.sum_cons]
      omega
theorem small_lim {s : ByteArray} (hs : s.size ≤ 3000) (pre t : List (List UInt8)) (h : linesL s.data.toList = pre ++ t) (c : Co) (hc : readL pre = some c) : limC c := by
  have h1 := linesL_sum _ s.data.toList (Nat.le_refl _)
  rw [show s.data.toList.length = s.size from Array.length_toList, h] at h1
  simp only [List.length_append, List.map_append, List.sum_append] at h1
  have h0 : Inv (([], [], []) : Co) 0 0 := ⟨Nat.le_refl _, Nat.le_refl _, Nat.le_refl _, Nat.le_refl _, Nat.le_refl _, (fun z hz => by cases hz), (fun q hq => by cases hq)⟩
  have h2 := readL_inv pre [] h0 hc
  exact ⟨by have := h2.p; omega, by have := h2.c; omega, by have := h2.i; omega, by have := h2.t; omega, by have := h2.z; omega, h2.io, h2.r⟩
theorem g00_at (W : World) : g00.at W := ⟨(fun h => by cases h), (fun p hp => by cases hp), (fun h => by simp [intsV] at h), (fun h => by simp [cellsS] at h)⟩
set_option maxRecDepth 100000 in
set_option maxHeartbeats 16000000 in
theorem read_walk (s : ByteArray) (w : World) (he : Env w) : Calls Tryz.prog 4 #[.string s] w fun e w' => e = .returned (.bool true) ∧ Below w.heap.size w w' := by
  have HK : Hid (∀ W, Below w.heap.size w W → Calls Tryz.prog 6 #[] W fun e w' => e = .returned (.bool true) ∧ Below W.heap.size W w') := Lib.hid (fun W hb => known_any W (spc_below he.spc hb))
  have HE : Hid (∀ W, Below w.heap.size w W → Env W) := Lib.hid (fun W hb => he.below hb)
  obtain ⟨n, hn⟩ : ∃ n, s.size = n := ⟨_, rfl⟩
  by_cases h3 : 3000 < s.size
  · have d1 : decide ((3000 : Int) < (n : Int)) = true := decide_eq_true (by omega)
    clear he
    go_enter Tryz.func4, Tryz.ntmps4
    go_wp2_with fail
    refine (HK.out _ (Below.refl _ _)).mono ?_
    rintro e w9 ⟨rfl, hb9⟩
    have HB9 := Lib.hid hb9
    go_wp2_with fail
    go_ret
    exact ⟨rfl, HB9.out⟩
  have d1 : decide ((3000 : Int) < (n : Int)) = false := decide_eq_false (by omega)
  have HR := Lib.hid (rea_any s w he (by omega) (small_lim (by omega)))
  have HLM : Hid (∀ c, readL (linesL s.data.toList) = some c → limC c) := Lib.hid (fun c hc => small_lim (s := s) (by omega) _ [] (by simp) c hc)
  clear he h3
  go_enter Tryz.func4, Tryz.ntmps4
  go_wp2_with fail
  refine HR.out.mono ?_
  rintro e w1 ⟨hq, hb1⟩
  have HB1 := Lib.hid hb1
  clear hb1 HR
  rcases hq with ⟨g, hrd, hck, hls, rfl, hgat⟩ | ⟨rfl, -⟩
  · have hlim := (HLM.out _ hrd).lim
    have HBW : Hid (∀ W, Below w1.heap.size w1 W → Below w.heap.size w W) := Lib.hid (fun W hb => HB1.out.trans (hb.mono HB1.out.size))
    obtain ⟨n1, hv0⟩ : ∃ v, g.ps.length = v := ⟨_, rfl⟩
    obtain ⟨n2, hv1⟩ : ∃ v, g.is.length = v := ⟨_, rfl⟩
    obtain ⟨n3, hv2⟩ : ∃ v, g.ts.length = v := ⟨_, rfl⟩
    have hvv : g.vals = #[.slice g.PA n1 g.Pc, .slice g.IA n2 g.Ic, .slice g.TA n3 g.Tc] := by rw [← hv0, ← hv1, ← hv2]
    have HC : Hid (∀ W, Below w1.heap.size w1 W → Calls Tryz.prog 8 #[.agg #[.slice g.PA n1 g.Pc, .slice g.IA n2 g.Ic, .slice g.TA n3 g.Tc]] W fun e w' => e = .returned (.bool true) ∧ Below W.heap.size W w') := Lib.hid (fun W hb => by
      have h := rcheck_any g W (hgat.below hb) hlim.fit
      rw [hck, hvv] at h
      exact h)
    have HL : Hid (∀ W, Below w1.heap.size w1 W → Calls Tryz.prog 10 #[.agg #[.slice g.PA n1 g.Pc, .slice g.IA n2 g.Ic, .slice g.TA n3 g.Tc]] W fun e w' => e = .returned (.string s) ∧ Below W.heap.size W w') := Lib.hid (fun W hb => by
      have h := rlist_any g W (hgat.below hb) hlim (HE.out _ (HBW.out _ hb))
      rw [hls, hvv] at h
      exact h)
    have hbe := bytes_dec s s
    rw [decide_eq_true rfl] at hbe
    rw [hvv]
    have HX : Hid ((w1.alloc (.cells #[.slice g.PA n1 g.Pc, .slice g.IA n2 g.Ic, .slice g.TA n3 g.Tc] 26)).heap[w1.heap.size]? = some (.cells #[.slice g.PA n1 g.Pc, .slice g.IA n2 g.Ic, .slice g.TA n3 g.Tc] 26 (0, 0))) := Lib.hid (heap_alloc_new w1 _)
    have HB2 := Lib.hid (below_new w1 (.cells #[.slice g.PA n1 g.Pc, .slice g.IA n2 g.Ic, .slice g.TA n3 g.Tc] 26))
    clear hrd hck hls hgat hlim hv0 hv1 hv2 hvv
    go_upto_region 4 with (fail)
    generalize w1.alloc _ = w2 at *
    have HCX : Hid (∀ W, Below w2.heap.size w2 W → W.cell? ⟨w1.heap.size, 0, none⟩ = some (.slice g.PA n1 g.Pc) ∧ W.cell? ⟨w1.heap.size, 1, none⟩ = some (.slice g.IA n2 g.Ic) ∧ W.cell? ⟨w1.heap.size, 2, none⟩ = some (.slice g.TA n3 g.Tc)) := Lib.hid (fun W hb => cell3 ((hb.block _ (Array.getElem?_eq_some_iff.1 HX.out).1).trans HX.out))
    obtain ⟨x0, x1, x2⟩ := HCX.out _ (Below.refl _ _)
    go_wp2_with fail
    refine (HC.out _ HB2.out).mono ?_
    rintro e w3 ⟨rfl, hb3⟩
    have HB3 := Lib.hid hb3
    have HB3' := Lib.hid (HB2.out.trans (hb3.mono HB2.out.size))
    clear hb3 x0 x1 x2
    obtain ⟨x0, x1, x2⟩ := HCX.out _ HB3.out
    go_wp2_with fail
    refine (HL.out _ HB3'.out).mono ?_
    rintro e w4 ⟨rfl, hb4⟩
    have HB4 := Lib.hid (HB3'.out.trans (hb4.mono HB3'.out.size))
    clear hb4 x0 x1 x2
    go_wp2_with fail
    refine (HK.out _ (HBW.out _ HB4.out)).mono ?_
    rintro e w5 ⟨rfl, hb5⟩
    have HB5 := Lib.hid (HB4.out.trans (hb5.mono HB4.out.size))
    clear hb5
    go_wp2_with fail
    go_ret
    exact ⟨rfl, HBW.out _ HB5.out⟩
  · have HBW : Hid (∀ W, Below w1.heap.size w1 W → Below w.heap.size w W) := Lib.hid (fun W hb => HB1.out.trans (hb.mono HB1.out.size))
    have HSM : Hid (∀ W, Calls Tryz.prog 11 #[.agg nil3, .agg nil3] W fun e w' => e = .returned (.bool true) ∧ Below W.heap.size W w') := Lib.hid (fun W => by
      have hsm : g00.small := ⟨by simp, (fun p hp => by cases hp), by simp, by simp⟩
      have h := rsame_any g00 g00 W (g00_at W) (g00_at W) hsm hsm
      rw [show sameG g00 g00 = true by simp [sameG]] at h
      exact h)
    have HX : Hid ((w1.alloc (.cells nil3 26)).heap[w1.heap.size]? = some (.cells nil3 26 (0, 0))) := Lib.hid (heap_alloc_new w1 _)
    have HB2 := Lib.hid (below_new w1 (.cells nil3 26))
    go_upto_region 4 with (fail)
    generalize w1.alloc _ = w2 at *
    obtain ⟨x0, x1, x2⟩ := cell3 HX.out
    go_wp2_with fail
    refine (HSM.out _).mono ?_
    rintro e w3 ⟨rfl, hb3⟩
    have HB3 := Lib.hid (HB2.out.trans (hb3.mono HB2.out.size))
    clear hb3 x0 x1 x2
    go_wp2_with fail
    refine (HK.out _ (HBW.out _ HB3.out)).mono ?_
    rintro e w5 ⟨rfl, hb5⟩
    have HB5 := Lib.hid (HB3.out.trans (hb5.mono HB3.out.size))
    clear hb5
    go_wp2_with fail
    go_ret
    exact ⟨rfl, HBW.out _ HB5.out⟩
end Go.Proofs.YtccofgdcpmplmaaGreatDoor
