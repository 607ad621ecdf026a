/- Two maps: are they the same? -/
import Derived.Test.YtpomaabkgbaikaaDoorEnt
import Derived.Maps.RangeWalk
import Derived.Laws.IdiomRangeMap
import Derived.Deep.LoopGhost
namespace Go.Proofs.YtpomaabkgbaikaaDoor
open Go Go.RowKit Go.Maps
/-- One list that rises within another one. -/
theorem rise_sub : ∀ (b a : List En), Rising En.key a → Rising En.key b → (∀ e ∈ a, e ∈ b) → List.Sublist a b
  | [], a, _, _, h => by
    cases a with
    | nil => exact List.Sublist.slnil
    | cons x a => exact absurd (h x (by simp)) (by simp)
  | y :: b, [], _, _, _ => List.nil_sublist _
  | y :: b, x :: a, ha, hb, h => by
    obtain ⟨ha1, ha2⟩ := List.pairwise_cons.1 ha
    obtain ⟨hb1, hb2⟩ := List.pairwise_cons.1 hb
    have irr : ∀ k : ByteArray, ltB k k = true → False := fun k hk => by rw [ltB_irrefl] at hk; cases hk
    rcases List.mem_cons.1 (h x (by simp)) with rfl | hx
    · refine List.Sublist.cons_cons _ (rise_sub b a ha2 hb2 (fun e he => ?_))
      rcases List.mem_cons.1 (h e (by simp [he])) with rfl | h2
      · exact absurd (ha1 _ he) (fun hh => irr _ hh)
      · exact h2
    · refine List.Sublist.cons _ (rise_sub b (x :: a) ha hb2 (fun e he => ?_))
      rcases List.mem_cons.1 (h e he) with rfl | h2
      · rcases List.mem_cons.1 he with rfl | h3
        · exact hx
        · exact absurd (ltB_trans (hb1 _ hx) (ha1 _ h3)) (fun hh => irr _ hh)
      · exact h2
theorem rise_eq {a b : List En} (ha : Rising En.key a) (hb : Rising En.key b) (hl : a.length = b.length) (h : ∀ e ∈ a, hasK b e.key = true ∧ scr b e.key = e.script) : a = b := by
  refine (rise_sub b a ha hb (fun e he => ?_)).eq_of_length hl
  obtain ⟨h1, h2⟩ := h e he
  unfold hasK at h1
  unfold scr at h2
  cases hq : fnd En.key b e.key with
  | none => rw [hq] at h1; cases h1
  | some f =>
    rw [hq] at h2
    obtain ⟨h3, h4⟩ := fnd_mem hq
    have : f = e := by
      cases f; cases e
      simp only at h2 h4
      rw [h2, h4]
    rw [← this]; exact h3
theorem key_inv {v : Value} {kl : Lit} (h : keyOf Tryd.prog 9 v = some kl) : ∃ s, v = .string s := by
  cases v <;> simp [keyOf, Tryd.underlying9, mapKey] at h
  exact ⟨_, rfl⟩
theorem key_str {s : ByteArray} {kl : Lit} (h : keyOf Tryd.prog 9 (.string s) = some kl) : kl = .string (bl s) ∧ s.size ≤ maxLen := by
  simp [keyOf, Tryd.underlying9, mapKey, Lit.wf] at h
  exact ⟨h.2.symm, h.1⟩
theorem kR_any {v : Value} {y : DataW Unit × List MemPlace} (h : kR v = some y) : ∃ s, v = .agg #[.string s] ∧ y.1 = .lit (.string (bl s)) := by
  cases v with
  | agg c =>
    have h1 : kL c.toList = some y := h
    unfold kL at h1
    split at h1
    · rename_i s hc
      simp only [Option.some.injEq] at h1
      refine ⟨s, ?_, by rw [← h1]⟩
      have : c = #[.string s] := by rw [← Array.toList_inj, hc]
      rw [this]
    · cases h1
  | _ => cases h
theorem cmp72 (s t : ByteArray) (W : World) : (binOp BinOp.neq 72 (.agg #[.string s]) (.agg #[.string t])).run Tryd.prog W = .ok (.bool (!decide (s = t))) W := by
  have h1 := bytes_dec s t
  simp [go_sem, h1]
  try (by_cases e1 : s = t <;> simp [e1])
theorem cell72 {W : World} {b : Nat} {s : ByteArray} (h : W.heap[b]? = some (.cells #[.string s] 72 (0, 0))) : W.cell? ⟨b, 0, none⟩ = some (.string s) := by simp [World.cell?, h]
theorem grown_below {w w' : World} (h : w.grownBy w' none) : Below w.heap.size w w' := ⟨h.os, h.tape, h.output, h.size, fun k hk => h.block k hk (by simp)⟩
/-- An entry that came is an entry of the list. -/
theorem came {a : List En} {n s : ByteArray} {y : DataW Unit × List MemPlace} (hy : y.1 = .lit (.string (bl s))) (hat : ∀ zd, (dMap En.key En.script a).atKey (.string (bl n)) zd = y.1) : ∃ e ∈ a, e.key = n ∧ e.script = s := by
  have h := hat .nil
  rw [at_ent, hy] at h
  cases hq : fnd En.key a n with
  | none => rw [hq] at h; cases h
  | some f =>
    rw [hq] at h
    obtain ⟨h1, h2⟩ := fnd_mem hq
    refine ⟨f, h1, h2, bl_inj ?_⟩
    simpa using h
set_option maxRecDepth 100000 in
set_option maxHeartbeats 8000000 in
theorem equal_mp {K1 K2 : Nat} {a b : List En} (w : World) (h1 : MP K1 a w) (h2 : MP K2 b w) : Calls Tryd.prog 51 #[.map (some K1), .map (some K2)] w fun e w' => e = .returned (.bool (decide (a = b))) ∧ Below w.heap.size w w' := by
  have l1 := fun ty => h1.len ty
  have l2 := fun ty => h2.len ty
  have HR1 := Lib.hid h1.2
  have HM2 := Lib.hid h2
  by_cases hl : a.length = b.length
  rotate_left
  · have hne : ¬ ((a.length : Int) = (b.length : Int)) := by omega
    have HD : Hid (decide (a = b) = false) := Lib.hid (decide_eq_false (fun e => hl (by rw [e])))
    clear h1 h2 hl
    go_enter Tryd.func51, Tryd.ntmps51
    go_wp2_with fail
    go_ret
    exact ⟨by rw [HD.out]; rfl, Below.refl _ _⟩
  have HL := Lib.hid hl
  go_enter Tryd.func51, Tryd.ntmps51
  go_wp2_with (first
    | (at_range; refine wpList_range_own _ rfl _ 63 rfl 9 72 (Maps.string_keyed Tryd.underlying9) Tryd.underlying63 kR K1 a.length _ rfl h1.1 ?_; intro w0 hrg0 hg0 hs0)
    | fail)
  have HB0 := Lib.hid (grown_below hg0)
  have HG0 : Hid (∀ e ∈ a, Maps.has (dMap En.key En.script a) (.string (bl e.key)) = false → hasK b e.key = true ∧ scr b e.key = e.script) := Lib.hid (fun e he h => by
    rw [has_ent, hasK_mem HR1.out he] at h
    cases h)
  have HM0 := Lib.hid (h2.keep (W' := w0) (hg0.block _ h2.lt (by simp)))
  have hk2 := h2.lt
  clear l1 l2 h1 h2 hg0 hs0 HM2 hl
  go_frame
  go_loopw [16] (fun _ wr => ∃ (left : Lit → Bool) (cnt : Nat), wr.ranges Tryd.prog 9 kR K1 w.heap.size a.length (dMap En.key En.script a) left cnt ∧ Hid (MP K2 b wr) ∧ Hid (Below w.heap.size w wr) ∧ Hid (∀ e ∈ a, left (.string (bl e.key)) = false → hasK b e.key = true ∧ scr b e.key = e.script))
    (fun _ wr => wr.rangeLeft K1 w.heap.size)
  case atStart => exact ⟨_, _, hrg0, HM0, HB0, HG0⟩
  case round =>
    clear hrg0 HM0 HB0 HG0
    obtain ⟨left, cnt, hrg, HM, HB, HG⟩ := hrel
    go_wp2_with (first
      | (at_next; refine wpList_next_ranges _ rfl _ rfl 9 (Maps.string_keyed Tryd.underlying9) kR Value.string (fun s : ByteArray => Value.agg #[.string s]) (fun _ _ h => key_inv h) (fun _ _ h => (kR_any h).imp fun _ h => h.1) K1 w.heap.size a.length _ _ _ rfl hrg ?_ ?_)
      | fail)
    · intro _ hl0
      have HD : Hid (decide (a = b) = true) := Lib.hid (decide_eq_true (rise_eq HR1.out HM.out.2 HL.out (fun e he => HG.out e he (hl0 _))))
      clear hl0
      go_wp2_with fail
      go_ret
      exact ⟨by rw [HD.out]; rfl, HB.out⟩
    · intro n s kl yd yp w1 cnt1 hkey hlx hv hat hrg1 hlt hg1 hs1 hen
      obtain ⟨rfl, hns⟩ := key_str hkey
      have hy : (yd, yp).1 = .lit (.string (bl s)) := by
        obtain ⟨s', e1, e2⟩ := kR_any hv
        cases e1
        exact e2
      obtain ⟨p, hpa, hpk, hps⟩ := came hy hat
      have HB1 : Hid (Below w.heap.size w w1) := Lib.hid (HB.out.grown hg1 HB.out.size (fun k e => by cases e; exact Nat.le_refl _))
      have hm1 : MP K2 b w1 := by
        refine HM.out.keep (hg1.block _ HM.out.lt (fun e => ?_))
        have := Option.some.inj e
        omega
      have HM1 := Lib.hid hm1
      have HRG1 := Lib.hid hrg1
      have HMS : Hid (wr.rangeLeft K1 w.heap.size = cnt) := Lib.hid hrg.left_eq
      have hlo := ((hm1.keep (W' := w1.alloc (.cells #[.string s] 72)) ((below_new w1 _).block _ hm1.lt))).look n hns
      have HPP := Lib.hid (And.intro hpa (And.intro hpk hps))
      have HCK : Hid (hasK b n = true → scr b n = s → ∀ e ∈ a, (left (.string (bl e.key)) && !(Lit.string (bl e.key)).sameKey (.string (bl n))) = false → hasK b e.key = true ∧ scr b e.key = e.script) := Lib.hid (fun q1 q2 e he hf => by
        by_cases hlf : left (.string (bl e.key)) = false
        · exact HG.out e he hlf
        have hlt2 : left (.string (bl e.key)) = true := by simpa using hlf
        rw [hlt2] at hf
        have hsk : (Lit.string (bl e.key)).sameKey (.string (bl n)) = true := by simpa using hf
        have hkn : e.key = n := bl_inj (by
          have := WideAt.sameKey_eq hsk
          simpa using this)
        have hep : e = p := by
          have g1 := fnd_eq HR1.out he
          have g2 := fnd_eq HR1.out hpa
          rw [hkn] at g1
          rw [hpk] at g2
          rw [g1] at g2
          exact Option.some.inj g2
        subst hep
        rw [hkn, hps]
        exact ⟨q1, q2⟩)
      have HBD : Hid (hasK b n = false ∨ scr b n ≠ s → decide (a = b) = false) := Lib.hid (fun q => decide_eq_false (fun e => by
        subst e
        have g1 := hasK_mem HR1.out hpa
        have g2 := scr_mem HR1.out hpa
        rw [hpk] at g1 g2
        rw [hps] at g2
        rcases q with q | q
        · rw [g1] at q; cases q
        · exact q g2))
      have hcm := fun W => cmp72 s (scr b n) W
      clear hkey hlx hv hat hrg1 hg1 hs1 hy hpa hpk hps hm1 hrg
      obtain ⟨z, hz⟩ : ∃ z, scr b n = z := ⟨_, rfl⟩
      rw [hz] at hlo HCK HBD hcm
      have hb5 := below_new w1 (.cells #[.string s] 72)
      have hb6 := below_new (w1.alloc (.cells #[.string s] 72)) (.cells #[.string z] 72)
      have hs5 : (w1.alloc (.cells #[.string s] 72)).heap.size = w1.heap.size + 1 := by simp
      have HB6 : Hid (Below w.heap.size w ((w1.alloc (.cells #[.string s] 72)).alloc (.cells #[.string z] 72))) := Lib.hid ((HB1.out.trans (hb5.mono HB1.out.size)).trans (hb6.mono (by rw [hs5]; have := HB1.out.size; omega)))
      have HM6 : Hid (MP K2 b ((w1.alloc (.cells #[.string s] 72)).alloc (.cells #[.string z] 72))) := Lib.hid ((HM1.out.keep (hb5.block _ HM1.out.lt)).keep (hb6.block _ (by rw [hs5]; have := HM1.out.lt; omega)))
      have HRG6 := Lib.hid ((HRG1.out.alloc (.cells #[.string s] 72)).alloc (.cells #[.string z] 72))
      clear hb5 hb6 hs5 HM1 HB1 HRG1
      cases ht : hasK b n with
      | false =>
        rw [ht] at hlo HBD
        have HD := Lib.hid (HBD.out (.inl rfl))
        clear ht hcm HCK HBD hz
        go_wp2_with fail
        go_ret
        exact ⟨by rw [HD.out]; rfl, HB6.out⟩
      | true =>
        rw [ht] at hlo HBD HCK
        by_cases hzs : z = s
        · have e1 : decide (s = z) = true := decide_eq_true hzs.symm
          rw [e1] at hcm
          have HC := Lib.hid (HCK.out rfl hzs)
          clear ht HCK HBD hz hzs e1
          go_wp2_with fail
          go_roundw
          case rel => exact ⟨_, cnt1, HRG6.out, HM6, HB6, HC⟩
          case measure => rw [HRG6.out.left_eq, HMS.out]; exact hlt
        · have e1 : decide (s = z) = false := decide_eq_false (fun e => hzs e.symm)
          rw [e1] at hcm
          have HD := Lib.hid (HBD.out (.inr hzs))
          clear ht HCK HBD hz hzs e1
          go_wp2_with fail
          go_ret
          exact ⟨by rw [HD.out]; rfl, HB6.out⟩
end Go.Proofs.YtpomaabkgbaikaaDoor
