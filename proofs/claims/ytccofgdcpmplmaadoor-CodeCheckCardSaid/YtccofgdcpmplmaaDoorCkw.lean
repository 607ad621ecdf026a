/- Whether a program may be: both answers. -/
import Derived.Test.YtccofgdcpmplmaaDoorRca
import Derived.Test.YtccofgdcpmplmaaDoorKno
import Derived.Test.YtccofgdcpmplmaaDoorLrg
import Derived.StillTailTactics
namespace Go.Proofs.YtccofgdcpmplmaaDoor
open Go Go.RowKit Go.Shelf
attribute [local go_sem] Oper.semAt_some
set_option maxRecDepth 100000 in
set_option maxHeartbeats 16000000 in
theorem check_walk (g : Pg) (w : World) (hg : g.at w) (og : g.ok) (hs : SPC w) :
    Calls Tryd.prog 3 #[.agg g.vals] w fun e w' => e = .returned (.bool true) ∧ Below w.heap.size w w' := by
  have HB := Lib.hid (below_new w (.cells g.vals 26))
  have HG : Hid (∀ W, Below w.heap.size w W → g.at W) := Lib.hid (fun W hb => hg.below hb)
  have H1 := Lib.hid (heap_alloc_new w (.cells g.vals 26))
  have L1 : ∀ W, Below w.heap.size w W → Calls Tryd.prog 6 #[.agg g.vals] W fun e w' => (∃ b, e = .returned (.bool b) ∧ (b = false → g.few)) ∧ Below W.heap.size W w' := fun W hb => large_any g W (HG.out W hb) og
  have K1 : ∀ W, Below w.heap.size w W → Calls Tryd.prog 7 #[] W fun e w' => e = .returned (.bool true) ∧ Below W.heap.size W w' := fun W hb => known_any W (spc_below hs hb)
  have S1 : ∀ W, g.few → Below w.heap.size w W → Calls Tryd.prog 8 #[.agg g.vals] W fun e w' => e = .returned (.int .i64 (if checkB g then 0 else 2)) ∧ Below W.heap.size W w' := fun W f1 hb => check_any g W (HG.out W hb) (f1.fit og) (spc_below hs hb)
  have S2 : ∀ W, g.few → Below w.heap.size w W → Calls Tryd.prog 9 #[.agg g.vals] W fun e w' => e = .returned (.bool (checkB g)) ∧ Below W.heap.size W w' := fun W f1 hb => rcheck_any g W (HG.out W hb) (f1.fit og)
  obtain ⟨cn, hcn⟩ : ∃ n, cnt g.ps = n := ⟨_, rfl⟩
  have S3 : ∀ W, g.few → Below w.heap.size w W → Calls Tryd.prog 10 #[.agg g.vals] W fun e w' => e = .returned (.int .i64 (cn : Nat)) ∧ Below W.heap.size W w' := fun W f1 hb => hcn ▸ count_any g W (HG.out W hb) (f1.fit og)
  have S4 : ∀ W, g.few → Below w.heap.size w W → Calls Tryd.prog 11 #[.agg g.vals] W fun e w' => e = .returned (.int .i64 (cn : Nat)) ∧ Below W.heap.size W w' := fun W f1 hb => hcn ▸ rcount_any g W (HG.out W hb) (f1.fit og)
  obtain ⟨v0, v1, v2, hv⟩ : ∃ v0 v1 v2, g.vals = #[v0, v1, v2] := ⟨_, _, _, rfl⟩
  obtain ⟨t, ht⟩ : ∃ t, checkB g = t := ⟨_, rfl⟩
  rw [hv] at HB H1 L1 S1 S2 S3 S4 ⊢
  rw [ht] at S1 S2
  have HL1 := Lib.hid L1
  have HK := Lib.hid K1
  have HS1 := Lib.hid S1
  have HS2 := Lib.hid S2
  have HS3 := Lib.hid S3
  have HS4 := Lib.hid S4
  clear hg og hs hv ht L1 K1 S1 S2 S3 S4 HG hcn
  go_enter Tryd.func3, Tryd.ntmps3
  go_upto_region 1 with (fail)
  generalize w.alloc _ = w2 at *
  have HCX : Hid (∀ W, Below w2.heap.size w2 W → W.cell? ⟨w.heap.size, 0, none⟩ = some v0 ∧ W.cell? ⟨w.heap.size, 1, none⟩ = some v1 ∧ W.cell? ⟨w.heap.size, 2, none⟩ = some v2) := Lib.hid (fun W hb => cell3 ((hb.block _ (Array.getElem?_eq_some_iff.1 H1.out).1).trans H1.out))
  have HW : Hid (∀ W, Below w2.heap.size w2 W → Below w.heap.size w W) := Lib.hid (fun W hb => HB.out.trans (hb.mono HB.out.size))
  have HR2 := Lib.hid (Below.refl w2.heap.size w2)
  obtain ⟨x0, x1, x2⟩ := HCX.out _ HR2.out
  go_wp2_with fail
  refine (HL1.out _ (HW.out _ HR2.out)).mono ?_
  rintro e w3 ⟨⟨b1, rfl, hf1⟩, hb3⟩
  have HF1 := Lib.hid hf1
  have HB3 := Lib.hid hb3
  clear hf1 hb3 x0 x1 x2
  obtain ⟨x0, x1, x2⟩ := HCX.out _ HB3.out
  have HK3 := Lib.hid (HK.out _ (HW.out _ HB3.out))
  cases b1
  rotate_left
  · go_wp2_with fail
    refine HK3.out.mono ?_
    rintro e w4 ⟨rfl, hb4⟩
    have HB4 := Lib.hid (HB3.out.trans (hb4.mono HB3.out.size))
    clear hb4 HK3 x0 x1 x2
    go_wp2_with fail
    go_ret
    exact ⟨rfl, HW.out _ HB4.out⟩
  clear HK3
  have HFW : Hid g.few := Lib.hid (HF1.out (by first | trivial | rfl))
  go_wp2_with fail
  refine (HS1.out _ HFW.out (HW.out _ HB3.out)).mono ?_
  rintro e w4 ⟨rfl, hb4⟩
  have HB4 := Lib.hid (HB3.out.trans (hb4.mono HB3.out.size))
  clear hb4 x0 x1 x2
  have HT1 : Hid (∀ W, Below w4.heap.size w4 W → Calls Tryd.prog 9 #[.agg #[v0, v1, v2]] W fun e w' => e = .returned (.bool t) ∧ Below W.heap.size W w') := Lib.hid (fun W hb => HS2.out W HFW.out (HW.out _ (HB4.out.trans (hb.mono HB4.out.size))))
  have HT2 : Hid (∀ W, Below w4.heap.size w4 W → Calls Tryd.prog 10 #[.agg #[v0, v1, v2]] W fun e w' => e = .returned (.int .i64 (cn : Nat)) ∧ Below W.heap.size W w') := Lib.hid (fun W hb => HS3.out W HFW.out (HW.out _ (HB4.out.trans (hb.mono HB4.out.size))))
  have HT3 : Hid (∀ W, Below w4.heap.size w4 W → Calls Tryd.prog 11 #[.agg #[v0, v1, v2]] W fun e w' => e = .returned (.int .i64 (cn : Nat)) ∧ Below W.heap.size W w') := Lib.hid (fun W hb => HS4.out W HFW.out (HW.out _ (HB4.out.trans (hb.mono HB4.out.size))))
  have HT4 : Hid (∀ W, Below w4.heap.size w4 W → Calls Tryd.prog 7 #[] W fun e w' => e = .returned (.bool true) ∧ Below W.heap.size W w') := Lib.hid (fun W hb => HK.out W (HW.out _ (HB4.out.trans (hb.mono HB4.out.size))))
  have HC4 : Hid (∀ W, Below w4.heap.size w4 W → W.cell? ⟨w.heap.size, 0, none⟩ = some v0 ∧ W.cell? ⟨w.heap.size, 1, none⟩ = some v1 ∧ W.cell? ⟨w.heap.size, 2, none⟩ = some v2) := Lib.hid (fun W hb => HCX.out W (HB4.out.trans (hb.mono HB4.out.size)))
  have HBD := Lib.hid ((Below.refl w4.heap.size w4).drew)
  have HTR : Hid (∀ A B, Below w4.heap.size w4 A → Below A.heap.size A B → Below w4.heap.size w4 B) := Lib.hid (fun A B h k => h.trans (k.mono h.size))
  have dt : ((cn : Int) == (cn : Int)) = true := beq_self_eq_true _
  obtain ⟨x0, x1, x2⟩ := HC4.out _ (Below.refl _ _)
  clear HL1 HK HS1 HS2 HS3 HS4 HF1 H1 HCX HR2 HB3
  cases t
  · rw [if_neg (by simp)]
    go_wp2_with fail
    go_region_held3 (fun W => W.cell? ⟨w.heap.size, 0, none⟩ = some v0 ∧ W.cell? ⟨w.heap.size, 1, none⟩ = some v1 ∧ W.cell? ⟨w.heap.size, 2, none⟩ = some v2)
      (first | assumption | (exact ⟨x0, x1, x2⟩) | (exact ⟨y0, y1, y2⟩) | go_keep | fail)
      (first
        | (go_at_call 9; with_reducible (refine (HT1.out _ HBD.out).mono ?_); rintro e w5 ⟨rfl, hb5⟩; have HB5 := Lib.hid (HTR.out _ _ HBD.out hb5); obtain ⟨y0, y1, y2⟩ := HC4.out _ HB5.out; clear hb5)
        | (go_at_call 10; with_reducible (refine (HT2.out _ HB5.out).mono ?_); rintro e w6 ⟨rfl, hb6⟩; have HB6 := Lib.hid (HTR.out _ _ HB5.out hb6); obtain ⟨y0, y1, y2⟩ := HC4.out _ HB6.out; clear hb6)
        | (go_at_call 11; with_reducible (refine (HT3.out _ HB6.out).mono ?_); rintro e w7 ⟨rfl, hb7⟩; have HB7 := Lib.hid (HTR.out _ _ HB6.out hb7); obtain ⟨y0, y1, y2⟩ := HC4.out _ HB7.out; clear hb7)
        | (go_at_call 7; with_reducible (refine (HT4.out _ HB7.out).mono ?_); rintro e w8 ⟨rfl, hb8⟩; have HB8 := Lib.hid (HTR.out _ _ HB7.out hb8); obtain ⟨y0, y1, y2⟩ := HC4.out _ HB8.out; clear hb8))
    go_wp2_with fail
    go_ret
    exact ⟨rfl, HW.out _ (HB4.out.trans (HB8.out.mono HB4.out.size))⟩
  · rw [if_pos rfl]
    go_upto_region 4 with (fail)
    refine wp_region_held_drew (S := fun W => W.cell? ⟨w.heap.size, 0, none⟩ = some v0 ∧ W.cell? ⟨w.heap.size, 1, none⟩ = some v1 ∧ W.cell? ⟨w.heap.size, 2, none⟩ = some v2) (by kernel_rfl) ⟨x0, x1, x2⟩ (fun hHeld => ?_)
    refine wpAnyH_take (i := 0) (v := ?_) (by simp only [List.getElem?_toArray, List.getElem?_cons_succ, List.getElem?_cons_zero] <;> rfl) (by kernel_rfl) (by kernel_rfl) (by kernel_rfl) (by intro _ _ _ h; exact h) (Or.inl ⟨by rfl, ?_⟩) (by assumption) ?_
    rotate_left
    · intro W9 hSw
      obtain ⟨s1, s2, s3⟩ := hSw
      go_simp
      try with_reducible rfl
    try simp only [Act.put, List.setIfInBounds_toArray, List.set_cons_zero, List.set_cons_succ]
    refine wpAnyH_take (i := 1) (v := ?_) (by simp only [List.getElem?_toArray, List.getElem?_cons_succ, List.getElem?_cons_zero] <;> rfl) (by kernel_rfl) (by kernel_rfl) (by kernel_rfl) (by intro _ _ _ h; exact h) (Or.inl ⟨by rfl, ?_⟩) (by assumption) ?_
    rotate_left
    · intro W9 hSw
      obtain ⟨s1, s2, s3⟩ := hSw
      go_simp
      try with_reducible rfl
    try simp only [Act.put, List.setIfInBounds_toArray, List.set_cons_zero, List.set_cons_succ]
    refine wpAnyH_take (i := 2) (v := .agg #[v0, v1, v2]) (by simp only [List.getElem?_toArray, List.getElem?_cons_succ, List.getElem?_cons_zero] <;> rfl) (by kernel_rfl) (by kernel_rfl) (by kernel_rfl) (by intro _ _ _ h; exact h) (Or.inl ⟨by rfl, ?_⟩) (by assumption) ?_
    · intro W9 hSw
      obtain ⟨s1, s2, s3⟩ := hSw
      go_simp
      try with_reducible rfl
    try simp only [Act.put, List.setIfInBounds_toArray, List.set_cons_zero, List.set_cons_succ]
    refine wpAnyH_ready (rs := [3]) (by kernel_rfl) (by simp) ?_
    refine AllReadyH.cons (by simp only [List.getElem?_toArray, List.getElem?_cons_succ, List.getElem?_cons_zero] <;> rfl) (fun K hK => ?_) AllReadyH.nil
    go_simp
    go_at_call 9
    refine (HT1.out _ HBD.out).mono ?_
    rintro e w5 ⟨rfl, hb5⟩
    have HB5 := Lib.hid (HTR.out _ _ HBD.out hb5)
    have hHeld5 := HC4.out _ HB5.out
    clear hHeld hb5
    refine hK.out _ _ hHeld5 (fun hHeld => ?_)
    clear hK K hHeld5
    try simp only [Act.put, List.setIfInBounds_toArray, List.set_cons_zero, List.set_cons_succ]
    refine wpAnyH_take (i := 4) (v := ?_) (by simp only [List.getElem?_toArray, List.getElem?_cons_succ, List.getElem?_cons_zero] <;> rfl) (by kernel_rfl) (by kernel_rfl) (by kernel_rfl) (by intro _ _ _ h; exact h) (Or.inl ⟨by rfl, ?_⟩) (by assumption) ?_
    rotate_left
    · intro W9 hSw
      obtain ⟨s1, s2, s3⟩ := hSw
      go_simp
      try with_reducible rfl
    try simp only [Act.put, List.setIfInBounds_toArray, List.set_cons_zero, List.set_cons_succ]
    refine wpAnyH_take (i := 5) (v := ?_) (by simp only [List.getElem?_toArray, List.getElem?_cons_succ, List.getElem?_cons_zero] <;> rfl) (by kernel_rfl) (by kernel_rfl) (by kernel_rfl) (by intro _ _ _ h; exact h) (Or.inl ⟨by rfl, ?_⟩) (by assumption) ?_
    rotate_left
    · intro W9 hSw
      obtain ⟨s1, s2, s3⟩ := hSw
      go_simp
      try with_reducible rfl
    try simp only [Act.put, List.setIfInBounds_toArray, List.set_cons_zero, List.set_cons_succ]
    refine wpAnyH_take (i := 6) (v := ?_) (by simp only [List.getElem?_toArray, List.getElem?_cons_succ, List.getElem?_cons_zero] <;> rfl) (by kernel_rfl) (by kernel_rfl) (by kernel_rfl) (by intro _ _ _ h; exact h) (Or.inl ⟨by rfl, ?_⟩) (by assumption) ?_
    rotate_left
    · intro W9 hSw
      obtain ⟨s1, s2, s3⟩ := hSw
      go_simp
      try with_reducible rfl
    try simp only [Act.put, List.setIfInBounds_toArray, List.set_cons_zero, List.set_cons_succ]
    refine wpAnyH_take (i := 7) (v := ?_) (by simp only [List.getElem?_toArray, List.getElem?_cons_succ, List.getElem?_cons_zero] <;> rfl) (by kernel_rfl) (by kernel_rfl) (by kernel_rfl) (by intro _ _ _ h; exact h) (Or.inl ⟨by rfl, ?_⟩) (by assumption) ?_
    rotate_left
    · intro W9 hSw
      obtain ⟨s1, s2, s3⟩ := hSw
      go_simp
      try with_reducible rfl
    try simp only [Act.put, List.setIfInBounds_toArray, List.set_cons_zero, List.set_cons_succ]
    refine wpAnyH_take (i := 8) (v := ?_) (by simp only [List.getElem?_toArray, List.getElem?_cons_succ, List.getElem?_cons_zero] <;> rfl) (by kernel_rfl) (by kernel_rfl) (by kernel_rfl) (by intro _ _ _ h; exact h) (Or.inl ⟨by rfl, ?_⟩) (by assumption) ?_
    rotate_left
    · intro W9 hSw
      obtain ⟨s1, s2, s3⟩ := hSw
      go_simp
      try with_reducible rfl
    try simp only [Act.put, List.setIfInBounds_toArray, List.set_cons_zero, List.set_cons_succ]
    refine wpAnyH_take (i := 9) (v := undef) (by simp only [List.getElem?_toArray, List.getElem?_cons_succ, List.getElem?_cons_zero] <;> rfl) (by kernel_rfl) (by kernel_rfl) (by kernel_rfl) (by intro _ _ _ h; exact h) (Or.inr ⟨by kernel_rfl, rfl⟩) (by assumption) ?_
    try simp only [Act.put, List.setIfInBounds_toArray, List.set_cons_zero, List.set_cons_succ]
    refine wpAnyH_take (i := 10) (v := undef) (by simp only [List.getElem?_toArray, List.getElem?_cons_succ, List.getElem?_cons_zero] <;> rfl) (by kernel_rfl) (by kernel_rfl) (by kernel_rfl) (by intro _ _ _ h; exact h) (Or.inr ⟨by kernel_rfl, rfl⟩) (by assumption) ?_
    try simp only [Act.put, List.setIfInBounds_toArray, List.set_cons_zero, List.set_cons_succ]
    refine wpAnyH_take (i := 11) (v := ?_) (by simp only [List.getElem?_toArray, List.getElem?_cons_succ, List.getElem?_cons_zero] <;> rfl) (by kernel_rfl) (by kernel_rfl) (by kernel_rfl) (by intro _ _ _ h; exact h) (Or.inl ⟨by rfl, ?_⟩) (by assumption) ?_
    rotate_left
    · intro W9 hSw
      obtain ⟨s1, s2, s3⟩ := hSw
      go_simp
      try with_reducible rfl
    try simp only [Act.put, List.setIfInBounds_toArray, List.set_cons_zero, List.set_cons_succ]
    refine wpAnyH_take (i := 12) (v := ?_) (by simp only [List.getElem?_toArray, List.getElem?_cons_succ, List.getElem?_cons_zero] <;> rfl) (by kernel_rfl) (by kernel_rfl) (by kernel_rfl) (by intro _ _ _ h; exact h) (Or.inl ⟨by rfl, ?_⟩) (by assumption) ?_
    rotate_left
    · intro W9 hSw
      obtain ⟨s1, s2, s3⟩ := hSw
      go_simp
      try with_reducible rfl
    try simp only [Act.put, List.setIfInBounds_toArray, List.set_cons_zero, List.set_cons_succ]
    refine wpAnyH_take (i := 13) (v := ?_) (by simp only [List.getElem?_toArray, List.getElem?_cons_succ, List.getElem?_cons_zero] <;> rfl) (by kernel_rfl) (by kernel_rfl) (by kernel_rfl) (by intro _ _ _ h; exact h) (Or.inl ⟨by rfl, ?_⟩) (by assumption) ?_
    rotate_left
    · intro W9 hSw
      obtain ⟨s1, s2, s3⟩ := hSw
      go_simp
      try with_reducible rfl
    try simp only [Act.put, List.setIfInBounds_toArray, List.set_cons_zero, List.set_cons_succ]
    refine wpAnyH_take (i := 14) (v := .agg #[v0, v1, v2]) (by simp only [List.getElem?_toArray, List.getElem?_cons_succ, List.getElem?_cons_zero] <;> rfl) (by kernel_rfl) (by kernel_rfl) (by kernel_rfl) (by intro _ _ _ h; exact h) (Or.inl ⟨by rfl, ?_⟩) (by assumption) ?_
    · intro W9 hSw
      obtain ⟨s1, s2, s3⟩ := hSw
      go_simp
      try with_reducible rfl
    try simp only [Act.put, List.setIfInBounds_toArray, List.set_cons_zero, List.set_cons_succ]
    refine wpAnyH_take (i := 16) (v := .agg #[v0, v1, v2]) (by simp only [List.getElem?_toArray, List.getElem?_cons_succ, List.getElem?_cons_zero] <;> rfl) (by kernel_rfl) (by kernel_rfl) (by kernel_rfl) (by intro _ _ _ h; exact h) (Or.inl ⟨by rfl, ?_⟩) (by assumption) ?_
    · intro W9 hSw
      obtain ⟨s1, s2, s3⟩ := hSw
      go_simp
      try with_reducible rfl
    try simp only [Act.put, List.setIfInBounds_toArray, List.set_cons_zero, List.set_cons_succ]
    refine wpAnyH_ready (rs := [15]) (by kernel_rfl) (by simp) ?_
    refine AllReadyH.cons (by simp only [List.getElem?_toArray, List.getElem?_cons_succ, List.getElem?_cons_zero] <;> rfl) (fun K hK => ?_) AllReadyH.nil
    go_simp
    go_at_call 10
    refine (HT2.out _ HB5.out).mono ?_
    rintro e w6 ⟨rfl, hb6⟩
    have HB6 := Lib.hid (HTR.out _ _ HB5.out hb6)
    have hHeld5 := HC4.out _ HB6.out
    clear hHeld hb6
    refine hK.out _ _ hHeld5 (fun hHeld => ?_)
    clear hK K hHeld5
    try simp only [Act.put, List.setIfInBounds_toArray, List.set_cons_zero, List.set_cons_succ]
    refine wpAnyH_ready (rs := [17]) (by kernel_rfl) (by simp) ?_
    refine AllReadyH.cons (by simp only [List.getElem?_toArray, List.getElem?_cons_succ, List.getElem?_cons_zero] <;> rfl) (fun K hK => ?_) AllReadyH.nil
    go_simp
    go_at_call 11
    refine (HT3.out _ HB6.out).mono ?_
    rintro e w7 ⟨rfl, hb7⟩
    have HB7 := Lib.hid (HTR.out _ _ HB6.out hb7)
    have hHeld5 := HC4.out _ HB7.out
    clear hHeld hb7
    refine hK.out _ _ hHeld5 (fun hHeld => ?_)
    clear hK K hHeld5
    try simp only [Act.put, List.setIfInBounds_toArray, List.set_cons_zero, List.set_cons_succ]
    refine wpAnyH_take (i := 18) (v := .bool true) (by simp only [List.getElem?_toArray, List.getElem?_cons_succ, List.getElem?_cons_zero] <;> rfl) (by kernel_rfl) (by kernel_rfl) (by kernel_rfl) (by intro _ _ _ h; exact h) (Or.inl ⟨by rfl, ?_⟩) (by assumption) ?_
    · intro W9 hSw
      obtain ⟨s1, s2, s3⟩ := hSw
      go_simp
      try simp
    try simp only [Act.put, List.setIfInBounds_toArray, List.set_cons_zero, List.set_cons_succ]
    refine wpAnyH_take (i := 19) (v := ?_) (by simp only [List.getElem?_toArray, List.getElem?_cons_succ, List.getElem?_cons_zero] <;> rfl) (by kernel_rfl) (by kernel_rfl) (by kernel_rfl) (by intro _ _ _ h; exact h) (Or.inl ⟨by rfl, ?_⟩) (by assumption) ?_
    rotate_left
    · intro W9 hSw
      obtain ⟨s1, s2, s3⟩ := hSw
      go_simp
      try with_reducible rfl
    try simp only [Act.put, List.setIfInBounds_toArray, List.set_cons_zero, List.set_cons_succ]
    refine wpAnyH_take (i := 20) (v := ?_) (by simp only [List.getElem?_toArray, List.getElem?_cons_succ, List.getElem?_cons_zero] <;> rfl) (by kernel_rfl) (by kernel_rfl) (by kernel_rfl) (by intro _ _ _ h; exact h) (Or.inl ⟨by rfl, ?_⟩) (by assumption) ?_
    rotate_left
    · intro W9 hSw
      obtain ⟨s1, s2, s3⟩ := hSw
      go_simp
      try with_reducible rfl
    try simp only [Act.put, List.setIfInBounds_toArray, List.set_cons_zero, List.set_cons_succ]
    refine wpAnyH_ready (rs := [21]) (by kernel_rfl) (by simp) ?_
    refine AllReadyH.cons (by simp only [List.getElem?_toArray, List.getElem?_cons_succ, List.getElem?_cons_zero] <;> rfl) (fun K hK => ?_) AllReadyH.nil
    go_simp
    go_at_call 7
    refine (HT4.out _ HB7.out).mono ?_
    rintro e w8 ⟨rfl, hb8⟩
    have HB8 := Lib.hid (HTR.out _ _ HB7.out hb8)
    have hHeld5 := HC4.out _ HB8.out
    clear hHeld hb8
    refine hK.out _ _ hHeld5 (fun hHeld => ?_)
    clear hK K hHeld5
    try simp only [Act.put, List.setIfInBounds_toArray, List.set_cons_zero, List.set_cons_succ]
    refine wpAnyH_take (i := 22) (v := ?_) (by simp only [List.getElem?_toArray, List.getElem?_cons_succ, List.getElem?_cons_zero] <;> rfl) (by kernel_rfl) (by kernel_rfl) (by kernel_rfl) (by intro _ _ _ h; exact h) (Or.inl ⟨by rfl, ?_⟩) (by assumption) ?_
    rotate_left
    · intro W9 hSw
      obtain ⟨s1, s2, s3⟩ := hSw
      go_simp
      try with_reducible rfl
    try simp only [Act.put, List.setIfInBounds_toArray, List.set_cons_zero, List.set_cons_succ]
    refine wpAnyH_take (i := 23) (v := ?_) (by simp only [List.getElem?_toArray, List.getElem?_cons_succ, List.getElem?_cons_zero] <;> rfl) (by kernel_rfl) (by kernel_rfl) (by kernel_rfl) (by intro _ _ _ h; exact h) (Or.inl ⟨by rfl, ?_⟩) (by assumption) ?_
    rotate_left
    · intro W9 hSw
      obtain ⟨s1, s2, s3⟩ := hSw
      go_simp
      try with_reducible rfl
    try simp only [Act.put, List.setIfInBounds_toArray, List.set_cons_zero, List.set_cons_succ]
    refine wpAnyH_done (by kernel_rfl) ?_ _
    go_wp2_with fail
    go_ret
    exact ⟨rfl, HW.out _ (HB4.out.trans (HB8.out.mono HB4.out.size))⟩
end Go.Proofs.YtccofgdcpmplmaaDoor
