/- The document's listing of a program. -/
import Derived.Test.YtccofgdcpmplmaaGreatDoorLim
import Derived.StillTailTactics
import Derived.Deep.RegionHeld3
namespace Go.Proofs.YtccofgdcpmplmaaGreatDoor
open Go Go.RowKit Go.Shelf
attribute [local go_sem] Oper.semAt_some
theorem size_lit (l : Array UInt8) : ({ data := l } : ByteArray).size = l.size := rfl
theorem itS_size {z : Int} (h : inI z) : (itS z).size ≤ 21 := by
  have := itL_len z h
  unfold itS
  rw [size_ofL]
  exact this
theorem cat_lF (p : Pr) : ({ data := #[102, 117, 110, 99, 32] } ++ itS p.params ++ { data := #[32] } ++ itS p.regs ++ { data := #[10] } : ByteArray).data.toList = lF p := by
  rw [lF_eq]
  simp [ByteArray.data_append, bl_itS]
theorem cat_lI (x : Ins) : (itS x.op ++ { data := #[32] } ++ itS x.a ++ { data := #[32] } ++ itS x.b ++ { data := #[32] } ++ itS x.c ++ { data := #[10] } : ByteArray).data.toList = lI x := by
  rw [lI_eq]
  simp [ByteArray.data_append, bl_itS]
theorem cat_lZ (z : Int) : ({ data := #[105, 110, 116, 32] } ++ itS z ++ { data := #[10] } : ByteArray).data.toList = lZ z := by
  rw [lZ_eq]
  simp [ByteArray.data_append, bl_itS]
theorem cat_lT (s : ByteArray) : ({ data := #[116, 101, 120, 116, 32] } ++ ofL (speL s) ++ { data := #[10] } : ByteArray).data.toList = lT s := by
  rw [lT_eq]
  simp [ByteArray.data_append, ofL]
set_option maxRecDepth 100000 in
set_option maxHeartbeats 16000000 in
theorem rlist_any (g : Pg) (w : World) (hg : g.at w) (hl : g.lim) (he : Env w) :
    Calls Tryz.prog 10 #[.agg g.vals] w fun e w' => e = .returned (.string (ofL (listL g))) ∧ Below w.heap.size w w' := by
  have HB := Lib.hid (below_new w (.cells g.vals 26))
  have HX := Lib.hid (BXG.new hg)
  have HLM := Lib.hid hl
  obtain ⟨n1, hn1⟩ : ∃ n, g.ps.length = n := ⟨_, rfl⟩
  obtain ⟨n2, hn2⟩ : ∃ n, g.is.length = n := ⟨_, rfl⟩
  obtain ⟨n3, hn3⟩ : ∃ n, g.ts.length = n := ⟨_, rfl⟩
  have HN := Lib.hid (And.intro hn1 (And.intro hn2 hn3))
  have HE : Hid (∀ W, Below w.heap.size w W → Env W) := Lib.hid (fun W hb => he.below hb)
  clear hg he hl hn1 hn2 hn3
  go_enter Tryz.func10, Tryz.ntmps10
  go_upto_region 1 with (fail)
  generalize w.alloc (.cells g.vals 26) = w1 at *
  have hcx : ∀ W, Below w1.heap.size w1 W → W.cell? ⟨w.heap.size, 0, none⟩ = some (.slice g.PA n1 g.Pc) ∧ W.cell? ⟨w.heap.size, 1, none⟩ = some (.slice g.IA n2 g.Ic) ∧ W.cell? ⟨w.heap.size, 2, none⟩ = some (.slice g.TA n3 g.Tc) := fun W hb => by
    have h := (HX.out.below hb).cells
    rw [HN.out.1, HN.out.2.1, HN.out.2.2] at h
    exact h
  have HCX := Lib.hid hcx
  clear hcx
  have HWW : Hid (∀ W, Below w1.heap.size w1 W → Below w.heap.size w W) := Lib.hid (fun W h => HB.out.trans (h.mono HB.out.size))
  have HEW : Hid (∀ W, Below w1.heap.size w1 W → Env W) := Lib.hid (fun W h => HE.out W (HWW.out W h))
  have HGW : Hid (∀ W, Below w1.heap.size w1 W → g.at W) := Lib.hid (fun W h => HX.out.g.below h)
  go_wp2_with fail
  go_loopw [3, 4] (fun v i wr => ∃ k : Nat, k ≤ n1 ∧ i = .int .i64 k ∧ Hid (OwnB wr w1.heap.size v (protsL (g.ps.take k))) ∧ Hid (Below w1.heap.size w1 wr)) (fun _ i _ => n1 - (intOf i).toNat)
  case atStart => exact ⟨0, by omega, rfl, Lib.hid (OwnB.nil _ _), Lib.hid (Below.refl _ _)⟩
  case round =>
    obtain ⟨k, hk, rfl, HOR, HBR⟩ := hrel
    obtain ⟨x0, x1, x2⟩ := HCX.out _ HBR.out
    by_cases hlt : k < n1
    rotate_left
    · have HAL : Hid (OwnB wr w1.heap.size u3 (protsL g.ps)) := Lib.hid (by
        have e9 : g.ps.take k = g.ps := List.take_of_length_le (by have := HN.out.1; omega)
        rw [← e9]
        exact HOR.out)
      have d1 : decide (k < n1) = false := decide_eq_false hlt
      have d2 : decide ((k : Int) < (n1 : Int)) = false := decide_eq_false (by omega)
      go_wp2_with fail
      clear x0 x1 x2 HOR d1 d2
      go_loopw [3, 8] (fun v i wr => ∃ k : Nat, k ≤ n2 ∧ i = .int .i64 k ∧ Hid (OwnB wr w1.heap.size v (protsL g.ps ++ intsL (g.is.take k))) ∧ Hid (Below w1.heap.size w1 wr)) (fun _ i _ => n2 - (intOf i).toNat)
      case atStart => exact ⟨0, by omega, rfl, by simpa [intsL] using HAL, HBR⟩
      case round =>
        clear HAL HBR
        obtain ⟨k2, hk2, rfl, HOR, HBR⟩ := hrel
        obtain ⟨x0, x1, x2⟩ := HCX.out _ HBR.out
        by_cases hlt2 : k2 < n2
        rotate_left
        · have HAL : Hid (OwnB wr w1.heap.size u3 (protsL g.ps ++ intsL g.is)) := Lib.hid (by
            have e9 : g.is.take k2 = g.is := List.take_of_length_le (by have := HN.out.2.1; omega)
            rw [← e9]
            exact HOR.out)
          have d1 : decide (k2 < n2) = false := decide_eq_false hlt2
          have d2 : decide ((k2 : Int) < (n2 : Int)) = false := decide_eq_false (by omega)
          go_wp2_with fail
          clear x0 x1 x2 HOR d1 d2
          go_loopw [3, 9] (fun v i wr => ∃ k : Nat, k ≤ n3 ∧ i = .int .i64 k ∧ Hid (OwnB wr w1.heap.size v (protsL g.ps ++ intsL g.is ++ textsL (g.ts.take k))) ∧ Hid (Below w1.heap.size w1 wr)) (fun _ i _ => n3 - (intOf i).toNat)
          case atStart => exact ⟨0, by omega, rfl, by simpa [textsL] using HAL, HBR⟩
          case round =>
            clear HAL HBR
            obtain ⟨k3, hk3, rfl, HOR, HBR⟩ := hrel
            obtain ⟨x0, x1, x2⟩ := HCX.out _ HBR.out
            by_cases hlt3 : k3 < n3
            rotate_left
            · have HAL : Hid (OwnB wr w1.heap.size u3 (listL g)) := Lib.hid (by
                have e9 : g.ts.take k3 = g.ts := List.take_of_length_le (by have := HN.out.2.2; omega)
                unfold listL
                rw [← e9]
                exact HOR.out)
              have d1 : decide (k3 < n3) = false := decide_eq_false hlt3
              have d2 : decide ((k3 : Int) < (n3 : Int)) = false := decide_eq_false (by omega)
              have HCO := conv_own HAL.out
              go_wp2_with fail
              go_ret
              exact ⟨rfl, HWW.out _ HBR.out⟩
            have hka : k3 < g.ts.length := by have := HN.out.2.2; omega
            obtain ⟨b6, o6, hT, hb6, u0⟩ := rdS_at (HGW.out _ HBR.out).ts hka
            have HNX := Lib.hid (textsL_next hka)
            have HSZ := Lib.hid (HLM.out.text (List.getElem_mem hka))
            obtain ⟨s, hs⟩ : ∃ s, g.ts[k3] = s := ⟨_, rfl⟩
            rw [hs] at u0 HNX HSZ
            have hbd : k3 ≤ 4000 := by have h1 := HLM.out.t; have h2 := HN.out.2.2; omega
            have hk0 : (0 : Int) ≤ (k3 : Int) := by omega
            have hkl : (k3 : Int) < (n3 : Int) := by omega
            have d1 : decide (k3 < n3) = true := decide_eq_true hlt3
            have d2 : decide ((k3 : Int) < (n3 : Int)) = true := decide_eq_true hkl
            have HSP := Lib.hid (rhex_any s wr (by have := HSZ.out; omega))
            obtain ⟨z, hz⟩ : ∃ z, ofL (speL s) = z := ⟨_, rfl⟩
            have hzs : z.size ≤ 8001 := by
              rw [← hz, size_ofL]
              have h1 := speL_len s
              have h2 := HSZ.out
              omega
            have HZ := Lib.hid hz
            rw [hz] at HSP
            have c1 : ¬ 9223372036854775807 < 5 + z.size := by omega
            have c2 : ¬ 9223372036854775807 < 5 + z.size + 1 := by omega
            have HPL : Hid ((protsL g.ps ++ intsL g.is ++ textsL (g.ts.take k3)).length ≤ 10000000) := Lib.hid (by
              have h1 := HLM.out.all
              have h2 := HLM.out.ints g.is.length
              have h3 := HLM.out.texts k3
              rw [List.take_length] at h2
              simp only [List.length_append]
              omega)
            rw [hT] at x2
            clear hs hT hka hz
            go_wp2_with fail
            refine HSP.out.mono ?_
            rintro e w5 ⟨rfl, hb5⟩
            have HO5 := Lib.hid (HOR.out.below hb5)
            have HB5 := Lib.hid (HBR.out.trans (hb5.mono HBR.out.size))
            clear hb5 HSP u0 HOR HBR x0 x1 x2
            go_wp2_with (at_builtin; refine wpList_text rfl (.tmp 91) (.tmp 99) rfl w1.heap.size u3 (protsL g.ps ++ intsL g.is ++ textsL (g.ts.take k3)) rfl HO5.out ({ data := #[116, 101, 120, 116, 32] } ++ z ++ { data := #[10] }) rfl (by have h1 := HPL.out; simp only [ByteArray.size_append, size_lit]; simp at h1 ⊢; omega) HB5.out.size ?_; intro v7 w7 ho7 hb7 hk7; have HO7 := Lib.hid ho7; have HB7 := Lib.hid hb7; clear ho7 hb7 hk7)
            have HO9 : Hid (OwnB w7 w1.heap.size v7 (protsL g.ps ++ intsL g.is ++ textsL (g.ts.take (k3 + 1)))) := Lib.hid (by
              have h1 := HO7.out
              rw [← HZ.out, cat_lT, List.append_assoc (protsL g.ps ++ intsL g.is)] at h1
              rw [HNX.out]
              exact h1)
            have HB9 := Lib.hid (HB5.out.trans HB7.out)
            go_roundw
            case rel => exact ⟨k3 + 1, by omega, by go_num, HO9, HB9⟩
            case measure => simp [intOf]; omega
        have hka : k2 < g.is.length := by have := HN.out.2.1; omega
        obtain ⟨b6, o6, hT, hb6, u0⟩ := rdZ_at (HGW.out _ HBR.out).is hka
        have HNX := Lib.hid (intsL_next hka)
        have HSZ := Lib.hid (HLM.out.io _ (List.getElem_mem hka))
        obtain ⟨s, hs⟩ : ∃ s, g.is[k2] = s := ⟨_, rfl⟩
        rw [hs] at u0 HNX HSZ
        have hbd : k2 ≤ 4000 := by have h1 := HLM.out.i; have h2 := HN.out.2.1; omega
        have hk0 : (0 : Int) ≤ (k2 : Int) := by omega
        have hkl : (k2 : Int) < (n2 : Int) := by omega
        have d1 : decide (k2 < n2) = true := decide_eq_true hlt2
        have d2 : decide ((k2 : Int) < (n2 : Int)) = true := decide_eq_true hkl
        have HSP := Lib.hid (fmt_any s wr HSZ.out (HEW.out _ HBR.out))
        obtain ⟨z, hz⟩ : ∃ z, itS s = z := ⟨_, rfl⟩
        have hzs : z.size ≤ 21 := by
          rw [← hz]
          exact itS_size HSZ.out
        have HZ := Lib.hid hz
        rw [hz] at HSP
        have c1 : ¬ 9223372036854775807 < 4 + z.size := by omega
        have c2 : ¬ 9223372036854775807 < 4 + z.size + 1 := by omega
        have HPL : Hid ((protsL g.ps ++ intsL (g.is.take k2)).length ≤ 10000000) := Lib.hid (by
          have h1 := HLM.out.all
          have h2 := HLM.out.ints k2
          simp only [List.length_append]
          omega)
        rw [hT] at x1
        clear hs hT hka hz
        go_wp2_with fail
        refine HSP.out.mono ?_
        rintro e w5 ⟨rfl, hb5⟩
        have HO5 := Lib.hid (HOR.out.below hb5)
        have HB5 := Lib.hid (HBR.out.trans (hb5.mono HBR.out.size))
        clear hb5 HSP u0 HOR HBR x0 x1 x2
        go_wp2_with (at_builtin; refine wpList_text rfl (.tmp 74) (.tmp 82) rfl w1.heap.size u3 (protsL g.ps ++ intsL (g.is.take k2)) rfl HO5.out ({ data := #[105, 110, 116, 32] } ++ z ++ { data := #[10] }) rfl (by have h1 := HPL.out; simp only [ByteArray.size_append, size_lit]; simp at h1 ⊢; omega) HB5.out.size ?_; intro v7 w7 ho7 hb7 hk7; have HO7 := Lib.hid ho7; have HB7 := Lib.hid hb7; clear ho7 hb7 hk7)
        have HO9 : Hid (OwnB w7 w1.heap.size v7 (protsL g.ps ++ intsL (g.is.take (k2 + 1)))) := Lib.hid (by
          have h1 := HO7.out
          rw [← HZ.out, cat_lZ, List.append_assoc (protsL g.ps)] at h1
          rw [HNX.out]
          exact h1)
        have HB9 := Lib.hid (HB5.out.trans HB7.out)
        go_roundw
        case rel => exact ⟨k2 + 1, by omega, by go_num, HO9, HB9⟩
        case measure => simp [intOf]; omega
    have hka : k < g.ps.length := by have := HN.out.1; omega
    obtain ⟨b3, o3, hA, hb3, u0, u1, u2⟩ := (HGW.out _ HBR.out).ps.at hka
    have HNX := Lib.hid (protsL_next hka)
    have HOK := Lib.hid (HLM.out.fit.r _ (List.getElem_mem hka))
    have HCL := Lib.hid (HLM.out.code (List.getElem_mem hka))
    have HRC : Hid (∀ W, Below w1.heap.size w1 W → RdI W g.ps[k].A g.ps[k].code) := Lib.hid (fun W hb => (HGW.out W hb).code _ (List.getElem_mem hka))
    obtain ⟨p, hp⟩ : ∃ p, g.ps[k] = p := ⟨_, rfl⟩
    rw [hp] at u0 u1 u2 HNX HOK HRC HCL
    obtain ⟨m, hm⟩ : ∃ m, p.code.length = m := ⟨_, rfl⟩
    rw [hm] at u2
    have HM := Lib.hid hm
    have hbd : k ≤ 4000 := by have h1 := HLM.out.p; have h2 := HN.out.1; omega
    have hbm : m ≤ 4000 := by have h1 := HCL.out; omega
    have hk0 : (0 : Int) ≤ (k : Int) := by omega
    have hkl : (k : Int) < (n1 : Int) := by omega
    have d1 : decide (k < n1) = true := decide_eq_true hlt
    have d2 : decide ((k : Int) < (n1 : Int)) = true := decide_eq_true hkl
    rw [hA] at x0
    have HX4 : Hid ((wr.alloc (.cells #[.int .i64 p.params, .int .i64 p.regs, .slice p.A m p.cap] 39)).heap[wr.heap.size]? = some (.cells #[.int .i64 p.params, .int .i64 p.regs, .slice p.A m p.cap] 39 (0, 0))) := Lib.hid (heap_alloc_new wr _)
    have HB4 := Lib.hid (HBR.out.trans ((below_new wr (.cells #[.int .i64 p.params, .int .i64 p.regs, .slice p.A m p.cap] 39)).mono HBR.out.size))
    have HO4 : Hid (OwnB (wr.alloc (.cells #[.int .i64 p.params, .int .i64 p.regs, .slice p.A m p.cap] 39)) w1.heap.size u3 (protsL (g.ps.take k))) := Lib.hid (HOR.out.below (below_new wr _))
    clear hp hm hka HOR HBR
    go_upto_region 6 with (fail)
    generalize wr.alloc _ = w4 at *
    generalize wr.heap.size = Bf at *
    clear u0 u1 u2 x0 x1 x2
    obtain ⟨y0, y1, y2⟩ := cell3 HX4.out
    have HBD := Lib.hid ((Below.refl w4.heap.size w4).drew)
    have HTR : Hid (∀ A C, Below w4.heap.size w4 A → Below A.heap.size A C → Below w4.heap.size w4 C) := Lib.hid (fun A C h k => h.trans (k.mono h.size))
    have HIP : Hid (∀ W, Below w4.heap.size w4 W → Calls Tryz.prog 15 #[.int .i64 p.params] W fun e w' => e = .returned (.string (itS p.params)) ∧ Below W.heap.size W w') := Lib.hid (fun W hb => itoa_any _ W HOK.out.1 ((HEW.out _ HB4.out).below hb))
    have HIR : Hid (∀ W, Below w4.heap.size w4 W → Calls Tryz.prog 15 #[.int .i64 p.regs] W fun e w' => e = .returned (.string (itS p.regs)) ∧ Below W.heap.size W w') := Lib.hid (fun W hb => itoa_any _ W HOK.out.2.1 ((HEW.out _ HB4.out).below hb))
    have hs1 := itS_size HOK.out.1
    have hs2 := itS_size HOK.out.2.1
    have HYC : Hid (∀ W, Below w4.heap.size w4 W → W.cell? ⟨Bf, 0, none⟩ = some (.int .i64 p.params) ∧ W.cell? ⟨Bf, 1, none⟩ = some (.int .i64 p.regs)) := Lib.hid (fun W hb => by
      obtain ⟨a0, a1, _⟩ := cell3 ((hb.block _ (Array.getElem?_eq_some_iff.1 HX4.out).1).trans HX4.out)
      exact ⟨a0, a1⟩)
    have HO6 : Hid (∀ W, Below w4.heap.size w4 W → OwnB W w1.heap.size u3 (protsL (g.ps.take k))) := Lib.hid (fun W hb => HO4.out.below hb)
    refine wp_region_held_drew (S := fun W => W.cell? ⟨Bf, 0, none⟩ = some (.int .i64 p.params) ∧ W.cell? ⟨Bf, 1, none⟩ = some (.int .i64 p.regs)) (by kernel_rfl) ⟨y0, y1⟩ (fun hHeld => ?_)
    refine wpAnyH_take (i := 0) (v := ?_) (by simp only [List.getElem?_toArray, List.getElem?_cons_succ, List.getElem?_cons_zero] <;> rfl) (by kernel_rfl) (by kernel_rfl) (by kernel_rfl) (by intro _ _ _ h; exact h) (Or.inl ⟨by rfl, ?_⟩) (by assumption) ?_
    rotate_left
    · intro W9 hSw
      obtain ⟨s1, s2⟩ := hSw
      go_simp
      try with_reducible rfl
    try simp only [Act.put, List.setIfInBounds_toArray, List.set_cons_zero, List.set_cons_succ]
    refine wpAnyH_take (i := 1) (v := ?_) (by simp only [List.getElem?_toArray, List.getElem?_cons_succ, List.getElem?_cons_zero] <;> rfl) (by kernel_rfl) (by kernel_rfl) (by kernel_rfl) (by intro _ _ _ h; exact h) (Or.inl ⟨by rfl, ?_⟩) (by assumption) ?_
    rotate_left
    · intro W9 hSw
      obtain ⟨s1, s2⟩ := hSw
      go_simp
      try with_reducible rfl
    try simp only [Act.put, List.setIfInBounds_toArray, List.set_cons_zero, List.set_cons_succ]
    refine wpAnyH_take (i := 2) (v := .int .i64 p.params) (by simp only [List.getElem?_toArray, List.getElem?_cons_succ, List.getElem?_cons_zero] <;> rfl) (by kernel_rfl) (by kernel_rfl) (by kernel_rfl) (by intro _ _ _ h; exact h) (Or.inl ⟨by rfl, ?_⟩) (by assumption) ?_
    · intro W9 hSw
      obtain ⟨s1, s2⟩ := hSw
      go_simp
      try with_reducible rfl
    try simp only [Act.put, List.setIfInBounds_toArray, List.set_cons_zero, List.set_cons_succ]
    refine wpAnyH_take (i := 6) (v := ?_) (by simp only [List.getElem?_toArray, List.getElem?_cons_succ, List.getElem?_cons_zero] <;> rfl) (by kernel_rfl) (by kernel_rfl) (by kernel_rfl) (by intro _ _ _ h; exact h) (Or.inl ⟨by rfl, ?_⟩) (by assumption) ?_
    rotate_left
    · intro W9 hSw
      obtain ⟨s1, s2⟩ := hSw
      go_simp
      try with_reducible rfl
    try simp only [Act.put, List.setIfInBounds_toArray, List.set_cons_zero, List.set_cons_succ]
    refine wpAnyH_take (i := 7) (v := .int .i64 p.regs) (by simp only [List.getElem?_toArray, List.getElem?_cons_succ, List.getElem?_cons_zero] <;> rfl) (by kernel_rfl) (by kernel_rfl) (by kernel_rfl) (by intro _ _ _ h; exact h) (Or.inl ⟨by rfl, ?_⟩) (by assumption) ?_
    · intro W9 hSw
      obtain ⟨s1, s2⟩ := hSw
      go_simp
      try with_reducible rfl
    try simp only [Act.put, List.setIfInBounds_toArray, List.set_cons_zero, List.set_cons_succ]
    refine wpAnyH_ready (rs := [3]) (by kernel_rfl) (by simp) ?_
    refine AllReadyH.cons (by simp only [List.getElem?_toArray, List.getElem?_cons_succ, List.getElem?_cons_zero] <;> rfl) (fun K hK => ?_) AllReadyH.nil
    go_simp
    go_at_call 15
    refine (HIP.out _ HBD.out).mono ?_
    rintro e w5 ⟨rfl, hb5⟩
    have HB5 := Lib.hid (HTR.out _ _ HBD.out hb5)
    have hHeld5 := HYC.out _ HB5.out
    clear hHeld hb5
    refine hK.out _ _ hHeld5 (fun hHeld => ?_)
    clear hK K hHeld5
    try simp only [Act.put, List.setIfInBounds_toArray, List.set_cons_zero, List.set_cons_succ]
    refine wpAnyH_take (i := 4) (v := .string ({ data := #[102, 117, 110, 99, 32] } ++ itS p.params)) (by simp only [List.getElem?_toArray, List.getElem?_cons_succ, List.getElem?_cons_zero] <;> rfl) (by kernel_rfl) (by kernel_rfl) (by kernel_rfl) (by intro _ _ _ h; exact h) (Or.inl ⟨by rfl, ?_⟩) (by assumption) ?_
    · intro W9 hSw
      obtain ⟨s1, s2⟩ := hSw
      go_simp
      first
        | with_reducible rfl
        | omega
        | (rw [if_neg]; simp only [ByteArray.size_append, size_lit]; simp; omega)
        | (rw [if_neg]; simp; omega)
        | (trace_state; fail)
    try simp only [Act.put, List.setIfInBounds_toArray, List.set_cons_zero, List.set_cons_succ]
    refine wpAnyH_take (i := 5) (v := .string ({ data := #[102, 117, 110, 99, 32] } ++ itS p.params ++ { data := #[32] })) (by simp only [List.getElem?_toArray, List.getElem?_cons_succ, List.getElem?_cons_zero] <;> rfl) (by kernel_rfl) (by kernel_rfl) (by kernel_rfl) (by intro _ _ _ h; exact h) (Or.inl ⟨by rfl, ?_⟩) (by assumption) ?_
    · intro W9 hSw
      obtain ⟨s1, s2⟩ := hSw
      go_simp
      first
        | with_reducible rfl
        | omega
        | (rw [if_neg]; simp only [ByteArray.size_append, size_lit]; simp; omega)
        | (rw [if_neg]; simp; omega)
        | (trace_state; fail)
    try simp only [Act.put, List.setIfInBounds_toArray, List.set_cons_zero, List.set_cons_succ]
    refine wpAnyH_ready (rs := [8]) (by kernel_rfl) (by simp) ?_
    refine AllReadyH.cons (by simp only [List.getElem?_toArray, List.getElem?_cons_succ, List.getElem?_cons_zero] <;> rfl) (fun K hK => ?_) AllReadyH.nil
    go_simp
    go_at_call 15
    refine (HIR.out _ HB5.out).mono ?_
    rintro e w6 ⟨rfl, hb6⟩
    have HB6 := Lib.hid (HTR.out _ _ HB5.out hb6)
    have hHeld5 := HYC.out _ HB6.out
    clear hHeld hb6
    refine hK.out _ _ hHeld5 (fun hHeld => ?_)
    clear hK K hHeld5
    try simp only [Act.put, List.setIfInBounds_toArray, List.set_cons_zero, List.set_cons_succ]
    refine wpAnyH_take (i := 9) (v := .string ({ data := #[102, 117, 110, 99, 32] } ++ itS p.params ++ { data := #[32] } ++ itS p.regs)) (by simp only [List.getElem?_toArray, List.getElem?_cons_succ, List.getElem?_cons_zero] <;> rfl) (by kernel_rfl) (by kernel_rfl) (by kernel_rfl) (by intro _ _ _ h; exact h) (Or.inl ⟨by rfl, ?_⟩) (by assumption) ?_
    · intro W9 hSw
      obtain ⟨s1, s2⟩ := hSw
      go_simp
      first
        | with_reducible rfl
        | omega
        | (rw [if_neg]; simp only [ByteArray.size_append, size_lit]; simp; omega)
        | (rw [if_neg]; simp; omega)
        | (trace_state; fail)
    try simp only [Act.put, List.setIfInBounds_toArray, List.set_cons_zero, List.set_cons_succ]
    refine wpAnyH_take (i := 10) (v := .string ({ data := #[102, 117, 110, 99, 32] } ++ itS p.params ++ { data := #[32] } ++ itS p.regs ++ { data := #[10] })) (by simp only [List.getElem?_toArray, List.getElem?_cons_succ, List.getElem?_cons_zero] <;> rfl) (by kernel_rfl) (by kernel_rfl) (by kernel_rfl) (by intro _ _ _ h; exact h) (Or.inl ⟨by rfl, ?_⟩) (by assumption) ?_
    · intro W9 hSw
      obtain ⟨s1, s2⟩ := hSw
      go_simp
      first
        | with_reducible rfl
        | omega
        | (rw [if_neg]; simp only [ByteArray.size_append, size_lit]; simp; omega)
        | (rw [if_neg]; simp; omega)
        | (trace_state; fail)
    try simp only [Act.put, List.setIfInBounds_toArray, List.set_cons_zero, List.set_cons_succ]
    refine wpAnyH_ready (rs := [11]) (by kernel_rfl) (by simp) ?_
    refine AllReadyH.cons (by simp only [List.getElem?_toArray, List.getElem?_cons_succ, List.getElem?_cons_zero] <;> rfl) (fun K hK => ?_) AllReadyH.nil
    refine step_text (by rfl) (.tmp 22) (.tmp 32) (by rfl) w1.heap.size u3 (protsL (g.ps.take k)) (by rfl) (HO6.out _ HB6.out) ({ data := #[102, 117, 110, 99, 32] } ++ itS p.params ++ { data := #[32] } ++ itS p.regs ++ { data := #[10] }) (by rfl) (by have h1 := HLM.out.take k; simp only [ByteArray.size_append, size_lit]; simp; omega) (Nat.le_trans HB4.out.size HB6.out.size) ?_
    intro v7 w7 ho7 hb7 hk7
    have HO7 := Lib.hid ho7
    have HB7 := Lib.hid hb7
    have HK7 := Lib.hid hk7
    have HX7 := Lib.hid (HK7.out 39 (.inl rfl) _ _ _ ((HB6.out.block _ (Array.getElem?_eq_some_iff.1 HX4.out).1).trans HX4.out))
    obtain ⟨t0, t1, t2⟩ := cell3 HX7.out
    have hHeld5 := And.intro t0 t1
    clear hHeld ho7 hb7 hk7
    refine hK.out _ _ hHeld5 (fun hHeld => ?_)
    clear hK K hHeld5
    try simp only [Act.put, List.setIfInBounds_toArray, List.set_cons_zero, List.set_cons_succ]
    refine wpAnyH_take (i := 12) (v := ?_) (by simp only [List.getElem?_toArray, List.getElem?_cons_succ, List.getElem?_cons_zero] <;> rfl) (by kernel_rfl) (by kernel_rfl) (by kernel_rfl) (by intro _ _ _ h; exact h) (Or.inl ⟨by rfl, ?_⟩) (by assumption) ?_
    rotate_left
    · intro W9 hSw
      obtain ⟨s1, s2⟩ := hSw
      go_simp
      try with_reducible rfl
    try simp only [Act.put, List.setIfInBounds_toArray, List.set_cons_zero, List.set_cons_succ]
    refine wpAnyH_done (by kernel_rfl) ?_ _
    go_wp2_with fail
    have HB7b := Lib.hid ((HB4.out.trans (HB6.out.mono HB4.out.size)).trans HB7.out)
    have HO7b : Hid (OwnB w7 w1.heap.size v7 (protsL (g.ps.take k) ++ lF p)) := Lib.hid (by rw [← cat_lF]; exact HO7.out)
    clear HB6 HB7 HO7 HK7 HO6 HX4 HB4 HO4 HIP HIR HYC HTR HBD hs1 hs2 y0 y1 y2 t0 t1 t2 HB5 hHeld
    go_loopw [3, 6] (fun v i wr => ∃ j : Nat, j ≤ m ∧ i = .int .i64 j ∧ Hid (OwnB wr w1.heap.size v (protsL (g.ps.take k) ++ lF p ++ codeL (p.code.take j))) ∧ Hid (Below w1.heap.size w1 wr) ∧ Hid (wr.heap[Bf]? = some (.cells #[.int .i64 p.params, .int .i64 p.regs, .slice p.A m p.cap] 39 (0, 0)))) (fun _ i _ => m - (intOf i).toNat)
    case atStart => exact ⟨0, by omega, rfl, by simpa [codeL] using HO7b, HB7b, HX7⟩
    case round =>
    clear HO7b HB7b HX7
    obtain ⟨j, hj, rfl, HOJ, HBJ, HXJ⟩ := hrel
    obtain ⟨t0, t1, t2⟩ := cell3 HXJ.out
    by_cases hlj : j < m
    rotate_left
    · have HAL : Hid (OwnB wr w1.heap.size u3 (protsL (g.ps.take (k + 1)))) := Lib.hid (by
        have h1 := HOJ.out
        have e9 : p.code.take j = p.code := List.take_of_length_le (by have := HM.out; omega)
        rw [e9, List.append_assoc] at h1
        rw [HNX.out]
        exact h1)
      have d1 : decide (j < m) = false := decide_eq_false hlj
      have d2 : decide ((j : Int) < (m : Int)) = false := decide_eq_false (by omega)
      go_wp2_with fail
      go_roundw
      case rel => exact ⟨k + 1, by omega, by go_num, HAL, HBJ⟩
      case measure => simp [intOf]; omega
    have hjc : j < p.code.length := by have := HM.out; omega
    obtain ⟨b5, o5, hE, hb5, u0, u1, u2, u3'⟩ := (HRC.out _ HBJ.out).at hjc
    have HNJ := Lib.hid (codeL_next hjc)
    have HXO := Lib.hid (HOK.out.2.2 _ (List.getElem_mem hjc))
    obtain ⟨x, hx⟩ : ∃ x, p.code[j] = x := ⟨_, rfl⟩
    rw [hx] at u0 u1 u2 u3' HNJ HXO
    have hj0 : (0 : Int) ≤ (j : Int) := by omega
    have hjl : (j : Int) < (m : Int) := by omega
    have d1 : decide (j < m) = true := decide_eq_true hlj
    have d2 : decide ((j : Int) < (m : Int)) = true := decide_eq_true hjl
    rw [hE] at t2
    have HX8 : Hid ((wr.alloc (.cells #[.int .i64 x.op, .int .i64 x.a, .int .i64 x.b, .int .i64 x.c] 42)).heap[wr.heap.size]? = some (.cells #[.int .i64 x.op, .int .i64 x.a, .int .i64 x.b, .int .i64 x.c] 42 (0, 0))) := Lib.hid (heap_alloc_new wr _)
    have HB8 := Lib.hid (HBJ.out.trans ((below_new wr (.cells #[.int .i64 x.op, .int .i64 x.a, .int .i64 x.b, .int .i64 x.c] 42)).mono HBJ.out.size))
    have HO8 : Hid (OwnB (wr.alloc (.cells #[.int .i64 x.op, .int .i64 x.a, .int .i64 x.b, .int .i64 x.c] 42)) w1.heap.size u3 (protsL (g.ps.take k) ++ lF p ++ codeL (p.code.take j))) := Lib.hid (HOJ.out.below (below_new wr _))
    have HXF8 : Hid ((wr.alloc (.cells #[.int .i64 x.op, .int .i64 x.a, .int .i64 x.b, .int .i64 x.c] 42)).heap[Bf]? = some (.cells #[.int .i64 p.params, .int .i64 p.regs, .slice p.A m p.cap] 39 (0, 0))) := Lib.hid (((below_new wr _).block _ (Array.getElem?_eq_some_iff.1 HXJ.out).1).trans HXJ.out)
    have HPL : Hid ((protsL (g.ps.take k) ++ lF p ++ codeL (p.code.take j)).length ≤ 10000000) := Lib.hid (by
      have h1 := HLM.out.take k
      have h2 := lF_len ⟨HOK.out.1, HOK.out.2.1⟩
      have h3 := codeL_len (l := p.code.take j) (fun y hy => HOK.out.2.2 y (List.mem_of_mem_take hy))
      have h4 : (p.code.take j).length ≤ p.code.length := by rw [List.length_take]; omega
      have h5 := HCL.out
      simp only [List.length_append]
      omega)
    have hz1 := itS_size HXO.out.1
    have hz2 := itS_size HXO.out.2.1
    have hz3 := itS_size HXO.out.2.2.1
    have hz4 := itS_size HXO.out.2.2.2
    clear hx hE hjc HOJ HBJ HXJ
    go_upto_region 11 with (fail)
    generalize wr.alloc _ = w8 at *
    generalize wr.heap.size = Bx at *
    clear u0 u1 u2 u3' t0 t1 t2
    obtain ⟨y0, y1, y2, y3⟩ := cell4 HX8.out
    have HBD := Lib.hid ((Below.refl w8.heap.size w8).drew)
    have HTR2 : Hid (∀ A C, Below w8.heap.size w8 A → Below A.heap.size A C → Below w8.heap.size w8 C) := Lib.hid (fun A C h k => h.trans (k.mono h.size))
    have HI1 : Hid (∀ W, Below w8.heap.size w8 W → Calls Tryz.prog 15 #[.int .i64 x.op] W fun e w' => e = .returned (.string (itS x.op)) ∧ Below W.heap.size W w') := Lib.hid (fun W hb => itoa_any _ W HXO.out.1 ((HEW.out _ HB8.out).below hb))
    have HI2 : Hid (∀ W, Below w8.heap.size w8 W → Calls Tryz.prog 15 #[.int .i64 x.a] W fun e w' => e = .returned (.string (itS x.a)) ∧ Below W.heap.size W w') := Lib.hid (fun W hb => itoa_any _ W HXO.out.2.1 ((HEW.out _ HB8.out).below hb))
    have HI3 : Hid (∀ W, Below w8.heap.size w8 W → Calls Tryz.prog 15 #[.int .i64 x.b] W fun e w' => e = .returned (.string (itS x.b)) ∧ Below W.heap.size W w') := Lib.hid (fun W hb => itoa_any _ W HXO.out.2.2.1 ((HEW.out _ HB8.out).below hb))
    have HI4 : Hid (∀ W, Below w8.heap.size w8 W → Calls Tryz.prog 15 #[.int .i64 x.c] W fun e w' => e = .returned (.string (itS x.c)) ∧ Below W.heap.size W w') := Lib.hid (fun W hb => itoa_any _ W HXO.out.2.2.2 ((HEW.out _ HB8.out).below hb))
    have HYC2 : Hid (∀ W, Below w8.heap.size w8 W → W.cell? ⟨Bx, 0, none⟩ = some (.int .i64 x.op) ∧ W.cell? ⟨Bx, 1, none⟩ = some (.int .i64 x.a) ∧ W.cell? ⟨Bx, 2, none⟩ = some (.int .i64 x.b) ∧ W.cell? ⟨Bx, 3, none⟩ = some (.int .i64 x.c)) := Lib.hid (fun W hb => cell4 ((hb.block _ (Array.getElem?_eq_some_iff.1 HX8.out).1).trans HX8.out))
    have HO12 : Hid (∀ W, Below w8.heap.size w8 W → OwnB W w1.heap.size u3 (protsL (g.ps.take k) ++ lF p ++ codeL (p.code.take j))) := Lib.hid (fun W hb => HO8.out.below hb)
    refine wp_region_held_drew (S := fun W => W.cell? ⟨Bx, 0, none⟩ = some (.int .i64 x.op) ∧ W.cell? ⟨Bx, 1, none⟩ = some (.int .i64 x.a) ∧ W.cell? ⟨Bx, 2, none⟩ = some (.int .i64 x.b) ∧ W.cell? ⟨Bx, 3, none⟩ = some (.int .i64 x.c)) (by kernel_rfl) ⟨y0, y1, y2, y3⟩ (fun hHeld => ?_)
    refine wpAnyH_take (i := 0) (v := ?_) (by simp only [List.getElem?_toArray, List.getElem?_cons_succ, List.getElem?_cons_zero] <;> rfl) (by kernel_rfl) (by kernel_rfl) (by kernel_rfl) (by intro _ _ _ h; exact h) (Or.inl ⟨by rfl, ?_⟩) (by assumption) ?_
    rotate_left
    · intro W9 hSw
      obtain ⟨s1, s2, s3, s4⟩ := hSw
      go_simp
      try with_reducible rfl
    try simp only [Act.put, List.setIfInBounds_toArray, List.set_cons_zero, List.set_cons_succ]
    refine wpAnyH_take (i := 1) (v := ?_) (by simp only [List.getElem?_toArray, List.getElem?_cons_succ, List.getElem?_cons_zero] <;> rfl) (by kernel_rfl) (by kernel_rfl) (by kernel_rfl) (by intro _ _ _ h; exact h) (Or.inl ⟨by rfl, ?_⟩) (by assumption) ?_
    rotate_left
    · intro W9 hSw
      obtain ⟨s1, s2, s3, s4⟩ := hSw
      go_simp
      try with_reducible rfl
    try simp only [Act.put, List.setIfInBounds_toArray, List.set_cons_zero, List.set_cons_succ]
    refine wpAnyH_take (i := 2) (v := .int .i64 x.op) (by simp only [List.getElem?_toArray, List.getElem?_cons_succ, List.getElem?_cons_zero] <;> rfl) (by kernel_rfl) (by kernel_rfl) (by kernel_rfl) (by intro _ _ _ h; exact h) (Or.inl ⟨by rfl, ?_⟩) (by assumption) ?_
    · intro W9 hSw
      obtain ⟨s1, s2, s3, s4⟩ := hSw
      go_simp
      try with_reducible rfl
    try simp only [Act.put, List.setIfInBounds_toArray, List.set_cons_zero, List.set_cons_succ]
    refine wpAnyH_take (i := 5) (v := ?_) (by simp only [List.getElem?_toArray, List.getElem?_cons_succ, List.getElem?_cons_zero] <;> rfl) (by kernel_rfl) (by kernel_rfl) (by kernel_rfl) (by intro _ _ _ h; exact h) (Or.inl ⟨by rfl, ?_⟩) (by assumption) ?_
    rotate_left
    · intro W9 hSw
      obtain ⟨s1, s2, s3, s4⟩ := hSw
      go_simp
      try with_reducible rfl
    try simp only [Act.put, List.setIfInBounds_toArray, List.set_cons_zero, List.set_cons_succ]
    refine wpAnyH_take (i := 6) (v := .int .i64 x.a) (by simp only [List.getElem?_toArray, List.getElem?_cons_succ, List.getElem?_cons_zero] <;> rfl) (by kernel_rfl) (by kernel_rfl) (by kernel_rfl) (by intro _ _ _ h; exact h) (Or.inl ⟨by rfl, ?_⟩) (by assumption) ?_
    · intro W9 hSw
      obtain ⟨s1, s2, s3, s4⟩ := hSw
      go_simp
      try with_reducible rfl
    try simp only [Act.put, List.setIfInBounds_toArray, List.set_cons_zero, List.set_cons_succ]
    refine wpAnyH_take (i := 10) (v := ?_) (by simp only [List.getElem?_toArray, List.getElem?_cons_succ, List.getElem?_cons_zero] <;> rfl) (by kernel_rfl) (by kernel_rfl) (by kernel_rfl) (by intro _ _ _ h; exact h) (Or.inl ⟨by rfl, ?_⟩) (by assumption) ?_
    rotate_left
    · intro W9 hSw
      obtain ⟨s1, s2, s3, s4⟩ := hSw
      go_simp
      try with_reducible rfl
    try simp only [Act.put, List.setIfInBounds_toArray, List.set_cons_zero, List.set_cons_succ]
    refine wpAnyH_take (i := 11) (v := .int .i64 x.b) (by simp only [List.getElem?_toArray, List.getElem?_cons_succ, List.getElem?_cons_zero] <;> rfl) (by kernel_rfl) (by kernel_rfl) (by kernel_rfl) (by intro _ _ _ h; exact h) (Or.inl ⟨by rfl, ?_⟩) (by assumption) ?_
    · intro W9 hSw
      obtain ⟨s1, s2, s3, s4⟩ := hSw
      go_simp
      try with_reducible rfl
    try simp only [Act.put, List.setIfInBounds_toArray, List.set_cons_zero, List.set_cons_succ]
    refine wpAnyH_take (i := 15) (v := ?_) (by simp only [List.getElem?_toArray, List.getElem?_cons_succ, List.getElem?_cons_zero] <;> rfl) (by kernel_rfl) (by kernel_rfl) (by kernel_rfl) (by intro _ _ _ h; exact h) (Or.inl ⟨by rfl, ?_⟩) (by assumption) ?_
    rotate_left
    · intro W9 hSw
      obtain ⟨s1, s2, s3, s4⟩ := hSw
      go_simp
      try with_reducible rfl
    try simp only [Act.put, List.setIfInBounds_toArray, List.set_cons_zero, List.set_cons_succ]
    refine wpAnyH_take (i := 16) (v := .int .i64 x.c) (by simp only [List.getElem?_toArray, List.getElem?_cons_succ, List.getElem?_cons_zero] <;> rfl) (by kernel_rfl) (by kernel_rfl) (by kernel_rfl) (by intro _ _ _ h; exact h) (Or.inl ⟨by rfl, ?_⟩) (by assumption) ?_
    · intro W9 hSw
      obtain ⟨s1, s2, s3, s4⟩ := hSw
      go_simp
      try with_reducible rfl
    try simp only [Act.put, List.setIfInBounds_toArray, List.set_cons_zero, List.set_cons_succ]
    refine wpAnyH_ready (rs := [3]) (by kernel_rfl) (by simp) ?_
    refine AllReadyH.cons (by simp only [List.getElem?_toArray, List.getElem?_cons_succ, List.getElem?_cons_zero] <;> rfl) (fun K hK => ?_) AllReadyH.nil
    go_simp
    go_at_call 15
    refine (HI1.out _ HBD.out).mono ?_
    rintro e w9 ⟨rfl, hb9⟩
    have HB9 := Lib.hid (HTR2.out _ _ HBD.out hb9)
    have hHeld5 := HYC2.out _ HB9.out
    clear hHeld hb9
    refine hK.out _ _ hHeld5 (fun hHeld => ?_)
    clear hK K hHeld5
    try simp only [Act.put, List.setIfInBounds_toArray, List.set_cons_zero, List.set_cons_succ]
    refine wpAnyH_take (i := 4) (v := .string (itS x.op ++ { data := #[32] })) (by simp only [List.getElem?_toArray, List.getElem?_cons_succ, List.getElem?_cons_zero] <;> rfl) (by kernel_rfl) (by kernel_rfl) (by kernel_rfl) (by intro _ _ _ h; exact h) (Or.inl ⟨by rfl, ?_⟩) (by assumption) ?_
    · intro W9 hSw
      obtain ⟨s1, s2, s3, s4⟩ := hSw
      go_simp
      first
        | with_reducible rfl
        | omega
        | (rw [if_neg]; simp only [ByteArray.size_append, size_lit]; simp; omega)
        | (rw [if_neg]; simp; omega)
        | (trace_state; fail)
    try simp only [Act.put, List.setIfInBounds_toArray, List.set_cons_zero, List.set_cons_succ]
    refine wpAnyH_ready (rs := [7]) (by kernel_rfl) (by simp) ?_
    refine AllReadyH.cons (by simp only [List.getElem?_toArray, List.getElem?_cons_succ, List.getElem?_cons_zero] <;> rfl) (fun K hK => ?_) AllReadyH.nil
    go_simp
    go_at_call 15
    refine (HI2.out _ HB9.out).mono ?_
    rintro e w10 ⟨rfl, hb10⟩
    have HB10 := Lib.hid (HTR2.out _ _ HB9.out hb10)
    have hHeld5 := HYC2.out _ HB10.out
    clear hHeld hb10
    refine hK.out _ _ hHeld5 (fun hHeld => ?_)
    clear hK K hHeld5
    try simp only [Act.put, List.setIfInBounds_toArray, List.set_cons_zero, List.set_cons_succ]
    refine wpAnyH_take (i := 8) (v := .string (itS x.op ++ { data := #[32] } ++ itS x.a)) (by simp only [List.getElem?_toArray, List.getElem?_cons_succ, List.getElem?_cons_zero] <;> rfl) (by kernel_rfl) (by kernel_rfl) (by kernel_rfl) (by intro _ _ _ h; exact h) (Or.inl ⟨by rfl, ?_⟩) (by assumption) ?_
    · intro W9 hSw
      obtain ⟨s1, s2, s3, s4⟩ := hSw
      go_simp
      first
        | with_reducible rfl
        | omega
        | (rw [if_neg]; simp only [ByteArray.size_append, size_lit]; simp; omega)
        | (rw [if_neg]; simp; omega)
        | (trace_state; fail)
    try simp only [Act.put, List.setIfInBounds_toArray, List.set_cons_zero, List.set_cons_succ]
    refine wpAnyH_take (i := 9) (v := .string (itS x.op ++ { data := #[32] } ++ itS x.a ++ { data := #[32] })) (by simp only [List.getElem?_toArray, List.getElem?_cons_succ, List.getElem?_cons_zero] <;> rfl) (by kernel_rfl) (by kernel_rfl) (by kernel_rfl) (by intro _ _ _ h; exact h) (Or.inl ⟨by rfl, ?_⟩) (by assumption) ?_
    · intro W9 hSw
      obtain ⟨s1, s2, s3, s4⟩ := hSw
      go_simp
      first
        | with_reducible rfl
        | omega
        | (rw [if_neg]; simp only [ByteArray.size_append, size_lit]; simp; omega)
        | (rw [if_neg]; simp; omega)
        | (trace_state; fail)
    try simp only [Act.put, List.setIfInBounds_toArray, List.set_cons_zero, List.set_cons_succ]
    refine wpAnyH_ready (rs := [12]) (by kernel_rfl) (by simp) ?_
    refine AllReadyH.cons (by simp only [List.getElem?_toArray, List.getElem?_cons_succ, List.getElem?_cons_zero] <;> rfl) (fun K hK => ?_) AllReadyH.nil
    go_simp
    go_at_call 15
    refine (HI3.out _ HB10.out).mono ?_
    rintro e w11 ⟨rfl, hb11⟩
    have HB11 := Lib.hid (HTR2.out _ _ HB10.out hb11)
    have hHeld5 := HYC2.out _ HB11.out
    clear hHeld hb11
    refine hK.out _ _ hHeld5 (fun hHeld => ?_)
    clear hK K hHeld5
    try simp only [Act.put, List.setIfInBounds_toArray, List.set_cons_zero, List.set_cons_succ]
    refine wpAnyH_take (i := 13) (v := .string (itS x.op ++ { data := #[32] } ++ itS x.a ++ { data := #[32] } ++ itS x.b)) (by simp only [List.getElem?_toArray, List.getElem?_cons_succ, List.getElem?_cons_zero] <;> rfl) (by kernel_rfl) (by kernel_rfl) (by kernel_rfl) (by intro _ _ _ h; exact h) (Or.inl ⟨by rfl, ?_⟩) (by assumption) ?_
    · intro W9 hSw
      obtain ⟨s1, s2, s3, s4⟩ := hSw
      go_simp
      first
        | with_reducible rfl
        | omega
        | (rw [if_neg]; simp only [ByteArray.size_append, size_lit]; simp; omega)
        | (rw [if_neg]; simp; omega)
        | (trace_state; fail)
    try simp only [Act.put, List.setIfInBounds_toArray, List.set_cons_zero, List.set_cons_succ]
    refine wpAnyH_take (i := 14) (v := .string (itS x.op ++ { data := #[32] } ++ itS x.a ++ { data := #[32] } ++ itS x.b ++ { data := #[32] })) (by simp only [List.getElem?_toArray, List.getElem?_cons_succ, List.getElem?_cons_zero] <;> rfl) (by kernel_rfl) (by kernel_rfl) (by kernel_rfl) (by intro _ _ _ h; exact h) (Or.inl ⟨by rfl, ?_⟩) (by assumption) ?_
    · intro W9 hSw
      obtain ⟨s1, s2, s3, s4⟩ := hSw
      go_simp
      first
        | with_reducible rfl
        | omega
        | (rw [if_neg]; simp only [ByteArray.size_append, size_lit]; simp; omega)
        | (rw [if_neg]; simp; omega)
        | (trace_state; fail)
    try simp only [Act.put, List.setIfInBounds_toArray, List.set_cons_zero, List.set_cons_succ]
    refine wpAnyH_ready (rs := [17]) (by kernel_rfl) (by simp) ?_
    refine AllReadyH.cons (by simp only [List.getElem?_toArray, List.getElem?_cons_succ, List.getElem?_cons_zero] <;> rfl) (fun K hK => ?_) AllReadyH.nil
    go_simp
    go_at_call 15
    refine (HI4.out _ HB11.out).mono ?_
    rintro e w12 ⟨rfl, hb12⟩
    have HB12 := Lib.hid (HTR2.out _ _ HB11.out hb12)
    have hHeld5 := HYC2.out _ HB12.out
    clear hHeld hb12
    refine hK.out _ _ hHeld5 (fun hHeld => ?_)
    clear hK K hHeld5
    try simp only [Act.put, List.setIfInBounds_toArray, List.set_cons_zero, List.set_cons_succ]
    refine wpAnyH_take (i := 18) (v := .string (itS x.op ++ { data := #[32] } ++ itS x.a ++ { data := #[32] } ++ itS x.b ++ { data := #[32] } ++ itS x.c)) (by simp only [List.getElem?_toArray, List.getElem?_cons_succ, List.getElem?_cons_zero] <;> rfl) (by kernel_rfl) (by kernel_rfl) (by kernel_rfl) (by intro _ _ _ h; exact h) (Or.inl ⟨by rfl, ?_⟩) (by assumption) ?_
    · intro W9 hSw
      obtain ⟨s1, s2, s3, s4⟩ := hSw
      go_simp
      first
        | with_reducible rfl
        | omega
        | (rw [if_neg]; simp only [ByteArray.size_append, size_lit]; simp; omega)
        | (rw [if_neg]; simp; omega)
        | (trace_state; fail)
    try simp only [Act.put, List.setIfInBounds_toArray, List.set_cons_zero, List.set_cons_succ]
    refine wpAnyH_take (i := 19) (v := .string (itS x.op ++ { data := #[32] } ++ itS x.a ++ { data := #[32] } ++ itS x.b ++ { data := #[32] } ++ itS x.c ++ { data := #[10] })) (by simp only [List.getElem?_toArray, List.getElem?_cons_succ, List.getElem?_cons_zero] <;> rfl) (by kernel_rfl) (by kernel_rfl) (by kernel_rfl) (by intro _ _ _ h; exact h) (Or.inl ⟨by rfl, ?_⟩) (by assumption) ?_
    · intro W9 hSw
      obtain ⟨s1, s2, s3, s4⟩ := hSw
      go_simp
      first
        | with_reducible rfl
        | omega
        | (rw [if_neg]; simp only [ByteArray.size_append, size_lit]; simp; omega)
        | (rw [if_neg]; simp; omega)
        | (trace_state; fail)
    try simp only [Act.put, List.setIfInBounds_toArray, List.set_cons_zero, List.set_cons_succ]
    refine wpAnyH_ready (rs := [20]) (by kernel_rfl) (by simp) ?_
    refine AllReadyH.cons (by simp only [List.getElem?_toArray, List.getElem?_cons_succ, List.getElem?_cons_zero] <;> rfl) (fun K hK => ?_) AllReadyH.nil
    refine step_text (by rfl) (.tmp 46) (.tmp 65) (by rfl) w1.heap.size u3 (protsL (g.ps.take k) ++ lF p ++ codeL (p.code.take j)) (by rfl) (HO12.out _ HB12.out) (itS x.op ++ { data := #[32] } ++ itS x.a ++ { data := #[32] } ++ itS x.b ++ { data := #[32] } ++ itS x.c ++ { data := #[10] }) (by rfl) (by have h1 := HPL.out; simp only [ByteArray.size_append, size_lit]; simp at h1 ⊢; omega) (Nat.le_trans HB8.out.size HB12.out.size) ?_
    intro v7 w7 ho7 hb7 hk7
    have HO7 := Lib.hid ho7
    have HB7 := Lib.hid hb7
    have HK7 := Lib.hid hk7
    have HX13 := Lib.hid (HK7.out 42 (.inr rfl) _ _ _ ((HB12.out.block _ (Array.getElem?_eq_some_iff.1 HX8.out).1).trans HX8.out))
    have HXF := Lib.hid (HK7.out 39 (.inl rfl) _ _ _ ((HB12.out.block _ (Array.getElem?_eq_some_iff.1 HXF8.out).1).trans HXF8.out))
    have hHeld5 := cell4 HX13.out
    clear hHeld ho7 hb7 hk7
    refine hK.out _ _ hHeld5 (fun hHeld => ?_)
    clear hK K hHeld5
    try simp only [Act.put, List.setIfInBounds_toArray, List.set_cons_zero, List.set_cons_succ]
    refine wpAnyH_take (i := 21) (v := ?_) (by simp only [List.getElem?_toArray, List.getElem?_cons_succ, List.getElem?_cons_zero] <;> rfl) (by kernel_rfl) (by kernel_rfl) (by kernel_rfl) (by intro _ _ _ h; exact h) (Or.inl ⟨by rfl, ?_⟩) (by assumption) ?_
    rotate_left
    · intro W9 hSw
      obtain ⟨s1, s2, s3, s4⟩ := hSw
      go_simp
      try with_reducible rfl
    try simp only [Act.put, List.setIfInBounds_toArray, List.set_cons_zero, List.set_cons_succ]
    refine wpAnyH_done (by kernel_rfl) ?_ _
    have HB13 := Lib.hid ((HB8.out.trans (HB12.out.mono HB8.out.size)).trans HB7.out)
    have HO13 : Hid (OwnB w7 w1.heap.size v7 (protsL (g.ps.take k) ++ lF p ++ codeL (p.code.take (j + 1)))) := Lib.hid (by
      have h1 := HO7.out
      rw [cat_lI, List.append_assoc (protsL (g.ps.take k) ++ lF p)] at h1
      rw [HNJ.out]
      exact h1)
    go_wp2_with fail
    go_roundw
    case rel => exact ⟨j + 1, by omega, by go_num, HO13, HB13, HXF⟩
    case measure => simp [intOf]; omega
end Go.Proofs.YtccofgdcpmplmaaGreatDoor
