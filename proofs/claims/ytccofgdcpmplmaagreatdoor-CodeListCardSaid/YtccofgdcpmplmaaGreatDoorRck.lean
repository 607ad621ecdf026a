/- Whether a program may be, by definition. -/
import Derived.Test.YtccofgdcpmplmaaGreatDoorRno
namespace Go.Proofs.YtccofgdcpmplmaaGreatDoor
open Go Go.RowKit Go.Shelf
theorem any_next {α : Type} {l : List α} {f : α → Bool} {k : Nat} (h : k < l.length) (h0 : (l.take k).any f = false) (h1 : f l[k] = false) : (l.take (k + 1)).any f = false := by
  rw [List.take_succ_eq_append_getElem h, List.any_append, h0]
  simp [h1]
theorem any_hit {α : Type} {l : List α} {f : α → Bool} {k : Nat} (h : k < l.length) (h1 : f l[k] = true) : l.any f = true := List.any_eq_true.2 ⟨l[k], List.getElem_mem h, h1⟩
theorem all_next {α : Type} {l : List α} {f : α → Bool} {k : Nat} (h : k < l.length) (h0 : (l.take k).all f = true) (h1 : f l[k] = true) : (l.take (k + 1)).all f = true := by
  rw [List.take_succ_eq_append_getElem h, List.all_append, h0]
  simp [h1]
theorem all_miss {α : Type} {l : List α} {f : α → Bool} {k : Nat} (h : k < l.length) (h1 : f l[k] = false) : l.all f = false := by
  cases q : l.all f with
  | false => rfl
  | true =>
    have := List.all_eq_true.1 q l[k] (List.getElem_mem h)
    rw [h1] at this
    cases this
set_option maxRecDepth 100000 in
set_option maxHeartbeats 16000000 in
theorem rcheck_yes (g : Pg) (w : World) (hg : g.at w) (hf : g.fit) (hcb : countedB g = true) (hh0 : (g.ps.head?.any fun p => decide (p.params = 0)) = true) :
    Calls Tryz.prog 8 #[.agg g.vals] w fun e w' => e = .returned (.bool (shortB g && (!g.ps.any badP && namedB g))) ∧ Below w.heap.size w w' := by
  have HB := Lib.hid (below_new w (.cells g.vals 26))
  have HX := Lib.hid (BXG.new hg)
  have HF := Lib.hid hf
  obtain ⟨n1, hn1⟩ : ∃ n, g.ps.length = n := ⟨_, rfl⟩
  obtain ⟨n2, hn2⟩ : ∃ n, g.is.length = n := ⟨_, rfl⟩
  obtain ⟨n3, hn3⟩ : ∃ n, g.ts.length = n := ⟨_, rfl⟩
  obtain ⟨c, hc⟩ : ∃ c, cnt g.ps = c := ⟨_, rfl⟩
  have l1 := hf.p
  have l2 := hf.i
  have l3 := hf.t
  rw [hn1] at l1
  rw [hn2] at l2
  rw [hn3] at l3
  have HN := Lib.hid (And.intro hn1 (And.intro hn2 hn3))
  have hs5 := hcb
  unfold countedB at hs5
  rw [hn1, hn2, hn3, hc] at hs5
  simp only [Bool.and_eq_true, decide_eq_true_eq] at hs5
  obtain ⟨⟨h1, h2⟩, h4⟩ := hs5
  have d1 : decide ((n1 : Int) < 1) = false := decide_eq_false (by omega)
  have d2 : decide ((1000 : Int) < n1) = false := decide_eq_false (by omega)
  have hka : 0 < g.ps.length := by omega
  obtain ⟨b3, o3, hA, hb3, u0, -, -⟩ := HX.out.g.ps.at hka
  obtain ⟨z, hz⟩ : ∃ z, g.ps[0].params = z := ⟨_, rfl⟩
  have hh := head0 hka hz
  rw [hz] at u0
  rw [hh] at hh0
  simp only [Nat.zero_mul, Nat.add_zero] at u0
  have h3 : z = 0 := of_decide_eq_true hh0
  have hs5 : True := trivial
  have hcl : c ≤ 1000000000000 := by
    have := cnt_le hf.c
    rw [hc, hn1] at this
    omega
  have hcw1 : IntKind.i64.wrap ((c : Int) + (n2 : Int)) = (c : Int) + (n2 : Int) := IntWalk.i64_in _ (by omega)
  have hcw2 : IntKind.i64.wrap ((c : Int) + (n2 : Int) + (n3 : Int)) = (c : Int) + (n2 : Int) + (n3 : Int) := IntWalk.i64_in _ (by omega)
  have d5 : decide ((65536 : Int) < (c : Int) + (n2 : Int) + (n3 : Int)) = false := decide_eq_false (by omega)
  have d3 : (z == 0) = true := by simp [h3]
  have hi0 : (0 : Int) < (n1 : Int) := by omega
  have hi1 : 0 < n1 := by omega
  have hi2 : n1 ≠ 0 := by omega
  have hi3 : (0 : Int) ≤ 0 := by omega
  have hi4 : decide ((0 : Int) < (n1 : Int)) = true := decide_eq_true hi0
  have d4 : (z != 0) = false := by simp [h3]
  have HCNT : Hid (∀ W, Below (w.alloc (.cells g.vals 26)).heap.size (w.alloc (.cells g.vals 26)) W → Calls Tryz.prog 19 #[.agg #[.slice (some ⟨b3, o3, none⟩) n1 g.Pc, .slice g.IA n2 g.Ic, .slice g.TA n3 g.Tc]] W fun e w' => e = .returned (.int .i64 (c : Nat)) ∧ Below W.heap.size W w') := Lib.hid (fun W hb => by
    have h := rcount_any g W (HX.out.g.below hb) HF.out
    rw [hc] at h
    rw [← hn1, ← hn2, ← hn3]
    have hA' : g.PA = some ⟨b3, o3, none⟩ := by simpa using hA
    rw [← hA']
    exact h)
  have HCX : Hid (∀ W, Below (w.alloc (.cells g.vals 26)).heap.size (w.alloc (.cells g.vals 26)) W → W.cell? ⟨w.heap.size, 0, none⟩ = some (.slice (some ⟨b3, o3, none⟩) n1 g.Pc) ∧ W.cell? ⟨w.heap.size, 1, none⟩ = some (.slice g.IA n2 g.Ic) ∧ W.cell? ⟨w.heap.size, 2, none⟩ = some (.slice g.TA n3 g.Tc) ∧ W.cell? ⟨b3, o3, none⟩ = some (.int .i64 z)) := Lib.hid (fun W hb => by
    obtain ⟨x0, x1, x2⟩ := (HX.out.below hb).cells
    rw [hn1] at x0
    rw [hn2] at x1
    rw [hn3] at x2
    have hA' : g.PA = some ⟨b3, o3, none⟩ := by simpa using hA
    rw [hA'] at x0
    exact ⟨x0, x1, x2, (hb.cell (p := ⟨b3, o3, none⟩) hb3).trans u0⟩)
  have hps : ∀ W, Below (w.alloc (.cells g.vals 26)).heap.size (w.alloc (.cells g.vals 26)) W → ∀ (k : Nat) (hk : k < g.ps.length), W.cell? ⟨b3, o3 + k * 3, none⟩ = some (.int .i64 g.ps[k].params) ∧ W.cell? ⟨b3, o3 + k * 3 + 1, none⟩ = some (.int .i64 g.ps[k].regs) ∧ W.cell? ⟨b3, o3 + k * 3 + 2, none⟩ = some (.slice g.ps[k].A g.ps[k].code.length g.ps[k].cap) := fun W hb k hk => by
    obtain ⟨b', o', hA', -, v0, v1, v2⟩ := (HX.out.g.ps.below hb).at hk
    have hA2 : g.PA = some ⟨b3, o3, none⟩ := by simpa using hA
    rw [hA2] at hA'
    simp only [Option.some.injEq, Addr.mk.injEq, and_true] at hA'
    obtain ⟨rfl, rfl⟩ := hA'
    exact ⟨v0, v1, v2⟩
  have HPS := Lib.hid hps
  obtain ⟨r, hr⟩ : ∃ r, (shortB g && (!g.ps.any badP && namedB g)) = r := ⟨_, rfl⟩
  have HRR := Lib.hid hr
  rw [hr]
  have HPA : Hid (g.PA = some ⟨b3, o3, none⟩) := Lib.hid (by simpa using hA)
  clear hps hr
  clear hg hf hh hz hn1 hn2 hn3 hc hs5 hA u0
  go_enter Tryz.func8, Tryz.ntmps8
  go_upto_region 1 with (fail)
  generalize w.alloc (.cells g.vals 26) = w1 at *
  obtain ⟨x0, x1, x2, x3⟩ := HCX.out _ (Below.refl _ _)
  have HBD := Lib.hid ((Below.refl w1.heap.size w1).drew)
  go_region_held3 (fun W => W.cell? ⟨w.heap.size, 0, none⟩ = some (.slice (some ⟨b3, o3, none⟩) n1 g.Pc) ∧ W.cell? ⟨w.heap.size, 1, none⟩ = some (.slice g.IA n2 g.Ic) ∧ W.cell? ⟨w.heap.size, 2, none⟩ = some (.slice g.TA n3 g.Tc) ∧ W.cell? ⟨b3, o3, none⟩ = some (.int .i64 z))
    (first | assumption | (exact ⟨x0, x1, x2, x3⟩) | (exact ⟨y0, y1, y2, y3⟩) | go_keep | fail)
    (first
      | (go_at_call 19; with_reducible (refine (HCNT.out _ HBD.out).mono ?_); rintro e w2 ⟨rfl, hb2⟩; have HB2 := Lib.hid (HBD.out.trans (hb2.mono HBD.out.size)); obtain ⟨y0, y1, y2, y3⟩ := HCX.out _ HB2.out; clear hb2))
  clear x0 x1 x2 x3 y0 y1 y2 y3
  obtain ⟨x0, x1, x2, x3⟩ := HCX.out _ HB2.out
  go_wp2_with fail
  clear x0 x1 x2 x3
  go_loopw [3] (fun i wr => ∃ k : Nat, k ≤ n3 ∧ i = .int .i64 k ∧ Hid ((g.ts.take k).any (fun s => decide (1048576 < s.size)) = false) ∧ Hid (Below w1.heap.size w1 wr)) (fun i _ => n3 - (intOf i).toNat)
  case atStart => exact ⟨0, Nat.zero_le _, rfl, Lib.hid rfl, HB2⟩
  case round =>
    obtain ⟨k, hk, rfl, HE, HBL⟩ := hrel
    obtain ⟨x0, x1, x2, x3⟩ := HCX.out _ HBL.out
    by_cases hlt : k < n3
    · have e1 : decide ((k : Int) < (n3 : Int)) = true := decide_eq_true (by omega)
      have e2 : decide (k < n3) = true := decide_eq_true hlt
      have hk0 : (0 : Int) ≤ (k : Int) := by omega
      have hkl : (k : Int) < (n3 : Int) := by omega
      have hkt : k < g.ts.length := by have := HN.out.2.2; omega
      obtain ⟨b5, o5, hA5, -, ut⟩ := rdS_at ((HX.out.g.ts.below HBL.out)) hkt
      rw [hA5] at x2
      have HNX : Hid (∀ t, decide (1048576 < g.ts[k].size) = t → (t = true → shortB g = false) ∧ (t = false → (g.ts.take (k + 1)).any (fun s => decide (1048576 < s.size)) = false)) := Lib.hid (fun t ht => ⟨fun h => by
        unfold shortB
        rw [any_hit (f := fun s => decide (1048576 < s.size)) hkt (by rw [ht, h])]
        rfl, fun h => any_next hkt HE.out (by rw [ht, h])⟩)
      have hsz := HF.out.s g.ts[k] (List.getElem_mem hkt)
      obtain ⟨s, hs⟩ : ∃ s, g.ts[k] = s := ⟨_, rfl⟩
      rw [hs] at ut HNX hsz
      clear hA5 hs hkt hlt
      by_cases hbig : 1048576 < s.size
      · have e3 : decide ((1048576 : Int) < (s.size : Int)) = true := decide_eq_true (by omega)
        have e4 : decide (1048576 < s.size) = true := decide_eq_true hbig
        have HRF : Hid (r = false) := Lib.hid (by rw [← HRR.out, (HNX.out _ e4).1 rfl]; rfl)
        clear hbig
        go_wp2_with fail
        change bodyPost Tryz.prog Tryz.f8 (fun e w' => e = Ending.returned (.bool r) ∧ Below w.heap.size w w') Exit.ret _ _
        go_ret
        exact ⟨by rw [HRF.out]; rfl, HB.out.trans (HBL.out.mono HB.out.size)⟩
      · have e3 : decide ((1048576 : Int) < (s.size : Int)) = false := decide_eq_false (by omega)
        have e4 : decide (1048576 < s.size) = false := decide_eq_false hbig
        have HE2 := Lib.hid ((HNX.out _ e4).2 rfl)
        clear hbig
        go_wp2_with fail
        go_roundw
        case rel => exact ⟨k + 1, by omega, by go_num, HE2, HBL⟩
        case measure => simp [intOf]; omega
    · have e1 : decide ((k : Int) < (n3 : Int)) = false := decide_eq_false (by omega)
      have e2 : decide (k < n3) = false := decide_eq_false hlt
      have HSH : Hid (shortB g = true) := Lib.hid (by
        have h1 := HE.out
        rw [List.take_of_length_le (by have := HN.out.2.2; omega)] at h1
        unfold shortB
        rw [h1]
        rfl)
      clear HE hlt
      go_wp2_with fail
      clear x0 x1 x2 x3
      go_loopw [4] (fun i wr => ∃ k : Nat, k ≤ n1 ∧ i = .int .i64 k ∧ Hid ((g.ps.take k).any badP = false) ∧ Hid (Below w1.heap.size w1 wr)) (fun i _ => n1 - (intOf i).toNat)
      case atStart => exact ⟨0, Nat.zero_le _, rfl, Lib.hid rfl, HBL⟩
      case round =>
        obtain ⟨k, hk, rfl, HE, HBL⟩ := hrel
        obtain ⟨x0, x1, x2, x3⟩ := HCX.out _ HBL.out
        by_cases hlt : k < n1
        · have e1 : decide ((k : Int) < (n1 : Int)) = true := decide_eq_true (by omega)
          have e2 : decide (k < n1) = true := decide_eq_true hlt
          have hk0 : (0 : Int) ≤ (k : Int) := by omega
          have hkl : (k : Int) < (n1 : Int) := by omega
          have hkp : k < g.ps.length := by have := HN.out.1; omega
          obtain ⟨u0, u1, u2⟩ := HPS.out _ HBL.out k hkp
          have HNX : Hid (∀ t, badP g.ps[k] = t → (t = true → (!g.ps.any badP) = false) ∧ (t = false → (g.ps.take (k + 1)).any badP = false)) := Lib.hid (fun t ht => ⟨fun h => by
            rw [any_hit (f := badP) hkp (by rw [ht, h])]
            rfl, fun h => any_next hkp HE.out (by rw [ht, h])⟩)
          have HRI : Hid (∀ W, Below w1.heap.size w1 W → RdI W g.ps[k].A g.ps[k].code) := Lib.hid (fun W hb => (HX.out.g.code _ (List.getElem_mem hkp)).below hb)
          have hcl6 := HF.out.c g.ps[k] (List.getElem_mem hkp)
          obtain ⟨p, hp⟩ : ∃ p, g.ps[k] = p := ⟨_, rfl⟩
          rw [hp] at u0 u1 u2 HNX HRI hcl6
          have HX4 := Lib.hid (heap_alloc_new wr (.cells p.vals 39))
          have HB4 := Lib.hid (HBL.out.trans ((below_new wr (.cells p.vals 39)).mono HBL.out.size))
          clear hp hkp HE hlt HBL
          go_upto_region 12 with (fail)
          generalize wr.alloc (.cells p.vals 39) = w4 at *
          obtain ⟨y0, y1, y2⟩ := cell3 HX4.out
          by_cases q1 : p.params < 0
          · have hbd : badP p = true := by unfold badP; simp [q1]
            have fq1 : decide (p.params < 0) = true := decide_eq_true q1
            have HRF : Hid (r = false) := Lib.hid (by rw [← HRR.out, (HNX.out _ hbd).1 rfl]; simp)
            clear hbd HRI
            go_wp2_with fail
            change bodyPost Tryz.prog Tryz.f8 (fun e w' => e = Ending.returned (.bool r) ∧ Below w.heap.size w w') Exit.ret _ _
            go_ret
            exact ⟨by rw [HRF.out]; rfl, HB.out.trans (HB4.out.mono HB.out.size)⟩
          have fq1 : decide (p.params < 0) = false := decide_eq_false q1
          by_cases q2 : p.regs < p.params
          · have hbd : badP p = true := by unfold badP; simp [q2]
            have fq2 : decide (p.regs < p.params) = true := decide_eq_true q2
            have HRF : Hid (r = false) := Lib.hid (by rw [← HRR.out, (HNX.out _ hbd).1 rfl]; simp)
            clear hbd HRI
            go_wp2_with fail
            change bodyPost Tryz.prog Tryz.f8 (fun e w' => e = Ending.returned (.bool r) ∧ Below w.heap.size w w') Exit.ret _ _
            go_ret
            exact ⟨by rw [HRF.out]; rfl, HB.out.trans (HB4.out.mono HB.out.size)⟩
          have fq2 : decide (p.regs < p.params) = false := decide_eq_false q2
          by_cases q3 : 500 < p.regs
          · have hbd : badP p = true := by unfold badP; simp [q3]
            have fq3 : decide (500 < p.regs) = true := decide_eq_true q3
            have HRF : Hid (r = false) := Lib.hid (by rw [← HRR.out, (HNX.out _ hbd).1 rfl]; simp)
            clear hbd HRI
            go_wp2_with fail
            change bodyPost Tryz.prog Tryz.f8 (fun e w' => e = Ending.returned (.bool r) ∧ Below w.heap.size w w') Exit.ret _ _
            go_ret
            exact ⟨by rw [HRF.out]; rfl, HB.out.trans (HB4.out.mono HB.out.size)⟩
          have fq3 : decide (500 < p.regs) = false := decide_eq_false q3
          obtain ⟨cn, hcn⟩ : ∃ n, p.code.length = n := ⟨_, rfl⟩
          rw [hcn] at y2 hcl6
          by_cases q4 : cn = 0
          · have hbd : badP p = true := by
              have : p.code = [] := List.eq_nil_of_length_eq_zero (by omega)
              unfold badP
              rw [this]
              simp [endedB]
            subst q4
            have HRF : Hid (r = false) := Lib.hid (by rw [← HRR.out, (HNX.out _ hbd).1 rfl]; simp)
            clear hbd HRI
            go_wp2_with fail
            change bodyPost Tryz.prog Tryz.f8 (fun e w' => e = Ending.returned (.bool r) ∧ Below w.heap.size w w') Exit.ret _ _
            go_ret
            exact ⟨by rw [HRF.out]; rfl, HB.out.trans (HB4.out.mono HB.out.size)⟩
          have hk9 : cn - 1 < p.code.length := by omega
          obtain ⟨bi, oi, hAi, -, v0, -, -, -⟩ := (HRI.out _ HB4.out).at hk9
          have he : endedB p.code = (decide (p.code[cn - 1].op = 34) || decide (p.code[cn - 1].op = 35) || decide (p.code[cn - 1].op = 27)) := by
            unfold endedB
            rw [List.getLast?_eq_getElem?, hcn, List.getElem?_eq_getElem hk9]
          obtain ⟨zz, hzz⟩ : ∃ z, p.code[cn - 1].op = z := ⟨_, rfl⟩
          rw [hzz] at v0 he
          have HBAD : Hid (badP p = !(decide (zz = 34) || decide (zz = 35) || decide (zz = 27))) := Lib.hid (by
            unfold badP
            rw [fq1, fq2, fq3, he]
            rfl)
          rw [hAi] at y2
          obtain ⟨m, hm⟩ : ∃ m, cn - 1 = m := ⟨_, rfl⟩
          rw [hm] at v0
          have hnm : cn = m + 1 := by omega
          clear he hzz hAi HRI hk9 hm hcn q4 q1 q2 q3
          subst hnm
          have a1 : (((m + 1 : Nat) : Int) == 0) = false := by simp; omega
          have a2 : (m + 1 == 0) = false := by simp
          have a3 : IntKind.i64.wrap (((m + 1 : Nat) : Int) - 1) = (m : Int) := by rw [IntWalk.i64_in _ (by omega)]; omega
          have a4 : (((m : Int) + 1) == 0) = false := by simp; omega
          have a5 : IntKind.i64.wrap ((m : Int) + 1 - 1) = (m : Int) := by rw [IntWalk.i64_in _ (by omega)]; omega
          have a6 : (m : Int) < ((m + 1 : Nat) : Int) := by omega
          have a7 : (0 : Int) ≤ (m : Int) := by omega
          have a8 : (m : Int) < (m : Int) + 1 := by omega
          have a9 : ((m : Int) + 1 - 1) = (m : Int) := by omega
          by_cases z1 : zz = 27
          · subst z1
            have hbd : badP p = false := by rw [HBAD.out]; simp
            have HE2 := Lib.hid ((HNX.out _ hbd).2 rfl)
            clear hbd
            go_wp2_with fail
            go_roundw
            case rel => exact ⟨k + 1, by omega, by go_num, HE2, HB4⟩
            case measure => simp [intOf]; omega
          obtain ⟨r1, r2⟩ := int_nes z1
          by_cases z2 : zz = 34
          · subst z2
            have hbd : badP p = false := by rw [HBAD.out]; simp
            have HE2 := Lib.hid ((HNX.out _ hbd).2 rfl)
            clear hbd
            go_wp2_with fail
            go_roundw
            case rel => exact ⟨k + 1, by omega, by go_num, HE2, HB4⟩
            case measure => simp [intOf]; omega
          obtain ⟨r3, r4⟩ := int_nes z2
          by_cases z3 : zz = 35
          · subst z3
            have hbd : badP p = false := by rw [HBAD.out]; simp
            have HE2 := Lib.hid ((HNX.out _ hbd).2 rfl)
            clear hbd
            go_wp2_with fail
            go_roundw
            case rel => exact ⟨k + 1, by omega, by go_num, HE2, HB4⟩
            case measure => simp [intOf]; omega
          obtain ⟨r5, r6⟩ := int_nes z3
          have hbd : badP p = true := by rw [HBAD.out]; simp [z1, z2, z3]
          have HRF : Hid (r = false) := Lib.hid (by rw [← HRR.out, (HNX.out _ hbd).1 rfl]; simp)
          clear hbd z1 z2 z3
          go_wp2_with fail
          change bodyPost Tryz.prog Tryz.f8 (fun e w' => e = Ending.returned (.bool r) ∧ Below w.heap.size w w') Exit.ret _ _
          go_ret
          exact ⟨by rw [HRF.out]; rfl, HB.out.trans (HB4.out.mono HB.out.size)⟩
        · have e1 : decide ((k : Int) < (n1 : Int)) = false := decide_eq_false (by omega)
          have e2 : decide (k < n1) = false := decide_eq_false hlt
          have HAB : Hid (g.ps.any badP = false) := Lib.hid (by
            have h1 := HE.out
            rwa [List.take_of_length_le (by have := HN.out.1; omega)] at h1)
          clear HE hlt
          go_wp2_with fail
          clear x0 x1 x2 x3
          go_loopw [8] (fun i wr => ∃ k : Nat, k ≤ n1 ∧ i = .int .i64 k ∧ Hid ((g.ps.take k).all (fun p => p.code.all (mayB g p)) = true) ∧ Hid (Below w1.heap.size w1 wr)) (fun i _ => n1 - (intOf i).toNat)
          case atStart => exact ⟨0, Nat.zero_le _, rfl, Lib.hid rfl, HBL⟩
          case round =>
            obtain ⟨k, hk, rfl, HE, HBL⟩ := hrel
            obtain ⟨x0, x1, x2, x3⟩ := HCX.out _ HBL.out
            by_cases hlt : k < n1
            · have e1 : decide ((k : Int) < (n1 : Int)) = true := decide_eq_true (by omega)
              have e2 : decide (k < n1) = true := decide_eq_true hlt
              have hk0 : (0 : Int) ≤ (k : Int) := by omega
              have hkl : (k : Int) < (n1 : Int) := by omega
              have hkp : k < g.ps.length := by have := HN.out.1; omega
              have HNX : Hid (∀ t, g.ps[k].code.all (mayB g g.ps[k]) = t → (t = false → namedB g = false) ∧ (t = true → (g.ps.take (k + 1)).all (fun p => p.code.all (mayB g p)) = true)) := Lib.hid (fun t ht => ⟨fun h => all_miss (l := g.ps) (f := fun p => p.code.all (mayB g p)) hkp (by show g.ps[k].code.all (mayB g g.ps[k]) = false; rw [ht, h]), fun h => all_next (l := g.ps) (f := fun p => p.code.all (mayB g p)) hkp HE.out (by show g.ps[k].code.all (mayB g g.ps[k]) = true; rw [ht, h])⟩)
              have HRI : Hid (∀ W, Below w1.heap.size w1 W → RdI W g.ps[k].A g.ps[k].code) := Lib.hid (fun W hb => (HX.out.g.code _ (List.getElem_mem hkp)).below hb)
              have HPK : Hid (∀ W, Below w1.heap.size w1 W → W.cell? ⟨b3, o3 + k * 3, none⟩ = some (.int .i64 g.ps[k].params) ∧ W.cell? ⟨b3, o3 + k * 3 + 1, none⟩ = some (.int .i64 g.ps[k].regs) ∧ W.cell? ⟨b3, o3 + k * 3 + 2, none⟩ = some (.slice g.ps[k].A g.ps[k].code.length g.ps[k].cap)) := Lib.hid (fun W hb => HPS.out W hb k hkp)
              have HMI : Hid g.ps[k].mid := Lib.hid (by
                have hb : badP g.ps[k] = false := by
                  cases q : badP g.ps[k] with
                  | false => rfl
                  | true =>
                    have := any_hit (f := badP) hkp q
                    rw [HAB.out] at this
                    cases this
                unfold badP at hb
                simp only [Bool.or_eq_false_iff, decide_eq_false_iff_not] at hb
                exact ⟨by omega, by omega⟩)
              have hcl6 := HF.out.c g.ps[k] (List.getElem_mem hkp)
              obtain ⟨p, hp⟩ : ∃ p, g.ps[k] = p := ⟨_, rfl⟩
              rw [hp] at HNX HRI HPK HMI hcl6
              obtain ⟨cn, hcn⟩ : ∃ n, p.code.length = n := ⟨_, rfl⟩
              have HIN : Hid (∀ W x, Below w1.heap.size w1 W → Calls Tryz.prog 20 #[.agg #[.slice (some ⟨b3, o3, none⟩) n1 g.Pc, .slice g.IA n2 g.Ic, .slice g.TA n3 g.Tc], .agg #[.int .i64 p.params, .int .i64 p.regs, .slice p.A cn p.cap], .agg #[.int .i64 x.op, .int .i64 x.a, .int .i64 x.b, .int .i64 x.c]] W fun e w' => e = .returned (.bool (mayB g p x)) ∧ Below W.heap.size W w') := Lib.hid (fun W x hb => by
                have h := instr_any g p x W (HX.out.g.below hb) HF.out HMI.out
                rw [← hcn, ← HPA.out, ← HN.out.1, ← HN.out.2.1, ← HN.out.2.2]
                exact h)
              have HCN := Lib.hid hcn
              rw [hcn] at HPK hcl6
              clear hp hkp HE hlt hcn
              go_wp2_with fail
              clear x0 x1 x2 x3
              go_loopw [9] (fun i wr => ∃ j : Nat, j ≤ cn ∧ i = .int .i64 j ∧ Hid ((p.code.take j).all (mayB g p) = true) ∧ Hid (Below w1.heap.size w1 wr)) (fun i _ => cn - (intOf i).toNat)
              case atStart => exact ⟨0, Nat.zero_le _, rfl, Lib.hid rfl, HBL⟩
              case round =>
                obtain ⟨j, hj, rfl, HE3, HBL3⟩ := hrel
                obtain ⟨x0, x1, x2, x3⟩ := HCX.out _ HBL3.out
                obtain ⟨u0, u1, u2⟩ := HPK.out _ HBL3.out
                by_cases hjl : j < cn
                · have j1 : decide ((j : Int) < (cn : Int)) = true := decide_eq_true (by omega)
                  have j2 : decide (j < cn) = true := decide_eq_true hjl
                  have hj0 : (0 : Int) ≤ (j : Int) := by omega
                  have hjc : (j : Int) < (cn : Int) := by omega
                  have hjp : j < p.code.length := by have := HCN.out; omega
                  obtain ⟨bi, oi, hAi, -, v0, v1, v2, v3⟩ := (HRI.out _ HBL3.out).at hjp
                  have HI2 : Hid (∀ W, Below wr.heap.size wr W → Calls Tryz.prog 20 #[.agg #[.slice (some ⟨b3, o3, none⟩) n1 g.Pc, .slice g.IA n2 g.Ic, .slice g.TA n3 g.Tc], .agg #[.int .i64 p.params, .int .i64 p.regs, .slice p.A cn p.cap], .agg #[.int .i64 p.code[j].op, .int .i64 p.code[j].a, .int .i64 p.code[j].b, .int .i64 p.code[j].c]] W fun e w' => e = .returned (.bool (mayB g p p.code[j])) ∧ Below W.heap.size W w') := Lib.hid (fun W hb => HIN.out W p.code[j] (HBL3.out.trans (hb.mono HBL3.out.size)))
                  have HNJ : Hid (∀ t, mayB g p p.code[j] = t → (t = false → namedB g = false) ∧ (t = true → (p.code.take (j + 1)).all (mayB g p) = true)) := Lib.hid (fun t ht => ⟨fun h => (HNX.out _ (all_miss hjp (by rw [ht, h]))).1 rfl, fun h => all_next hjp HE3.out (by rw [ht, h])⟩)
                  obtain ⟨x, hx⟩ : ∃ x, p.code[j] = x := ⟨_, rfl⟩
                  rw [hx] at v0 v1 v2 v3 HI2 HNJ
                  rw [hAi] at u2 HI2
                  clear hAi hx hjp
                  have HBD := Lib.hid ((Below.refl wr.heap.size wr).drew)
                  have HS4 : Hid (∀ W, Below wr.heap.size wr W → W.cell? ⟨w.heap.size, 0, none⟩ = some (.slice (some ⟨b3, o3, none⟩) n1 g.Pc) ∧ W.cell? ⟨w.heap.size, 1, none⟩ = some (.slice g.IA n2 g.Ic) ∧ W.cell? ⟨w.heap.size, 2, none⟩ = some (.slice g.TA n3 g.Tc) ∧ W.cell? ⟨b3, o3 + k * 3, none⟩ = some (.int .i64 p.params) ∧ W.cell? ⟨b3, o3 + k * 3 + 1, none⟩ = some (.int .i64 p.regs) ∧ W.cell? ⟨b3, o3 + k * 3 + 2, none⟩ = some (.slice (some ⟨bi, oi, none⟩) cn p.cap) ∧ W.cell? ⟨bi, oi + j * 4, none⟩ = some (.int .i64 x.op) ∧ W.cell? ⟨bi, oi + j * 4 + 1, none⟩ = some (.int .i64 x.a) ∧ W.cell? ⟨bi, oi + j * 4 + 2, none⟩ = some (.int .i64 x.b) ∧ W.cell? ⟨bi, oi + j * 4 + 3, none⟩ = some (.int .i64 x.c)) := Lib.hid (fun W hb => ⟨(hb.cell (block_lt x0)).trans x0, (hb.cell (block_lt x1)).trans x1, (hb.cell (block_lt x2)).trans x2, (hb.cell (block_lt u0)).trans u0, (hb.cell (block_lt u1)).trans u1, (hb.cell (block_lt u2)).trans u2, (hb.cell (block_lt v0)).trans v0, (hb.cell (block_lt v1)).trans v1, (hb.cell (block_lt v2)).trans v2, (hb.cell (block_lt v3)).trans v3⟩)
                  obtain ⟨t, ht⟩ : ∃ t, mayB g p x = t := ⟨_, rfl⟩
                  have HTT := Lib.hid (HNJ.out _ ht)
                  rw [ht] at HI2
                  clear ht hjl HNJ x3
                  cases t
                  · have HRF : Hid (r = false) := Lib.hid (by rw [← HRR.out, HTT.out.1 (by first | trivial | rfl)]; simp)
                    go_wp2_with fail
                    go_region_held3 (fun W => W.cell? ⟨w.heap.size, 0, none⟩ = some (.slice (some ⟨b3, o3, none⟩) n1 g.Pc) ∧ W.cell? ⟨w.heap.size, 1, none⟩ = some (.slice g.IA n2 g.Ic) ∧ W.cell? ⟨w.heap.size, 2, none⟩ = some (.slice g.TA n3 g.Tc) ∧ W.cell? ⟨b3, o3 + k * 3, none⟩ = some (.int .i64 p.params) ∧ W.cell? ⟨b3, o3 + k * 3 + 1, none⟩ = some (.int .i64 p.regs) ∧ W.cell? ⟨b3, o3 + k * 3 + 2, none⟩ = some (.slice (some ⟨bi, oi, none⟩) cn p.cap) ∧ W.cell? ⟨bi, oi + j * 4, none⟩ = some (.int .i64 x.op) ∧ W.cell? ⟨bi, oi + j * 4 + 1, none⟩ = some (.int .i64 x.a) ∧ W.cell? ⟨bi, oi + j * 4 + 2, none⟩ = some (.int .i64 x.b) ∧ W.cell? ⟨bi, oi + j * 4 + 3, none⟩ = some (.int .i64 x.c))
                      (first | assumption | (exact ⟨x0, x1, x2, u0, u1, u2, v0, v1, v2, v3⟩) | (exact HY.out) | go_keep | fail)
                      (first
                        | (go_at_call 20; with_reducible (refine (HI2.out _ HBD.out).mono ?_); rintro e w5 ⟨rfl, hb5⟩; have HB5 := Lib.hid (HBD.out.trans (hb5.mono HBD.out.size)); have HY := Lib.hid (HS4.out _ HB5.out); clear hb5))
                    go_wp2_with fail
                    change bodyPost Tryz.prog Tryz.f8 (fun e w' => e = Ending.returned (.bool r) ∧ Below w.heap.size w w') Exit.ret _ _
                    go_ret
                    exact ⟨by rw [HRF.out]; rfl, HB.out.trans ((HBL3.out.trans (HB5.out.mono HBL3.out.size)).mono HB.out.size)⟩
                  · have HE4 := Lib.hid (HTT.out.2 (by first | trivial | rfl))
                    go_wp2_with fail
                    go_region_held3 (fun W => W.cell? ⟨w.heap.size, 0, none⟩ = some (.slice (some ⟨b3, o3, none⟩) n1 g.Pc) ∧ W.cell? ⟨w.heap.size, 1, none⟩ = some (.slice g.IA n2 g.Ic) ∧ W.cell? ⟨w.heap.size, 2, none⟩ = some (.slice g.TA n3 g.Tc) ∧ W.cell? ⟨b3, o3 + k * 3, none⟩ = some (.int .i64 p.params) ∧ W.cell? ⟨b3, o3 + k * 3 + 1, none⟩ = some (.int .i64 p.regs) ∧ W.cell? ⟨b3, o3 + k * 3 + 2, none⟩ = some (.slice (some ⟨bi, oi, none⟩) cn p.cap) ∧ W.cell? ⟨bi, oi + j * 4, none⟩ = some (.int .i64 x.op) ∧ W.cell? ⟨bi, oi + j * 4 + 1, none⟩ = some (.int .i64 x.a) ∧ W.cell? ⟨bi, oi + j * 4 + 2, none⟩ = some (.int .i64 x.b) ∧ W.cell? ⟨bi, oi + j * 4 + 3, none⟩ = some (.int .i64 x.c))
                      (first | assumption | (exact ⟨x0, x1, x2, u0, u1, u2, v0, v1, v2, v3⟩) | (exact HY.out) | go_keep | fail)
                      (first
                        | (go_at_call 20; with_reducible (refine (HI2.out _ HBD.out).mono ?_); rintro e w5 ⟨rfl, hb5⟩; have HB5 := Lib.hid (HBD.out.trans (hb5.mono HBD.out.size)); have HY := Lib.hid (HS4.out _ HB5.out); clear hb5))
                    go_wp2_with fail
                    go_roundw
                    case rel => exact ⟨j + 1, by omega, by go_num, HE4, Lib.hid (HBL3.out.trans (HB5.out.mono HBL3.out.size))⟩
                    case measure => simp [intOf]; omega
                · have j1 : decide ((j : Int) < (cn : Int)) = false := decide_eq_false (by omega)
                  have j2 : decide (j < cn) = false := decide_eq_false hjl
                  have HE5 : Hid ((g.ps.take (k + 1)).all (fun p => p.code.all (mayB g p)) = true) := Lib.hid ((HNX.out true (by
                    have h1 := HE3.out
                    rwa [List.take_of_length_le (by have := HCN.out; omega)] at h1)).2 rfl)
                  clear hjl
                  go_wp2_with fail
                  go_roundw
                  case rel => exact ⟨k + 1, by omega, by go_num, HE5, HBL3⟩
                  case measure => simp [intOf]; omega
            · have e1 : decide ((k : Int) < (n1 : Int)) = false := decide_eq_false (by omega)
              have e2 : decide (k < n1) = false := decide_eq_false hlt
              have HRT : Hid (r = true) := Lib.hid (by
                have h1 := HE.out
                rw [List.take_of_length_le (by have := HN.out.1; omega)] at h1
                rw [← HRR.out, HSH.out, HAB.out]
                unfold namedB
                rw [h1]
                rfl)
              clear HE hlt
              go_wp2_with fail
              change bodyPost Tryz.prog Tryz.f8 (fun e w' => e = Ending.returned (.bool r) ∧ Below w.heap.size w w') Exit.ret _ _
              go_ret
              exact ⟨by rw [HRT.out]; rfl, HB.out.trans (HBL.out.mono HB.out.size)⟩
end Go.Proofs.YtccofgdcpmplmaaGreatDoor
namespace Go.Proofs.YtccofgdcpmplmaaGreatDoor
open Go Go.RowKit Go.Shelf
theorem rcheck_any (g : Pg) (w : World) (hg : g.at w) (hf : g.fit) : Calls Tryz.prog 8 #[.agg g.vals] w fun e w' => e = .returned (.bool (checkB g)) ∧ Below w.heap.size w w' := by
  unfold checkB headedB
  cases h1 : countedB g with
  | false => exact rcheck_no g w hg hf (.inl h1)
  | true =>
    cases h2 : (g.ps.head?.any fun p => decide (p.params = 0)) with
    | false => exact rcheck_no g w hg hf (.inr h2)
    | true =>
      have h := rcheck_yes g w hg hf h1 h2
      have e : (shortB g && (!g.ps.any badP && namedB g)) = (true && ((true && !g.ps.any badP) && (shortB g && namedB g))) := by
        cases shortB g <;> cases g.ps.any badP <;> cases namedB g <;> rfl
      rw [e] at h
      exact h
end Go.Proofs.YtccofgdcpmplmaaGreatDoor
