/- The first three asks. -/
import Derived.Test.YtccofgdcpmplmaaGreatDoorCnt
namespace Go.Proofs.YtccofgdcpmplmaaGreatDoor
open Go Go.RowKit Go.Shelf
def endedB (l : List Ins) : Bool := match l.getLast? with | none => false | some x => decide (x.op = 34) || decide (x.op = 35) || decide (x.op = 27)
def badP (p : Pr) : Bool := decide (p.params < 0) || decide (p.regs < p.params) || decide (500 < p.regs) || !endedB p.code
def countedB (g : Pg) : Bool := decide (0 < g.ps.length) && decide (g.ps.length ≤ 1000) && decide (g.is.length + g.ts.length + cnt g.ps ≤ 65536)
def headedB (g : Pg) : Bool := (g.ps.head?.any fun p => decide (p.params = 0)) && !g.ps.any badP
def shortB (g : Pg) : Bool := !g.ts.any fun s => decide (1048576 < s.size)
set_option maxRecDepth 100000 in
set_option maxHeartbeats 4000000 in
theorem counted_any (g : Pg) (w : World) (hg : g.at w) (hf : g.fit) :
    Calls Tryz.prog 24 #[.agg g.vals] w fun e w' => e = .returned (.bool (countedB g)) ∧ Below w.heap.size w w' := by
  have HB := Lib.hid (below_new w (.cells g.vals 26))
  have HX := Lib.hid (BXG.new hg)
  have HF := Lib.hid hf
  obtain ⟨n1, hn1⟩ : ∃ n, g.ps.length = n := ⟨_, rfl⟩
  obtain ⟨n2, hn2⟩ : ∃ n, g.is.length = n := ⟨_, rfl⟩
  obtain ⟨n3, hn3⟩ : ∃ n, g.ts.length = n := ⟨_, rfl⟩
  have l1 := hf.p
  have l2 := hf.i
  have l3 := hf.t
  have l4 := hf.cnt g.ps.length (Nat.le_refl _)
  rw [List.take_length] at l4
  unfold countedB
  obtain ⟨c, hc⟩ : ∃ n, cnt g.ps = n := ⟨_, rfl⟩
  rw [hn1, hn2, hn3, hc]
  rw [hn1] at l1
  rw [hn2] at l2
  rw [hn3] at l3
  rw [hc, hn1] at l4
  have HN := Lib.hid (And.intro hn1 (And.intro hn2 (And.intro hn3 hc)))
  clear hg hf hn1 hn2 hn3 hc
  have l5 : c ≤ 1000000000000 := by omega
  clear l4
  have w1' : IntKind.i64.wrap ((n2 : Int) + n3) = ((n2 + n3 : Nat) : Int) := by rw [IntWalk.i64_in _ (by omega)]; omega
  have w2' : IntKind.i64.wrap (((n2 + n3 : Nat) : Int) + c) = ((n2 + n3 + c : Nat) : Int) := by rw [IntWalk.i64_in _ (by omega)]; omega
  have w3' : IntKind.i64.wrap ((n2 : Int) + n3 + c) = ((n2 + n3 + c : Nat) : Int) := by rw [IntWalk.i64_in _ (by omega)]; omega
  have w4' : IntKind.i64.wrap ((n2 : Int) + n3) = (n2 : Int) + n3 := by rw [IntWalk.i64_in _ (by omega)]
  clear w1' w2'
  obtain ⟨s, hs⟩ : ∃ s, n2 + n3 + c = s := ⟨_, rfl⟩
  have w5 : ((n2 : Int) + n3 + c) = (s : Int) := by omega
  rw [hs]
  rw [hs] at w3'
  have HS := Lib.hid hs
  clear hs
  by_cases h1 : 0 < n1
  rotate_left
  · have d1a : decide (0 < n1) = false := decide_eq_false h1
    have d1b : decide (0 < (n1 : Int)) = false := decide_eq_false (by omega)
    rw [d1a]
    simp only [Bool.false_and]
    clear h1 w5
    go_enter Tryz.func24, Tryz.ntmps24
    go_upto_region 1 with (fail)
    generalize w.alloc (.cells g.vals 26) = w1 at *
    obtain ⟨x0, x1, x2⟩ := HX.out.cells
    rw [HN.out.1] at x0
    rw [HN.out.2.1] at x1
    rw [HN.out.2.2.1] at x2
    have HC : Hid (∀ W, Below w1.heap.size w1 W → Calls Tryz.prog 13 #[.agg #[.slice g.PA n1 g.Pc, .slice g.IA n2 g.Ic, .slice g.TA n3 g.Tc]] W fun e w' => e = .returned (.int .i64 (c : Nat)) ∧ Below W.heap.size W w') := Lib.hid (fun W hb => by
      rw [← HN.out.1, ← HN.out.2.1, ← HN.out.2.2.1, ← HN.out.2.2.2]
      exact count_any g W (HX.out.g.below hb) HF.out)
    have HCX : Hid (∀ W, Below w1.heap.size w1 W → W.cell? ⟨w.heap.size, 0, none⟩ = some (.slice g.PA n1 g.Pc) ∧ W.cell? ⟨w.heap.size, 1, none⟩ = some (.slice g.IA n2 g.Ic) ∧ W.cell? ⟨w.heap.size, 2, none⟩ = some (.slice g.TA n3 g.Tc)) := Lib.hid (fun W hb => by
      rw [← HN.out.1, ← HN.out.2.1, ← HN.out.2.2.1]
      exact (HX.out.below hb).cells)
    have HBD := Lib.hid ((Below.refl w1.heap.size w1).drew)
    have HTR : Hid (∀ W, Below w1.drew.heap.size w1.drew W → Below w1.heap.size w1 W) := Lib.hid (fun W h => HBD.out.trans h)
    go_region_held3 (fun W => W.cell? ⟨w.heap.size, 0, none⟩ = some (.slice g.PA n1 g.Pc) ∧ W.cell? ⟨w.heap.size, 1, none⟩ = some (.slice g.IA n2 g.Ic) ∧ W.cell? ⟨w.heap.size, 2, none⟩ = some (.slice g.TA n3 g.Tc))
      (first | assumption | (exact ⟨x0, x1, x2⟩) | (exact ⟨y0, y1, y2⟩) | go_keep | fail)
      (first
        | (go_at_call 13; with_reducible (refine (HC.out _ HBD.out).mono ?_); rintro e w5 ⟨rfl, hb5⟩; have HB5 := Lib.hid (HTR.out _ hb5); obtain ⟨y0, y1, y2⟩ := HCX.out _ HB5.out; clear hb5))
    go_wp2_with fail
    go_ret
    exact ⟨rfl, HB.out.trans (HB5.out.mono HB.out.size)⟩
  by_cases h2 : n1 ≤ 1000
  rotate_left
  · have d1a : decide (0 < n1) = true := decide_eq_true h1
    have d1b : decide (0 < (n1 : Int)) = true := decide_eq_true (by omega)
    have d2a : decide (n1 ≤ 1000) = false := decide_eq_false h2
    have d2b : decide ((n1 : Int) ≤ 1000) = false := decide_eq_false (by omega)
    rw [d1a, d2a]
    simp only [Bool.false_and, Bool.true_and]
    clear h1 h2 w5
    go_enter Tryz.func24, Tryz.ntmps24
    go_upto_region 1 with (fail)
    generalize w.alloc (.cells g.vals 26) = w1 at *
    obtain ⟨x0, x1, x2⟩ := HX.out.cells
    rw [HN.out.1] at x0
    rw [HN.out.2.1] at x1
    rw [HN.out.2.2.1] at x2
    have HC : Hid (∀ W, Below w1.heap.size w1 W → Calls Tryz.prog 13 #[.agg #[.slice g.PA n1 g.Pc, .slice g.IA n2 g.Ic, .slice g.TA n3 g.Tc]] W fun e w' => e = .returned (.int .i64 (c : Nat)) ∧ Below W.heap.size W w') := Lib.hid (fun W hb => by
      rw [← HN.out.1, ← HN.out.2.1, ← HN.out.2.2.1, ← HN.out.2.2.2]
      exact count_any g W (HX.out.g.below hb) HF.out)
    have HCX : Hid (∀ W, Below w1.heap.size w1 W → W.cell? ⟨w.heap.size, 0, none⟩ = some (.slice g.PA n1 g.Pc) ∧ W.cell? ⟨w.heap.size, 1, none⟩ = some (.slice g.IA n2 g.Ic) ∧ W.cell? ⟨w.heap.size, 2, none⟩ = some (.slice g.TA n3 g.Tc)) := Lib.hid (fun W hb => by
      rw [← HN.out.1, ← HN.out.2.1, ← HN.out.2.2.1]
      exact (HX.out.below hb).cells)
    have HBD := Lib.hid ((Below.refl w1.heap.size w1).drew)
    have HTR : Hid (∀ W, Below w1.drew.heap.size w1.drew W → Below w1.heap.size w1 W) := Lib.hid (fun W h => HBD.out.trans h)
    go_region_held3 (fun W => W.cell? ⟨w.heap.size, 0, none⟩ = some (.slice g.PA n1 g.Pc) ∧ W.cell? ⟨w.heap.size, 1, none⟩ = some (.slice g.IA n2 g.Ic) ∧ W.cell? ⟨w.heap.size, 2, none⟩ = some (.slice g.TA n3 g.Tc))
      (first | assumption | (exact ⟨x0, x1, x2⟩) | (exact ⟨y0, y1, y2⟩) | go_keep | fail)
      (first
        | (go_at_call 13; with_reducible (refine (HC.out _ HBD.out).mono ?_); rintro e w5 ⟨rfl, hb5⟩; have HB5 := Lib.hid (HTR.out _ hb5); obtain ⟨y0, y1, y2⟩ := HCX.out _ HB5.out; clear hb5))
    go_wp2_with fail
    go_ret
    exact ⟨rfl, HB.out.trans (HB5.out.mono HB.out.size)⟩
  by_cases h3 : s ≤ 65536
  rotate_left
  · have d1a : decide (0 < n1) = true := decide_eq_true h1
    have d1b : decide (0 < (n1 : Int)) = true := decide_eq_true (by omega)
    have d2a : decide (n1 ≤ 1000) = true := decide_eq_true h2
    have d2b : decide ((n1 : Int) ≤ 1000) = true := decide_eq_true (by omega)
    have d3a : decide (s ≤ 65536) = false := decide_eq_false h3
    have d3b : decide ((s : Int) ≤ 65536) = false := decide_eq_false (by omega)
    rw [d1a, d2a, d3a]
    simp only [Bool.true_and]
    clear h1 h2 h3 w5
    go_enter Tryz.func24, Tryz.ntmps24
    go_upto_region 1 with (fail)
    generalize w.alloc (.cells g.vals 26) = w1 at *
    obtain ⟨x0, x1, x2⟩ := HX.out.cells
    rw [HN.out.1] at x0
    rw [HN.out.2.1] at x1
    rw [HN.out.2.2.1] at x2
    have HC : Hid (∀ W, Below w1.heap.size w1 W → Calls Tryz.prog 13 #[.agg #[.slice g.PA n1 g.Pc, .slice g.IA n2 g.Ic, .slice g.TA n3 g.Tc]] W fun e w' => e = .returned (.int .i64 (c : Nat)) ∧ Below W.heap.size W w') := Lib.hid (fun W hb => by
      rw [← HN.out.1, ← HN.out.2.1, ← HN.out.2.2.1, ← HN.out.2.2.2]
      exact count_any g W (HX.out.g.below hb) HF.out)
    have HCX : Hid (∀ W, Below w1.heap.size w1 W → W.cell? ⟨w.heap.size, 0, none⟩ = some (.slice g.PA n1 g.Pc) ∧ W.cell? ⟨w.heap.size, 1, none⟩ = some (.slice g.IA n2 g.Ic) ∧ W.cell? ⟨w.heap.size, 2, none⟩ = some (.slice g.TA n3 g.Tc)) := Lib.hid (fun W hb => by
      rw [← HN.out.1, ← HN.out.2.1, ← HN.out.2.2.1]
      exact (HX.out.below hb).cells)
    have HBD := Lib.hid ((Below.refl w1.heap.size w1).drew)
    have HTR : Hid (∀ W, Below w1.drew.heap.size w1.drew W → Below w1.heap.size w1 W) := Lib.hid (fun W h => HBD.out.trans h)
    go_region_held3 (fun W => W.cell? ⟨w.heap.size, 0, none⟩ = some (.slice g.PA n1 g.Pc) ∧ W.cell? ⟨w.heap.size, 1, none⟩ = some (.slice g.IA n2 g.Ic) ∧ W.cell? ⟨w.heap.size, 2, none⟩ = some (.slice g.TA n3 g.Tc))
      (first | assumption | (exact ⟨x0, x1, x2⟩) | (exact ⟨y0, y1, y2⟩) | go_keep | fail)
      (first
        | (go_at_call 13; with_reducible (refine (HC.out _ HBD.out).mono ?_); rintro e w5 ⟨rfl, hb5⟩; have HB5 := Lib.hid (HTR.out _ hb5); obtain ⟨y0, y1, y2⟩ := HCX.out _ HB5.out; clear hb5))
    go_wp2_with fail
    go_ret
    exact ⟨rfl, HB.out.trans (HB5.out.mono HB.out.size)⟩
  · have d1a : decide (0 < n1) = true := decide_eq_true h1
    have d1b : decide (0 < (n1 : Int)) = true := decide_eq_true (by omega)
    have d2a : decide (n1 ≤ 1000) = true := decide_eq_true h2
    have d2b : decide ((n1 : Int) ≤ 1000) = true := decide_eq_true (by omega)
    have d3a : decide (s ≤ 65536) = true := decide_eq_true h3
    have d3b : decide ((s : Int) ≤ 65536) = true := decide_eq_true (by omega)
    rw [d1a, d2a, d3a]
    simp only [Bool.true_and]
    clear h1 h2 h3 w5
    go_enter Tryz.func24, Tryz.ntmps24
    go_upto_region 1 with (fail)
    generalize w.alloc (.cells g.vals 26) = w1 at *
    obtain ⟨x0, x1, x2⟩ := HX.out.cells
    rw [HN.out.1] at x0
    rw [HN.out.2.1] at x1
    rw [HN.out.2.2.1] at x2
    have HC : Hid (∀ W, Below w1.heap.size w1 W → Calls Tryz.prog 13 #[.agg #[.slice g.PA n1 g.Pc, .slice g.IA n2 g.Ic, .slice g.TA n3 g.Tc]] W fun e w' => e = .returned (.int .i64 (c : Nat)) ∧ Below W.heap.size W w') := Lib.hid (fun W hb => by
      rw [← HN.out.1, ← HN.out.2.1, ← HN.out.2.2.1, ← HN.out.2.2.2]
      exact count_any g W (HX.out.g.below hb) HF.out)
    have HCX : Hid (∀ W, Below w1.heap.size w1 W → W.cell? ⟨w.heap.size, 0, none⟩ = some (.slice g.PA n1 g.Pc) ∧ W.cell? ⟨w.heap.size, 1, none⟩ = some (.slice g.IA n2 g.Ic) ∧ W.cell? ⟨w.heap.size, 2, none⟩ = some (.slice g.TA n3 g.Tc)) := Lib.hid (fun W hb => by
      rw [← HN.out.1, ← HN.out.2.1, ← HN.out.2.2.1]
      exact (HX.out.below hb).cells)
    have HBD := Lib.hid ((Below.refl w1.heap.size w1).drew)
    have HTR : Hid (∀ W, Below w1.drew.heap.size w1.drew W → Below w1.heap.size w1 W) := Lib.hid (fun W h => HBD.out.trans h)
    go_region_held3 (fun W => W.cell? ⟨w.heap.size, 0, none⟩ = some (.slice g.PA n1 g.Pc) ∧ W.cell? ⟨w.heap.size, 1, none⟩ = some (.slice g.IA n2 g.Ic) ∧ W.cell? ⟨w.heap.size, 2, none⟩ = some (.slice g.TA n3 g.Tc))
      (first | assumption | (exact ⟨x0, x1, x2⟩) | (exact ⟨y0, y1, y2⟩) | go_keep | fail)
      (first
        | (go_at_call 13; with_reducible (refine (HC.out _ HBD.out).mono ?_); rintro e w5 ⟨rfl, hb5⟩; have HB5 := Lib.hid (HTR.out _ hb5); obtain ⟨y0, y1, y2⟩ := HCX.out _ HB5.out; clear hb5))
    go_wp2_with fail
    go_ret
    exact ⟨rfl, HB.out.trans (HB5.out.mono HB.out.size)⟩

set_option maxRecDepth 100000 in
set_option maxHeartbeats 4000000 in
theorem ixp_any (f : Pr → Bool) (A : Option Addr) (c : Nat) (l : List Pr) (w : World) (hr : RdP w A l) (hl : l.length ≤ 1000000000000)
    (hc : ∀ x ∈ l, ∀ W, Below w.heap.size w W → Calls Tryz.prog 43 #[.agg x.vals] W fun e w' => e = .returned (.bool (f x)) ∧ Below W.heap.size W w') :
    Calls Tryz.prog 63 #[.slice A l.length c, .func (.func 43) #[] #[]] w fun e w' => (∃ z : Int, e = .returned (.int .i64 z) ∧ decide (0 ≤ z) = l.any f) ∧ Below w.heap.size w w' := by
  have HR := Lib.hid hr
  have HC := Lib.hid hc
  have en : ∀ args w, (callFunc 43 args).run Tryz.prog w = .ok (.enter 43 args) w := enters_of Tryz.func43 (by kernel_rfl) rfl
  obtain ⟨n, hn⟩ : ∃ n, l.length = n := ⟨_, rfl⟩
  have HN := Lib.hid hn
  rw [hn] at hl
  rw [hn]
  clear hr hc hn
  go_enter Tryz.func63, Tryz.ntmps63
  go_wp2_with fail
  go_loopw [8] (fun i wr => ∃ k : Nat, k ≤ n ∧ i = .int .i64 k ∧ Hid ((l.take k).any f = false) ∧ Hid (Below w.heap.size w wr)) (fun i _ => n - (intOf i).toNat)
  case atStart => exact ⟨0, Nat.zero_le _, rfl, Lib.hid (by simp), Lib.hid (Below.refl _ _)⟩
  case round =>
    obtain ⟨k, hk, rfl, HE, HBL⟩ := hrel
    by_cases hlt : k < n
    rotate_left
    · have d1 : decide (k < n) = false := decide_eq_false hlt
      have HD : Hid (l.any f = false) := Lib.hid (by
        have h1 := HE.out
        rwa [List.take_of_length_le (by have := HN.out; omega)] at h1)
      go_wp2_with fail
      go_ret
      exact ⟨⟨_, rfl, by rw [HD.out]; rfl⟩, HBL.out⟩
    have d1 : decide (k < n) = true := decide_eq_true hlt
    have hk0 : (0 : Int) ≤ (k : Int) := by omega
    have hkl : (k : Int) < (n : Int) := by omega
    have hka : k < l.length := by have := HN.out; omega
    obtain ⟨b1, o1, hA, -, u0, u1, u2⟩ := (HR.out.below HBL.out).at hka
    subst hA
    have HNX : Hid (f l[k] = false → (l.take (k + 1)).any f = false) := Lib.hid (fun h => by
      have h1 := HE.out
      rw [List.take_succ_eq_append_getElem hka]
      generalize l.take k = m at *
      simp [List.any_append, h1, h])
    have HYS : Hid (f l[k] = true → l.any f = true) := Lib.hid (fun h => List.any_eq_true.2 ⟨_, List.getElem_mem hka, h⟩)
    have HCK := Lib.hid (HC.out _ (List.getElem_mem hka) wr HBL.out)
    obtain ⟨p, hp⟩ : ∃ p, l[k] = p := ⟨_, rfl⟩
    rw [hp] at u0 u1 u2 HNX HYS HCK
    clear hp hka HE
    cases hf : f p with
    | true =>
      rw [hf] at HCK
      have HD := Lib.hid (HYS.out hf)
      clear HYS HNX hf
      go_wp2_with fail
      refine HCK.out.mono ?_
      rintro e w5 ⟨rfl, hb5⟩
      have HB5 := Lib.hid (HBL.out.trans (hb5.mono HBL.out.size))
      clear hb5
      go_wp2_with fail
      go_ret
      exact ⟨⟨_, rfl, by rw [HD.out]; exact decide_eq_true hk0⟩, HB5.out⟩
    | false =>
      rw [hf] at HCK
      have HN2 := Lib.hid (HNX.out hf)
      clear HYS HNX hf
      go_wp2_with fail
      refine HCK.out.mono ?_
      rintro e w5 ⟨rfl, hb5⟩
      have HB5 := Lib.hid (HBL.out.trans (hb5.mono HBL.out.size))
      clear hb5 HBL HCK u0 u1 u2
      go_wp2_with fail
      go_roundw
      case rel => exact ⟨k + 1, by omega, by go_num, HN2, HB5⟩
      case measure => simp [intOf]; omega
set_option maxRecDepth 100000 in
theorem cfp_any (f : Pr → Bool) (A : Option Addr) (c : Nat) (l : List Pr) (w : World) (hr : RdP w A l) (hl : l.length ≤ 1000000000000)
    (hc : ∀ x ∈ l, ∀ W, Below w.heap.size w W → Calls Tryz.prog 43 #[.agg x.vals] W fun e w' => e = .returned (.bool (f x)) ∧ Below W.heap.size W w') :
    Calls Tryz.prog 42 #[.slice A l.length c, .func (.func 43) #[] #[]] w fun e w' => e = .returned (.bool (l.any f)) ∧ Below w.heap.size w w' := by
  have H := Lib.hid (ixp_any f A c l w hr hl hc)
  clear hr hl hc
  obtain ⟨t, ht⟩ : ∃ t, l.any f = t := ⟨_, rfl⟩
  rw [ht] at H
  rw [ht]
  clear ht
  go_enter Tryz.func42, Tryz.ntmps42
  go_wp2_with fail
  refine H.out.mono ?_
  rintro e w1 ⟨⟨z, rfl, hz⟩, hb⟩
  have HB := Lib.hid hb
  clear hb H
  cases t with
  | true =>
    go_wp2_with fail
    go_ret
    exact ⟨by rfl, HB.out⟩
  | false =>
    go_wp2_with fail
    go_ret
    exact ⟨by rfl, HB.out⟩

set_option maxRecDepth 100000 in
set_option maxHeartbeats 4000000 in
theorem ixs_any (f : ByteArray → Bool) (A : Option Addr) (c : Nat) (l : List ByteArray) (w : World) (hr : RdV w A (cellsS l)) (hl : l.length ≤ 1000000000000)
    (hc : ∀ x ∈ l, ∀ W, Below w.heap.size w W → Calls Tryz.prog 46 #[.string x] W fun e w' => e = .returned (.bool (f x)) ∧ Below W.heap.size W w') :
    Calls Tryz.prog 64 #[.slice A l.length c, .func (.func 46) #[] #[]] w fun e w' => (∃ z : Int, e = .returned (.int .i64 z) ∧ decide (0 ≤ z) = l.any f) ∧ Below w.heap.size w w' := by
  have HR := Lib.hid hr
  have HC := Lib.hid hc
  have en : ∀ args w, (callFunc 46 args).run Tryz.prog w = .ok (.enter 46 args) w := enters_of Tryz.func46 (by kernel_rfl) rfl
  obtain ⟨n, hn⟩ : ∃ n, l.length = n := ⟨_, rfl⟩
  have HN := Lib.hid hn
  rw [hn] at hl
  rw [hn]
  clear hr hc hn
  go_enter Tryz.func64, Tryz.ntmps64
  go_wp2_with fail
  go_loopw [8] (fun i wr => ∃ k : Nat, k ≤ n ∧ i = .int .i64 k ∧ Hid ((l.take k).any f = false) ∧ Hid (Below w.heap.size w wr)) (fun i _ => n - (intOf i).toNat)
  case atStart => exact ⟨0, Nat.zero_le _, rfl, Lib.hid (by simp), Lib.hid (Below.refl _ _)⟩
  case round =>
    obtain ⟨k, hk, rfl, HE, HBL⟩ := hrel
    by_cases hlt : k < n
    rotate_left
    · have d1 : decide (k < n) = false := decide_eq_false hlt
      have HD : Hid (l.any f = false) := Lib.hid (by
        have h1 := HE.out
        rwa [List.take_of_length_le (by have := HN.out; omega)] at h1)
      go_wp2_with fail
      go_ret
      exact ⟨⟨_, rfl, by rw [HD.out]; rfl⟩, HBL.out⟩
    have d1 : decide (k < n) = true := decide_eq_true hlt
    have hk0 : (0 : Int) ≤ (k : Int) := by omega
    have hkl : (k : Int) < (n : Int) := by omega
    have hka : k < l.length := by have := HN.out; omega
    obtain ⟨b1, o1, hA, -, u0⟩ := rdS_at (HR.out.below HBL.out) hka
    subst hA
    have HNX : Hid (f l[k] = false → (l.take (k + 1)).any f = false) := Lib.hid (fun h => by
      have h1 := HE.out
      rw [List.take_succ_eq_append_getElem hka]
      generalize l.take k = m at *
      simp [List.any_append, h1, h])
    have HYS : Hid (f l[k] = true → l.any f = true) := Lib.hid (fun h => List.any_eq_true.2 ⟨_, List.getElem_mem hka, h⟩)
    have HCK := Lib.hid (HC.out _ (List.getElem_mem hka) wr HBL.out)
    obtain ⟨p, hp⟩ : ∃ p, l[k] = p := ⟨_, rfl⟩
    rw [hp] at u0 HNX HYS HCK
    clear hp hka HE
    cases hf : f p with
    | true =>
      rw [hf] at HCK
      have HD := Lib.hid (HYS.out hf)
      clear HYS HNX hf
      go_wp2_with fail
      refine HCK.out.mono ?_
      rintro e w5 ⟨rfl, hb5⟩
      have HB5 := Lib.hid (HBL.out.trans (hb5.mono HBL.out.size))
      clear hb5
      go_wp2_with fail
      go_ret
      exact ⟨⟨_, rfl, by rw [HD.out]; exact decide_eq_true hk0⟩, HB5.out⟩
    | false =>
      rw [hf] at HCK
      have HN2 := Lib.hid (HNX.out hf)
      clear HYS HNX hf
      go_wp2_with fail
      refine HCK.out.mono ?_
      rintro e w5 ⟨rfl, hb5⟩
      have HB5 := Lib.hid (HBL.out.trans (hb5.mono HBL.out.size))
      clear hb5 HBL HCK u0
      go_wp2_with fail
      go_roundw
      case rel => exact ⟨k + 1, by omega, by go_num, HN2, HB5⟩
      case measure => simp [intOf]; omega
set_option maxRecDepth 100000 in
theorem cfs_any (f : ByteArray → Bool) (A : Option Addr) (c : Nat) (l : List ByteArray) (w : World) (hr : RdV w A (cellsS l)) (hl : l.length ≤ 1000000000000)
    (hc : ∀ x ∈ l, ∀ W, Below w.heap.size w W → Calls Tryz.prog 46 #[.string x] W fun e w' => e = .returned (.bool (f x)) ∧ Below W.heap.size W w') :
    Calls Tryz.prog 45 #[.slice A l.length c, .func (.func 46) #[] #[]] w fun e w' => e = .returned (.bool (l.any f)) ∧ Below w.heap.size w w' := by
  have H := Lib.hid (ixs_any f A c l w hr hl hc)
  clear hr hl hc
  obtain ⟨t, ht⟩ : ∃ t, l.any f = t := ⟨_, rfl⟩
  rw [ht] at H
  rw [ht]
  clear ht
  go_enter Tryz.func45, Tryz.ntmps45
  go_wp2_with fail
  refine H.out.mono ?_
  rintro e w1 ⟨⟨z, rfl, hz⟩, hb⟩
  have HB := Lib.hid hb
  clear hb H
  cases t with
  | true =>
    go_wp2_with fail
    go_ret
    exact ⟨by rfl, HB.out⟩
  | false =>
    go_wp2_with fail
    go_ret
    exact ⟨by rfl, HB.out⟩

set_option maxRecDepth 100000 in
set_option maxHeartbeats 4000000 in
theorem ixi_any (f : Ins → Bool) (k : Nat) (A : Option Addr) (c : Nat) (l : List Ins) (w : World) (hr : RdI w A l) (hl : l.length ≤ 1000000000000)
    (hc : ∀ x ∈ l, ∀ W, Below w.heap.size w W → Calls Tryz.prog 49 #[.agg x.vals, .pointer (some ⟨k, 0, none⟩)] W fun e w' => e = .returned (.bool (f x)) ∧ Below W.heap.size W w') :
    Calls Tryz.prog 65 #[.slice A l.length c, .func (.func 49) #[] #[.pointer (some ⟨k, 0, none⟩)]] w fun e w' => (∃ z : Int, e = .returned (.int .i64 z) ∧ decide (0 ≤ z) = l.any f) ∧ Below w.heap.size w w' := by
  have HR := Lib.hid hr
  have HC := Lib.hid hc
  have en : ∀ args w, (callFunc 49 args).run Tryz.prog w = .ok (.enter 49 args) w := enters_of Tryz.func49 (by kernel_rfl) rfl
  obtain ⟨n, hn⟩ : ∃ n, l.length = n := ⟨_, rfl⟩
  have HN := Lib.hid hn
  rw [hn] at hl
  rw [hn]
  clear hr hc hn
  go_enter Tryz.func65, Tryz.ntmps65
  go_wp2_with fail
  go_loopw [8] (fun i wr => ∃ k : Nat, k ≤ n ∧ i = .int .i64 k ∧ Hid ((l.take k).any f = false) ∧ Hid (Below w.heap.size w wr)) (fun i _ => n - (intOf i).toNat)
  case atStart => exact ⟨0, Nat.zero_le _, rfl, Lib.hid (by simp), Lib.hid (Below.refl _ _)⟩
  case round =>
    obtain ⟨k, hk, rfl, HE, HBL⟩ := hrel
    by_cases hlt : k < n
    rotate_left
    · have d1 : decide (k < n) = false := decide_eq_false hlt
      have HD : Hid (l.any f = false) := Lib.hid (by
        have h1 := HE.out
        rwa [List.take_of_length_le (by have := HN.out; omega)] at h1)
      go_wp2_with fail
      go_ret
      exact ⟨⟨_, rfl, by rw [HD.out]; rfl⟩, HBL.out⟩
    have d1 : decide (k < n) = true := decide_eq_true hlt
    have hk0 : (0 : Int) ≤ (k : Int) := by omega
    have hkl : (k : Int) < (n : Int) := by omega
    have hka : k < l.length := by have := HN.out; omega
    obtain ⟨b1, o1, hA, -, u0, u1, u2, u3⟩ := (HR.out.below HBL.out).at hka
    subst hA
    have HNX : Hid (f l[k] = false → (l.take (k + 1)).any f = false) := Lib.hid (fun h => by
      have h1 := HE.out
      rw [List.take_succ_eq_append_getElem hka]
      generalize l.take k = m at *
      simp [List.any_append, h1, h])
    have HYS : Hid (f l[k] = true → l.any f = true) := Lib.hid (fun h => List.any_eq_true.2 ⟨_, List.getElem_mem hka, h⟩)
    have HCK := Lib.hid (HC.out _ (List.getElem_mem hka) wr HBL.out)
    obtain ⟨p, hp⟩ : ∃ p, l[k] = p := ⟨_, rfl⟩
    rw [hp] at u0 u1 u2 u3 HNX HYS HCK
    clear hp hka HE
    cases hf : f p with
    | true =>
      rw [hf] at HCK
      have HD := Lib.hid (HYS.out hf)
      clear HYS HNX hf
      go_wp2_with fail
      refine HCK.out.mono ?_
      rintro e w5 ⟨rfl, hb5⟩
      have HB5 := Lib.hid (HBL.out.trans (hb5.mono HBL.out.size))
      clear hb5
      go_wp2_with fail
      go_ret
      exact ⟨⟨_, rfl, by rw [HD.out]; exact decide_eq_true hk0⟩, HB5.out⟩
    | false =>
      rw [hf] at HCK
      have HN2 := Lib.hid (HNX.out hf)
      clear HYS HNX hf
      go_wp2_with fail
      refine HCK.out.mono ?_
      rintro e w5 ⟨rfl, hb5⟩
      have HB5 := Lib.hid (HBL.out.trans (hb5.mono HBL.out.size))
      clear hb5 HBL HCK u0 u1 u2 u3
      go_wp2_with fail
      go_roundw
      case rel => exact ⟨k + 1, by omega, by go_num, HN2, HB5⟩
      case measure => simp [intOf]; omega
set_option maxRecDepth 100000 in
theorem cfi_any (f : Ins → Bool) (k : Nat) (A : Option Addr) (c : Nat) (l : List Ins) (w : World) (hr : RdI w A l) (hl : l.length ≤ 1000000000000)
    (hc : ∀ x ∈ l, ∀ W, Below w.heap.size w W → Calls Tryz.prog 49 #[.agg x.vals, .pointer (some ⟨k, 0, none⟩)] W fun e w' => e = .returned (.bool (f x)) ∧ Below W.heap.size W w') :
    Calls Tryz.prog 48 #[.slice A l.length c, .func (.func 49) #[] #[.pointer (some ⟨k, 0, none⟩)]] w fun e w' => e = .returned (.bool (l.any f)) ∧ Below w.heap.size w w' := by
  have H := Lib.hid (ixi_any f k A c l w hr hl hc)
  clear hr hl hc
  obtain ⟨t, ht⟩ : ∃ t, l.any f = t := ⟨_, rfl⟩
  rw [ht] at H
  rw [ht]
  clear ht
  go_enter Tryz.func48, Tryz.ntmps48
  go_wp2_with fail
  refine H.out.mono ?_
  rintro e w1 ⟨⟨z, rfl, hz⟩, hb⟩
  have HB := Lib.hid hb
  clear hb H
  cases t with
  | true =>
    go_wp2_with fail
    go_ret
    exact ⟨by rfl, HB.out⟩
  | false =>
    go_wp2_with fail
    go_ret
    exact ⟨by rfl, HB.out⟩
end Go.Proofs.YtccofgdcpmplmaaGreatDoor
