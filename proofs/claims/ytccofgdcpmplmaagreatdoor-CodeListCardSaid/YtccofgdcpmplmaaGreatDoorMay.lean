/- Whether an instruction may be. -/
import Derived.Test.YtccofgdcpmplmaaGreatDoorStd
namespace Go.Proofs.YtccofgdcpmplmaaGreatDoor
open Go Go.RowKit Go.Shelf
def shpL : List Int := [0, 0, 0, 1, 2, 0, 1, 0, 0, 1, 0, 0, 1, 5, 0, 1, 6, 0, 1, 1, 0, 1, 0, 0, 1, 0, 0, 1, 0, 0, 1, 1, 1, 1, 1, 1, 1, 1, 1, 1, 1, 1, 1, 1, 1, 1, 1, 1, 1, 1, 1, 1, 1, 1, 1, 1, 1, 1, 1, 1, 1, 1, 1, 1, 1, 1, 1, 1, 1, 1, 1, 1, 1, 1, 0, 1, 1, 0, 1, 1, 0, 4, 0, 0, 1, 4, 0, 1, 4, 0, 3, 4, 1, 3, 4, 1, 1, 8, 0, 1, 7, 9, 1, 0, 0, 0, 0, 0]
theorem arr12 : arrK 12 = (shpL.map (Value.int .i64)).toArray := by kernel_rfl
def sh (j : Nat) (op : Nat) : Int := shpL.getD (op * 3 + j) 0
theorem sh_at {K : Nat} {g : Pg} {p : Pr} {W : World} (h : AK K g p W) (op j : Nat) (h1 : op < 36) (h2 : j < 3) : W.cell? ⟨K, 6 + (op * 3 + j), none⟩ = some (.int .i64 (sh j op)) := by
  rw [h.shape _ (by omega), arr12]
  have hl : shpL.length = 108 := rfl
  have : op * 3 + j < shpL.length := by omega
  simp [sh, this]
theorem sh_fin : ∀ op : Fin 36, (0 ≤ sh 0 op.val ∧ sh 0 op.val ≤ 6) ∧ (0 ≤ sh 1 op.val ∧ sh 1 op.val ≤ 9) ∧ (0 ≤ sh 2 op.val ∧ sh 2 op.val ≤ 9) ∧ ((sh 1 op.val = 8 ∨ sh 1 op.val = 9 ∨ sh 2 op.val = 8 ∨ sh 2 op.val = 9) → sh 0 op.val = 1) := by decide +kernel
section
variable {K : Nat} {g : Pg} {p : Pr}
theorem st_any (what n a : Int) (w : World) (h : AK K g p w) (hf : g.fit) (hp : p.mid) (hc : p.code.length ≤ 1000000) (hn : inI n) (ha : inI a) (w0 : 0 ≤ what) (w9 : what ≤ 9) (hx : what = 8 ∨ what = 9 → 0 ≤ a ∧ a ≤ 1000) :
    Calls Tryz.prog 66 #[.pointer (some ⟨K, 0, none⟩), .int .i64 what, .int .i64 n, .int .i64 a] w fun e w' => e = .returned (.bool (stB g p what n a)) ∧ Below w.heap.size w w' := by
  have : what = 0 ∨ what = 1 ∨ what = 2 ∨ what = 3 ∨ what = 4 ∨ what = 5 ∨ what = 6 ∨ what = 7 ∨ what = 8 ∨ what = 9 := by omega
  rcases this with rfl | rfl | rfl | rfl | rfl | rfl | rfl | rfl | rfl | rfl
  · exact st_0 n a w h hf hp hc hn ha
  · exact st_1 n a w h hf hp hc hn ha
  · exact st_2 n a w h hf hp hc hn ha
  · exact st_3 n a w h hf hp hc hn ha
  · exact st_4 n a w h hf hp hc hn ha
  · exact st_5 n a w h hf hp hc hn ha
  · exact st_6 n a w h hf hp hc hn ha
  · exact st_7 n a w h hf hp hc hn ha
  · exact st_8 n a w h hf hp hc hn ha (hx (.inl rfl)).1 (hx (.inl rfl)).2
  · exact st_9 n a w h hf hp hc hn ha (hx (.inr rfl)).1 (hx (.inr rfl)).2
def mayB (g : Pg) (p : Pr) (x : Ins) : Bool := decide (1 ≤ x.op) && decide (x.op ≤ 35) && (stB g p (sh 0 x.op.toNat) x.a x.a && stB g p (sh 1 x.op.toNat) x.b x.a && stB g p (sh 2 x.op.toNat) x.c x.a)
theorem cell4 {W : World} {b : Nat} {u v x y : Value} {t : TypeId} (h : W.heap[b]? = some (.cells #[u, v, x, y] t (0, 0))) : W.cell? ⟨b, 0, none⟩ = some u ∧ W.cell? ⟨b, 1, none⟩ = some v ∧ W.cell? ⟨b, 2, none⟩ = some x ∧ W.cell? ⟨b, 3, none⟩ = some y := by
  refine ⟨?_, ?_, ?_, ?_⟩ <;> (simp only [World.cell?, h]; rfl)
set_option maxRecDepth 100000 in
set_option maxHeartbeats 8000000 in
theorem may_any (x : Ins) (w : World) (h : AK K g p w) (hf : g.fit) (hp : p.mid) (hc : p.code.length ≤ 1000000) (hx : x.ok) :
    Calls Tryz.prog 50 #[.pointer (some ⟨K, 0, none⟩), .agg x.vals] w fun e w' => e = .returned (.bool (mayB g p x)) ∧ Below w.heap.size w w' := by
  have hb := below_new w (.cells x.vals 42)
  have HB := Lib.hid hb
  have HX := Lib.hid (heap_alloc_new w (.cells x.vals 42))
  have HK := Lib.hid (h.below hb)
  have HF := Lib.hid hf
  have HP := Lib.hid hp
  have HC := Lib.hid hc
  have HO := Lib.hid hx
  have ho := hx.1
  unfold inI at ho
  unfold mayB
  clear h hf hp hc hb hx
  by_cases h1 : x.op < 1
  · have d1 : decide (x.op < 1) = true := decide_eq_true h1
    have d2 : decide (1 ≤ x.op) = false := decide_eq_false (by omega)
    rw [d2]
    go_enter Tryz.func50, Tryz.ntmps50
    go_upto_region 1 with (fail)
    generalize w.alloc (.cells x.vals 42) = w1 at *
    obtain ⟨x0, x1, x2, x3⟩ := cell4 HX.out
    go_wp2_with fail
    go_ret
    exact ⟨rfl, HB.out⟩
  have d1 : decide (x.op < 1) = false := decide_eq_false h1
  have d2 : decide (1 ≤ x.op) = true := decide_eq_true (by omega)
  rw [d2]
  by_cases h2 : 35 < x.op
  · have d3 : decide (35 < x.op) = true := decide_eq_true h2
    have d4 : decide (x.op ≤ 35) = false := decide_eq_false (by omega)
    rw [d4]
    go_enter Tryz.func50, Tryz.ntmps50
    go_upto_region 1 with (fail)
    generalize w.alloc (.cells x.vals 42) = w1 at *
    obtain ⟨x0, x1, x2, x3⟩ := cell4 HX.out
    go_wp2_with fail
    go_ret
    exact ⟨rfl, HB.out⟩
  have d3 : decide (35 < x.op) = false := decide_eq_false h2
  have d4 : decide (x.op ≤ 35) = true := decide_eq_true (by omega)
  rw [d4]
  obtain ⟨m, hm⟩ : ∃ m : Nat, x.op = (m : Int) := ⟨x.op.toNat, by omega⟩
  have hm36 : m < 36 := by omega
  have hmt : x.op.toNat = m := by omega
  rw [hmt]
  have hfin := sh_fin ⟨m, hm36⟩
  simp only at hfin
  have HS : Hid (∀ W, Below (w.alloc (.cells x.vals 42)).heap.size (w.alloc (.cells x.vals 42)) W → W.cell? ⟨K, 6 + m * 3, none⟩ = some (.int .i64 (sh 0 m)) ∧ W.cell? ⟨K, 6 + m * 3 + 1, none⟩ = some (.int .i64 (sh 1 m)) ∧ W.cell? ⟨K, 6 + m * 3 + 2, none⟩ = some (.int .i64 (sh 2 m))) := Lib.hid (fun W hb => by
    have q0 := sh_at (HK.out.below hb) m 0 hm36 (by omega)
    have q1 := sh_at (HK.out.below hb) m 1 hm36 (by omega)
    have q2 := sh_at (HK.out.below hb) m 2 hm36 (by omega)
    rw [Nat.add_zero] at q0
    rw [← Nat.add_assoc] at q1 q2
    exact ⟨q0, q1, q2⟩)
  have HXC : Hid (∀ W, Below (w.alloc (.cells x.vals 42)).heap.size (w.alloc (.cells x.vals 42)) W → W.cell? ⟨w.heap.size, 0, none⟩ = some (.int .i64 (m : Int)) ∧ W.cell? ⟨w.heap.size, 1, none⟩ = some (.int .i64 x.a) ∧ W.cell? ⟨w.heap.size, 2, none⟩ = some (.int .i64 x.b) ∧ W.cell? ⟨w.heap.size, 3, none⟩ = some (.int .i64 x.c)) := Lib.hid (fun W hb => by
    rw [← hm]
    exact cell4 ((hb.block _ (Array.getElem?_eq_some_iff.1 HX.out).1).trans HX.out))
  have H0 : Hid (∀ W, Below (w.alloc (.cells x.vals 42)).heap.size (w.alloc (.cells x.vals 42)) W → Calls Tryz.prog 66 #[.pointer (some ⟨K, 0, none⟩), .int .i64 (sh 0 m), .int .i64 x.a, .int .i64 x.a] W fun e w' => e = .returned (.bool (stB g p (sh 0 m) x.a x.a)) ∧ Below W.heap.size W w') := Lib.hid (fun W hb => st_any _ _ _ W (HK.out.below hb) HF.out HP.out HC.out HO.out.2.1 HO.out.2.1 hfin.1.1 (by omega) (fun e => by omega))
  have hreg : stB g p (sh 0 m) x.a x.a = true → sh 0 m = 1 → 0 ≤ x.a ∧ x.a ≤ 1000 := fun e e1 => by
    rw [e1] at e
    unfold stB belB at e
    simp only [if_true, Bool.and_eq_true, decide_eq_true_eq] at e
    have := HP.out.r1
    omega
  have H1 : Hid (stB g p (sh 0 m) x.a x.a = true → ∀ W, Below (w.alloc (.cells x.vals 42)).heap.size (w.alloc (.cells x.vals 42)) W → Calls Tryz.prog 66 #[.pointer (some ⟨K, 0, none⟩), .int .i64 (sh 1 m), .int .i64 x.b, .int .i64 x.a] W fun e w' => e = .returned (.bool (stB g p (sh 1 m) x.b x.a)) ∧ Below W.heap.size W w') := Lib.hid (fun he W hb => st_any _ _ _ W (HK.out.below hb) HF.out HP.out HC.out HO.out.2.2.1 HO.out.2.1 hfin.2.1.1 hfin.2.1.2 (fun e => hreg he (hfin.2.2.2 (by omega))))
  have H2 : Hid (stB g p (sh 0 m) x.a x.a = true → ∀ W, Below (w.alloc (.cells x.vals 42)).heap.size (w.alloc (.cells x.vals 42)) W → Calls Tryz.prog 66 #[.pointer (some ⟨K, 0, none⟩), .int .i64 (sh 2 m), .int .i64 x.c, .int .i64 x.a] W fun e w' => e = .returned (.bool (stB g p (sh 2 m) x.c x.a)) ∧ Below W.heap.size W w') := Lib.hid (fun he W hb => st_any _ _ _ W (HK.out.below hb) HF.out HP.out HC.out HO.out.2.2.2 HO.out.2.1 hfin.2.2.1.1 hfin.2.2.1.2 (fun e => hreg he (hfin.2.2.2 (by omega))))
  obtain ⟨s0, hs0⟩ : ∃ s, sh 0 m = s := ⟨_, rfl⟩
  obtain ⟨s1, hs1⟩ : ∃ s, sh 1 m = s := ⟨_, rfl⟩
  obtain ⟨s2, hs2⟩ : ∃ s, sh 2 m = s := ⟨_, rfl⟩
  rw [hs0] at H0 H1 H2 HS
  rw [hs1] at H1 HS
  rw [hs2] at H2 HS
  rw [hs0, hs1, hs2]
  clear hs0 hs1 hs2 hfin hreg HK HF HP HC HO
  obtain ⟨t0, ht0⟩ : ∃ s, stB g p s0 x.a x.a = s := ⟨_, rfl⟩
  obtain ⟨t1, ht1⟩ : ∃ s, stB g p s1 x.b x.a = s := ⟨_, rfl⟩
  obtain ⟨t2, ht2⟩ : ∃ s, stB g p s2 x.c x.a = s := ⟨_, rfl⟩
  rw [ht0] at H0 H1 H2
  rw [ht1] at H1
  rw [ht2] at H2
  rw [ht0, ht1, ht2]
  rw [hm] at d1 d3
  have m0 : (0 : Int) ≤ (m : Int) := by omega
  have m1 : (m : Int) < 36 := by omega
  clear ht0 ht1 ht2 d2 d4 h1 h2 ho hmt
  go_enter Tryz.func50, Tryz.ntmps50
  go_upto_region 1 with (fail)
  generalize w.alloc (.cells x.vals 42) = w1 at *
  obtain ⟨x0, x1, x2, x3⟩ := HXC.out _ (Below.refl _ _)
  obtain ⟨y0, y1, y2⟩ := HS.out _ (Below.refl _ _)
  go_upto_region 3 with (fail)
  go_region_held3 (fun W => W.cell? ⟨w.heap.size, 0, none⟩ = some (.int .i64 (m : Int)) ∧ W.cell? ⟨K, 6 + m * 3, none⟩ = some (.int .i64 s0) ∧ W.cell? ⟨K, 6 + m * 3 + 1, none⟩ = some (.int .i64 s1) ∧ W.cell? ⟨K, 6 + m * 3 + 2, none⟩ = some (.int .i64 s2))
    (first | assumption | (exact ⟨x0, y0, y1, y2⟩) | go_keep | fail)
    (fail)
  have hb2 : Below w1.heap.size w1 (w1.alloc (.cells #[.int .i64 s0, .int .i64 s1, .int .i64 s2] 90)).drew := (below_new w1 _).drew
  have hz2 := heap_alloc_new w1 (.cells #[.int .i64 s0, .int .i64 s1, .int .i64 s2] 90)
  have HB2 := Lib.hid hb2
  have HZ : Hid (∀ W, Below (w1.alloc (.cells #[.int .i64 s0, .int .i64 s1, .int .i64 s2] 90)).drew.heap.size (w1.alloc (.cells #[.int .i64 s0, .int .i64 s1, .int .i64 s2] 90)).drew W → W.cell? ⟨w1.heap.size, 0, none⟩ = some (.int .i64 s0) ∧ W.cell? ⟨w1.heap.size, 1, none⟩ = some (.int .i64 s1) ∧ W.cell? ⟨w1.heap.size, 2, none⟩ = some (.int .i64 s2)) := Lib.hid (fun W hb => cell3 ((hb.block _ (by have := (Array.getElem?_eq_some_iff.1 hz2).1; exact this)).trans hz2))
  clear hb2 hz2 x0 x1 x2 x3 y0 y1 y2
  generalize (w1.alloc (.cells #[.int .i64 s0, .int .i64 s1, .int .i64 s2] 90)).drew = w2 at *
  obtain ⟨x0, x1, x2, x3⟩ := HXC.out _ HB2.out
  obtain ⟨y0, y1, y2⟩ := HZ.out _ (Below.refl _ _)
  go_wp2_with fail
  refine (H0.out _ HB2.out).mono ?_
  rintro e w3 ⟨rfl, hb3⟩
  have HZ3 := Lib.hid hb3
  have HB3 := Lib.hid (HB2.out.trans (hb3.mono HB2.out.size))
  clear hb3 x0 x1 x2 x3 y0 y1 y2
  cases t0 with
  | false =>
    go_wp2_with fail
    go_ret
    exact ⟨rfl, HB.out.trans (HB3.out.mono HB.out.size)⟩
  | true =>
    obtain ⟨x0, x1, x2, x3⟩ := HXC.out _ HB3.out
    obtain ⟨y0, y1, y2⟩ := HZ.out _ HZ3.out
    go_wp2_with fail
    refine (H1.out (by simp) _ HB3.out).mono ?_
    rintro e w4 ⟨rfl, hb4⟩
    have HZ4 := Lib.hid (HZ3.out.trans (hb4.mono HZ3.out.size))
    have HB4 := Lib.hid (HB3.out.trans (hb4.mono HB3.out.size))
    clear hb4 x0 x1 x2 x3 y0 y1 y2
    cases t1 with
    | false =>
      go_wp2_with fail
      go_ret
      exact ⟨rfl, HB.out.trans (HB4.out.mono HB.out.size)⟩
    | true =>
      obtain ⟨x0, x1, x2, x3⟩ := HXC.out _ HB4.out
      obtain ⟨y0, y1, y2⟩ := HZ.out _ HZ4.out
      go_wp2_with fail
      refine (H2.out (by simp) _ HB4.out).mono ?_
      rintro e w5 ⟨rfl, hb5⟩
      have HB5 := Lib.hid (HB4.out.trans (hb5.mono HB4.out.size))
      clear hb5 x0 x1 x2 x3 y0 y1 y2
      go_wp2_with fail
      go_ret
      exact ⟨by simp, HB.out.trans (HB5.out.mono HB.out.size)⟩
end
end Go.Proofs.YtccofgdcpmplmaaGreatDoor
