/- Is a program more than is done here? -/
import Derived.Test.YtccofgdcpmplmaaGreatDoorSame
namespace Go.Proofs.YtccofgdcpmplmaaGreatDoor
open Go Go.RowKit Go.Shelf
/-- A program that is done here. -/
structure Pg.few (g : Pg) : Prop where
  p : g.ps.length ≤ 10
  c : ∀ p ∈ g.ps, p.code.length ≤ 100
  i : g.is.length ≤ 60
  t : g.ts.length ≤ 60
  z : (g.ts.map ByteArray.size).sum ≤ 2000
theorem Pg.few.small {g : Pg} (h : g.few) : g.small := ⟨by have := h.p; omega, fun p hp => by have := h.c p hp; omega, by have := h.i; omega, by have := h.t; omega⟩
theorem sum_next {l : List ByteArray} {k : Nat} (h : k < l.length) : ((l.take (k + 1)).map ByteArray.size).sum = ((l.take k).map ByteArray.size).sum + l[k].size := by
  rw [List.take_succ_eq_append_getElem h]
  generalize l.take k = m
  simp
set_option maxRecDepth 100000 in
set_option maxHeartbeats 8000000 in
theorem large_any (g : Pg) (w : World) (hg : g.at w) (ok : g.ok) :
    Calls Tryz.prog 5 #[.agg g.vals] w fun e w' => (∃ b, e = .returned (.bool b) ∧ (b = false → g.few)) ∧ Below w.heap.size w w' := by
  have hb := below_new w (.cells g.vals 26)
  have h1 := heap_alloc_new w (.cells g.vals 26)
  have HB := Lib.hid hb
  have HG := Lib.hid (hg.below hb)
  have HO := Lib.hid ok
  obtain ⟨n1, hn1⟩ : ∃ n, g.ps.length = n := ⟨_, rfl⟩
  obtain ⟨n2, hn2⟩ : ∃ n, g.is.length = n := ⟨_, rfl⟩
  obtain ⟨n3, hn3⟩ : ∃ n, g.ts.length = n := ⟨_, rfl⟩
  have HN1 := Lib.hid hn1
  have HN2 := Lib.hid hn2
  have HN3 := Lib.hid hn3
  have m1 := ok.pl
  have m2 := ok.il
  have m3 := ok.tl
  have k1 := ok.pm
  have k2 := ok.im
  have k3 := ok.tm
  simp only [maxLen] at k1 k2 k3
  rw [hn1] at m1
  rw [hn2] at m2
  rw [hn3] at m3
  obtain ⟨w1, hw1⟩ : ∃ W, w.alloc (.cells g.vals 26) = W := ⟨_, rfl⟩
  rw [hw1] at HB HG h1
  have HCX : Hid (∀ W, Below w1.heap.size w1 W → (W.cell? ⟨w.heap.size, 0, none⟩ = some (.slice g.PA n1 g.Pc) ∧ W.cell? ⟨w.heap.size, 1, none⟩ = some (.slice g.IA n2 g.Ic) ∧ W.cell? ⟨w.heap.size, 2, none⟩ = some (.slice g.TA n3 g.Tc))) := Lib.hid (fun W hb => by
    rw [← hn1, ← hn2, ← hn3]
    exact cell3 ((hb.block _ (Array.getElem?_eq_some_iff.1 h1).1).trans h1))
  clear hg ok hb h1 hn1 hn2 hn3
  have d1 : ∀ (a b : Nat), a ≤ b → decide (b < a) = false ∧ decide ((b : Int) < (a : Int)) = false := fun a b h => ⟨decide_eq_false (by omega), decide_eq_false (by omega)⟩
  clear d1
  by_cases hl1 : 10 < n1
  · have d1 : decide (10 < n1) = true := decide_eq_true hl1
    have d2 : decide (10 < (n1 : Int)) = true := decide_eq_true (by omega)
    go_enter Tryz.func5, Tryz.ntmps5
    go_upto_region 2 with (fail)
    generalize w.alloc (.cells g.vals 26) = W0 at *
    have hw2 := hw1.symm
    clear hw1
    subst hw2
    obtain ⟨x0, x1, x2⟩ := HCX.out _ (Below.refl _ _)
    go_wp2_with fail
    go_ret
    exact ⟨⟨_, rfl, fun h => by cases h⟩, HB.out⟩
  by_cases hl2 : 60 < n2
  · have d1 : decide (10 < n1) = false := decide_eq_false hl1
    have d2 : decide (10 < (n1 : Int)) = false := decide_eq_false (by omega)
    have d3 : decide (60 < n2) = true := decide_eq_true hl2
    have d4 : decide (60 < (n2 : Int)) = true := decide_eq_true (by omega)
    go_enter Tryz.func5, Tryz.ntmps5
    go_upto_region 2 with (fail)
    generalize w.alloc (.cells g.vals 26) = W0 at *
    have hw2 := hw1.symm
    clear hw1
    subst hw2
    obtain ⟨x0, x1, x2⟩ := HCX.out _ (Below.refl _ _)
    go_wp2_with fail
    go_ret
    exact ⟨⟨_, rfl, fun h => by cases h⟩, HB.out⟩
  by_cases hl3 : 60 < n3
  · have d1 : decide (10 < n1) = false := decide_eq_false hl1
    have d2 : decide (10 < (n1 : Int)) = false := decide_eq_false (by omega)
    have d3 : decide (60 < n2) = false := decide_eq_false hl2
    have d4 : decide (60 < (n2 : Int)) = false := decide_eq_false (by omega)
    have d5 : decide (60 < n3) = true := decide_eq_true hl3
    have d6 : decide (60 < (n3 : Int)) = true := decide_eq_true (by omega)
    go_enter Tryz.func5, Tryz.ntmps5
    go_upto_region 2 with (fail)
    generalize w.alloc (.cells g.vals 26) = W0 at *
    have hw2 := hw1.symm
    clear hw1
    subst hw2
    obtain ⟨x0, x1, x2⟩ := HCX.out _ (Below.refl _ _)
    go_wp2_with fail
    go_ret
    exact ⟨⟨_, rfl, fun h => by cases h⟩, HB.out⟩
  have d1 : decide (10 < n1) = false := decide_eq_false hl1
  have d2 : decide (10 < (n1 : Int)) = false := decide_eq_false (by omega)
  have d3 : decide (60 < n2) = false := decide_eq_false hl2
  have d4 : decide (60 < (n2 : Int)) = false := decide_eq_false (by omega)
  have d5 : decide (60 < n3) = false := decide_eq_false hl3
  have d6 : decide (60 < (n3 : Int)) = false := decide_eq_false (by omega)
  go_enter Tryz.func5, Tryz.ntmps5
  go_upto_region 2 with (fail)
  generalize w.alloc (.cells g.vals 26) = W0 at *
  have hw2 := hw1.symm
  clear hw1
  subst hw2
  obtain ⟨x0, x1, x2⟩ := HCX.out _ (Below.refl _ _)
  go_wp2_with fail
  clear x0 x1 x2 d1 d2 d3 d4 d5 d6
  go_loopw [4] (fun i wr => ∃ k : Nat, k ≤ n1 ∧ i = .int .i64 k ∧ Hid (∀ p ∈ g.ps.take k, p.code.length ≤ 100) ∧ Hid (Below w1.heap.size w1 wr)) (fun i _ => n1 - (intOf i).toNat)
  case atStart => exact ⟨0, Nat.zero_le _, rfl, Lib.hid (fun p hp => by simp at hp), Lib.hid (Below.refl _ _)⟩
  case round =>
    obtain ⟨k, hk, rfl, HE, HBL⟩ := hrel
    obtain ⟨x0, x1, x2⟩ := HCX.out _ HBL.out
    by_cases hlt : k < n1
    · have d1 : decide (k < n1) = true := decide_eq_true hlt
      have hk0 : (0 : Int) ≤ (k : Int) := by omega
      have hkl : (k : Int) < (n1 : Int) := by omega
      have hka : k < g.ps.length := by have := HN1.out; omega
      obtain ⟨b3, o3, hA, -, u0, u1, u2⟩ := (HG.out.ps.below HBL.out).at hka
      rw [hA] at x0
      have HNX : Hid (g.ps[k].code.length ≤ 100 → ∀ p ∈ g.ps.take (k + 1), p.code.length ≤ 100) := Lib.hid (fun h p hp => by
        rw [List.take_succ_eq_append_getElem hka] at hp
        rcases List.mem_append.1 hp with h1 | h1
        · exact HE.out p h1
        · rw [List.mem_singleton.1 h1]; exact h)
      obtain ⟨p, hp⟩ : ∃ p, g.ps[k] = p := ⟨_, rfl⟩
      have HPO := HO.out.po p (by rw [← hp]; exact List.getElem_mem hka)
      rw [hp] at u0 u1 u2 HNX
      have hc1 := HPO.cap
      have hc2 := HPO.max
      simp only [maxLen] at hc2
      obtain ⟨c1, hc⟩ : ∃ c, p.code.length = c := ⟨_, rfl⟩
      rw [hc] at u2 HNX hc1
      clear hp hka hA HE HPO hc
      by_cases hc : 100 < c1
      · have d2 : decide (100 < c1) = true := decide_eq_true hc
        have d3 : decide (100 < (c1 : Int)) = true := decide_eq_true (by omega)
        clear HNX
        go_wp2_with fail
        go_ret
        exact ⟨⟨_, rfl, fun h => by cases h⟩, HB.out.trans (HBL.out.mono HB.out.size)⟩
      · have d2 : decide (100 < c1) = false := decide_eq_false hc
        have d3 : decide (100 < (c1 : Int)) = false := decide_eq_false (by omega)
        have HN := Lib.hid (HNX.out (by omega))
        clear HNX
        go_wp2_with fail
        go_roundw
        case rel => exact ⟨k + 1, by omega, by go_num, HN, HBL⟩
        case measure => simp [intOf]; omega
    have d1 : decide (k < n1) = false := decide_eq_false hlt
    have HF1 : Hid (∀ p ∈ g.ps, p.code.length ≤ 100) := Lib.hid (by
      have h1 := HE.out
      rwa [List.take_of_length_le (by have := HN1.out; omega)] at h1)
    clear HE hlt hk
    go_wp2_with fail
    clear x0 x1 x2 d1
    go_loopw [3, 5] (fun z i wr => ∃ k s : Nat, k ≤ n3 ∧ i = .int .i64 k ∧ z = .int .i64 s ∧ s ≤ 2000 ∧ Hid (s = ((g.ts.take k).map ByteArray.size).sum) ∧ Hid (Below w1.heap.size w1 wr)) (fun _ i _ => n3 - (intOf i).toNat)
    case atStart => exact ⟨0, 0, Nat.zero_le _, rfl, rfl, by omega, Lib.hid rfl, HBL⟩
    case round =>
      clear HBL
      obtain ⟨k, s, hk, rfl, rfl, hs, HE, HBL⟩ := hrel
      obtain ⟨x0, x1, x2⟩ := HCX.out _ HBL.out
      by_cases hlt : k < n3
      · have d1 : decide (k < n3) = true := decide_eq_true hlt
        have hk0 : (0 : Int) ≤ (k : Int) := by omega
        have hkl : (k : Int) < (n3 : Int) := by omega
        have hka : k < g.ts.length := by have := HN3.out; omega
        obtain ⟨b3, o3, hA, -, u0⟩ := rdS_at (HG.out.ts.below HBL.out) hka
        rw [hA] at x2
        have HNX := Lib.hid (sum_next hka)
        have ht := HO.out.to _ (List.getElem_mem hka)
        obtain ⟨p, hp⟩ : ∃ p, g.ts[k] = p := ⟨_, rfl⟩
        rw [hp] at u0 HNX ht
        have HZ2 : Hid (s + p.size = ((g.ts.take (k + 1)).map ByteArray.size).sum) := Lib.hid (by rw [HNX.out, ← HE.out])
        clear hp hka hA HNX HE
        by_cases hc : 2000 < s + p.size
        · have d2 : decide (2000 < s + p.size) = true := decide_eq_true hc
          have d3 : decide (2000 < (s : Int) + (p.size : Int)) = true := decide_eq_true (by omega)
          clear HZ2
          go_wp2_with fail
          go_ret
          exact ⟨⟨_, rfl, fun h => by cases h⟩, HB.out.trans (HBL.out.mono HB.out.size)⟩
        · have d2 : decide (2000 < s + p.size) = false := decide_eq_false hc
          have d3 : decide (2000 < (s : Int) + (p.size : Int)) = false := decide_eq_false (by omega)
          go_wp2_with fail
          go_roundw
          case rel => exact ⟨k + 1, s + p.size, by omega, by go_num, by go_num, by omega, HZ2, HBL⟩
          case measure => simp [intOf]; omega
      have d1 : decide (k < n3) = false := decide_eq_false hlt
      have HF : Hid g.few := Lib.hid ⟨by rw [HN1.out]; omega, HF1.out, by rw [HN2.out]; omega, by rw [HN3.out]; omega, by
        have h1 := HE.out
        rw [List.take_of_length_le (by have := HN3.out; omega)] at h1
        omega⟩
      go_wp2_with fail
      go_ret
      exact ⟨⟨_, rfl, fun _ => HF.out⟩, HB.out.trans (HBL.out.mono HB.out.size)⟩
end Go.Proofs.YtccofgdcpmplmaaGreatDoor
