/- Instructions alone in a program's place. -/
import Derived.Test.YtccofgdcpmplmaaDoorRca
import Derived.Test.YtccofgdcpmplmaaDoorKno
import Derived.Test.YtccofgdcpmplmaaDoorApd
namespace Go.Proofs.YtccofgdcpmplmaaDoor
open Go Go.RowKit Go.Shelf
theorem after_ins {w6 w7 : World} {Bf GI : Nat} {x : Ins} {l : List Ins} {a b c v : Value} (hf : w6.heap[Bf]? = some (.cells #[a, b, c] 34 (0, 0))) (hr : RdI w7 (some ⟨GI, 0, none⟩) (x :: l))
    (hs : Sv w6.heap.size (w6.alloc (.cells x.vals 37)).drew w7) (hg : GI = w6.heap.size ∨ GI = (w6.alloc (.cells x.vals 37)).drew.heap.size) :
    Sv Bf w6 (w7.setCell ⟨Bf, 2, none⟩ v) ∧ (w7.setCell ⟨Bf, 2, none⟩ v).heap[Bf]? = some (.cells #[a, b, v] 34 (0, 0)) ∧ RdI (w7.setCell ⟨Bf, 2, none⟩ v) (some ⟨GI, 0, none⟩) (x :: l) ∧ w6.heap.size ≤ GI := by
  have hlt := (Array.getElem?_eq_some_iff.1 hf).1
  have hz : (w6.alloc (.cells x.vals 37)).drew.heap.size = w6.heap.size + 1 := by simp
  have hgi : w6.heap.size ≤ GI := by rcases hg with h | h <;> omega
  have h1 := below_new w6 (.cells x.vals 37)
  have h7 : w7.heap[Bf]? = some (.cells #[a, b, c] 34 (0, 0)) := hs.heap (Nat.ne_of_lt hlt) ((h1.block _ hlt).trans hf)
  refine ⟨⟨hs.os, hs.tape, hs.output, ?_, fun k hk hn => ?_⟩, heap_setCell_same w7 Bf 2 _ _ v h7, hr.sv (show GI ≠ Bf by omega) (Sv.set w7 ⟨Bf, 2, none⟩ v), hgi⟩
  · have := hs.size
    have h2 : (w7.setCell ⟨Bf, 2, none⟩ v).heap.size = w7.heap.size := by simp [World.setCell]
    omega
  · rw [Below.heap_setCell _ _ _ _ hn, hs.keep k (by omega) (by omega)]
    exact h1.block k hk
theorem block_lt8 {W : World} {G : Nat} {x : Ins} {l : List Ins} (h : RdI W (some ⟨G, 0, none⟩) (x :: l)) : G < W.heap.size := by
  obtain ⟨b, off, e, hlt, _⟩ := h (by simp)
  cases e
  exact hlt
theorem block_ltP {W : World} {G : Nat} {x : Pr} {l : List Pr} (h : RdP W (some ⟨G, 0, none⟩) (x :: l)) : G < W.heap.size := by
  obtain ⟨b, off, e, hlt, _⟩ := h (by simp)
  cases e
  exact hlt
theorem after_prs {w6 w7 : World} {Bt GP : Nat} {cs : Array Value} {f : Pr} {l : List Pr} {a b c v : Value} (hf : w6.heap[Bt]? = some (.cells #[a, b, c] 26 (0, 0))) (hr : RdP w7 (some ⟨GP, 0, none⟩) (f :: l))
    (hs : Sv w6.heap.size (w6.alloc (.cells cs 34)).drew w7) (hg : GP = w6.heap.size ∨ GP = (w6.alloc (.cells cs 34)).drew.heap.size) :
    Sv Bt w6 (w7.setCell ⟨Bt, 0, none⟩ v) ∧ (w7.setCell ⟨Bt, 0, none⟩ v).heap[Bt]? = some (.cells #[v, b, c] 26 (0, 0)) ∧ RdP (w7.setCell ⟨Bt, 0, none⟩ v) (some ⟨GP, 0, none⟩) (f :: l) ∧ w6.heap.size ≤ GP := by
  have hlt := (Array.getElem?_eq_some_iff.1 hf).1
  have hz : (w6.alloc (.cells cs 34)).drew.heap.size = w6.heap.size + 1 := by simp
  have hgi : w6.heap.size ≤ GP := by rcases hg with h | h <;> omega
  have h1 := below_new w6 (.cells cs 34)
  have h7 : w7.heap[Bt]? = some (.cells #[a, b, c] 26 (0, 0)) := hs.heap (Nat.ne_of_lt hlt) ((h1.block _ hlt).trans hf)
  refine ⟨⟨hs.os, hs.tape, hs.output, ?_, fun k hk hn => ?_⟩, heap_setCell_same w7 Bt 0 _ _ v h7, hr.sv (show GP ≠ Bt by omega) (Sv.set w7 ⟨Bt, 0, none⟩ v), hgi⟩
  · have := hs.size
    have h2 : (w7.setCell ⟨Bt, 0, none⟩ v).heap.size = w7.heap.size := by simp [World.setCell]
    omega
  · rw [Below.heap_setCell _ _ _ _ hn, hs.keep k (by omega) (by omega)]
    exact h1.block k hk
theorem after_put {w11 : World} {Bf : Nat} {x : Ins} {a b c v : Value} (hf : w11.heap[Bf]? = some (.cells #[a, b, c] 34 (0, 0))) :
    Sv Bf w11 ((w11.setCell ⟨Bf, 2, none⟩ v).alloc (.cells x.vals 37)) ∧ ((w11.setCell ⟨Bf, 2, none⟩ v).alloc (.cells x.vals 37)).heap[Bf]? = some (.cells #[a, b, v] 34 (0, 0)) ∧ RdI ((w11.setCell ⟨Bf, 2, none⟩ v).alloc (.cells x.vals 37)) (some ⟨w11.heap.size, 0, none⟩) [x] := by
  have hlt := (Array.getElem?_eq_some_iff.1 hf).1
  have h2 : (w11.setCell ⟨Bf, 2, none⟩ v).heap.size = w11.heap.size := by simp [World.setCell]
  have h1 := below_new (w11.setCell ⟨Bf, 2, none⟩ v) (.cells x.vals 37)
  have hn := heap_alloc_new (w11.setCell ⟨Bf, 2, none⟩ v) (.cells x.vals 37)
  rw [h2] at hn h1
  refine ⟨⟨h1.os, h1.tape, h1.output, ?_, fun k hk hne => ?_⟩, ?_, fun _ => ⟨w11.heap.size, 0, rfl, (Array.getElem?_eq_some_iff.1 hn).1, fun i hi j hj => ?_⟩⟩
  · have := h1.size
    omega
  · rw [h1.block k hk]
    exact Below.heap_setCell _ _ _ _ hne
  · rw [h1.block Bf hlt]
    exact heap_setCell_same w11 Bf 2 _ _ v hf
  · obtain rfl : i = 0 := by simpa using hi
    obtain ⟨c0, c1, c2, c3⟩ := cell4 hn
    rcases j with _ | _ | _ | _ | j
    · exact c0
    · exact c1
    · exact c2
    · exact c3
    · omega
theorem rdP_tail {W : World} {b3 o3 Pc n1 : Nat} {p0 : Pr} {pt : List Pr} (h : RdP W (some ⟨b3, o3, none⟩) (p0 :: pt)) (hn : pt.length + 1 = n1) (hc : n1 ≤ Pc) : RdP W (if Pc = 1 then some ⟨b3, o3, none⟩ else some ⟨b3, o3 + 3, none⟩) pt := fun h0 => by
  have hp : Pc ≠ 1 := by omega
  rw [if_neg hp]
  obtain ⟨b, off, e, hlt, hc⟩ := h (by simp)
  cases e
  refine ⟨b3, o3 + 3, rfl, hlt, fun i hi j hj => ?_⟩
  have h1 := hc (i + 1) (by simpa using hi) j hj
  rw [show o3 + (i + 1) * 3 + j = o3 + 3 + i * 3 + j by omega] at h1
  exact h1
abbrev fN (p0 : Pr) (GI cI : Nat) (l : List Ins) : Pr := ⟨p0.params, p0.regs, some ⟨GI, 0, none⟩, cI, l⟩
abbrev gN (g : Pg) (GP cP : Nat) (l : List Pr) : Pg := ⟨some ⟨GP, 0, none⟩, cP, l, g.IA, g.Ic, g.is, g.TA, g.Tc, g.ts⟩
theorem gN_at {g : Pg} {W : World} {GP cP GI cI : Nat} {p0 : Pr} {pt : List Pr} {l : List Ins} (hps : g.ps = p0 :: pt) (hg : g.at W) (h1 : RdP W (some ⟨GP, 0, none⟩) (fN p0 GI cI l :: pt)) (h2 : RdI W (some ⟨GI, 0, none⟩) l) : (gN g GP cP (fN p0 GI cI l :: pt)).at W := ⟨h1, fun p hp => by
  rcases List.mem_cons.1 hp with rfl | hp
  · exact h2
  · exact hg.code p (by rw [hps]; exact List.mem_cons_of_mem _ hp), hg.is, hg.ts⟩
theorem gN_fit {g : Pg} {GP cP GI cI : Nat} {p0 : Pr} {pt : List Pr} {l : List Ins} (hps : g.ps = p0 :: pt) (hf : g.fit) (h1 : l.length ≤ 1000000) (h2 : ∀ x ∈ l, x.ok) : (gN g GP cP (fN p0 GI cI l :: pt)).fit := ⟨by have := hf.p; rw [hps] at this; exact this, fun p hp => by
  rcases List.mem_cons.1 hp with rfl | hp
  · exact h1
  · exact hf.c p (by rw [hps]; exact List.mem_cons_of_mem _ hp), hf.i, hf.t, hf.s, fun p hp => by
  rcases List.mem_cons.1 hp with rfl | hp
  · exact ⟨(hf.r p0 (by rw [hps]; exact List.mem_cons_self)).1, (hf.r p0 (by rw [hps]; exact List.mem_cons_self)).2.1, h2⟩
  · exact hf.r p (by rw [hps]; exact List.mem_cons_of_mem _ hp)⟩
set_option maxRecDepth 100000 in
set_option maxHeartbeats 16000000 in
theorem instrs_walk (g : Pg) (A : Option Addr) (c n : Nat) (l : List Ins) (w : World) (hg : g.at w) (og : g.ok) (hl : RdI w A l) (hn : l.length = n) (ol : ∀ x ∈ l, x.ok) (hs : SPC w) :
    Calls Tryd.prog 4 #[.agg g.vals, .slice A n c] w fun e w' => e = .returned (.bool true) ∧ Below w.heap.size w w' := by
  have HB := Lib.hid (below_new w (.cells g.vals 26))
  have HX := Lib.hid (BXG.new hg)
  have HG : Hid (∀ W, Below w.heap.size w W → g.at W) := Lib.hid (fun W hb => hg.below hb)
  have HL : Hid (∀ W, Below w.heap.size w W → RdI W A l) := Lib.hid (fun W hb => hl.below hb)
  have HS : Hid (∀ W, Below w.heap.size w W → SPC W) := Lib.hid (fun W hb => spc_below hs hb)
  have HL1 : Hid (∀ W, Below w.heap.size w W → Calls Tryd.prog 6 #[.agg g.vals] W fun e w' => (∃ b, e = .returned (.bool b) ∧ (b = false → g.few)) ∧ Below W.heap.size W w') := Lib.hid (fun W hb => large_any g W (HG.out W hb) og)
  have HK : Hid (∀ W, Below w.heap.size w W → Calls Tryd.prog 7 #[] W fun e w' => e = .returned (.bool true) ∧ Below W.heap.size W w') := Lib.hid (fun W hb => known_any W (spc_below hs hb))
  obtain ⟨n1, hn1⟩ : ∃ n, g.ps.length = n := ⟨_, rfl⟩
  have HN1 := Lib.hid hn1
  have HN := Lib.hid hn
  have HOG := Lib.hid og
  have HOL := Lib.hid ol
  clear hg og hl ol hs hn hn1
  go_enter Tryd.func4, Tryd.ntmps4
  go_upto_region 1 with (fail)
  generalize w.alloc _ = w1 at *
  have HW : Hid (∀ W, Below w1.heap.size w1 W → Below w.heap.size w W) := Lib.hid (fun W hb => HB.out.trans (hb.mono HB.out.size))
  have HCX : Hid (∀ W, Below w1.heap.size w1 W → W.cell? ⟨w.heap.size, 0, none⟩ = some (.slice g.PA n1 g.Pc) ∧ W.cell? ⟨w.heap.size, 1, none⟩ = some (.slice g.IA g.is.length g.Ic) ∧ W.cell? ⟨w.heap.size, 2, none⟩ = some (.slice g.TA g.ts.length g.Tc)) := Lib.hid (fun W hb => by have h := (HX.out.below hb).cells; rw [HN1.out] at h; exact h)
  obtain ⟨x0, x1, x2⟩ := HCX.out _ (Below.refl _ _)
  obtain ⟨v0, v1, v2, hv⟩ : ∃ v0 v1 v2, g.vals = #[v0, v1, v2] := ⟨_, _, _, rfl⟩
  have HLC := Lib.hid (HL1.out _ (HW.out _ (Below.refl _ _)))
  obtain ⟨ni, hV1⟩ : ∃ v, g.is.length = v := ⟨_, rfl⟩
  obtain ⟨nt, hV2⟩ : ∃ v, g.ts.length = v := ⟨_, rfl⟩
  have HLD : Hid (Calls Tryd.prog 6 #[.agg #[.slice g.PA n1 g.Pc, (.slice g.IA ni g.Ic), (.slice g.TA nt g.Tc)]] w1 fun e w' => (∃ b, e = .returned (.bool b) ∧ (b = false → g.few)) ∧ Below w1.heap.size w1 w') := Lib.hid (by rw [← hV1, ← hV2, ← HN1.out]; exact HLC.out)
  have HCY : Hid (∀ W, Below w1.heap.size w1 W → W.cell? ⟨w.heap.size, 0, none⟩ = some (.slice g.PA n1 g.Pc) ∧ W.cell? ⟨w.heap.size, 1, none⟩ = some (.slice g.IA ni g.Ic) ∧ W.cell? ⟨w.heap.size, 2, none⟩ = some (.slice g.TA nt g.Tc)) := Lib.hid (by rw [← hV1, ← hV2]; exact HCX.out)
  have HV := Lib.hid (And.intro hV1 hV2)
  clear x0 x1 x2 hv hV1 hV2 HLC HCX
  obtain ⟨x0, x1, x2⟩ := HCY.out _ (Below.refl _ _)
  go_wp2_with fail
  refine HLD.out.mono ?_
  rintro e w3 ⟨⟨b1, rfl, hf1⟩, hb3⟩
  have HF1 := Lib.hid hf1
  have HB3 := Lib.hid hb3
  clear hf1 hb3 x0 x1 x2 HLD HL1
  obtain ⟨x0, x1, x2⟩ := HCY.out _ HB3.out
  cases b1
  rotate_left
  · clear x0 x1 x2
    go_wp2_with fail
    refine (HK.out _ (HW.out _ HB3.out)).mono ?_
    rintro e w9 ⟨rfl, hb9⟩
    have HB9 := Lib.hid (HB3.out.trans (hb9.mono HB3.out.size))
    go_wp2_with fail
    go_ret
    exact ⟨rfl, HW.out _ HB9.out⟩
  have HFW : Hid g.few := Lib.hid (HF1.out (by first | trivial | rfl))
  clear HF1
  by_cases c1 : 40 < n
  · have d1 : decide ((40 : Int) < (n : Int)) = true := decide_eq_true (by omega)
    go_wp2_with fail
    refine (HK.out _ (HW.out _ HB3.out)).mono ?_
    rintro e w9 ⟨rfl, hb9⟩
    have HB9 := Lib.hid (HB3.out.trans (hb9.mono HB3.out.size))
    go_wp2_with fail
    go_ret
    exact ⟨rfl, HW.out _ HB9.out⟩
  have d1 : decide ((40 : Int) < (n : Int)) = false := decide_eq_false (by omega)
  by_cases c2 : n1 < 1
  · have d2 : decide ((n1 : Int) < 1) = true := decide_eq_true (by omega)
    go_wp2_with fail
    refine (HK.out _ (HW.out _ HB3.out)).mono ?_
    rintro e w9 ⟨rfl, hb9⟩
    have HB9 := Lib.hid (HB3.out.trans (hb9.mono HB3.out.size))
    go_wp2_with fail
    go_ret
    exact ⟨rfl, HW.out _ HB9.out⟩
  have d2 : decide ((n1 : Int) < 1) = false := decide_eq_false (by omega)
  have hka : 0 < g.ps.length := by rw [HN1.out]; omega
  obtain ⟨p0, pt, hps⟩ : ∃ p0 pt, g.ps = p0 :: pt := by
    rcases hh : g.ps with _ | ⟨p0, pt⟩
    · rw [hh] at hka; cases hka
    · exact ⟨p0, pt, rfl⟩
  obtain ⟨b3, o3, hA, hb3, u0, u1, u2⟩ := (HG.out w (Below.refl _ _)).ps.at hka
  have hg0 : g.ps[0] = p0 := by simp [hps]
  rw [hg0] at u0 u1 u2
  simp only [Nat.zero_mul, Nat.add_zero, Nat.zero_add] at u0 u1 u2
  obtain ⟨m, hm⟩ : ∃ m, p0.code.length = m := ⟨_, rfl⟩
  rw [hm] at u2
  have HP : Hid (∀ W, Below w1.heap.size w1 W → W.cell? ⟨b3, o3, none⟩ = some (.int .i64 p0.params) ∧ W.cell? ⟨b3, o3 + 1, none⟩ = some (.int .i64 p0.regs) ∧ W.cell? ⟨b3, o3 + 2, none⟩ = some (.slice p0.A m p0.cap)) := Lib.hid (fun W hb => ⟨((HW.out W hb).cell (p := ⟨b3, o3, none⟩) hb3).trans u0, ((HW.out W hb).cell (p := ⟨b3, o3 + 1, none⟩) hb3).trans u1, ((HW.out W hb).cell (p := ⟨b3, o3 + 2, none⟩) hb3).trans u2⟩)
  have HPS := Lib.hid hps
  have HM := Lib.hid hm
  clear u0 u1 u2 hg0 hps hm hka
  rw [hA] at HCY x0
  obtain ⟨u0, u1, u2⟩ := HP.out _ HB3.out
  have i0 : (0 : Int) < (n1 : Int) := by omega
  have i1 : (0 : Int) ≤ 0 := by omega
  have i2 : 0 < n1 := by omega
  by_cases c3 : m < 1
  · have d3 : decide ((m : Int) < 1) = true := decide_eq_true (by omega)
    go_wp2_with fail
    refine (HK.out _ (HW.out _ HB3.out)).mono ?_
    rintro e w9 ⟨rfl, hb9⟩
    have HB9 := Lib.hid (HB3.out.trans (hb9.mono HB3.out.size))
    go_wp2_with fail
    go_ret
    exact ⟨rfl, HW.out _ HB9.out⟩
  have d3 : decide ((m : Int) < 1) = false := decide_eq_false (by omega)
  have HA := Lib.hid hA
  clear hA
  go_wp2_with fail
  clear x0 x1 x2 u0 u1 u2 d3 d2 d1
  obtain ⟨b5, o5, hE, hb5, -⟩ := (HG.out w (Below.refl _ _)).code p0 (by rw [HPS.out]; exact List.mem_cons_self) (by rw [HM.out]; omega)
  rw [hE] at HP
  have HC0 : Hid (∀ W, Below w.heap.size w W → RdI W (some ⟨b5, o5, none⟩) p0.code) := Lib.hid (fun W hb => by rw [← hE]; exact (HG.out W hb).code p0 (by rw [HPS.out]; exact List.mem_cons_self))
  have HM2 : Hid (p0.code.length ≤ 1000000) := Lib.hid (by have := HFW.out.c p0 (by rw [HPS.out]; exact List.mem_cons_self); omega)
  have HE := Lib.hid hE
  have hpn : pt.length + 1 = n1 := by have := HN1.out; rw [HPS.out] at this; simpa using this
  have hpc : n1 ≤ g.Pc := by have := HOG.out.pl; rw [HN1.out] at this; exact this
  obtain ⟨AD, hAD⟩ : ∃ AD, (if g.Pc = 1 then some (⟨b3, o3, none⟩ : Addr) else some ⟨b3, o3 + 3, none⟩) = some AD := by split <;> exact ⟨_, rfl⟩
  have HRT : Hid (∀ W, Below w.heap.size w W → RdP W (some AD) pt) := Lib.hid (fun W hb => by
    have h := (HG.out W hb).ps
    rw [HA.out, HPS.out] at h
    exact hAD ▸ rdP_tail h hpn hpc)
  have HPN := Lib.hid hpn
  have HPM : Hid (pt.length = n1 - 1) := Lib.hid (by omega)
  have HPL : Hid (pt.length ≤ 1000000) := Lib.hid (by have := HFW.out.p; rw [HPS.out] at this; simp at this; omega)
  have HPC := Lib.hid hpc
  have HAD := Lib.hid hAD
  clear hE hpn hpc hAD
  go_loopw [5] (fun i wr => ∃ k : Nat, k ≤ n ∧ i = .int .i64 k ∧ Hid (Below w1.heap.size w1 wr)) (fun i _ => n - (intOf i).toNat)
  case atStart => exact ⟨0, Nat.zero_le _, rfl, HB3⟩
  case round =>
    clear HB3
    obtain ⟨k, hk, rfl, HBL⟩ := hrel
    by_cases hlt : k < n
    rotate_left
    · have d1 : decide (k < n) = false := decide_eq_false hlt
      have d2 : decide ((k : Int) < (n : Int)) = false := decide_eq_false (by omega)
      go_wp2_with fail
      refine (HK.out _ (HW.out _ HBL.out)).mono ?_
      rintro e w9 ⟨rfl, hb9⟩
      have HB9 := Lib.hid (HBL.out.trans (hb9.mono HBL.out.size))
      go_wp2_with fail
      go_ret
      exact ⟨rfl, HW.out _ HB9.out⟩
    have d1 : decide (k < n) = true := decide_eq_true hlt
    have hk0 : (0 : Int) ≤ (k : Int) := by omega
    have hkl : (k : Int) < (n : Int) := by omega
    have hkn : k < l.length := by rw [HN.out]; exact hlt
    obtain ⟨b4, o4, hC, hb4, -⟩ := (HL.out w (Below.refl _ _)).at hkn
    have HY : Hid (∀ W, Below w.heap.size w W → W.cell? ⟨b4, o4 + k * 4, none⟩ = some (.int .i64 l[k].op) ∧ W.cell? ⟨b4, o4 + k * 4 + 1, none⟩ = some (.int .i64 l[k].a) ∧ W.cell? ⟨b4, o4 + k * 4 + 2, none⟩ = some (.int .i64 l[k].b) ∧ W.cell? ⟨b4, o4 + k * 4 + 3, none⟩ = some (.int .i64 l[k].c)) := Lib.hid (fun W hb => by
      obtain ⟨b, o, h1, -, h2⟩ := (HL.out W hb).at hkn
      rw [hC] at h1
      cases h1
      exact h2)
    obtain ⟨x, hx⟩ : ∃ x, l[k] = x := ⟨_, rfl⟩
    have HXM : Hid (x.ok) := Lib.hid (hx ▸ HOL.out _ (List.getElem_mem hkn))
    rw [hx] at HY
    rw [hC]
    have HCA := Lib.hid hC
    clear hC hx hkn hb4
    obtain ⟨x0, x1, x2⟩ := HCY.out _ HBL.out
    obtain ⟨u0, u1, u2⟩ := HP.out _ HBL.out
    have hF6 := heap_alloc_new wr (.cells #[.int .i64 p0.params, .int .i64 p0.regs, .slice (some ⟨b5, o5, none⟩) m p0.cap] 34)
    have HB6 : Hid (Below w1.heap.size w1 (wr.alloc (.cells #[.int .i64 p0.params, .int .i64 p0.regs, .slice (some ⟨b5, o5, none⟩) m p0.cap] 34))) := Lib.hid (HBL.out.trans ((below_new wr _).mono HBL.out.size))
    have hz6 : (wr.alloc (.cells #[.int .i64 p0.params, .int .i64 p0.regs, .slice (some ⟨b5, o5, none⟩) m p0.cap] 34)).heap.size = wr.heap.size + 1 := by simp
    have hzr := HBL.out.size
    have HF6 := Lib.hid hF6
    have HZ6 := Lib.hid hz6
    have HZR := Lib.hid hzr
    clear hF6 hz6 hzr
    go_upto_region 7 with (fail)
    generalize wr.alloc _ = w6 at *
    generalize wr.heap.size = Bf at *
    clear x0 x1 x2 u0 u1 u2
    obtain ⟨y0, y1, y2, y3⟩ := HY.out _ (HW.out _ HB6.out)
    obtain ⟨f0, f1, f2⟩ := cell3 HF6.out
    have HW7 : Hid ((w6.alloc (.cells x.vals 37)).drew.heap[w6.heap.size]? = some (.cells x.vals 37 (0, 0))) := Lib.hid (heap_alloc_new w6 _)
    have HB7 : Hid (Below w1.heap.size w1 (w6.alloc (.cells x.vals 37)).drew) := Lib.hid ((HB6.out.trans ((below_new w6 _).mono HB6.out.size)).drew)
    have HR7 := Lib.hid (HC0.out _ (HW.out _ HB7.out))
    have HG7 : Hid ((w6.alloc (.cells x.vals 37)).drew.heap[Bf]? = some (.cells #[.int .i64 p0.params, .int .i64 p0.regs, .slice (some ⟨b5, o5, none⟩) m p0.cap] 34 (0, 0))) := Lib.hid (((below_new w6 _).block _ (Array.getElem?_eq_some_iff.1 HF6.out).1).trans HF6.out)
    have hlt6 : Bf < w6.heap.size := by have := HZ6.out; omega
    go_cut [] from 42 to 50 (fun wx => ∃ GI cI : Nat, Hid (Below w1.heap.size w1 wx) ∧ Hid (wx.heap[Bf]? = some (.cells #[.int .i64 p0.params, .int .i64 p0.regs, .slice (some ⟨GI, 0, none⟩) (m + 1) cI] 34 (0, 0))) ∧ Hid (RdI wx (some ⟨GI, 0, none⟩) (x :: p0.code)) ∧ Hid (Bf < GI))
    case first =>
      go_region_law (refine step_ins (by rfl) (.tmp 46) (.tmp 48) (by rfl) w6.heap.size x (by rfl) HW7.out ⟨b5, o5, none⟩ m p0.cap p0.code HM.out (by rfl) HR7.out HM2.out ?_; intro v7 w7 h7; obtain ⟨GI, cI, rfl, hc1, hc2, hr7, hsv7, hgi⟩ := h7; have HSV7 := Lib.hid hsv7; have HR8 := Lib.hid hr7; have HCI := Lib.hid (And.intro hc1 hc2); have HGI := Lib.hid hgi; have hF7 := HSV7.out.heap (Nat.ne_of_lt hlt6) HG7.out; have HF7 := Lib.hid hF7; obtain ⟨f3, f4, f5⟩ := cell3 hF7; have hfr := frozen_of_row _ _ 2 _ _ hF7; clear hc1 hc2 hr7 hsv7 hgi hF7; rw [HM.out])
      all_goals (go_wp2_with fail; go_meet; obtain ⟨a1, a2, a3, a4⟩ := after_ins (v := .slice (some ⟨GI, 0, none⟩) (m + 1) cI) HF6.out HR8.out HSV7.out HGI.out; exact ⟨GI, cI, Lib.hid (HB6.out.trans (a1.below HZR.out HB6.out.size)), Lib.hid a2, Lib.hid a3, Lib.hid (Nat.lt_of_lt_of_le hlt6 a4)⟩)
    case rest =>
    obtain ⟨GI, cI, HB8, HF8, HI8, HGI⟩ := hcut
    obtain ⟨w8, hw8⟩ : ∃ w8, w8 = wc := ⟨_, rfl⟩
    subst hw8
    obtain ⟨x0, x1, x2⟩ := HCY.out _ HB8.out
    have HF9 : Hid ((w8.alloc (.cells #[.slice (some ⟨b3, o3, none⟩) n1 g.Pc, (.slice g.IA ni g.Ic), (.slice g.TA nt g.Tc)] 26)).heap[w8.heap.size]? = some (.cells #[.slice (some ⟨b3, o3, none⟩) n1 g.Pc, (.slice g.IA ni g.Ic), (.slice g.TA nt g.Tc)] 26 (0, 0))) := Lib.hid (heap_alloc_new w8 _)
    have HB9 := Lib.hid (HB8.out.trans ((below_new w8 (.cells #[.slice (some ⟨b3, o3, none⟩) n1 g.Pc, (.slice g.IA ni g.Ic), (.slice g.TA nt g.Tc)] 26)).mono HB8.out.size))
    have HS9 : Hid (∀ b, Sv b w8 (w8.alloc (.cells #[.slice (some ⟨b3, o3, none⟩) n1 g.Pc, (.slice g.IA ni g.Ic), (.slice g.TA nt g.Tc)] 26))) := Lib.hid (fun b => Sv.of_below (below_new w8 _) (Nat.le_refl _))
    have hz9 : (w8.alloc (.cells #[.slice (some ⟨b3, o3, none⟩) n1 g.Pc, (.slice g.IA ni g.Ic), (.slice g.TA nt g.Tc)] 26)).heap.size = w8.heap.size + 1 := by simp
    have HZ9 := Lib.hid hz9
    clear hz9
    go_upto_region 9 with (fail)
    generalize w8.alloc _ = w9 at *
    have HBq := Lib.hid (Array.getElem?_eq_some_iff.1 HF8.out).1
    have HGq := Lib.hid (block_lt8 HI8.out)
    have HF9b := Lib.hid ((HS9.out (w8.heap.size)).heap (Nat.ne_of_lt HBq.out) HF8.out)
    have HI9 := Lib.hid (HI8.out.sv (Nat.ne_of_lt HGq.out) (HS9.out _))
    have HZQ := Lib.hid HB8.out.size
    generalize w8.heap.size = Bq at *
    clear x0 x1 x2
    obtain ⟨x0, x1, x2⟩ := HCY.out _ HB9.out
    obtain ⟨f0, f1, f2⟩ := cell3 HF9b.out
    obtain ⟨q0, q1, q2⟩ := cell3 HF9.out
    have hlt9 : Bq < w9.heap.size := by have := HZ9.out; omega
    have hltw : w.heap.size < w9.heap.size := block_lt x0
    have hl1 : (1 : Int) ≤ (n1 : Int) := by omega
    have hl2 : 1 ≤ n1 := by omega
    have hl3 := HPC.out
    have hl4 : 1 ≤ g.Pc := by omega
    have hAD := HAD.out
    have HW10 : Hid ((w9.alloc (.cells #[.int .i64 p0.params, .int .i64 p0.regs, .slice (some ⟨GI, 0, none⟩) (m + 1) cI] 34)).drew.heap[w9.heap.size]? = some (.cells (fN p0 GI cI (x :: p0.code)).vals 34 (0, 0))) := Lib.hid (by
      rw [show (fN p0 GI cI (x :: p0.code)).vals = #[.int .i64 p0.params, .int .i64 p0.regs, .slice (some ⟨GI, 0, none⟩) (m + 1) cI] by rw [← HM.out]; rfl]
      exact heap_alloc_new w9 _)
    have HB10 : Hid (Below w1.heap.size w1 (w9.alloc (.cells #[.int .i64 p0.params, .int .i64 p0.regs, .slice (some ⟨GI, 0, none⟩) (m + 1) cI] 34)).drew) := Lib.hid ((HB9.out.trans ((below_new w9 _).mono HB9.out.size)).drew)
    have HR10 := Lib.hid (HRT.out _ (HW.out _ HB10.out))
    have HQ10 : Hid ((w9.alloc (.cells #[.int .i64 p0.params, .int .i64 p0.regs, .slice (some ⟨GI, 0, none⟩) (m + 1) cI] 34)).drew.heap[Bq]? = some (.cells #[.slice (some ⟨b3, o3, none⟩) n1 g.Pc, .slice g.IA ni g.Ic, .slice g.TA nt g.Tc] 26 (0, 0))) := Lib.hid (((below_new w9 _).block _ (Array.getElem?_eq_some_iff.1 HF9.out).1).trans HF9.out)
    go_cut [] from 52 to 58 (fun wx => ∃ GP cP : Nat, Hid (Below w1.heap.size w1 wx) ∧ Hid (wx.heap[Bf]? = some (.cells #[.int .i64 p0.params, .int .i64 p0.regs, .slice (some ⟨GI, 0, none⟩) (m + 1) cI] 34 (0, 0))) ∧ Hid (wx.heap[Bq]? = some (.cells #[.slice (some ⟨GP, 0, none⟩) n1 cP, .slice g.IA ni g.Ic, .slice g.TA nt g.Tc] 26 (0, 0))) ∧ Hid (RdI wx (some ⟨GI, 0, none⟩) (x :: p0.code)) ∧ Hid (RdP wx (some ⟨GP, 0, none⟩) (fN p0 GI cI (x :: p0.code) :: pt)) ∧ Hid (Bq < GP))
    case first =>
      go_region_law (refine step_prs (by rfl) (.tmp 53) (.tmp 56) (by rfl) w9.heap.size (fN p0 GI cI (x :: p0.code)) (by rfl) HW10.out AD (n1 - 1) (g.Pc - 1) pt HPM.out (by rfl) HR10.out HPL.out ?_; intro v7 w7 h7; obtain ⟨GP, cP, rfl, hc1, hc2, hr7, hsv7, hgi⟩ := h7; have HSV7 := Lib.hid hsv7; have HR8 := Lib.hid hr7; have HGP := Lib.hid hgi; have hF7 := HSV7.out.heap (Nat.ne_of_lt hlt9) HQ10.out; have HF7 := Lib.hid hF7; obtain ⟨f3, f4, f5⟩ := cell3 hF7; have hfr := frozen_of_row _ _ 0 _ _ hF7; clear hc1 hc2 hr7 hsv7 hgi hF7; rw [HPN.out])
      all_goals (go_wp2_with fail; go_meet; obtain ⟨a1, a2, a3, a4⟩ := after_prs (v := .slice (some ⟨GP, 0, none⟩) n1 cP) HF9.out HR8.out HSV7.out HGP.out; exact ⟨GP, cP, Lib.hid (HB9.out.trans (a1.below HZQ.out HB9.out.size)), Lib.hid (a1.heap (Nat.ne_of_lt HBq.out) HF9b.out), Lib.hid a2, Lib.hid (HI9.out.sv (Nat.ne_of_lt HGq.out) a1), Lib.hid a3, Lib.hid (Nat.lt_of_lt_of_le hlt9 a4)⟩)
    case rest =>
    obtain ⟨GP, cP, HB11, HF11, HQ11, HI11, HP11, HGP⟩ := hcut
    obtain ⟨w11, hw11⟩ : ∃ w11, w11 = wc := ⟨_, rfl⟩
    subst hw11
    clear HB9 HF9 HS9 HZ9 HF9b HI9 x0 x1 x2 f0 f1 f2 q0 q1 q2 hlt9 hltw hAD HW10 HB10 HR10 HQ10
    obtain ⟨y0, y1, y2, y3⟩ := HY.out _ (HW.out _ HB11.out)
    obtain ⟨f0, f1, f2⟩ := cell3 HF11.out
    have hfr := frozen_of_row _ _ 2 _ _ HF11.out
    obtain ⟨x0, x1, x2⟩ := HCY.out _ HB11.out
    have hlt11 : Bf < w11.heap.size := block_lt f0
    have hltw : w.heap.size < w11.heap.size := block_lt x0
    have HPUT := Lib.hid (after_put (x := x) (v := .slice (some ⟨w11.heap.size, 0, none⟩) 1 1) HF11.out)
    have HGPl := Lib.hid (block_ltP HP11.out)
    have HGIl := Lib.hid (block_lt8 HI11.out)
    have HBql := Lib.hid (Array.getElem?_eq_some_iff.1 HQ11.out).1
    have HZ11 := Lib.hid (Nat.le_trans HZR.out (Nat.le_refl Bf))
    go_upto_region 11 with (fail)
    generalize (w11.setCell _ _).alloc _ = w12 at *
    have HS12 := Lib.hid HPUT.out.1
    have HF12 := Lib.hid HPUT.out.2.1
    have HX12 := Lib.hid HPUT.out.2.2
    have HB12 := Lib.hid (HB11.out.trans (HS12.out.below HZR.out HB11.out.size))
    have HBQ12 : Hid (Bf < Bq) := HBq
    have HQ12 := Lib.hid (HS12.out.heap (Nat.ne_of_gt HBq.out) HQ11.out)
    have HI12 := Lib.hid (HI11.out.sv (Nat.ne_of_gt HGI.out) HS12.out)
    have HP12 := Lib.hid (HP11.out.sv (Nat.ne_of_gt (Nat.lt_trans HBq.out HGP.out)) HS12.out)
    have HL12 := Lib.hid HS12.out.size
    generalize w11.heap.size = Bx at *
    clear HPUT y0 y1 y2 y3 f0 f1 f2 hfr x0 x1 x2 hlt11 hltw HF11 HQ11 HI11 HP11 HB11
    obtain ⟨x0, x1, x2⟩ := HCY.out _ HB12.out
    have HF13 : Hid ((w12.alloc (.cells #[.slice (some ⟨b3, o3, none⟩) n1 g.Pc, .slice g.IA ni g.Ic, .slice g.TA nt g.Tc] 26)).heap[w12.heap.size]? = some (.cells #[.slice (some ⟨b3, o3, none⟩) n1 g.Pc, .slice g.IA ni g.Ic, .slice g.TA nt g.Tc] 26 (0, 0))) := Lib.hid (heap_alloc_new w12 _)
    have HB13 := Lib.hid (HB12.out.trans ((below_new w12 (.cells #[.slice (some ⟨b3, o3, none⟩) n1 g.Pc, .slice g.IA ni g.Ic, .slice g.TA nt g.Tc] 26)).mono HB12.out.size))
    have HS13 : Hid (∀ b, Sv b w12 (w12.alloc (.cells #[.slice (some ⟨b3, o3, none⟩) n1 g.Pc, .slice g.IA ni g.Ic, .slice g.TA nt g.Tc] 26))) := Lib.hid (fun b => Sv.of_below (below_new w12 _) (Nat.le_refl _))
    have hz13 : (w12.alloc (.cells #[.slice (some ⟨b3, o3, none⟩) n1 g.Pc, .slice g.IA ni g.Ic, .slice g.TA nt g.Tc] 26)).heap.size = w12.heap.size + 1 := by simp
    have HZ13 := Lib.hid hz13
    have HXl := Lib.hid (block_lt8 HX12.out)
    clear hz13
    go_upto_region 12 with (fail)
    generalize w12.alloc _ = w13 at *
    have HF13b := Lib.hid ((HS13.out (w12.heap.size)).heap (Nat.ne_of_lt (Array.getElem?_eq_some_iff.1 HF12.out).1) HF12.out)
    have HQ13 := Lib.hid ((HS13.out (w12.heap.size)).heap (Nat.ne_of_lt (Array.getElem?_eq_some_iff.1 HQ12.out).1) HQ12.out)
    have HI13 := Lib.hid (HI12.out.sv (Nat.ne_of_lt (block_lt8 HI12.out)) (HS13.out _))
    have HX13 := Lib.hid (HX12.out.sv (Nat.ne_of_lt (block_lt8 HX12.out)) (HS13.out _))
    have HP13 := Lib.hid (HP12.out.sv (Nat.ne_of_lt (block_ltP HP12.out)) (HS13.out _))
    have HIl := Lib.hid (Nat.ne_of_lt (block_lt8 HI12.out))
    have HPl := Lib.hid (Nat.ne_of_lt (block_ltP HP12.out))
    have HXm := Lib.hid (Nat.ne_of_lt (block_lt8 HX12.out))
    have HQl := Lib.hid (Nat.ne_of_lt (Array.getElem?_eq_some_iff.1 HQ12.out).1)
    have HZO := Lib.hid HB12.out.size
    generalize w12.heap.size = Bo at *
    clear x0 x1 x2
    obtain ⟨x0, x1, x2⟩ := HCY.out _ HB13.out
    obtain ⟨f0, f1, f2⟩ := cell3 HF13b.out
    obtain ⟨q0, q1, q2⟩ := cell3 HF13.out
    have hlt13 : Bo < w13.heap.size := by have := HZ13.out; omega
    have hltw : w.heap.size < w13.heap.size := block_lt x0
    have hAD := HAD.out
    have HW14 : Hid ((w13.alloc (.cells #[.int .i64 p0.params, .int .i64 p0.regs, .slice (some ⟨Bx, 0, none⟩) 1 1] 34)).drew.heap[w13.heap.size]? = some (.cells (fN p0 Bx 1 [x]).vals 34 (0, 0))) := Lib.hid (heap_alloc_new w13 _)
    have HB14 : Hid (Below w1.heap.size w1 (w13.alloc (.cells #[.int .i64 p0.params, .int .i64 p0.regs, .slice (some ⟨Bx, 0, none⟩) 1 1] 34)).drew) := Lib.hid ((HB13.out.trans ((below_new w13 _).mono HB13.out.size)).drew)
    have HR14 := Lib.hid (HRT.out _ (HW.out _ HB14.out))
    have HQ14 : Hid ((w13.alloc (.cells #[.int .i64 p0.params, .int .i64 p0.regs, .slice (some ⟨Bx, 0, none⟩) 1 1] 34)).drew.heap[Bo]? = some (.cells #[.slice (some ⟨b3, o3, none⟩) n1 g.Pc, .slice g.IA ni g.Ic, .slice g.TA nt g.Tc] 26 (0, 0))) := Lib.hid (((below_new w13 _).block _ (Array.getElem?_eq_some_iff.1 HF13.out).1).trans HF13.out)
    go_cut [] from 66 to 72 (fun wx => ∃ GH cH : Nat, Hid (Below w1.heap.size w1 wx) ∧ Hid (wx.heap[Bq]? = some (.cells #[.slice (some ⟨GP, 0, none⟩) n1 cP, .slice g.IA ni g.Ic, .slice g.TA nt g.Tc] 26 (0, 0))) ∧ Hid (wx.heap[Bo]? = some (.cells #[.slice (some ⟨GH, 0, none⟩) n1 cH, .slice g.IA ni g.Ic, .slice g.TA nt g.Tc] 26 (0, 0))) ∧ Hid (RdI wx (some ⟨GI, 0, none⟩) (x :: p0.code)) ∧ Hid (RdP wx (some ⟨GP, 0, none⟩) (fN p0 GI cI (x :: p0.code) :: pt)) ∧ Hid (RdI wx (some ⟨Bx, 0, none⟩) [x]) ∧ Hid (RdP wx (some ⟨GH, 0, none⟩) (fN p0 Bx 1 [x] :: pt)))
    case first =>
      go_region_law (refine step_prs (by rfl) (.tmp 67) (.tmp 70) (by rfl) w13.heap.size (fN p0 Bx 1 [x]) (by rfl) HW14.out AD (n1 - 1) (g.Pc - 1) pt HPM.out (by rfl) HR14.out HPL.out ?_; intro v7 w7 h7; obtain ⟨GH, cH, rfl, hc1, hc2, hr7, hsv7, hgi⟩ := h7; have HSV7 := Lib.hid hsv7; have HR8 := Lib.hid hr7; have HGH := Lib.hid hgi; have hF7 := HSV7.out.heap (Nat.ne_of_lt hlt13) HQ14.out; have HF7 := Lib.hid hF7; obtain ⟨f3, f4, f5⟩ := cell3 hF7; have hfr := frozen_of_row _ _ 0 _ _ hF7; clear hc1 hc2 hr7 hsv7 hgi hF7; rw [HPN.out])
      all_goals (go_wp2_with fail; go_meet; obtain ⟨a1, a2, a3, a4⟩ := after_prs (v := .slice (some ⟨GH, 0, none⟩) n1 cH) HF13.out HR8.out HSV7.out HGH.out; exact ⟨GH, cH, Lib.hid (HB13.out.trans (a1.below HZO.out HB13.out.size)), Lib.hid (a1.heap HQl.out HQ13.out), Lib.hid a2, Lib.hid (HI13.out.sv HIl.out a1), Lib.hid (HP13.out.sv HPl.out a1), Lib.hid (HX13.out.sv HXm.out a1), Lib.hid a3⟩)
    case rest =>
    obtain ⟨GH, cH, HB15, HQ15, HO15, HI15, HP15, HX15, HH15⟩ := hcut
    obtain ⟨w15, hw15⟩ : ∃ w15, w15 = wc := ⟨_, rfl⟩
    subst hw15
    clear x0 x1 x2 f0 f1 f2 q0 q1 q2 hlt13 hltw hAD HF13 HB13 HS13 HZ13 HXl HF13b HQ13 HI13 HX13 HP13 HIl HPl HXm HQl HZO HW14 HB14 HR14 HQ14 HS12 HF12 HX12 HB12 HBQ12 HQ12 HI12 HP12 HL12 HGPl HGIl HBql HZ11
    have HGN := Lib.hid (gN_at HPS.out (HG.out _ (HW.out _ HB15.out)) HP15.out HI15.out (cP := cP))
    have HGO := Lib.hid (gN_at HPS.out (HG.out _ (HW.out _ HB15.out)) HH15.out HX15.out (cP := cH))
    have HFN := Lib.hid (gN_fit (GP := GP) (cP := cP) (GI := GI) (cI := cI) (l := x :: p0.code) HPS.out (HFW.out.fit HOG.out) (by have := HFW.out.c p0 (by rw [HPS.out]; exact List.mem_cons_self); simp; omega) (fun y hy => by
      rcases List.mem_cons.1 hy with rfl | hy
      · exact HXM.out
      · exact (HOG.out.po p0 (by rw [HPS.out]; exact List.mem_cons_self)).ins y hy))
    have HFO := Lib.hid (gN_fit (GP := GH) (cP := cH) (GI := Bx) (cI := 1) (l := [x]) HPS.out (HFW.out.fit HOG.out) (by simp) (fun y hy => by
      rw [List.mem_singleton.1 hy]
      exact HXM.out))
    have hvq : (gN g GP cP (fN p0 GI cI (x :: p0.code) :: pt)).vals = #[.slice (some ⟨GP, 0, none⟩) n1 cP, .slice g.IA ni g.Ic, .slice g.TA nt g.Tc] := by
      rw [← HPN.out, ← HV.out.1, ← HV.out.2]
      rfl
    have hvo : (gN g GH cH (fN p0 Bx 1 [x] :: pt)).vals = #[.slice (some ⟨GH, 0, none⟩) n1 cH, .slice g.IA ni g.Ic, .slice g.TA nt g.Tc] := by
      rw [← HPN.out, ← HV.out.1, ← HV.out.2]
      rfl
    obtain ⟨z1, hz1⟩ : ∃ z : Int, z = if checkB (gN g GP cP (fN p0 GI cI (x :: p0.code) :: pt)) then 0 else 2 := ⟨_, rfl⟩
    obtain ⟨z2, hz2⟩ : ∃ z : Int, z = if checkB (gN g GH cH (fN p0 Bx 1 [x] :: pt)) then 0 else 2 := ⟨_, rfl⟩
    have HC1 : Hid (∀ W, Below w15.heap.size w15 W → Calls Tryd.prog 8 #[.agg #[.slice (some ⟨GP, 0, none⟩) n1 cP, .slice g.IA ni g.Ic, .slice g.TA nt g.Tc]] W fun e w' => e = .returned (.int .i64 z1) ∧ Below W.heap.size W w') := Lib.hid (fun W hb => by
      rw [hz1, ← hvq]
      exact check_any _ W (HGN.out.below hb) HFN.out (HS.out _ (HW.out _ (HB15.out.trans (hb.mono HB15.out.size)))))
    have HC2 : Hid (∀ W, Below w15.heap.size w15 W → Calls Tryd.prog 9 #[.agg #[.slice (some ⟨GP, 0, none⟩) n1 cP, .slice g.IA ni g.Ic, .slice g.TA nt g.Tc]] W fun e w' => e = .returned (.bool (z1 == 0)) ∧ Below W.heap.size W w') := Lib.hid (fun W hb => by
      have h := rcheck_any _ W (HGN.out.below hb) HFN.out
      rw [hvq] at h
      rw [hz1]
      obtain ⟨t, ht⟩ : ∃ t, checkB (gN g GP cP (fN p0 GI cI (x :: p0.code) :: pt)) = t := ⟨_, rfl⟩
      rw [ht] at h ⊢
      cases t <;> exact h)
    have HC3 : Hid (∀ W, Below w15.heap.size w15 W → Calls Tryd.prog 8 #[.agg #[.slice (some ⟨GH, 0, none⟩) n1 cH, .slice g.IA ni g.Ic, .slice g.TA nt g.Tc]] W fun e w' => e = .returned (.int .i64 z2) ∧ Below W.heap.size W w') := Lib.hid (fun W hb => by
      rw [hz2, ← hvo]
      exact check_any _ W (HGO.out.below hb) HFO.out (HS.out _ (HW.out _ (HB15.out.trans (hb.mono HB15.out.size)))))
    have HC4 : Hid (∀ W, Below w15.heap.size w15 W → Calls Tryd.prog 9 #[.agg #[.slice (some ⟨GH, 0, none⟩) n1 cH, .slice g.IA ni g.Ic, .slice g.TA nt g.Tc]] W fun e w' => e = .returned (.bool (z2 == 0)) ∧ Below W.heap.size W w') := Lib.hid (fun W hb => by
      have h := rcheck_any _ W (HGO.out.below hb) HFO.out
      rw [hvo] at h
      rw [hz2]
      obtain ⟨t, ht⟩ : ∃ t, checkB (gN g GH cH (fN p0 Bx 1 [x] :: pt)) = t := ⟨_, rfl⟩
      rw [ht] at h ⊢
      cases t <;> exact h)
    have HCS : Hid (∀ W, Below w15.heap.size w15 W → W.cell? ⟨Bq, 0, none⟩ = some (.slice (some ⟨GP, 0, none⟩) n1 cP) ∧ W.cell? ⟨Bq, 1, none⟩ = some (.slice g.IA ni g.Ic) ∧ W.cell? ⟨Bq, 2, none⟩ = some (.slice g.TA nt g.Tc) ∧ W.cell? ⟨Bo, 0, none⟩ = some (.slice (some ⟨GH, 0, none⟩) n1 cH) ∧ W.cell? ⟨Bo, 1, none⟩ = some (.slice g.IA ni g.Ic) ∧ W.cell? ⟨Bo, 2, none⟩ = some (.slice g.TA nt g.Tc)) := Lib.hid (fun W hb => by
      obtain ⟨a0, a1, a2⟩ := cell3 ((hb.block _ (Array.getElem?_eq_some_iff.1 HQ15.out).1).trans HQ15.out)
      obtain ⟨b0, b1, b2⟩ := cell3 ((hb.block _ (Array.getElem?_eq_some_iff.1 HO15.out).1).trans HO15.out)
      exact ⟨a0, a1, a2, b0, b1, b2⟩)
    have HTR : Hid (∀ A B, Below w15.heap.size w15 A → Below A.heap.size A B → Below w15.heap.size w15 B) := Lib.hid (fun A B h k => h.trans (k.mono h.size))
    have HBD := Lib.hid ((Below.refl w15.heap.size w15).drew)
    have e1 : ((z1 == 0) != (z1 == 0)) = false := by simp
    have e2 : ((z2 == 0) != (z2 == 0)) = false := by simp
    clear hvq hvo hz1 hz2 HGN HGO HFN HFO HQ15 HO15 HI15 HP15 HX15 HH15
    obtain ⟨x0, x1, x2, x3, x4, x5⟩ := HCS.out _ (Below.refl _ _)
    go_wp2_with fail
    go_region_held3 (fun W => W.cell? ⟨Bq, 0, none⟩ = some (.slice (some ⟨GP, 0, none⟩) n1 cP) ∧ W.cell? ⟨Bq, 1, none⟩ = some (.slice g.IA ni g.Ic) ∧ W.cell? ⟨Bq, 2, none⟩ = some (.slice g.TA nt g.Tc) ∧ W.cell? ⟨Bo, 0, none⟩ = some (.slice (some ⟨GH, 0, none⟩) n1 cH) ∧ W.cell? ⟨Bo, 1, none⟩ = some (.slice g.IA ni g.Ic) ∧ W.cell? ⟨Bo, 2, none⟩ = some (.slice g.TA nt g.Tc))
      (first | assumption | (exact ⟨x0, x1, x2, x3, x4, x5⟩) | (exact ⟨y0, y1, y2, y3, y4, y5⟩) | go_keep | fail)
      (first
        | (go_at_call 8; with_reducible (refine (HC1.out _ HBD.out).mono ?_); rintro e w16 ⟨rfl, hb16⟩; have HB16 := Lib.hid (HTR.out _ _ HBD.out hb16); obtain ⟨y0, y1, y2, y3, y4, y5⟩ := HCS.out _ HB16.out; clear hb16)
        | (go_at_call 9; with_reducible (refine (HC2.out _ HB16.out).mono ?_); rintro e w17 ⟨rfl, hb17⟩; have HB17 := Lib.hid (HTR.out _ _ HB16.out hb17); obtain ⟨y0, y1, y2, y3, y4, y5⟩ := HCS.out _ HB17.out; clear hb17)
        | (go_at_call 8; with_reducible (refine (HC3.out _ HB17.out).mono ?_); rintro e w18 ⟨rfl, hb18⟩; have HB18 := Lib.hid (HTR.out _ _ HB17.out hb18); obtain ⟨y0, y1, y2, y3, y4, y5⟩ := HCS.out _ HB18.out; clear hb18)
        | (go_at_call 9; with_reducible (refine (HC4.out _ HB18.out).mono ?_); rintro e w19 ⟨rfl, hb19⟩; have HB19 := Lib.hid (HTR.out _ _ HB18.out hb19); obtain ⟨y0, y1, y2, y3, y4, y5⟩ := HCS.out _ HB19.out; clear hb19))
    go_wp2_with fail
    go_roundw
    case rel => exact ⟨k + 1, by omega, by go_num, Lib.hid (HB15.out.trans (HB19.out.mono HB15.out.size))⟩
    case measure => simp [intOf]; omega
end Go.Proofs.YtccofgdcpmplmaaDoor
