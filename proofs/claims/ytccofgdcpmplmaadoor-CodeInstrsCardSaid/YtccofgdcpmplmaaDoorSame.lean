/- Are two functions, two programs the same: the program's answer. -/
import Derived.Test.YtccofgdcpmplmaaDoorEqs
import Derived.Deep.CutRange
import Derived.Shelf.Abstract
namespace Go.Proofs.YtccofgdcpmplmaaDoor
open Go Go.RowKit Go.Shelf
/-- What of a function is compared. -/
def Pr.core (p : Pr) : Int × Int × List Ins := (p.params, p.regs, p.code)
theorem core_dec (p q : Pr) : decide (p.core = q.core) = (decide (p.params = q.params) && decide (p.regs = q.regs) && decide (p.code = q.code)) := by
  unfold Pr.core
  simp [Prod.ext_iff, Bool.and_assoc]
theorem int_eqs {a b : Int} (h : a = b) : (a == b) = true ∧ (a != b) = false := by subst h; simp
theorem int_nes {a b : Int} (h : a ≠ b) : (a == b) = false ∧ (a != b) = true := by simp [h]
theorem wrap_in {z : Int} (h : inI z) : IntKind.i64.wrap z = z := IntWalk.i64_in z (by unfold inI at h; omega)
set_option maxRecDepth 100000 in
set_option maxHeartbeats 4000000 in
theorem same1_any (p q : Pr) (w : World) (hp : RdI w p.A p.code) (hq : RdI w q.A q.code) (lp : p.code.length ≤ 1000000000000) (lq : q.code.length ≤ 1000000000000) :
    Calls Tryd.prog 20 #[.agg p.vals, .agg q.vals] w fun e w' => e = .returned (.bool (decide (p.core = q.core))) ∧ Below w.heap.size w w' := by
  have b1 := below_new w (.cells p.vals 34)
  have b2 := below_new (w.alloc (.cells p.vals 34)) (.cells q.vals 34)
  have s1 : (w.alloc (.cells p.vals 34)).heap.size = w.heap.size + 1 := by simp
  have b12 := b1.trans (b2.mono (by omega))
  have HB : Hid (Below w.heap.size w ((w.alloc (.cells p.vals 34)).alloc (.cells q.vals 34))) := Lib.hid b12
  have HE := Lib.hid (eqi_any p.A q.A p.cap q.cap p.code q.code _ (hp.below b12) (hq.below b12) lp lq)
  rw [core_dec]
  clear hp hq lp lq b1 b2 b12 s1
  by_cases h1 : p.params = q.params
  rotate_left
  · obtain ⟨e1, e2⟩ := int_nes h1
    have e3 : decide (p.params = q.params) = false := decide_eq_false h1
    clear h1
    go_enter Tryd.func20, Tryd.ntmps20
    go_wp2_with fail
    go_ret
    exact ⟨by rw [e3]; rfl, HB.out⟩
  obtain ⟨e1, e2⟩ := int_eqs h1
  have e3 : decide (p.params = q.params) = true := decide_eq_true h1
  clear h1
  by_cases h1 : p.regs = q.regs
  rotate_left
  · obtain ⟨f1, f2⟩ := int_nes h1
    have f3 : decide (p.regs = q.regs) = false := decide_eq_false h1
    clear h1
    go_enter Tryd.func20, Tryd.ntmps20
    go_wp2_with fail
    go_ret
    exact ⟨by rw [e3, f3]; rfl, HB.out⟩
  obtain ⟨f1, f2⟩ := int_eqs h1
  have f3 : decide (p.regs = q.regs) = true := decide_eq_true h1
  clear h1
  rw [e3, f3]
  generalize decide (p.code = q.code) = t at *
  go_enter Tryd.func20, Tryd.ntmps20
  go_wp2_with fail
  refine HE.out.mono ?_
  rintro e w2 ⟨rfl, hb⟩
  have HB2 := Lib.hid (HB.out.trans (hb.mono HB.out.size))
  clear hb
  go_wp2_with fail
  go_ret
  exact ⟨by simp, HB2.out⟩
theorem map_take_next {a b : List Pr} {k : Nat} (ha : k < a.length) (hb : k < b.length) (h : (a.map Pr.core).take k = (b.map Pr.core).take k) (he : a[k].core = b[k].core) : (a.map Pr.core).take (k + 1) = (b.map Pr.core).take (k + 1) :=
  take_eq_next (by simpa using ha) (by simpa using hb) h (by simpa using he)
def gPr (W : World) (l : List Pr) : Prop := ∀ p ∈ l, RdI W p.A p.code
theorem gPr.below {W W' : World} {l : List Pr} (h : gPr W l) (hb : Below W.heap.size W W') : gPr W' l := fun p hp => (h p hp).below hb
def smallP (l : List Pr) : Prop := ∀ p ∈ l, p.code.length ≤ 1000000000000
set_option maxRecDepth 100000 in
set_option maxHeartbeats 8000000 in
theorem eqf_any (A B : Option Addr) (c d : Nat) (a b : List Pr) (w : World) (ha : RdP w A a) (hb : RdP w B b) (ga : gPr w a) (gb : gPr w b) (sa : smallP a) (sb : smallP b) (la : a.length ≤ 1000000000000) (lb : b.length ≤ 1000000000000) :
    Calls Tryd.prog 22 #[.slice A a.length c, .slice B b.length d, .func (.func 20) #[] #[]] w fun e w' => e = .returned (.bool (decide (a.map Pr.core = b.map Pr.core))) ∧ Below w.heap.size w w' := by
  have HA := Lib.hid ha
  have HB := Lib.hid hb
  have HGA := Lib.hid ga
  have HGB := Lib.hid gb
  have HSA := Lib.hid sa
  have HSB := Lib.hid sb
  have en : ∀ args w, (callFunc 20 args).run Tryd.prog w = .ok (.enter 20 args) w := enters_of Tryd.func20 (by kernel_rfl) rfl
  clear ha hb ga gb sa sb
  go_enter Tryd.func22, Tryd.ntmps22
  by_cases hl : a.length = b.length
  rotate_left
  · have h1 : (a.length == b.length) = false := by simpa using hl
    have h2 : decide ((a.length : Int) = (b.length : Int)) = false := decide_eq_false (by omega)
    have h3 : decide (a.map Pr.core = b.map Pr.core) = false := decide_eq_false (fun e => hl (by simpa using congrArg List.length e))
    have HD := Lib.hid h3
    clear h3
    go_wp2_with fail
    go_ret
    exact ⟨by rw [HD.out]; rfl, Below.refl _ _⟩
  obtain ⟨n, hn⟩ : ∃ n, b.length = n := ⟨_, rfl⟩
  have HLA := Lib.hid (hl.trans hn)
  have HLB := Lib.hid hn
  rw [hl.trans hn, hn]
  rw [hl.trans hn] at la
  clear hl hn lb
  go_wp2_with fail
  go_loopw [17] (fun i wr => ∃ k : Nat, k ≤ n ∧ i = .int .i64 k ∧ Hid ((a.map Pr.core).take k = (b.map Pr.core).take k) ∧ Hid (Below w.heap.size w wr)) (fun i _ => n - (intOf i).toNat)
  case atStart => exact ⟨0, Nat.zero_le _, rfl, Lib.hid rfl, Lib.hid (Below.refl _ _)⟩
  case round =>
    obtain ⟨k, hk, rfl, HE, HBL⟩ := hrel
    by_cases hlt : k < n
    rotate_left
    · have d1 : decide (k < n) = false := decide_eq_false hlt
      have HD : Hid (decide (a.map Pr.core = b.map Pr.core) = true) := Lib.hid (decide_eq_true (by
        have h1 := HE.out
        rwa [List.take_of_length_le (by rw [List.length_map]; have := HLA.out; omega), List.take_of_length_le (by rw [List.length_map]; have := HLB.out; omega)] at h1))
      go_wp2_with fail
      go_ret
      exact ⟨by rw [HD.out]; rfl, HBL.out⟩
    have d1 : decide (k < n) = true := decide_eq_true hlt
    have hk0 : (0 : Int) ≤ (k : Int) := by omega
    have hkl : (k : Int) < (n : Int) := by omega
    have hka : k < a.length := by have := HLA.out; omega
    have hkb : k < b.length := by have := HLB.out; omega
    have HNX := Lib.hid (fun h : a[k].core = b[k].core => map_take_next hka hkb HE.out h)
    have HNE : Hid (a[k].core ≠ b[k].core → decide (a.map Pr.core = b.map Pr.core) = false) := Lib.hid (fun h => decide_eq_false (fun e => h (by
      have h1 : (a.map Pr.core)[k]? = (b.map Pr.core)[k]? := by rw [e]
      simpa [hka, hkb] using h1)))
    have HIA := Lib.hid (HGA.out _ (List.getElem_mem hka))
    have HIB := Lib.hid (HGB.out _ (List.getElem_mem hkb))
    have HLA2 := Lib.hid (HSA.out _ (List.getElem_mem hka))
    have HLB2 := Lib.hid (HSB.out _ (List.getElem_mem hkb))
    obtain ⟨p, hp⟩ : ∃ p, a[k] = p := ⟨_, rfl⟩
    obtain ⟨q, hq⟩ : ∃ p, b[k] = p := ⟨_, rfl⟩
    have b1 := below_new wr (.cells p.vals 34)
    have b2 := below_new (wr.alloc (.cells p.vals 34)) (.cells q.vals 34)
    have s1 : (wr.alloc (.cells p.vals 34)).heap.size = wr.heap.size + 1 := by simp
    have b12 := b1.trans (b2.mono (by omega))
    obtain ⟨b3, o3, hA, -, x0, x1, x2⟩ := (HA.out.below HBL.out).at hka
    obtain ⟨b4, o4, hB, -, y0, y1, y2⟩ := ((HB.out.below HBL.out).below b1).at hkb
    subst hA
    subst hB
    rw [hp] at x0 x1 x2 HNX HNE HIA HLA2
    rw [hq] at y0 y1 y2 HNX HNE HIB HLB2
    have HB2 : Hid (Below w.heap.size w ((wr.alloc (.cells p.vals 34)).alloc (.cells q.vals 34))) := Lib.hid (HBL.out.trans (b12.mono HBL.out.size))
    have HC := Lib.hid (same1_any p q _ (HIA.out.below HB2.out) (HIB.out.below HB2.out) HLA2.out HLB2.out)
    have h0 := heap_alloc_new wr (.cells p.vals 34)
    have h1 := heap_alloc_new (wr.alloc (.cells p.vals 34)) (.cells q.vals 34)
    rw [s1] at h1
    have h0' := (b2.block _ (by omega)).trans h0
    have HP : Hid (((wr.alloc (.cells p.vals 34)).alloc (.cells q.vals 34)).heap[wr.heap.size]? = some (.cells p.vals 34 (0, 0)) ∧ ((wr.alloc (.cells p.vals 34)).alloc (.cells q.vals 34)).heap[wr.heap.size + 1]? = some (.cells q.vals 34 (0, 0))) := Lib.hid ⟨h0', h1⟩
    clear hp hq hka hkb b1 b2 b12 s1 h0 h1 h0' HIA HIB HLA2 HLB2
    go_upto_region 7 with (fail)
    generalize (wr.alloc (.cells p.vals 34)).alloc (.cells q.vals 34) = W2 at *
    clear x0 x1 x2 y0 y1 y2
    generalize wr.heap.size = X at *
    have z0 : W2.cell? ⟨X, 0, none⟩ = some (.int .i64 p.params) := by simp only [World.cell?, HP.out.1]; rfl
    have z1 : W2.cell? ⟨X, 1, none⟩ = some (.int .i64 p.regs) := by simp only [World.cell?, HP.out.1]; rfl
    have z2 : W2.cell? ⟨X, 2, none⟩ = some (.slice p.A p.code.length p.cap) := by simp only [World.cell?, HP.out.1]; rfl
    have z3 : W2.cell? ⟨X + 1, 0, none⟩ = some (.int .i64 q.params) := by simp only [World.cell?, HP.out.2]; rfl
    have z4 : W2.cell? ⟨X + 1, 1, none⟩ = some (.int .i64 q.regs) := by simp only [World.cell?, HP.out.2]; rfl
    have z5 : W2.cell? ⟨X + 1, 2, none⟩ = some (.slice q.A q.code.length q.cap) := by simp only [World.cell?, HP.out.2]; rfl
    by_cases he : p.core = q.core
    · rw [decide_eq_true he] at HC
      have HN := Lib.hid (HNX.out he)
      clear he HNX HNE HP HBL
      go_wp2_with fail
      refine HC.out.mono ?_
      rintro e w6 ⟨rfl, hb6⟩
      have HB6 := Lib.hid (HB2.out.trans (hb6.mono HB2.out.size))
      clear hb6 HC HB2 z0 z1 z2 z3 z4 z5
      go_wp2_with fail
      go_roundw
      case rel => exact ⟨k + 1, by omega, by go_num, HN, HB6⟩
      case measure => simp [intOf]; omega
    · rw [decide_eq_false he] at HC
      have HD := Lib.hid (HNE.out he)
      clear he HNX HNE HP HBL
      go_wp2_with fail
      refine HC.out.mono ?_
      rintro e w6 ⟨rfl, hb6⟩
      have HB6 := Lib.hid (HB2.out.trans (hb6.mono HB2.out.size))
      clear hb6 HC HB2 z0 z1 z2 z3 z4 z5
      go_wp2_with fail
      go_ret
      exact ⟨by rw [HD.out]; rfl, HB6.out⟩
/-- Two programs are the same. -/
def sameG (g h : Pg) : Bool := decide (g.ps.map Pr.core = h.ps.map Pr.core) && decide (g.is = h.is) && decide (g.ts = h.ts)
/-- A program that is no greater than is asked. -/
structure Pg.small (g : Pg) : Prop where
  p : g.ps.length ≤ 1000000000000
  c : smallP g.ps
  i : g.is.length ≤ 1000000000000
  t : g.ts.length ≤ 1000000000000
theorem cell3 {W : World} {b : Nat} {u v x : Value} {t : TypeId} (h : W.heap[b]? = some (.cells #[u, v, x] t (0, 0))) : W.cell? ⟨b, 0, none⟩ = some u ∧ W.cell? ⟨b, 1, none⟩ = some v ∧ W.cell? ⟨b, 2, none⟩ = some x := by
  refine ⟨?_, ?_, ?_⟩ <;> (simp only [World.cell?, h]; rfl)
theorem two_boxes (w : World) (a b : Array Value) (t : TypeId) : ((w.alloc (.cells a t)).alloc (.cells b t)).heap[w.heap.size]? = some (.cells a t (0, 0)) ∧ ((w.alloc (.cells a t)).alloc (.cells b t)).heap[w.heap.size + 1]? = some (.cells b t (0, 0)) ∧ Below w.heap.size w ((w.alloc (.cells a t)).alloc (.cells b t)) := by
  have h1 := heap_alloc_new w (.cells a t)
  have h2 := heap_alloc_new (w.alloc (.cells a t)) (.cells b t)
  have b1 := below_new w (.cells a t)
  have b2 := below_new (w.alloc (.cells a t)) (.cells b t)
  have s1 : (w.alloc (.cells a t)).heap.size = w.heap.size + 1 := by simp
  rw [s1] at h2
  exact ⟨(b2.block _ (by omega)).trans h1, h2, b1.trans (b2.mono (by omega))⟩
set_option maxRecDepth 100000 in
set_option maxHeartbeats 8000000 in
theorem same_any (g h : Pg) (w : World) (hg : g.at w) (hh : h.at w) (sg : g.small) (sh : h.small) :
    Calls Tryd.prog 12 #[.agg g.vals, .agg h.vals] w fun e w' => e = .returned (.bool (sameG g h)) ∧ Below w.heap.size w w' := by
  obtain ⟨h1, h2, hb⟩ := two_boxes w g.vals h.vals 26
  have HB := Lib.hid hb
  have HX := Lib.hid (And.intro h1 h2)
  have HG := Lib.hid (hg.below hb)
  have HH := Lib.hid (hh.below hb)
  have SG := Lib.hid sg
  have SH := Lib.hid sh
  unfold sameG
  obtain ⟨ta, hta⟩ : ∃ t, decide (g.ps.map Pr.core = h.ps.map Pr.core) = t := ⟨_, rfl⟩
  obtain ⟨tb, htb⟩ : ∃ t, decide (g.is = h.is) = t := ⟨_, rfl⟩
  obtain ⟨tc, htc⟩ : ∃ t, decide (g.ts = h.ts) = t := ⟨_, rfl⟩
  rw [hta, htb, htc]
  have HTA := Lib.hid hta
  have HTB := Lib.hid htb
  have HTC := Lib.hid htc
  clear hg hh sg sh h1 h2 hb hta htb htc
  go_enter Tryd.func12, Tryd.ntmps12
  go_upto_region 2 with (fail)
  generalize (w.alloc (.cells g.vals 26)).alloc (.cells h.vals 26) = w1 at *
  obtain ⟨x0, x1, x2⟩ := cell3 HX.out.1
  obtain ⟨y0, y1, y2⟩ := cell3 HX.out.2
  have H1 := Lib.hid (eqf_any g.PA h.PA g.Pc h.Pc g.ps h.ps w1 HG.out.ps HH.out.ps HG.out.code HH.out.code SG.out.c SH.out.c SG.out.p SH.out.p)
  have H2 : Hid (∀ W, Below w1.heap.size w1 W → Calls Tryd.prog 23 #[g.v1, h.v1] W fun e w' => e = .returned (.bool tb) ∧ Below W.heap.size W w') := Lib.hid (fun W hb => by rw [← HTB.out]; exact eqz_any g.IA h.IA g.Ic h.Ic g.is h.is W (HG.out.is.below hb) (HH.out.is.below hb) SG.out.i SH.out.i)
  have H3 : Hid (∀ W, Below w1.heap.size w1 W → Calls Tryd.prog 24 #[g.v2, h.v2] W fun e w' => e = .returned (.bool tc) ∧ Below W.heap.size W w') := Lib.hid (fun W hb => by rw [← HTC.out]; exact eqs_any g.TA h.TA g.Tc h.Tc g.ts h.ts W (HG.out.ts.below hb) (HH.out.ts.below hb) SG.out.t SH.out.t)
  have HCX : Hid (∀ W, Below w1.heap.size w1 W → (W.cell? ⟨w.heap.size, 0, none⟩ = some g.v0 ∧ W.cell? ⟨w.heap.size, 1, none⟩ = some g.v1 ∧ W.cell? ⟨w.heap.size, 2, none⟩ = some g.v2) ∧ W.cell? ⟨w.heap.size + 1, 0, none⟩ = some h.v0 ∧ W.cell? ⟨w.heap.size + 1, 1, none⟩ = some h.v1 ∧ W.cell? ⟨w.heap.size + 1, 2, none⟩ = some h.v2) := Lib.hid (fun W hb => ⟨cell3 ((hb.block _ (Array.getElem?_eq_some_iff.1 HX.out.1).1).trans HX.out.1), cell3 ((hb.block _ (Array.getElem?_eq_some_iff.1 HX.out.2).1).trans HX.out.2)⟩)
  clear HX HG HH SG SH
  rw [HTA.out] at H1
  clear HTA HTB HTC
  go_wp2_with fail
  refine H1.out.mono ?_
  rintro e w2 ⟨rfl, hb2⟩
  have HB2 := Lib.hid hb2
  clear hb2 x0 x1 x2 y0 y1 y2 H1
  obtain ⟨⟨x0, x1, x2⟩, y0, y1, y2⟩ := HCX.out _ HB2.out
  cases ta with
  | false =>
    go_wp2_with fail
    go_ret
    exact ⟨rfl, HB.out.trans (HB2.out.mono HB.out.size)⟩
  | true =>
    go_wp2_with fail
    refine (H2.out _ HB2.out).mono ?_
    rintro e w3 ⟨rfl, hb3⟩
    have HB3 := Lib.hid (HB2.out.trans (hb3.mono HB2.out.size))
    clear hb3 x0 x1 x2 y0 y1 y2 H2
    obtain ⟨⟨x0, x1, x2⟩, y0, y1, y2⟩ := HCX.out _ HB3.out
    cases tb with
    | false =>
      go_wp2_with fail
      go_ret
      exact ⟨rfl, HB.out.trans (HB3.out.mono HB.out.size)⟩
    | true =>
      go_wp2_with fail
      refine (H3.out _ HB3.out).mono ?_
      rintro e w4 ⟨rfl, hb4⟩
      have HB4 := Lib.hid (HB3.out.trans (hb4.mono HB3.out.size))
      clear hb4
      go_wp2_with fail
      go_ret
      exact ⟨by cases tc <;> rfl, HB.out.trans (HB4.out.mono HB.out.size)⟩
end Go.Proofs.YtccofgdcpmplmaaDoor
