/- Regions whose calls make memory, whether a reply may be and its bytes, by the document. -/
import Derived.Deep.QuietTactic
import Derived.BigQuiet
import Derived.Test.YtglicojojpggmaaDoorOwn
import Derived.Test.YtglicojojpggmaaDoorRsA
import Derived.Test.YtglicojojpggmaaDoorCheck
import Derived.Test.YtglicojojpggmaaDoorEnc
import Derived.Test.YtglicojojpggmaaDoorRReq
namespace Go.Proofs.YtglicojojpggmaaDoor
open Go Go.RowKit
theorem Below.drewN' {B : Nat} {a w : World} (h : Below B a w) (n : Nat) : Below B a (w.drewN n) := ⟨h.os, h.tape, h.output, h.size, h.block⟩
/-- A world of a class. -/
structure InW (S : World → Prop) where
  w : World
  h : S w
theorem region_in {P : Program} {id : Nat} {Q : Exit → Act → World → Prop} {a : Act} {w : World} {l : List Oper} (S : World → Prop) (hm : P.follows .mixedOrders = true) (hB : Region.lexB .any l.toArray = true) (h0 : S w.drew)
    (h : wpQuiet P l.toArray (fun w' => ∃ x : InW S, w' = x.w) (fun a' => ∀ w', (∃ x : InW S, w' = x.w) → Q .normal a' w') l a) : (Code.region id l.toArray true).wp P Q a w :=
  wp_region_quiet (C := fun w' => ∃ x : InW S, w' = x.w) hm hB ⟨⟨_, h0⟩, rfl⟩ h
/-- It hands back this value, and a world of the class. -/
abbrev RetIn (S : World → Prop) (v : Value) : Ending → World → Prop := fun e w'' => e = .returned v ∧ ∃ y : InW S, w'' = y.w
/-- The worlds that grew out of this one. -/
abbrev Grown (w : World) : World → Prop := Below w.heap.size w
theorem ret_below {P : Program} {f : FuncId} {args : Array Value} {w0 : World} {x : InW (Grown w0)} {v : Value} (h : Calls P f args x.w fun e w' => e = .returned v ∧ Below x.w.heap.size x.w w') :
    Calls P f args x.w (RetIn (Grown w0) v) := h.mono fun _ w' ⟨a, b⟩ => ⟨a, ⟨w', x.h.trans (b.mono x.h.size)⟩, rfl⟩
theorem ret_same {P : Program} {f : FuncId} {args : Array Value} {w0 : World} {x : InW (Grown w0)} {v : Value} (h : Calls P f args x.w fun e w' => e = .returned v ∧ x.w = w') :
    Calls P f args x.w (RetIn (Grown w0) v) := h.mono fun _ _ ⟨a, b⟩ => ⟨a, x, b.symm⟩
theorem ret_drew {P : Program} {f : FuncId} {args : Array Value} {w0 : World} {x : InW (Grown w0)} {v : Value} (h : Calls P f args x.w fun e w' => e = .returned v ∧ ∃ n, w' = x.w.drewN n) :
    Calls P f args x.w (RetIn (Grown w0) v) := h.mono fun _ w' ⟨a, b⟩ => ⟨a, ⟨w', by obtain ⟨n, rfl⟩ := b; exact Below.drewN' x.h n⟩, rfl⟩
end Go.Proofs.YtglicojojpggmaaDoor
namespace Go.Proofs.YtglicojojpggmaaDoor
open Go Go.RowKit
/-- What 'Size' answers. -/
def SizeQ (w : World) (r : Rp) (i t : Nat) (e : Ending) (w' : World) : Prop := ∃ i' t' : Nat, e = .returned (.tuple #[.int .i64 i', .int .i64 t']) ∧ (i' ≤ 65536 ∧ t' ≤ 1048576 → i' = i + itN r ∧ t' = t + txN r) ∧ (i + itN r ≤ 65536 ∧ t + txN r ≤ 1048576 → i' = i + itN r ∧ t' = t + txN r) ∧ i' ≤ 65537 ∧ t' ≤ 1048577 ∧ Below w.heap.size w w'
def SizeC (h : Nat) : Prop := ∀ (r : Rp) (A : Option Addr) (c : Nat) (P : Nat → Prop) (i t : Nat) (w : World), hgt r ≤ h → RpK P w r A c → i ≤ 65536 → t ≤ 1048576 → Calls Tryd.prog 45 #[.agg (rpV r A c), .int .i64 i, .int .i64 t] w (SizeQ w r i t)
set_option maxRecDepth 100000 in
set_option maxHeartbeats 8000000 in
theorem Size_step (h : Nat) (IH : SizeC h) : SizeC (h + 1) := by
  intro r A c P i t w hh hk hi ht
  have HBX := Lib.hid (BX.new hk)
  have HH := Lib.hid (hgt_kids hh)
  have HIH := Lib.hid IH
  obtain ⟨_, _, _, _, f5, f6⟩ := hk.1
  have HTX := Lib.hid (txN_eq r)
  have HIX := Lib.hid (itN_eq r)
  clear hk hh IH
  go_enter Tryd.func45, Tryd.ntmps45
  go_upto_region 1 with (fail)
  generalize w.alloc (.cells (rpV r A c) 41) = W at *
  obtain ⟨v0, v1, v2, v3⟩ := HBX.out.rows
  have w1 : IntKind.i64.wrap (1048576 - (t : Int)) = 1048576 - (t : Int) := IntWalk.i64_in _ (by omega)
  by_cases h1 : 1048576 - t < r.text.size
  · have g1 : decide (1048576 - (t : Int) < (r.text.size : Int)) = true := decide_eq_true (by omega)
    have g2 : 1048576 - (t : Int) < (r.text.size : Int) := by omega
    have H1 := Lib.hid h1
    clear h1
    go_wp2_with fail
    go_ret2
    exact ⟨i, 1048577, rfl, fun h => absurd h.2 (by decide), fun h => by have := h.2; have := HTX.out; have := H1.out; omega, by omega, by omega, HBX.out.bel⟩
  have g1 : decide (1048576 - (t : Int) < (r.text.size : Int)) = false := decide_eq_false (by omega)
  have g2 : ¬ 1048576 - (t : Int) < (r.text.size : Int) := by omega
  obtain ⟨t1, ht1⟩ : ∃ t1 : Nat, t1 = t + r.text.size := ⟨_, rfl⟩
  have w2 : IntKind.i64.wrap ((t : Int) + (r.text.size : Int)) = (t1 : Int) := by rw [IntWalk.i64_in _ (by omega)]; omega
  have w2' : (t : Int) + (r.text.size : Int) = (t1 : Int) := by omega
  have ht1b : t1 ≤ 1048576 := by omega
  have HT1 := Lib.hid ht1
  have w3 : IntKind.i64.wrap (65536 - (i : Int)) = 65536 - (i : Int) := IntWalk.i64_in _ (by omega)
  clear h1 ht1
  by_cases h2 : 65536 - i < r.kids.length
  · have g3 : decide (65536 - (i : Int) < (r.kids.length : Int)) = true := decide_eq_true (by omega)
    have g4 : 65536 - (i : Int) < (r.kids.length : Int) := by omega
    have H2 := Lib.hid h2
    clear h2
    go_wp2_with fail
    go_ret2
    exact ⟨65537, t1, rfl, fun h => absurd h.1 (by decide), fun h => by have := h.1; have := HIX.out; have := H2.out; omega, by omega, by omega, HBX.out.bel⟩
  have g3 : decide (65536 - (i : Int) < (r.kids.length : Int)) = false := decide_eq_false (by omega)
  have g4 : ¬ 65536 - (i : Int) < (r.kids.length : Int) := by omega
  obtain ⟨i1, hi1⟩ : ∃ i1 : Nat, i1 = i + r.kids.length := ⟨_, rfl⟩
  have w4 : IntKind.i64.wrap ((i : Int) + (r.kids.length : Int)) = (i1 : Int) := by rw [IntWalk.i64_in _ (by omega)]; omega
  have w4' : (i : Int) + (r.kids.length : Int) = (i1 : Int) := by omega
  have hi1b : i1 ≤ 65536 := by omega
  have HI1 := Lib.hid hi1
  clear h2 hi1
  go_wp2_with fail
  clear w1 w2 w2' w3 w4 w4' g1 g2 g3 g4 v0 v1 v2 v3
  go_loopw [1, 2, 8] (fun a b j wr => ∃ (k i2 t2 : Nat), k ≤ r.kids.length ∧ j = .int .i64 k ∧ a = .int .i64 i2 ∧ b = .int .i64 t2 ∧ Hid (BX w wr r A c) ∧ i2 ≤ 65537 ∧ t2 ≤ 1048577 ∧ Hid (i2 ≤ 65536 ∧ t2 ≤ 1048576 → i2 = i1 + itNL (r.kids.take k) ∧ t2 = t1 + txNL (r.kids.take k)) ∧ Hid (i1 + itNL (r.kids.take k) ≤ 65536 ∧ t1 + txNL (r.kids.take k) ≤ 1048576 → i2 = i1 + itNL (r.kids.take k) ∧ t2 = t1 + txNL (r.kids.take k))) (fun _ _ j _ => r.kids.length - (intOf j).toNat)
  case atStart => exact ⟨0, i1, t1, Nat.zero_le _, rfl, rfl, rfl, HBX, by omega, by omega, Lib.hid (fun _ => by simp [itNL, txNL]), Lib.hid (fun _ => by simp [itNL, txNL])⟩
  case round =>
    clear HBX
    obtain ⟨k, i2, t2, hk, rfl, rfl, rfl, HB, hi2, ht2, HF, HG⟩ := hrel
    obtain ⟨v0, v1, v2, v3⟩ := HB.out.rows
    have HLI := Lib.hid (itNL_le r.kids k)
    have HLT := Lib.hid (txNL_le r.kids k)
    have hend : ¬ (k < r.kids.length ∧ i2 ≤ 65536 ∧ t2 ≤ 1048576) → (i2 ≤ 65536 ∧ t2 ≤ 1048576 → i2 = i + itN r ∧ t2 = t + txN r) ∧ (i + itN r ≤ 65536 ∧ t + txN r ≤ 1048576 → i2 = i + itN r ∧ t2 = t + txN r) := fun hc => by
      have e1 := HTX.out
      have e2 := HIX.out
      have e3 := HT1.out
      have e4 := HI1.out
      have e5 := HLI.out
      have e6 := HLT.out
      by_cases hl : k < r.kids.length
      · refine ⟨fun h => absurd ⟨hl, h⟩ hc, fun h => ?_⟩
        have h1 := HG.out ⟨by omega, by omega⟩
        exact absurd ⟨hl, by omega, by omega⟩ hc
      · obtain rfl : k = r.kids.length := by omega
        have f1 := HF.out
        have f2 := HG.out
        rw [List.take_length] at f1 f2
        exact ⟨fun h => by have := f1 h; omega, fun h => by have := f2 ⟨by omega, by omega⟩; omega⟩
    have HEND := Lib.hid hend
    clear hend
    by_cases hlt : k < r.kids.length
    · have hltz : (k : Int) < (r.kids.length : Int) := by omega
      by_cases h3 : i2 ≤ 65536
      · have g1 : decide ((i2 : Int) ≤ 65536) = true := decide_eq_true (by omega)
        by_cases h4 : t2 ≤ 1048576
        · have g2 : decide ((t2 : Int) ≤ 1048576) = true := decide_eq_true (by omega)
          obtain ⟨b, o, hA, hb, hp, ha⟩ := HB.out.ks.kid hlt
          obtain ⟨A1, c1, x0, x1, x2, x3, hk1⟩ := ha.row
          have hr : hgt r.kids[k] ≤ h := Nat.le_trans (hgt_kid (List.getElem_mem hlt)) HH.out
          have HC := Lib.hid (HIH.out r.kids[k] A1 c1 _ i2 t2 wr hr hk1 h3 h4)
          have HN1 : Hid (itNL (r.kids.take (k + 1)) = itNL (r.kids.take k) + itN r.kids[k]) := Lib.hid (itNL_next _ _ hlt)
          have HN2 : Hid (txNL (r.kids.take (k + 1)) = txNL (r.kids.take k) + txN r.kids[k]) := Lib.hid (txNL_next _ _ hlt)
          have HE := Lib.hid (HF.out ⟨h3, h4⟩)
          clear hr hk1 ha hp hb HF HG HEND HLI HLT
          subst hA
          generalize r.kids[k] = r1 at *
          go_wp2_with fail
          refine HC.out.mono ?_
          rintro e w1 ⟨i3, t3, rfl, q1, q2, q3, q4, hbel⟩
          have HB1 := Lib.hid (HB.out.next hbel)
          have HQ1 := Lib.hid q1
          have HQ2 := Lib.hid q2
          clear q1 q2 hbel HC x0 x1 x2 x3 v0 v1 v2 v3
          go_wp2_with fail
          go_roundw
          case rel => exact ⟨k + 1, i3, t3, by omega, by go_num, rfl, rfl, HB1, q3, q4, Lib.hid (fun h0 => by have := HQ1.out h0; rw [HN1.out, HN2.out]; have := HE.out; omega), Lib.hid (fun h0 => by rw [HN1.out, HN2.out] at *; have := HE.out; have := HQ2.out ⟨by omega, by omega⟩; omega)⟩
          case measure => simp [intOf]; omega
        · have g2 : decide ((t2 : Int) ≤ 1048576) = false := decide_eq_false (by omega)
          have HX := Lib.hid (HEND.out (fun h => h4 h.2.2))
          clear HF HG HEND h4
          go_wp2_with fail
          go_ret2
          exact ⟨i2, t2, rfl, HX.out.1, HX.out.2, hi2, ht2, HB.out.bel⟩
      · have g1 : decide ((i2 : Int) ≤ 65536) = false := decide_eq_false (by omega)
        have HX := Lib.hid (HEND.out (fun h => h3 h.2.1))
        clear HF HG HEND h3
        go_wp2_with fail
        go_ret2
        exact ⟨i2, t2, rfl, HX.out.1, HX.out.2, hi2, ht2, HB.out.bel⟩
    · have HX := Lib.hid (HEND.out (fun h => hlt h.1))
      obtain rfl : k = r.kids.length := by omega
      clear HF HG HEND
      go_wp2_with fail
      go_ret2
      exact ⟨i2, t2, rfl, HX.out.1, HX.out.2, hi2, ht2, HB.out.bel⟩
theorem Size_all : ∀ h, SizeC h
  | 0 => fun r A c P i t w hh => by
    cases r
    rw [hgt] at hh
    omega
  | h + 1 => Size_step h (Size_all h)
end Go.Proofs.YtglicojojpggmaaDoor
namespace Go.Proofs.YtglicojojpggmaaDoor
open Go Go.RowKit
set_option maxRecDepth 100000 in
set_option maxHeartbeats 4000000 in
theorem lined_any (t : ByteArray) (w : World) (ht : t.size ≤ 140737488355328) : Calls Tryd.prog 70 #[.string t] w fun e w' => e = .returned (.bool (lineB (bl t))) ∧ w' = w := by
  have HL := Lib.hid (bl_len t)
  go_enter Tryd.func70, Tryd.ntmps70
  go_wp2_with fail
  go_loop [3] (fun i => ∃ k : Nat, i = .int .i64 k ∧ k ≤ t.size ∧ Hid (lineB ((bl t).take k) = true)) (fun i => t.size - (intOf i).toNat)
  case atStart => exact ⟨0, rfl, Nat.zero_le _, rfl⟩
  case round =>
    obtain ⟨k, rfl, hk, HB⟩ := hrel
    by_cases hlt : k < t.size
    · have hkl : k < (bl t).length := by rw [HL.out]; exact hlt
      obtain ⟨x, hx⟩ : ∃ x, (bl t)[k] = x := ⟨_, rfl⟩
      have hb : t[k] = x := by rw [← hx]; rfl
      have HN := Lib.hid (lineB_next HB.out hkl)
      have HC := Lib.hid (lineB_cut HB.out hkl)
      rw [hx] at HN HC
      have hx8 := x.toNat_lt
      by_cases h13 : x.toNat = 13
      · have HF := Lib.hid (HC.out (by simp [plainB, h13]))
        have e1 : ((x.toNat : Int) == 13) = true := by simp; omega
        have e2 : decide ((x.toNat : Int) = 13) = true := decide_eq_true (by omega)
        have h0 := Lib.hid hb
        clear hx HN HC h13
        subst hb
        go_wp2_with fail
        go_ret
        exact ⟨by rw [HF.out]; rfl, rfl⟩
      · have e1 : ((x.toNat : Int) == 13) = false := by simp; omega
        have e2 : decide ((x.toNat : Int) = 13) = false := decide_eq_false (by omega)
        by_cases h10 : x.toNat = 10
        · have HF := Lib.hid (HC.out (by simp [plainB, h10]))
          have e3 : ((x.toNat : Int) == 10) = true := by simp; omega
          have e4 : decide ((x.toNat : Int) = 10) = true := decide_eq_true (by omega)
          clear hx HN HC h13 h10
          subst hb
          go_wp2_with fail
          go_ret
          exact ⟨by rw [HF.out]; rfl, rfl⟩
        · have HF := Lib.hid (HN.out (by simp [plainB, h13, h10]))
          have e3 : ((x.toNat : Int) == 10) = false := by simp; omega
          have e4 : decide ((x.toNat : Int) = 10) = false := decide_eq_false (by omega)
          clear hx HN HC h13 h10
          subst hb
          go_wp2_with fail
          go_round
          case rel => exact ⟨k + 1, by go_num, by omega, HF⟩
          case measure => simp [intOf]; omega
    · have HF : Hid (lineB (bl t) = true) := Lib.hid (by have h := HB.out; rw [List.take_of_length_le (by rw [HL.out]; omega)] at h; exact h)
      go_wp2_with fail
      go_ret
      exact ⟨by rw [HF.out]; rfl, rfl⟩
theorem lz1 {n : Nat} (h : n = 0) : ((n : Int) == 0) = true := by subst h; rfl
theorem lz2 {n : Nat} (h : n = 0) : (n == 0) = true := by subst h; rfl
theorem lz3 {n : Nat} (h : n ≠ 0) : ((n : Int) == 0) = false := by simp; omega
theorem lz4 {n : Nat} (h : n ≠ 0) : (n == 0) = false := by simpa using h
theorem text_some {t : ByteArray} (hs : t.size ≠ 0) : t.toList.isEmpty = false := by
  rw [Lib.toList_data]
  cases h : t.data.toList with
  | nil =>
    have h2 := bl_len t
    rw [bl, h] at h2
    exact absurd h2.symm hs
  | cons x l => rfl
mutual
/-- May a reply be, but for how many there are? -/
def fineF : Rp → Int → Bool
  | .mk k n t l, d => if k = 0 then decide (n = 0) && (decide (t.size = 0) && decide (l.length = 0))
    else if k = 1 ∨ k = 2 then decide (n = 0) && (lineB (bl t) && decide (l.length = 0))
    else if k = 3 then decide (t.size = 0) && decide (l.length = 0)
    else if k = 4 then decide (n = 0) && decide (l.length = 0)
    else if k = 5 then decide (n = 0) && (decide (t.size = 0) && (!decide (d = 0) && fineL l (d - 1)))
    else false
def fineL : List Rp → Int → Bool
  | [], _ => true
  | r :: l, d => fineF r d && fineL l d
end
theorem fine_eq (r : Rp) (d : Int) : fineF r d = if r.kind = 0 then decide (r.num = 0) && (decide (r.text.size = 0) && decide (r.kids.length = 0))
    else if r.kind = 1 ∨ r.kind = 2 then decide (r.num = 0) && (lineB (bl r.text) && decide (r.kids.length = 0))
    else if r.kind = 3 then decide (r.text.size = 0) && decide (r.kids.length = 0)
    else if r.kind = 4 then decide (r.num = 0) && decide (r.kids.length = 0)
    else if r.kind = 5 then decide (r.num = 0) && (decide (r.text.size = 0) && (!decide (d = 0) && fineL r.kids (d - 1)))
    else false := by
  cases r
  rw [fineF]
  rfl
theorem fineL_next : ∀ (l : List Rp) (d : Int) (k : Nat) (h : k < l.length), fineL (l.take (k + 1)) d = (fineL (l.take k) d && fineF l[k] d)
  | [], _, _, h => absurd h (by simp)
  | r :: l, d, 0, _ => by simp [fineL]
  | r :: l, d, k + 1, h => by
    have := fineL_next l d k (by simpa using h)
    rw [List.take_succ_cons, List.take_succ_cons, fineL, fineL, this]
    simp [Bool.and_assoc]
theorem fineL_cut : ∀ (l : List Rp) (d : Int) (k : Nat) (h : k < l.length), fineF l[k] d = false → fineL l d = false
  | [], _, _, h, _ => absurd h (by simp)
  | r :: l, d, 0, _, h => by
    have h' : fineF r d = false := h
    rw [fineL, h', Bool.false_and]
  | r :: l, d, k + 1, h, hf => by
    rw [fineL, fineL_cut l d k (by simpa using h) (by simpa using hf), Bool.and_false]
def FineC (h : Nat) : Prop := ∀ (r : Rp) (A : Option Addr) (c : Nat) (P : Nat → Prop) (d : Int) (w : World), hgt r ≤ h → RpK P w r A c → 0 ≤ d → d ≤ 1000 → Calls Tryd.prog 46 #[.agg (rpV r A c), .int .i64 d] w (SmQ w (fineF r d))
section
variable {r : Rp} {A : Option Addr} {c : Nat} {P : Nat → Prop} {d : Int} {w : World}
set_option maxRecDepth 100000 in
set_option maxHeartbeats 8000000 in
theorem fine_0 (hk0 : RpK P w r A c) (hk : r.kind = 0) : Calls Tryd.prog 46 #[.agg (rpV r A c), .int .i64 d] w (SmQ w (fineF r d)) := by
  have HBX := Lib.hid (BX.new hk0)
  obtain ⟨_, _, _, _, f5, f6⟩ := hk0.1
  have HFE := Lib.hid (fine_eq r d)
  rw [if_pos hk] at HFE
  have hK : r.kind = 0 := hk
  have a0 : (r.kind == 0) = true := by simpa using hk
  have b0 : decide (r.kind = 0) = true := decide_eq_true hk
  have m1 : r.kind ≠ 1 := by rw [hk]; decide
  have a1 : (r.kind == 1) = false := by simpa using m1
  have b1 : decide (r.kind = 1) = false := decide_eq_false m1
  have m2 : r.kind ≠ 2 := by rw [hk]; decide
  have a2 : (r.kind == 2) = false := by simpa using m2
  have b2 : decide (r.kind = 2) = false := decide_eq_false m2
  have m3 : r.kind ≠ 3 := by rw [hk]; decide
  have a3 : (r.kind == 3) = false := by simpa using m3
  have b3 : decide (r.kind = 3) = false := decide_eq_false m3
  have m4 : r.kind ≠ 4 := by rw [hk]; decide
  have a4 : (r.kind == 4) = false := by simpa using m4
  have b4 : decide (r.kind = 4) = false := decide_eq_false m4
  have m5 : r.kind ≠ 5 := by rw [hk]; decide
  have a5 : (r.kind == 5) = false := by simpa using m5
  have b5 : decide (r.kind = 5) = false := decide_eq_false m5
  clear hk0 hk hK m1 m2 m3 m4 m5
  go_enter Tryd.func46, Tryd.ntmps46
  go_upto_region 1 with (fail)
  generalize w.alloc (.cells (rpV r A c) 41) = W at *
  obtain ⟨v0, v1, v2, v3⟩ := HBX.out.rows
  by_cases hn : r.num = 0
  rotate_left
  · have en : (r.num == 0) = false := by simpa using hn
    have en2 : (r.num != 0) = true := by simpa using hn
    have dn : decide (r.num = 0) = false := decide_eq_false hn
    have HN0 := Lib.hid hn
    clear hn
    have HR : Hid (fineF r d = false) := Lib.hid (by rw [HFE.out, decide_eq_false HN0.out]; simp)
    go_wp2_with fail
    go_ret
    exact ⟨by rw [HR.out]; rfl, HBX.out.bel⟩
  have en : (r.num == 0) = true := by simpa using hn
  have en2 : (r.num != 0) = false := by simpa using hn
  have dn : decide (r.num = 0) = true := decide_eq_true hn
  have HN0 := Lib.hid hn
  clear hn
  by_cases hs : r.text.size = 0
  rotate_left
  · have tb2 : r.text.toList.isEmpty = false := text_some hs
    have HS0 := Lib.hid hs
    clear hs
    have HR : Hid (fineF r d = false) := Lib.hid (by rw [HFE.out, decide_eq_true HN0.out, decide_eq_false HS0.out]; simp)
    go_wp2_with fail
    go_ret
    exact ⟨by rw [HR.out]; rfl, HBX.out.bel⟩
  have tb : r.text.toList = [] := by rw [Lib.toList_data]; exact List.eq_nil_of_length_eq_zero (by rw [bl_len]; exact hs)
  have tb2 : r.text.toList.isEmpty = true := by rw [tb]; rfl
  have HS0 := Lib.hid hs
  clear hs
  by_cases hl : r.kids.length = 0
  rotate_left
  · have el := lz3 hl
    have el2 := lz4 hl
    have dl : decide (r.kids.length = 0) = false := decide_eq_false hl
    have dl2 : decide ((r.kids.length : Int) = 0) = false := decide_eq_false (by omega)
    have HL0 := Lib.hid hl
    clear hl
    have HR : Hid (fineF r d = false) := Lib.hid (by rw [HFE.out, decide_eq_true HN0.out, decide_eq_true HS0.out, decide_eq_false HL0.out]; simp)
    go_wp2_with fail
    go_ret
    exact ⟨by rw [HR.out]; rfl, HBX.out.bel⟩
  have el := lz1 hl
  have el2 := lz2 hl
  have dl : decide (r.kids.length = 0) = true := decide_eq_true hl
  have dl2 : decide ((r.kids.length : Int) = 0) = true := decide_eq_true (by omega)
  have HL0 := Lib.hid hl
  clear hl
  have HR : Hid (fineF r d = true) := Lib.hid (by rw [HFE.out, decide_eq_true HN0.out, decide_eq_true HS0.out, decide_eq_true HL0.out]; rfl)
  go_wp2_with fail
  go_ret
  exact ⟨by rw [HR.out]; rfl, HBX.out.bel⟩
set_option maxRecDepth 100000 in
set_option maxHeartbeats 8000000 in
theorem fine_1 (hk0 : RpK P w r A c) (hk : r.kind = 1) : Calls Tryd.prog 46 #[.agg (rpV r A c), .int .i64 d] w (SmQ w (fineF r d)) := by
  have HBX := Lib.hid (BX.new hk0)
  obtain ⟨_, _, _, _, f5, f6⟩ := hk0.1
  have HFE := Lib.hid (fine_eq r d)
  rw [if_neg (by rw [hk]; decide), if_pos (.inl hk)] at HFE
  have hK : r.kind = 1 := hk
  have m0 : r.kind ≠ 0 := by rw [hk]; decide
  have a0 : (r.kind == 0) = false := by simpa using m0
  have b0 : decide (r.kind = 0) = false := decide_eq_false m0
  have a1 : (r.kind == 1) = true := by simpa using hk
  have b1 : decide (r.kind = 1) = true := decide_eq_true hk
  have m2 : r.kind ≠ 2 := by rw [hk]; decide
  have a2 : (r.kind == 2) = false := by simpa using m2
  have b2 : decide (r.kind = 2) = false := decide_eq_false m2
  have m3 : r.kind ≠ 3 := by rw [hk]; decide
  have a3 : (r.kind == 3) = false := by simpa using m3
  have b3 : decide (r.kind = 3) = false := decide_eq_false m3
  have m4 : r.kind ≠ 4 := by rw [hk]; decide
  have a4 : (r.kind == 4) = false := by simpa using m4
  have b4 : decide (r.kind = 4) = false := decide_eq_false m4
  have m5 : r.kind ≠ 5 := by rw [hk]; decide
  have a5 : (r.kind == 5) = false := by simpa using m5
  have b5 : decide (r.kind = 5) = false := decide_eq_false m5
  clear hk0 hk hK m0 m2 m3 m4 m5
  go_enter Tryd.func46, Tryd.ntmps46
  go_upto_region 1 with (fail)
  generalize w.alloc (.cells (rpV r A c) 41) = W at *
  obtain ⟨v0, v1, v2, v3⟩ := HBX.out.rows
  by_cases hn : r.num = 0
  rotate_left
  · have en : (r.num == 0) = false := by simpa using hn
    have en2 : (r.num != 0) = true := by simpa using hn
    have dn : decide (r.num = 0) = false := decide_eq_false hn
    have HN0 := Lib.hid hn
    clear hn
    have HR : Hid (fineF r d = false) := Lib.hid (by rw [HFE.out, decide_eq_false HN0.out]; simp)
    go_wp2_with fail
    go_ret
    exact ⟨by rw [HR.out]; rfl, HBX.out.bel⟩
  have en : (r.num == 0) = true := by simpa using hn
  have en2 : (r.num != 0) = false := by simpa using hn
  have dn : decide (r.num = 0) = true := decide_eq_true hn
  have HN0 := Lib.hid hn
  clear hn
  have HLN := Lib.hid (lined_any r.text W f5)
  go_wp2_with fail
  refine HLN.out.mono ?_
  rintro e w1 ⟨rfl, rfl⟩
  clear HLN
  cases hb : lineB (bl r.text) with
  | false =>
    have HLB := Lib.hid hb
    have HR : Hid (fineF r d = false) := Lib.hid (by rw [HFE.out, decide_eq_true HN0.out, HLB.out]; rfl)
    clear hb
    go_wp2_with fail
    go_ret
    exact ⟨by rw [HR.out]; rfl, HBX.out.bel⟩
  | true =>
    have HLB := Lib.hid hb
    clear hb
    by_cases hl : r.kids.length = 0
    rotate_left
    · have el := lz3 hl
      have el2 := lz4 hl
      have dl : decide (r.kids.length = 0) = false := decide_eq_false hl
      have dl2 : decide ((r.kids.length : Int) = 0) = false := decide_eq_false (by omega)
      have HL0 := Lib.hid hl
      clear hl
      have HR : Hid (fineF r d = false) := Lib.hid (by rw [HFE.out, decide_eq_true HN0.out, HLB.out, decide_eq_false HL0.out]; simp)
      go_wp2_with fail
      go_ret
      exact ⟨by rw [HR.out]; rfl, HBX.out.bel⟩
    have el := lz1 hl
    have el2 := lz2 hl
    have dl : decide (r.kids.length = 0) = true := decide_eq_true hl
    have dl2 : decide ((r.kids.length : Int) = 0) = true := decide_eq_true (by omega)
    have HL0 := Lib.hid hl
    clear hl
    have HR : Hid (fineF r d = true) := Lib.hid (by rw [HFE.out, decide_eq_true HN0.out, HLB.out, decide_eq_true HL0.out]; rfl)
    go_wp2_with fail
    go_ret
    exact ⟨by rw [HR.out]; rfl, HBX.out.bel⟩
set_option maxRecDepth 100000 in
set_option maxHeartbeats 8000000 in
theorem fine_2 (hk0 : RpK P w r A c) (hk : r.kind = 2) : Calls Tryd.prog 46 #[.agg (rpV r A c), .int .i64 d] w (SmQ w (fineF r d)) := by
  have HBX := Lib.hid (BX.new hk0)
  obtain ⟨_, _, _, _, f5, f6⟩ := hk0.1
  have HFE := Lib.hid (fine_eq r d)
  rw [if_neg (by rw [hk]; decide), if_pos (.inr hk)] at HFE
  have hK : r.kind = 2 := hk
  have m0 : r.kind ≠ 0 := by rw [hk]; decide
  have a0 : (r.kind == 0) = false := by simpa using m0
  have b0 : decide (r.kind = 0) = false := decide_eq_false m0
  have m1 : r.kind ≠ 1 := by rw [hk]; decide
  have a1 : (r.kind == 1) = false := by simpa using m1
  have b1 : decide (r.kind = 1) = false := decide_eq_false m1
  have a2 : (r.kind == 2) = true := by simpa using hk
  have b2 : decide (r.kind = 2) = true := decide_eq_true hk
  have m3 : r.kind ≠ 3 := by rw [hk]; decide
  have a3 : (r.kind == 3) = false := by simpa using m3
  have b3 : decide (r.kind = 3) = false := decide_eq_false m3
  have m4 : r.kind ≠ 4 := by rw [hk]; decide
  have a4 : (r.kind == 4) = false := by simpa using m4
  have b4 : decide (r.kind = 4) = false := decide_eq_false m4
  have m5 : r.kind ≠ 5 := by rw [hk]; decide
  have a5 : (r.kind == 5) = false := by simpa using m5
  have b5 : decide (r.kind = 5) = false := decide_eq_false m5
  clear hk0 hk hK m0 m1 m3 m4 m5
  go_enter Tryd.func46, Tryd.ntmps46
  go_upto_region 1 with (fail)
  generalize w.alloc (.cells (rpV r A c) 41) = W at *
  obtain ⟨v0, v1, v2, v3⟩ := HBX.out.rows
  by_cases hn : r.num = 0
  rotate_left
  · have en : (r.num == 0) = false := by simpa using hn
    have en2 : (r.num != 0) = true := by simpa using hn
    have dn : decide (r.num = 0) = false := decide_eq_false hn
    have HN0 := Lib.hid hn
    clear hn
    have HR : Hid (fineF r d = false) := Lib.hid (by rw [HFE.out, decide_eq_false HN0.out]; simp)
    go_wp2_with fail
    go_ret
    exact ⟨by rw [HR.out]; rfl, HBX.out.bel⟩
  have en : (r.num == 0) = true := by simpa using hn
  have en2 : (r.num != 0) = false := by simpa using hn
  have dn : decide (r.num = 0) = true := decide_eq_true hn
  have HN0 := Lib.hid hn
  clear hn
  have HLN := Lib.hid (lined_any r.text W f5)
  go_wp2_with fail
  refine HLN.out.mono ?_
  rintro e w1 ⟨rfl, rfl⟩
  clear HLN
  cases hb : lineB (bl r.text) with
  | false =>
    have HLB := Lib.hid hb
    have HR : Hid (fineF r d = false) := Lib.hid (by rw [HFE.out, decide_eq_true HN0.out, HLB.out]; rfl)
    clear hb
    go_wp2_with fail
    go_ret
    exact ⟨by rw [HR.out]; rfl, HBX.out.bel⟩
  | true =>
    have HLB := Lib.hid hb
    clear hb
    by_cases hl : r.kids.length = 0
    rotate_left
    · have el := lz3 hl
      have el2 := lz4 hl
      have dl : decide (r.kids.length = 0) = false := decide_eq_false hl
      have dl2 : decide ((r.kids.length : Int) = 0) = false := decide_eq_false (by omega)
      have HL0 := Lib.hid hl
      clear hl
      have HR : Hid (fineF r d = false) := Lib.hid (by rw [HFE.out, decide_eq_true HN0.out, HLB.out, decide_eq_false HL0.out]; simp)
      go_wp2_with fail
      go_ret
      exact ⟨by rw [HR.out]; rfl, HBX.out.bel⟩
    have el := lz1 hl
    have el2 := lz2 hl
    have dl : decide (r.kids.length = 0) = true := decide_eq_true hl
    have dl2 : decide ((r.kids.length : Int) = 0) = true := decide_eq_true (by omega)
    have HL0 := Lib.hid hl
    clear hl
    have HR : Hid (fineF r d = true) := Lib.hid (by rw [HFE.out, decide_eq_true HN0.out, HLB.out, decide_eq_true HL0.out]; rfl)
    go_wp2_with fail
    go_ret
    exact ⟨by rw [HR.out]; rfl, HBX.out.bel⟩
set_option maxRecDepth 100000 in
set_option maxHeartbeats 8000000 in
theorem fine_3 (hk0 : RpK P w r A c) (hk : r.kind = 3) : Calls Tryd.prog 46 #[.agg (rpV r A c), .int .i64 d] w (SmQ w (fineF r d)) := by
  have HBX := Lib.hid (BX.new hk0)
  obtain ⟨_, _, _, _, f5, f6⟩ := hk0.1
  have HFE := Lib.hid (fine_eq r d)
  rw [if_neg (by rw [hk]; decide), if_neg (by rw [hk]; decide), if_pos hk] at HFE
  have hK : r.kind = 3 := hk
  have m0 : r.kind ≠ 0 := by rw [hk]; decide
  have a0 : (r.kind == 0) = false := by simpa using m0
  have b0 : decide (r.kind = 0) = false := decide_eq_false m0
  have m1 : r.kind ≠ 1 := by rw [hk]; decide
  have a1 : (r.kind == 1) = false := by simpa using m1
  have b1 : decide (r.kind = 1) = false := decide_eq_false m1
  have m2 : r.kind ≠ 2 := by rw [hk]; decide
  have a2 : (r.kind == 2) = false := by simpa using m2
  have b2 : decide (r.kind = 2) = false := decide_eq_false m2
  have a3 : (r.kind == 3) = true := by simpa using hk
  have b3 : decide (r.kind = 3) = true := decide_eq_true hk
  have m4 : r.kind ≠ 4 := by rw [hk]; decide
  have a4 : (r.kind == 4) = false := by simpa using m4
  have b4 : decide (r.kind = 4) = false := decide_eq_false m4
  have m5 : r.kind ≠ 5 := by rw [hk]; decide
  have a5 : (r.kind == 5) = false := by simpa using m5
  have b5 : decide (r.kind = 5) = false := decide_eq_false m5
  clear hk0 hk hK m0 m1 m2 m4 m5
  go_enter Tryd.func46, Tryd.ntmps46
  go_upto_region 1 with (fail)
  generalize w.alloc (.cells (rpV r A c) 41) = W at *
  obtain ⟨v0, v1, v2, v3⟩ := HBX.out.rows
  by_cases hs : r.text.size = 0
  rotate_left
  · have tb2 : r.text.toList.isEmpty = false := text_some hs
    have HS0 := Lib.hid hs
    clear hs
    have HR : Hid (fineF r d = false) := Lib.hid (by rw [HFE.out, decide_eq_false HS0.out]; simp)
    go_wp2_with fail
    go_ret
    exact ⟨by rw [HR.out]; rfl, HBX.out.bel⟩
  have tb : r.text.toList = [] := by rw [Lib.toList_data]; exact List.eq_nil_of_length_eq_zero (by rw [bl_len]; exact hs)
  have tb2 : r.text.toList.isEmpty = true := by rw [tb]; rfl
  have HS0 := Lib.hid hs
  clear hs
  by_cases hl : r.kids.length = 0
  rotate_left
  · have el := lz3 hl
    have el2 := lz4 hl
    have dl : decide (r.kids.length = 0) = false := decide_eq_false hl
    have dl2 : decide ((r.kids.length : Int) = 0) = false := decide_eq_false (by omega)
    have HL0 := Lib.hid hl
    clear hl
    have HR : Hid (fineF r d = false) := Lib.hid (by rw [HFE.out, decide_eq_true HS0.out, decide_eq_false HL0.out]; simp)
    go_wp2_with fail
    go_ret
    exact ⟨by rw [HR.out]; rfl, HBX.out.bel⟩
  have el := lz1 hl
  have el2 := lz2 hl
  have dl : decide (r.kids.length = 0) = true := decide_eq_true hl
  have dl2 : decide ((r.kids.length : Int) = 0) = true := decide_eq_true (by omega)
  have HL0 := Lib.hid hl
  clear hl
  have HR : Hid (fineF r d = true) := Lib.hid (by rw [HFE.out, decide_eq_true HS0.out, decide_eq_true HL0.out]; rfl)
  go_wp2_with fail
  go_ret
  exact ⟨by rw [HR.out]; rfl, HBX.out.bel⟩
set_option maxRecDepth 100000 in
set_option maxHeartbeats 8000000 in
theorem fine_4 (hk0 : RpK P w r A c) (hk : r.kind = 4) : Calls Tryd.prog 46 #[.agg (rpV r A c), .int .i64 d] w (SmQ w (fineF r d)) := by
  have HBX := Lib.hid (BX.new hk0)
  obtain ⟨_, _, _, _, f5, f6⟩ := hk0.1
  have HFE := Lib.hid (fine_eq r d)
  rw [if_neg (by rw [hk]; decide), if_neg (by rw [hk]; decide), if_neg (by rw [hk]; decide), if_pos hk] at HFE
  have hK : r.kind = 4 := hk
  have m0 : r.kind ≠ 0 := by rw [hk]; decide
  have a0 : (r.kind == 0) = false := by simpa using m0
  have b0 : decide (r.kind = 0) = false := decide_eq_false m0
  have m1 : r.kind ≠ 1 := by rw [hk]; decide
  have a1 : (r.kind == 1) = false := by simpa using m1
  have b1 : decide (r.kind = 1) = false := decide_eq_false m1
  have m2 : r.kind ≠ 2 := by rw [hk]; decide
  have a2 : (r.kind == 2) = false := by simpa using m2
  have b2 : decide (r.kind = 2) = false := decide_eq_false m2
  have m3 : r.kind ≠ 3 := by rw [hk]; decide
  have a3 : (r.kind == 3) = false := by simpa using m3
  have b3 : decide (r.kind = 3) = false := decide_eq_false m3
  have a4 : (r.kind == 4) = true := by simpa using hk
  have b4 : decide (r.kind = 4) = true := decide_eq_true hk
  have m5 : r.kind ≠ 5 := by rw [hk]; decide
  have a5 : (r.kind == 5) = false := by simpa using m5
  have b5 : decide (r.kind = 5) = false := decide_eq_false m5
  clear hk0 hk hK m0 m1 m2 m3 m5
  go_enter Tryd.func46, Tryd.ntmps46
  go_upto_region 1 with (fail)
  generalize w.alloc (.cells (rpV r A c) 41) = W at *
  obtain ⟨v0, v1, v2, v3⟩ := HBX.out.rows
  by_cases hn : r.num = 0
  rotate_left
  · have en : (r.num == 0) = false := by simpa using hn
    have en2 : (r.num != 0) = true := by simpa using hn
    have dn : decide (r.num = 0) = false := decide_eq_false hn
    have HN0 := Lib.hid hn
    clear hn
    have HR : Hid (fineF r d = false) := Lib.hid (by rw [HFE.out, decide_eq_false HN0.out]; simp)
    go_wp2_with fail
    go_ret
    exact ⟨by rw [HR.out]; rfl, HBX.out.bel⟩
  have en : (r.num == 0) = true := by simpa using hn
  have en2 : (r.num != 0) = false := by simpa using hn
  have dn : decide (r.num = 0) = true := decide_eq_true hn
  have HN0 := Lib.hid hn
  clear hn
  by_cases hl : r.kids.length = 0
  rotate_left
  · have el := lz3 hl
    have el2 := lz4 hl
    have dl : decide (r.kids.length = 0) = false := decide_eq_false hl
    have dl2 : decide ((r.kids.length : Int) = 0) = false := decide_eq_false (by omega)
    have HL0 := Lib.hid hl
    clear hl
    have HR : Hid (fineF r d = false) := Lib.hid (by rw [HFE.out, decide_eq_true HN0.out, decide_eq_false HL0.out]; simp)
    go_wp2_with fail
    go_ret
    exact ⟨by rw [HR.out]; rfl, HBX.out.bel⟩
  have el := lz1 hl
  have el2 := lz2 hl
  have dl : decide (r.kids.length = 0) = true := decide_eq_true hl
  have dl2 : decide ((r.kids.length : Int) = 0) = true := decide_eq_true (by omega)
  have HL0 := Lib.hid hl
  clear hl
  have HR : Hid (fineF r d = true) := Lib.hid (by rw [HFE.out, decide_eq_true HN0.out, decide_eq_true HL0.out]; rfl)
  go_wp2_with fail
  go_ret
  exact ⟨by rw [HR.out]; rfl, HBX.out.bel⟩
set_option maxRecDepth 100000 in
set_option maxHeartbeats 8000000 in
theorem fine_no (hk0 : RpK P w r A c) (hk : r.kind ≠ 0 ∧ r.kind ≠ 1 ∧ r.kind ≠ 2 ∧ r.kind ≠ 3 ∧ r.kind ≠ 4 ∧ r.kind ≠ 5) : Calls Tryd.prog 46 #[.agg (rpV r A c), .int .i64 d] w (SmQ w (fineF r d)) := by
  have HBX := Lib.hid (BX.new hk0)
  have HFE := Lib.hid (fine_eq r d)
  rw [if_neg hk.1, if_neg (fun e => e.elim hk.2.1 hk.2.2.1), if_neg hk.2.2.2.1, if_neg hk.2.2.2.2.1, if_neg hk.2.2.2.2.2] at HFE
  have m0 : r.kind ≠ 0 := hk.1
  have a0 : (r.kind == 0) = false := by simpa using m0
  have b0 : decide (r.kind = 0) = false := decide_eq_false m0
  have m1 : r.kind ≠ 1 := hk.2.1
  have a1 : (r.kind == 1) = false := by simpa using m1
  have b1 : decide (r.kind = 1) = false := decide_eq_false m1
  have m2 : r.kind ≠ 2 := hk.2.2.1
  have a2 : (r.kind == 2) = false := by simpa using m2
  have b2 : decide (r.kind = 2) = false := decide_eq_false m2
  have m3 : r.kind ≠ 3 := hk.2.2.2.1
  have a3 : (r.kind == 3) = false := by simpa using m3
  have b3 : decide (r.kind = 3) = false := decide_eq_false m3
  have m4 : r.kind ≠ 4 := hk.2.2.2.2.1
  have a4 : (r.kind == 4) = false := by simpa using m4
  have b4 : decide (r.kind = 4) = false := decide_eq_false m4
  have m5 : r.kind ≠ 5 := hk.2.2.2.2.2
  have a5 : (r.kind == 5) = false := by simpa using m5
  have b5 : decide (r.kind = 5) = false := decide_eq_false m5
  clear hk0 hk m0 m1 m2 m3 m4 m5
  go_enter Tryd.func46, Tryd.ntmps46
  go_upto_region 1 with (fail)
  generalize w.alloc (.cells (rpV r A c) 41) = W at *
  obtain ⟨v0, v1, v2, v3⟩ := HBX.out.rows
  go_wp2_with fail
  go_ret
  exact ⟨by rw [HFE.out]; rfl, HBX.out.bel⟩
set_option maxRecDepth 100000 in
set_option maxHeartbeats 8000000 in
theorem fine_5 {h : Nat} (IH : FineC h) (hh : hgt r ≤ h + 1) (hd0 : 0 ≤ d) (hdm : d ≤ 1000) (hk0 : RpK P w r A c) (hk : r.kind = 5) : Calls Tryd.prog 46 #[.agg (rpV r A c), .int .i64 d] w (SmQ w (fineF r d)) := by
  have HBX := Lib.hid (BX.new hk0)
  obtain ⟨_, _, _, _, f5, f6⟩ := hk0.1
  have HFE := Lib.hid (fine_eq r d)
  rw [if_neg (by rw [hk]; decide), if_neg (by rw [hk]; decide), if_neg (by rw [hk]; decide), if_neg (by rw [hk]; decide), if_pos hk] at HFE
  have HH := Lib.hid (hgt_kids hh)
  have HIH := Lib.hid IH
  have hK : r.kind = 5 := hk
  have m0 : r.kind ≠ 0 := by rw [hk]; decide
  have a0 : (r.kind == 0) = false := by simpa using m0
  have b0 : decide (r.kind = 0) = false := decide_eq_false m0
  have m1 : r.kind ≠ 1 := by rw [hk]; decide
  have a1 : (r.kind == 1) = false := by simpa using m1
  have b1 : decide (r.kind = 1) = false := decide_eq_false m1
  have m2 : r.kind ≠ 2 := by rw [hk]; decide
  have a2 : (r.kind == 2) = false := by simpa using m2
  have b2 : decide (r.kind = 2) = false := decide_eq_false m2
  have m3 : r.kind ≠ 3 := by rw [hk]; decide
  have a3 : (r.kind == 3) = false := by simpa using m3
  have b3 : decide (r.kind = 3) = false := decide_eq_false m3
  have m4 : r.kind ≠ 4 := by rw [hk]; decide
  have a4 : (r.kind == 4) = false := by simpa using m4
  have b4 : decide (r.kind = 4) = false := decide_eq_false m4
  have a5 : (r.kind == 5) = true := by simpa using hk
  have b5 : decide (r.kind = 5) = true := decide_eq_true hk
  clear hk0 hk hK hh IH m0 m1 m2 m3 m4
  go_enter Tryd.func46, Tryd.ntmps46
  go_upto_region 1 with (fail)
  generalize w.alloc (.cells (rpV r A c) 41) = W at *
  obtain ⟨v0, v1, v2, v3⟩ := HBX.out.rows
  by_cases hn : r.num = 0
  rotate_left
  · have en : (r.num == 0) = false := by simpa using hn
    have en2 : (r.num != 0) = true := by simpa using hn
    have dn : decide (r.num = 0) = false := decide_eq_false hn
    have HN0 := Lib.hid hn
    clear hn
    have HR : Hid (fineF r d = false) := Lib.hid (by rw [HFE.out, decide_eq_false HN0.out]; simp)
    go_wp2_with fail
    go_ret
    exact ⟨by rw [HR.out]; rfl, HBX.out.bel⟩
  have en : (r.num == 0) = true := by simpa using hn
  have en2 : (r.num != 0) = false := by simpa using hn
  have dn : decide (r.num = 0) = true := decide_eq_true hn
  have HN0 := Lib.hid hn
  clear hn
  by_cases hs : r.text.size = 0
  rotate_left
  · have tb2 : r.text.toList.isEmpty = false := text_some hs
    have HS0 := Lib.hid hs
    clear hs
    have HR : Hid (fineF r d = false) := Lib.hid (by rw [HFE.out, decide_eq_true HN0.out, decide_eq_false HS0.out]; simp)
    go_wp2_with fail
    go_ret
    exact ⟨by rw [HR.out]; rfl, HBX.out.bel⟩
  have tb : r.text.toList = [] := by rw [Lib.toList_data]; exact List.eq_nil_of_length_eq_zero (by rw [bl_len]; exact hs)
  have tb2 : r.text.toList.isEmpty = true := by rw [tb]; rfl
  have HS0 := Lib.hid hs
  clear hs
  by_cases hz : d ≠ 0
  rotate_left
  · have ed : (d == 0) = true := by simpa using hz
    have dd : decide (d = 0) = true := by simpa using hz
    have HZ0 : Hid (d = 0) := Lib.hid (by simpa using hz)
    clear hz
    have HR : Hid (fineF r d = false) := Lib.hid (by rw [HFE.out, decide_eq_true HN0.out, decide_eq_true HS0.out, decide_eq_true HZ0.out]; simp)
    go_wp2_with fail
    go_ret
    exact ⟨by rw [HR.out]; rfl, HBX.out.bel⟩
  have ed : (d == 0) = false := by simpa using hz
  have dd : decide (d = 0) = false := decide_eq_false hz
  have HFL : Hid (fineF r d = fineL r.kids (d - 1)) := Lib.hid (by rw [HFE.out, decide_eq_true HN0.out, decide_eq_true HS0.out, decide_eq_false hz]; rfl)
  have hd1 : 0 ≤ d - 1 := by omega
  have hwd : IntKind.i64.wrap (d - 1) = d - 1 := IntWalk.i64_in _ (by omega)
  clear hz HFE
  go_wp2_with fail
  clear en en2 dn tb tb2 ed dd v0 v1 v2 v3
  go_loopw [5] (fun i wr => ∃ k : Nat, k ≤ r.kids.length ∧ i = .int .i64 k ∧ Hid (BX w wr r A c) ∧ Hid (fineL (r.kids.take k) (d - 1) = true)) (fun i _ => r.kids.length - (intOf i).toNat)
  case atStart => exact ⟨0, Nat.zero_le _, rfl, HBX, Lib.hid (by simp [fineL])⟩
  case round =>
    clear HBX
    obtain ⟨k, hk, rfl, HB, HS⟩ := hrel
    obtain ⟨v0, v1, v2, v3⟩ := HB.out.rows
    by_cases hlt : k < r.kids.length
    · have hltz : (k : Int) < (r.kids.length : Int) := by omega
      obtain ⟨b, o, hA, hb, hp, ha⟩ := HB.out.ks.kid hlt
      obtain ⟨A1, c1, x0, x1, x2, x3, hk1⟩ := ha.row
      have hr : hgt r.kids[k] ≤ h := Nat.le_trans (hgt_kid (List.getElem_mem hlt)) HH.out
      have HC := Lib.hid (HIH.out r.kids[k] A1 c1 _ (d - 1) wr hr hk1 hd1 (by omega))
      have HNX := Lib.hid (fineL_next r.kids (d - 1) k hlt)
      have HCU := Lib.hid (fineL_cut r.kids (d - 1) k hlt)
      clear hr hk1 ha hp hb
      subst hA
      generalize r.kids[k] = r1 at *
      go_wp2_with fail
      refine HC.out.mono ?_
      rintro e w1 ⟨rfl, hbel⟩
      have HB1 := Lib.hid (HB.out.next hbel)
      clear hbel HC x0 x1 x2 x3 v0 v1 v2 v3
      cases hs : fineF r1 (d - 1) with
      | true =>
        rw [hs] at HNX
        have HS2 : Hid (fineL (r.kids.take (k + 1)) (d - 1) = true) := Lib.hid (by rw [HNX.out, HS.out]; rfl)
        clear hs HNX HCU
        go_wp2_with fail
        go_roundw
        case rel => exact ⟨k + 1, by omega, by go_num, HB1, HS2⟩
        case measure => simp [intOf]; omega
      | false =>
        have HR := Lib.hid (HFL.out.trans (HCU.out hs))
        clear hs HNX HCU
        go_wp2_with fail
        go_ret
        exact ⟨by rw [HR.out]; rfl, HB1.out.bel⟩
    · obtain rfl : k = r.kids.length := by omega
      have HR : Hid (fineF r d = true) := Lib.hid (by
        have h1 := HS.out
        rw [List.take_length] at h1
        exact HFL.out.trans h1)
      go_wp2_with fail
      go_ret
      exact ⟨by rw [HR.out]; rfl, HB.out.bel⟩
end
theorem fine_all : ∀ h, FineC h
  | 0 => fun r A c P d w hh => by
    cases r
    rw [hgt] at hh
    omega
  | h + 1 => fun r A c P d w hh hk hd0 hd1 => by
    by_cases h0 : r.kind = 0
    · exact fine_0 hk h0
    by_cases h1 : r.kind = 1
    · exact fine_1 hk h1
    by_cases h2 : r.kind = 2
    · exact fine_2 hk h2
    by_cases h3 : r.kind = 3
    · exact fine_3 hk h3
    by_cases h4 : r.kind = 4
    · exact fine_4 hk h4
    by_cases h5 : r.kind = 5
    · exact fine_5 (fine_all h) hh hd0 hd1 hk h5
    exact fine_no hk ⟨h0, h1, h2, h3, h4, h5⟩
end Go.Proofs.YtglicojojpggmaaDoor
namespace Go.Proofs.YtglicojojpggmaaDoor
open Go Go.RowKit
mutual
theorem mayF_iff : ∀ (r : Rp) (d it tx : Int), 0 ≤ it → 0 ≤ tx → mayF r d it tx = if fineF r d = true ∧ (itN r : Int) ≤ it ∧ (txN r : Int) ≤ tx then some (it - itN r, tx - txN r) else none
  | .mk k n t l, d, it, tx, h0, h1 => by
    rw [mayF, fineF, itN, txN]
    by_cases h5 : k = 5
    · subst h5
      rw [if_neg (show ¬ ((5 : Int) ≠ 5 ∧ 0 < l.length) from fun h => h.1 rfl), if_neg (show ¬ ((5 : Int) = 0 ∨ (5 : Int) = 3) by decide), if_neg (show ¬ (5 : Int) = 4 by decide), if_neg (show ¬ ((5 : Int) = 1 ∨ (5 : Int) = 2) by decide), if_pos rfl, if_neg (show ¬ (5 : Int) = 0 by decide), if_neg (show ¬ ((5 : Int) = 1 ∨ (5 : Int) = 2) by decide), if_neg (show ¬ (5 : Int) = 3 by decide), if_neg (show ¬ (5 : Int) = 4 by decide), if_pos rfl]
      by_cases hn : n = 0
      rotate_left
      · rw [if_pos ⟨by decide, hn⟩, decide_eq_false hn, if_neg (fun h => by simp at h)]
      rw [if_neg (fun h => h.2 hn), decide_eq_true hn]
      by_cases ht : t.size = 0
      rotate_left
      · rw [decide_eq_false ht, if_neg (show ¬ ((true && (false && (!decide (d = 0) && fineL l (d - 1)))) = true ∧ _) from fun h => by simp at h)]
        split
        · rfl
        · rw [if_pos (.inl ht)]
      rw [decide_eq_true ht, if_neg (show ¬ tx - (t.size : Int) < 0 by omega)]
      by_cases hd : d = 0
      · rw [if_pos (.inr (.inl hd)), decide_eq_true hd, if_neg (fun h => by simp at h)]
      rw [decide_eq_false hd]
      by_cases hl : it - (l.length : Int) < 0
      · rw [if_pos (.inr (.inr hl)), if_neg (fun h => by have := h.2.1; omega)]
      rw [if_neg (fun h => by rcases h with h | h | h; exact h ht; exact hd h; exact hl h), mayL_iff l (d - 1) _ _ (by omega) (by omega)]
      simp only [Bool.not_false, Bool.true_and]
      by_cases hf : fineL l (d - 1) = true ∧ (itNL l : Int) ≤ it - l.length ∧ (txNL l : Int) ≤ tx - t.size
      · rw [if_pos hf, if_pos ⟨hf.1, by omega, by omega⟩]
        congr 2 <;> omega
      · rw [if_neg hf, if_neg (fun h => hf ⟨h.1, by omega, by omega⟩)]
    · by_cases hl : 0 < l.length
      · have hz : decide (l.length = 0) = false := decide_eq_false (by omega)
        rw [hz, if_pos (show k ≠ 5 ∧ 0 < l.length from ⟨h5, hl⟩), if_neg (show ¬ k = 5 from h5)]
        simp
      · have hl0 : l = [] := List.eq_nil_of_length_eq_zero (by omega)
        subst hl0
        rw [if_neg (show ¬ (k ≠ 5 ∧ 0 < ([] : List Rp).length) from fun h => by simp at h), if_neg (show ¬ k = 5 from h5), if_neg (show ¬ k = 5 from h5)]
        simp only [itNL, txNL, List.length_nil, decide_true, Bool.and_true, Nat.add_zero, Int.natCast_zero, Nat.zero_add]
        by_cases k0 : k = 0
        · subst k0
          by_cases hn : n = 0
          · by_cases ht : t.size = 0
            · simp [hn, ht, h0, h1]
            · simp [hn, ht]
          · simp [hn]
        by_cases k1 : k = 1
        · subst k1
          by_cases hn : n = 0
          · cases hb : lineB (bl t)
            · simp [hn, hb]
            · by_cases hx : tx - (t.size : Int) < 0
              · simp [hn, hb, hx]; omega
              · simp [hn, hb, hx, h0]; omega
          · simp [hn]
        by_cases k2 : k = 2
        · subst k2
          by_cases hn : n = 0
          · cases hb : lineB (bl t)
            · simp [hn, hb]
            · by_cases hx : tx - (t.size : Int) < 0
              · simp [hn, hb, hx]; omega
              · simp [hn, hb, hx, h0]; omega
          · simp [hn]
        by_cases k3 : k = 3
        · subst k3
          by_cases ht : t.size = 0
          · simp [ht, h0, h1]
          · simp [ht]
        by_cases k4 : k = 4
        · subst k4
          by_cases hn : n = 0
          · by_cases hx : tx - (t.size : Int) < 0
            · simp [hn, hx]; omega
            · simp [hn, hx, h0]; omega
          · simp [hn]
        simp [k0, k1, k2, k3, k4]
theorem mayL_iff : ∀ (l : List Rp) (d it tx : Int), 0 ≤ it → 0 ≤ tx → mayL l d it tx = if fineL l d = true ∧ (itNL l : Int) ≤ it ∧ (txNL l : Int) ≤ tx then some (it - itNL l, tx - txNL l) else none
  | [], d, it, tx, h0, h1 => by
    rw [mayL, fineL, itNL, txNL, if_pos ⟨rfl, by simpa using h0, by simpa using h1⟩]
    simp
  | r :: l, d, it, tx, h0, h1 => by
    rw [mayL, fineL, itNL, txNL, mayF_iff r d it tx h0 h1]
    by_cases hf : fineF r d = true ∧ (itN r : Int) ≤ it ∧ (txN r : Int) ≤ tx
    · rw [if_pos hf]
      simp only
      rw [mayL_iff l d _ _ (by omega) (by omega), hf.1, Bool.true_and]
      by_cases hg : fineL l d = true ∧ (itNL l : Int) ≤ it - itN r ∧ (txNL l : Int) ≤ tx - txN r
      · rw [if_pos hg, if_pos ⟨hg.1, by omega, by omega⟩]
        congr 2 <;> omega
      · rw [if_neg hg, if_neg (fun h => hg ⟨h.1, by omega, by omega⟩)]
    · rw [if_neg hf]
      simp only
      rw [if_neg (fun h => hf ⟨by have := h.1; simp at this; exact this.1, by omega, by omega⟩)]
end
theorem chkR_yes {r : Rp} (h1 : fineF r 100 = true) (h2 : itN r ≤ 65536) (h3 : txN r ≤ 1048576) : chkR r = 0 := by
  have h := mayF_iff r 100 65536 1048576 (by decide) (by decide)
  rw [if_pos ⟨h1, by omega, by omega⟩] at h
  unfold chkR
  rw [h]
  rfl
theorem chkR_no {r : Rp} (h : ¬ (fineF r 100 = true ∧ itN r ≤ 65536 ∧ txN r ≤ 1048576)) : chkR r = 2 := by
  have h2 := mayF_iff r 100 65536 1048576 (by decide) (by decide)
  rw [if_neg (fun h' => h ⟨h'.1, by omega, by omega⟩)] at h2
  unfold chkR
  rw [h2]
  rfl
set_option maxRecDepth 100000 in
set_option maxHeartbeats 8000000 in
theorem rcheck_any (P : Nat → Prop) (r : Rp) (A : Option Addr) (c : Nat) (w : World) (hk : RpK P w r A c) : Calls Tryd.prog 21 #[.agg (rpV r A c)] w fun e w' => e = .returned (.int .i64 (chkR r)) ∧ Below w.heap.size w w' := by
  have HBX := Lib.hid (BX.new hk)
  clear hk
  go_enter Tryd.func21, Tryd.ntmps21
  go_upto_region 1 with (fail)
  generalize w.alloc (.cells (rpV r A c) 41) = W at *
  obtain ⟨v0, v1, v2, v3⟩ := HBX.out.rows
  have HC := Lib.hid (Size_all _ r A c _ 0 0 W (Nat.le_refl _) HBX.out.ks (by decide) (by decide))
  rw [show ((0 : Nat) : Int) = 0 from rfl] at HC
  go_wp2_with fail
  refine HC.out.mono ?_
  rintro e w1 ⟨i, t, rfl, q1, q2, q3, q4, hbel⟩
  have HB1 := Lib.hid (HBX.out.next hbel)
  have HQ1 := Lib.hid q1
  have HQ2 := Lib.hid q2
  clear q1 q2 hbel HC v0 v1 v2 v3 HBX
  obtain ⟨v0, v1, v2, v3⟩ := HB1.out.rows
  by_cases hi : 65536 < i
  · have g1 : decide ((65536 : Int) < (i : Int)) = true := decide_eq_true (by omega)
    have g2 : decide (65536 < i) = true := decide_eq_true hi
    have HR : Hid (chkR r = 2) := Lib.hid (chkR_no (fun h => by have := HQ2.out ⟨by omega, by omega⟩; omega))
    clear hi
    go_wp2_with fail
    go_ret
    exact ⟨by rw [HR.out]; rfl, HB1.out.bel⟩
  have g1 : decide ((65536 : Int) < (i : Int)) = false := decide_eq_false (by omega)
  have g2 : decide (65536 < i) = false := decide_eq_false hi
  by_cases ht : 1048576 < t
  · have g3 : decide ((1048576 : Int) < (t : Int)) = true := decide_eq_true (by omega)
    have g4 : decide (1048576 < t) = true := decide_eq_true ht
    have HR : Hid (chkR r = 2) := Lib.hid (chkR_no (fun h => by have := HQ2.out ⟨by omega, by omega⟩; omega))
    clear ht
    go_wp2_with fail
    go_ret
    exact ⟨by rw [HR.out]; rfl, HB1.out.bel⟩
  have g3 : decide ((1048576 : Int) < (t : Int)) = false := decide_eq_false (by omega)
  have g4 : decide (1048576 < t) = false := decide_eq_false ht
  have HF := Lib.hid (fine_all _ r A c _ 100 w1 (Nat.le_refl _) HB1.out.ks (by decide) (by decide))
  have HE := Lib.hid (HQ1.out ⟨by omega, by omega⟩)
  have HIB : Hid (i ≤ 65536 ∧ t ≤ 1048576) := Lib.hid ⟨by omega, by omega⟩
  clear hi ht
  go_wp2_with fail
  refine HF.out.mono ?_
  rintro e w2 ⟨rfl, hbel⟩
  have HB2 := Lib.hid (HB1.out.next hbel)
  clear HF hbel v0 v1 v2 v3 HB1
  cases hf : fineF r 100 with
  | true =>
    have HR : Hid (chkR r = 0) := Lib.hid (chkR_yes hf (by have := HE.out; have := HIB.out; omega) (by have := HE.out; have := HIB.out; omega))
    clear hf
    go_wp2_with fail
    go_ret
    exact ⟨by rw [HR.out]; rfl, HB2.out.bel⟩
  | false =>
    have HR : Hid (chkR r = 2) := Lib.hid (chkR_no (fun h => by rw [hf] at h; cases h.1))
    clear hf
    go_wp2_with fail
    go_ret
    exact ⟨by rw [HR.out]; rfl, HB2.out.bel⟩
end Go.Proofs.YtglicojojpggmaaDoor
namespace Go.Proofs.YtglicojojpggmaaDoor
open Go Go.RowKit
theorem lay_eq (z : UInt8) (t : ByteArray) : lineS (⟨#[z]⟩ ++ t) = ofL (layL z (bl t)) := bl_inj (by rw [bl_line, bl_app]; simp [layL, bl])
theorem lay_eqL (z : UInt8) (l : List UInt8) : lineS (⟨#[z]⟩ ++ ofL l) = ofL (layL z l) := lay_eq z (ofL l)
theorem text_eq (l : List UInt8) (t : ByteArray) : lineS (⟨#[36]⟩ ++ ofL l) ++ lineS t = ofL (layL 36 l ++ (bl t ++ crlf)) := bl_inj (by
  rw [bl_app, lay_eqL, bl_line])
theorem szL_len : ∀ (l : List Rp), l.length ≤ szL l
  | [] => by simp [szL]
  | r :: l => by
    have := szL_len l
    have := szR_eq r
    rw [szL, List.length_cons]
    omega
theorem szL_mem : ∀ (l : List Rp) (k : Nat) (h : k < l.length), szR l[k] ≤ szL l
  | [], k, h => absurd h (by simp)
  | r :: l, 0, _ => by rw [szL]; exact Nat.le_add_right _ _
  | r :: l, k + 1, h => by
    have := szL_mem l k (by simpa using h)
    rw [szL]
    have h2 : (r :: l)[k + 1] = l[k]'(by simpa using h) := rfl
    rw [h2]
    omega
theorem szL_take : ∀ (l : List Rp) (k : Nat), szL (l.take k) ≤ szL l
  | [], k => by simp
  | r :: l, 0 => by simp [szL]
  | r :: l, k + 1 => by
    have := szL_take l k
    rw [List.take_succ_cons, szL, szL]
    omega
theorem enc_len {r : Rp} (hf : Fits r) (hk : (encL r.kids).length ≤ 6 * szL r.kids) : (encR r).length ≤ 6 * szR r := by
  rw [encR_eq, szR_eq]
  have h1 := bl_len r.text
  have h2 := itL_len r.num hf.1 hf.2.1
  have h3 := itL_len r.text.size (by omega) (by have := hf.2.2.2.2.1; omega)
  have h4 := itL_len r.kids.length (by omega) (by have := hf.2.2.2.2.2; omega)
  have h5 : crlf.length = 2 := rfl
  split
  · rw [layL_len]; omega
  split
  · rw [layL_len]; omega
  split
  · rw [layL_len]; omega
  split
  · rw [List.length_append, layL_len, List.length_append]; omega
  split
  · rw [List.length_append, layL_len]; omega
  · rw [layL_len]
    show 2 + 3 ≤ _
    omega
mutual
theorem encA_len {P : Nat → Prop} {W : World} : ∀ (r : Rp) (b o : Nat), RpA P W r b o → (encR r).length ≤ 6 * szR r
  | .mk k n t l, b, o, h => by
    rw [RpA] at h
    obtain ⟨A, c, h0, h1, h2, h3, h4, h5, h6, h7⟩ := h
    exact enc_len h4 (encL_len l A h7)
theorem encL_len {P : Nat → Prop} {W : World} : ∀ (l : List Rp) (A : Option Addr), RpL P W l A → (encL l).length ≤ 6 * szL l
  | [], _, _ => by simp [encL]
  | r :: l, A, h => by
    rw [RpL] at h
    obtain ⟨b, o, hA, hb, hp, ha, hr⟩ := h
    have h1 := encA_len r b o ha
    have h2 := encL_len l _ hr
    rw [encL, szL, List.length_append]
    omega
end
theorem RpL.take {P : Nat → Prop} {W : World} : ∀ (l : List Rp) (A : Option Addr) (k : Nat), RpL P W l A → RpL P W (l.take k) A
  | [], A, k, h => by simpa using h
  | r :: l, A, 0, h => by rw [List.take_zero, RpL]; trivial
  | r :: l, A, k + 1, h => by
    rw [RpL] at h
    obtain ⟨b, o, hA, hb, hp, ha, hr⟩ := h
    rw [List.take_succ_cons, RpL]
    exact ⟨b, o, hA, hb, hp, ha, RpL.take l _ k hr⟩
theorem encK_len {P : Nat → Prop} {W : World} {r : Rp} {A : Option Addr} {c : Nat} (h : RpK P W r A c) (k : Nat) : (encL (r.kids.take k)).length ≤ 6 * szL r.kids := by
  have h1 := encL_len _ _ (RpL.take r.kids A k h.2.2.2)
  have h2 := szL_take r.kids k
  omega
def REnQ (w : World) (r : Rp) (e : Ending) (w' : World) : Prop := e = .returned (.string (ofL (encR r))) ∧ Below w.heap.size w w'
def REncC (h : Nat) : Prop := ∀ (r : Rp) (A : Option Addr) (c : Nat) (P : Nat → Prop) (w : World), hgt r ≤ h → RpK P w r A c → szR r ≤ 1000000 → TAB w → Calls Tryd.prog 24 #[.agg (rpV r A c)] w (REnQ w r)
section
variable {r : Rp} {A : Option Addr} {c : Nat} {P : Nat → Prop} {w : World}
set_option maxRecDepth 100000 in
set_option maxHeartbeats 8000000 in
theorem renc_1 (hk0 : RpK P w r A c) (hz : szR r ≤ 1000000) (ht : TAB w) (hk : r.kind = 1) : Calls Tryd.prog 24 #[.agg (rpV r A c)] w (REnQ w r) := by
  have HBX := Lib.hid (BX.new hk0)
  obtain ⟨f1, f2, _, _, f5, f6⟩ := hk0.1
  have HE := Lib.hid (encR_eq r)
  rw [if_pos hk] at HE
  have HT := Lib.hid (tab_below ht (BX.new hk0).bel)
  have HZT := Lib.hid (szR_eq r)
  have hts : r.text.size ≤ 1000000 := by have := HZT.out; omega
  have m0 : r.kind ≠ 0 := by rw [hk]; decide
  have a0 : (r.kind == 0) = false := by simpa using m0
  have b0 : decide (r.kind = 0) = false := decide_eq_false m0
  have a1 : (r.kind == 1) = true := by simpa using hk
  have b1 : decide (r.kind = 1) = true := decide_eq_true hk
  have m2 : r.kind ≠ 2 := by rw [hk]; decide
  have a2 : (r.kind == 2) = false := by simpa using m2
  have b2 : decide (r.kind = 2) = false := decide_eq_false m2
  have m3 : r.kind ≠ 3 := by rw [hk]; decide
  have a3 : (r.kind == 3) = false := by simpa using m3
  have b3 : decide (r.kind = 3) = false := decide_eq_false m3
  have m4 : r.kind ≠ 4 := by rw [hk]; decide
  have a4 : (r.kind == 4) = false := by simpa using m4
  have b4 : decide (r.kind = 4) = false := decide_eq_false m4
  have m5 : r.kind ≠ 5 := by rw [hk]; decide
  have a5 : (r.kind == 5) = false := by simpa using m5
  have b5 : decide (r.kind = 5) = false := decide_eq_false m5
  clear hk0 ht hk m2 m3 m4 m5 m0
  go_enter Tryd.func24, Tryd.ntmps24
  go_upto_region 1 with (fail)
  generalize w.alloc (.cells (rpV r A c) 41) = W at *
  obtain ⟨v0, v1, v2, v3⟩ := HBX.out.rows
  have n1 : ¬ 9223372036854775807 < 1 + r.text.size := by omega
  have HL := Lib.hid (line_any (⟨#[43]⟩ ++ r.text) W (by rw [ByteArray.size_append, show (⟨#[43]⟩ : ByteArray).size = 1 from rfl]; omega))
  go_wp2_with fail
  refine HL.out.mono ?_
  rintro e w1 ⟨rfl, rfl⟩
  clear HL
  go_wp2_with fail
  go_ret
  exact ⟨by rw [HE.out, ← lay_eq]; rfl, HBX.out.bel⟩
set_option maxRecDepth 100000 in
set_option maxHeartbeats 8000000 in
theorem renc_2 (hk0 : RpK P w r A c) (hz : szR r ≤ 1000000) (ht : TAB w) (hk : r.kind = 2) : Calls Tryd.prog 24 #[.agg (rpV r A c)] w (REnQ w r) := by
  have HBX := Lib.hid (BX.new hk0)
  obtain ⟨f1, f2, _, _, f5, f6⟩ := hk0.1
  have HE := Lib.hid (encR_eq r)
  rw [if_neg (by rw [hk]; decide), if_pos hk] at HE
  have HT := Lib.hid (tab_below ht (BX.new hk0).bel)
  have HZT := Lib.hid (szR_eq r)
  have hts : r.text.size ≤ 1000000 := by have := HZT.out; omega
  have m0 : r.kind ≠ 0 := by rw [hk]; decide
  have a0 : (r.kind == 0) = false := by simpa using m0
  have b0 : decide (r.kind = 0) = false := decide_eq_false m0
  have m1 : r.kind ≠ 1 := by rw [hk]; decide
  have a1 : (r.kind == 1) = false := by simpa using m1
  have b1 : decide (r.kind = 1) = false := decide_eq_false m1
  have a2 : (r.kind == 2) = true := by simpa using hk
  have b2 : decide (r.kind = 2) = true := decide_eq_true hk
  have m3 : r.kind ≠ 3 := by rw [hk]; decide
  have a3 : (r.kind == 3) = false := by simpa using m3
  have b3 : decide (r.kind = 3) = false := decide_eq_false m3
  have m4 : r.kind ≠ 4 := by rw [hk]; decide
  have a4 : (r.kind == 4) = false := by simpa using m4
  have b4 : decide (r.kind = 4) = false := decide_eq_false m4
  have m5 : r.kind ≠ 5 := by rw [hk]; decide
  have a5 : (r.kind == 5) = false := by simpa using m5
  have b5 : decide (r.kind = 5) = false := decide_eq_false m5
  clear hk0 ht hk m1 m3 m4 m5 m0
  go_enter Tryd.func24, Tryd.ntmps24
  go_upto_region 1 with (fail)
  generalize w.alloc (.cells (rpV r A c) 41) = W at *
  obtain ⟨v0, v1, v2, v3⟩ := HBX.out.rows
  have n1 : ¬ 9223372036854775807 < 1 + r.text.size := by omega
  have HL := Lib.hid (line_any (⟨#[45]⟩ ++ r.text) W (by rw [ByteArray.size_append, show (⟨#[45]⟩ : ByteArray).size = 1 from rfl]; omega))
  go_wp2_with fail
  refine HL.out.mono ?_
  rintro e w1 ⟨rfl, rfl⟩
  clear HL
  go_wp2_with fail
  go_ret
  exact ⟨by rw [HE.out, ← lay_eq]; rfl, HBX.out.bel⟩
set_option maxRecDepth 100000 in
set_option maxHeartbeats 8000000 in
theorem renc_3 (hk0 : RpK P w r A c) (hz : szR r ≤ 1000000) (ht : TAB w) (hk : r.kind = 3) : Calls Tryd.prog 24 #[.agg (rpV r A c)] w (REnQ w r) := by
  have HBX := Lib.hid (BX.new hk0)
  obtain ⟨f1, f2, _, _, f5, f6⟩ := hk0.1
  have HE := Lib.hid (encR_eq r)
  rw [if_neg (by rw [hk]; decide), if_neg (by rw [hk]; decide), if_pos hk] at HE
  have HT := Lib.hid (tab_below ht (BX.new hk0).bel)
  have HZT := Lib.hid (szR_eq r)
  have hts : r.text.size ≤ 1000000 := by have := HZT.out; omega
  have m0 : r.kind ≠ 0 := by rw [hk]; decide
  have a0 : (r.kind == 0) = false := by simpa using m0
  have b0 : decide (r.kind = 0) = false := decide_eq_false m0
  have m1 : r.kind ≠ 1 := by rw [hk]; decide
  have a1 : (r.kind == 1) = false := by simpa using m1
  have b1 : decide (r.kind = 1) = false := decide_eq_false m1
  have m2 : r.kind ≠ 2 := by rw [hk]; decide
  have a2 : (r.kind == 2) = false := by simpa using m2
  have b2 : decide (r.kind = 2) = false := decide_eq_false m2
  have a3 : (r.kind == 3) = true := by simpa using hk
  have b3 : decide (r.kind = 3) = true := decide_eq_true hk
  have m4 : r.kind ≠ 4 := by rw [hk]; decide
  have a4 : (r.kind == 4) = false := by simpa using m4
  have b4 : decide (r.kind = 4) = false := decide_eq_false m4
  have m5 : r.kind ≠ 5 := by rw [hk]; decide
  have a5 : (r.kind == 5) = false := by simpa using m5
  have b5 : decide (r.kind = 5) = false := decide_eq_false m5
  clear hk0 ht hk m1 m2 m4 m5 m0
  go_enter Tryd.func24, Tryd.ntmps24
  go_upto_region 1 with (fail)
  generalize w.alloc (.cells (rpV r A c) 41) = W at *
  obtain ⟨v0, v1, v2, v3⟩ := HBX.out.rows
  have hln := itL_len r.num f1 f2
  have n1 : ¬ 9223372036854775807 < 1 + (itL r.num).length := by omega
  have HF := Lib.hid (fmt_any r.num W f1 f2 HT.out)
  go_wp2_with fail
  refine HF.out.mono ?_
  rintro e w1 ⟨rfl, hb1⟩
  have HB1 := Lib.hid (HBX.out.next hb1)
  clear hb1 HF v0 v1 v2 v3
  have HL := Lib.hid (line_any (⟨#[58]⟩ ++ ofL (itL r.num)) w1 (by rw [ByteArray.size_append, show (⟨#[58]⟩ : ByteArray).size = 1 from rfl]; have : (ofL (itL r.num)).size = (itL r.num).length := rfl; omega))
  go_wp2_with fail
  refine HL.out.mono ?_
  rintro e w2 ⟨rfl, rfl⟩
  clear HL
  go_wp2_with fail
  go_ret
  exact ⟨by rw [HE.out, ← lay_eqL]; rfl, HB1.out.bel⟩
set_option maxRecDepth 100000 in
set_option maxHeartbeats 8000000 in
theorem renc_4 (hk0 : RpK P w r A c) (hz : szR r ≤ 1000000) (ht : TAB w) (hk : r.kind = 4) : Calls Tryd.prog 24 #[.agg (rpV r A c)] w (REnQ w r) := by
  have HBX := Lib.hid (BX.new hk0)
  obtain ⟨f1, f2, _, _, f5, f6⟩ := hk0.1
  have HE := Lib.hid (encR_eq r)
  rw [if_neg (by rw [hk]; decide), if_neg (by rw [hk]; decide), if_neg (by rw [hk]; decide), if_pos hk] at HE
  have HT := Lib.hid (tab_below ht (BX.new hk0).bel)
  have HZT := Lib.hid (szR_eq r)
  have hts : r.text.size ≤ 1000000 := by have := HZT.out; omega
  have m0 : r.kind ≠ 0 := by rw [hk]; decide
  have a0 : (r.kind == 0) = false := by simpa using m0
  have b0 : decide (r.kind = 0) = false := decide_eq_false m0
  have m1 : r.kind ≠ 1 := by rw [hk]; decide
  have a1 : (r.kind == 1) = false := by simpa using m1
  have b1 : decide (r.kind = 1) = false := decide_eq_false m1
  have m2 : r.kind ≠ 2 := by rw [hk]; decide
  have a2 : (r.kind == 2) = false := by simpa using m2
  have b2 : decide (r.kind = 2) = false := decide_eq_false m2
  have m3 : r.kind ≠ 3 := by rw [hk]; decide
  have a3 : (r.kind == 3) = false := by simpa using m3
  have b3 : decide (r.kind = 3) = false := decide_eq_false m3
  have a4 : (r.kind == 4) = true := by simpa using hk
  have b4 : decide (r.kind = 4) = true := decide_eq_true hk
  have m5 : r.kind ≠ 5 := by rw [hk]; decide
  have a5 : (r.kind == 5) = false := by simpa using m5
  have b5 : decide (r.kind = 5) = false := decide_eq_false m5
  clear hk0 ht hk m1 m2 m3 m5 m0
  go_enter Tryd.func24, Tryd.ntmps24
  go_upto_region 1 with (fail)
  generalize w.alloc (.cells (rpV r A c) 41) = W at *
  obtain ⟨v0, v1, v2, v3⟩ := HBX.out.rows
  have hix := itT_size r.text.size (by omega)
  have hln := itL_len r.text.size (by omega) (by omega)
  have hsx := star_size 36 r.text.size (by omega)
  have hlx := lineS_size r.text
  have hox : (lineS (⟨#[36]⟩ ++ ofL (itL r.text.size))).size ≤ 24 := oneS_size r.text (by omega)
  have n1 : ¬ 9223372036854775807 < 1 + (itL r.text.size).length := by omega
  have n2 : ¬ 9223372036854775807 < (lineS (⟨#[36]⟩ ++ ofL (itL r.text.size))).size + (lineS r.text).size := by omega
  have n3 : ¬ 9223372036854775807 < (lineS (⟨#[36]⟩ ++ ofL (itL r.text.size))).size + (r.text.size + 2) := by omega
  go_wp2_with fail
  have HBB : Hid (∀ x : InW (Grown W), BX w x.w r A c) := Lib.hid fun x => HBX.out.next x.h
  have zA2 : ∀ x : InW (Grown W), x.w.cell? ⟨w.heap.size, 2, none⟩ = some (.string r.text) := fun x => (HBB.out x).rows.2.2.1
  have H1 : Hid (∀ x : InW (Grown W), Calls Tryd.prog 36 #[.int .i64 r.text.size] x.w (RetIn (Grown W) (.string (ofL (itL r.text.size))))) := Lib.hid fun x => ret_below (itoa_any r.text.size x.w (by omega) (by omega) (tab_below HT.out x.h))
  have H2 : Hid (∀ x : InW (Grown W), Calls Tryd.prog 37 #[.string (⟨#[36]⟩ ++ ofL (itL r.text.size))] x.w (RetIn (Grown W) (.string (lineS (⟨#[36]⟩ ++ ofL (itL r.text.size)))))) := Lib.hid fun x => ret_same ((line_any _ x.w (by omega)).mono fun _ _ ⟨a, b⟩ => ⟨a, b.symm⟩)
  have H3 : Hid (∀ x : InW (Grown W), Calls Tryd.prog 37 #[.string r.text] x.w (RetIn (Grown W) (.string (lineS r.text)))) := Lib.hid fun x => ret_same ((line_any r.text x.w (by omega)).mono fun _ _ ⟨a, b⟩ => ⟨a, b.symm⟩)
  have HIN : Nonempty (InW (Grown W)) := ⟨⟨W, Below.refl _ _⟩⟩
  refine region_in (Grown W) (by kernel_rfl) (by kernel_rfl) (Below.refl _ _).drew ?_
  repeat (go_big_quiet_step ((rename_i x; with_reducible (first | exact H1.out x | exact H2.out x | exact H3.out x))))
  refine wpQuiet_nil ?_
  rintro _ ⟨x, rfl⟩
  have HBX2 := Lib.hid (HBB.out x).bel
  clear zA2 HIN H1 H2 H3 HBB
  go_wp2
  go_ret
  refine ⟨?_, HBX2.out⟩
  rw [HE.out]
  show Ending.returned (.string (lineS (⟨#[36]⟩ ++ ofL (itL r.text.size)) ++ lineS r.text)) = _
  rw [text_eq]
set_option maxRecDepth 100000 in
set_option maxHeartbeats 8000000 in
theorem renc_5 {h : Nat} (IH : REncC h) (hh : hgt r ≤ h + 1) (hk0 : RpK P w r A c) (hz : szR r ≤ 1000000) (ht : TAB w) (hk : r.kind = 5) : Calls Tryd.prog 24 #[.agg (rpV r A c)] w (REnQ w r) := by
  have HT0 := Lib.hid ht
  have HBX := Lib.hid (BX.new hk0)
  obtain ⟨f1, f2, _, _, f5, f6⟩ := hk0.1
  have HE := Lib.hid (encR_eq r)
  rw [if_neg (by rw [hk]; decide), if_neg (by rw [hk]; decide), if_neg (by rw [hk]; decide), if_neg (by rw [hk]; decide), if_pos hk] at HE
  have HT := Lib.hid (tab_below ht (BX.new hk0).bel)
  have HZT := Lib.hid (szR_eq r)
  have hts : r.text.size ≤ 1000000 := by have := HZT.out; omega
  have m0 : r.kind ≠ 0 := by rw [hk]; decide
  have a0 : (r.kind == 0) = false := by simpa using m0
  have b0 : decide (r.kind = 0) = false := decide_eq_false m0
  have m1 : r.kind ≠ 1 := by rw [hk]; decide
  have a1 : (r.kind == 1) = false := by simpa using m1
  have b1 : decide (r.kind = 1) = false := decide_eq_false m1
  have m2 : r.kind ≠ 2 := by rw [hk]; decide
  have a2 : (r.kind == 2) = false := by simpa using m2
  have b2 : decide (r.kind = 2) = false := decide_eq_false m2
  have m3 : r.kind ≠ 3 := by rw [hk]; decide
  have a3 : (r.kind == 3) = false := by simpa using m3
  have b3 : decide (r.kind = 3) = false := decide_eq_false m3
  have m4 : r.kind ≠ 4 := by rw [hk]; decide
  have a4 : (r.kind == 4) = false := by simpa using m4
  have b4 : decide (r.kind = 4) = false := decide_eq_false m4
  have a5 : (r.kind == 5) = true := by simpa using hk
  have b5 : decide (r.kind = 5) = true := decide_eq_true hk
  have HH := Lib.hid (hgt_kids hh)
  have HIH := Lib.hid IH
  have HKL := Lib.hid (encK_len hk0)
  have hlen : r.kids.length ≤ 1000000 := by have h1 := HZT.out; have h2 := szL_len r.kids; omega
  clear hh IH hk0 ht hk m1 m2 m3 m4 m0
  go_enter Tryd.func24, Tryd.ntmps24
  go_upto_region 1 with (fail)
  generalize w.alloc (.cells (rpV r A c) 41) = W at *
  obtain ⟨v0, v1, v2, v3⟩ := HBX.out.rows
  have HI := Lib.hid (itoa_any r.kids.length W (by omega) (by omega) HT.out)
  go_wp2_with fail
  refine HI.out.mono ?_
  rintro e w1 ⟨rfl, hb1⟩
  have HB1 := Lib.hid (HBX.out.next hb1)
  clear hb1 HI v0 v1 v2 v3 HBX
  have hsz := itT_size r.kids.length (by omega)
  have hln := itL_len r.kids.length (by omega) (by omega)
  have hst := star_size 42 r.kids.length (by omega)
  have hl2 := lineS_size (⟨#[42]⟩ ++ ofL (itL r.kids.length))
  have n1 : ¬ 9223372036854775807 < 1 + (itL r.kids.length).length := by omega
  have HLA := Lib.hid (line_any (⟨#[42]⟩ ++ ofL (itL r.kids.length)) w1 (by omega))
  have HS0 : Hid ((lineS (⟨#[42]⟩ ++ ofL (itL r.kids.length))).size ≤ 24) := Lib.hid (by omega)
  clear hsz hst hl2
  go_wp2_with fail
  refine HLA.out.mono ?_
  rintro e w2 ⟨rfl, rfl⟩
  clear HLA n1 hln
  go_wp2_with fail
  go_loopw [3, 4] (fun s i wr => ∃ (k : Nat) (s0 : ByteArray), k ≤ r.kids.length ∧ i = .int .i64 k ∧ s = .string s0 ∧ Hid (BX w wr r A c) ∧ Hid (s0 = lineS (⟨#[42]⟩ ++ ofL (itL r.kids.length)) ++ ofL (encL (r.kids.take k)))) (fun _ i _ => r.kids.length - (intOf i).toNat)
  case atStart => exact ⟨0, _, Nat.zero_le _, rfl, rfl, HB1, Lib.hid (by rw [List.take_zero, encL]; exact bl_inj (by rw [bl_app]; simp [bl]))⟩
  case round =>
    clear HB1
    obtain ⟨k, s0, hk, rfl, rfl, HB, HS⟩ := hrel
    obtain ⟨v0, v1, v2, v3⟩ := HB.out.rows
    by_cases hlt : k < r.kids.length
    · have hltz : (k : Int) < (r.kids.length : Int) := by omega
      obtain ⟨b, o, hA, hb, hp, ha⟩ := HB.out.ks.kid hlt
      obtain ⟨A1, c1, x0, x1, x2, x3, hk1⟩ := ha.row
      have hr : hgt r.kids[k] ≤ h := Nat.le_trans (hgt_kid (List.getElem_mem hlt)) HH.out
      have hsk : szR r.kids[k] ≤ 1000000 := by have h1 := szL_mem r.kids k hlt; have h2 := HZT.out; omega
      have HC := Lib.hid (HIH.out r.kids[k] A1 c1 _ wr hr hk1 hsk (tab_below HT0.out HB.out.bel))
      have HNX := Lib.hid (encL_next hlt)
      have hs0 : s0.size ≤ 6000024 := by
        rw [HS.out, ByteArray.size_append]
        have h1 := HS0.out
        have h2 : (ofL (encL (r.kids.take k))).size = (encL (r.kids.take k)).length := rfl
        have h3 := HKL.out k
        have h4 := HZT.out
        omega
      have hs1 : (encR r.kids[k]).length ≤ 6000000 := by
        have h3 := HKL.out (k + 1)
        rw [HNX.out, List.length_append] at h3
        have h4 := HZT.out
        omega
      clear hr hk1 ha hp hb hsk
      subst hA
      generalize r.kids[k] = r1 at *
      have n1 : ¬ 9223372036854775807 < s0.size + (encR r1).length := by omega
      have n2 : ¬ 9223372036854775807 < s0.size + (ofL (encR r1)).size := n1
      go_wp2_with fail
      refine HC.out.mono ?_
      rintro e w3 ⟨rfl, hbel⟩
      have HB3 := Lib.hid (HB.out.next hbel)
      clear hbel HC x0 x1 x2 x3 v0 v1 v2 v3
      go_wp2_with fail
      go_roundw
      case rel => exact ⟨k + 1, _, by omega, by go_num, rfl, HB3, Lib.hid (by rw [HNX.out, HS.out]; exact bl_inj (by simp only [bl_app]; rw [show ∀ l, bl (ofL l) = l from fun _ => rfl, show ∀ l, bl (ofL l) = l from fun _ => rfl, show ∀ l, bl (ofL l) = l from fun _ => rfl, List.append_assoc]))⟩
      case measure => simp [intOf]; omega
    · obtain rfl : k = r.kids.length := by omega
      have HR : Hid (s0 = ofL (encR r)) := Lib.hid (by
        have h1 := HS.out
        rw [List.take_length] at h1
        rw [h1, HE.out, lay_eqL]
        exact bl_inj (by rw [bl_app]))
      go_wp2_with fail
      go_ret
      exact ⟨by rw [← HR.out]; rfl, HB.out.bel⟩
set_option maxRecDepth 100000 in
set_option maxHeartbeats 8000000 in
theorem renc_no (hk0 : RpK P w r A c) (hz : szR r ≤ 1000000) (ht : TAB w) (hk : r.kind ≠ 1 ∧ r.kind ≠ 2 ∧ r.kind ≠ 3 ∧ r.kind ≠ 4 ∧ r.kind ≠ 5) : Calls Tryd.prog 24 #[.agg (rpV r A c)] w (REnQ w r) := by
  have HBX := Lib.hid (BX.new hk0)
  have HE := Lib.hid (encR_eq r)
  rw [if_neg hk.1, if_neg hk.2.1, if_neg hk.2.2.1, if_neg hk.2.2.2.1, if_neg hk.2.2.2.2] at HE
  have m1 : r.kind ≠ 1 := hk.1
  have a1 : (r.kind == 1) = false := by simpa using m1
  have b1 : decide (r.kind = 1) = false := decide_eq_false m1
  have m2 : r.kind ≠ 2 := hk.2.1
  have a2 : (r.kind == 2) = false := by simpa using m2
  have b2 : decide (r.kind = 2) = false := decide_eq_false m2
  have m3 : r.kind ≠ 3 := hk.2.2.1
  have a3 : (r.kind == 3) = false := by simpa using m3
  have b3 : decide (r.kind = 3) = false := decide_eq_false m3
  have m4 : r.kind ≠ 4 := hk.2.2.2.1
  have a4 : (r.kind == 4) = false := by simpa using m4
  have b4 : decide (r.kind = 4) = false := decide_eq_false m4
  have m5 : r.kind ≠ 5 := hk.2.2.2.2
  have a5 : (r.kind == 5) = false := by simpa using m5
  have b5 : decide (r.kind = 5) = false := decide_eq_false m5
  clear hk0 ht hk m1 m2 m3 m4 m5
  go_enter Tryd.func24, Tryd.ntmps24
  go_upto_region 1 with (fail)
  generalize w.alloc (.cells (rpV r A c) 41) = W at *
  obtain ⟨v0, v1, v2, v3⟩ := HBX.out.rows
  have HL := Lib.hid (line_any ⟨#[36, 45, 49]⟩ W (by decide))
  go_wp2_with fail
  refine HL.out.mono ?_
  rintro e w1 ⟨rfl, rfl⟩
  clear HL
  go_wp2_with fail
  go_ret
  exact ⟨by rw [HE.out]; rfl, HBX.out.bel⟩
end
theorem renc_all : ∀ h, REncC h
  | 0 => fun r A c P w hh => by
    cases r
    rw [hgt] at hh
    omega
  | h + 1 => fun r A c P w hh hk hz ht => by
    by_cases h1 : r.kind = 1
    · exact renc_1 hk hz ht h1
    by_cases h2 : r.kind = 2
    · exact renc_2 hk hz ht h2
    by_cases h3 : r.kind = 3
    · exact renc_3 hk hz ht h3
    by_cases h4 : r.kind = 4
    · exact renc_4 hk hz ht h4
    by_cases h5 : r.kind = 5
    · exact renc_5 (renc_all h) hh hk hz ht h5
    exact renc_no hk hz ht ⟨h1, h2, h3, h4, h5⟩
end Go.Proofs.YtglicojojpggmaaDoor
