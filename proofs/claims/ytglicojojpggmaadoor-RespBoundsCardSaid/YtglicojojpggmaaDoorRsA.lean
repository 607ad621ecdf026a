/- How great replies are; which are the same. -/
import Derived.Test.YtglicojojpggmaaDoorLv
import Derived.Test.YtglicojojpggmaaDoorRep4
namespace Go.Proofs.YtglicojojpggmaaDoor
open Go Go.RowKit
/-- A reply as an argument, in a block of its own. -/
structure BX (w W : World) (r : Rp) (A : Option Addr) (c : Nat) : Prop where
  b0 : W.heap[w.heap.size]? = some (.cells (rpV r A c) 41 (0, 0))
  bel : Below w.heap.size w W
  ks : RpK (· < w.heap.size) W r A c
section
variable {w W W' : World} {r : Rp} {A : Option Addr} {c : Nat} {P : Nat → Prop}
theorem BX.new (hk : RpK P w r A c) : BX w (w.alloc (.cells (rpV r A c) 41)) r A c :=
  ⟨heap_alloc_new w _, below_new w _, hk.old.below (below_new w _)⟩
theorem BX.next (h : BX w W r A c) (hb : Below W.heap.size W W') : BX w W' r A c :=
  ⟨(hb.block _ (lt_of_block h.b0)).trans h.b0, h.bel.trans (hb.mono h.bel.size), h.ks.imp hb.size (fun b hp hl => ⟨hb.block b hl, hp⟩)⟩
theorem BX.drew (h : BX w W r A c) (q : Nat) : BX w (W.drewN q) r A c := h.next (below_any q (Below.refl _ _))
theorem BX.rows (h : BX w W r A c) : W.cell? ⟨w.heap.size, 0, none⟩ = some (.int .i64 r.kind) ∧ W.cell? ⟨w.heap.size, 1, none⟩ = some (.int .i64 r.num) ∧ W.cell? ⟨w.heap.size, 2, none⟩ = some (.string r.text) ∧ W.cell? ⟨w.heap.size, 3, none⟩ = some (.slice A r.kids.length c) := by
  refine ⟨?_, ?_, ?_, ?_⟩
  all_goals
    simp only [World.cell?, h.b0]
    rfl
end
mutual
/-- What of a reply is worked out. -/
def szR : Rp → Nat
  | .mk _ _ t l => 5 + t.size + szL l
def szL : List Rp → Nat
  | [] => 0
  | r :: l => szR r + szL l
end
mutual
/-- How many replies there are in lists. -/
def itN : Rp → Nat
  | .mk _ _ _ l => l.length + itNL l
def itNL : List Rp → Nat
  | [] => 0
  | r :: l => itN r + itNL l
end
mutual
/-- How many bytes the texts have. -/
def txN : Rp → Nat
  | .mk _ _ t l => t.size + txNL l
def txNL : List Rp → Nat
  | [] => 0
  | r :: l => txN r + txNL l
end
theorem szR_eq (r : Rp) : szR r = 5 + r.text.size + szL r.kids := by cases r; rw [szR]; rfl
theorem itN_eq (r : Rp) : itN r = r.kids.length + itNL r.kids := by cases r; rw [itN]; rfl
theorem txN_eq (r : Rp) : txN r = r.text.size + txNL r.kids := by cases r; rw [txN]; rfl
theorem szL_next : ∀ (l : List Rp) (k : Nat) (h : k < l.length), szL (l.take (k + 1)) = szL (l.take k) + szR l[k]
  | [], k, h => absurd h (by simp)
  | r :: l, 0, _ => by simp [szL]
  | r :: l, k + 1, h => by
    have := szL_next l k (by simpa using h)
    rw [List.take_succ_cons, List.take_succ_cons, szL, szL, this]
    simp; omega
theorem itNL_next : ∀ (l : List Rp) (k : Nat) (h : k < l.length), itNL (l.take (k + 1)) = itNL (l.take k) + itN l[k]
  | [], k, h => absurd h (by simp)
  | r :: l, 0, _ => by simp [itNL]
  | r :: l, k + 1, h => by
    have := itNL_next l k (by simpa using h)
    rw [List.take_succ_cons, List.take_succ_cons, itNL, itNL, this]
    simp; omega
theorem txNL_next : ∀ (l : List Rp) (k : Nat) (h : k < l.length), txNL (l.take (k + 1)) = txNL (l.take k) + txN l[k]
  | [], k, h => absurd h (by simp)
  | r :: l, 0, _ => by simp [txNL]
  | r :: l, k + 1, h => by
    have := txNL_next l k (by simpa using h)
    rw [List.take_succ_cons, List.take_succ_cons, txNL, txNL, this]
    simp; omega
theorem itNL_le : ∀ (l : List Rp) (k : Nat), itNL (l.take k) ≤ itNL l
  | [], k => by simp
  | r :: l, 0 => by simp [itNL]
  | r :: l, k + 1 => by
    have := itNL_le l k
    rw [List.take_succ_cons, itNL, itNL]
    omega
theorem txNL_le : ∀ (l : List Rp) (k : Nat), txNL (l.take k) ≤ txNL l
  | [], k => by simp
  | r :: l, 0 => by simp [txNL]
  | r :: l, k + 1 => by
    have := txNL_le l k
    rw [List.take_succ_cons, txNL, txNL]
    omega
theorem hgt_kids {r : Rp} {h : Nat} (hh : hgt r ≤ h + 1) : hgtL r.kids ≤ h := by
  cases r with
  | mk k n t l =>
    rw [hgt] at hh
    exact Nat.le_of_succ_le_succ hh
/-- What 'size' answers. -/
def SzQ (w : World) (r : Rp) (n : Nat) (e : Ending) (w' : World) : Prop := ∃ s : Nat, e = .returned (.int .i64 s) ∧ (s ≤ 3000 → s = n + szR r) ∧ s ≤ 6005 ∧ Below w.heap.size w w'
def SzC (h : Nat) : Prop := ∀ (r : Rp) (A : Option Addr) (c : Nat) (P : Nat → Prop) (n : Nat) (w : World), hgt r ≤ h → RpK P w r A c → n ≤ 3000 → Calls Tryd.prog 20 #[.agg (rpV r A c), .int .i64 n] w (SzQ w r n)
set_option maxRecDepth 100000 in
set_option maxHeartbeats 8000000 in
theorem size_step (h : Nat) (IH : SzC h) : SzC (h + 1) := by
  intro r A c P n w hh hk hn
  have HBX := Lib.hid (BX.new hk)
  have hh1 : hgtL r.kids ≤ h := hgt_kids hh
  have HH := Lib.hid hh1
  have HIH := Lib.hid IH
  obtain ⟨_, _, _, _, f5, f6⟩ := hk.1
  clear hk hh hh1 IH
  go_enter Tryd.func20, Tryd.ntmps20
  go_upto_region 1 with (fail)
  generalize w.alloc (.cells (rpV r A c) 41) = W at *
  obtain ⟨v0, v1, v2, v3⟩ := HBX.out.rows
  obtain ⟨n1, hn1⟩ : ∃ n1 : Nat, (n : Int) + 5 + min (r.text.size : Int) 3000 = n1 := ⟨n + 5 + min r.text.size 3000, by omega⟩
  have hn2 : n1 ≤ 6005 ∧ (n1 ≤ 3000 → n1 = n + (5 + r.text.size)) := by omega
  have hw1 : IntKind.i64.wrap ((n : Int) + 5) = (n : Int) + 5 := IntWalk.i64_in _ (by omega)
  have hw2 : IntKind.i64.wrap ((n : Int) + 5 + min (r.text.size : Int) 3000) = n1 := by rw [hn1]; exact IntWalk.i64_in _ (by omega)
  have HM2 := Lib.hid hn2
  have HLE1 := Lib.hid hn2.1
  clear hn1 hn2
  have hn6 : n1 ≤ 6005 := HLE1.out
  go_wp2_with fail
  go_loopw [1, 5] (fun s i wr => ∃ (k n2 : Nat), k ≤ r.kids.length ∧ i = .int .i64 k ∧ s = .int .i64 n2 ∧ Hid (BX w wr r A c) ∧ n2 ≤ 6005 ∧ Hid (n2 ≤ 3000 → n2 = n + (5 + r.text.size) + szL (r.kids.take k))) (fun _ i _ => r.kids.length - (intOf i).toNat)
  case atStart => exact ⟨0, n1, Nat.zero_le _, rfl, rfl, HBX, hn6, Lib.hid (fun h => by rw [List.take_zero, szL]; exact (HM2.out.2 h))⟩
  case round =>
    clear HBX HM2 HLE1 v0 v1 v2 v3 hw1 hw2
    obtain ⟨k, n2, hk, rfl, rfl, HB, hn2, HS⟩ := hrel
    obtain ⟨v0, v1, v2, v3⟩ := HB.out.rows
    by_cases hlt : k < r.kids.length
    · have hltz : (k : Int) < (r.kids.length : Int) := by omega
      by_cases h3 : n2 ≤ 3000
      · have g1 : decide ((n2 : Int) ≤ 3000) = true := decide_eq_true (by omega)
        obtain ⟨b, o, hA, hb, hp, ha⟩ := HB.out.ks.kid hlt
        obtain ⟨A1, c1, x0, x1, x2, x3, hk1⟩ := ha.row
        have hr : hgt r.kids[k] ≤ h := Nat.le_trans (hgt_kid (List.getElem_mem hlt)) HH.out
        have HC := Lib.hid (HIH.out r.kids[k] A1 c1 _ n2 wr hr hk1 h3)
        have HN : Hid (szL (r.kids.take (k + 1)) = szL (r.kids.take k) + szR r.kids[k]) := Lib.hid (szL_next _ _ hlt)
        have HE := Lib.hid (HS.out h3)
        clear hr hk1 ha hp hb HS
        subst hA
        generalize r.kids[k] = r1 at *
        go_wp2_with fail
        refine HC.out.mono ?_
        rintro e w1 ⟨s, rfl, hs, hs6, hbel⟩
        have HB1 := Lib.hid (HB.out.next hbel)
        have HS1 := Lib.hid hs
        clear hs hbel HC x0 x1 x2 x3 v0 v1 v2 v3
        go_wp2_with fail
        go_roundw
        case rel => exact ⟨k + 1, s, by omega, by go_num, rfl, HB1, hs6, Lib.hid (fun h0 => by rw [HN.out, HS1.out h0, HE.out]; omega)⟩
        case measure => simp [intOf]; omega
      · have g1 : decide ((n2 : Int) ≤ 3000) = false := decide_eq_false (by omega)
        have HZ : Hid (¬ n2 ≤ 3000) := Lib.hid h3
        clear h3 HS
        go_wp2_with fail
        go_ret
        exact ⟨n2, rfl, fun h0 => absurd h0 HZ.out, hn2, HB.out.bel⟩
    · obtain rfl : k = r.kids.length := by omega
      go_wp2_with fail
      go_ret
      exact ⟨n2, rfl, fun h0 => by rw [HS.out h0, List.take_length, szR_eq]; omega, hn2, HB.out.bel⟩
theorem size_all : ∀ h, SzC h
  | 0 => fun r A c P n w hh => by
    cases r
    rw [hgt] at hh
    omega
  | h + 1 => size_step h (size_all h)
theorem size_any (r : Rp) (A : Option Addr) (c : Nat) (P : Nat → Prop) (w : World) (hk : RpK P w r A c) : Calls Tryd.prog 20 #[.agg (rpV r A c), .int .i64 0] w (SzQ w r 0) := size_all _ r A c P 0 w (Nat.le_refl _) hk (by decide)
end Go.Proofs.YtglicojojpggmaaDoor
namespace Go.Proofs.YtglicojojpggmaaDoor
open Go Go.RowKit
mutual
/-- Are two replies the same? -/
def sameR : Rp → Rp → Bool
  | .mk k n t l, .mk k' n' t' l' => decide (k = k') && decide (n = n') && decide (t = t') && sameL l l'
def sameL : List Rp → List Rp → Bool
  | [], [] => true
  | r :: l, r' :: l' => sameR r r' && sameL l l'
  | _, _ => false
end
theorem sameR_eq (a b : Rp) : sameR a b = (decide (a.kind = b.kind) && decide (a.num = b.num) && decide (a.text = b.text) && sameL a.kids b.kids) := by
  cases a; cases b
  rw [sameR]
  rfl
theorem sameL_len : ∀ (l m : List Rp), l.length ≠ m.length → sameL l m = false
  | [], [], h => absurd rfl h
  | [], _ :: _, _ => by simp [sameL]
  | _ :: _, [], _ => by simp [sameL]
  | r :: l, r' :: m, h => by
    rw [sameL, sameL_len l m (fun e => h (by simp [e])), Bool.and_false]
theorem sameL_next : ∀ (l m : List Rp) (k : Nat) (hk : k < l.length) (hm : k < m.length), sameL (l.take (k + 1)) (m.take (k + 1)) = (sameL (l.take k) (m.take k) && sameR l[k] m[k])
  | [], _, _, h, _ => absurd h (by simp)
  | _ :: _, [], _, _, h => absurd h (by simp)
  | r :: l, r' :: m, 0, _, _ => by simp [sameL]
  | r :: l, r' :: m, k + 1, h1, h2 => by
    have := sameL_next l m k (by simpa using h1) (by simpa using h2)
    rw [List.take_succ_cons, List.take_succ_cons, sameL, this, List.take_succ_cons, List.take_succ_cons, sameL]
    simp [Bool.and_assoc]
theorem sameL_cut : ∀ (l m : List Rp) (k : Nat) (hk : k < l.length) (hm : k < m.length), sameR l[k] m[k] = false → sameL l m = false
  | [], _, _, h, _, _ => absurd h (by simp)
  | _ :: _, [], _, _, h, _ => absurd h (by simp)
  | r :: l, r' :: m, 0, _, _, h => by
    have h' : sameR r r' = false := h
    rw [sameL, h', Bool.false_and]
  | r :: l, r' :: m, k + 1, h1, h2, h => by
    rw [sameL, sameL_cut l m k (by simpa using h1) (by simpa using h2) (by simpa using h), Bool.and_false]
mutual
theorem sameR_iff : ∀ (a b : Rp), sameR a b = true ↔ a = b
  | .mk k n t l, .mk k' n' t' l' => by
    rw [sameR]
    simp only [Bool.and_eq_true, decide_eq_true_eq, sameL_iff l l', Rp.mk.injEq, and_assoc]
theorem sameL_iff : ∀ (l m : List Rp), sameL l m = true ↔ l = m
  | [], [] => by simp [sameL]
  | [], _ :: _ => by simp [sameL]
  | _ :: _, [] => by simp [sameL]
  | r :: l, r' :: m => by
    rw [sameL]
    simp only [Bool.and_eq_true, sameR_iff r r', sameL_iff l m, List.cons.injEq]
end
theorem sameR_refl (a : Rp) : sameR a a = true := (sameR_iff a a).2 rfl
/-- Two replies as arguments, in blocks of their own. -/
structure BY (w W : World) (a b : Rp) (A B : Option Addr) (c d : Nat) : Prop where
  b0 : W.heap[w.heap.size]? = some (.cells (rpV a A c) 41 (0, 0))
  b1 : W.heap[w.heap.size + 1]? = some (.cells (rpV b B d) 41 (0, 0))
  bel : Below w.heap.size w W
  ka : RpK (· < w.heap.size) W a A c
  kb : RpK (· < w.heap.size) W b B d
section
variable {w W W' : World} {a b : Rp} {A B : Option Addr} {c d : Nat} {P P' : Nat → Prop}
theorem BY.new (ha : RpK P w a A c) (hb : RpK P' w b B d) : BY w ((w.alloc (.cells (rpV a A c) 41)).alloc (.cells (rpV b B d) 41)) a b A B c d := by
  have h0 := below_new w (.cells (rpV a A c) 41)
  have h1 := below_new (w.alloc (.cells (rpV a A c) 41)) (.cells (rpV b B d) 41)
  have hs : (w.alloc (.cells (rpV a A c) 41)).heap.size = w.heap.size + 1 := by simp
  have h01 := h0.trans (h1.mono (by omega))
  refine ⟨(h1.block _ (by omega)).trans (heap_alloc_new w _), ?_, h01, ha.old.below h01, hb.old.below h01⟩
  rw [← hs]
  exact heap_alloc_new _ _
theorem BY.next (h : BY w W a b A B c d) (hb : Below W.heap.size W W') : BY w W' a b A B c d :=
  ⟨(hb.block _ (lt_of_block h.b0)).trans h.b0, (hb.block _ (lt_of_block h.b1)).trans h.b1, h.bel.trans (hb.mono h.bel.size), h.ka.imp hb.size (fun b hp hl => ⟨hb.block b hl, hp⟩), h.kb.imp hb.size (fun b hp hl => ⟨hb.block b hl, hp⟩)⟩
theorem BY.drew (h : BY w W a b A B c d) (q : Nat) : BY w (W.drewN q) a b A B c d := h.next (below_any q (Below.refl _ _))
theorem BY.rows (h : BY w W a b A B c d) : W.cell? ⟨w.heap.size, 0, none⟩ = some (.int .i64 a.kind) ∧ W.cell? ⟨w.heap.size, 1, none⟩ = some (.int .i64 a.num) ∧ W.cell? ⟨w.heap.size, 2, none⟩ = some (.string a.text) ∧ W.cell? ⟨w.heap.size, 3, none⟩ = some (.slice A a.kids.length c) ∧
    W.cell? ⟨w.heap.size + 1, 0, none⟩ = some (.int .i64 b.kind) ∧ W.cell? ⟨w.heap.size + 1, 1, none⟩ = some (.int .i64 b.num) ∧ W.cell? ⟨w.heap.size + 1, 2, none⟩ = some (.string b.text) ∧ W.cell? ⟨w.heap.size + 1, 3, none⟩ = some (.slice B b.kids.length d) := by
  refine ⟨?_, ?_, ?_, ?_, ?_, ?_, ?_, ?_⟩
  · simp only [World.cell?, h.b0]; rfl
  · simp only [World.cell?, h.b0]; rfl
  · simp only [World.cell?, h.b0]; rfl
  · simp only [World.cell?, h.b0]; rfl
  · simp only [World.cell?, h.b1]; rfl
  · simp only [World.cell?, h.b1]; rfl
  · simp only [World.cell?, h.b1]; rfl
  · simp only [World.cell?, h.b1]; rfl
end
/-- How two replies' sameness is told. -/
def SmQ (w : World) (r : Bool) (e : Ending) (w' : World) : Prop := e = .returned (.bool r) ∧ Below w.heap.size w w'
def RSmC (h : Nat) : Prop := ∀ (a b : Rp) (A B : Option Addr) (c d : Nat) (P P' : Nat → Prop) (w : World), hgt a ≤ h → RpK P w a A c → RpK P' w b B d → Calls Tryd.prog 27 #[.agg (rpV a A c), .agg (rpV b B d)] w (SmQ w (sameR a b))
theorem sameR_k {a b : Rp} (h : a.kind ≠ b.kind) : sameR a b = false := by rw [sameR_eq, decide_eq_false h]; simp
theorem sameR_n {a b : Rp} (h : a.num ≠ b.num) : sameR a b = false := by rw [sameR_eq, decide_eq_false h]; simp
theorem sameR_t {a b : Rp} (h : a.text ≠ b.text) : sameR a b = false := by rw [sameR_eq, decide_eq_false h]; simp
theorem sameR_l {a b : Rp} (h : sameL a.kids b.kids = false) : sameR a b = false := by rw [sameR_eq, h, Bool.and_false]
theorem sameR_y {a b : Rp} (h1 : a.kind = b.kind) (h2 : a.num = b.num) (h3 : a.text = b.text) : sameR a b = sameL a.kids b.kids := by rw [sameR_eq, decide_eq_true h1, decide_eq_true h2, decide_eq_true h3]; rfl
set_option maxRecDepth 100000 in
set_option maxHeartbeats 8000000 in
theorem rsame_step (h : Nat) (IH : RSmC h) : RSmC (h + 1) := by
  intro a b A B c d P P' w hh ha hb
  have HBY := Lib.hid (BY.new ha hb)
  have HH := Lib.hid (hgt_kids hh)
  have HIH := Lib.hid IH
  have f6 := ha.1.2.2.2.2.2
  have g6 := hb.1.2.2.2.2.2
  clear hh ha hb IH
  go_enter Tryd.func27, Tryd.ntmps27
  go_upto_region 1 with (fail)
  generalize (w.alloc (.cells (rpV a A c) 41)).alloc (.cells (rpV b B d) 41) = W at *
  obtain ⟨v0, v1, v2, v3, u0, u1, u2, u3⟩ := HBY.out.rows
  by_cases hk : a.kind = b.kind
  rotate_left
  · have e1 : (a.kind != b.kind) = true := by simpa using hk
    have e2 : decide (a.kind = b.kind) = false := decide_eq_false hk
    have HR := Lib.hid (sameR_k hk)
    clear hk
    go_wp2_with fail
    go_ret
    exact ⟨by rw [HR.out]; rfl, HBY.out.bel⟩
  have e1 : (a.kind != b.kind) = false := by simpa using hk
  have e2 : decide (a.kind = b.kind) = true := decide_eq_true hk
  have HK := Lib.hid hk
  clear hk
  by_cases hn : a.num = b.num
  rotate_left
  · have e3 : (a.num != b.num) = true := by simpa using hn
    have e4 : decide (a.num = b.num) = false := decide_eq_false hn
    have HR := Lib.hid (sameR_n hn)
    clear hn
    go_wp2_with fail
    go_ret
    exact ⟨by rw [HR.out]; rfl, HBY.out.bel⟩
  have e3 : (a.num != b.num) = false := by simpa using hn
  have e4 : decide (a.num = b.num) = true := decide_eq_true hn
  have HN := Lib.hid hn
  clear hn
  by_cases ht : a.text = b.text
  rotate_left
  · have e5 := bytes_ne ht
    have e6 : (a.text.toList != b.text.toList) = true := by simp only [bne, e5, Bool.not_false]
    have HR := Lib.hid (sameR_t ht)
    clear ht
    go_wp2_with fail
    go_ret
    exact ⟨by rw [HR.out]; rfl, HBY.out.bel⟩
  have e5 : (a.text.toList == b.text.toList) = true := by rw [ht]; exact bytes_eq _
  have e6 : (a.text.toList != b.text.toList) = false := by simp only [bne, e5, Bool.not_true]
  have HT := Lib.hid (sameR_y HK.out HN.out ht)
  clear ht HK HN
  by_cases hl : a.kids.length = b.kids.length
  rotate_left
  · have e7 : ((a.kids.length : Int) != (b.kids.length : Int)) = true := by simp; omega
    have e8 : (a.kids.length != b.kids.length) = true := by simpa using hl
    have HR := Lib.hid (HT.out.trans (sameL_len _ _ hl))
    clear hl
    go_wp2_with fail
    go_ret
    exact ⟨by rw [HR.out]; rfl, HBY.out.bel⟩
  have e7 : ((a.kids.length : Int) != (b.kids.length : Int)) = false := by simp; omega
  have e8 : (a.kids.length != b.kids.length) = false := by simpa using hl
  have HL := Lib.hid hl
  clear hl
  go_wp2_with fail
  clear e1 e2 e3 e4 e5 e6 e7 e8 v0 v1 v2 v3 u0 u1 u2 u3
  go_loopw [5] (fun i wr => ∃ k : Nat, k ≤ a.kids.length ∧ i = .int .i64 k ∧ Hid (BY w wr a b A B c d) ∧ Hid (sameL (a.kids.take k) (b.kids.take k) = true)) (fun i _ => a.kids.length - (intOf i).toNat)
  case atStart => exact ⟨0, Nat.zero_le _, rfl, HBY, Lib.hid (by simp [sameL])⟩
  case round =>
    clear HBY
    obtain ⟨k, hk, rfl, HB, HS⟩ := hrel
    by_cases hlt : k < a.kids.length
    · have hlt2 : k < b.kids.length := by have := HL.out; omega
      have HD := Lib.hid (HB.out.drew 1)
      change Hid (BY w wr.drew a b A B c d) at HD
      obtain ⟨bA, oA, hA, hbA, hpA, haA⟩ := HD.out.ka.kid hlt
      obtain ⟨A1, c1, x0, x1, x2, x3, hk1⟩ := haA.row
      obtain ⟨bB, oB, hB, hbB, hpB, haB⟩ := HD.out.kb.kid hlt2
      obtain ⟨B1, d1, y0, y1, y2, y3, hk2⟩ := haB.row
      have hr : hgt a.kids[k] ≤ h := Nat.le_trans (hgt_kid (List.getElem_mem hlt)) HH.out
      have HC := Lib.hid (HIH.out a.kids[k] b.kids[k] A1 B1 c1 d1 _ _ wr.drew hr hk1 hk2)
      have HNX := Lib.hid (sameL_next a.kids b.kids k hlt hlt2)
      have HCU := Lib.hid (sameL_cut a.kids b.kids k hlt hlt2)
      obtain ⟨_, _, _, v3, _, _, _, u3⟩ := HD.out.rows
      obtain ⟨_, _, _, v3z, _, _, _, u3z⟩ := HB.out.rows
      subst hA
      subst hB
      have HPA := Lib.hid hpA
      have HPB := Lib.hid hpB
      have hk0 : (0 : Int) ≤ (k : Int) := by omega
      have hka : (k : Int) < (a.kids.length : Int) := by omega
      have hkb : (k : Int) < (b.kids.length : Int) := by omega
      clear hr hk1 hk2 haA haB hpA hpB hbA hbB
      generalize a.kids[k] = p at *
      generalize b.kids[k] = q at *
      go_wp2_with fail
      refine wp_region_held_drew (S := fun W => W.cell? ⟨w.heap.size, 3, none⟩ = some (.slice (some ⟨bA, oA, none⟩) a.kids.length c) ∧ W.cell? ⟨w.heap.size + 1, 3, none⟩ = some (.slice (some ⟨bB, oB, none⟩) b.kids.length d) ∧ W.cell? ⟨bA, oA + k * 4, none⟩ = some (.int .i64 p.kind) ∧ W.cell? ⟨bA, oA + k * 4 + 1, none⟩ = some (.int .i64 p.num) ∧ W.cell? ⟨bA, oA + k * 4 + 2, none⟩ = some (.string p.text) ∧ W.cell? ⟨bA, oA + k * 4 + 3, none⟩ = some (.slice A1 p.kids.length c1) ∧ W.cell? ⟨bB, oB + k * 4, none⟩ = some (.int .i64 q.kind) ∧ W.cell? ⟨bB, oB + k * 4 + 1, none⟩ = some (.int .i64 q.num) ∧ W.cell? ⟨bB, oB + k * 4 + 2, none⟩ = some (.string q.text) ∧ W.cell? ⟨bB, oB + k * 4 + 3, none⟩ = some (.slice B1 q.kids.length d1)) (by kernel_rfl) ⟨v3, u3, x0, x1, x2, x3, y0, y1, y2, y3⟩ (fun hHeld => ?_)
      refine wpAnyH_take (i := 0) (v := ?_) (by simp only [List.getElem?_toArray, List.getElem?_cons_succ, List.getElem?_cons_zero] <;> rfl) (by kernel_rfl) (by kernel_rfl) (by kernel_rfl) (by intro _ _ _ h; exact h) (Or.inl ⟨by rfl, ?_⟩) (by assumption) ?_
      rotate_left
      · intro W9 hSw
        obtain ⟨s0, s1, s2, s3, s4, s5, s6, s7, s8, s9⟩ := hSw
        go_simp
        try with_reducible rfl
      try simp only [Act.put, List.setIfInBounds_toArray, List.set_cons_zero, List.set_cons_succ]
      refine wpAnyH_take (i := 1) (v := .slice (some ⟨bA, oA, none⟩) a.kids.length c) (by simp only [List.getElem?_toArray, List.getElem?_cons_succ, List.getElem?_cons_zero] <;> rfl) (by kernel_rfl) (by kernel_rfl) (by kernel_rfl) (by intro _ _ _ h; exact h) (Or.inl ⟨by rfl, ?_⟩) (by assumption) ?_
      · intro W9 hSw
        obtain ⟨s0, s1, s2, s3, s4, s5, s6, s7, s8, s9⟩ := hSw
        go_simp
        try with_reducible rfl
      try simp only [Act.put, List.setIfInBounds_toArray, List.set_cons_zero, List.set_cons_succ]
      refine wpAnyH_take (i := 2) (v := ?_) (by simp only [List.getElem?_toArray, List.getElem?_cons_succ, List.getElem?_cons_zero] <;> rfl) (by kernel_rfl) (by kernel_rfl) (by kernel_rfl) (by intro _ _ _ h; exact h) (Or.inl ⟨by rfl, ?_⟩) (by assumption) ?_
      rotate_left
      · intro W9 hSw
        obtain ⟨s0, s1, s2, s3, s4, s5, s6, s7, s8, s9⟩ := hSw
        go_simp
        try with_reducible rfl
      try simp only [Act.put, List.setIfInBounds_toArray, List.set_cons_zero, List.set_cons_succ]
      refine wpAnyH_take (i := 3) (v := .pointer (some ⟨bA, oA + k * 4, none⟩)) (by simp only [List.getElem?_toArray, List.getElem?_cons_succ, List.getElem?_cons_zero] <;> rfl) (by kernel_rfl) (by kernel_rfl) (by kernel_rfl) (by intro _ _ _ h; exact h) (Or.inl ⟨by rfl, ?_⟩) (by assumption) ?_
      · intro W9 hSw
        obtain ⟨s0, s1, s2, s3, s4, s5, s6, s7, s8, s9⟩ := hSw
        go_simp
        try with_reducible rfl
      try simp only [Act.put, List.setIfInBounds_toArray, List.set_cons_zero, List.set_cons_succ]
      refine wpAnyH_take (i := 4) (v := .agg (rpV p A1 c1)) (by simp only [List.getElem?_toArray, List.getElem?_cons_succ, List.getElem?_cons_zero] <;> rfl) (by kernel_rfl) (by kernel_rfl) (by kernel_rfl) (by intro _ _ _ h; exact h) (Or.inl ⟨by rfl, ?_⟩) (by assumption) ?_
      · intro W9 hSw
        obtain ⟨s0, s1, s2, s3, s4, s5, s6, s7, s8, s9⟩ := hSw
        go_simp
        try with_reducible rfl
      try simp only [Act.put, List.setIfInBounds_toArray, List.set_cons_zero, List.set_cons_succ]
      refine wpAnyH_take (i := 5) (v := ?_) (by simp only [List.getElem?_toArray, List.getElem?_cons_succ, List.getElem?_cons_zero] <;> rfl) (by kernel_rfl) (by kernel_rfl) (by kernel_rfl) (by intro _ _ _ h; exact h) (Or.inl ⟨by rfl, ?_⟩) (by assumption) ?_
      rotate_left
      · intro W9 hSw
        obtain ⟨s0, s1, s2, s3, s4, s5, s6, s7, s8, s9⟩ := hSw
        go_simp
        try with_reducible rfl
      try simp only [Act.put, List.setIfInBounds_toArray, List.set_cons_zero, List.set_cons_succ]
      refine wpAnyH_take (i := 6) (v := .slice (some ⟨bB, oB, none⟩) b.kids.length d) (by simp only [List.getElem?_toArray, List.getElem?_cons_succ, List.getElem?_cons_zero] <;> rfl) (by kernel_rfl) (by kernel_rfl) (by kernel_rfl) (by intro _ _ _ h; exact h) (Or.inl ⟨by rfl, ?_⟩) (by assumption) ?_
      · intro W9 hSw
        obtain ⟨s0, s1, s2, s3, s4, s5, s6, s7, s8, s9⟩ := hSw
        go_simp
        try with_reducible rfl
      try simp only [Act.put, List.setIfInBounds_toArray, List.set_cons_zero, List.set_cons_succ]
      refine wpAnyH_take (i := 7) (v := ?_) (by simp only [List.getElem?_toArray, List.getElem?_cons_succ, List.getElem?_cons_zero] <;> rfl) (by kernel_rfl) (by kernel_rfl) (by kernel_rfl) (by intro _ _ _ h; exact h) (Or.inl ⟨by rfl, ?_⟩) (by assumption) ?_
      rotate_left
      · intro W9 hSw
        obtain ⟨s0, s1, s2, s3, s4, s5, s6, s7, s8, s9⟩ := hSw
        go_simp
        try with_reducible rfl
      try simp only [Act.put, List.setIfInBounds_toArray, List.set_cons_zero, List.set_cons_succ]
      refine wpAnyH_take (i := 8) (v := .pointer (some ⟨bB, oB + k * 4, none⟩)) (by simp only [List.getElem?_toArray, List.getElem?_cons_succ, List.getElem?_cons_zero] <;> rfl) (by kernel_rfl) (by kernel_rfl) (by kernel_rfl) (by intro _ _ _ h; exact h) (Or.inl ⟨by rfl, ?_⟩) (by assumption) ?_
      · intro W9 hSw
        obtain ⟨s0, s1, s2, s3, s4, s5, s6, s7, s8, s9⟩ := hSw
        go_simp
        try with_reducible rfl
      try simp only [Act.put, List.setIfInBounds_toArray, List.set_cons_zero, List.set_cons_succ]
      refine wpAnyH_take (i := 9) (v := .agg (rpV q B1 d1)) (by simp only [List.getElem?_toArray, List.getElem?_cons_succ, List.getElem?_cons_zero] <;> rfl) (by kernel_rfl) (by kernel_rfl) (by kernel_rfl) (by intro _ _ _ h; exact h) (Or.inl ⟨by rfl, ?_⟩) (by assumption) ?_
      · intro W9 hSw
        obtain ⟨s0, s1, s2, s3, s4, s5, s6, s7, s8, s9⟩ := hSw
        go_simp
        try with_reducible rfl
      try simp only [Act.put, List.setIfInBounds_toArray, List.set_cons_zero, List.set_cons_succ]
      refine wpAnyH_ready (rs := [10]) (by kernel_rfl) (by simp) ?_
      refine AllReadyH.cons (by simp only [List.getElem?_toArray, List.getElem?_cons_succ, List.getElem?_cons_zero] <;> rfl) (fun K hK => ?_) AllReadyH.nil
      go_simp
      refine HC.out.mono ?_
      rintro e w1 ⟨rfl, hbel⟩
      have HB1 := Lib.hid (HD.out.next hbel)
      have hsz := HD.out.bel.size
      have sk : ∀ (b o : Nat), b < w.heap.size → w1.cell? ⟨b, o, none⟩ = wr.drew.cell? ⟨b, o, none⟩ := fun b o h => World.cell?_of_block (w := wr.drew) (a := ⟨b, o, none⟩) (hbel.block b (by omega))
      have hpa := HPA.out
      have hpb := HPB.out
      refine hK.out _ _ ⟨HB1.out.rows.2.2.2.1, HB1.out.rows.2.2.2.2.2.2.2, (sk _ _ hpa).trans x0, (sk _ _ hpa).trans x1, (sk _ _ hpa).trans x2, (sk _ _ hpa).trans x3, (sk _ _ hpb).trans y0, (sk _ _ hpb).trans y1, (sk _ _ hpb).trans y2, (sk _ _ hpb).trans y3⟩ (fun hHeld => ?_)
      clear hK K sk hpa hpb hbel HC x0 x1 x2 x3 y0 y1 y2 y3 v3 u3
      try simp only [Act.put, List.setIfInBounds_toArray, List.set_cons_zero, List.set_cons_succ]
      refine wpAnyH_ready (rs := [11]) (by kernel_rfl) (by simp) ?_
      refine AllReadyH.cons (by simp only [List.getElem?_toArray, List.getElem?_cons_succ, List.getElem?_cons_zero] <;> rfl) (fun K hK => ?_) AllReadyH.nil
      go_simp
      refine hK.out _ _ hHeld (fun hHeld => ?_)
      clear hK K hHeld
      try simp only [Act.put, List.setIfInBounds_toArray, List.set_cons_zero, List.set_cons_succ]
      refine wpAnyH_done (by kernel_rfl) ?_ _
      cases hs : sameR p q with
      | true =>
        rw [hs] at HNX
        have HS2 : Hid (sameL (a.kids.take (k + 1)) (b.kids.take (k + 1)) = true) := Lib.hid (by rw [HNX.out, HS.out]; rfl)
        clear hs HNX HCU
        go_wp2_with fail
        go_roundw
        case rel => exact ⟨k + 1, by omega, by go_num, HB1, HS2⟩
        case measure => simp [intOf]; omega
      | false =>
        have HR := Lib.hid (HT.out.trans (HCU.out hs))
        clear hs HNX HCU
        go_wp2_with fail
        go_ret
        exact ⟨by rw [HR.out]; rfl, HB1.out.bel⟩
    · obtain rfl : k = a.kids.length := by omega
      obtain ⟨_, _, _, v3, _, _, _, u3⟩ := HB.out.rows
      have HR : Hid (sameR a b = true) := Lib.hid (by
        have h1 := HS.out
        rw [List.take_length, HL.out, List.take_length] at h1
        exact HT.out.trans h1)
      go_wp2_with fail
      go_ret
      exact ⟨by rw [HR.out]; rfl, HB.out.bel⟩
theorem rsame_all : ∀ h, RSmC h
  | 0 => fun a b A B c d P P' w hh => by
    cases a
    rw [hgt] at hh
    omega
  | h + 1 => rsame_step h (rsame_all h)
theorem rsame_any (a b : Rp) (A B : Option Addr) (c d : Nat) (P P' : Nat → Prop) (w : World) (ha : RpK P w a A c) (hb : RpK P' w b B d) : Calls Tryd.prog 27 #[.agg (rpV a A c), .agg (rpV b B d)] w (SmQ w (sameR a b)) := rsame_all _ a b A B c d P P' w (Nat.le_refl _) ha hb
end Go.Proofs.YtglicojojpggmaaDoor
namespace Go.Proofs.YtglicojojpggmaaDoor
open Go Go.RowKit
def SmC (h : Nat) : Prop := ∀ (a b : Rp) (A B : Option Addr) (c d : Nat) (P P' : Nat → Prop) (w : World), hgt a ≤ h → RpK P w a A c → RpK P' w b B d → Calls Tryd.prog 28 #[.agg (rpV a A c), .agg (rpV b B d)] w (SmQ w (sameR a b))
set_option maxRecDepth 100000 in
set_option maxHeartbeats 8000000 in
theorem equal_any (h : Nat) (IH : SmC h) (a b : Rp) (A B : Option Addr) (c d : Nat) (w : World) (hh : hgtL a.kids ≤ h) (ha : RpK (· < w.heap.size) w a A c) (hb : RpK (· < w.heap.size) w b B d) :
    Calls Tryd.prog 59 #[.slice A a.kids.length c, .slice B b.kids.length d, .func (.func 28) #[] #[]] w (SmQ w (sameL a.kids b.kids)) := by
  have HH := Lib.hid hh
  have HIH := Lib.hid IH
  have HKA := Lib.hid ha
  have HKB := Lib.hid hb
  have f6 := ha.1.2.2.2.2.2
  have g6 := hb.1.2.2.2.2.2
  clear hh ha hb IH
  by_cases hl : a.kids.length = b.kids.length
  rotate_left
  · have e7 : ((a.kids.length : Int) != (b.kids.length : Int)) = true := by simp; omega
    have e8 : (a.kids.length != b.kids.length) = true := by simpa using hl
    have HR := Lib.hid (sameL_len _ _ hl)
    clear hl
    go_enter Tryd.func59, Tryd.ntmps59
    go_wp2_with fail
    go_ret
    exact ⟨by rw [HR.out]; rfl, Below.refl _ _⟩
  have e7 : ((a.kids.length : Int) != (b.kids.length : Int)) = false := by simp; omega
  have e8 : (a.kids.length != b.kids.length) = false := by simpa using hl
  have HL := Lib.hid hl
  clear hl
  go_enter Tryd.func59, Tryd.ntmps59
  go_wp2_with fail
  clear e7 e8
  go_loopw [17] (fun i wr => ∃ k : Nat, k ≤ a.kids.length ∧ i = .int .i64 k ∧ Hid (Below w.heap.size w wr) ∧ Hid (sameL (a.kids.take k) (b.kids.take k) = true)) (fun i _ => a.kids.length - (intOf i).toNat)
  case atStart => exact ⟨0, Nat.zero_le _, rfl, Lib.hid (Below.refl _ _), Lib.hid (by simp [sameL])⟩
  case round =>
    obtain ⟨k, hk, rfl, HB, HS⟩ := hrel
    by_cases hlt : k < a.kids.length
    · have hlt2 : k < b.kids.length := by have := HL.out; omega
      obtain ⟨bA, oA, hA, hbA, hpA, haA⟩ := (HKA.out.below HB.out).kid hlt
      obtain ⟨A1, c1, x0, x1, x2, x3, hk1⟩ := haA.row
      obtain ⟨bB, oB, hB, hbB, hpB, haB⟩ := (HKB.out.below HB.out).kid hlt2
      obtain ⟨B1, d1, y0, y1, y2, y3, hk2⟩ := haB.row
      have HR := Lib.hid (Nat.le_trans (hgt_kid (List.getElem_mem hlt)) HH.out)
      have HK1 := Lib.hid hk1
      have HK2 := Lib.hid hk2
      have HNX := Lib.hid (sameL_next a.kids b.kids k hlt hlt2)
      have HCU := Lib.hid (sameL_cut a.kids b.kids k hlt hlt2)
      subst hA
      subst hB
      have hk0 : (0 : Int) ≤ (k : Int) := by omega
      have hka : (k : Int) < (a.kids.length : Int) := by omega
      have hkb : (k : Int) < (b.kids.length : Int) := by omega
      clear hk1 hk2 haA haB hpA hpB
      generalize a.kids[k] = p at *
      generalize b.kids[k] = q at *
      have hb1 := below_new wr (.cells (rpV p A1 c1) 41)
      have y0' := (World.cell?_of_block (w := wr) (a := ⟨bB, oB + k * 4, none⟩) (hb1.block bB hbB)).trans y0
      have y1' := (World.cell?_of_block (w := wr) (a := ⟨bB, oB + k * 4 + 1, none⟩) (hb1.block bB hbB)).trans y1
      have y2' := (World.cell?_of_block (w := wr) (a := ⟨bB, oB + k * 4 + 2, none⟩) (hb1.block bB hbB)).trans y2
      have y3' := (World.cell?_of_block (w := wr) (a := ⟨bB, oB + k * 4 + 3, none⟩) (hb1.block bB hbB)).trans y3
      have hb2 := below_new (wr.alloc (.cells (rpV p A1 c1) 41)) (.cells (rpV q B1 d1) 41)
      have hs1 : (wr.alloc (.cells (rpV p A1 c1) 41)).heap.size = wr.heap.size + 1 := by simp
      have hb12 := hb1.trans (hb2.mono (by omega))
      have hx0 := (hb2.block wr.heap.size (by omega)).trans (heap_alloc_new wr (.cells (rpV p A1 c1) 41))
      have hx1 := heap_alloc_new (wr.alloc (.cells (rpV p A1 c1) 41)) (.cells (rpV q B1 d1) 41)
      rw [hs1] at hx1
      have HX0 := Lib.hid hx0
      have HX1 := Lib.hid hx1
      have HB12 := Lib.hid hb12
      have HSX := Lib.hid HB.out.size
      have HC := Lib.hid (HIH.out p q A1 B1 c1 d1 _ _ ((wr.alloc (.cells (rpV p A1 c1) 41)).alloc (.cells (rpV q B1 d1) 41)) HR.out (HK1.out.old.below hb12) (HK2.out.old.below hb12))
      clear hb1 hb2 hb12 hx0 hx1 hs1
      go_upto_region 7 with (fail)
      generalize ((wr.alloc (.cells (rpV p A1 c1) 41)).alloc (.cells (rpV q B1 d1) 41)) = W2 at *
      clear x0 x1 x2 x3 y0 y1 y2 y3 y0' y1' y2' y3'
      generalize wr.heap.size = X at *
      have z0 : W2.cell? ⟨X, 0, none⟩ = some (.int .i64 p.kind) := by simp only [World.cell?, HX0.out]; rfl
      have z1 : W2.cell? ⟨X, 1, none⟩ = some (.int .i64 p.num) := by simp only [World.cell?, HX0.out]; rfl
      have z2 : W2.cell? ⟨X, 2, none⟩ = some (.string p.text) := by simp only [World.cell?, HX0.out]; rfl
      have z3 : W2.cell? ⟨X, 3, none⟩ = some (.slice A1 p.kids.length c1) := by simp only [World.cell?, HX0.out]; rfl
      have t0 : W2.cell? ⟨X + 1, 0, none⟩ = some (.int .i64 q.kind) := by simp only [World.cell?, HX1.out]; rfl
      have t1 : W2.cell? ⟨X + 1, 1, none⟩ = some (.int .i64 q.num) := by simp only [World.cell?, HX1.out]; rfl
      have t2 : W2.cell? ⟨X + 1, 2, none⟩ = some (.string q.text) := by simp only [World.cell?, HX1.out]; rfl
      have t3 : W2.cell? ⟨X + 1, 3, none⟩ = some (.slice B1 q.kids.length d1) := by simp only [World.cell?, HX1.out]; rfl
      go_wp2_with fail
      refine HC.out.mono ?_
      rintro e w1 ⟨rfl, hbel⟩
      have HB1 : Hid (Below w.heap.size w w1) := Lib.hid (HB.out.trans ((HB12.out.mono HSX.out).trans (hbel.mono (Nat.le_trans HB.out.size HB12.out.size))))
      clear hbel HC z0 z1 z2 z3 t0 t1 t2 t3
      cases hs : sameR p q with
      | true =>
        rw [hs] at HNX
        have HS2 : Hid (sameL (a.kids.take (k + 1)) (b.kids.take (k + 1)) = true) := Lib.hid (by rw [HNX.out, HS.out]; rfl)
        clear hs HNX HCU
        go_wp2_with fail
        go_roundw
        case rel => exact ⟨k + 1, by omega, by go_num, HB1, HS2⟩
        case measure => simp [intOf]; omega
      | false =>
        have HR := Lib.hid (HCU.out hs)
        clear hs HNX HCU
        go_wp2_with fail
        go_ret
        exact ⟨by rw [HR.out]; rfl, HB1.out⟩
    · obtain rfl : k = a.kids.length := by omega
      have HR : Hid (sameL a.kids b.kids = true) := Lib.hid (by
        have h1 := HS.out
        rw [List.take_length, HL.out, List.take_length] at h1
        exact h1)
      go_wp2_with fail
      go_ret
      exact ⟨by rw [HR.out]; rfl, HB.out⟩
set_option maxRecDepth 100000 in
set_option maxHeartbeats 8000000 in
theorem same_step (h : Nat) (IH : SmC h) : SmC (h + 1) := by
  intro a b A B c d P P' w hh ha hb
  have HBY := Lib.hid (BY.new ha hb)
  have HH := Lib.hid (hgt_kids hh)
  have HIH := Lib.hid IH
  have f6 := ha.1.2.2.2.2.2
  have g6 := hb.1.2.2.2.2.2
  clear hh ha hb IH
  go_enter Tryd.func28, Tryd.ntmps28
  go_upto_region 1 with (fail)
  generalize (w.alloc (.cells (rpV a A c) 41)).alloc (.cells (rpV b B d) 41) = W at *
  obtain ⟨v0, v1, v2, v3, u0, u1, u2, u3⟩ := HBY.out.rows
  by_cases hk : a.kind = b.kind
  rotate_left
  · have e1 : (a.kind == b.kind) = false := by simpa using hk
    have e2 : decide (a.kind = b.kind) = false := decide_eq_false hk
    have HR := Lib.hid (sameR_k hk)
    clear hk
    go_wp2_with fail
    go_ret
    exact ⟨by rw [HR.out]; rfl, HBY.out.bel⟩
  have e1 : (a.kind == b.kind) = true := by simpa using hk
  have e2 : decide (a.kind = b.kind) = true := decide_eq_true hk
  have HK := Lib.hid hk
  clear hk
  by_cases hn : a.num = b.num
  rotate_left
  · have e3 : (a.num == b.num) = false := by simpa using hn
    have e4 : decide (a.num = b.num) = false := decide_eq_false hn
    have HR := Lib.hid (sameR_n hn)
    clear hn
    go_wp2_with fail
    go_ret
    exact ⟨by rw [HR.out]; rfl, HBY.out.bel⟩
  have e3 : (a.num == b.num) = true := by simpa using hn
  have e4 : decide (a.num = b.num) = true := decide_eq_true hn
  have HN := Lib.hid hn
  clear hn
  by_cases ht : a.text = b.text
  rotate_left
  · have e5 := bytes_ne ht
    have HR := Lib.hid (sameR_t ht)
    clear ht
    go_wp2_with fail
    go_ret
    exact ⟨by rw [HR.out]; rfl, HBY.out.bel⟩
  have e5 : (a.text.toList == b.text.toList) = true := by rw [ht]; exact bytes_eq _
  have HT := Lib.hid (sameR_y HK.out HN.out ht)
  clear ht HK HN
  have hsz := HBY.out.bel.size
  have HC := Lib.hid (equal_any h HIH.out a b A B c d W HH.out (HBY.out.ka.imp (Nat.le_refl _) (fun b hb _ => ⟨rfl, by omega⟩)) (HBY.out.kb.imp (Nat.le_refl _) (fun b hb _ => ⟨rfl, by omega⟩)))
  go_wp2_with fail
  refine HC.out.mono ?_
  rintro e w1 ⟨rfl, hbel⟩
  have HB1 := Lib.hid (HBY.out.bel.trans (hbel.mono hsz))
  have HTT : Hid (sameL a.kids b.kids = sameR a b) := Lib.hid HT.out.symm
  rw [HTT.out]
  clear hbel
  go_wp2_with fail
  go_ret
  exact ⟨rfl, HB1.out⟩
theorem same_all : ∀ h, SmC h
  | 0 => fun a b A B c d P P' w hh => by
    cases a
    rw [hgt] at hh
    omega
  | h + 1 => same_step h (same_all h)
theorem same_any (a b : Rp) (A B : Option Addr) (c d : Nat) (P P' : Nat → Prop) (w : World) (ha : RpK P w a A c) (hb : RpK P' w b B d) : Calls Tryd.prog 28 #[.agg (rpV a A c), .agg (rpV b B d)] w (SmQ w (sameR a b)) := same_all _ a b A B c d P P' w (Nat.le_refl _) ha hb
end Go.Proofs.YtglicojojpggmaaDoor
