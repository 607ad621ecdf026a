/- Bytes that are taken from the front, or a panic that says that they are no frame. -/
import Derived.Test.YthbhbjfmlmgeeaaDoorStrs
import Derived.Recover
namespace Go.Proofs.YthbhbjfmlmgeeaaDoor
open Go Go.RowKit
/-- What is thrown where bytes are no frame. -/
abbrev torn (n : Int) : List PanicEntry := [{ v := .iface 57 (.agg #[.int .i64 n]), recovered := false }]
theorem size5 {w : World} : (sizeOf 5).run Tryd.prog w = .ok 1 w := by simp [sizeOf, typeInfo, go_sem]; rfl
theorem post_panic {P : Program} {fn : Func} {R : Ending → World → Prop} {chain : List PanicEntry} {a : Act} {w : World} (hd : a.defers = []) (h : R (.panicked chain) w) : bodyPost P fn R (.panic chain) a w := ⟨hd, h⟩
theorem take_no (g o : Nat) (A : Option Addr) (n c : Nat) (k : Nat) (w : World) (hc : w.cell? ⟨g, o, none⟩ = some (.slice A n c)) (h : n < k) (hk : k ≤ 9223372036854775807) :
    Calls Tryd.prog 32 #[.pointer (some ⟨g, o, none⟩), .int .i64 k] w fun e w' => e = .panicked (torn 121) ∧ w' = w := by
  go_enter Tryd.func32, Tryd.ntmps32
  go_wp2
  exact post_panic rfl ⟨rfl, rfl⟩
theorem take_yes (g o : Nat) (A : Option Addr) (n c : Nat) (k : Nat) (w : World) (hc : w.cell? ⟨g, o, none⟩ = some (.slice A n c)) (hz : w.frozen? ⟨g, o, none⟩ = false) (h : k ≤ n) (hn : n ≤ c) (hk : n ≤ 9223372036854775807) :
    Calls Tryd.prog 32 #[.pointer (some ⟨g, o, none⟩), .int .i64 k] w fun e w' => e = .returned (.slice A k c) ∧ w' = w.setCell ⟨g, o, none⟩ (.slice (subA A k c) (n - k) (c - k)) := by
  go_enter Tryd.func32, Tryd.ntmps32
  go_wp2_with (first
    | (refine wpList_slice_hi rfl (.tmp 18) (.tmp 19) 25 5 rfl Tryd.underlying25 size5 A n c rfl .i64 k rfl (by omega) ?_)
    | (refine wpList_slice_lo rfl (.tmp 25) (.tmp 26) 25 5 rfl Tryd.underlying25 size5 A n c rfl .i64 k rfl (by omega) ?_))
  go_ret
  exact ⟨rfl, rfl⟩
/-- A source: block g holds the bytes that are left, and cs behind them. -/
def St (w : World) (g : Nat) (cs : List Value) (T : TypeId) (l : List UInt8) : Prop :=
  ∃ A c, w.heap[g]? = some (.cells (.slice A l.length c :: cs).toArray T (0, 0)) ∧ l.length ≤ c ∧ l.length ≤ 9223372036854775807 ∧ (A = none → c = 0) ∧ Rd w A l ∧ ∀ ad, A = some ad → ad.block < g
/-- Bytes in blocks below g. -/
def Low (w : World) (g : Nat) (v : Value) (l : List UInt8) : Prop := ∃ A c, v = .slice A l.length c ∧ l.length ≤ c ∧ (A = none → c = 0) ∧ Rd w A l ∧ ∀ ad, A = some ad → ad.block < g
theorem Rd.low {w w' : World} {A : Option Addr} {l : List UInt8} {g : Nat} (h : Rd w A l) (hA : ∀ ad, A = some ad → ad.block < g) (hb : Below g w w') : Rd w' A l := fun h0 => by
  obtain ⟨b, off, rfl, hlt, hc⟩ := h h0
  have hg := hA _ rfl
  exact ⟨b, off, rfl, Nat.lt_of_lt_of_le hlt hb.size, fun j hj => (hb.cell (p := ⟨b, off + j, none⟩) hg).trans (hc j hj)⟩
theorem Low.below {w w' : World} {g : Nat} {v : Value} {l : List UInt8} (h : Low w g v l) (hb : Below g w w') : Low w' g v l := by
  obtain ⟨A, c, rfl, h1, h2, h3, h4⟩ := h
  exact ⟨A, c, rfl, h1, h2, h3.low h4 hb, h4⟩
theorem set_grown (w : World) (g o : Nat) (u : Value) : w.grownBy (w.setCell ⟨g, o, none⟩ u) (some g) :=
  ⟨rfl, rfl, rfl, by simp [World.setCell], fun k _ hk => Below.heap_setCell w ⟨g, o, none⟩ u k (fun e => hk (by rw [e]))⟩
theorem grown_belowAt {w w' : World} {g : Nat} (h : w.grownBy w' (some g)) (hg : g ≤ w.heap.size) : Below g w w' :=
  ⟨h.os, h.tape, h.output, h.size, fun k hk => h.block k (by omega) (fun e => by cases e; omega)⟩
theorem block_set (w : World) (g : Nat) (x u : Value) (cs : List Value) (T : TypeId) (h : w.heap[g]? = some (.cells (x :: cs).toArray T (0, 0))) : (w.setCell ⟨g, 0, none⟩ u).heap[g]? = some (.cells (u :: cs).toArray T (0, 0)) := by
  simp [World.setCell, Array.getElem?_modify, h]
theorem drop_subA {A : Option Addr} {k c g : Nat} (h : ∀ ad, A = some ad → ad.block < g) : ∀ ad, subA A k c = some ad → ad.block < g := by
  intro ad
  unfold subA
  split
  · exact h ad
  · cases A with
    | none => intro h; cases h
    | some a =>
      intro h1
      have := h a rfl
      simp only [Option.map_some, Option.some.injEq] at h1
      rw [← h1]
      unfold Addr.add
      split <;> exact this
theorem take_st (g : Nat) (cs : List Value) (T : TypeId) (l : List UInt8) (k : Nat) (w : World) (h : St w g cs T l) (hk : k ≤ l.length) :
    Calls Tryd.prog 32 #[.pointer (some ⟨g, 0, none⟩), .int .i64 k] w fun e w' => ∃ v, e = .returned v ∧ Low w' g v (l.take k) ∧ St w' g cs T (l.drop k) ∧ w.grownBy w' (some g) := by
  obtain ⟨A, c, hg, hc, hm, hn, hr, hA⟩ := h
  have hlt := (Array.getElem?_eq_some_iff.1 hg).1
  have hcell : w.cell? ⟨g, 0, none⟩ = some (.slice A l.length c) := by simp [World.cell?, hg]
  have hfree : w.frozen? ⟨g, 0, none⟩ = false := by simp [World.frozen?, hg]
  refine (take_yes g 0 A l.length c k w hcell hfree hk hc hm).mono ?_
  rintro e w' ⟨rfl, rfl⟩
  have hgr := set_grown w g 0 (.slice (subA A k c) (l.length - k) (c - k))
  have hb := grown_belowAt hgr (by omega)
  have hlk : (l.take k).length = k := by rw [List.length_take]; omega
  refine ⟨_, rfl, ⟨A, c, by rw [hlk], by omega, hn, (hr.take k).low hA hb, hA⟩, ⟨subA A k c, c - k, ?_, by rw [List.length_drop]; omega, by rw [List.length_drop]; omega, subA_none hn, (hr.drop k c hc).low (drop_subA hA) hb, drop_subA hA⟩, hgr⟩
  rw [List.length_drop]
  exact block_set w g _ _ cs T hg
theorem take_bad (g : Nat) (cs : List Value) (T : TypeId) (l : List UInt8) (k : Nat) (w : World) (h : St w g cs T l) (hk : l.length < k) (hk2 : k ≤ 9223372036854775807) :
    Calls Tryd.prog 32 #[.pointer (some ⟨g, 0, none⟩), .int .i64 k] w fun e w' => e = .panicked (torn 121) ∧ w' = w := by
  obtain ⟨A, c, hg, hc, hm, hn, hr, hA⟩ := h
  have hcell : w.cell? ⟨g, 0, none⟩ = some (.slice A l.length c) := by simp [World.cell?, hg]
  exact take_no g 0 A l.length c k w hcell hk hk2
theorem St.drew {w : World} {g : Nat} {cs : List Value} {T : TypeId} {l : List UInt8} (h : St w g cs T l) (m : Nat) : St (w.drewN m) g cs T l := h
theorem grown_drew {w w' : World} {row : Option Nat} (h : w.grownBy w' row) (m : Nat) : w.grownBy (w'.drewN m) row := ⟨h.os, h.tape, h.output, h.size, h.block⟩
theorem number_st (g : Nat) (cs : List Value) (T : TypeId) (l : List UInt8) (w : World) (h : St w g cs T l) (hk : 4 ≤ l.length) :
    Calls Tryd.prog 34 #[.pointer (some ⟨g, 0, none⟩)] w fun e w' => e = .returned (.int .i64 (of4 (l.take 4))) ∧ St w' g cs T (l.drop 4) ∧ w.grownBy w' (some g) := by
  have H := Lib.hid h
  clear h
  go_enter Tryd.func34, Tryd.ntmps34
  go_wp2_with fail
  refine (take_st g cs T l 4 w H.out hk).mono ?_
  rintro e w1 ⟨v, rfl, ⟨A, c, rfl, h1, h2, h3, h4⟩, hst, hgr⟩
  have hl4 : (l.take 4).length = 4 := by rw [List.length_take]; omega
  have hlt := of4_lt (l.take 4)
  have HST := Lib.hid hst
  have HG := Lib.hid hgr
  rw [hl4]
  clear hst hgr h1 h2 h4
  go_wp2_with fail
  refine (of_yes A c _ w1 hl4 h3).mono ?_
  rintro e w2 ⟨rfl, m, rfl⟩
  have HST2 := HST.out.drew m
  have HG2 := grown_drew HG.out m
  go_wp2
  go_ret
  exact ⟨rfl, HST2, HG2⟩
theorem number_bad (g : Nat) (cs : List Value) (T : TypeId) (l : List UInt8) (w : World) (h : St w g cs T l) (hk : l.length < 4) :
    Calls Tryd.prog 34 #[.pointer (some ⟨g, 0, none⟩)] w fun e w' => e = .panicked (torn 121) ∧ w' = w := by
  have H := Lib.hid h
  clear h
  go_enter Tryd.func34, Tryd.ntmps34
  go_wp2_with fail
  refine (take_bad g cs T l 4 w H.out hk (by omega)).mono ?_
  rintro e w1 ⟨rfl, rfl⟩
  exact post_panic rfl ⟨rfl, rfl⟩
end Go.Proofs.YthbhbjfmlmgeeaaDoor
