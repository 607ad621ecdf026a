/- A row of texts turned around. -/
import Derived.Test.YtnnlfhdjakabmaaDq
namespace Go.Proofs.Ytnnlfhdjakabmaa
open Go Go.RowKit
/-- The first k and the last k have changed places. -/
def Mix (ys zs : List Value) (n k : Nat) : Prop := zs.length = n ∧ ∀ p, p < n → zs[p]? = if p < k ∨ n ≤ p + k then ys[n - 1 - p]? else ys[p]?
theorem Mix.start {ys : List Value} {n : Nat} (h : ys.length = n) : Mix ys ys n 0 := ⟨h, fun p hp => by rw [if_neg (by omega)]⟩
theorem Mix.done {ys zs : List Value} {n k : Nat} (hy : ys.length = n) (h : Mix ys zs n k) (hk : n ≤ 2 * k + 1) : zs = ys.reverse := by
  apply List.ext_getElem?
  intro p
  by_cases hp : p < n
  · rw [h.2 p hp, List.getElem?_reverse (by omega), hy]
    split
    · rfl
    · congr 1
      omega
  · rw [List.getElem?_eq_none (by rw [h.1]; omega), List.getElem?_eq_none (by simp; omega)]
theorem Mix.swap {ys zs : List Value} {n k : Nat} {a b : Value} (h : Mix ys zs n k) (hk : 2 * k + 1 < n) (ha : zs[k]? = some a) (hb : zs[n - 1 - k]? = some b) : Mix ys ((zs.set k b).set (n - 1 - k) a) n (k + 1) := by
  refine ⟨by simp [h.1], fun p hp => ?_⟩
  have hl := h.1
  have h1 := h.2 k (by omega)
  rw [if_neg (by omega), ha] at h1
  have h2 := h.2 (n - 1 - k) (by omega)
  rw [if_neg (by omega), hb] at h2
  by_cases e1 : p = n - 1 - k
  · subst e1
    rw [List.getElem?_set_self (by simp; omega), if_pos (by omega), show n - 1 - (n - 1 - k) = k by omega, h1]
  · rw [List.getElem?_set_ne (by omega)]
    by_cases e2 : p = k
    · subst e2
      rw [List.getElem?_set_self (by omega), if_pos (by omega), h2]
    · rw [List.getElem?_set_ne (by omega), h.2 p hp]
      by_cases hc : p < k ∨ n ≤ p + k
      · rw [if_pos hc, if_pos (by omega)]
      · rw [if_neg hc, if_neg (by omega)]
theorem Mix.str {xs : List ByteArray} {zs : List Value} {n k p : Nat} {a : Value} (h : Mix (cellsS xs) zs n k) (hp : p < n) (ha : zs[p]? = some a) : ∃ s, a = .string s := by
  have h1 := h.2 p hp
  rw [ha] at h1
  have key : ∀ q : Nat, some a = (cellsS xs)[q]? → ∃ s, a = .string s := by
    intro q hq
    simp only [cellsS, List.getElem?_map] at hq
    cases hx : xs[q]? with
    | none => rw [hx] at hq; cases hq
    | some s => rw [hx] at hq; cases hq; exact ⟨s, rfl⟩
  split at h1
  · exact key _ h1
  · exact key _ h1
def RevQ (B : Nat) (v : Value) (n : Nat) (xs : List ByteArray) (w : World) (e : Ending) (w' : World) : Prop := e = .returned (.tuple #[]) ∧ w'.ownsRow B 9 1 v n (cellsS xs.reverse) ∧ w.grownBy w' v.ownBlock
theorem cellsS_rev (xs : List ByteArray) : cellsS xs.reverse = (cellsS xs).reverse := by simp [cellsS]
theorem grown_refl (w : World) (r : Option Nat) : w.grownBy w r := ⟨rfl, rfl, rfl, Nat.le_refl _, fun _ _ _ => rfl⟩
theorem grown_drew {w W : World} {r : Option Nat} (h : w.grownBy W r) : w.grownBy W.drew r := ⟨h.os, h.tape, h.output, h.size, h.block⟩
theorem grown_trans {w W V : World} {r : Option Nat} (h : w.grownBy W r) (k : W.grownBy V r) : w.grownBy V r := ⟨k.os.trans h.os, k.tape.trans h.tape, k.output.trans h.output, Nat.le_trans h.size k.size, fun i hi hr => (k.block i (Nat.lt_of_lt_of_le hi h.size) hr).trans (h.block i hi hr)⟩
set_option maxHeartbeats 2000000 in
theorem rev_any (B n : Nat) (v : Value) (xs : List ByteArray) (w : World) (h : w.ownsRow B 9 1 v n (cellsS xs)) (hn : n ≤ 9223372036854775807) :
    Calls Try.prog 48 #[v] w (RevQ B v n xs w) := by
  have hl : (cellsS xs).length = n := by have := h.1; omega
  obtain ⟨A, c, rfl, -⟩ := own_rdV h
  have HO := Lib.hid h
  have HL := Lib.hid hl
  clear h hl
  go_enter Try.func48, Try.ntmps48
  go_wp2
  go_loopw [2, 3] (fun i j W => ∃ (k : Nat) (zs : List Value), i = .int .i64 k ∧ j = .int .i64 ((n : Int) - 1 - k) ∧ 2 * k ≤ n ∧ Hid (W.ownsRow B 9 1 (.slice A n c) n zs) ∧ Hid (Mix (cellsS xs) zs n k) ∧ Hid (w.grownBy W (Value.slice A n c).ownBlock)) (fun i _ _ => n - (intOf i).toNat)
  case atStart => exact ⟨0, cellsS xs, rfl, by simp, by omega, HO, Lib.hid (Mix.start HL.out), Lib.hid (grown_refl _ _)⟩
  case round =>
    obtain ⟨k, zs, rfl, rfl, hk, HW, HM, HG⟩ := hrel
    by_cases hlt : (k : Int) < (n : Int) - 1 - k
    · have hk1 : 2 * k + 1 < n := by omega
      obtain ⟨g, cg, hv, -, -, -, hob, hcell, hfr⟩ := row_form HW.out (by omega)
      obtain ⟨rfl, -, rfl⟩ : A = some ⟨g, 0, none⟩ ∧ n = n ∧ c = cg := by simpa using hv
      have hzl := HM.out.1
      obtain ⟨a, ha⟩ : ∃ a, zs[k]? = some a := ⟨_, List.getElem?_eq_getElem (by omega)⟩
      obtain ⟨b, hb⟩ : ∃ b, zs[n - 1 - k]? = some b := ⟨_, List.getElem?_eq_getElem (by omega)⟩
      have h1 := hcell k a ha
      have h2 := hcell (n - 1 - k) b hb
      have f1 := hfr k
      have f2 := hfr (n - 1 - k)
      obtain ⟨m, hm⟩ : ∃ m, m = n - 1 - k := ⟨_, rfl⟩
      have hmi : (n : Int) - 1 - (k : Int) = (m : Int) := by omega
      rw [← hm] at h2 f2 hb
      have hkm : k < m := by omega
      have hmn : m < n := by omega
      have HSW := Lib.hid (HM.out.swap hk1 ha (by rw [← hm]; exact hb))
      rw [← hm] at HSW
      have o1 := HW.out.stored k b
      have o2 := o1.1.stored m a
      have HO2 := Lib.hid o2.1
      have HG2 := Lib.hid (grown_trans HG.out (grown_trans o1.2 o2.2))
      have hs : ∃ s, a = .string s := Mix.str HM.out (by omega) ha
      have hs2 : ∃ s, b = .string s := Mix.str HM.out hmn hb
      obtain ⟨sa, rfl⟩ := hs
      obtain ⟨sb, rfl⟩ := hs2
      have hk0 : (0 : Int) ≤ (k : Int) := by omega
      have hkn : (k : Int) < (n : Int) := by omega
      have hm0 : (0 : Int) ≤ (m : Int) := by omega
      have hmn' : (m : Int) < (n : Int) := by omega
      have HMI := Lib.hid hmi
      have hkm' : (k : Int) < (m : Int) := by omega
      rw [hmi]
      clear hcell hfr ha hb hm o1 o2 hv hob hlt hmi
      have hne : ¬ k = m := by omega
      have hne' : ¬ m = k := by omega
      have h2' : (wr.setCell ⟨g, k, none⟩ (.string sb)).cell? ⟨g, m, none⟩ = some (.string sb) := (World.cell?_setCell_other _ ⟨g, k, none⟩ ⟨g, m, none⟩ _ (by simp [hne])).trans h2
      go_wp2
      go_region
      all_goals
        have HO3 := Lib.hid (World.ownsRow.drew HO2.out)
        have HG3 := Lib.hid (grown_drew HG2.out)
        generalize ((wr.setCell ⟨g, k, none⟩ (.string sb)).setCell ⟨g, m, none⟩ (.string sa)).drew = w4 at *
        have hj : (m : Int) - 1 = (n : Int) - 1 - ((k + 1 : Nat) : Int) := by have := HMI.out; omega
        go_wp2_with fail
        go_roundw
        case rel => exact ⟨k + 1, _, by go_num, by first | go_num | simp, by omega, HO3, HSW, HG3⟩
        case measure => simp [intOf]; omega
    · have HZ := Lib.hid (HM.out.done HL.out (by omega))
      go_wp2
      go_end0
      exact ⟨rfl, by rw [cellsS_rev, ← HZ.out]; exact HW.out, HG.out⟩
end Go.Proofs.Ytnnlfhdjakabmaa
