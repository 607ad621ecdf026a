/- Values of any kind: what the small functions tell of them. -/
import Derived.Test.YthbnhplkoomdhaaDoorBase
namespace Go.Proofs.YthbnhplkoomdhaaDoor
open Go Go.RowKit
abbrev valA (k n : Int) (t : Array UInt8) : Value := .agg #[.int .i64 k, .int .i64 n, .string { data := t }]
/-- May a value be? -/
def chk (k n : Int) (t : Array UInt8) : Bool :=
  if k = 3 then n == 0 else if t ≠ #[] then false else if k = 0 then n == 0 else if k = 1 then (n == 0 || n == 1) else if k = 2 then true else if k = 4 then decide (n ≥ 0) else false
theorem not_empty {t : Array UInt8} (h : ¬ t = #[]) : (ByteArray.mk t).toList.isEmpty = false := by
  rw [ByteArray.toList_eq]
  cases hl : t.toList with
  | nil => exact absurd (by simpa using hl) h
  | cons _ _ => simp [hl]
theorem check_any (k n : Int) (t : Array UInt8) (w : World) :
    Calls Tryd.prog 20 #[valA k n t] w fun e w' => e = .returned (.bool (chk k n t)) ∧ Below w.heap.size w w' := by
  have hb := (Below.refl w.heap.size w).alloc (Nat.le_refl _) (.cells #[.int .i64 k, .int .i64 n, .string { data := t }] 24)
  by_cases h3 : k = 3
  · subst h3
    go_enter Tryd.func20, Tryd.ntmps20
    go_wp2
    go_ret
    exact ⟨rfl, hb⟩
  by_cases ht : t = #[]
  · subst ht
    have b3 := beq_no k 3 h3
    have n3 := bne_of k 3 h3
    by_cases h0 : k = 0
    · subst h0
      go_enter Tryd.func20, Tryd.ntmps20
      go_wp2
      go_ret
      exact ⟨by simp [chk], hb⟩
    by_cases h1 : k = 1
    · subst h1
      by_cases hn : n = 0
      · subst hn
        go_enter Tryd.func20, Tryd.ntmps20
        go_wp2
        go_ret
        exact ⟨by simp [chk], hb⟩
      · have hn0 := beq_no n 0 hn
        go_enter Tryd.func20, Tryd.ntmps20
        go_wp2
        go_ret
        exact ⟨by simp [chk, hn], hb⟩
    by_cases h2 : k = 2
    · subst h2
      go_enter Tryd.func20, Tryd.ntmps20
      go_wp2
      go_ret
      exact ⟨by simp [chk], hb⟩
    by_cases h4 : k = 4
    · subst h4
      go_enter Tryd.func20, Tryd.ntmps20
      go_wp2
      go_ret
      exact ⟨by simp [chk], hb⟩
    have b0 := beq_no k 0 h0
    have b1 := beq_no k 1 h1
    have b2 := beq_no k 2 h2
    have b4 := beq_no k 4 h4
    go_enter Tryd.func20, Tryd.ntmps20
    go_wp2
    go_ret
    exact ⟨by simp [chk, h0, h1, h2, h3, h4], hb⟩
  · have b3 := beq_no k 3 h3
    have n3 := bne_of k 3 h3
    have hne := not_empty ht
    go_enter Tryd.func20, Tryd.ntmps20
    go_wp2
    go_ret
    exact ⟨by simp [chk, h3, ht], hb⟩
end Go.Proofs.YthbnhplkoomdhaaDoor
