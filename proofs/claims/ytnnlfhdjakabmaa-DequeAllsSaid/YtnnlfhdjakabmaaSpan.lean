/- The span of a list, and an item's place. -/
import Derived.Test.YtnnlfhdjakabmaaBase
namespace Go.Proofs.Ytnnlfhdjakabmaa
open Go Go.RowKit
def loF (n f : Int) : Int := if f < 0 then max (f + n) 0 else f
def hiF (n u : Int) : Int := min (if u < 0 then u + n else u) (n - 1)
def spanF (n f u : Int) : Int × Int := if n < 1 ∨ hiF n u < 0 ∨ loF n f > hiF n u then (0, 0) else (loF n f, hiF n u + 1)
def placeF (n a : Int) : Int × Bool := if n < 1 ∨ (if a < 0 then a + n else a) < 0 ∨ n ≤ (if a < 0 then a + n else a) then (0, false) else (if a < 0 then a + n else a, true)
theorem loF_nn (n f : Int) : 0 ≤ loF n f := by unfold loF; split <;> omega
theorem hiF_lt (n u : Int) : hiF n u ≤ n - 1 := by unfold hiF; omega
/-- What the reference's loop has behind k items. -/
def partF (n f u : Int) (k : Int) : Int × Int := if loF n f < k ∧ loF n f < hiF n u + 1 then (loF n f, min k (hiF n u + 1)) else (0, 0)
theorem partF_zero (n f u : Int) : partF n f u 0 = (0, 0) := by
  unfold partF
  rw [if_neg (by have := loF_nn n f; omega)]
theorem partF_end (n f u : Int) (hn : 0 ≤ n) : partF n f u n = spanF n f u := by
  have h1 := loF_nn n f
  have h2 := hiF_lt n u
  unfold partF spanF
  by_cases h : loF n f < n ∧ loF n f < hiF n u + 1
  · rw [if_pos h, if_neg (by omega)]
    congr 1
    omega
  · rw [if_neg h, if_pos (by omega)]
theorem spanF_le (n f u : Int) (hn : 0 ≤ n) : 0 ≤ (spanF n f u).1 ∧ (spanF n f u).1 ≤ (spanF n f u).2 ∧ (spanF n f u).2 ≤ n := by
  have h1 := loF_nn n f
  have h2 := hiF_lt n u
  unfold spanF
  split
  · simp; omega
  · simp; omega
theorem ret_two {a b c d : Int} (h : a = c) (h2 : b = d) : Ending.returned (.tuple #[.int .i64 a, .int .i64 b]) = .returned (.tuple #[.int .i64 c, .int .i64 d]) := by rw [h, h2]
theorem ret_ib {a b : Int} {x y : Bool} (h : a = b) (h2 : x = y) : Ending.returned (.tuple #[.int .i64 a, .bool x]) = .returned (.tuple #[.int .i64 b, .bool y]) := by rw [h, h2]
theorem ret_span {n f u a b : Int} (h : spanF n f u = (a, b)) : Ending.returned (.tuple #[.int .i64 a, .int .i64 b]) = .returned (.tuple #[.int .i64 (spanF n f u).1, .int .i64 (spanF n f u).2]) := by rw [h]
theorem ret_place {n a x : Int} {y : Bool} (h : placeF n a = (x, y)) : Ending.returned (.tuple #[.int .i64 x, .bool y]) = .returned (.tuple #[.int .i64 (placeF n a).1, .bool (placeF n a).2]) := by rw [h]
theorem span_is {n f u a b lo hi : Int} (h1 : loF n f = lo) (h2 : hiF n u = hi) (h : (n < 1 ∨ hi < 0 ∨ lo > hi) ∧ a = 0 ∧ b = 0 ∨ ¬ (n < 1 ∨ hi < 0 ∨ lo > hi) ∧ a = lo ∧ b = hi + 1) : spanF n f u = (a, b) := by
  unfold spanF
  rw [h1, h2]
  rcases h with ⟨h, rfl, rfl⟩ | ⟨h, rfl, rfl⟩
  · rw [if_pos h]
  · rw [if_neg h]
theorem place_is {n a x z : Int} {y : Bool} (hz : (if a < 0 then a + n else a) = z) (h : (n < 1 ∨ z < 0 ∨ n ≤ z) ∧ x = 0 ∧ y = false ∨ ¬ (n < 1 ∨ z < 0 ∨ n ≤ z) ∧ x = z ∧ y = true) : placeF n a = (x, y) := by
  unfold placeF
  rw [hz]
  rcases h with ⟨h, rfl, rfl⟩ | ⟨h, rfl, rfl⟩
  · rw [if_pos h]
  · rw [if_neg h]
theorem place_yes {n a z : Int} (hz : (if a < 0 then a + n else a) = z) (h1 : 0 ≤ z) (h2 : z < n) : placeF n a = (z, true) := place_is hz (.inr ⟨by omega, rfl, rfl⟩)
theorem place_no {n a z : Int} (hz : (if a < 0 then a + n else a) = z) (h : n < 1 ∨ z < 0 ∨ n ≤ z) : placeF n a = (0, false) := place_is hz (.inl ⟨h, rfl, rfl⟩)
theorem part_in {n f u k x y : Int} (hk : 0 ≤ k) (hin : loF n f ≤ k ∧ k < hiF n u + 1) (hp : partF n f u k = (x, y)) : partF n f u (k + 1) = (if y = 0 then k else x, k + 1) := by
  have h1 := loF_nn n f
  unfold partF at hp ⊢
  rw [if_pos (by omega)]
  by_cases h : loF n f < k
  · rw [if_pos (by omega)] at hp
    simp only [Prod.mk.injEq] at hp ⊢
    rw [if_neg (by omega)]
    omega
  · rw [if_neg (by omega)] at hp
    simp only [Prod.mk.injEq] at hp ⊢
    rw [if_pos (by omega)]
    omega
theorem part_out {n f u k x y : Int} (hk : 0 ≤ k) (hin : ¬ (loF n f ≤ k ∧ k < hiF n u + 1)) (hp : partF n f u k = (x, y)) : partF n f u (k + 1) = (x, y) := by
  have h1 := loF_nn n f
  rw [← hp]
  unfold partF
  by_cases h : loF n f < k ∧ loF n f < hiF n u + 1
  · rw [if_pos h, if_pos (by omega)]
    congr 1
    omega
  · rw [if_neg h, if_neg (by omega)]
theorem spanF_few {n f u : Int} (h : n < 1) : spanF n f u = (0, 0) := by unfold spanF; rw [if_pos (.inl h)]
theorem placeF_few {n a : Int} (h : n < 1) : placeF n a = (0, false) := by unfold placeF; rw [if_pos (.inl h)]
set_option maxHeartbeats 1000000 in
theorem span_any (n f u : Int) (w : World) (n1 : -9223372036854775808 ≤ n) (n2 : n ≤ 1000000000000) (f1 : -9223372036854775808 ≤ f) (f2 : f ≤ 9223372036854775807) (u1 : -9223372036854775808 ≤ u) (u2 : u ≤ 9223372036854775807) :
    Calls Try.prog 14 #[.int .i64 n, .int .i64 f, .int .i64 u] w fun e w' => e = .returned (.tuple #[.int .i64 (spanF n f u).1, .int .i64 (spanF n f u).2]) ∧ w' = w := by
  by_cases hn : n < 1
  · go_enter Try.func14, Try.ntmps14
    go_wp2
    all_goals
      go_ret2
      exact ⟨ret_two (by rw [spanF_few hn]) (by rw [spanF_few hn]), rfl⟩
  · by_cases hf : f < 0
    · by_cases hfn : f + n < 0
      · by_cases hu : u < 0
        · have HL := Lib.hid (show loF n f = 0 by unfold loF; rw [if_pos hf]; omega)
          have HH := Lib.hid (show hiF n u = u + n by unfold hiF; rw [if_pos hu]; omega)
          go_enter Try.func14, Try.ntmps14
          go_wp2
          all_goals
            go_ret2
            exact ⟨ret_span (span_is HL.out HH.out (by omega)), rfl⟩
        · by_cases hun : u ≤ n - 1
          · have HL := Lib.hid (show loF n f = 0 by unfold loF; rw [if_pos hf]; omega)
            have HH := Lib.hid (show hiF n u = u by unfold hiF; rw [if_neg hu]; omega)
            go_enter Try.func14, Try.ntmps14
            go_wp2
            all_goals
              go_ret2
              exact ⟨ret_span (span_is HL.out HH.out (by omega)), rfl⟩
          · have HL := Lib.hid (show loF n f = 0 by unfold loF; rw [if_pos hf]; omega)
            have HH := Lib.hid (show hiF n u = n - 1 by unfold hiF; rw [if_neg hu]; omega)
            go_enter Try.func14, Try.ntmps14
            go_wp2
            all_goals
              go_ret2
              exact ⟨ret_span (span_is HL.out HH.out (by omega)), rfl⟩
      · by_cases hu : u < 0
        · have HL := Lib.hid (show loF n f = f + n by unfold loF; rw [if_pos hf]; omega)
          have HH := Lib.hid (show hiF n u = u + n by unfold hiF; rw [if_pos hu]; omega)
          go_enter Try.func14, Try.ntmps14
          go_wp2
          all_goals
            go_ret2
            exact ⟨ret_span (span_is HL.out HH.out (by omega)), rfl⟩
        · by_cases hun : u ≤ n - 1
          · have HL := Lib.hid (show loF n f = f + n by unfold loF; rw [if_pos hf]; omega)
            have HH := Lib.hid (show hiF n u = u by unfold hiF; rw [if_neg hu]; omega)
            go_enter Try.func14, Try.ntmps14
            go_wp2
            all_goals
              go_ret2
              exact ⟨ret_span (span_is HL.out HH.out (by omega)), rfl⟩
          · have HL := Lib.hid (show loF n f = f + n by unfold loF; rw [if_pos hf]; omega)
            have HH := Lib.hid (show hiF n u = n - 1 by unfold hiF; rw [if_neg hu]; omega)
            go_enter Try.func14, Try.ntmps14
            go_wp2
            all_goals
              go_ret2
              exact ⟨ret_span (span_is HL.out HH.out (by omega)), rfl⟩
    · by_cases hu : u < 0
      · have HL := Lib.hid (show loF n f = f by unfold loF; rw [if_neg hf])
        have HH := Lib.hid (show hiF n u = u + n by unfold hiF; rw [if_pos hu]; omega)
        go_enter Try.func14, Try.ntmps14
        go_wp2
        all_goals
          go_ret2
          exact ⟨ret_span (span_is HL.out HH.out (by omega)), rfl⟩
      · by_cases hun : u ≤ n - 1
        · have HL := Lib.hid (show loF n f = f by unfold loF; rw [if_neg hf])
          have HH := Lib.hid (show hiF n u = u by unfold hiF; rw [if_neg hu]; omega)
          go_enter Try.func14, Try.ntmps14
          go_wp2
          all_goals
            go_ret2
            exact ⟨ret_span (span_is HL.out HH.out (by omega)), rfl⟩
        · have HL := Lib.hid (show loF n f = f by unfold loF; rw [if_neg hf])
          have HH := Lib.hid (show hiF n u = n - 1 by unfold hiF; rw [if_neg hu]; omega)
          go_enter Try.func14, Try.ntmps14
          go_wp2
          all_goals
            go_ret2
            exact ⟨ret_span (span_is HL.out HH.out (by omega)), rfl⟩
set_option maxHeartbeats 1000000 in
theorem place_any (n a : Int) (w : World) (n1 : -9223372036854775808 ≤ n) (n2 : n ≤ 1000000000000) (f1 : -9223372036854775808 ≤ a) (f2 : a ≤ 9223372036854775807) :
    Calls Try.prog 16 #[.int .i64 n, .int .i64 a] w fun e w' => e = .returned (.tuple #[.int .i64 (placeF n a).1, .bool (placeF n a).2]) ∧ w' = w := by
  by_cases hn : n < 1
  · go_enter Try.func16, Try.ntmps16
    go_wp2
    all_goals
      go_ret2
      exact ⟨ret_place (placeF_few hn), rfl⟩
  · by_cases ha : a < 0
    · go_enter Try.func16, Try.ntmps16
      go_wp2
      all_goals
        go_ret2
        (first | exact ⟨ret_place (place_yes (if_pos ha) (by omega) (by omega)), rfl⟩ | exact ⟨ret_place (place_no (if_pos ha) (by omega)), rfl⟩)
    · go_enter Try.func16, Try.ntmps16
      go_wp2
      all_goals
        go_ret2
        (first | exact ⟨ret_place (place_yes (if_neg (by omega)) (by omega) (by omega)), rfl⟩ | exact ⟨ret_place (place_no (if_neg (by omega)) (by omega)), rfl⟩)
set_option maxHeartbeats 1000000 in
theorem rplace_any (n a : Int) (w : World) (n1 : -9223372036854775808 ≤ n) (n2 : n ≤ 1000000000000) (f1 : -9223372036854775808 ≤ a) (f2 : a ≤ 9223372036854775807) :
    Calls Try.prog 17 #[.int .i64 n, .int .i64 a] w fun e w' => e = .returned (.tuple #[.int .i64 (placeF n a).1, .bool (placeF n a).2]) ∧ w' = w := by
  go_enter Try.func17, Try.ntmps17
  go_wp2
  go_loop [6] (fun i => ∃ k : Int, 0 ≤ k ∧ (k ≤ n ∨ k = 0) ∧ i = .int .i64 k ∧ Hid (∀ j : Int, 0 ≤ j → j < k → j ≠ a ∧ j - n ≠ a)) (fun i => (n - intOf i).toNat)
  case atStart => exact ⟨0, by omega, by omega, rfl, Lib.hid fun j h1 h2 => by omega⟩
  case round =>
    obtain ⟨k, hk, hk2, rfl, HK⟩ := hrel
    by_cases hlt : k < n
    · by_cases h1 : k = a
      · subst h1
        go_wp2
        go_ret2
        exact ⟨ret_place (place_yes (if_neg (by omega)) (by omega) (by omega)), rfl⟩
      · have e1 : (k == a) = false := by simpa using h1
        by_cases h2 : k - n = a
        · have e2 : (k - n == a) = true := by simpa using h2
          have H2 := Lib.hid h2
          have H1 := Lib.hid h1
          clear h1 h2
          go_wp2
          go_ret2
          have h1 := H1.out
          have h2 := H2.out
          exact ⟨ret_place (place_yes (by rw [if_pos (by omega)]; omega) (by omega) (by omega)), rfl⟩
        · have e2 : (k - n == a) = false := by simpa using h2
          have H2 := Lib.hid h2
          have H1 := Lib.hid h1
          clear h1 h2
          go_wp2
          go_round
          case rel => exact ⟨k + 1, by omega, by omega, rfl, Lib.hid fun j j1 j2 => by
            by_cases hj : j = k
            · subst hj; exact ⟨H1.out, H2.out⟩
            · exact HK.out j j1 (by omega)⟩
          case measure => simp [intOf]; omega
    · have HN := HK
      go_wp2
      go_ret2
      have h := HN.out
      refine ⟨ret_place ?_, rfl⟩
      by_cases hn : n < 1
      · exact placeF_few hn
      · have h1 := h a
        have h2 := h (a + n)
        by_cases ha : a < 0
        · exact place_no (if_pos ha) (by omega)
        · exact place_no (if_neg ha) (by omega)
set_option maxHeartbeats 2000000 in
theorem rspan_any (n f u : Int) (w : World) (n1 : -9223372036854775808 ≤ n) (n2 : n ≤ 1000000000000) (f1 : -9223372036854775808 ≤ f) (f2 : f ≤ 9223372036854775807) (u1 : -9223372036854775808 ≤ u) (u2 : u ≤ 9223372036854775807) :
    Calls Try.prog 15 #[.int .i64 n, .int .i64 f, .int .i64 u] w fun e w' => e = .returned (.tuple #[.int .i64 (spanF n f u).1, .int .i64 (spanF n f u).2]) ∧ w' = w := by
  go_enter Try.func15, Try.ntmps15
  go_wp2
  go_loop [8, 9, 10] (fun a b i => ∃ k x y : Int, 0 ≤ k ∧ (k ≤ n ∨ k = 0) ∧ i = .int .i64 k ∧ a = .int .i64 x ∧ b = .int .i64 y ∧ Hid (partF n f u k = (x, y))) (fun _ _ i => (n - intOf i).toNat)
  case atStart => exact ⟨0, 0, 0, by omega, by omega, rfl, rfl, rfl, Lib.hid (partF_zero n f u)⟩
  case round =>
    obtain ⟨k, x, y, hk, hk2, rfl, rfl, rfl, HP⟩ := hrel
    by_cases hlt : k < n
    · by_cases hf : f < 0
      · by_cases hu : u < 0
        · have LO := Lib.hid (show loF n f = max (f + n) 0 by unfold loF; rw [if_pos hf])
          have HI := Lib.hid (show hiF n u = min (u + n) (n - 1) by unfold hiF; rw [if_pos hu])
          by_cases c1 : f ≤ k - n
          · by_cases c2 : k - n ≤ u
            · have HPI := Lib.hid (part_in hk (show loF n f ≤ k ∧ k < hiF n u + 1 by rw [LO.out, HI.out]; omega) HP.out)
              clear HP
              by_cases hy : y = 0
              · subst hy
                rw [if_pos rfl] at HPI
                go_wp2
                go_round
                case rel => exact ⟨k + 1, k, k + 1, by omega, by omega, rfl, rfl, rfl, HPI⟩
                case measure => simp [intOf]; omega
              · rw [if_neg hy] at HPI
                have e1 : (y == 0) = false := by simpa using hy
                clear hy
                go_wp2
                go_round
                case rel => exact ⟨k + 1, x, k + 1, by omega, by omega, rfl, rfl, rfl, HPI⟩
                case measure => simp [intOf]; omega
            · have HPO := Lib.hid (part_out hk (show ¬ (loF n f ≤ k ∧ k < hiF n u + 1) by rw [LO.out, HI.out]; omega) HP.out)
              clear HP
              go_wp2
              go_round
              case rel => exact ⟨k + 1, x, y, by omega, by omega, rfl, rfl, rfl, HPO⟩
              case measure => simp [intOf]; omega
          · by_cases c2 : k - n ≤ u
            · have HPO := Lib.hid (part_out hk (show ¬ (loF n f ≤ k ∧ k < hiF n u + 1) by rw [LO.out, HI.out]; omega) HP.out)
              clear HP
              go_wp2
              go_round
              case rel => exact ⟨k + 1, x, y, by omega, by omega, rfl, rfl, rfl, HPO⟩
              case measure => simp [intOf]; omega
            · have HPO := Lib.hid (part_out hk (show ¬ (loF n f ≤ k ∧ k < hiF n u + 1) by rw [LO.out, HI.out]; omega) HP.out)
              clear HP
              go_wp2
              go_round
              case rel => exact ⟨k + 1, x, y, by omega, by omega, rfl, rfl, rfl, HPO⟩
              case measure => simp [intOf]; omega
        · have LO := Lib.hid (show loF n f = max (f + n) 0 by unfold loF; rw [if_pos hf])
          have HI := Lib.hid (show hiF n u = min u (n - 1) by unfold hiF; rw [if_neg hu])
          by_cases c1 : f ≤ k - n
          · by_cases c2 : k ≤ u
            · have HPI := Lib.hid (part_in hk (show loF n f ≤ k ∧ k < hiF n u + 1 by rw [LO.out, HI.out]; omega) HP.out)
              clear HP
              by_cases hy : y = 0
              · subst hy
                rw [if_pos rfl] at HPI
                go_wp2
                go_round
                case rel => exact ⟨k + 1, k, k + 1, by omega, by omega, rfl, rfl, rfl, HPI⟩
                case measure => simp [intOf]; omega
              · rw [if_neg hy] at HPI
                have e1 : (y == 0) = false := by simpa using hy
                clear hy
                go_wp2
                go_round
                case rel => exact ⟨k + 1, x, k + 1, by omega, by omega, rfl, rfl, rfl, HPI⟩
                case measure => simp [intOf]; omega
            · have HPO := Lib.hid (part_out hk (show ¬ (loF n f ≤ k ∧ k < hiF n u + 1) by rw [LO.out, HI.out]; omega) HP.out)
              clear HP
              go_wp2
              go_round
              case rel => exact ⟨k + 1, x, y, by omega, by omega, rfl, rfl, rfl, HPO⟩
              case measure => simp [intOf]; omega
          · by_cases c2 : k ≤ u
            · have HPO := Lib.hid (part_out hk (show ¬ (loF n f ≤ k ∧ k < hiF n u + 1) by rw [LO.out, HI.out]; omega) HP.out)
              clear HP
              go_wp2
              go_round
              case rel => exact ⟨k + 1, x, y, by omega, by omega, rfl, rfl, rfl, HPO⟩
              case measure => simp [intOf]; omega
            · have HPO := Lib.hid (part_out hk (show ¬ (loF n f ≤ k ∧ k < hiF n u + 1) by rw [LO.out, HI.out]; omega) HP.out)
              clear HP
              go_wp2
              go_round
              case rel => exact ⟨k + 1, x, y, by omega, by omega, rfl, rfl, rfl, HPO⟩
              case measure => simp [intOf]; omega
      · by_cases hu : u < 0
        · have LO := Lib.hid (show loF n f = f by unfold loF; rw [if_neg hf])
          have HI := Lib.hid (show hiF n u = min (u + n) (n - 1) by unfold hiF; rw [if_pos hu])
          by_cases c1 : f ≤ k
          · by_cases c2 : k - n ≤ u
            · have HPI := Lib.hid (part_in hk (show loF n f ≤ k ∧ k < hiF n u + 1 by rw [LO.out, HI.out]; omega) HP.out)
              clear HP
              by_cases hy : y = 0
              · subst hy
                rw [if_pos rfl] at HPI
                go_wp2
                go_round
                case rel => exact ⟨k + 1, k, k + 1, by omega, by omega, rfl, rfl, rfl, HPI⟩
                case measure => simp [intOf]; omega
              · rw [if_neg hy] at HPI
                have e1 : (y == 0) = false := by simpa using hy
                clear hy
                go_wp2
                go_round
                case rel => exact ⟨k + 1, x, k + 1, by omega, by omega, rfl, rfl, rfl, HPI⟩
                case measure => simp [intOf]; omega
            · have HPO := Lib.hid (part_out hk (show ¬ (loF n f ≤ k ∧ k < hiF n u + 1) by rw [LO.out, HI.out]; omega) HP.out)
              clear HP
              go_wp2
              go_round
              case rel => exact ⟨k + 1, x, y, by omega, by omega, rfl, rfl, rfl, HPO⟩
              case measure => simp [intOf]; omega
          · by_cases c2 : k - n ≤ u
            · have HPO := Lib.hid (part_out hk (show ¬ (loF n f ≤ k ∧ k < hiF n u + 1) by rw [LO.out, HI.out]; omega) HP.out)
              clear HP
              go_wp2
              go_round
              case rel => exact ⟨k + 1, x, y, by omega, by omega, rfl, rfl, rfl, HPO⟩
              case measure => simp [intOf]; omega
            · have HPO := Lib.hid (part_out hk (show ¬ (loF n f ≤ k ∧ k < hiF n u + 1) by rw [LO.out, HI.out]; omega) HP.out)
              clear HP
              go_wp2
              go_round
              case rel => exact ⟨k + 1, x, y, by omega, by omega, rfl, rfl, rfl, HPO⟩
              case measure => simp [intOf]; omega
        · have LO := Lib.hid (show loF n f = f by unfold loF; rw [if_neg hf])
          have HI := Lib.hid (show hiF n u = min u (n - 1) by unfold hiF; rw [if_neg hu])
          by_cases c1 : f ≤ k
          · by_cases c2 : k ≤ u
            · have HPI := Lib.hid (part_in hk (show loF n f ≤ k ∧ k < hiF n u + 1 by rw [LO.out, HI.out]; omega) HP.out)
              clear HP
              by_cases hy : y = 0
              · subst hy
                rw [if_pos rfl] at HPI
                go_wp2
                go_round
                case rel => exact ⟨k + 1, k, k + 1, by omega, by omega, rfl, rfl, rfl, HPI⟩
                case measure => simp [intOf]; omega
              · rw [if_neg hy] at HPI
                have e1 : (y == 0) = false := by simpa using hy
                clear hy
                go_wp2
                go_round
                case rel => exact ⟨k + 1, x, k + 1, by omega, by omega, rfl, rfl, rfl, HPI⟩
                case measure => simp [intOf]; omega
            · have HPO := Lib.hid (part_out hk (show ¬ (loF n f ≤ k ∧ k < hiF n u + 1) by rw [LO.out, HI.out]; omega) HP.out)
              clear HP
              go_wp2
              go_round
              case rel => exact ⟨k + 1, x, y, by omega, by omega, rfl, rfl, rfl, HPO⟩
              case measure => simp [intOf]; omega
          · by_cases c2 : k ≤ u
            · have HPO := Lib.hid (part_out hk (show ¬ (loF n f ≤ k ∧ k < hiF n u + 1) by rw [LO.out, HI.out]; omega) HP.out)
              clear HP
              go_wp2
              go_round
              case rel => exact ⟨k + 1, x, y, by omega, by omega, rfl, rfl, rfl, HPO⟩
              case measure => simp [intOf]; omega
            · have HPO := Lib.hid (part_out hk (show ¬ (loF n f ≤ k ∧ k < hiF n u + 1) by rw [LO.out, HI.out]; omega) HP.out)
              clear HP
              go_wp2
              go_round
              case rel => exact ⟨k + 1, x, y, by omega, by omega, rfl, rfl, rfl, HPO⟩
              case measure => simp [intOf]; omega
    · go_wp2
      go_ret2
      refine ⟨ret_span ?_, rfl⟩
      rw [← HP.out]
      by_cases hn : n < 1
      · rw [spanF_few hn]
        unfold partF
        rw [if_neg (by have := loF_nn n f; omega)]
      · obtain rfl : k = n := by omega
        exact (partF_end k f u (by omega)).symm
end Go.Proofs.Ytnnlfhdjakabmaa
