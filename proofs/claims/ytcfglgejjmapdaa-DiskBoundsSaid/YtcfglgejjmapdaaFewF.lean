/- Lists of files: how many bytes; the same; a name's place. -/
import Derived.Test.YtcfglgejjmapdaaOn
import Derived.BigQuiet
import Derived.Deep.QuietTactic
namespace Go.Proofs.Ytcfglgejjmapdaa
open Go Go.RowKit
/-- How many bytes files have, each with ten ahead. -/
def szF : List F → Nat
  | [] => 0
  | f :: l => 10 + f.name.size + f.bytes.size + szF l
theorem szF_snoc (l : List F) (f : F) : szF (l ++ [f]) = szF l + (10 + f.name.size + f.bytes.size) := by
  induction l with
  | nil => simp [szF]
  | cons x l ih => simp [szF, ih]; omega
theorem szF_take (l : List F) (k : Nat) : szF (l.take k) ≤ szF l := by
  induction l generalizing k with
  | nil => simp [szF]
  | cons x l ih =>
    cases k with
    | zero => simp [szF]
    | succ k => have := ih k; simp [szF]; omega
theorem szF_mem {l : List F} {f : F} (h : f ∈ l) : 10 + f.name.size + f.bytes.size ≤ szF l := by
  induction l with
  | nil => cases h
  | cons x l ih =>
    rcases List.mem_cons.1 h with rfl | h
    · simp [szF] <;> omega
    · have := ih h; simp [szF]; omega
theorem szF_len (l : List F) : 10 * l.length ≤ szF l := by
  induction l with
  | nil => simp [szF]
  | cons x l ih => simp [szF]; omega
theorem szF_next {ls : List F} {k m : Nat} {x : F} (ht : ls.take (k + 1) = ls.take k ++ [x]) (hm : m = szF (ls.take k)) : m + 10 + x.name.size + x.bytes.size = szF (ls.take (k + 1)) := by rw [ht, szF_snoc, ← hm]; omega
theorem fil_at {ls : List F} {k : Nat} (h : k < ls.length) : ∃ x, ls[k] = x ∧ ls.take (k + 1) = ls.take k ++ [x] := ⟨ls[k], rfl, by rw [List.take_add_one, List.getElem?_eq_getElem h]; rfl⟩

set_option maxRecDepth 100000 in
set_option maxHeartbeats 4000000 in
theorem few_any (A : Option Addr) (n c : Nat) (ls : List F) (w : World) (hn : ls.length = n) (bn : n ≤ 9223372036854775807) (hs : ∀ f ∈ ls, f.name.size ≤ 140737488351232 ∧ f.bytes.size ≤ 140737488351232) (ha : RdF w A ls) :
    Calls Try.prog 13 #[.slice A n c] w fun e w' => e = .returned (.bool (decide (szF ls ≤ 3000))) ∧ ∃ q, w' = w.drewN q := by
  have HN := Lib.hid hn
  have HS := Lib.hid hs
  have HA := Lib.hid ha
  clear hn hs ha
  go_enter Try.func13, Try.ntmps13
  go_wp2_with fail
  go_loopw [3, 4] (fun x i W => ∃ k m q : Nat, W = w.drewN q ∧ k ≤ n ∧ i = .int .i64 k ∧ x = .int .i64 m ∧ Hid (m = szF (ls.take k)) ∧ m ≤ 281474976800000) (fun _ i _ => n - (intOf i).toNat)
  case atStart => exact ⟨0, 0, 0, rfl, Nat.zero_le _, rfl, rfl, by simp [Hid, szF], by omega⟩
  case round =>
    obtain ⟨k, m, q, rfl, hk, rfl, rfl, HT, hm⟩ := hrel
    by_cases hlt : k < n
    · by_cases hm3 : m ≤ 3000
      · obtain ⟨b, off, rfl, hbb, k0, k1, k2⟩ := HA.out.at (k := k) (by have := HN.out; omega)
        obtain ⟨x, hx, hxt⟩ := fil_at (ls := ls) (k := k) (by have := HN.out; omega)
        have hxs := HS.out x (by rw [← hx]; exact List.getElem_mem _)
        rw [hx] at k0 k1
        have HX := Lib.hid (szF_next hxt HT.out)
        obtain ⟨hx1, hx2⟩ := hxs
        clear hx hxt HA k2
        go_wp2_with fail
        go_quiet (fail)
        rename_i nq
        go_wp2_with fail
        go_round
        case rel => exact ⟨k + 1, m + 10 + x.name.size + x.bytes.size, q + nq, by first | rfl | rw [drew_two], by omega, by go_num, by go_num, HX.out, by omega⟩
        case measure => simp [intOf]; omega
      · have d3 : decide ((m : Int) ≤ 3000) = false := by simp; omega
        go_wp2_with fail
        go_ret
        refine ⟨ret_bool ?_, _, rfl⟩
        have h1 := HT.out
        have h2 := szF_take ls k
        have h3 : ¬ szF ls ≤ 3000 := by omega
        simp [h3]
    · obtain rfl : k = n := by omega
      have h1 := HT.out
      rw [List.take_of_length_le (by have := HN.out; omega)] at h1
      have H1 := Lib.hid h1
      clear h1
      by_cases hm3 : m ≤ 3000
      · go_wp2_with fail
        go_ret
        exact ⟨ret_bool (by rw [← H1.out]; simp [hm3]; omega), _, rfl⟩
      · go_wp2_with fail
        go_ret
        exact ⟨ret_bool (by rw [← H1.out]; simp [hm3]; omega), _, rfl⟩

/-- The place of a name; the length: there is none. -/
def placeF (l : List F) (nm : ByteArray) : Nat := match l with
  | [] => 0
  | f :: r => if f.name = nm then 0 else placeF r nm + 1
def findI (l : List F) (nm : ByteArray) : Int := if placeF l nm < l.length then placeF l nm else -1
theorem placeF_le (l : List F) (nm : ByteArray) : placeF l nm ≤ l.length := by
  induction l with
  | nil => simp [placeF]
  | cons f r ih => simp only [placeF]; split <;> simp <;> omega
set_option maxRecDepth 100000 in
set_option maxHeartbeats 4000000 in
theorem find_any (A : Option Addr) (n c : Nat) (ls : List F) (nm : ByteArray) (w : World) (hn : ls.length = n) (bn : n ≤ 9223372036854775806) (ha : RdF w A ls) :
    Calls Try.prog 19 #[.slice A n c, .string nm] w fun e w' => e = .returned (.int .i64 (findI ls nm)) ∧ w = w' := by
  have HN := Lib.hid hn
  have HA := Lib.hid ha
  clear hn ha
  go_enter Try.func19, Try.ntmps19
  go_wp2_with fail
  go_loop [5] (fun i => ∃ k : Nat, k ≤ n ∧ i = .int .i64 k ∧ Hid (placeF ls nm = k + placeF (ls.drop k) nm)) (fun i => n - (intOf i).toNat)
  case atStart => exact ⟨0, Nat.zero_le _, rfl, by simp [Hid]⟩
  case round =>
    obtain ⟨k, hk, rfl, HT⟩ := hrel
    by_cases hlt : k < n
    · obtain ⟨b, off, rfl, hbb, k0, k1, k2⟩ := HA.out.at (k := k) (by have := HN.out; omega)
      obtain ⟨x, hx, hd⟩ : ∃ x, ls[k]'(by have := HN.out; omega) = x ∧ ls.drop k = x :: ls.drop (k + 1) := ⟨_, rfl, List.drop_eq_getElem_cons (by have := HN.out; omega)⟩
      rw [hx] at k0
      have HT2 := HT.out
      rw [hd] at HT2
      by_cases he : x.name = nm
      · have hp : placeF ls nm = k := by rw [HT2]; simp [placeF, he]
        have HP := Lib.hid hp
        clear hp HT2 HT hd hx k1 k2 HA
        subst he
        go_wp2_with fail
        go_ret
        exact ⟨ret_int (by unfold findI; rw [HP.out, HN.out, if_pos hlt]), rfl⟩
      · have hp : placeF ls nm = (k + 1) + placeF (ls.drop (k + 1)) nm := by rw [HT2]; simp only [placeF, if_neg he]; omega
        have HP := Lib.hid hp
        have hb : (x.name.toList == nm.toList) = false := by rw [Lib.toList_data, Lib.toList_data]; simpa using fun e => he (bl_inj e)
        clear hp HT2 HT hd hx k1 k2 HA
        go_wp2_with fail
        go_round
        case rel => exact ⟨k + 1, by omega, by go_num, HP.out⟩
        case measure => simp [intOf]; omega
    · obtain rfl : k = n := by omega
      have hp : placeF ls nm = k := by have h1 := HT.out; rw [List.drop_of_length_le (by have := HN.out; omega)] at h1; simpa [placeF] using h1
      have HP := Lib.hid hp
      clear hp HT HA
      go_wp2_with fail
      go_ret
      exact ⟨ret_int (by unfold findI; rw [HP.out, HN.out, if_neg (by omega)]), rfl⟩

set_option maxRecDepth 100000 in
set_option maxHeartbeats 4000000 in
theorem same_any (A A2 : Option Addr) (n c c2 : Nat) (ls : List F) (w : World) (hn : ls.length = n) (bn : n ≤ 9223372036854775806) (ha : RdF w A ls) (hb : RdF w A2 ls) :
    Calls Try.prog 17 #[.slice A n c, .slice A2 n c2] w fun e w' => e = .returned (.bool true) ∧ ∃ q, w' = w.drewN q := by
  have HN := Lib.hid hn
  have HA := Lib.hid ha
  have HB := Lib.hid hb
  clear hn ha hb
  go_enter Try.func17, Try.ntmps17
  go_wp2_with fail
  go_loopw [5] (fun i W => ∃ k q : Nat, W = w.drewN q ∧ k ≤ n ∧ i = .int .i64 k) (fun i _ => n - (intOf i).toNat)
  case atStart => exact ⟨0, 0, rfl, Nat.zero_le _, rfl⟩
  case round =>
    obtain ⟨k, q, rfl, hk, rfl⟩ := hrel
    by_cases hlt : k < n
    · obtain ⟨b, off, rfl, hbb, k0, k1, k2⟩ := HA.out.at (k := k) (by have := HN.out; omega)
      obtain ⟨b2, off2, rfl, hbb2, j0, j1, j2⟩ := HB.out.at (k := k) (by have := HN.out; omega)
      generalize ls[k]'(by have := HN.out; omega) = x at *
      clear HA HB
      go_wp2_with fail
      go_quiet (fail)
      rename_i nq
      go_wp2_with fail
      go_round
      case rel => exact ⟨k + 1, q + nq, by first | rfl | rw [drew_two], by omega, by go_num⟩
      case measure => simp [intOf]; omega
    · obtain rfl : k = n := by omega
      go_wp2_with fail
      go_ret
      exact ⟨rfl, _, rfl⟩
end Go.Proofs.Ytcfglgejjmapdaa
