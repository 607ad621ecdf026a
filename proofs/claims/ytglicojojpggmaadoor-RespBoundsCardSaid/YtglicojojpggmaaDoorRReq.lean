/- A request's bytes, by the reference. -/
import Derived.Test.YtglicojojpggmaaDoorReq
import Derived.Deep.RegionHeld3
import Derived.Deep.Cut
namespace Go.Proofs.YtglicojojpggmaaDoor
open Go Go.RowKit
abbrev ofL (l : List UInt8) : ByteArray := ⟨l.toArray⟩
def lineS (s : ByteArray) : ByteArray := s ++ ⟨#[13, 10]⟩
def oneS (x : ByteArray) : ByteArray := lineS (⟨#[36]⟩ ++ ofL (itL x.size))
def headS (n : Nat) : ByteArray := lineS (⟨#[42]⟩ ++ ofL (itL n))
def reqS (n : Nat) : List ByteArray → ByteArray
  | ls => ls.foldl (fun s x => s ++ oneS x ++ lineS x) (headS n)
theorem reqS_snoc (n : Nat) (l : List ByteArray) (x : ByteArray) : reqS n (l ++ [x]) = reqS n l ++ oneS x ++ lineS x := by simp [reqS]
theorem bl_app (a b : ByteArray) : bl (a ++ b) = bl a ++ bl b := by simp [bl, ByteArray.data_append]
theorem bl_line (s : ByteArray) : bl (lineS s) = bl s ++ crlf := by unfold lineS; rw [bl_app]; rfl
theorem bl_one (x : ByteArray) : bl (oneS x) = layL 36 (itL x.size) := by
  unfold oneS
  rw [bl_line, bl_app]
  simp [layL, bl]
theorem bl_head (n : Nat) : bl (headS n) = headL n := by
  unfold headS headL
  rw [bl_line, bl_app]
  simp [layL, bl]
theorem bl_req (n : Nat) (ls : List ByteArray) : bl (reqS n ls) = reqL n ls := by
  unfold reqS reqL
  rw [← bl_head]
  generalize headS n = h
  induction ls generalizing h with
  | nil => simp
  | cons x l ih =>
    rw [List.foldl_cons, ih, bl_app, bl_app, bl_one, bl_line]
    simp [oneL]
theorem req_same (n : Nat) (ls : List ByteArray) : ofL (reqL n ls) = reqS n ls := bl_inj (by rw [bl_req])
set_option maxRecDepth 100000 in
set_option maxHeartbeats 4000000 in
theorem line_any (s : ByteArray) (w : World) (hs : s.size ≤ 1000000000) : Calls Tryd.prog 37 #[.string s] w fun e w' => e = .returned (.string (lineS s)) ∧ w' = w := by
  go_enter Tryd.func37, Tryd.ntmps37
  go_wp2_with fail
  go_ret
  exact ⟨rfl, rfl⟩
theorem lineS_size (s : ByteArray) : (lineS s).size = s.size + 2 := by unfold lineS; rw [ByteArray.size_append]; rfl
theorem star_size (z : UInt8) (n : Nat) (h : n ≤ 1000000000) : ((⟨#[z]⟩ : ByteArray) ++ ofL (itL n)).size ≤ 22 := by
  have : (ofL (itL n)).size ≤ 21 := itT_size n h
  rw [ByteArray.size_append]
  have h1 : (⟨#[z]⟩ : ByteArray).size = 1 := rfl
  omega
theorem oneS_size (x : ByteArray) (h : x.size ≤ 1000000000) : (oneS x).size ≤ 24 := by
  have := star_size 36 x.size h
  unfold oneS
  rw [lineS_size]
  omega
theorem reqS_size (n : Nat) (ls : List ByteArray) (hn : n ≤ 65536) (hs : ∀ s ∈ ls, s.size ≤ 1048576) : (reqS n ls).size ≤ 24 + 6 * szS ls := by
  have h1 := reqL_len n ls hn hs
  rw [← bl_req] at h1
  rw [Array.length_toList] at h1
  exact h1
/-- What the reference answers. -/
def RReqQ (ls : List ByteArray) (w : World) (e : Ending) (w' : World) : Prop := e = .returned (.tuple #[.string (if reqE ls = 0 then reqS ls.length ls else ⟨#[]⟩), .int .i64 (reqE ls)]) ∧ Below w.heap.size w w'
theorem RReqQ.no {ls : List ByteArray} {w : World} (h : reqE ls = 2) : RReqQ ls w (.returned (.tuple #[.string ⟨#[]⟩, .int .i64 2])) w := ⟨by rw [h]; simp, Below.refl _ _⟩
theorem RReqQ.yes {ls : List ByteArray} {w W : World} {s : ByteArray} (h : reqE ls = 0) (hs : s = reqS ls.length ls) (hb : Below w.heap.size w W) : RReqQ ls w (.returned (.tuple #[.string s, .int .i64 0])) W := ⟨by rw [h, hs]; simp, hb⟩
set_option maxRecDepth 100000 in
set_option maxHeartbeats 8000000 in
theorem rreq_any (A : Option Addr) (n c : Nat) (ls : List ByteArray) (w : World) (hn : ls.length = n) (ha : RdV w A (cellsS ls)) (hz : szS ls ≤ 10000000) (ht : TAB w) :
    Calls Tryd.prog 15 #[.slice A n c] w (RReqQ ls w) := by
  have hnb : n ≤ 2000000 := by have := szS_len ls; omega
  have HN := Lib.hid hn
  have HA := Lib.hid ha
  have HZ := Lib.hid hz
  have HT := Lib.hid ht
  clear hn ha hz ht
  by_cases hk0 : n < 1
  · have HE : Hid (reqE ls = 2) := Lib.hid (by unfold reqE; rw [if_pos (.inl (by have := HN.out; omega))])
    have d1 : decide ((n : Int) < 1) = true := decide_eq_true (by omega)
    go_enter Tryd.func15, Tryd.ntmps15
    go_wp2_with fail
    go_ret2
    exact RReqQ.no HE.out
  have d1 : decide ((n : Int) < 1) = false := decide_eq_false (by omega)
  by_cases hkb : 65536 < n
  · have HE : Hid (reqE ls = 2) := Lib.hid (by unfold reqE; rw [if_pos (.inr (.inl (by have := HN.out; omega)))])
    have d2 : decide ((65536 : Int) < (n : Int)) = true := decide_eq_true (by omega)
    go_enter Tryd.func15, Tryd.ntmps15
    go_wp2_with fail
    go_ret2
    exact RReqQ.no HE.out
  have d2 : decide ((65536 : Int) < (n : Int)) = false := decide_eq_false (by omega)
  go_enter Tryd.func15, Tryd.ntmps15
  go_wp2_with fail
  go_loop [4, 5] (fun x i => ∃ k m : Nat, k ≤ n ∧ i = .int .i64 k ∧ x = .int .i64 ((1048576 : Int) - m) ∧ Hid (m = totS (ls.take k)) ∧ m ≤ 1048576) (fun _ i => n - (intOf i).toNat)
  case atStart => exact ⟨0, 0, Nat.zero_le _, rfl, rfl, by simp [Hid, totS], by omega⟩
  case round =>
    obtain ⟨k, m, hk, rfl, rfl, HM, hm⟩ := hrel
    by_cases hlt : k < n
    · obtain ⟨b, off, rfl, hbb, hca⟩ := rdS_at HA.out (k := k) (by have := HN.out; omega)
      obtain ⟨x, hx, hxt⟩ := list_at (ls := ls) (k := k) (by have := HN.out; omega)
      have HX : Hid (m + x.size = totS (ls.take (k + 1))) := Lib.hid (by rw [hxt, totS_snoc, HM.out])
      have hxs : m + x.size ≤ 10000000 := by have := HX.out; have := totS_take ls (k + 1); have := totS_le ls; have := HZ.out; omega
      rw [hx] at hca
      clear hx hxt HA
      by_cases hov : 1048576 < m + x.size
      · have HE : Hid (reqE ls = 2) := Lib.hid (by unfold reqE; rw [if_pos (.inr (.inr (by have h1 := HX.out; have h2 := totS_take ls (k + 1); omega)))])
        have d3 : decide ((1048576 : Int) - (m : Int) < (x.size : Int)) = true := decide_eq_true (by omega)
        go_wp2_with fail
        go_ret2
        exact RReqQ.no HE.out
      have d3 : decide ((1048576 : Int) - (m : Int) < (x.size : Int)) = false := decide_eq_false (by omega)
      go_wp2_with fail
      go_round
      case rel => exact ⟨k + 1, m + x.size, by omega, by go_num, by go_num, HX.out, by omega⟩
      case measure => simp [intOf]; omega
    · obtain rfl : k = n := by omega
      have HMT : Hid (m = totS ls) := Lib.hid (by rw [HM.out, List.take_of_length_le (by have := HN.out; omega)])
      have HE : Hid (reqE ls = 0) := Lib.hid (by unfold reqE; rw [if_neg (by have := HN.out; have := HMT.out; omega)])
      clear HM hlt
      have HI := Lib.hid (itoa_any k w (by omega) (by omega) HT.out)
      go_wp2_with fail
      refine HI.out.mono ?_
      rintro e w1 ⟨rfl, hb1⟩
      have HB1 := Lib.hid hb1
      clear hb1 HI
      have hsz := itT_size k (by omega)
      have hln := itL_len k (by omega) (by omega)
      go_wp2_with fail
      have HLA := Lib.hid (line_any (⟨#[42]⟩ ++ ofL (itL k)) w1 (by have := star_size 42 k (by omega); omega))
      clear hsz hln
      refine HLA.out.mono ?_
      rintro e w2 ⟨rfl, rfl⟩
      go_wp2_with fail
      go_loopw [6, 7] (fun v i W => ∃ j : Nat, j ≤ k ∧ i = .int .i64 j ∧ ∃ s, v = .string s ∧ Hid (s = reqS k (ls.take j)) ∧ Hid (Below w.heap.size w W)) (fun _ i _ => k - (intOf i).toNat)
      case atStart => exact ⟨0, Nat.zero_le _, rfl, _, rfl, Lib.hid rfl, HB1⟩
      case round =>
        clear HB1
        obtain ⟨j, hj, rfl, s, rfl, HS, HB⟩ := hrel
        by_cases hlt : j < k
        · have hjl : j < ls.length := by have := HN.out; omega
          obtain ⟨b, off, rfl, hbb, hca⟩ := rdS_at (HA.out.below HB.out) hjl
          obtain ⟨x, hx, hxt⟩ := list_at (ls := ls) hjl
          have hxs : x.size ≤ 1048576 := by have h1 := totS_mem (l := ls) (s := x) (by rw [← hx]; exact List.getElem_mem _); have h2 := HMT.out; omega
          have hss : s.size ≤ 70000000 := by
            rw [HS.out]
            have h1 := reqS_size k (ls.take j) (by omega) (fun s hs => by have h1 := totS_mem (List.mem_of_mem_take hs); have h2 := HMT.out; omega)
            have h2 := szS_take ls j
            have h3 := HZ.out
            omega
          have hlx := lineS_size x
          have hox : (lineS (⟨#[36]⟩ ++ ofL (itL x.size))).size ≤ 24 := oneS_size x (by omega)
          have hix := itT_size x.size (by omega)
          have hlx2 := itL_len x.size (by omega) (by omega)
          have hsx := star_size 36 x.size (by omega)
          rw [hx] at hca
          have HXN := Lib.hid (reqS_snoc k (ls.take j) x)
          rw [← hxt] at HXN
          clear hx hxt HA
          have HIT : Hid (Calls Tryd.prog 36 #[.int .i64 x.size] wr.drew fun e w' => e = .returned (.string (ofL (itL x.size))) ∧ Below wr.heap.size wr w') := Lib.hid ((itoa_any x.size wr.drew (by omega) (by omega) (tab_below HT.out HB.out.drew)).mono fun _ _ ⟨he, hb⟩ => ⟨he, (Below.refl _ _).drew.trans hb⟩)
          have HL1 : Hid (∀ W, Calls Tryd.prog 37 #[.string x] W fun e w' => e = .returned (.string (lineS x)) ∧ w' = W) := Lib.hid (fun W => line_any x W (by omega))
          have HL2 : Hid (∀ W, Calls Tryd.prog 37 #[.string (⟨#[36]⟩ ++ ofL (itL x.size))] W fun e w' => e = .returned (.string (lineS (⟨#[36]⟩ ++ ofL (itL x.size)))) ∧ w' = W) := Lib.hid (fun W => line_any _ W (by omega))
          have n1 : ¬ 9223372036854775807 < 1 + (itL x.size).length := by omega
          have n2 : ¬ 9223372036854775807 < s.size + (lineS (⟨#[36]⟩ ++ ofL (itL x.size))).size := by omega
          have n3 : ¬ 9223372036854775807 < s.size + (lineS (⟨#[36]⟩ ++ ofL (itL x.size))).size + (x.size + 2) := by omega
          go_upto_region 14 with (fail)
          go_region_held3 (fun W => W.cell? ⟨b, off + j, none⟩ = some (.string x))
            (first | assumption | go_keep | (dsimp only; assumption))
            (first
              | (go_at_call 37; with_reducible (refine (HL1.out _).mono ?_); rintro e wl ⟨rfl, rfl⟩)
              | (go_at_call 37; with_reducible (refine (HL2.out _).mono ?_); rintro e wl ⟨rfl, rfl⟩)
              | (go_at_call 36; with_reducible (refine HIT.out.mono ?_); rintro e wi ⟨rfl, hb3⟩; have HB3 := Lib.hid (HB.out.trans (hb3.mono HB.out.size)); have hcb := (hb3.cell (p := ⟨b, off + j, none⟩) hbb).trans hca; clear hb3)
              | fail)
          all_goals go_wp2_with fail
          all_goals go_roundw
          all_goals first
            | (case rel => exact ⟨j + 1, by omega, by go_num, _, rfl, Lib.hid (by rw [HXN.out, ← HS.out]; rfl), HB3⟩)
            | (case measure => simp [intOf]; omega)
        · obtain rfl : j = k := by omega
          have HQ : Hid (s = reqS ls.length ls) := Lib.hid (by have h := HS.out; have hn := HN.out; rw [List.take_of_length_le (by omega)] at h; rw [hn]; exact h)
          clear HS
          go_wp2_with fail
          go_ret2
          exact RReqQ.yes HE.out HQ.out HB.out
end Go.Proofs.YtglicojojpggmaaDoor
