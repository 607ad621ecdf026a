/- A request's bytes. -/
import Derived.Test.YtglicojojpggmaaDoorOwn
namespace Go.Proofs.YtglicojojpggmaaDoor
open Go Go.RowKit
/-- How many bytes texts have. -/
def totS : List ByteArray → Nat
  | [] => 0
  | s :: l => s.size + totS l
theorem totS_snoc (l : List ByteArray) (s : ByteArray) : totS (l ++ [s]) = totS l + s.size := by
  induction l with
  | nil => simp [totS]
  | cons x l ih => simp [totS, ih]; omega
theorem totS_le (l : List ByteArray) : totS l ≤ szS l := by
  induction l with
  | nil => simp [totS]
  | cons x l ih => simp [totS, szS]; omega
theorem totS_take (l : List ByteArray) (k : Nat) : totS (l.take k) ≤ totS l := by
  induction l generalizing k with
  | nil => simp [totS]
  | cons x l ih => cases k with
    | zero => simp [totS]
    | succ k => have := ih k; simp [totS]; omega
/-- A text of a request. -/
def oneL (s : ByteArray) : List UInt8 := layL 36 (itL s.size) ++ (bl s ++ crlf)
def headL (n : Nat) : List UInt8 := layL 42 (itL n)
def reqL (n : Nat) (ls : List ByteArray) : List UInt8 := headL n ++ ls.flatMap oneL
theorem reqL_snoc (n : Nat) (l : List ByteArray) (s : ByteArray) : reqL n (l ++ [s]) = reqL n l ++ oneL s := by simp [reqL]
def reqE (ls : List ByteArray) : Int := if ls.length = 0 ∨ 65536 < ls.length ∨ 1048576 < totS ls then 2 else 0
theorem layL_len (s : UInt8) (t : List UInt8) : (layL s t).length = t.length + 3 := by simp [layL, crlf]
theorem oneL_len (s : ByteArray) (h : s.size ≤ 1048576) : (oneL s).length ≤ s.size + 26 := by
  have := itL_len s.size (by omega) (by omega)
  unfold oneL
  rw [List.length_append, List.length_append, layL_len]
  have h2 : (bl s).length = s.size := by rw [Array.length_toList]; rfl
  simp [crlf]
  omega
/-- What Request answers. -/
def ReqQ (ls : List ByteArray) (w : World) (e : Ending) (w' : World) : Prop := ∃ v, e = .returned (.tuple #[v, .int .i64 (reqE ls)]) ∧ OwnB w' w.heap.size v (if reqE ls = 0 then reqL ls.length ls else []) ∧ Below w.heap.size w w'
theorem ReqQ.no {ls : List ByteArray} {w : World} (h : reqE ls = 2) : ReqQ ls w (.returned (.tuple #[.slice none 0 0, .int .i64 2])) w :=
  ⟨_, by rw [h], by rw [h, if_neg (by decide)]; exact World.ownsRow_nil _ _ _ _, Below.refl _ _⟩
theorem ReqQ.yes {ls : List ByteArray} {w W : World} {v : Value} (h : reqE ls = 0) (ho : OwnB W w.heap.size v (reqL ls.length ls)) (hb : Below w.heap.size w W) : ReqQ ls w (.returned (.tuple #[v, .int .i64 0])) W :=
  ⟨_, by rw [h], by rw [h, if_pos rfl]; exact ho, hb⟩
theorem reqL_len (n : Nat) (ls : List ByteArray) (hn : n ≤ 65536) (hs : ∀ s ∈ ls, s.size ≤ 1048576) : (reqL n ls).length ≤ 24 + 6 * szS ls := by
  have h0 := itL_len n (by omega) (by omega)
  unfold reqL headL
  rw [List.length_append, layL_len]
  have : (ls.flatMap oneL).length ≤ 6 * szS ls := by
    clear h0
    induction ls with
    | nil => simp [szS]
    | cons x l ih =>
      have h1 := oneL_len x (hs x (by simp))
      have h2 := ih (fun s hm => hs s (by simp [hm]))
      simp only [List.flatMap_cons, List.length_append, szS]
      omega
  omega
theorem itT_size (n : Nat) (h : n ≤ 1000000000) : (⟨(itL n).toArray⟩ : ByteArray).size ≤ 21 := itL_len n (by omega) (by omega)
theorem szS_size {l : List ByteArray} {s : ByteArray} (h : s ∈ l) : 5 + s.size ≤ szS l := szS_mem h
theorem lay_len2 (l : List UInt8) (n : Nat) (h : n ≤ 1000000000) : (l ++ layL 36 (bl ⟨(itL n).toArray⟩)).length ≤ l.length + 24 := by
  have h2 := itL_len n (by omega) (by omega)
  rw [List.length_append, layL_len]
  simp
  omega
theorem totS_mem {l : List ByteArray} {s : ByteArray} (h : s ∈ l) : s.size ≤ totS l := by
  induction l with
  | nil => cases h
  | cons x l ih =>
    simp only [totS]
    rcases List.mem_cons.1 h with rfl | h
    · omega
    · have := ih h; omega
set_option maxRecDepth 100000 in
set_option maxHeartbeats 8000000 in
theorem request_any (A : Option Addr) (n c : Nat) (ls : List ByteArray) (w : World) (hn : ls.length = n) (ha : RdV w A (cellsS ls)) (hz : szS ls ≤ 10000000) (ht : TAB w) :
    Calls Tryd.prog 14 #[.slice A n c] w (ReqQ ls w) := by
  have hnb : n ≤ 2000000 := by have := szS_len ls; omega
  have HN := Lib.hid hn
  have HA := Lib.hid ha
  have HZ := Lib.hid hz
  have HT := Lib.hid ht
  clear hn ha hz ht
  go_enter Tryd.func14, Tryd.ntmps14
  go_wp2_with fail
  go_loop [4, 12] (fun x i => ∃ k m : Nat, k ≤ n ∧ i = .int .i64 k ∧ x = .int .i64 m ∧ Hid (m = totS (ls.take k)) ∧ m ≤ 10000000) (fun _ i => n - (intOf i).toNat)
  case atStart => exact ⟨0, 0, Nat.zero_le _, rfl, rfl, by simp [Hid, totS], by omega⟩
  case round =>
    obtain ⟨k, m, hk, rfl, rfl, HM, hm⟩ := hrel
    by_cases hlt : k < n
    · obtain ⟨b, off, rfl, hbb, hca⟩ := rdS_at HA.out (k := k) (by have := HN.out; omega)
      obtain ⟨x, hx, hxt⟩ := list_at (ls := ls) (k := k) (by have := HN.out; omega)
      have HX : Hid (m + x.size = totS (ls.take (k + 1))) := Lib.hid (by rw [hxt, totS_snoc, HM.out])
      have hxs : m + x.size ≤ 10000000 := by have := HX.out; have := totS_take ls (k + 1); have := totS_le ls; have := HZ.out; omega
      rw [hx] at hca
      clear hx hxt HA
      go_wp2_with fail
      go_round
      case rel => exact ⟨k + 1, m + x.size, by omega, by go_num, by go_num, HX.out, hxs⟩
      case measure => simp [intOf]; omega
    · obtain rfl : k = n := by omega
      have HMT : Hid (m = totS ls) := Lib.hid (by rw [HM.out, List.take_of_length_le (by have := HN.out; omega)])
      clear HM hlt
      by_cases hk0 : k = 0
      · subst hk0
        have HE : Hid (reqE ls = 2) := Lib.hid (by unfold reqE; rw [if_pos (.inl HN.out)])
        go_wp2_with fail
        go_ret2
        exact ReqQ.no HE.out
      have e0 : ((k : Int) == 0) = false := by simp; omega
      have e0d : decide ((k : Int) = 0) = false := decide_eq_false (by omega)
      by_cases hkb : 65536 < k
      · have HE : Hid (reqE ls = 2) := Lib.hid (by unfold reqE; rw [if_pos (.inr (.inl (by have := HN.out; omega)))])
        have d1 : decide ((65536 : Int) < (k : Int)) = true := decide_eq_true (by omega)
        go_wp2_with fail
        go_ret2
        exact ReqQ.no HE.out
      have d1 : decide ((65536 : Int) < (k : Int)) = false := decide_eq_false (by omega)
      by_cases hmb : 1048576 < m
      · have HE : Hid (reqE ls = 2) := Lib.hid (by unfold reqE; rw [if_pos (.inr (.inr (by have := HMT.out; omega)))])
        have d2 : decide ((1048576 : Int) < (m : Int)) = true := decide_eq_true (by omega)
        go_wp2_with fail
        go_ret2
        exact ReqQ.no HE.out
      have d2 : decide ((1048576 : Int) < (m : Int)) = false := decide_eq_false (by omega)
      have HE : Hid (reqE ls = 0) := Lib.hid (by unfold reqE; rw [if_neg (by have := HN.out; have := HMT.out; omega)])
      have HI := Lib.hid (itoa_any k w (by omega) (by omega) HT.out)
      go_wp2_with fail
      refine HI.out.mono ?_
      rintro e w1 ⟨rfl, hb1⟩
      have HB1 := Lib.hid hb1
      have HL1 := Lib.hid (lay_any w.heap.size none 0 0 [] 42 ⟨(itL k).toArray⟩ w1 (World.ownsRow_nil _ _ _ _) rfl (by omega) (by have := itT_size k (by omega); omega) hb1.size)
      clear hb1 HI
      go_wp2_with fail
      refine HL1.out.mono ?_
      rintro e w2 ⟨v2, rfl, ho2, hb2⟩
      have HB2 := Lib.hid (HB1.out.trans hb2)
      have HO2 : Hid (OwnB w2 w.heap.size v2 (reqL k (ls.take 0))) := Lib.hid (by simpa [reqL, headL] using ho2)
      clear ho2 hb2 HL1 HB1 e0 e0d d1 d2
      go_wp2_with fail
      go_loopw [7, 39] (fun v i W => ∃ j : Nat, j ≤ k ∧ i = .int .i64 j ∧ Hid (OwnB W w.heap.size v (reqL k (ls.take j))) ∧ Hid (Below w.heap.size w W)) (fun _ i _ => k - (intOf i).toNat)
      case atStart => exact ⟨0, Nat.zero_le _, rfl, HO2, HB2⟩
      case round =>
        clear HO2 HB2
        obtain ⟨j, hj, rfl, HO, HB⟩ := hrel
        by_cases hlt : j < k
        · have hjl : j < ls.length := by have := HN.out; omega
          obtain ⟨b, off, rfl, hbb, hca⟩ := rdS_at (HA.out.below HB.out) hjl
          obtain ⟨x, hx, hxt⟩ := list_at (ls := ls) hjl
          have hall : ∀ s ∈ ls, s.size ≤ 1048576 := fun s hs => by have h1 := totS_mem hs; have h2 := HMT.out; omega
          have hxs : x.size ≤ 1048576 := hall x (by rw [← hx]; exact List.getElem_mem _)
          rw [hx] at hca
          have HXN := Lib.hid (reqL_snoc k (ls.take j) x)
          rw [← hxt] at HXN
          have HLN : Hid ((reqL k (ls.take j)).length ≤ 100000000) := Lib.hid (by have h1 := reqL_len k (ls.take j) (by omega) (fun s hs => hall s (List.mem_of_mem_take hs)); have h2 := szS_take ls j; have h3 := HZ.out; omega)
          clear hall
          have HXB : Hid ((bl x).length = x.size) := Lib.hid (by rw [Array.length_toList]; rfl)
          clear hx hxt HA
          have HI := Lib.hid (itoa_any x.size wr (by omega) (by omega) (tab_below HT.out HB.out))
          obtain ⟨A7, c7, rfl, hc7, hA7, hm7, hr7⟩ := HO.out.rd
          clear hc7 hA7 hm7 hr7
          go_wp2_with fail
          refine HI.out.mono ?_
          rintro e w3 ⟨rfl, hb3⟩
          have HB3 := Lib.hid (HB.out.trans (hb3.mono HB.out.size))
          have HL3 := Lib.hid (lay_any w.heap.size A7 _ c7 _ 36 ⟨(itL x.size).toArray⟩ w3 (HO.out.below hb3) rfl HLN.out (by have := itT_size x.size (by omega); omega) HB3.out.size)
          clear hb3 HI HO HB
          go_wp2_with fail
          refine HL3.out.mono ?_
          rintro e w4 ⟨v4, rfl, ho4, hb4⟩
          have HO4 := Lib.hid ho4
          have HB4 := Lib.hid (HB3.out.trans hb4)
          have HL4 : Hid ((reqL k (ls.take j) ++ layL 36 (bl ⟨(itL x.size).toArray⟩)).length ≤ 100000050) := Lib.hid (by have h1 := HLN.out; have h2 := lay_len2 (reqL k (ls.take j)) x.size (by omega); omega)
          clear ho4 hb4 HL3 HB3 HLN
          go_wp2_with (first
            | (at_builtin; refine wpList_text rfl (.tmp 48) (.tmp 49) rfl w.heap.size v4 _ rfl HO4.out x rfl (by have := HL4.out; omega) HB4.out.size ?_; intro v8 w8 ho8 hb8 hs8; have HO8 := Lib.hid ho8; have HB8 := Lib.hid (HB4.out.trans hb8); have HR8 := Lib.hid (rd_crlf w8); have HW8 := Lib.hid (below_new w8 (.cells #[.int .u8 13, .int .u8 10] 5)); clear ho8 hb8 hs8)
            | (at_builtin; refine wpList_bytes rfl (.tmp 50) (.tmp 51) rfl w.heap.size v8 _ rfl (HO8.out.below HW8.out) (some ⟨w8.heap.size, 0, none⟩) 2 2 [13, 10] rfl rfl HR8.out (fun e => by cases e) (Nat.le_refl _) (by rw [List.length_append]; have h1 := HL4.out; have h2 : x.data.toList.length = x.size := HXB.out; omega) (Nat.le_trans HB8.out.size HW8.out.size) ?_; intro v9 w9 ho9 hb9 hs9; have HO9 := Lib.hid ho9; have HB9 := Lib.hid ((HB8.out.trans (HW8.out.mono HB8.out.size)).trans hb9); clear ho9 hb9 hs9)
            | fail)
          go_roundw
          case rel => exact ⟨j + 1, by omega, by go_num, Lib.hid (by rw [HXN.out]; have h := HO9.out; simpa [oneL, layL, crlf, List.append_assoc] using h), HB9⟩
          case measure => simp [intOf]; omega
        · obtain rfl : j = k := by omega
          have HQ : Hid (OwnB wr w.heap.size _ (reqL ls.length ls)) := Lib.hid (by have h := HO.out; have hn := HN.out; rw [List.take_of_length_le (by omega)] at h; rw [hn]; exact h)
          obtain ⟨A7, c7, rfl, hc7, hA7, hm7, hr7⟩ := HQ.out.rd
          clear hc7 hA7 hm7 hr7 HO
          go_wp2_with fail
          go_ret2
          exact ReqQ.yes HE.out HQ.out HB.out
end Go.Proofs.YtglicojojpggmaaDoor
