/- A text in digits of 16. -/
import Derived.Test.YtccofgdcpmplmaaGreatDoorEnv
import Derived.Deep.CutRange
import Derived.BigRegion
import Derived.IntWalk
import Derived.Laws.BitsAllLaws
namespace Go.Proofs.YtccofgdcpmplmaaGreatDoor
open Go Go.RowKit Go.Shelf
def hx (d : Nat) : UInt8 := [48, 49, 50, 51, 52, 53, 54, 55, 56, 57, 97, 98, 99, 100, 101, 102].getD d 0
def hexL (l : List UInt8) : List UInt8 := l.flatMap fun b => [hx (b.toNat / 16), hx (b.toNat % 16)]
def speL (s : ByteArray) : List UInt8 := if s.size = 0 then [45] else hexL s.data.toList
def digs16 : ByteArray := { data := #[48, 49, 50, 51, 52, 53, 54, 55, 56, 57, 97, 98, 99, 100, 101, 102] }
theorem digit16_0 : ∀ k, k < 16 → digs16.data.toList.getD k 0 = hx k := by decide
theorem digit16_of (B : ByteArray) (e : B = digs16) (k : Nat) (hk : k < 16) (h : k < B.size) : B[k]'h = hx k := by
  subst e
  rw [← digit16_0 k hk]
  have h' : k < digs16.data.size := h
  show digs16.data[k]'h' = _
  rw [List.getD_eq_getElem?_getD, Array.getElem?_toList, Array.getElem?_eq_getElem h']; rfl
theorem digit16 (k : Nat) (hk : k < 16) (h : k < ({ data := #[48, 49, 50, 51, 52, 53, 54, 55, 56, 57, 97, 98, 99, 100, 101, 102] } : ByteArray).size) :
    ({ data := #[48, 49, 50, 51, 52, 53, 54, 55, 56, 57, 97, 98, 99, 100, 101, 102] } : ByteArray)[k]'h = hx k :=
  digit16_of _ rfl k hk h
theorem hexL_len (l : List UInt8) : (hexL l).length = 2 * l.length := by
  induction l with
  | nil => rfl
  | cons b r ih => simp only [hexL, List.flatMap_cons, List.length_append, List.length_cons, List.length_nil] at *; omega
theorem hexL_next {l : List UInt8} {k : Nat} (h : k < l.length) : hexL (l.take (k + 1)) = hexL (l.take k) ++ [hx (l[k].toNat / 16), hx (l[k].toNat % 16)] := by
  unfold hexL
  rw [List.take_succ_eq_append_getElem h, List.flatMap_append]
  rfl
theorem and15 (n : Nat) (h : n < 256) : bits .and .u8 (n : Int) 15 = ((n % 16 : Nat) : Int) := by
  rw [show (15 : Int) = ((15 : Nat) : Int) from rfl, u8_and_nat _ _ h (by omega), show n &&& 15 = n % 16 from Nat.and_two_pow_sub_one_eq_mod _ 4]
theorem own_step {W : World} {B : Nat} {v : Value} {l : List UInt8} (o : Obj) (h : OwnB W B v l) : OwnB (W.alloc o).drew B v l := h.below ((below_new W o).drew)
theorem rd_two (W : World) (x y : UInt8) : Rd (W.alloc (.cells #[.int .u8 x.toNat, .int .u8 y.toNat] 5)).drew (some ⟨W.heap.size, 0, none⟩) [x, y] := fun _ => by
  have h := heap_alloc_new W (.cells #[.int .u8 x.toNat, .int .u8 y.toNat] 5)
  refine ⟨W.heap.size, 0, rfl, (Array.getElem?_eq_some_iff.1 h).1, fun j hj => ?_⟩
  have hj2 : j < 2 := hj
  have h2 : (W.alloc (.cells #[.int .u8 x.toNat, .int .u8 y.toNat] 5)).drew.cell? ⟨W.heap.size, 0 + j, none⟩ = (#[Value.int .u8 x.toNat, .int .u8 y.toNat])[0 + j]? := Lib.cell_of_heap h (0 + j)
  rw [h2]
  rcases j with _ | _ | j
  · rfl
  · rfl
  · omega
theorem conv_own {W : World} {B : Nat} {v : Value} {l : List UInt8} (h : OwnB W B v l) : (convert 46 9 v).run Tryz.prog W = .ok (.string (ofL l)) W := by
  obtain ⟨A, c, rfl, h1, h2, _, h3⟩ := h.rd
  exact conv_rd h2 h1 h3
theorem empty_no {s : ByteArray} (h0 : ¬ s.size = 0) : s.toList.isEmpty = false := by
  rcases hh : s.toList.isEmpty with _ | _
  · rfl
  · have h1 := bytes_dec s { data := #[] }
    rw [List.isEmpty_iff.1 hh] at h1
    have h3 : (([] : List UInt8) == ({ data := #[] } : ByteArray).toList) = true := by
      rw [show ({ data := #[] } : ByteArray).toList = [] from by kernel_rfl]
      rfl
    rw [h3] at h1
    have h2 : s = { data := #[] } := of_decide_eq_true h1.symm
    rw [h2] at h0
    exact absurd rfl h0
set_option maxRecDepth 100000 in
set_option maxHeartbeats 8000000 in
theorem spelled_any (s : ByteArray) (w : World) (hs : s.size ≤ 1000000) :
    Calls Tryz.prog 17 #[.string s] w fun e w' => e = .returned (.string (ofL (speL s))) ∧ Below w.heap.size w w' := by
  by_cases h0 : s.size = 0
  · have he : s = { data := #[] } := by
      cases s with | mk d => cases d with | mk l => cases l with
        | nil => rfl
        | cons a r => simp [ByteArray.size] at h0
    subst he
    go_enter Tryz.func17, Tryz.ntmps17
    go_wp2_with fail
    go_ret
    exact ⟨rfl, Below.refl _ _⟩
  have HT : Hid (ofL (speL s) = ofL (hexL s.data.toList)) := Lib.hid (by rw [speL, if_neg h0])
  obtain ⟨n, hn⟩ : ∃ n, s.size = n := ⟨_, rfl⟩
  have hne := empty_no h0
  rw [hn] at hs h0
  have hw1 : IntKind.i64.wrap (2 * (n : Int)) = 2 * (n : Int) := IntWalk.i64_in _ (by omega)
  have HN := Lib.hid hn
  go_enter Tryz.func17, Tryz.ntmps17
  go_wp2_with (refine wpList_make_bytes rfl (.tmp 9) rfl _ (2 * n) rfl (by omega) (by omega) ?_; intro v1 w1 ho1 hb1)
  have HO1 := Lib.hid ho1
  have HB1 := Lib.hid hb1
  clear ho1 hb1 hne hw1
  go_loopw [3, 13] (fun v i wr => ∃ k : Nat, k ≤ n ∧ i = .int .i64 k ∧ Hid (OwnB wr w.heap.size v (hexL (s.data.toList.take k))) ∧ Hid (Below w.heap.size w wr)) (fun _ i _ => n - (intOf i).toNat)
  case atStart => exact ⟨0, Nat.zero_le _, rfl, by simpa [hexL] using HO1, HB1⟩
  case round =>
    obtain ⟨k, hk, rfl, HO, HBL⟩ := hrel
    by_cases hlt : k < n
    rotate_left
    · have d1 : decide (k < n) = false := decide_eq_false hlt
      have d2 : decide ((k : Int) < (n : Int)) = false := decide_eq_false (by omega)
      have HE : Hid (hexL (s.data.toList.take k) = hexL s.data.toList) := Lib.hid (by rw [List.take_of_length_le]; rw [Array.length_toList]; have := HN.out; have h2 : s.data.size = s.size := rfl; omega)
      have HCO := conv_own HO.out
      go_wp2_with fail
      go_ret
      exact ⟨by rw [HT.out, ← HE.out]; rfl, HBL.out⟩
    have d1 : decide (k < n) = true := decide_eq_true hlt
    have hk0 : (0 : Int) ≤ (k : Int) := by omega
    have hkl : (k : Int) < (n : Int) := by omega
    have hkd : k < s.data.toList.length := by rw [Array.length_toList]; have h2 : s.data.size = s.size := rfl; have := HN.out; omega
    have HNX := Lib.hid (hexL_next hkd)
    obtain ⟨b, hb⟩ : ∃ b, s.data.toList[k] = b := ⟨_, rfl⟩
    have hbs : ∀ h : k < s.size, s[k]'h = b := fun h => by rw [← hb]; exact (Array.getElem_toList _).symm
    rw [hb] at HNX
    have hq := b.toNat_lt
    obtain ⟨q, hqq⟩ : ∃ q, b.toNat / 16 = q := ⟨_, rfl⟩
    obtain ⟨r, hrr⟩ : ∃ r, b.toNat % 16 = r := ⟨_, rfl⟩
    rw [hqq, hrr] at HNX
    have hq16 : q < 16 := by omega
    have hr16 : r < 16 := by omega
    have e1 : (b.toNat : Int) / 16 = (q : Int) := by omega
    have e2 : bits .and .u8 (b.toNat : Int) 15 = (r : Int) := by rw [← hrr]; exact and15 _ hq
    have g1 := fun h => digit16 q hq16 h
    have g2 := fun h => digit16 r hr16 h
    have e3 : IntKind.u8.wrap (q : Int) = (q : Int) := IntWalk.u8_in _ (by omega)
    have e4 : IntKind.u8.wrap (r : Int) = (r : Int) := IntWalk.u8_in _ (by omega)
    have i1 : (q : Int) < 16 := by omega
    have i2 : (r : Int) < 16 := by omega
    have i3 : (0 : Int) ≤ (q : Int) := by omega
    have i4 : (0 : Int) ≤ (r : Int) := by omega
    have HO2 := Lib.hid (own_step (.cells #[.int .u8 (hx q).toNat, .int .u8 (hx r).toNat] 5) HO.out)
    have HRW := Lib.hid (rd_two wr (hx q) (hx r))
    have HBW := Lib.hid (HBL.out.trans (((below_new wr (.cells #[.int .u8 (hx q).toNat, .int .u8 (hx r).toNat] 5)).drew).mono HBL.out.size))
    have HLN : Hid ((hexL (s.data.toList.take k)).length + 2 ≤ 140737488355328 ∧ w.heap.size ≤ ((wr.alloc (.cells #[.int .u8 (hx q).toNat, .int .u8 (hx r).toNat] 5)).drew).heap.size) := Lib.hid ⟨by rw [hexL_len, List.length_take]; omega, HBW.out.size⟩
    clear hqq hrr hq hb hkd
    go_upto_region 7 with (fail)
    go_region_law (refine step_bytes (by rfl) (.tmp 16) (.tmp 27) (by rfl) w.heap.size u3 (hexL (s.data.toList.take k)) (by rfl) HO2.out ⟨wr.heap.size, 0, none⟩ 2 2 [hx q, hx r] rfl (by rfl) HRW.out HLN.out.1 HLN.out.2 ?_; intro v7 w7 ho7 hb7; have HO7 := Lib.hid ho7; have HB7 := Lib.hid hb7; clear ho7 hb7)
    all_goals (
      have HO9 : Hid (OwnB w7 w.heap.size v7 (hexL (s.data.toList.take (k + 1)))) := Lib.hid (by rw [HNX.out]; exact HO7.out)
      have HB9 := Lib.hid (HBW.out.trans HB7.out)
      clear HO2 HRW HBW HLN HO HBL g1 g2 hbs
      go_wp2_with fail
      go_roundw
      case rel => exact ⟨k + 1, by omega, by go_num, HO9, HB9⟩
      case measure => simp [intOf]; omega)
set_option maxRecDepth 100000 in
set_option maxHeartbeats 8000000 in
theorem rhex_any (s : ByteArray) (w : World) (hs : s.size ≤ 1000000) :
    Calls Tryz.prog 23 #[.string s] w fun e w' => e = .returned (.string (ofL (speL s))) ∧ Below w.heap.size w w' := by
  by_cases h0 : s.size = 0
  · have he : s = { data := #[] } := by
      cases s with | mk d => cases d with | mk l => cases l with
        | nil => rfl
        | cons a r => simp [ByteArray.size] at h0
    subst he
    go_enter Tryz.func23, Tryz.ntmps23
    go_wp2_with fail
    go_ret
    exact ⟨rfl, Below.refl _ _⟩
  have HT : Hid (ofL (speL s) = ofL (hexL s.data.toList)) := Lib.hid (by rw [speL, if_neg h0])
  obtain ⟨n, hn⟩ : ∃ n, s.size = n := ⟨_, rfl⟩
  have hne := empty_no h0
  rw [hn] at hs h0
  have HN := Lib.hid hn
  go_enter Tryz.func23, Tryz.ntmps23
  go_wp2_with fail
  clear hne
  have HO1 := Lib.hid (OwnB.nil w w.heap.size)
  have HB1 := Lib.hid (Below.refl w.heap.size w)
  go_loopw [3, 4] (fun v i wr => ∃ k : Nat, k ≤ n ∧ i = .int .i64 k ∧ Hid (OwnB wr w.heap.size v (hexL (s.data.toList.take k))) ∧ Hid (Below w.heap.size w wr)) (fun _ i _ => n - (intOf i).toNat)
  case atStart => exact ⟨0, Nat.zero_le _, rfl, by simpa [hexL] using HO1, HB1⟩
  case round =>
    obtain ⟨k, hk, rfl, HO, HBL⟩ := hrel
    by_cases hlt : k < n
    rotate_left
    · have d1 : decide (k < n) = false := decide_eq_false hlt
      have d2 : decide ((k : Int) < (n : Int)) = false := decide_eq_false (by omega)
      have HE : Hid (hexL (s.data.toList.take k) = hexL s.data.toList) := Lib.hid (by rw [List.take_of_length_le]; rw [Array.length_toList]; have := HN.out; have h2 : s.data.size = s.size := rfl; omega)
      have HCO := conv_own HO.out
      go_wp2_with fail
      go_ret
      exact ⟨by rw [HT.out, ← HE.out]; rfl, HBL.out⟩
    have d1 : decide (k < n) = true := decide_eq_true hlt
    have hk0 : (0 : Int) ≤ (k : Int) := by omega
    have hkl : (k : Int) < (n : Int) := by omega
    have hkd : k < s.data.toList.length := by rw [Array.length_toList]; have h2 : s.data.size = s.size := rfl; have := HN.out; omega
    have HNX := Lib.hid (hexL_next hkd)
    obtain ⟨b, hb⟩ : ∃ b, s.data.toList[k] = b := ⟨_, rfl⟩
    have hbs : ∀ h : k < s.size, s[k]'h = b := fun h => by rw [← hb]; exact (Array.getElem_toList _).symm
    rw [hb] at HNX
    have hq := b.toNat_lt
    obtain ⟨q, hqq⟩ : ∃ q, b.toNat / 16 = q := ⟨_, rfl⟩
    obtain ⟨r, hrr⟩ : ∃ r, b.toNat % 16 = r := ⟨_, rfl⟩
    rw [hqq, hrr] at HNX
    have hq16 : q < 16 := by omega
    have hr16 : r < 16 := by omega
    have e1 : (b.toNat : Int) / 16 = (q : Int) := by omega
    have e2 : (b.toNat : Int).tmod 16 = (r : Int) := by rw [Int.tmod_eq_emod_of_nonneg (by omega)]; omega
    have g1 := fun h => digit16 q hq16 h
    have g2 := fun h => digit16 r hr16 h
    have e3 : IntKind.u8.wrap (q : Int) = (q : Int) := IntWalk.u8_in _ (by omega)
    have e4 : IntKind.u8.wrap (r : Int) = (r : Int) := IntWalk.u8_in _ (by omega)
    have i1 : (q : Int) < 16 := by omega
    have i2 : (r : Int) < 16 := by omega
    have i3 : (0 : Int) ≤ (q : Int) := by omega
    have i4 : (0 : Int) ≤ (r : Int) := by omega
    have HO2 := Lib.hid (own_step (.cells #[.int .u8 (hx q).toNat, .int .u8 (hx r).toNat] 5) HO.out)
    have HRW := Lib.hid (rd_two wr (hx q) (hx r))
    have HBW := Lib.hid (HBL.out.trans (((below_new wr (.cells #[.int .u8 (hx q).toNat, .int .u8 (hx r).toNat] 5)).drew).mono HBL.out.size))
    have HLN : Hid ((hexL (s.data.toList.take k)).length + 2 ≤ 140737488355328 ∧ w.heap.size ≤ ((wr.alloc (.cells #[.int .u8 (hx q).toNat, .int .u8 (hx r).toNat] 5)).drew).heap.size) := Lib.hid ⟨by rw [hexL_len, List.length_take]; omega, HBW.out.size⟩
    clear hqq hrr hq hb hkd
    go_upto_region 7 with (fail)
    go_region_law (refine step_bytes (by rfl) (.tmp 13) (.tmp 24) (by rfl) w.heap.size u3 (hexL (s.data.toList.take k)) (by rfl) HO2.out ⟨wr.heap.size, 0, none⟩ 2 2 [hx q, hx r] rfl (by rfl) HRW.out HLN.out.1 HLN.out.2 ?_; intro v7 w7 ho7 hb7; have HO7 := Lib.hid ho7; have HB7 := Lib.hid hb7; clear ho7 hb7)
    all_goals (
      have HO9 : Hid (OwnB w7 w.heap.size v7 (hexL (s.data.toList.take (k + 1)))) := Lib.hid (by rw [HNX.out]; exact HO7.out)
      have HB9 := Lib.hid (HBW.out.trans HB7.out)
      clear HO2 HRW HBW HLN HO HBL g1 g2 hbs
      go_wp2_with fail
      go_roundw
      case rel => exact ⟨k + 1, by omega, by go_num, HO9, HB9⟩
      case measure => simp [intOf]; omega)
end Go.Proofs.YtccofgdcpmplmaaGreatDoor
