/- Texts put to an end. -/
import Derived.Test.YtnnlfhdjakabmaaLay
import Derived.Test.YtnnlfhdjakabmaaLong
import Derived.Laws.EntriesVeiled
namespace Go.Proofs.Ytnnlfhdjakabmaa
open Go Go.RowKit
open Go.Shelf
/-- What holds while texts are put. -/
def PuI (D : Nat) (r : Option Nat) (w1 : World) (L : List ByteArray) (W : World) : Prop := ∃ rk, Dq D rk L W ∧ Next w1 r rk ∧ Keeps D r w1 W
theorem Next.mono {w w1 : World} {r r' : Option Nat} (h : Next w1 r r') (hs : w.heap.size ≤ w1.heap.size) : Next w r r' := by
  rcases h with rfl | h
  · exact .inl rfl
  · exact .inr fun k e => Nat.le_trans hs (h k e)
theorem PuI.step {D : Nat} {r rk rk' : Option Nat} {w1 W W' : World} {L' : List ByteArray} (hn : Next w1 r rk) (hk : Keeps D r w1 W) (hd : Dq D rk' L' W') (hk2 : Keeps D rk W W') (hn2 : Next W rk rk') : PuI D r w1 L' W' :=
  ⟨rk', hd, hn.trans hn2 hk.size, hk.trans hk2 hn⟩
theorem rd_keeps {D : Nat} {r : Option Nat} {w W : World} {A : Option Addr} {xs : List Value} (h : RdV w A xs) (hk : Keeps D r w W) (hA : ∀ ad, A = some ad → 0 < xs.length → ad.block < w.heap.size ∧ ad.block ≠ D ∧ r ≠ some ad.block) : RdV W A xs := fun h0 => by
  obtain ⟨b, off, rfl, hlt, hc⟩ := h h0
  obtain ⟨h1, h2, h3⟩ := hA _ rfl h0
  exact ⟨b, off, rfl, Nat.lt_of_lt_of_le hlt hk.size, fun j hj => (World.cell?_of_block (w := w) (a := ⟨b, off + j, none⟩) (hk.block b hlt h2 h3)).trans (hc j hj)⟩
theorem cell_of_two0 {W : World} {P : Nat} {x y : Value} {t : TypeId} (h : W.heap[P]? = some (.cells #[x, y] t (0, 0))) : W.cell? ⟨P, 0, none⟩ = some x := by simp [World.cell?, h]
theorem cell_of_two1 {W : World} {P : Nat} {x y : Value} {t : TypeId} (h : W.heap[P]? = some (.cells #[x, y] t (0, 0))) : W.cell? ⟨P, 1, none⟩ = some y := by simp [World.cell?, h]
theorem Keeps.weaken {D : Nat} {W W' : World} (r : Option Nat) (h : Keeps D none W W') : Keeps D r W W' := ⟨h.os, h.tape, h.output, h.size, fun k hk h1 _ => h.block k hk h1 (by simp)⟩
def PushQ (D : Nat) (r : Option Nat) (l' : List ByteArray) (w : World) (e : Ending) (w' : World) : Prop := e = .returned (.int .i64 0) ∧ ∃ r', Dq D r' l' w' ∧ Keeps D r w w' ∧ Next w r r'

set_option maxHeartbeats 2000000 in
theorem push0_yes (D : Nat) (r : Option Nat) (l : List ByteArray) (A : Option Addr) (n c : Nat) (ls : List ByteArray) (w : World) (h : Dq D r l w) (hn : ls.length = n) (ha : RdV w A (cellsS ls)) (hA : ∀ ad, A = some ad → 0 < n → ad.block < w.heap.size ∧ ad.block ≠ D ∧ r ≠ some ad.block)
    (hlong : longB ls = false) (hfit : l.length + n ≤ 65536) :
    Calls Try.prog 39 #[.pointer (some ⟨D, 0, none⟩), .int .i64 0, .slice A n c] w (PushQ D r (ls.reverse ++ l) w) := by
  have hs : ∀ s ∈ ls, s.size ≤ 9223372036854775807 := fun s hm => by have := longB_no.1 hlong s hm; omega
  have HD := Lib.hid h
  have HNO := Lib.hid (none_any D r l w h)
  have HLG := Lib.hid (long_any A n c ls w hn (by omega) hs ha)
  have HL := Lib.hid hlong
  have HN := Lib.hid hn
  have HA := Lib.hid ha
  have HAA := Lib.hid hA
  have h3 : w.cell? ⟨D, 3, none⟩ = some (.int .i64 l.length) := by obtain ⟨v, N, f, ys, -, hi⟩ := h; exact hi.c3
  have hDw := h.lt.1
  have HR := Lib.hid h.lt.2
  obtain ⟨m, hm⟩ : ∃ m, m = l.length := ⟨_, rfl⟩
  have HM := Lib.hid hm
  rw [← hm] at h3 hfit
  have en : ∀ args w, (callFunc 51 args).run Try.prog w = .ok (.enter 51 args) w := enters_of Try.func51 (by kernel_rfl) rfl
  clear hlong hs hn ha hA h hm
  go_enter Try.func39, Try.ntmps39
  go_wp2_with fail
  refine HNO.out.mono ?_
  rintro e w' ⟨rfl, rfl⟩
  go_wp2_with fail
  refine HLG.out.mono ?_
  rintro e w' ⟨rfl, rfl⟩
  rw [HL.out]
  go_wp2_with fail
  have hP : (w'.alloc (.cells #[.func (.func 51) #[] #[], .func (.func 52) #[] #[]] 78)).heap[w'.heap.size]? = some (.cells #[.func (.func 51) #[] #[], .func (.func 52) #[] #[]] 78 (0, 0)) := heap_alloc_new w' _
  have hb1 := below_new w' (.cells #[.func (.func 51) #[] #[], .func (.func 52) #[] #[]] 78)
  have hs1 : (w'.alloc (.cells #[.func (.func 51) #[] #[], .func (.func 52) #[] #[]] 78)).heap.size = w'.heap.size + 1 := by simp
  generalize hw1 : w'.alloc (.cells #[.func (.func 51) #[] #[], .func (.func 52) #[] #[]] 78) = w1 at *
  have HB1 := Lib.hid hb1
  have HA1 := Lib.hid (HA.out.below hb1)
  have HDB := Lib.hid (HD.out.below hb1)
  have HSZ := Lib.hid hb1.size
  clear hb1
  generalize hPe : w'.heap.size = P at *
  have HPE := Lib.hid hPe
  have HP := Lib.hid hP
  clear hPe
  have hPw : P < w1.heap.size := by omega
  have hPD : P ≠ D := by omega
  have hPr : r ≠ some P := fun e => by have := (HR.out P e).1; omega
  have HI0 : Hid (PuI D r w1 l w1) := Lib.hid ⟨r, HDB.out, Next.refl _ _, Keeps.refl _ _ _⟩
  have HS1 := Lib.hid hs1
  clear hw1 hP hs1 h3
  go_loopw [27] (fun i W => ∃ k : Nat, k ≤ n ∧ i = .int .i64 k ∧ Hid (PuI D r w1 ((ls.take k).reverse ++ l) W)) (fun i _ => n - (intOf i).toNat)
  case atStart => exact ⟨0, Nat.zero_le _, rfl, by simpa using HI0⟩
  case round =>
    clear HI0
    obtain ⟨k, hk, rfl, HQ⟩ := hrel
    obtain ⟨L, hL⟩ : ∃ L, L = (ls.take k).reverse ++ l := ⟨_, rfl⟩
    rw [← hL] at HQ
    have HLL := Lib.hid hL
    have hlen : L.length = m + k := by rw [hL]; simp [← HM.out]; have := HN.out; omega
    by_cases hlt : k < n
    · obtain ⟨rk, hdq, hnx, hkp⟩ := HQ.out
      have hra : RdV wr A (cellsS ls) := rd_keeps HA1.out hkp (fun ad e h0 => by
        rw [cellsS_len, HN.out] at h0
        obtain ⟨a1, a2, a3⟩ := HAA.out ad e h0
        exact ⟨by have := HS1.out; have := HPE.out; omega, a2, a3⟩)
      obtain ⟨b, off, rfl, hbb, hca⟩ := rdS_at hra (k := k) (by have := HN.out; omega)
      obtain ⟨x, hx, hxt⟩ := list_at (ls := ls) (k := k) (by have := HN.out; omega)
      rw [hx] at hca
      have hpb := (hkp.block P hPw hPD hPr).trans HP.out
      have HST : Hid ((ls.take (k + 1)).reverse ++ l = x :: L) := Lib.hid (by rw [hL, hxt]; simp)
      obtain ⟨v, N, f, ys, hrk, hi⟩ := hdq
      have hcap := hi.cap
      have hlN := hi.len
      have hfst := hi.fst
      rw [hlen] at hlN
      obtain ⟨A0, c0, rfl⟩ := hi.form
      have h1 := hi.c1
      have h3 := hi.c3
      rw [hlen] at h3
      have HKP := Lib.hid hkp
      have HNX := Lib.hid hnx
      have HLEN := Lib.hid hlen
      have HHI := Lib.hid hi
      have HDQ : Hid (Dq D rk L wr) := Lib.hid ⟨_, N, f, ys, hrk, hi⟩
      have HRK := Lib.hid hrk
      have hk0 : (0 : Int) ≤ (k : Int) := by omega
      have hk1 : (k : Int) < (n : Int) := by omega
      have HPB := Lib.hid hpb
      clear hx hxt hra hi hkp hnx hlen hrk hpb hL
      by_cases hfull : m + k = N
      · subst hfull
        go_wp2_with fail
        go_quiet (fail)
        have HDQ2 : Hid (Dq D rk L (wr.drewN nq)) := Lib.hid (HDQ.out.frame rfl (fun _ _ => rfl))
        have HKP2 : Hid (Keeps D r w1 (wr.drewN nq)) := Lib.hid (by have h := HKP.out; exact ⟨h.os, h.tape, h.output, h.size, h.block⟩)
        have HPB2 : Hid ((wr.drewN nq).heap[P]? = some (.cells #[.func (.func 51) #[] #[], .func (.func 52) #[] #[]] 78 (0, 0))) := Lib.hid HPB.out
        have hc1 := (show (wr.drewN nq).cell? ⟨D, 1, none⟩ = _ from h1)
        generalize wr.drewN nq = w2 at *
        clear h1 h3 HDQ HKP HPB hca
        by_cases h8 : 2 * (m + k) ≤ 8
        · have h8' : 2 * ((m : Int) + (k : Int)) ≤ 8 := by omega
          have hcall := lay_any D 8 rk L w2 HDQ2.out (by rw [HLEN.out]; omega) (by omega) (by omega)
          go_wp2_with fail
          refine hcall.mono ?_
          rintro e w3 ⟨rfl, g, ys3, hi3, hk3, hg3⟩
          have hpb3 := (hk3.block P (by have := HKP2.out.size; omega) hPD (by simp)).trans HPB2.out
          have hcp := cell_of_two0 hpb3
          have HI3 := Lib.hid hi3
          have HK3 := Lib.hid (Keeps.weaken rk hk3)
          have HG3 := Lib.hid hg3
          clear hcall hi3 hk3 hg3 hpb3 hc1
          go_wp2_with fail
          refine (putFirst_any D g 8 8 0 ys3 L x w3 HI3.out (by rw [HLEN.out]; omega) (by omega)).mono ?_
          rintro e w4 ⟨rfl, hd4, hk4⟩
          have HD4 := Lib.hid (PuI.step HNX.out HKP2.out hd4 (HK3.out.trans hk4 (.inr (fun j e => by cases e; exact HG3.out))) (.inr (fun j e => by cases e; exact HG3.out)))
          clear hd4 hk4 hcp
          go_wp2_with fail
          go_roundw
          case rel => exact ⟨k + 1, by omega, by go_num, by rw [HST.out]; exact HD4⟩
          case measure => simp [intOf]; omega
        · have h8' : ¬ 2 * ((m : Int) + (k : Int)) ≤ 8 := by omega
          have hcall := lay_any D (2 * (m + k)) rk L w2 HDQ2.out (by rw [HLEN.out]; omega) (by omega) (by omega)
          rw [show ((2 * (m + k) : Nat) : Int) = 2 * ((m : Int) + (k : Int)) by omega] at hcall
          go_wp2_with fail
          refine hcall.mono ?_
          rintro e w3 ⟨rfl, g, ys3, hi3, hk3, hg3⟩
          have hpb3 := (hk3.block P (by have := HKP2.out.size; omega) hPD (by simp)).trans HPB2.out
          have hcp := cell_of_two0 hpb3
          have HI3 := Lib.hid hi3
          have HK3 := Lib.hid (Keeps.weaken rk hk3)
          have HG3 := Lib.hid hg3
          clear hcall hi3 hk3 hg3 hpb3 hc1
          go_wp2_with fail
          refine (putFirst_any D g (2 * (m + k)) (2 * (m + k)) 0 ys3 L x w3 HI3.out (by rw [HLEN.out]; omega) (by omega)).mono ?_
          rintro e w4 ⟨rfl, hd4, hk4⟩
          have HD4 := Lib.hid (PuI.step HNX.out HKP2.out hd4 (HK3.out.trans hk4 (.inr (fun j e => by cases e; exact HG3.out))) (.inr (fun j e => by cases e; exact HG3.out)))
          clear hd4 hk4 hcp
          go_wp2_with fail
          go_roundw
          case rel => exact ⟨k + 1, by omega, by go_num, by rw [HST.out]; exact HD4⟩
          case measure => simp [intOf]; omega
      · have e1 : (((m : Int) + (k : Int)) == (N : Int)) = false := by simp; omega
        have e2 : (((m + k : Nat) : Int) == (N : Int)) = false := by simp; omega
        have e3 : (m + k == N) = false := by simpa using hfull
        have e4 : ¬ m + k = N := hfull
        clear hfull
        go_wp2_with fail
        go_quiet (fail)
        have hcp := cell_of_two0 (show (wr.drewN nq).heap[P]? = _ from HPB.out)
        have HI2 : Hid (DqI D L (.slice A0 N c0) N f ys (wr.drewN nq)) := Lib.hid (HHI.out.frame rfl (fun _ _ => rfl))
        have HKP2 : Hid (Keeps D r w1 (wr.drewN nq)) := Lib.hid (by have h := HKP.out; exact ⟨h.os, h.tape, h.output, h.size, h.block⟩)
        generalize wr.drewN nq = w2 at *
        clear h1 h3 HDQ HKP hca HPB
        obtain ⟨g, cg, hvg, -, -, -, hob, -⟩ := row_form HI2.out.row (by omega)
        obtain ⟨hA0, -, hc0⟩ : A0 = some ⟨g, 0, none⟩ ∧ N = N ∧ c0 = cg := by simpa using hvg
        subst hA0
        have hrk : rk = some g := HRK.out
        have HRG := Lib.hid hrk
        clear hvg hc0 hob hrk
        go_wp2_with fail
        refine (putFirst_any D g c0 N f ys L x w2 HI2.out (by rw [HLEN.out]; omega) (by omega)).mono ?_
        rintro e w3 ⟨rfl, hd3, hk3⟩
        have HD3 := Lib.hid (PuI.step HNX.out HKP2.out hd3 (by rw [HRG.out]; exact hk3) (.inl HRG.out.symm))
        clear hd3 hk3 hcp
        go_wp2_with fail
        go_roundw
        case rel => exact ⟨k + 1, by omega, by go_num, by rw [HST.out]; exact HD3⟩
        case measure => simp [intOf]; omega
    · obtain rfl : k = n := by omega
      obtain ⟨rk, hdq, hnx, hkp⟩ := HQ.out
      have hfin : L = (ls.reverse ++ l) := by rw [HLL.out, List.take_of_length_le (by have := HN.out; omega)]
      have HF : Hid (∃ r', Dq D r' (ls.reverse ++ l) wr ∧ Keeps D r w' wr ∧ Next w' r r') := Lib.hid ⟨rk, by rw [← hfin]; exact hdq, (Keeps.of_below (by rw [HPE.out]; exact HB1.out)).trans hkp (Next.refl _ _), hnx.mono (by rw [HPE.out]; exact HSZ.out)⟩
      clear hdq hnx hkp hfin
      go_wp2
      go_ret
      exact ⟨rfl, HF.out⟩

set_option maxHeartbeats 2000000 in
theorem push1_yes (D : Nat) (r : Option Nat) (l : List ByteArray) (A : Option Addr) (n c : Nat) (ls : List ByteArray) (w : World) (h : Dq D r l w) (hn : ls.length = n) (ha : RdV w A (cellsS ls)) (hA : ∀ ad, A = some ad → 0 < n → ad.block < w.heap.size ∧ ad.block ≠ D ∧ r ≠ some ad.block)
    (hlong : longB ls = false) (hfit : l.length + n ≤ 65536) :
    Calls Try.prog 39 #[.pointer (some ⟨D, 0, none⟩), .int .i64 1, .slice A n c] w (PushQ D r (l ++ ls) w) := by
  have hs : ∀ s ∈ ls, s.size ≤ 9223372036854775807 := fun s hm => by have := longB_no.1 hlong s hm; omega
  have HD := Lib.hid h
  have HNO := Lib.hid (none_any D r l w h)
  have HLG := Lib.hid (long_any A n c ls w hn (by omega) hs ha)
  have HL := Lib.hid hlong
  have HN := Lib.hid hn
  have HA := Lib.hid ha
  have HAA := Lib.hid hA
  have h3 : w.cell? ⟨D, 3, none⟩ = some (.int .i64 l.length) := by obtain ⟨v, N, f, ys, -, hi⟩ := h; exact hi.c3
  have hDw := h.lt.1
  have HR := Lib.hid h.lt.2
  obtain ⟨m, hm⟩ : ∃ m, m = l.length := ⟨_, rfl⟩
  have HM := Lib.hid hm
  rw [← hm] at h3 hfit
  have en : ∀ args w, (callFunc 52 args).run Try.prog w = .ok (.enter 52 args) w := enters_of Try.func52 (by kernel_rfl) rfl
  clear hlong hs hn ha hA h hm
  go_enter Try.func39, Try.ntmps39
  go_wp2_with fail
  refine HNO.out.mono ?_
  rintro e w' ⟨rfl, rfl⟩
  go_wp2_with fail
  refine HLG.out.mono ?_
  rintro e w' ⟨rfl, rfl⟩
  rw [HL.out]
  go_wp2_with fail
  have hP : (w'.alloc (.cells #[.func (.func 51) #[] #[], .func (.func 52) #[] #[]] 78)).heap[w'.heap.size]? = some (.cells #[.func (.func 51) #[] #[], .func (.func 52) #[] #[]] 78 (0, 0)) := heap_alloc_new w' _
  have hb1 := below_new w' (.cells #[.func (.func 51) #[] #[], .func (.func 52) #[] #[]] 78)
  have hs1 : (w'.alloc (.cells #[.func (.func 51) #[] #[], .func (.func 52) #[] #[]] 78)).heap.size = w'.heap.size + 1 := by simp
  generalize hw1 : w'.alloc (.cells #[.func (.func 51) #[] #[], .func (.func 52) #[] #[]] 78) = w1 at *
  have HB1 := Lib.hid hb1
  have HA1 := Lib.hid (HA.out.below hb1)
  have HDB := Lib.hid (HD.out.below hb1)
  have HSZ := Lib.hid hb1.size
  clear hb1
  generalize hPe : w'.heap.size = P at *
  have HPE := Lib.hid hPe
  have HP := Lib.hid hP
  clear hPe
  have hPw : P < w1.heap.size := by omega
  have hPD : P ≠ D := by omega
  have hPr : r ≠ some P := fun e => by have := (HR.out P e).1; omega
  have HI0 : Hid (PuI D r w1 l w1) := Lib.hid ⟨r, HDB.out, Next.refl _ _, Keeps.refl _ _ _⟩
  have HS1 := Lib.hid hs1
  clear hw1 hP hs1 h3
  go_loopw [27] (fun i W => ∃ k : Nat, k ≤ n ∧ i = .int .i64 k ∧ Hid (PuI D r w1 (l ++ ls.take k) W)) (fun i _ => n - (intOf i).toNat)
  case atStart => exact ⟨0, Nat.zero_le _, rfl, by simpa using HI0⟩
  case round =>
    clear HI0
    obtain ⟨k, hk, rfl, HQ⟩ := hrel
    obtain ⟨L, hL⟩ : ∃ L, L = l ++ ls.take k := ⟨_, rfl⟩
    rw [← hL] at HQ
    have HLL := Lib.hid hL
    have hlen : L.length = m + k := by rw [hL]; simp [← HM.out]; have := HN.out; omega
    by_cases hlt : k < n
    · obtain ⟨rk, hdq, hnx, hkp⟩ := HQ.out
      have hra : RdV wr A (cellsS ls) := rd_keeps HA1.out hkp (fun ad e h0 => by
        rw [cellsS_len, HN.out] at h0
        obtain ⟨a1, a2, a3⟩ := HAA.out ad e h0
        exact ⟨by have := HS1.out; have := HPE.out; omega, a2, a3⟩)
      obtain ⟨b, off, rfl, hbb, hca⟩ := rdS_at hra (k := k) (by have := HN.out; omega)
      obtain ⟨x, hx, hxt⟩ := list_at (ls := ls) (k := k) (by have := HN.out; omega)
      rw [hx] at hca
      have hpb := (hkp.block P hPw hPD hPr).trans HP.out
      have HST : Hid (l ++ ls.take (k + 1) = L ++ [x]) := Lib.hid (by rw [hL, hxt]; simp)
      obtain ⟨v, N, f, ys, hrk, hi⟩ := hdq
      have hcap := hi.cap
      have hlN := hi.len
      have hfst := hi.fst
      rw [hlen] at hlN
      obtain ⟨A0, c0, rfl⟩ := hi.form
      have h1 := hi.c1
      have h3 := hi.c3
      rw [hlen] at h3
      have HKP := Lib.hid hkp
      have HNX := Lib.hid hnx
      have HLEN := Lib.hid hlen
      have HHI := Lib.hid hi
      have HDQ : Hid (Dq D rk L wr) := Lib.hid ⟨_, N, f, ys, hrk, hi⟩
      have HRK := Lib.hid hrk
      have hk0 : (0 : Int) ≤ (k : Int) := by omega
      have hk1 : (k : Int) < (n : Int) := by omega
      have HPB := Lib.hid hpb
      clear hx hxt hra hi hkp hnx hlen hrk hpb hL
      by_cases hfull : m + k = N
      · subst hfull
        go_wp2_with fail
        go_quiet (fail)
        have HDQ2 : Hid (Dq D rk L (wr.drewN nq)) := Lib.hid (HDQ.out.frame rfl (fun _ _ => rfl))
        have HKP2 : Hid (Keeps D r w1 (wr.drewN nq)) := Lib.hid (by have h := HKP.out; exact ⟨h.os, h.tape, h.output, h.size, h.block⟩)
        have HPB2 : Hid ((wr.drewN nq).heap[P]? = some (.cells #[.func (.func 51) #[] #[], .func (.func 52) #[] #[]] 78 (0, 0))) := Lib.hid HPB.out
        have hc1 := (show (wr.drewN nq).cell? ⟨D, 1, none⟩ = _ from h1)
        generalize wr.drewN nq = w2 at *
        clear h1 h3 HDQ HKP HPB hca
        by_cases h8 : 2 * (m + k) ≤ 8
        · have h8' : 2 * ((m : Int) + (k : Int)) ≤ 8 := by omega
          have hcall := lay_any D 8 rk L w2 HDQ2.out (by rw [HLEN.out]; omega) (by omega) (by omega)
          go_wp2_with fail
          refine hcall.mono ?_
          rintro e w3 ⟨rfl, g, ys3, hi3, hk3, hg3⟩
          have hpb3 := (hk3.block P (by have := HKP2.out.size; omega) hPD (by simp)).trans HPB2.out
          have hcp := cell_of_two1 hpb3
          have HI3 := Lib.hid hi3
          have HK3 := Lib.hid (Keeps.weaken rk hk3)
          have HG3 := Lib.hid hg3
          clear hcall hi3 hk3 hg3 hpb3 hc1
          go_wp2_with fail
          refine (putLast_any D g 8 8 0 ys3 L x w3 HI3.out (by rw [HLEN.out]; omega) (by omega)).mono ?_
          rintro e w4 ⟨rfl, hd4, hk4⟩
          have HD4 := Lib.hid (PuI.step HNX.out HKP2.out hd4 (HK3.out.trans hk4 (.inr (fun j e => by cases e; exact HG3.out))) (.inr (fun j e => by cases e; exact HG3.out)))
          clear hd4 hk4 hcp
          go_wp2_with fail
          go_roundw
          case rel => exact ⟨k + 1, by omega, by go_num, by rw [HST.out]; exact HD4⟩
          case measure => simp [intOf]; omega
        · have h8' : ¬ 2 * ((m : Int) + (k : Int)) ≤ 8 := by omega
          have hcall := lay_any D (2 * (m + k)) rk L w2 HDQ2.out (by rw [HLEN.out]; omega) (by omega) (by omega)
          rw [show ((2 * (m + k) : Nat) : Int) = 2 * ((m : Int) + (k : Int)) by omega] at hcall
          go_wp2_with fail
          refine hcall.mono ?_
          rintro e w3 ⟨rfl, g, ys3, hi3, hk3, hg3⟩
          have hpb3 := (hk3.block P (by have := HKP2.out.size; omega) hPD (by simp)).trans HPB2.out
          have hcp := cell_of_two1 hpb3
          have HI3 := Lib.hid hi3
          have HK3 := Lib.hid (Keeps.weaken rk hk3)
          have HG3 := Lib.hid hg3
          clear hcall hi3 hk3 hg3 hpb3 hc1
          go_wp2_with fail
          refine (putLast_any D g (2 * (m + k)) (2 * (m + k)) 0 ys3 L x w3 HI3.out (by rw [HLEN.out]; omega) (by omega)).mono ?_
          rintro e w4 ⟨rfl, hd4, hk4⟩
          have HD4 := Lib.hid (PuI.step HNX.out HKP2.out hd4 (HK3.out.trans hk4 (.inr (fun j e => by cases e; exact HG3.out))) (.inr (fun j e => by cases e; exact HG3.out)))
          clear hd4 hk4 hcp
          go_wp2_with fail
          go_roundw
          case rel => exact ⟨k + 1, by omega, by go_num, by rw [HST.out]; exact HD4⟩
          case measure => simp [intOf]; omega
      · have e1 : (((m : Int) + (k : Int)) == (N : Int)) = false := by simp; omega
        have e2 : (((m + k : Nat) : Int) == (N : Int)) = false := by simp; omega
        have e3 : (m + k == N) = false := by simpa using hfull
        have e4 : ¬ m + k = N := hfull
        clear hfull
        go_wp2_with fail
        go_quiet (fail)
        have hcp := cell_of_two1 (show (wr.drewN nq).heap[P]? = _ from HPB.out)
        have HI2 : Hid (DqI D L (.slice A0 N c0) N f ys (wr.drewN nq)) := Lib.hid (HHI.out.frame rfl (fun _ _ => rfl))
        have HKP2 : Hid (Keeps D r w1 (wr.drewN nq)) := Lib.hid (by have h := HKP.out; exact ⟨h.os, h.tape, h.output, h.size, h.block⟩)
        generalize wr.drewN nq = w2 at *
        clear h1 h3 HDQ HKP hca HPB
        obtain ⟨g, cg, hvg, -, -, -, hob, -⟩ := row_form HI2.out.row (by omega)
        obtain ⟨hA0, -, hc0⟩ : A0 = some ⟨g, 0, none⟩ ∧ N = N ∧ c0 = cg := by simpa using hvg
        subst hA0
        have hrk : rk = some g := HRK.out
        have HRG := Lib.hid hrk
        clear hvg hc0 hob hrk
        go_wp2_with fail
        refine (putLast_any D g c0 N f ys L x w2 HI2.out (by rw [HLEN.out]; omega) (by omega)).mono ?_
        rintro e w3 ⟨rfl, hd3, hk3⟩
        have HD3 := Lib.hid (PuI.step HNX.out HKP2.out hd3 (by rw [HRG.out]; exact hk3) (.inl HRG.out.symm))
        clear hd3 hk3 hcp
        go_wp2_with fail
        go_roundw
        case rel => exact ⟨k + 1, by omega, by go_num, by rw [HST.out]; exact HD3⟩
        case measure => simp [intOf]; omega
    · obtain rfl : k = n := by omega
      obtain ⟨rk, hdq, hnx, hkp⟩ := HQ.out
      have hfin : L = (l ++ ls) := by rw [HLL.out, List.take_of_length_le (by have := HN.out; omega)]
      have HF : Hid (∃ r', Dq D r' (l ++ ls) wr ∧ Keeps D r w' wr ∧ Next w' r r') := Lib.hid ⟨rk, by rw [← hfin]; exact hdq, (Keeps.of_below (by rw [HPE.out]; exact HB1.out)).trans hkp (Next.refl _ _), hnx.mono (by rw [HPE.out]; exact HSZ.out)⟩
      clear hdq hnx hkp hfin
      go_wp2
      go_ret
      exact ⟨rfl, HF.out⟩
end Go.Proofs.Ytnnlfhdjakabmaa
