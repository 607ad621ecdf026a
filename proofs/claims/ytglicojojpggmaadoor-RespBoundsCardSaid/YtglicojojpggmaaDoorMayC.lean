/- Whether replies may be, one behind the other. -/
import Derived.Test.YtglicojojpggmaaDoorMayB
namespace Go.Proofs.YtglicojojpggmaaDoor
open Go Go.RowKit
/-- What the function that 'may' makes has caught. -/
structure Env (W : World) (D V G : Nat) (d : Int) : Prop where
  ed : W.heap[D]? = some (.cells #[.int .i64 d] 3 (0, 0))
  ev : W.heap[V]? = some (.cells #[.pointer (some ⟨G, 0, none⟩)] 99 (0, 0))
  nd : D ≠ G
  nv : V ≠ G
theorem Env.only {W W' : World} {D V G : Nat} {d : Int} (h : Env W D V G d) (ho : Only G W W') : Env W' D V G d :=
  ⟨(ho.block _ (lt_of_block h.ed) (fun e => h.nd (by injection e))).trans h.ed, (ho.block _ (lt_of_block h.ev) (fun e => h.nv (by injection e))).trans h.ev, h.nd, h.nv⟩
theorem RpK.only {W W' : World} {G : Nat} {r : Rp} {A : Option Addr} {c : Nat} (h : RpK (fun b => b ≠ G) W r A c) (ho : Only G W W') : RpK (fun b => b ≠ G) W' r A c :=
  h.imp ho.size fun b hp hb => ⟨ho.block b hb (fun e => hp (by injection e)), hp⟩
def NotMayQ (w : World) (G : Nat) (o : Option (Int × Int)) (e : Ending) (w' : World) : Prop :=
  ∃ it tx, e = .returned (.bool o.isNone) ∧ Wt w' G it tx ∧ (∀ p, o = some p → p = (it, tx)) ∧ Only G w w'
section
variable {n : Nat} {r : Rp} {A : Option Addr} {c : Nat} {d it tx : Int} {G D V : Nat} {w : World}
set_option maxRecDepth 100000 in
set_option maxHeartbeats 8000000 in
theorem may1_any (IH : MayC n) (hh : hgt r ≤ n) (hw : Wt w G it tx) (hk : RpK (fun b => b ≠ G) w r A c) (he : Env w D V G d) (hi0 : 0 ≤ it) (hi1 : it ≤ 1000000000) (ht1 : tx ≤ 1000000000) (ht0 : -1000000000 ≤ tx) (hd0 : 1 ≤ d) (hd1 : d ≤ 1000000000) :
    Calls Tryd.prog 74 #[.agg (rpV r A c), .pointer (some ⟨D, 0, none⟩), .pointer (some ⟨V, 0, none⟩)] w (NotMayQ w G (mayF r (d - 1) it tx)) := by
  have hb := below_new w (.cells (rpV r A c) 41)
  have H := Lib.hid (IH r A c (d - 1) it tx G (w.alloc (.cells (rpV r A c) 41)) hh (hw.below hb) (hk.only (only_below2 hb)) hi0 hi1 ht1 ht0 (by omega) (by omega))
  have HO := Lib.hid (only_below2 (G := G) hb)
  have e1 := cell_one ((he.only (only_below2 hb)).ed)
  have e2 := cell_one ((he.only (only_below2 hb)).ev)
  have hw1 : IntKind.i64.wrap (d - 1) = d - 1 := IntWalk.i64_in _ (by omega)
  clear hb hw hk he IH
  go_enter Tryd.func74, Tryd.ntmps74
  go_wp2_with fail
  refine H.out.mono ?_
  rintro e w1 ⟨it1, tx1, rfl, hw1, hp1, ho1⟩
  go_wp2_with fail
  go_ret
  exact ⟨it1, tx1, rfl, hw1, hp1, only_trans HO.out ho1⟩
/-- What is told of replies, one behind the other. -/
def IdxQ (w : World) (G : Nat) (o : Option (Int × Int)) (e : Ending) (w' : World) : Prop :=
  ∃ i it tx, e = .returned (.int .i64 i) ∧ (0 ≤ i ↔ o = none) ∧ Wt w' G it tx ∧ (∀ p, o = some p → p = (it, tx)) ∧ Only G w w'
set_option maxRecDepth 100000 in
set_option maxHeartbeats 8000000 in
theorem index_any (IH : MayC n) (hh : hgtL r.kids ≤ n) (hw : Wt w G it tx) (hk : RpK (fun b => b ≠ G) w r A c) (he : Env w D V G d) (hi0 : 0 ≤ it) (hi1 : it ≤ 1000000000) (ht1 : tx ≤ 1000000000) (ht0 : 0 ≤ tx) (hd0 : 1 ≤ d) (hd1 : d ≤ 1000000000) :
    Calls Tryd.prog 85 #[.slice A r.kids.length c, .func (.func 74) #[] #[.pointer (some ⟨D, 0, none⟩), .pointer (some ⟨V, 0, none⟩)]] w (IdxQ w G (mayL r.kids (d - 1) it tx)) := by
  obtain ⟨o, ho⟩ : ∃ o, mayL r.kids (d - 1) it tx = o := ⟨_, rfl⟩
  rw [ho]
  have HO := Lib.hid ho
  have HK := Lib.hid hk
  have HE := Lib.hid he
  have HW := Lib.hid hw
  have HH := Lib.hid hh
  have hlen : (r.kids.length : Int) ≤ 140737488355328 := by have := hk.1.2.2.2.2.2; omega
  clear ho hk he hw hh
  go_enter Tryd.func85, Tryd.ntmps85
  go_wp2_with fail
  go_loopw [8] (fun i W => ∃ (k : Nat) (it1 tx1 : Int), i = .int .i64 k ∧ k ≤ r.kids.length ∧ Hid (mayL (r.kids.drop k) (d - 1) it1 tx1 = o) ∧ Hid (Wt W G it1 tx1) ∧ Hid (Only G w W) ∧ 0 ≤ it1 ∧ it1 ≤ 1000000000 ∧ 0 ≤ tx1 ∧ tx1 ≤ 1000000000) (fun i _ => r.kids.length - (intOf i).toNat)
  case atStart => exact ⟨0, it, tx, rfl, Nat.zero_le _, HO, HW, Lib.hid (only_drew G w 0), hi0, hi1, ht0, ht1⟩
  case round =>
    clear HO HW
    obtain ⟨k, it1, tx1, rfl, hk, HM, HW, HON, h1, h2, h3, h4⟩ := hrel
    by_cases hlt : k < r.kids.length
    · obtain ⟨b, o', hA, hb, hp, ha⟩ := (HK.out.only HON.out).kid hlt
      obtain ⟨A1, c1, x0, x1, x2, x3, hk1⟩ := ha.row
      have hr : hgt r.kids[k] ≤ n := Nat.le_trans (hgt_kid (List.getElem_mem hlt)) HH.out
      have HC := Lib.hid (may1_any IH hr HW.out hk1 (HE.out.only HON.out) h1 h2 h4 (by omega) hd0 hd1)
      have hm := HM.out
      rw [List.drop_eq_getElem_cons hlt, mayL] at hm
      have HM2 := Lib.hid hm
      clear hm HM hr hk1 ha hp hb
      subst hA
      generalize r.kids[k] = r1 at *
      cases hq : mayF r1 (d - 1) it1 tx1 with
      | none =>
        rw [hq] at HC HM2
        have HN : Hid (o = none) := Lib.hid HM2.out.symm
        clear hq HM2
        go_wp2_with fail
        refine HC.out.mono ?_
        rintro e w1 ⟨it2, tx2, rfl, hw2, hp2, ho2⟩
        have HO2 := Lib.hid (only_trans HON.out ho2)
        have HW2 := Lib.hid hw2
        clear hw2 hp2 ho2 HC x0 x1 x2 x3
        go_wp2_with fail
        go_ret
        refine ⟨_, it2, tx2, rfl, ⟨fun _ => HN.out, fun _ => by omega⟩, HW2.out, fun p hp => ?_, HO2.out⟩
        rw [HN.out] at hp
        cases hp
      | some p =>
        rw [hq] at HC HM2
        have hle := mayF_le r1 (d - 1) it1 tx1 p hq h1
        clear hq
        go_wp2_with fail
        refine HC.out.mono ?_
        rintro e w1 ⟨it2, tx2, rfl, hw2, hp2, ho2⟩
        obtain rfl := hp2 p rfl
        have HO2 := Lib.hid (only_trans HON.out ho2)
        have HW2 := Lib.hid hw2
        clear hw2 hp2 ho2 HC x0 x1 x2 x3
        go_wp2_with fail
        go_roundw
        case rel => exact ⟨k + 1, it2, tx2, by go_num, by omega, HM2, HW2, HO2, hle.1, by have := hle.2.1; omega, hle.2.2.1, by have := hle.2.2.2; omega⟩
        case measure => simp [intOf]; omega
    · have hm := HM.out
      rw [List.drop_eq_nil_of_le (by omega), mayL] at hm
      have HN := Lib.hid hm
      clear hm HM
      go_wp2_with fail
      go_ret
      refine ⟨_, it1, tx1, rfl, ⟨fun h => absurd h (by decide), fun h => ?_⟩, HW.out, fun p hp => ?_, HON.out⟩
      · rw [← HN.out] at h
        cases h
      · rw [← HN.out] at hp
        cases hp
        rfl
set_option maxRecDepth 100000 in
set_option maxHeartbeats 8000000 in
theorem contains_any (IH : MayC n) (hh : hgtL r.kids ≤ n) (hw : Wt w G it tx) (hk : RpK (fun b => b ≠ G) w r A c) (he : Env w D V G d) (hi0 : 0 ≤ it) (hi1 : it ≤ 1000000000) (ht1 : tx ≤ 1000000000) (ht0 : 0 ≤ tx) (hd0 : 1 ≤ d) (hd1 : d ≤ 1000000000) :
    Calls Tryd.prog 73 #[.slice A r.kids.length c, .func (.func 74) #[] #[.pointer (some ⟨D, 0, none⟩), .pointer (some ⟨V, 0, none⟩)]] w (NotMayQ w G (mayL r.kids (d - 1) it tx)) := by
  have H := Lib.hid (index_any IH hh hw hk he hi0 hi1 ht1 ht0 hd0 hd1)
  obtain ⟨o, ho⟩ : ∃ o, mayL r.kids (d - 1) it tx = o := ⟨_, rfl⟩
  rw [ho] at H ⊢
  clear IH hh hw hk he ho
  go_enter Tryd.func73, Tryd.ntmps73
  go_wp2_with fail
  refine H.out.mono ?_
  rintro e w1 ⟨i, it2, tx2, rfl, hi, hw2, hp2, ho2⟩
  have HW2 := Lib.hid hw2
  have HP2 := Lib.hid hp2
  have HO2 := Lib.hid ho2
  clear hw2 hp2 ho2 H
  cases o with
  | none =>
    have h0 : decide ((0 : Int) ≤ i) = true := decide_eq_true (hi.2 rfl)
    clear hi
    go_wp2_with fail
    go_ret
    exact ⟨it2, tx2, rfl, HW2.out, HP2.out, HO2.out⟩
  | some p =>
    have h0 : decide ((0 : Int) ≤ i) = false := decide_eq_false (fun h => by cases hi.1 h)
    clear hi
    go_wp2_with fail
    go_ret
    exact ⟨it2, tx2, rfl, HW2.out, HP2.out, HO2.out⟩
end
end Go.Proofs.YtglicojojpggmaaDoor
