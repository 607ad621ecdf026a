/- The document's lists of scripts: what is found, dropped, put. -/
import Derived.Test.YtpomaabkgbaikaaDoorFd
import Derived.Deep.AppendLies

namespace Go.Proofs.YtpomaabkgbaikaaDoor
open Go Go.RowKit
/-- A list of scripts as it is read. -/
def cellsE (l : List En) : List Value := l.flatMap fun e => [.string e.key, .string e.script]
theorem cellsE_app (a b : List En) : cellsE (a ++ b) = cellsE a ++ cellsE b := by simp [cellsE]
theorem cellsE_cons (e : En) (l : List En) : cellsE (e :: l) = .string e.key :: .string e.script :: cellsE l := rfl
theorem cellsE_len (l : List En) : (cellsE l).length = l.length * 2 := by
  induction l with
  | nil => rfl
  | cons e l ih => rw [cellsE_cons, List.length_cons, List.length_cons, ih, List.length_cons]; omega
theorem cellsE_one (l : List En) : ∀ u ∈ cellsE l, u.oneCell' = true := by
  intro u hu
  obtain ⟨e, _, h⟩ := List.mem_flatMap.1 hu
  simp at h
  rcases h with rfl | rfl <;> rfl
theorem cellsE_at : ∀ (l : List En) (i : Nat) (h : i < l.length), (cellsE l)[i * 2]? = some (.string l[i].key) ∧ (cellsE l)[i * 2 + 1]? = some (.string l[i].script)
  | [], i, h => by simp at h
  | e :: l, 0, _ => ⟨rfl, rfl⟩
  | e :: l, i + 1, h => by
    have ih := cellsE_at l i (by simpa using h)
    have e1 : (i + 1) * 2 = i * 2 + 1 + 1 := by omega
    rw [e1, cellsE_cons]
    simpa using ih
def RdE (w : World) (A : Option Addr) (l : List En) : Prop := 0 < l.length → ∃ b off, A = some ⟨b, off, none⟩ ∧ b < w.heap.size ∧ ∀ i (h : i < l.length), w.cell? ⟨b, off + i * 2, none⟩ = some (.string l[i].key) ∧ w.cell? ⟨b, off + i * 2 + 1, none⟩ = some (.string l[i].script)
theorem RdE.nil (w : World) (A : Option Addr) : RdE w A [] := fun h => absurd h (by simp)
theorem RdE.below {w w' : World} {A : Option Addr} {l : List En} (h : RdE w A l) (hb : Below w.heap.size w w') : RdE w' A l := fun h0 => by
  obtain ⟨b, off, rfl, hlt, hc⟩ := h h0
  exact ⟨b, off, rfl, Nat.lt_of_lt_of_le hlt hb.size, fun i hi => ⟨(hb.cell (p := ⟨b, off + i * 2, none⟩) hlt).trans (hc i hi).1, (hb.cell (p := ⟨b, off + i * 2 + 1, none⟩) hlt).trans (hc i hi).2⟩⟩
theorem RdE.at {w : World} {A : Option Addr} {l : List En} (h : RdE w A l) {k : Nat} (hk : k < l.length) : ∃ b off, A = some ⟨b, off, none⟩ ∧ b < w.heap.size ∧ w.cell? ⟨b, off + k * 2, none⟩ = some (.string l[k].key) ∧ w.cell? ⟨b, off + k * 2 + 1, none⟩ = some (.string l[k].script) := by
  obtain ⟨b, off, rfl, hlt, hc⟩ := h (by omega)
  exact ⟨b, off, rfl, hlt, (hc k hk).1, (hc k hk).2⟩
/-- What a slice of one's own reads as. -/
theorem own_rdE {w : World} {base : Nat} {v : Value} {n : Nat} {l : List En} (h : w.ownsRow base 49 2 v n (cellsE l)) :
    ∃ A c, v = .slice A l.length c ∧ n = l.length ∧ l.length ≤ c ∧ (A = none → c = 0) ∧ c ≤ maxLen ∧ RdE w A l := by
  have hl := h.1
  rw [cellsE_len] at hl
  obtain rfl : n = l.length := by omega
  rcases h.2 with ⟨rfl, h0⟩ | ⟨g, cap, cur, rfl, _, hh, hn, hm, hcs, hcut⟩
  · have : l = [] := List.eq_nil_of_length_eq_zero (by omega)
    subst this
    exact ⟨none, 0, rfl, rfl, Nat.le_refl _, fun _ => rfl, by simp [maxLen], RdE.nil _ _⟩
  · refine ⟨_, cap, rfl, rfl, hn, (fun e => by cases e), hm, fun h0 => ⟨g, 0, rfl, (Array.getElem?_eq_some_iff.1 hh).1, fun i hi => ?_⟩⟩
    obtain ⟨c1, c2⟩ := cellsE_at l i hi
    have key : ∀ k u, (cellsE l)[k]? = some u → w.cell? ⟨g, k, none⟩ = some u := by
      intro k u hu
      have hlt := (List.getElem?_eq_some_iff.1 hu).1
      rw [← hcut, List.getElem?_take_of_lt (by rw [cellsE_len] at hlt; omega)] at hu
      rw [Lib.cell_of_heap hh]
      simpa using hu
    rw [Nat.zero_add]
    exact ⟨key _ _ c1, key _ _ c2⟩
theorem e49_info : (Tryd.prog.info? 49).map (fun i => (i.zero, i.size, i.bytes)) = some (some (.agg #[.string ⟨#[]⟩, .string ⟨#[]⟩]), 2, 32) := by kernel_rfl
theorem find_at {l : List En} {k : Nat} {key : ByteArray} (hk : k < l.length) (ha : ∀ e ∈ l.take k, e.key ≠ key) (h : l[k].key = key) : fnd En.key l key = some l[k] := by
  have h1 : l = l.take k ++ l[k] :: l.drop (k + 1) := by rw [← List.drop_eq_getElem_cons hk, List.take_append_drop]
  obtain ⟨x, hx⟩ : ∃ x, l[k] = x := ⟨_, rfl⟩
  rw [hx] at h1 h ⊢
  show l.find? (fun f => bl f.key == bl key) = some x
  rw [h1, List.find?_append]
  have h2 : (l.take k).find? (fun f => bl f.key == bl key) = none := by
    rw [List.find?_eq_none]
    intro e he
    have := ha e he
    simp only [beq_iff_eq]
    exact fun q => this (bl_inj q)
  rw [h2]
  simp [h]
theorem take_ne {l : List En} {k : Nat} {key : ByteArray} (hk : k < l.length) (ha : ∀ e ∈ l.take k, e.key ≠ key) (h : l[k].key ≠ key) : ∀ e ∈ l.take (k + 1), e.key ≠ key := by
  intro e he
  rw [List.take_succ_eq_append_getElem hk] at he
  rcases List.mem_append.1 he with h1 | h1
  · exact ha e h1
  · rw [List.mem_singleton.1 h1]; exact h
set_option maxRecDepth 100000 in
set_option maxHeartbeats 4000000 in
theorem find_any (A : Option Addr) (c : Nat) (l : List En) (key : ByteArray) (w : World) (hr : RdE w A l) (hl : l.length ≤ 9223372036854775807) : Calls Tryd.prog 14 #[.slice A l.length c, .string key] w fun e w' => e = .returned (.tuple #[.string (scr l key), .bool (hasK l key)]) ∧ w = w' := by
  have HR := Lib.hid hr
  clear hr
  go_enter Tryd.func14, Tryd.ntmps14
  go_wp2_with fail
  go_loopw [6] (fun i wr => ∃ k : Nat, k ≤ l.length ∧ i = .int .i64 k ∧ Hid (∀ e ∈ l.take k, e.key ≠ key) ∧ wr = w) (fun i _ => l.length - (intOf i).toNat)
  case atStart => exact ⟨0, Nat.zero_le _, rfl, Lib.hid (fun e he => by simp at he), by trivial⟩
  case round =>
    obtain ⟨k, hk, rfl, HA, rfl⟩ := hrel
    by_cases hlt : k < l.length
    · obtain ⟨b, off, hA, hbb, x0, x1⟩ := HR.out.at hlt
      subst hA
      have hk0 : (0 : Int) ≤ (k : Int) := by omega
      have hkl : (k : Int) < (l.length : Int) := by omega
      by_cases hq : l[k].key = key
      · have HY : Hid (scr l key = l[k].script ∧ hasK l key = true) := Lib.hid (by
          have h1 := find_at hlt HA.out hq
          exact ⟨by unfold scr; rw [h1], by unfold hasK; rw [h1]; rfl⟩)
        rw [hq] at x0
        have he := bytes_eq key
        generalize l[k] = p at *
        clear hq hbb
        go_wp2_with fail
        go_ret2
        exact ⟨by rw [HY.out.1, HY.out.2]; rfl, rfl⟩
      · have HA2 := Lib.hid (take_ne hlt HA.out hq)
        have he := bytes_ne hq
        generalize l[k] = p at *
        clear hq hbb
        go_wp2_with fail
        go_roundw
        case rel => exact ⟨k + 1, by omega, by go_num, HA2, by trivial⟩
        case measure => simp [intOf]; omega
    · obtain rfl : k = l.length := by omega
      have HY : Hid (scr l key = ⟨#[]⟩ ∧ hasK l key = false) := Lib.hid (by
        have h1 : fnd En.key l key = none := by
          rw [fnd_none]
          have := HA.out
          rwa [List.take_length] at this
        exact ⟨by unfold scr; rw [h1], by unfold hasK; rw [h1]; rfl⟩)
      have hdl : decide (l.length < l.length) = false := by simp
      go_wp2_with fail
      go_ret2
      exact ⟨by rw [HY.out.1, HY.out.2]; rfl, rfl⟩
/-- A list that grows in a row of one's own. -/
structure OE (w W : World) (v : Value) (l : List En) : Prop where
  own : W.ownsRow w.heap.size 49 2 v l.length (cellsE l)
  bel : Below w.heap.size w W
theorem OE.below {w W W' : World} {v : Value} {l : List En} (h : OE w W v l) (hb : Below W.heap.size W W') : OE w W' v l :=
  ⟨h.own.kept (row := none) ⟨hb.os, hb.tape, hb.output, hb.size, fun k hk _ => hb.block k hk⟩ (by cases v.ownBlock <;> simp), h.bel.trans (hb.mono h.bel.size)⟩
theorem OE.next {w W W' : World} {v v' : Value} {l m : List En} {n : Nat} {xs : List Value} (h : OE w W v l) (ho : W'.ownsRow w.heap.size 49 2 v' n xs) (hn : n = (l ++ m).length) (hx : xs = cellsE (l ++ m)) (hg : W.grownBy W' v.ownBlock) : OE w W' v' (l ++ m) := by
  subst hn
  subst hx
  exact ⟨ho, h.bel.grown hg h.bel.size (fun k hk => (h.own.lt k hk).1)⟩
theorem drp_take {l : List En} {k : Nat} {key : ByteArray} (hk : k < l.length) : drp En.key (l.take (k + 1)) key = drp En.key (l.take k) key ++ (if l[k].key = key then [] else [l[k]]) := by
  rw [List.take_succ_eq_append_getElem hk]
  unfold drp
  rw [List.filter_append]
  congr 1
  by_cases h : l[k].key = key
  · rw [if_pos h, List.filter_cons_of_neg (by simp [h])]; rfl
  · rw [if_neg h, List.filter_cons_of_pos]; rfl
    simp only [Bool.not_eq_true', beq_eq_false_iff_ne, ne_eq]
    exact fun q => h (bl_inj q)
set_option maxRecDepth 100000 in
set_option maxHeartbeats 4000000 in
theorem drop_any (A : Option Addr) (c : Nat) (l : List En) (key : ByteArray) (w : World) (hr : RdE w A l) (hl : l.length ≤ 100000000) : Calls Tryd.prog 42 #[.slice A l.length c, .string key] w fun e w' => ∃ v, e = .returned v ∧ OE w w' v (drp En.key l key) := by
  obtain ⟨i0, hi, hz0, hz1, hz2⟩ := info_parts e49_info
  have HR := Lib.hid hr
  have HDL : Hid (∀ k, (drp En.key (l.take k) key).length ≤ l.length) := Lib.hid (fun k => Nat.le_trans (List.length_filter_le _ _) (List.length_take_le' _ _))
  clear hr
  go_enter Tryd.func42, Tryd.ntmps42
  go_wp2_with fail
  go_loopw [5, 6] (fun v i wr => ∃ k : Nat, k ≤ l.length ∧ i = .int .i64 k ∧ (∃ A c, v = .slice A (drp En.key (l.take k) key).length c) ∧ Hid (OE w wr v (drp En.key (l.take k) key))) (fun _ i _ => l.length - (intOf i).toNat)
  case atStart => exact ⟨0, Nat.zero_le _, rfl, ⟨none, 0, rfl⟩, Lib.hid ⟨World.ownsRow_nil _ _ _ _, Below.refl _ _⟩⟩
  case round =>
    obtain ⟨k, hk, rfl, ⟨B, cb, rfl⟩, HO⟩ := hrel
    by_cases hlt : k < l.length
    · obtain ⟨b, off, hA, hbb, x0, x1⟩ := (HR.out.below HO.out.bel).at hlt
      subst hA
      have hk0 : (0 : Int) ≤ (k : Int) := by omega
      have hkl : (k : Int) < (l.length : Int) := by omega
      have HTK := Lib.hid (drp_take (key := key) hlt)
      have HDK := Lib.hid (HDL.out k)
      obtain ⟨nxt, hnx⟩ : ∃ n, drp En.key (l.take (k + 1)) key = n := ⟨_, rfl⟩
      have HNX := Lib.hid hnx
      rw [hnx] at HTK
      generalize drp En.key (l.take k) key = acc at *
      by_cases hq : l[k].key = key
      · have HE : Hid (nxt = acc) := Lib.hid (by rw [HTK.out, if_pos hq, List.append_nil])
        rw [hq] at x0
        have he := bytes_eq key
        have he2 : (key.toList != key.toList) = false := by simp
        clear hq hbb HTK hnx
        go_wp2_with fail
        go_roundw
        case rel => exact ⟨k + 1, by omega, by go_num, ⟨B, cb, by rw [HNX.out, HE.out]⟩, Lib.hid (by rw [HNX.out, HE.out]; exact HO.out)⟩
        case measure => simp [intOf]; omega
      · have HE : Hid (nxt = acc ++ [l[k]]) := Lib.hid (by rw [HTK.out, if_neg hq])
        have he := bytes_ne hq
        have he2 : (l[k].key.toList != key.toList) = true := by simp only [bne, he, Bool.not_false]
        obtain ⟨p, hp⟩ : ∃ p, l[k] = p := ⟨_, rfl⟩
        rw [hp] at x0 x1 HE he he2
        have HCE : Hid (cellsE acc ++ [.string p.key, .string p.script] = cellsE (acc ++ [p])) := Lib.hid (by rw [cellsE_app]; rfl)
        clear hq hbb HTK hnx hp
        go_wp2_with (at_builtin; go_loud (refine wpList_append_own _ rfl (.tmp 20) (.tmp 25) 28 rfl w.heap.size 49 i0 _ 2 32 Tryd.underlying28 hi hz0 hz1 hz2 rfl (by omega) (.slice B acc.length cb) acc.length (cellsE acc) rfl ((HO.out.below (below_new wr _)).own) ⟨wr.heap.size, 0, none⟩ 1 1 [.string p.key, .string p.script] rfl rfl (World.news_of_block (cs := #[.string p.key, .string p.script]) (t := 49) (fr := (0, 0)) (heap_alloc_new wr _)) (by simp [Value.oneCell']) (by have := HDK.out; simp only [maxLen]; omega) (by have := HDK.out; omega) (by have := HO.out.bel.size; simp; omega) ?_; intro v3 w3 ho3 hg3 _; have HN := Lib.hid (OE.next (m := [p]) (HO.out.below (below_new wr _)) ho3 (by simp) HCE.out hg3); clear ho3 hg3; obtain ⟨A3, c3, hv3, hn3, -, -, -, -⟩ := own_rdE HN.out.own; subst hv3))
        go_roundw
        case rel => exact ⟨k + 1, by omega, by go_num, ⟨A3, c3, by rw [HNX.out, HE.out, List.length_append]; rfl⟩, Lib.hid (by rw [HNX.out, HE.out]; have := HN.out; rwa [List.length_append] at this)⟩
        case measure => simp [intOf]; omega
    · obtain rfl : k = l.length := by omega
      have hdl : decide (l.length < l.length) = false := by simp
      have HL : Hid (drp En.key (l.take l.length) key = drp En.key l key) := Lib.hid (by rw [List.take_length])
      go_wp2_with fail
      go_ret
      exact ⟨_, rfl, by rw [← HL.out]; exact HO.out⟩
end Go.Proofs.YtpomaabkgbaikaaDoor
