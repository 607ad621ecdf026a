/- A line is taken into a program. -/
import Derived.Test.YtccofgdcpmplmaaGreatDoorPos
import Derived.Test.YtccofgdcpmplmaaGreatDoorUns
import Derived.Lib.SplitLaws
import Derived.StillTailTactics
import Derived.Deep.RegionHeld3
namespace Go.Proofs.YtccofgdcpmplmaaGreatDoor
open Go Go.RowKit Go.Shelf
attribute [local go_sem] Oper.semAt_some
def wordsB (line : ByteArray) : List ByteArray := Lib.splitB ⟨#[32]⟩ 0 (Lib.countB line ⟨#[32]⟩) line
theorem words_len (line : ByteArray) : (wordsB line).length = Lib.countB line ⟨#[32]⟩ + 1 := Lib.splitB_all ⟨#[32]⟩ (by decide) 0 _ line rfl
theorem split_any (line : ByteArray) (W : World) (he : Env W) (hl : line.size ≤ 1000000) (n : Nat) (hn : (wordsB line).length = n) :
    Calls Tryz.prog 38 #[.string line, .string { data := #[32] }] W fun e w' => e = .returned (.slice (some ⟨W.heap.size, 0, none⟩) n n) ∧ w' = W.alloc (.cells (cellsS (wordsB line)).toArray 9) := by
  obtain ⟨m, hm⟩ := he.ml
  rw [← hn, words_len]
  exact Go.Proofs.Tryz.strings_Split line { data := #[32] } m W (by omega) hm (by decide)
theorem split_size (sep : ByteArray) (h1 : 1 ≤ sep.size) : ∀ (k : Nat) (s : ByteArray), ∀ x ∈ Lib.splitB sep 0 k s, x.size ≤ s.size
  | 0, s, x, hx => by
    rw [Lib.splitB_zero] at hx
    rw [List.mem_singleton.1 hx]
    exact Nat.le_refl _
  | k + 1, s, x, hx => by
    rcases Lib.indexB_cases s sep with h | ⟨i, h, hi⟩
    · rw [Lib.splitB_miss _ _ _ _ h] at hx
      rw [List.mem_singleton.1 hx]
      exact Nat.le_refl _
    · rw [Lib.splitB_hit _ _ _ _ i h] at hx
      rcases List.mem_cons.1 hx with rfl | hx
      · simp only [ByteArray.size_extract]
        omega
      · have := split_size sep h1 k _ x hx
        simp only [ByteArray.size_extract] at this
        omega
theorem words_many (line : ByteArray) : (wordsB line).length ≤ line.size + 1 := by
  rw [words_len]
  have := Lib.countB_le ⟨#[32]⟩ (by decide) line.size line (Nat.le_refl _)
  omega
theorem words_size (line : ByteArray) : ∀ x ∈ wordsB line, x.size ≤ line.size := split_size ⟨#[32]⟩ (by decide) _ line
theorem rdV_words (W : World) (fs : List ByteArray) (w' : World) (hb : Below (W.alloc (.cells (cellsS fs).toArray 9)).heap.size (W.alloc (.cells (cellsS fs).toArray 9)) w') : RdV w' (some ⟨W.heap.size, 0, none⟩) (cellsS fs) := fun _ => by
  have hx := heap_alloc_new W (.cells (cellsS fs).toArray 9)
  refine ⟨W.heap.size, 0, rfl, Nat.lt_of_lt_of_le (Array.getElem?_eq_some_iff.1 hx).1 hb.size, fun j hj => ?_⟩
  rw [(hb.cell (p := ⟨W.heap.size, 0 + j, none⟩) (Array.getElem?_eq_some_iff.1 hx).1), Lib.cell_of_heap hx]
  simp [List.getElem?_eq_getElem hj]
theorem rdV_tail {W : World} {b n : Nat} {w0 : ByteArray} {wr : List ByteArray} (h : RdV W (some ⟨b, 0, none⟩) (cellsS (w0 :: wr))) (hn : wr.length + 1 = n) : RdV W (if n = 1 then some ⟨b, 0, none⟩ else some ⟨b, 1, none⟩) (cellsS wr) := fun h0 => by
  rw [cellsS_len] at h0
  rw [if_neg (by omega)]
  obtain ⟨b', off, e, hlt, hc⟩ := h (by simp [cellsS])
  cases e
  refine ⟨b, 1, rfl, hlt, fun j hj => ?_⟩
  have h1 := hc (j + 1) (by rw [cellsS_len] at *; simpa using hj)
  rw [show 0 + (j + 1) = 1 + j by omega] at h1
  rw [h1]
  simp [cellsS]
/-- What reading a line leaves. -/
def ReadQ (S : Nat → Prop) (B : Nat) (W : World) (ok : Bool) (P : Pg → Prop) (e : Ending) (W' : World) : Prop := e = .returned (.bool ok) ∧ KS S W W' ∧ (ok = true → ∃ g', P g' ∧ PO S B g' W')
set_option maxRecDepth 100000 in
set_option maxHeartbeats 16000000 in
theorem read_F (S : Nat → Prop) (B : Nat) (g : Pg) (line : ByteArray) (W : World) (hpo : PO S B g W) (he : Env W) (hl : line.size ≤ 900000) (hp : g.ps.length ≤ 1000000 ∧ g.is.length ≤ 1000000 ∧ g.ts.length ≤ 1000000 ∧ ∀ p ∈ g.ps, p.code.length ≤ 1000000) (w0 : ByteArray) (wr : List ByteArray) (hw : wordsB line = w0 :: wr) (t1 : (w0.toList == [102, 117, 110, 99]) = true) :
    Calls Tryz.prog 22 #[.pointer (some ⟨B, 0, none⟩), .string line] W (fun e W' => (∀ a b, wr.mapM atoiO = some [a, b] → ReadQ S B W true (fun g' => g'.ps.map Pr.core = g.ps.map Pr.core ++ [(a, b, [])] ∧ g'.is = g.is ∧ g'.ts = g.ts) e W') ∧ ((∀ a b, wr.mapM atoiO ≠ some [a, b]) → ReadQ S B W false (fun _ => False) e W')) := by
  have hwl : (w0 :: wr).length = wr.length + 1 := rfl
  obtain ⟨n, hn⟩ : ∃ n, wr.length + 1 = n := ⟨_, rfl⟩
  have hsp := split_any line W he (by omega) n (by rw [hw, hwl, hn])
  have hrd : ∀ w', Below (W.alloc (.cells (cellsS (wordsB line)).toArray 9)).heap.size (W.alloc (.cells (cellsS (wordsB line)).toArray 9)) w' → RdV w' (some ⟨W.heap.size, 0, none⟩) (cellsS (wordsB line)) := fun w' hb => rdV_words W _ w' hb
  have hsz := words_size line
  have hmw := words_many line
  rw [hw] at hsp hrd hsz hmw
  rw [hwl] at hmw
  have HMW := Lib.hid hmw
  clear hmw
  have hb1 := below_new W (.cells (cellsS (w0 :: wr)).toArray 9)
  have HSP := Lib.hid hsp
  have HRD := Lib.hid hrd
  have HSZ := Lib.hid hsz
  have HB1 := Lib.hid hb1
  have HPO : Hid (∀ w', Below W.heap.size W w' → PO S B g w') := Lib.hid (fun w' hb => hpo.below hb)
  have HE : Hid (∀ w', Below W.heap.size W w' → Env w') := Lib.hid (fun w' hb => he.below hb)
  have HP := Lib.hid hp
  have HN := Lib.hid hn
  have HLL := Lib.hid hl
  have hn1 : 1 ≤ n := by omega
  clear hsp hrd hsz hb1 hpo he hp hw hwl hl
  go_enter Tryz.func22, Tryz.ntmps22
  go_wp2_with fail
  refine HSP.out.mono ?_
  rintro e w1 ⟨rfl, hw1⟩
  rw [← hw1] at HRD HB1
  clear HSP hw1
  obtain ⟨b9, o9, hA9, hb9, u0⟩ := rdS_at (HRD.out _ (Below.refl _ _)) (k := 0) (by simp)
  cases hA9
  simp only [Nat.add_zero, List.getElem_cons_zero] at u0
  have i0 : (0 : Int) < (n : Int) := by omega
  have i1 : (1 : Int) ≤ (n : Int) := by omega
  have i2 : 0 < n := by omega
  obtain ⟨AD, hAD⟩ : ∃ AD, (if n = 1 then some (⟨W.heap.size, 0, none⟩ : Addr) else some ⟨W.heap.size, 1, none⟩) = some AD := by split <;> exact ⟨_, rfl⟩
  have HNM : Hid (Calls Tryz.prog 39 #[.slice (some AD) (n - 1) (n - 1), .int .i64 2] w1 fun e w' => NumsQ (wr.mapM atoiO) 2 e w' ∧ Below w1.heap.size w1 w') := Lib.hid (by
    have h := numbers_any (some AD) (n - 1) wr 2 w1 (by rw [← hAD]; exact rdV_tail (HRD.out _ (Below.refl _ _)) HN.out) (by
      have h1 := HMW.out
      have h2 := HLL.out
      omega) (fun s hs => Nat.le_trans (HSZ.out s (by simp [hs])) (Nat.le_trans HLL.out (by omega))) (HE.out _ HB1.out)
    rw [show wr.length = n - 1 by have := HN.out; omega] at h
    exact h)
  go_wp2_with fail
  refine HNM.out.mono ?_
  rintro e w2 ⟨hq, hb2⟩
  have HB2 := Lib.hid (HB1.out.trans (hb2.mono HB1.out.size))
  clear hb2 HNM u0
  cases hz : wr.mapM atoiO with
  | none =>
    have HZ := Lib.hid hz
    rw [hz] at hq
    have hq' : e = .returned (.tuple #[.slice none 0 0, .bool false]) := hq
    subst hq'
    clear hq hz
    go_wp2_with fail
    go_ret
    exact ⟨fun a b h => (by rw [HZ.out] at h; cases h), fun _ => ⟨rfl, KS.of_below HB2.out, fun h => by cases h⟩⟩
  | some zs =>
    have HZ := Lib.hid hz
    rw [hz] at hq
    obtain ⟨A', c', rfl, hr, hty⟩ := hq
    have HTY := Lib.hid hty
    clear hty
    clear hz
    by_cases h2 : zs.length = 2
    rotate_left
    · have d2 : ((zs.length : Int) == 2) = false := by simp; omega
      clear hr
      go_wp2_with fail
      go_ret
      exact ⟨fun a b h => (by rw [HZ.out] at h; cases h; exact absurd rfl h2), fun _ => ⟨rfl, KS.of_below HB2.out, fun h => by cases h⟩⟩
    obtain ⟨a, b, rfl⟩ : ∃ a b, zs = [a, b] := by
      match zs, h2 with
      | [a, b], _ => exact ⟨a, b, rfl⟩
    obtain ⟨b6, o6, hA6, hb6, v0⟩ := rdZ_at hr (k := 0) (by simp)
    obtain ⟨b7, o7, hA7, hb7, v1⟩ := rdZ_at hr (k := 1) (by simp)
    have hA6' : A' = some ⟨b6, o6, none⟩ := by simpa using hA6
    rw [hA6'] at hA7 ⊢
    cases hA7
    simp only [Nat.add_zero, List.getElem_cons_zero, List.getElem_cons_succ] at v0 v1
    have HP2 := Lib.hid (HPO.out _ HB2.out)
    have hbx := HP2.out.box
    obtain ⟨q0, q1, q2⟩ := cell3 hbx
    have hltB := HP2.out.box_lt
    clear hbx hr hA6 hA6'
    go_upto_region 6 with (fail)
    have HX3 : Hid ((w2.alloc (.cells #[.int .i64 a, .int .i64 b, .slice none 0 0] 39)).drew.heap[w2.heap.size]? = some (.cells [.int .i64 a, .int .i64 b, .slice none 0 0].toArray 39)) := Lib.hid (heap_alloc_new w2 _)
    have HB3 : Hid (Below W.heap.size W (w2.alloc (.cells #[.int .i64 a, .int .i64 b, .slice none 0 0] 39)).drew) := Lib.hid ((HB2.out.trans ((below_new w2 _).mono HB2.out.size)).drew)
    have HP3 := Lib.hid (HPO.out _ HB3.out)
    have HBX3 := Lib.hid (own_ne HP3.out.ps HP3.out.box (by decide))
    have HPN : Hid (g.ps.length ≤ 10000000) := Lib.hid (by have := HP.out.1; omega)
    go_region_law (refine step_push (by rfl) (.tmp 33) (.tmp 41) (by rfl) Tryz.underlying22 prs_info rfl (by omega) (by omega) g.v0 g.ps.length (prsC g.ps) (by rfl) HP3.out.ps w2.heap.size [.int .i64 a, .int .i64 b, .slice none 0 0] (by rfl) HX3.out rfl (by simp; exact ⟨rfl, rfl, rfl⟩) HPN.out ?_; intro v7 w7 h7; obtain ⟨G, c7, rfl⟩ := h7.slice; have H7 := Lib.hid h7; have hb7 := (h7.grown.block B HP3.out.box_lt (fun e => HBX3.out e.symm)).trans HP3.out.box; obtain ⟨z0, z1, z2⟩ := cell3 hb7; have hfz := frozen_of_row _ _ 0 _ _ hb7; clear h7 hb7)
    all_goals (
      have HFIN := Lib.hid (HP3.out.pushP ⟨a, b, none, 0, []⟩ ⟨rfl, rfl, rfl⟩ H7.out)
      clear z0 z1 z2 hfz
      go_wp2_with fail
      go_ret
      refine ⟨fun a' b' h => ?_, fun hno => absurd HZ.out (hno a b)⟩
      rw [HZ.out] at h
      cases h
      exact ⟨rfl, (KS.of_below HB3.out).trans HFIN.out.2, fun _ => ⟨{ g with PA := some ⟨G, 0, none⟩, Pc := c7, ps := g.ps ++ [⟨a, b, none, 0, []⟩] }, ⟨by simp [Pr.core], rfl, rfl⟩, HFIN.out.1⟩⟩)
set_option maxRecDepth 100000 in
set_option maxHeartbeats 16000000 in
theorem read_Z (S : Nat → Prop) (B : Nat) (g : Pg) (line : ByteArray) (W : World) (hpo : PO S B g W) (he : Env W) (hl : line.size ≤ 900000) (hp : g.ps.length ≤ 1000000 ∧ g.is.length ≤ 1000000 ∧ g.ts.length ≤ 1000000 ∧ ∀ p ∈ g.ps, p.code.length ≤ 1000000) (w0 : ByteArray) (wr : List ByteArray) (hw : wordsB line = w0 :: wr) (wl : ByteArray) (hwl : (w0 :: wr).getLast (by simp) = wl) (t1 : (w0.toList == [102, 117, 110, 99]) = false) (t2 : (w0.toList == [105, 110, 116]) = true) :
    Calls Tryz.prog 22 #[.pointer (some ⟨B, 0, none⟩), .string line] W (fun e W' => (∀ z, pintO wl = some z → ReadQ S B W true (fun g' => g'.ps.map Pr.core = g.ps.map Pr.core ∧ g'.is = g.is ++ [z] ∧ g'.ts = g.ts) e W') ∧ (pintO wl = none → ReadQ S B W false (fun _ => False) e W')) := by
  have hwl : (w0 :: wr).length = wr.length + 1 := rfl
  obtain ⟨n, hn⟩ : ∃ n, wr.length + 1 = n := ⟨_, rfl⟩
  have hsp := split_any line W he (by omega) n (by rw [hw, hwl, hn])
  have hrd : ∀ w', Below (W.alloc (.cells (cellsS (wordsB line)).toArray 9)).heap.size (W.alloc (.cells (cellsS (wordsB line)).toArray 9)) w' → RdV w' (some ⟨W.heap.size, 0, none⟩) (cellsS (wordsB line)) := fun w' hb => rdV_words W _ w' hb
  have hsz := words_size line
  have hmw := words_many line
  rw [hw] at hsp hrd hsz hmw
  rw [hwl] at hmw
  have HMW := Lib.hid hmw
  clear hmw
  have hb1 := below_new W (.cells (cellsS (w0 :: wr)).toArray 9)
  have HSP := Lib.hid hsp
  have HRD := Lib.hid hrd
  have HSZ := Lib.hid hsz
  have HB1 := Lib.hid hb1
  have HPO : Hid (∀ w', Below W.heap.size W w' → PO S B g w') := Lib.hid (fun w' hb => hpo.below hb)
  have HE : Hid (∀ w', Below W.heap.size W w' → Env w') := Lib.hid (fun w' hb => he.below hb)
  have HP := Lib.hid hp
  have HN := Lib.hid hn
  have HLL := Lib.hid hl
  have hn1 : 1 ≤ n := by omega
  clear hsp hrd hsz hb1 hpo he hp hw hwl hl
  go_enter Tryz.func22, Tryz.ntmps22
  go_wp2_with fail
  refine HSP.out.mono ?_
  rintro e w1 ⟨rfl, hw1⟩
  rw [← hw1] at HRD HB1
  clear HSP hw1
  obtain ⟨b9, o9, hA9, hb9, u0⟩ := rdS_at (HRD.out _ (Below.refl _ _)) (k := 0) (by simp)
  cases hA9
  simp only [Nat.add_zero, List.getElem_cons_zero] at u0
  have i0 : (0 : Int) < (n : Int) := by omega
  have i1 : (1 : Int) ≤ (n : Int) := by omega
  have i2 : 0 < n := by omega
  obtain ⟨b8, o8, hA8, hb8, u1⟩ := rdS_at (HRD.out _ (Below.refl _ _)) (k := n - 1) (by have := HN.out; simp; omega)
  cases hA8
  have hgl : (w0 :: wr)[n - 1]'(by have := HN.out; simp; omega) = (w0 :: wr).getLast (by simp) := by
    rw [List.getLast_eq_getElem]
    congr 1
    have := HN.out
    simp
    omega
  rw [hgl] at u1
  rw [Nat.zero_add] at u1
  have hwsz : ((w0 :: wr).getLast (by simp)).size ≤ 1000000 := Nat.le_trans (HSZ.out _ (List.getLast_mem _)) (Nat.le_trans HLL.out (by omega))
  rw [hwl] at u1 hwsz
  have HNM : Hid (Calls Tryz.prog 40 #[.string wl, .int .i64 10, .int .i64 64] w1 fun e w' => NumQ (pintO wl) e ∧ Below w1.heap.size w1 w') := Lib.hid (pint_any wl w1 hwsz (HE.out _ HB1.out))
  have w5 : IntKind.i64.wrap ((n : Int) - 1) = ((n - 1 : Nat) : Int) := by rw [IntWalk.i64_in _ (by have h1 := HMW.out; have h2 := HLL.out; have h3 := HN.out; omega)]; omega
  obtain ⟨nm, hnm⟩ : ∃ nm, n - 1 = nm := ⟨_, rfl⟩
  rw [hnm] at u1 w5
  have i3 : (nm : Int) < (n : Int) := by omega
  have i4 : (0 : Int) ≤ (nm : Int) := by omega
  have i5 : nm < n := by omega
  clear hgl hwl hwsz hnm
  go_wp2_with fail
  refine HNM.out.mono ?_
  rintro e w2 ⟨hq, hb2⟩
  have HB2 := Lib.hid (HB1.out.trans (hb2.mono HB1.out.size))
  clear hb2 HNM u0 u1
  cases hz : pintO wl with
  | none =>
    have HZ := Lib.hid hz
    rw [hz] at hq
    obtain ⟨z, te, pe, rfl⟩ := hq
    clear hz
    have HP2 := Lib.hid (HPO.out _ HB2.out)
    have hbx := HP2.out.box
    obtain ⟨q0, q1, q2⟩ := cell3 hbx
    have hltB := HP2.out.box_lt
    clear hbx
    have HX3 : Hid ((w2.alloc (.cells #[.int .i64 z] 2)).heap[w2.heap.size]? = some (.cells [.int .i64 z].toArray 2)) := Lib.hid (heap_alloc_new w2 _)
    have HB3 : Hid (Below W.heap.size W (w2.alloc (.cells #[.int .i64 z] 2))) := Lib.hid (HB2.out.trans ((below_new w2 _).mono HB2.out.size))
    have HP3 := Lib.hid (HPO.out _ HB3.out)
    have HBX3 := Lib.hid (own_ne HP3.out.is HP3.out.box (by decide))
    have HPN : Hid (g.is.length ≤ 10000000) := Lib.hid (by have := HP.out.2.1; omega)
    go_wp2_with (at_builtin; refine wpList_push rfl (.tmp 62) (.tmp 64) rfl Tryz.underlying23 i64_info rfl (by omega) (by omega) g.v1 g.is.length (intsV g.is) rfl HP3.out.is w2.heap.size [.int .i64 z] rfl HX3.out rfl (by simp; rfl) HPN.out ?_; intro v7 w7 h7; obtain ⟨G, c7, rfl⟩ := h7.slice; have H7 := Lib.hid h7; have hb7 := (h7.grown.block B HP3.out.box_lt (fun e => HBX3.out e.symm)).trans HP3.out.box; obtain ⟨z0, z1, z2⟩ := cell3 hb7; have hfz := frozen_of_row _ _ 1 _ _ hb7; clear h7 hb7)
    have HFIN := Lib.hid (HP3.out.pushZ z H7.out)
    go_ret
    exact ⟨fun z' h => (by rw [HZ.out] at h; cases h), fun _ => ⟨rfl, (KS.of_below HB3.out).trans HFIN.out.2, fun h => by cases h⟩⟩
  | some z =>
    have HZ := Lib.hid hz
    rw [hz] at hq
    have hq' : e = .returned (.tuple #[.int .i64 z, .nilIface]) := hq
    subst hq'
    clear hq hz
    have HP2 := Lib.hid (HPO.out _ HB2.out)
    have hbx := HP2.out.box
    obtain ⟨q0, q1, q2⟩ := cell3 hbx
    have hltB := HP2.out.box_lt
    clear hbx
    have HX3 : Hid ((w2.alloc (.cells #[.int .i64 z] 2)).heap[w2.heap.size]? = some (.cells [.int .i64 z].toArray 2)) := Lib.hid (heap_alloc_new w2 _)
    have HB3 : Hid (Below W.heap.size W (w2.alloc (.cells #[.int .i64 z] 2))) := Lib.hid (HB2.out.trans ((below_new w2 _).mono HB2.out.size))
    have HP3 := Lib.hid (HPO.out _ HB3.out)
    have HBX3 := Lib.hid (own_ne HP3.out.is HP3.out.box (by decide))
    have HPN : Hid (g.is.length ≤ 10000000) := Lib.hid (by have := HP.out.2.1; omega)
    go_wp2_with (at_builtin; refine wpList_push rfl (.tmp 62) (.tmp 64) rfl Tryz.underlying23 i64_info rfl (by omega) (by omega) g.v1 g.is.length (intsV g.is) rfl HP3.out.is w2.heap.size [.int .i64 z] rfl HX3.out rfl (by simp; rfl) HPN.out ?_; intro v7 w7 h7; obtain ⟨G, c7, rfl⟩ := h7.slice; have H7 := Lib.hid h7; have hb7 := (h7.grown.block B HP3.out.box_lt (fun e => HBX3.out e.symm)).trans HP3.out.box; obtain ⟨z0, z1, z2⟩ := cell3 hb7; have hfz := frozen_of_row _ _ 1 _ _ hb7; clear h7 hb7)
    have HFIN := Lib.hid (HP3.out.pushZ z H7.out)
    go_ret
    exact ⟨fun z' h => (by rw [HZ.out] at h; cases h; exact ⟨rfl, (KS.of_below HB3.out).trans HFIN.out.2, fun _ => ⟨{ g with IA := some ⟨G, 0, none⟩, Ic := c7, is := g.is ++ [z] }, ⟨rfl, rfl, rfl⟩, HFIN.out.1⟩⟩), fun hno => (by rw [HZ.out] at hno; cases hno)⟩
set_option maxRecDepth 100000 in
set_option maxHeartbeats 16000000 in
theorem read_T (S : Nat → Prop) (B : Nat) (g : Pg) (line : ByteArray) (W : World) (hpo : PO S B g W) (he : Env W) (hl : line.size ≤ 900000) (hp : g.ps.length ≤ 1000000 ∧ g.is.length ≤ 1000000 ∧ g.ts.length ≤ 1000000 ∧ ∀ p ∈ g.ps, p.code.length ≤ 1000000) (w0 : ByteArray) (wr : List ByteArray) (hw : wordsB line = w0 :: wr) (wl : ByteArray) (hwl : (w0 :: wr).getLast (by simp) = wl) (t1 : (w0.toList == [102, 117, 110, 99]) = false) (t2 : (w0.toList == [105, 110, 116]) = false) (t3 : (w0.toList == [116, 101, 120, 116]) = true) :
    Calls Tryz.prog 22 #[.pointer (some ⟨B, 0, none⟩), .string line] W (fun e W' => (∀ z, unspP wl = some z → ReadQ S B W true (fun g' => g'.ps.map Pr.core = g.ps.map Pr.core ∧ g'.is = g.is ∧ g'.ts = g.ts ++ [z]) e W') ∧ (unspP wl = none → ReadQ S B W false (fun _ => False) e W')) := by
  have hwl : (w0 :: wr).length = wr.length + 1 := rfl
  obtain ⟨n, hn⟩ : ∃ n, wr.length + 1 = n := ⟨_, rfl⟩
  have hsp := split_any line W he (by omega) n (by rw [hw, hwl, hn])
  have hrd : ∀ w', Below (W.alloc (.cells (cellsS (wordsB line)).toArray 9)).heap.size (W.alloc (.cells (cellsS (wordsB line)).toArray 9)) w' → RdV w' (some ⟨W.heap.size, 0, none⟩) (cellsS (wordsB line)) := fun w' hb => rdV_words W _ w' hb
  have hsz := words_size line
  have hmw := words_many line
  rw [hw] at hsp hrd hsz hmw
  rw [hwl] at hmw
  have HMW := Lib.hid hmw
  clear hmw
  have hb1 := below_new W (.cells (cellsS (w0 :: wr)).toArray 9)
  have HSP := Lib.hid hsp
  have HRD := Lib.hid hrd
  have HSZ := Lib.hid hsz
  have HB1 := Lib.hid hb1
  have HPO : Hid (∀ w', Below W.heap.size W w' → PO S B g w') := Lib.hid (fun w' hb => hpo.below hb)
  have HE : Hid (∀ w', Below W.heap.size W w' → Env w') := Lib.hid (fun w' hb => he.below hb)
  have HP := Lib.hid hp
  have HN := Lib.hid hn
  have HLL := Lib.hid hl
  have hn1 : 1 ≤ n := by omega
  clear hsp hrd hsz hb1 hpo he hp hw hwl hl
  go_enter Tryz.func22, Tryz.ntmps22
  go_wp2_with fail
  refine HSP.out.mono ?_
  rintro e w1 ⟨rfl, hw1⟩
  rw [← hw1] at HRD HB1
  clear HSP hw1
  obtain ⟨b9, o9, hA9, hb9, u0⟩ := rdS_at (HRD.out _ (Below.refl _ _)) (k := 0) (by simp)
  cases hA9
  simp only [Nat.add_zero, List.getElem_cons_zero] at u0
  have i0 : (0 : Int) < (n : Int) := by omega
  have i1 : (1 : Int) ≤ (n : Int) := by omega
  have i2 : 0 < n := by omega
  obtain ⟨b8, o8, hA8, hb8, u1⟩ := rdS_at (HRD.out _ (Below.refl _ _)) (k := n - 1) (by have := HN.out; simp; omega)
  cases hA8
  have hgl : (w0 :: wr)[n - 1]'(by have := HN.out; simp; omega) = (w0 :: wr).getLast (by simp) := by
    rw [List.getLast_eq_getElem]
    congr 1
    have := HN.out
    simp
    omega
  rw [hgl] at u1
  rw [Nat.zero_add] at u1
  have hwsz : ((w0 :: wr).getLast (by simp)).size ≤ 1000000 := Nat.le_trans (HSZ.out _ (List.getLast_mem _)) (Nat.le_trans HLL.out (by omega))
  rw [hwl] at u1 hwsz
  have HNM : Hid (Calls Tryz.prog 41 #[.string wl] w1 fun e w' => UnsQ (unspP wl) e ∧ Below w1.heap.size w1 w') := Lib.hid (unspelled_any wl w1 hwsz (HE.out _ HB1.out))
  have w5 : IntKind.i64.wrap ((n : Int) - 1) = ((n - 1 : Nat) : Int) := by rw [IntWalk.i64_in _ (by have h1 := HMW.out; have h2 := HLL.out; have h3 := HN.out; omega)]; omega
  obtain ⟨nm, hnm⟩ : ∃ nm, n - 1 = nm := ⟨_, rfl⟩
  rw [hnm] at u1 w5
  have i3 : (nm : Int) < (n : Int) := by omega
  have i4 : (0 : Int) ≤ (nm : Int) := by omega
  have i5 : nm < n := by omega
  clear hgl hwl hwsz hnm
  go_wp2_with fail
  refine HNM.out.mono ?_
  rintro e w2 ⟨hq, hb2⟩
  have HB2 := Lib.hid (HB1.out.trans (hb2.mono HB1.out.size))
  clear hb2 HNM u0 u1
  cases hz : unspP wl with
  | none =>
    have HZ := Lib.hid hz
    rw [hz] at hq
    have hq' : e = .returned (.tuple #[.string { data := #[] }, .bool false]) := hq
    subst hq'
    clear hq hz
    obtain ⟨z, hzz⟩ : ∃ z : ByteArray, z = { data := #[] } := ⟨_, rfl⟩
    rw [← hzz]
    have HZZ := Lib.hid hzz
    clear hzz
    have HP2 := Lib.hid (HPO.out _ HB2.out)
    have hbx := HP2.out.box
    obtain ⟨q0, q1, q2⟩ := cell3 hbx
    have hltB := HP2.out.box_lt
    clear hbx
    have HX3 : Hid ((w2.alloc (.cells #[.string z] 9)).heap[w2.heap.size]? = some (.cells [.string z].toArray 9)) := Lib.hid (heap_alloc_new w2 _)
    have HB3 : Hid (Below W.heap.size W (w2.alloc (.cells #[.string z] 9))) := Lib.hid (HB2.out.trans ((below_new w2 _).mono HB2.out.size))
    have HP3 := Lib.hid (HPO.out _ HB3.out)
    have HBX3 := Lib.hid (own_ne HP3.out.ts HP3.out.box (by decide))
    have HPN : Hid (g.ts.length ≤ 10000000) := Lib.hid (by have := HP.out.2.2.1; omega)
    go_wp2_with (at_builtin; refine wpList_push rfl (.tmp 86) (.tmp 88) rfl Tryz.underlying24 str_info rfl (by omega) (by omega) g.v2 g.ts.length (cellsS g.ts) rfl HP3.out.ts w2.heap.size [.string z] rfl HX3.out rfl (by simp; rfl) HPN.out ?_; intro v7 w7 h7; obtain ⟨G, c7, rfl⟩ := h7.slice; have H7 := Lib.hid h7; have hb7 := (h7.grown.block B HP3.out.box_lt (fun e => HBX3.out e.symm)).trans HP3.out.box; obtain ⟨z0, z1, z2⟩ := cell3 hb7; have hfz := frozen_of_row _ _ 2 _ _ hb7; clear h7 hb7)
    have HFIN := Lib.hid (HP3.out.pushT z H7.out)
    go_ret
    exact ⟨fun z' h => (by rw [HZ.out] at h; cases h), fun _ => ⟨rfl, (KS.of_below HB3.out).trans HFIN.out.2, fun h => by cases h⟩⟩
  | some z =>
    have HZ := Lib.hid hz
    rw [hz] at hq
    have hq' : e = .returned (.tuple #[.string z, .bool true]) := hq
    subst hq'
    clear hq hz
    have HP2 := Lib.hid (HPO.out _ HB2.out)
    have hbx := HP2.out.box
    obtain ⟨q0, q1, q2⟩ := cell3 hbx
    have hltB := HP2.out.box_lt
    clear hbx
    have HX3 : Hid ((w2.alloc (.cells #[.string z] 9)).heap[w2.heap.size]? = some (.cells [.string z].toArray 9)) := Lib.hid (heap_alloc_new w2 _)
    have HB3 : Hid (Below W.heap.size W (w2.alloc (.cells #[.string z] 9))) := Lib.hid (HB2.out.trans ((below_new w2 _).mono HB2.out.size))
    have HP3 := Lib.hid (HPO.out _ HB3.out)
    have HBX3 := Lib.hid (own_ne HP3.out.ts HP3.out.box (by decide))
    have HPN : Hid (g.ts.length ≤ 10000000) := Lib.hid (by have := HP.out.2.2.1; omega)
    go_wp2_with (at_builtin; refine wpList_push rfl (.tmp 86) (.tmp 88) rfl Tryz.underlying24 str_info rfl (by omega) (by omega) g.v2 g.ts.length (cellsS g.ts) rfl HP3.out.ts w2.heap.size [.string z] rfl HX3.out rfl (by simp; rfl) HPN.out ?_; intro v7 w7 h7; obtain ⟨G, c7, rfl⟩ := h7.slice; have H7 := Lib.hid h7; have hb7 := (h7.grown.block B HP3.out.box_lt (fun e => HBX3.out e.symm)).trans HP3.out.box; obtain ⟨z0, z1, z2⟩ := cell3 hb7; have hfz := frozen_of_row _ _ 2 _ _ hb7; clear h7 hb7)
    have HFIN := Lib.hid (HP3.out.pushT z H7.out)
    go_ret
    exact ⟨fun z' h => (by rw [HZ.out] at h; cases h; exact ⟨rfl, (KS.of_below HB3.out).trans HFIN.out.2, fun _ => ⟨{ g with TA := some ⟨G, 0, none⟩, Tc := c7, ts := g.ts ++ [z] }, ⟨rfl, rfl, rfl⟩, HFIN.out.1⟩⟩), fun hno => (by rw [HZ.out] at hno; cases hno)⟩
theorem PO.slotI {S : Nat → Prop} {B : Nat} {g : Pg} {W W' : World} (h : PO S B g W) (l : List Pr) (q : Pr) (hl : g.ps = l ++ [q]) {GP : Nat} {v' : Value} {xv : List Value} (hGP : g.PA = some ⟨GP, 0, none⟩) (hq : Psh 42 4 q.v q.code.length (insC q.code) xv W v' W') : (∃ u, W'.cell? ⟨GP, l.length * 3 + 2, none⟩ = some u) ∧ W'.frozen? ⟨GP, l.length * 3 + 2, none⟩ = false := by
  have hcq := h.code q (by rw [hl]; simp)
  have h1 : W'.ownsRow 0 39 3 g.v0 g.ps.length (prsC g.ps) := h.ps.kept hq.grown (own_nes h.ps hcq (by decide))
  have hv0 : g.v0 = .slice (some ⟨GP, 0, none⟩) g.ps.length g.Pc := by show Value.slice g.PA _ _ = _; rw [hGP]
  have h2 : W'.ownsRow 0 39 3 (.slice (some ⟨GP, 0, none⟩) g.ps.length g.Pc) g.ps.length (prsC g.ps) := hv0 ▸ h1
  have hlen : g.ps.length = l.length + 1 := by rw [hl]; simp
  refine ⟨?_, h2.frozenAt _⟩
  have h3 := h2.cellAt (l.length * 3 + 2) (by omega)
  have h4 : l.length * 3 + 2 < (prsC g.ps).length := by rw [prsC_len]; omega
  rw [List.getElem?_eq_getElem h4] at h3
  exact ⟨_, h3⟩
set_option maxRecDepth 100000 in
set_option maxHeartbeats 16000000 in
theorem read_I (S : Nat → Prop) (B : Nat) (g : Pg) (line : ByteArray) (W : World) (hpo : PO S B g W) (he : Env W) (hl : line.size ≤ 900000) (hp : g.ps.length ≤ 1000000 ∧ g.is.length ≤ 1000000 ∧ g.ts.length ≤ 1000000 ∧ ∀ p ∈ g.ps, p.code.length ≤ 1000000) (w0 : ByteArray) (wr : List ByteArray) (hw : wordsB line = w0 :: wr) (t1 : (w0.toList == [102, 117, 110, 99]) = false) (t2 : (w0.toList == [105, 110, 116]) = false) (t3 : (w0.toList == [116, 101, 120, 116]) = false) :
    Calls Tryz.prog 22 #[.pointer (some ⟨B, 0, none⟩), .string line] W (fun e W' => (∀ a b c d l q, (w0 :: wr).mapM atoiO = some [a, b, c, d] → g.ps = l ++ [q] → ReadQ S B W true (fun g' => g'.ps.map Pr.core = l.map Pr.core ++ [(q.params, q.regs, q.code ++ [⟨a, b, c, d⟩])] ∧ g'.is = g.is ∧ g'.ts = g.ts) e W') ∧ ((∀ a b c d, (w0 :: wr).mapM atoiO ≠ some [a, b, c, d]) ∨ g.ps = [] → ReadQ S B W false (fun _ => False) e W')) := by
  have hwl : (w0 :: wr).length = wr.length + 1 := rfl
  obtain ⟨n, hn⟩ : ∃ n, wr.length + 1 = n := ⟨_, rfl⟩
  have hsp := split_any line W he (by omega) n (by rw [hw, hwl, hn])
  have hrd : ∀ w', Below (W.alloc (.cells (cellsS (wordsB line)).toArray 9)).heap.size (W.alloc (.cells (cellsS (wordsB line)).toArray 9)) w' → RdV w' (some ⟨W.heap.size, 0, none⟩) (cellsS (wordsB line)) := fun w' hb => rdV_words W _ w' hb
  have hsz := words_size line
  have hmw := words_many line
  rw [hw] at hsp hrd hsz hmw
  rw [hwl] at hmw
  have HMW := Lib.hid hmw
  clear hmw
  have hb1 := below_new W (.cells (cellsS (w0 :: wr)).toArray 9)
  have HSP := Lib.hid hsp
  have HRD := Lib.hid hrd
  have HSZ := Lib.hid hsz
  have HB1 := Lib.hid hb1
  have HPO : Hid (∀ w', Below W.heap.size W w' → PO S B g w') := Lib.hid (fun w' hb => hpo.below hb)
  have HE : Hid (∀ w', Below W.heap.size W w' → Env w') := Lib.hid (fun w' hb => he.below hb)
  have HP := Lib.hid hp
  have HN := Lib.hid hn
  have HLL := Lib.hid hl
  have hn1 : 1 ≤ n := by omega
  clear hsp hrd hsz hb1 hpo he hp hw hwl hl
  go_enter Tryz.func22, Tryz.ntmps22
  go_wp2_with fail
  refine HSP.out.mono ?_
  rintro e w1 ⟨rfl, hw1⟩
  rw [← hw1] at HRD HB1
  clear HSP hw1
  obtain ⟨b9, o9, hA9, hb9, u0⟩ := rdS_at (HRD.out _ (Below.refl _ _)) (k := 0) (by simp)
  cases hA9
  simp only [Nat.add_zero, List.getElem_cons_zero] at u0
  have i0 : (0 : Int) < (n : Int) := by omega
  have i1 : (1 : Int) ≤ (n : Int) := by omega
  have i2 : 0 < n := by omega
  have HNM : Hid (Calls Tryz.prog 39 #[.slice (some ⟨W.heap.size, 0, none⟩) n n, .int .i64 4] w1 fun e w' => NumsQ ((w0 :: wr).mapM atoiO) 4 e w' ∧ Below w1.heap.size w1 w') := Lib.hid (by
    have h := numbers_any (some ⟨W.heap.size, 0, none⟩) n (w0 :: wr) 4 w1 (HRD.out _ (Below.refl _ _)) (by
      have h1 := HMW.out
      have h2 := HLL.out
      simp
      omega) (fun s hs => Nat.le_trans (HSZ.out s hs) (Nat.le_trans HLL.out (by omega))) (HE.out _ HB1.out)
    rw [show (w0 :: wr).length = n by have := HN.out; simp; omega] at h
    exact h)
  obtain ⟨ws, hws⟩ : ∃ ws, w0 :: wr = ws := ⟨_, rfl⟩
  have HWS := Lib.hid hws
  go_wp2_with fail
  refine HNM.out.mono ?_
  rintro e w2 ⟨hq, hb2⟩
  have HB2 := Lib.hid (HB1.out.trans (hb2.mono HB1.out.size))
  clear hb2 HNM u0 hws
  cases hz : (w0 :: wr).mapM atoiO with
  | none =>
    have HZ := Lib.hid hz
    rw [hz] at hq
    have hq' : e = .returned (.tuple #[.slice none 0 0, .bool false]) := hq
    subst hq'
    clear hq hz
    go_wp2_with fail
    go_ret
    exact ⟨fun a b c d l q h => (by rw [HZ.out] at h; cases h), fun _ => ⟨rfl, KS.of_below HB2.out, fun h => by cases h⟩⟩
  | some zs =>
    have HZ := Lib.hid hz
    rw [hz] at hq
    obtain ⟨A', c', rfl, hr, hty⟩ := hq
    have HTY := Lib.hid hty
    clear hty
    clear hz
    by_cases h2 : zs.length = 4
    rotate_left
    · have d2 : ((zs.length : Int) == 4) = false := by simp; omega
      clear hr
      go_wp2_with fail
      go_ret
      exact ⟨fun a b c d l q h => (by rw [HZ.out] at h; cases h; exact absurd rfl h2), fun _ => ⟨rfl, KS.of_below HB2.out, fun h => by cases h⟩⟩
    obtain ⟨a, b, c, d, rfl⟩ : ∃ a b c d, zs = [a, b, c, d] := by
      match zs, h2 with
      | [a, b, c, d], _ => exact ⟨a, b, c, d, rfl⟩
    have HP2 := Lib.hid (HPO.out _ HB2.out)
    have hbx := HP2.out.box
    obtain ⟨q0, q1, q2⟩ := cell3 hbx
    have hltB := HP2.out.box_lt
    obtain ⟨ng, hng⟩ : ∃ ng, g.ps.length = ng := ⟨_, rfl⟩
    replace q0 : w2.cell? ⟨B, 0, none⟩ = some (.slice g.PA g.ps.length g.Pc) := q0
    rw [hng] at q0
    have HNG := Lib.hid hng
    clear hbx hng
    by_cases h0 : ng = 0
    · subst h0
      have HEM : Hid (g.ps = []) := Lib.hid (List.eq_nil_of_length_eq_zero HNG.out)
      clear hr
      go_wp2_with fail
      go_ret
      exact ⟨fun a b c d l q _ h => (by rw [HEM.out] at h; simp at h), fun _ => ⟨rfl, KS.of_below HB2.out, fun h => by cases h⟩⟩
    obtain ⟨l, q, hlq⟩ : ∃ l q, g.ps = l ++ [q] := by
      rcases List.eq_nil_or_concat g.ps with h | ⟨l, q, h⟩
      · exact absurd (by rw [← HNG.out, h]; rfl) h0
      · exact ⟨l, q, by simpa using h⟩
    have HLQ := Lib.hid hlq
    obtain ⟨m, hm⟩ : ∃ m, l.length = m := ⟨_, rfl⟩
    have hnm : ng = m + 1 := by have h1 := HNG.out; rw [hlq] at h1; simp at h1; omega
    have hka : m < g.ps.length := by rw [HNG.out]; omega
    obtain ⟨GP, oP, hA, hbP, s0, s1, s2⟩ := HP2.out.at.ps.at hka
    have hgm : g.ps[m] = q := by simp only [hlq]; simp [← hm]
    rw [hgm] at s0 s1 s2
    have hoP : oP = 0 := by
      obtain ⟨G, c9, hv, _⟩ := own_slice (g := 0) HP2.out.ps (by omega)
      have hv' : Value.slice g.PA g.ps.length g.Pc = .slice (some ⟨G, 0, none⟩) g.ps.length c9 := hv
      injection hv' with hA2 _ _
      rw [hA] at hA2
      cases hA2
      rfl
    subst hoP
    have HGP : Hid (g.PA = some ⟨GP, 0, none⟩) := Lib.hid hA
    have HMM := Lib.hid hm
    rw [hA] at q0
    rw [Nat.zero_add] at s0 s1 s2
    obtain ⟨b6, o6, hA6, hb6, v0⟩ := rdZ_at hr (k := 0) (by simp)
    obtain ⟨b7, o7, hA7, hb7, v1⟩ := rdZ_at hr (k := 1) (by simp)
    obtain ⟨b8, o8, hA8, hb8, v2⟩ := rdZ_at hr (k := 2) (by simp)
    obtain ⟨b9, o9, hA9, hb9, v3⟩ := rdZ_at hr (k := 3) (by simp)
    have hA6' : A' = some ⟨b6, o6, none⟩ := by simpa using hA6
    have HT6 : Hid (∃ cs fr, w2.heap[b6]? = some (.cells cs 3 fr)) := Lib.hid (HTY.out b6 (by rw [hA6']; rfl))
    rw [hA6'] at hA7 hA8 hA9 ⊢
    cases hA7
    cases hA8
    cases hA9
    simp only [Nat.add_zero, List.getElem_cons_zero, List.getElem_cons_succ] at v0 v1 v2 v3
    have d0 : ((ng : Int) == 0) = false := by simp; omega
    have w6 : IntKind.i64.wrap ((ng : Int) - 1) = (m : Int) := by rw [IntWalk.i64_in _ (by have h1 := HP.out.1; have h2 := HNG.out; omega)]; omega
    have j0 : (0 : Int) ≤ (m : Int) := by omega
    have j1 : (m : Int) < (ng : Int) := by omega
    have j2 : m < ng := by omega
    obtain ⟨mc, hmc⟩ : ∃ mc, q.code.length = mc := ⟨_, rfl⟩
    rw [hmc] at s2
    have HMC := Lib.hid hmc
    clear hr hA6 hA6' hA hm hka hgm hlq hnm hmc
    go_upto_region 19 with (fail)
    go_quiet (fail)
    go_upto_region 20 with (fail)
    have HB2d : Hid (Below W.heap.size W (w2.drewN nq)) := Lib.hid (below_any nq HB2.out)
    have q0' : (w2.drewN nq).cell? ⟨B, 0, none⟩ = some (.slice (some ⟨GP, 0, none⟩) ng g.Pc) := q0
    have s2' : (w2.drewN nq).cell? ⟨GP, m * 3 + 2, none⟩ = some (.slice q.A mc q.cap) := s2
    have v0' : (w2.drewN nq).cell? ⟨b6, o6, none⟩ = some (.int .i64 a) := v0
    have v1' : (w2.drewN nq).cell? ⟨b6, o6 + 1, none⟩ = some (.int .i64 b) := v1
    have v2' : (w2.drewN nq).cell? ⟨b6, o6 + 2, none⟩ = some (.int .i64 c) := v2
    have v3' : (w2.drewN nq).cell? ⟨b6, o6 + 3, none⟩ = some (.int .i64 d) := v3
    have hP' : GP < (w2.drewN nq).heap.size := hbP
    have h6' : b6 < (w2.drewN nq).heap.size := hb6
    have HT6' : Hid (∃ cs fr, (w2.drewN nq).heap[b6]? = some (.cells cs 3 fr)) := HT6
    clear HT6 HTY
    clear q0 q1 q2 s0 s1 s2 v0 v1 v2 v3 hbP hb6 hb7 hb8 hb9 hltB HB2 HP2
    generalize w2.drewN nq = w3 at *
    have HX3 : Hid ((w3.alloc (.cells #[.int .i64 a, .int .i64 b, .int .i64 c, .int .i64 d] 42)).drew.heap[w3.heap.size]? = some (.cells [.int .i64 a, .int .i64 b, .int .i64 c, .int .i64 d].toArray 42)) := Lib.hid (heap_alloc_new w3 _)
    have HB3 : Hid (Below W.heap.size W (w3.alloc (.cells #[.int .i64 a, .int .i64 b, .int .i64 c, .int .i64 d] 42)).drew) := Lib.hid ((HB2d.out.trans ((below_new w3 _).mono HB2d.out.size)).drew)
    have HP3 := Lib.hid (HPO.out _ HB3.out)
    have HPN : Hid (q.code.length ≤ 10000000) := Lib.hid (by have := HP.out.2.2.2 q (by rw [HLQ.out]; simp); omega)
    have HCQ : Hid ((w3.alloc (.cells #[.int .i64 a, .int .i64 b, .int .i64 c, .int .i64 d] 42)).drew.ownsRow 0 42 4 (.slice q.A mc q.cap) q.code.length (insC q.code)) := Lib.hid (by
      have h1 := HP3.out.code q (by rw [HLQ.out]; simp)
      rw [← HMC.out]
      exact h1)
    have HC4 : Hid (∀ W, Below w3.heap.size w3 W → W.cell? ⟨b6, o6, none⟩ = some (.int .i64 a) ∧ W.cell? ⟨b6, o6 + 1, none⟩ = some (.int .i64 b) ∧ W.cell? ⟨b6, o6 + 2, none⟩ = some (.int .i64 c) ∧ W.cell? ⟨b6, o6 + 3, none⟩ = some (.int .i64 d)) := Lib.hid (fun W hb => ⟨(hb.cell (p := ⟨b6, o6, none⟩) h6').trans v0', (hb.cell (p := ⟨b6, o6 + 1, none⟩) h6').trans v1', (hb.cell (p := ⟨b6, o6 + 2, none⟩) h6').trans v2', (hb.cell (p := ⟨b6, o6 + 3, none⟩) h6').trans v3'⟩)
    have hgc : (w3.alloc (.cells #[.int .i64 a, .int .i64 b, .int .i64 c, .int .i64 d] 42)).drew.cell? ⟨GP, m * 3 + 2, none⟩ = some (.slice q.A mc q.cap) := (((below_new w3 (.cells #[.int .i64 a, .int .i64 b, .int .i64 c, .int .i64 d] 42)).drew).cell (p := ⟨GP, m * 3 + 2, none⟩) hP').trans s2'
    have HGC := Lib.hid hgc
    clear hgc
    refine wp_region_held_drew (S := fun W => W.cell? ⟨b6, o6, none⟩ = some (.int .i64 a) ∧ W.cell? ⟨b6, o6 + 1, none⟩ = some (.int .i64 b) ∧ W.cell? ⟨b6, o6 + 2, none⟩ = some (.int .i64 c) ∧ W.cell? ⟨b6, o6 + 3, none⟩ = some (.int .i64 d)) (by kernel_rfl) ⟨v0', v1', v2', v3'⟩ (fun hHeld => ?_)
    refine wpAnyH_take (i := 0) (v := ?_) (by simp only [List.getElem?_toArray, List.getElem?_cons_succ, List.getElem?_cons_zero] <;> rfl) (by kernel_rfl) (by kernel_rfl) (by kernel_rfl) (by intro _ _ _ h; exact h) (Or.inl ⟨by rfl, ?_⟩) (by assumption) ?_
    rotate_left
    · intro W9 hSw
      obtain ⟨s2, s3, s4, s5⟩ := hSw
      go_simp
      try with_reducible rfl
    try simp only [Act.put, List.setIfInBounds_toArray, List.set_cons_zero, List.set_cons_succ]
    refine wpAnyH_take (i := 1) (v := ?_) (by simp only [List.getElem?_toArray, List.getElem?_cons_succ, List.getElem?_cons_zero] <;> rfl) (by kernel_rfl) (by kernel_rfl) (by kernel_rfl) (by intro _ _ _ h; exact h) (Or.inl ⟨by rfl, ?_⟩) (by assumption) ?_
    rotate_left
    · intro W9 hSw
      obtain ⟨s2, s3, s4, s5⟩ := hSw
      go_simp
      try with_reducible rfl
    try simp only [Act.put, List.setIfInBounds_toArray, List.set_cons_zero, List.set_cons_succ]
    refine wpAnyH_take (i := 2) (v := ?_) (by simp only [List.getElem?_toArray, List.getElem?_cons_succ, List.getElem?_cons_zero] <;> rfl) (by kernel_rfl) (by kernel_rfl) (by kernel_rfl) (by intro _ _ _ h; exact h) (Or.inl ⟨by rfl, ?_⟩) (by assumption) ?_
    rotate_left
    · intro W9 hSw
      obtain ⟨s2, s3, s4, s5⟩ := hSw
      go_simp
      try with_reducible rfl
    try simp only [Act.put, List.setIfInBounds_toArray, List.set_cons_zero, List.set_cons_succ]
    refine wpAnyH_take (i := 3) (v := ?_) (by simp only [List.getElem?_toArray, List.getElem?_cons_succ, List.getElem?_cons_zero] <;> rfl) (by kernel_rfl) (by kernel_rfl) (by kernel_rfl) (by intro _ _ _ h; exact h) (Or.inl ⟨by rfl, ?_⟩) (by assumption) ?_
    rotate_left
    · intro W9 hSw
      obtain ⟨s2, s3, s4, s5⟩ := hSw
      go_simp
      try with_reducible rfl
    try simp only [Act.put, List.setIfInBounds_toArray, List.set_cons_zero, List.set_cons_succ]
    refine wpAnyH_take (i := 5) (v := ?_) (by simp only [List.getElem?_toArray, List.getElem?_cons_succ, List.getElem?_cons_zero] <;> rfl) (by kernel_rfl) (by kernel_rfl) (by kernel_rfl) (by intro _ _ _ h; exact h) (Or.inl ⟨by rfl, ?_⟩) (by assumption) ?_
    rotate_left
    · intro W9 hSw
      obtain ⟨s2, s3, s4, s5⟩ := hSw
      go_simp
      try with_reducible rfl
    try simp only [Act.put, List.setIfInBounds_toArray, List.set_cons_zero, List.set_cons_succ]
    refine wpAnyH_take (i := 6) (v := ?_) (by simp only [List.getElem?_toArray, List.getElem?_cons_succ, List.getElem?_cons_zero] <;> rfl) (by kernel_rfl) (by kernel_rfl) (by kernel_rfl) (by intro _ _ _ h; exact h) (Or.inl ⟨by rfl, ?_⟩) (by assumption) ?_
    rotate_left
    · intro W9 hSw
      obtain ⟨s2, s3, s4, s5⟩ := hSw
      go_simp
      try with_reducible rfl
    try simp only [Act.put, List.setIfInBounds_toArray, List.set_cons_zero, List.set_cons_succ]
    refine wpAnyH_take (i := 7) (v := .int .i64 a) (by simp only [List.getElem?_toArray, List.getElem?_cons_succ, List.getElem?_cons_zero] <;> rfl) (by kernel_rfl) (by kernel_rfl) (by kernel_rfl) (by intro _ _ _ h; exact h) (Or.inl ⟨by rfl, ?_⟩) (by assumption) ?_
    · intro W9 hSw
      obtain ⟨s2, s3, s4, s5⟩ := hSw
      go_simp
      try with_reducible rfl
    try simp only [Act.put, List.setIfInBounds_toArray, List.set_cons_zero, List.set_cons_succ]
    refine wpAnyH_take (i := 8) (v := ?_) (by simp only [List.getElem?_toArray, List.getElem?_cons_succ, List.getElem?_cons_zero] <;> rfl) (by kernel_rfl) (by kernel_rfl) (by kernel_rfl) (by intro _ _ _ h; exact h) (Or.inl ⟨by rfl, ?_⟩) (by assumption) ?_
    rotate_left
    · intro W9 hSw
      obtain ⟨s2, s3, s4, s5⟩ := hSw
      go_simp
      try with_reducible rfl
    try simp only [Act.put, List.setIfInBounds_toArray, List.set_cons_zero, List.set_cons_succ]
    refine wpAnyH_take (i := 9) (v := ?_) (by simp only [List.getElem?_toArray, List.getElem?_cons_succ, List.getElem?_cons_zero] <;> rfl) (by kernel_rfl) (by kernel_rfl) (by kernel_rfl) (by intro _ _ _ h; exact h) (Or.inl ⟨by rfl, ?_⟩) (by assumption) ?_
    rotate_left
    · intro W9 hSw
      obtain ⟨s2, s3, s4, s5⟩ := hSw
      go_simp
      try with_reducible rfl
    try simp only [Act.put, List.setIfInBounds_toArray, List.set_cons_zero, List.set_cons_succ]
    refine wpAnyH_take (i := 10) (v := .int .i64 b) (by simp only [List.getElem?_toArray, List.getElem?_cons_succ, List.getElem?_cons_zero] <;> rfl) (by kernel_rfl) (by kernel_rfl) (by kernel_rfl) (by intro _ _ _ h; exact h) (Or.inl ⟨by rfl, ?_⟩) (by assumption) ?_
    · intro W9 hSw
      obtain ⟨s2, s3, s4, s5⟩ := hSw
      go_simp
      try with_reducible rfl
    try simp only [Act.put, List.setIfInBounds_toArray, List.set_cons_zero, List.set_cons_succ]
    refine wpAnyH_take (i := 11) (v := ?_) (by simp only [List.getElem?_toArray, List.getElem?_cons_succ, List.getElem?_cons_zero] <;> rfl) (by kernel_rfl) (by kernel_rfl) (by kernel_rfl) (by intro _ _ _ h; exact h) (Or.inl ⟨by rfl, ?_⟩) (by assumption) ?_
    rotate_left
    · intro W9 hSw
      obtain ⟨s2, s3, s4, s5⟩ := hSw
      go_simp
      try with_reducible rfl
    try simp only [Act.put, List.setIfInBounds_toArray, List.set_cons_zero, List.set_cons_succ]
    refine wpAnyH_take (i := 12) (v := ?_) (by simp only [List.getElem?_toArray, List.getElem?_cons_succ, List.getElem?_cons_zero] <;> rfl) (by kernel_rfl) (by kernel_rfl) (by kernel_rfl) (by intro _ _ _ h; exact h) (Or.inl ⟨by rfl, ?_⟩) (by assumption) ?_
    rotate_left
    · intro W9 hSw
      obtain ⟨s2, s3, s4, s5⟩ := hSw
      go_simp
      try with_reducible rfl
    try simp only [Act.put, List.setIfInBounds_toArray, List.set_cons_zero, List.set_cons_succ]
    refine wpAnyH_take (i := 13) (v := .int .i64 c) (by simp only [List.getElem?_toArray, List.getElem?_cons_succ, List.getElem?_cons_zero] <;> rfl) (by kernel_rfl) (by kernel_rfl) (by kernel_rfl) (by intro _ _ _ h; exact h) (Or.inl ⟨by rfl, ?_⟩) (by assumption) ?_
    · intro W9 hSw
      obtain ⟨s2, s3, s4, s5⟩ := hSw
      go_simp
      try with_reducible rfl
    try simp only [Act.put, List.setIfInBounds_toArray, List.set_cons_zero, List.set_cons_succ]
    refine wpAnyH_take (i := 14) (v := ?_) (by simp only [List.getElem?_toArray, List.getElem?_cons_succ, List.getElem?_cons_zero] <;> rfl) (by kernel_rfl) (by kernel_rfl) (by kernel_rfl) (by intro _ _ _ h; exact h) (Or.inl ⟨by rfl, ?_⟩) (by assumption) ?_
    rotate_left
    · intro W9 hSw
      obtain ⟨s2, s3, s4, s5⟩ := hSw
      go_simp
      try with_reducible rfl
    try simp only [Act.put, List.setIfInBounds_toArray, List.set_cons_zero, List.set_cons_succ]
    refine wpAnyH_take (i := 15) (v := ?_) (by simp only [List.getElem?_toArray, List.getElem?_cons_succ, List.getElem?_cons_zero] <;> rfl) (by kernel_rfl) (by kernel_rfl) (by kernel_rfl) (by intro _ _ _ h; exact h) (Or.inl ⟨by rfl, ?_⟩) (by assumption) ?_
    rotate_left
    · intro W9 hSw
      obtain ⟨s2, s3, s4, s5⟩ := hSw
      go_simp
      try with_reducible rfl
    try simp only [Act.put, List.setIfInBounds_toArray, List.set_cons_zero, List.set_cons_succ]
    refine wpAnyH_take (i := 16) (v := .int .i64 d) (by simp only [List.getElem?_toArray, List.getElem?_cons_succ, List.getElem?_cons_zero] <;> rfl) (by kernel_rfl) (by kernel_rfl) (by kernel_rfl) (by intro _ _ _ h; exact h) (Or.inl ⟨by rfl, ?_⟩) (by assumption) ?_
    · intro W9 hSw
      obtain ⟨s2, s3, s4, s5⟩ := hSw
      go_simp
      try with_reducible rfl
    try simp only [Act.put, List.setIfInBounds_toArray, List.set_cons_zero, List.set_cons_succ]
    refine wpAnyH_take (i := 17) (v := ?_) (by simp only [List.getElem?_toArray, List.getElem?_cons_succ, List.getElem?_cons_zero] <;> rfl) (by kernel_rfl) (by kernel_rfl) (by kernel_rfl) (by intro _ _ _ h; exact h) (Or.inl ⟨by rfl, ?_⟩) (by assumption) ?_
    rotate_left
    · intro W9 hSw
      obtain ⟨s2, s3, s4, s5⟩ := hSw
      go_simp
      try with_reducible rfl
    try simp only [Act.put, List.setIfInBounds_toArray, List.set_cons_zero, List.set_cons_succ]
    refine wpAnyH_ready (rs := [4, 18]) (by kernel_rfl) (by simp) ?_
    refine AllReadyH.cons (by simp only [List.getElem?_toArray, List.getElem?_cons_succ, List.getElem?_cons_zero] <;> rfl) (fun K hK => ?_) (AllReadyH.cons (by simp only [List.getElem?_toArray, List.getElem?_cons_succ, List.getElem?_cons_zero] <;> rfl) (fun K hK => ?_) AllReadyH.nil)
    · skip
      have hs2d : w3.drew.cell? ⟨GP, m * 3 + 2, none⟩ = some (.slice q.A mc q.cap) := s2'
      go_simp
      have hHeld5 := HC4.out w3.drew ((Below.refl _ w3).drew)
      clear hHeld
      refine hK.out _ _ hHeld5 (fun hHeld => ?_)
      clear hK K hHeld5
      try simp only [Act.put, List.setIfInBounds_toArray, List.set_cons_zero, List.set_cons_succ]
      refine wpAnyH_ready (rs := [18]) (by kernel_rfl) (by simp) ?_
      refine AllReadyH.cons (by simp only [List.getElem?_toArray, List.getElem?_cons_succ, List.getElem?_cons_zero] <;> rfl) (fun K hK => ?_) AllReadyH.nil
      go_simp
      have hHeld5 := HC4.out (w3.alloc (.cells #[.int .i64 a, .int .i64 b, .int .i64 c, .int .i64 d] 42)).drew ((below_new w3 (.cells #[.int .i64 a, .int .i64 b, .int .i64 c, .int .i64 d] 42)).drew)
      clear hHeld
      refine hK.out _ _ hHeld5 (fun hHeld => ?_)
      clear hK K hHeld5
      try simp only [Act.put, List.setIfInBounds_toArray, List.set_cons_zero, List.set_cons_succ]
      refine wpAnyH_ready (rs := [19]) (by kernel_rfl) (by simp) ?_
      refine AllReadyH.cons (by simp only [List.getElem?_toArray, List.getElem?_cons_succ, List.getElem?_cons_zero] <;> rfl) (fun K hK => ?_) AllReadyH.nil
      refine step_push (by rfl) (.tmp 123) (.tmp 137) (by rfl) Tryz.underlying37 ins_info rfl (by omega) (by omega) (.slice q.A mc q.cap) q.code.length (insC q.code) (by rfl) HCQ.out w3.heap.size [.int .i64 a, .int .i64 b, .int .i64 c, .int .i64 d] (by rfl) HX3.out rfl (by simp; exact ⟨rfl, rfl, rfl, rfl⟩) HPN.out ?_
      intro v7 w7 h7
      obtain ⟨G, c7, rfl⟩ := h7.slice
      have HCQv : Hid ((w3.alloc (.cells #[.int .i64 a, .int .i64 b, .int .i64 c, .int .i64 d] 42)).drew.ownsRow 0 42 4 q.v q.code.length (insC q.code)) := Lib.hid (HP3.out.code q (by rw [HLQ.out]; simp))
      have hqv : q.v = .slice q.A mc q.cap := by
        show Value.slice q.A q.code.length q.cap = _
        rw [HMC.out]
      have H7 : Hid (Psh 42 4 q.v q.code.length (insC q.code) [.int .i64 a, .int .i64 b, .int .i64 c, .int .i64 d] (w3.alloc (.cells #[.int .i64 a, .int .i64 b, .int .i64 c, .int .i64 d] 42)).drew (.slice (some ⟨G, 0, none⟩) (q.code.length + 1) c7) w7) := Lib.hid (by rw [hqv]; exact h7)
      have hsl := HP3.out.slotI l q HLQ.out HGP.out H7.out
      rw [HMM.out] at hsl
      obtain ⟨⟨uu, hc7⟩, hfz⟩ := hsl
      have HC7 := Lib.hid hc7
      have HFZ := Lib.hid hfz
      have HS7 : Hid ((w7.cell? ⟨b6, o6, none⟩ = some (.int .i64 a) ∧ w7.cell? ⟨b6, o6 + 1, none⟩ = some (.int .i64 b) ∧ w7.cell? ⟨b6, o6 + 2, none⟩ = some (.int .i64 c) ∧ w7.cell? ⟨b6, o6 + 3, none⟩ = some (.int .i64 d)) ∧ b6 ≠ GP) := Lib.hid (by
        have hbl := (below_new w3 (.cells #[.int .i64 a, .int .i64 b, .int .i64 c, .int .i64 d] 42)).drew
        obtain ⟨cs, fr, hc6⟩ := HT6'.out
        have hc6' := (hbl.block b6 h6').trans hc6
        have hk6 : w7.heap[b6]? = (w3.alloc (.cells #[.int .i64 a, .int .i64 b, .int .i64 c, .int .i64 d] 42)).drew.heap[b6]? := H7.out.grown.block b6 (Nat.lt_of_lt_of_le h6' hbl.size) (fun e => own_ne HCQv.out hc6' (by decide) e.symm)
        obtain ⟨cP, fP, hcP⟩ := own_type HP3.out.ps GP (by show (Value.slice g.PA _ _).ownBlock = _; rw [HGP.out]; rfl)
        have h9 := HC4.out _ hbl
        refine ⟨⟨?_, ?_, ?_, ?_⟩, ?_⟩
        · exact (World.cell?_of_block hk6).trans h9.1
        · exact (World.cell?_of_block hk6).trans h9.2.1
        · exact (World.cell?_of_block hk6).trans h9.2.2.1
        · exact (World.cell?_of_block hk6).trans h9.2.2.2
        · rintro rfl
          rw [hc6'] at hcP
          cases hcP)
      clear h7 hqv hHeld
      refine hK.out _ _ HS7.out.1 (fun hHeld => ?_)
      clear hK K
      try simp only [Act.put, List.setIfInBounds_toArray, List.set_cons_zero, List.set_cons_succ]
      refine wpAnyH_take (i := 20) (v := ?_) (by simp only [List.getElem?_toArray, List.getElem?_cons_succ, List.getElem?_cons_zero] <;> rfl) (by kernel_rfl) (by kernel_rfl) (by kernel_rfl) (by intro _ _ _ h; exact h) (Or.inl ⟨by rfl, ?_⟩) (by assumption) ?_
      rotate_left
      · intro W9 hSw
        obtain ⟨s2, s3, s4, s5⟩ := hSw
        go_simp
        try with_reducible rfl
      try simp only [Act.put, List.setIfInBounds_toArray, List.set_cons_zero, List.set_cons_succ]
      refine wpAnyH_take (i := 21) (v := ?_) (by simp only [List.getElem?_toArray, List.getElem?_cons_succ, List.getElem?_cons_zero] <;> rfl) (by kernel_rfl) (by kernel_rfl) (by kernel_rfl) (by intro _ _ _ h; exact h) (Or.inl ⟨by rfl, ?_⟩) (by assumption) ?_
      rotate_left
      · intro W9 hSw
        obtain ⟨s2, s3, s4, s5⟩ := hSw
        go_simp
        try with_reducible rfl
      try simp only [Act.put, List.setIfInBounds_toArray, List.set_cons_zero, List.set_cons_succ]
      refine wpAnyH_ready (rs := [22]) (by kernel_rfl) (by simp) ?_
      refine AllReadyH.cons (by simp only [List.getElem?_toArray, List.getElem?_cons_succ, List.getElem?_cons_zero] <;> rfl) (fun K hK => ?_) AllReadyH.nil
      have hc7' := HC7.out
      have hfz' := HFZ.out
      go_simp
      have hHeld5 : (fun W : World => W.cell? ⟨b6, o6, none⟩ = some (.int .i64 a) ∧ W.cell? ⟨b6, o6 + 1, none⟩ = some (.int .i64 b) ∧ W.cell? ⟨b6, o6 + 2, none⟩ = some (.int .i64 c) ∧ W.cell? ⟨b6, o6 + 3, none⟩ = some (.int .i64 d)) (w7.setCell ⟨GP, m * 3 + 2, none⟩ (.slice (some ⟨G, 0, none⟩) (q.code.length + 1) c7)) := by
        have hk6 : (w7.setCell ⟨GP, m * 3 + 2, none⟩ (.slice (some ⟨G, 0, none⟩) (q.code.length + 1) c7)).heap[b6]? = w7.heap[b6]? := heap_setCell_other w7 _ b6 _ HS7.out.2
        have h9 := HS7.out.1
        exact ⟨(World.cell?_of_block hk6).trans h9.1, (World.cell?_of_block hk6).trans h9.2.1, (World.cell?_of_block hk6).trans h9.2.2.1, (World.cell?_of_block hk6).trans h9.2.2.2⟩
      clear hHeld hc7' hfz'
      refine hK.out _ _ hHeld5 (fun hHeld => ?_)
      clear hK K hHeld5
      refine wpAnyH_done (by kernel_rfl) ?_ _
      have HFIN := Lib.hid (HP3.out.pushI l q HLQ.out ⟨a, b, c, d⟩ HGP.out H7.out)
      rw [HMM.out] at HFIN
      clear HC7 HFZ
      go_wp2_with fail
      go_ret
      refine ⟨fun a' b' c' d' l' q' h hl' => ?_, fun hno => ?_⟩
      · rw [HZ.out] at h
        cases h
        rw [HLQ.out] at hl'
        obtain ⟨e1, e2⟩ := List.append_inj' hl' rfl
        cases e1
        cases e2
        exact ⟨rfl, (KS.of_below HB3.out).trans HFIN.out.2, fun _ => ⟨{ g with ps := l ++ [⟨q.params, q.regs, some ⟨G, 0, none⟩, c7, q.code ++ [⟨a, b, c, d⟩]⟩] }, ⟨by simp [Pr.core], rfl, rfl⟩, HFIN.out.1⟩⟩
      · rcases hno with h | h
        · exact absurd HZ.out (h a b c d)
        · rw [HLQ.out] at h
          simp at h
    · skip
      go_simp
      have hHeld5 := HC4.out (w3.alloc (.cells #[.int .i64 a, .int .i64 b, .int .i64 c, .int .i64 d] 42)).drew ((below_new w3 (.cells #[.int .i64 a, .int .i64 b, .int .i64 c, .int .i64 d] 42)).drew)
      clear hHeld
      refine hK.out _ _ hHeld5 (fun hHeld => ?_)
      clear hK K hHeld5
      try simp only [Act.put, List.setIfInBounds_toArray, List.set_cons_zero, List.set_cons_succ]
      refine wpAnyH_ready (rs := [4]) (by kernel_rfl) (by simp) ?_
      refine AllReadyH.cons (by simp only [List.getElem?_toArray, List.getElem?_cons_succ, List.getElem?_cons_zero] <;> rfl) (fun K hK => ?_) AllReadyH.nil
      have hgc := HGC.out
      go_simp
      have hHeld5 := HC4.out (w3.alloc (.cells #[.int .i64 a, .int .i64 b, .int .i64 c, .int .i64 d] 42)).drew ((below_new w3 (.cells #[.int .i64 a, .int .i64 b, .int .i64 c, .int .i64 d] 42)).drew)
      clear hHeld
      refine hK.out _ _ hHeld5 (fun hHeld => ?_)
      clear hK K hHeld5
      try simp only [Act.put, List.setIfInBounds_toArray, List.set_cons_zero, List.set_cons_succ]
      clear hgc
      refine wpAnyH_ready (rs := [19]) (by kernel_rfl) (by simp) ?_
      refine AllReadyH.cons (by simp only [List.getElem?_toArray, List.getElem?_cons_succ, List.getElem?_cons_zero] <;> rfl) (fun K hK => ?_) AllReadyH.nil
      refine step_push (by rfl) (.tmp 123) (.tmp 137) (by rfl) Tryz.underlying37 ins_info rfl (by omega) (by omega) (.slice q.A mc q.cap) q.code.length (insC q.code) (by rfl) HCQ.out w3.heap.size [.int .i64 a, .int .i64 b, .int .i64 c, .int .i64 d] (by rfl) HX3.out rfl (by simp; exact ⟨rfl, rfl, rfl, rfl⟩) HPN.out ?_
      intro v7 w7 h7
      obtain ⟨G, c7, rfl⟩ := h7.slice
      have HCQv : Hid ((w3.alloc (.cells #[.int .i64 a, .int .i64 b, .int .i64 c, .int .i64 d] 42)).drew.ownsRow 0 42 4 q.v q.code.length (insC q.code)) := Lib.hid (HP3.out.code q (by rw [HLQ.out]; simp))
      have hqv : q.v = .slice q.A mc q.cap := by
        show Value.slice q.A q.code.length q.cap = _
        rw [HMC.out]
      have H7 : Hid (Psh 42 4 q.v q.code.length (insC q.code) [.int .i64 a, .int .i64 b, .int .i64 c, .int .i64 d] (w3.alloc (.cells #[.int .i64 a, .int .i64 b, .int .i64 c, .int .i64 d] 42)).drew (.slice (some ⟨G, 0, none⟩) (q.code.length + 1) c7) w7) := Lib.hid (by rw [hqv]; exact h7)
      have hsl := HP3.out.slotI l q HLQ.out HGP.out H7.out
      rw [HMM.out] at hsl
      obtain ⟨⟨uu, hc7⟩, hfz⟩ := hsl
      have HC7 := Lib.hid hc7
      have HFZ := Lib.hid hfz
      have HS7 : Hid ((w7.cell? ⟨b6, o6, none⟩ = some (.int .i64 a) ∧ w7.cell? ⟨b6, o6 + 1, none⟩ = some (.int .i64 b) ∧ w7.cell? ⟨b6, o6 + 2, none⟩ = some (.int .i64 c) ∧ w7.cell? ⟨b6, o6 + 3, none⟩ = some (.int .i64 d)) ∧ b6 ≠ GP) := Lib.hid (by
        have hbl := (below_new w3 (.cells #[.int .i64 a, .int .i64 b, .int .i64 c, .int .i64 d] 42)).drew
        obtain ⟨cs, fr, hc6⟩ := HT6'.out
        have hc6' := (hbl.block b6 h6').trans hc6
        have hk6 : w7.heap[b6]? = (w3.alloc (.cells #[.int .i64 a, .int .i64 b, .int .i64 c, .int .i64 d] 42)).drew.heap[b6]? := H7.out.grown.block b6 (Nat.lt_of_lt_of_le h6' hbl.size) (fun e => own_ne HCQv.out hc6' (by decide) e.symm)
        obtain ⟨cP, fP, hcP⟩ := own_type HP3.out.ps GP (by show (Value.slice g.PA _ _).ownBlock = _; rw [HGP.out]; rfl)
        have h9 := HC4.out _ hbl
        refine ⟨⟨?_, ?_, ?_, ?_⟩, ?_⟩
        · exact (World.cell?_of_block hk6).trans h9.1
        · exact (World.cell?_of_block hk6).trans h9.2.1
        · exact (World.cell?_of_block hk6).trans h9.2.2.1
        · exact (World.cell?_of_block hk6).trans h9.2.2.2
        · rintro rfl
          rw [hc6'] at hcP
          cases hcP)
      clear h7 hqv hHeld
      refine hK.out _ _ HS7.out.1 (fun hHeld => ?_)
      clear hK K
      try simp only [Act.put, List.setIfInBounds_toArray, List.set_cons_zero, List.set_cons_succ]
      refine wpAnyH_take (i := 20) (v := ?_) (by simp only [List.getElem?_toArray, List.getElem?_cons_succ, List.getElem?_cons_zero] <;> rfl) (by kernel_rfl) (by kernel_rfl) (by kernel_rfl) (by intro _ _ _ h; exact h) (Or.inl ⟨by rfl, ?_⟩) (by assumption) ?_
      rotate_left
      · intro W9 hSw
        obtain ⟨s2, s3, s4, s5⟩ := hSw
        go_simp
        try with_reducible rfl
      try simp only [Act.put, List.setIfInBounds_toArray, List.set_cons_zero, List.set_cons_succ]
      refine wpAnyH_take (i := 21) (v := ?_) (by simp only [List.getElem?_toArray, List.getElem?_cons_succ, List.getElem?_cons_zero] <;> rfl) (by kernel_rfl) (by kernel_rfl) (by kernel_rfl) (by intro _ _ _ h; exact h) (Or.inl ⟨by rfl, ?_⟩) (by assumption) ?_
      rotate_left
      · intro W9 hSw
        obtain ⟨s2, s3, s4, s5⟩ := hSw
        go_simp
        try with_reducible rfl
      try simp only [Act.put, List.setIfInBounds_toArray, List.set_cons_zero, List.set_cons_succ]
      refine wpAnyH_ready (rs := [22]) (by kernel_rfl) (by simp) ?_
      refine AllReadyH.cons (by simp only [List.getElem?_toArray, List.getElem?_cons_succ, List.getElem?_cons_zero] <;> rfl) (fun K hK => ?_) AllReadyH.nil
      have hc7' := HC7.out
      have hfz' := HFZ.out
      go_simp
      have hHeld5 : (fun W : World => W.cell? ⟨b6, o6, none⟩ = some (.int .i64 a) ∧ W.cell? ⟨b6, o6 + 1, none⟩ = some (.int .i64 b) ∧ W.cell? ⟨b6, o6 + 2, none⟩ = some (.int .i64 c) ∧ W.cell? ⟨b6, o6 + 3, none⟩ = some (.int .i64 d)) (w7.setCell ⟨GP, m * 3 + 2, none⟩ (.slice (some ⟨G, 0, none⟩) (q.code.length + 1) c7)) := by
        have hk6 : (w7.setCell ⟨GP, m * 3 + 2, none⟩ (.slice (some ⟨G, 0, none⟩) (q.code.length + 1) c7)).heap[b6]? = w7.heap[b6]? := heap_setCell_other w7 _ b6 _ HS7.out.2
        have h9 := HS7.out.1
        exact ⟨(World.cell?_of_block hk6).trans h9.1, (World.cell?_of_block hk6).trans h9.2.1, (World.cell?_of_block hk6).trans h9.2.2.1, (World.cell?_of_block hk6).trans h9.2.2.2⟩
      clear hHeld hc7' hfz'
      refine hK.out _ _ hHeld5 (fun hHeld => ?_)
      clear hK K hHeld5
      refine wpAnyH_done (by kernel_rfl) ?_ _
      have HFIN := Lib.hid (HP3.out.pushI l q HLQ.out ⟨a, b, c, d⟩ HGP.out H7.out)
      rw [HMM.out] at HFIN
      clear HC7 HFZ
      go_wp2_with fail
      go_ret
      refine ⟨fun a' b' c' d' l' q' h hl' => ?_, fun hno => ?_⟩
      · rw [HZ.out] at h
        cases h
        rw [HLQ.out] at hl'
        obtain ⟨e1, e2⟩ := List.append_inj' hl' rfl
        cases e1
        cases e2
        exact ⟨rfl, (KS.of_below HB3.out).trans HFIN.out.2, fun _ => ⟨{ g with ps := l ++ [⟨q.params, q.regs, some ⟨G, 0, none⟩, c7, q.code ++ [⟨a, b, c, d⟩]⟩] }, ⟨by simp [Pr.core], rfl, rfl⟩, HFIN.out.1⟩⟩
      · rcases hno with h | h
        · exact absurd HZ.out (h a b c d)
        · rw [HLQ.out] at h
          simp at h
end Go.Proofs.YtccofgdcpmplmaaGreatDoor
