/- The document's lists of scripts: with a script, in order. -/
import Derived.Test.YtpomaabkgbaikaaDoorRe
namespace Go.Proofs.YtpomaabkgbaikaaDoor
open Go Go.RowKit
theorem sz49 (w : World) : (sizeOf 49).run Tryd.prog w = .ok 2 w := by kernel_rfl
def subZ (A : Option Addr) (k c z : Nat) : Option Addr := if c = k then A else A.map (·.add (k * z))
section
variable {P : Program} {w : World} {ops : Array Oper} {rest : List Oper} {o : Oper} {a : Act} {Q : Exit → Act → World → Prop}
theorem wpList_slice_hiZ (hg : o.guard = none) (x y : Operand) (t e : TypeId) (ho : o.op = .slice t x none (some y) none) (ht : P.underlying t = some (.slice e)) (z : Nat) (hs : (sizeOf e).run P w = .ok z w)
    (A : Option Addr) (n c : Nat) (hx : a.eval x = .slice A n c) (k : IntKind) (H : Nat) (hy : a.eval y = .int k (H : Int)) (hH : H ≤ c) (hK : wpList P ops Q rest (a.put o.dst (.slice A H c)) w) : wpList P ops Q (o :: rest) a w := by
  refine wpList_plain hg fun K hK' => ?_
  have he : P.elem t = e := by simp [Program.elem, ht]
  have hrun := run_slice_h (P := P) w t A n c (by rw [he]; exact ht) k (H : Int) (by omega) (by omega)
  rw [he, hs] at hrun
  have hz : (if c = 0 then A else Option.map (fun x => x.add 0) A) = A := by
    split
    · rfl
    · cases A <;> simp [add_zero]
  unfold Oper.wp
  simp only [execOp, ho, Sem.run_bind, Sem.run_pure, Result.andThen_ok, hx, Option.map_none, Option.map_some, hy]
  rw [run_sliceAt_slice (h := by rw [he]; exact ht)]
  rw [hrun]
  simp only [Result.andThen_ok, sliced, Nat.zero_mul, hz, Nat.sub_zero, Int.toNat_natCast, Oper.upon_value]
  exact hK' _ _ hK
theorem wpList_slice_loZ (hg : o.guard = none) (x y : Operand) (t e : TypeId) (ho : o.op = .slice t x (some y) none none) (ht : P.underlying t = some (.slice e)) (z : Nat) (hs : (sizeOf e).run P w = .ok z w)
    (A : Option Addr) (n c : Nat) (hx : a.eval x = .slice A n c) (k : IntKind) (L : Nat) (hy : a.eval y = .int k (L : Int)) (hL : L ≤ n) (hK : wpList P ops Q rest (a.put o.dst (.slice (subZ A L c z) (n - L) (c - L))) w) : wpList P ops Q (o :: rest) a w := by
  refine wpList_plain hg fun K hK' => ?_
  have he : P.elem t = e := by simp [Program.elem, ht]
  have hrun := run_slice_l (P := P) w t A n c (by rw [he]; exact ht) k (L : Int) (by omega) (by omega)
  rw [he, hs] at hrun
  unfold Oper.wp
  simp only [execOp, ho, Sem.run_bind, Sem.run_pure, Result.andThen_ok, hx, Option.map_none, Option.map_some, hy]
  rw [run_sliceAt_slice (h := by rw [he]; exact ht)]
  rw [hrun]
  simp only [Result.andThen_ok, sliced, Int.toNat_natCast, Oper.upon_value]
  exact hK' _ _ hK
end
theorem RdE.take {w : World} {A : Option Addr} {l : List En} (h : RdE w A l) (k : Nat) : RdE w A (l.take k) := fun h0 => by
  rw [List.length_take] at h0
  obtain ⟨b, off, rfl, hlt, hc⟩ := h (by omega)
  refine ⟨b, off, rfl, hlt, fun i hi => ?_⟩
  rw [List.length_take] at hi
  rw [List.getElem_take]
  exact hc i (by omega)
theorem RdE.drop {w : World} {A : Option Addr} {l : List En} (h : RdE w A l) (k c : Nat) (hc : l.length ≤ c) : RdE w (subZ A k c 2) (l.drop k) := fun h0 => by
  rw [List.length_drop] at h0
  obtain ⟨b, off, rfl, hlt, hcell⟩ := h (by omega)
  refine ⟨b, off + k * 2, ?_, hlt, fun i hi => ?_⟩
  · unfold subZ
    rw [if_neg (by omega)]
    simp [addoff]
  · rw [List.length_drop] at hi
    rw [List.getElem_drop]
    have := hcell (k + i) (by omega)
    rw [show off + k * 2 + i * 2 = off + (k + i) * 2 by omega]
    exact this
theorem RdE.news {w : World} {ad : Addr} {l : List En} (h : RdE w (some ad) l) : ∀ j u, (cellsE l)[j]? = some u → w.cell? (ad.add j) = some u := fun j u hu => by
  have hlt := (List.getElem?_eq_some_iff.1 hu).1
  rw [cellsE_len] at hlt
  obtain ⟨b, off, hA, _, hc⟩ := h (by omega)
  cases hA
  rw [addoff]
  have hi : j / 2 < l.length := by omega
  obtain ⟨c1, c2⟩ := cellsE_at l (j / 2) hi
  have hcc := hc (j / 2) hi
  rcases Nat.mod_two_eq_zero_or_one j with h2 | h2
  · have e : j / 2 * 2 = j := by omega
    rw [e] at c1 hcc
    rw [c1] at hu
    cases hu
    exact hcc.1
  · have e : j / 2 * 2 + 1 = j := by omega
    have e2 : off + j / 2 * 2 + 1 = off + j := by omega
    rw [e] at c2
    rw [e2] at hcc
    rw [c2] at hu
    cases hu
    exact hcc.2
section
variable {w wb : World} {ops : Array Oper} {rest : List Oper} {o : Oper} {a : Act} {Q : Exit → Act → World → Prop}
/-- Scripts that are appended to a row of one's own. -/
theorem wpList_append_srcE (hg : o.guard = none) (s x : Operand) (ho : o.op = .call { callee := .builtin .append, args := #[s, x], argTypes := #[28, 28] })
    (base : Nat) (v : Value) (l : List En) (hs : a.eval s = v) (hown : OE wb w v l) (A : Option Addr) (n c : Nat) (m : List En) (hm : m.length = n) (hx : a.eval x = .slice A n c)
    (hr : RdE w A m) (hn : A = none → c = 0) (hc : n ≤ c) (b1 : l.length + n ≤ 1000000000) (hbase : wb.heap.size = base)
    (hK : ∀ v' w', OE wb w' v' (l ++ m) → wpList Tryd.prog ops Q rest (a.put o.dst v') w') : wpList Tryd.prog ops Q (o :: rest) a w := by
  subst hbase
  subst hm
  obtain ⟨i0, hi, hz0, hz1, hz2⟩ := info_parts e49_info
  cases A with
  | none =>
    have hc0 := hn rfl
    have hnil : m = [] := List.eq_nil_of_length_eq_zero (by omega)
    subst hnil
    subst hc0
    refine wpList_append_own_none hg s x 28 ho wb.heap.size 49 i0 2 Tryd.underlying28 hi v l.length (cellsE l) hs hown.own hx ?_
    exact hK v w (by rw [List.append_nil]; exact hown)
  | some ad =>
    refine wpList_append_own w hg s x 28 ho wb.heap.size 49 i0 _ 2 32 Tryd.underlying28 hi hz0 hz1 hz2 rfl (by omega) v l.length (cellsE l) hs hown.own ad m.length c (cellsE m) hx (by rw [cellsE_len]) hr.news (cellsE_one m) (by simp only [maxLen]; omega) (by omega) hown.bel.size (fun v' w' h1 h2 _ => hK v' w' (OE.next hown h1 (by rw [List.length_append]) (by rw [cellsE_app]) h2))
end
theorem OE.lift {w w0 W : World} {v : Value} {l : List En} (h : OE w0 W v l) (hb : Below w.heap.size w w0) : OE w W v l := by
  refine ⟨⟨h.own.1, ?_⟩, hb.trans (h.bel.mono hb.size)⟩
  rcases h.own.2 with h2 | ⟨g, cap, cur, hv, hg, r⟩
  · exact .inl h2
  · exact .inr ⟨g, cap, cur, hv, Nat.le_trans hb.size hg, r⟩
theorem subZ_none {A : Option Addr} {k c z : Nat} (h : A = none → c = 0) : subZ A k c z = none → c - k = 0 := by
  unfold subZ
  split
  · intro h1; have := h h1; omega
  · intro h1
    cases A with
    | none => have := h rfl; omega
    | some a => cases h1
theorem rdE_new (W : World) (a b : ByteArray) : RdE (W.alloc (.cells #[.string a, .string b] 49)) (some ⟨W.heap.size, 0, none⟩) [⟨a, b⟩] := fun _ => ⟨W.heap.size, 0, rfl, by simp, fun i hi => by
  obtain rfl : i = 0 := by simp at hi; exact hi
  have h := heap_alloc_new W (.cells #[.string a, .string b] 49)
  refine ⟨?_, ?_⟩ <;> (simp only [World.cell?, h]; rfl)⟩
/-- A list of one's own whose length has a name. -/
def OEn (w W : World) (v : Value) (l : List En) (n : Nat) : Prop := ∃ A c, v = .slice A n c ∧ OE w W v l
theorem OE.named {w W : World} {v : Value} {l : List En} (h : OE w W v l) {n : Nat} (hn : l.length = n) : OEn w W v l n := by
  obtain ⟨A, c, hv, -, -, -, -, -⟩ := own_rdE h.own
  subst hn
  exact ⟨A, c, hv, h⟩
theorem OEn.get {w W : World} {v : Value} {l : List En} {n : Nat} (h : OEn w W v l n) : OE w W v l := h.elim fun _ h => h.elim fun _ h => h.2
theorem tw_at {l : List En} {k : Nat} {key : ByteArray} (ha : ∀ e ∈ l.take k, ltB e.key key = true) (hx : l.length ≤ k ∨ ∃ h : k < l.length, ltB l[k].key key = false) : l.takeWhile (fun g => ltB g.key key) = l.take k ∧ l.dropWhile (fun g => ltB g.key key) = l.drop k := by
  have h1 : l.takeWhile (fun g => ltB g.key key) ++ l.dropWhile (fun g => ltB g.key key) = l := List.takeWhile_append_dropWhile
  have h2 : l.takeWhile (fun g => ltB g.key key) = l.take k := by
    have e : l = l.take k ++ l.drop k := (List.take_append_drop k l).symm
    conv => lhs; rw [e]
    rw [List.takeWhile_append_of_pos ha]
    rcases hx with hx | ⟨hk, hx⟩
    · rw [List.drop_of_length_le hx]; simp
    · rw [List.drop_eq_getElem_cons hk, List.takeWhile_cons_of_neg (by simp [hx]), List.append_nil]
  refine ⟨h2, ?_⟩
  rw [h2] at h1
  have e := (List.take_append_drop k l)
  exact List.append_cancel_left (h1.trans e.symm)
set_option maxRecDepth 100000 in
set_option maxHeartbeats 8000000 in
theorem with_any (A : Option Addr) (c : Nat) (l : List En) (key s : ByteArray) (w : World) (hr : RdE w A l) (hl : l.length ≤ 1000000) : Calls Tryd.prog 41 #[.slice A l.length c, .agg #[.string key, .string s]] w fun e w' => ∃ v, e = .returned v ∧ OE w w' v (wth En.key l ⟨key, s⟩) := by
  have hb0 := below_new w (.cells #[.string key, .string s] 49)
  have hx : ∀ W, Below (w.alloc (.cells #[.string key, .string s] 49)).heap.size (w.alloc (.cells #[.string key, .string s] 49)) W → W.cell? ⟨w.heap.size, 0, none⟩ = some (.string key) ∧ W.cell? ⟨w.heap.size, 1, none⟩ = some (.string s) ∧ w.heap.size < W.heap.size := fun W hb => by
    have h := (hb.block w.heap.size (by simp)).trans (heap_alloc_new w (.cells #[.string key, .string s] 49))
    refine ⟨?_, ?_, (Array.getElem?_eq_some_iff.1 h).1⟩ <;> (simp only [World.cell?, h]; rfl)
  have HX := Lib.hid hx
  have HB := Lib.hid hb0
  have HD := Lib.hid (drop_any A c l key (w.alloc (.cells #[.string key, .string s] 49)) (hr.below hb0) (by omega))
  obtain ⟨rest, hrest⟩ : ∃ r, drp En.key l key = r := ⟨_, rfl⟩
  have hrl : rest.length ≤ 1000000 := by rw [← hrest]; exact Nat.le_trans (List.length_filter_le _ _) hl
  rw [hrest] at HD
  have HDR : Hid (drp En.key l (⟨key, s⟩ : En).key = rest) := Lib.hid hrest
  obtain ⟨x0, x1, -⟩ := hx _ (Below.refl _ _)
  have HLT0 : Hid (w.heap.size < (w.alloc (.cells #[.string key, .string s] 49)).heap.size) := Lib.hid (by simp)
  clear hr hb0 hx hrest
  go_enter Tryd.func41, Tryd.ntmps41
  go_upto_region 1 with (fail)
  generalize w.alloc (.cells #[.string key, .string s] 49) = w0 at *
  go_wp2_with fail
  refine HD.out.mono ?_
  rintro e w1 ⟨v, rfl, hoe⟩
  obtain ⟨B, cb, rfl, -, hbc, hbn, hbm, hre⟩ := own_rdE hoe.own
  have HBW1 := Lib.hid hoe.bel
  have HRE1 := Lib.hid hre
  clear hoe hre HD x0 x1
  go_wp2_with fail
  go_loopw [6] (fun i wr => ∃ k : Nat, k ≤ rest.length ∧ i = .int .i64 k ∧ Hid (∀ e ∈ rest.take k, ltB e.key key = true) ∧ Hid (RdE wr B rest) ∧ Hid (Below w0.heap.size w0 wr)) (fun i _ => rest.length - (intOf i).toNat)
  case atStart => exact ⟨0, Nat.zero_le _, rfl, Lib.hid (fun e he => by simp at he), HRE1, HBW1⟩
  case round =>
    clear HRE1 HBW1
    obtain ⟨k, hk, rfl, HPW, HRE, HBW0⟩ := hrel
    have HXW := Lib.hid (HX.out wr HBW0.out)
    obtain ⟨y0, y1, y2⟩ := HXW.out
    have HBW := HBW0
    by_cases hlt : k < rest.length
    · obtain ⟨b, off, hA, hbb, z0, z1⟩ := HRE.out.at hlt
      have hk0 : (0 : Int) ≤ (k : Int) := by omega
      have hkl : (k : Int) < (rest.length : Int) := by omega
      have hdl : decide (k < rest.length) = true := decide_eq_true hlt
      have HLE := Lib.hid (less_eq rest[k].key key)
      cases hq : ltB rest[k].key key with
      | true =>
        have HA2 : Hid (∀ e ∈ rest.take (k + 1), ltB e.key key = true) := Lib.hid (fun e he => by
          rw [List.take_succ_eq_append_getElem hlt] at he
          rcases List.mem_append.1 he with h1 | h1
          · exact HPW.out e h1
          · rw [List.mem_singleton.1 h1]; exact hq)
        have hle := HLE.out
        rw [hq] at hle
        subst hA
        generalize rest[k] = p at *
        clear hq hbb
        go_wp2_with fail
        go_quiet (fail)
        generalize nq = q1
        have HRE2 : Hid (RdE (wr.drewN q1) (some ⟨b, off, none⟩) rest) := Lib.hid (HRE.out.below (below_any q1 (Below.refl _ _)))
        have HB2 : Hid (Below w0.heap.size w0 (wr.drewN q1)) := Lib.hid (below_any q1 HBW0.out)
        go_wp2_with fail
        go_roundw
        case rel => exact ⟨k + 1, by omega, by go_num, HA2, HRE2, HB2⟩
        case measure => simp [intOf]; omega
      | false =>
        have HEX : Hid (rest.length ≤ k ∨ ∃ h : k < rest.length, ltB rest[k].key key = false) := Lib.hid (.inr ⟨hlt, hq⟩)
        have hle := HLE.out
        rw [hq] at hle
        subst hA
        generalize rest[k] = p at *
        clear hq hbb
        go_wp2_with fail
        go_quiet (fail)
        generalize nq = q1
        have HRE2 : Hid (RdE (wr.drewN q1) (some ⟨b, off, none⟩) rest) := Lib.hid (HRE.out.below (below_any q1 (Below.refl _ _)))
        have HBW2 : Hid (Below w0.heap.size w0 (wr.drewN q1)) := Lib.hid (below_any q1 HBW.out)
        have HXW2 := Lib.hid (HX.out (wr.drewN q1) (below_any q1 HBW0.out))
        clear HRE HBW HXW HBW0 y0 y1 y2 z0 z1 HLE hle
        have HRE := HRE2
        have HBW := HBW2
        have HXW := HXW2
        clear HRE2 HBW2 HXW2
        generalize wr.drewN q1 = WQ at *
        have HTW := Lib.hid (tw_at HPW.out HEX.out)
        clear HPW HEX
        obtain ⟨pre, hpre⟩ : ∃ p, rest.take k = p := ⟨_, rfl⟩
        obtain ⟨suf, hsuf⟩ : ∃ p, rest.drop k = p := ⟨_, rfl⟩
        have hpl : pre.length = k := by rw [← hpre, List.length_take]; omega
        have hsl : suf.length = rest.length - k := by rw [← hsuf, List.length_drop]
        have HRP := Lib.hid (show RdE WQ (some ⟨b, off, none⟩) pre by rw [← hpre]; exact HRE.out.take k)
        have HRS := Lib.hid (show RdE WQ (subZ (some ⟨b, off, none⟩) k cb 2) suf by rw [← hsuf]; exact HRE.out.drop k cb hbc)
        have HWT : Hid (wth En.key l ⟨key, s⟩ = pre ++ (⟨key, s⟩ :: suf)) := Lib.hid (by
          have h1 := HTW.out
          have h2 := HDR.out
          unfold wth
          rw [h2, h1.1, h1.2, hpre, hsuf])
        have HPL := Lib.hid hpl
        have HSL := Lib.hid hsl
        have HNB : Hid ((some ⟨b, off, none⟩ : Option Addr) = none → cb = 0) := Lib.hid hbn
        have HNS : Hid (subZ (some ⟨b, off, none⟩) k cb 2 = none → cb - k = 0) := Lib.hid (subZ_none hbn)
        have HO0 : Hid (OE WQ (WQ.alloc (.cells #[] 49)) (.slice (some ⟨WQ.heap.size, 0, none⟩) 0 0) []) := Lib.hid ⟨⟨by simp [cellsE], .inr ⟨WQ.heap.size, 0, #[], rfl, Nat.le_refl _, heap_alloc_new WQ _, Nat.le_refl _, by simp [maxLen], by simp, by simp [cellsE]⟩⟩, below_new WQ _⟩
        have HWB := Lib.hid (HB.out.trans (HBW.out.mono HB.out.size))
        clear hpre hsuf hpl hsl hbn HRE HTW HDR HBW 
        have hkr2 : k ≤ rest.length := hk
        go_wp2_with (first
          | (refine wpList_slice_hiZ rfl (.tmp 29) (.tmp 30) 28 49 rfl Tryd.underlying28 2 (sz49 _) (some ⟨b, off, none⟩) rest.length cb rfl .i64 k rfl (by omega) ?_)
          | (refine wpList_slice_loZ rfl (.tmp 38) (.tmp 39) 28 49 rfl Tryd.underlying28 2 (sz49 _) (some ⟨b, off, none⟩) rest.length cb rfl .i64 k rfl (by omega) ?_)
          | (at_builtin; refine wpList_append_srcE rfl (.tmp 28) (.tmp 31) rfl WQ.heap.size (.slice (some ⟨WQ.heap.size, 0, none⟩) 0 0) [] rfl HO0.out (some ⟨b, off, none⟩) k cb pre HPL.out rfl (HRP.out.below HO0.out.bel) HNB.out (by omega) (by simp; have := HPL.out; omega) rfl ?_; intro v3 w3 ho3; rw [List.nil_append] at ho3; have HO3 := Lib.hid ho3; have hq3 := (ho3.bel.cell (p := ⟨w.heap.size, 0, none⟩) HXW.out.2.2).trans HXW.out.1; have hq4 := (ho3.bel.cell (p := ⟨w.heap.size, 1, none⟩) HXW.out.2.2).trans HXW.out.2.1; obtain ⟨A3, c3, hv3, -, -, -, -, -⟩ := own_rdE ho3.own; subst hv3; clear ho3)
          | (at_builtin; refine wpList_append_srcE rfl (.tmp 33) (.tmp 35) rfl WQ.heap.size (.slice A3 pre.length c3) pre rfl (HO3.out.below (below_new _ _)) (some ⟨w3.heap.size, 0, none⟩) 1 1 [⟨key, s⟩] rfl rfl (rdE_new w3 key s) (by intro e; cases e) (by omega) (by have := HPL.out; omega) rfl ?_; intro v4 w4 ho4; have HO4 := Lib.hid (OE.named ho4 (n := k + 1) (by rw [List.length_append, HPL.out]; rfl)); obtain ⟨A4, c4, hv4, ho4'⟩ := HO4.out; subst hv4; clear ho4 ho4')
          | (at_builtin; refine wpList_append_srcE rfl (.tmp 37) (.tmp 40) rfl WQ.heap.size (.slice A4 (k + 1) c4) (pre ++ [⟨key, s⟩]) rfl HO4.out.get (subZ (some ⟨b, off, none⟩) k cb 2) (rest.length - k) (cb - k) suf HSL.out rfl (HRS.out.below HO4.out.get.bel) HNS.out (by omega) (by rw [List.length_append, HPL.out, List.length_singleton]; omega) rfl ?_; intro v5 w5 ho5; have HO5 := Lib.hid ho5; clear ho5))
        go_ret
        refine ⟨_, rfl, ?_⟩
        rw [HWT.out]
        have h := HO5.out.lift HWB.out
        rwa [List.append_assoc] at h

    · have hdl : decide (k < rest.length) = false := decide_eq_false hlt
      have HEX : Hid (rest.length ≤ k ∨ ∃ h : k < rest.length, ltB rest[k].key key = false) := Lib.hid (.inl (by omega))
      go_wp2_with fail
      go_quiet (fail)
      generalize nq = q1
      have HRE2 : Hid (RdE (wr.drewN q1) B rest) := Lib.hid (HRE.out.below (below_any q1 (Below.refl _ _)))
      have HBW2 : Hid (Below w0.heap.size w0 (wr.drewN q1)) := Lib.hid (below_any q1 HBW.out)
      have HXW2 := Lib.hid (HX.out (wr.drewN q1) (below_any q1 HBW0.out))
      clear HRE HBW HXW HBW0 y0 y1 y2
      have HRE := HRE2
      have HBW := HBW2
      have HXW := HXW2
      clear HRE2 HBW2 HXW2
      generalize wr.drewN q1 = WQ at *
      have HTW := Lib.hid (tw_at HPW.out HEX.out)
      clear HPW HEX
      obtain ⟨pre, hpre⟩ : ∃ p, rest.take k = p := ⟨_, rfl⟩
      obtain ⟨suf, hsuf⟩ : ∃ p, rest.drop k = p := ⟨_, rfl⟩
      have hpl : pre.length = k := by rw [← hpre, List.length_take]; omega
      have hsl : suf.length = rest.length - k := by rw [← hsuf, List.length_drop]
      have HRP := Lib.hid (show RdE WQ B pre by rw [← hpre]; exact HRE.out.take k)
      have HRS := Lib.hid (show RdE WQ (subZ B k cb 2) suf by rw [← hsuf]; exact HRE.out.drop k cb hbc)
      have HWT : Hid (wth En.key l ⟨key, s⟩ = pre ++ (⟨key, s⟩ :: suf)) := Lib.hid (by
        have h1 := HTW.out
        have h2 := HDR.out
        unfold wth
        rw [h2, h1.1, h1.2, hpre, hsuf])
      have HPL := Lib.hid hpl
      have HSL := Lib.hid hsl
      have HNB : Hid (B = none → cb = 0) := Lib.hid hbn
      have HNS : Hid (subZ B k cb 2 = none → cb - k = 0) := Lib.hid (subZ_none hbn)
      have HO0 : Hid (OE WQ (WQ.alloc (.cells #[] 49)) (.slice (some ⟨WQ.heap.size, 0, none⟩) 0 0) []) := Lib.hid ⟨⟨by simp [cellsE], .inr ⟨WQ.heap.size, 0, #[], rfl, Nat.le_refl _, heap_alloc_new WQ _, Nat.le_refl _, by simp [maxLen], by simp, by simp [cellsE]⟩⟩, below_new WQ _⟩
      have HWB := Lib.hid (HB.out.trans (HBW.out.mono HB.out.size))
      clear hpre hsuf hpl hsl hbn HRE HTW HDR HBW 
      have hkr2 : k ≤ rest.length := hk
      go_wp2_with (first
        | (refine wpList_slice_hiZ rfl (.tmp 29) (.tmp 30) 28 49 rfl Tryd.underlying28 2 (sz49 _) B rest.length cb rfl .i64 k rfl (by omega) ?_)
        | (refine wpList_slice_loZ rfl (.tmp 38) (.tmp 39) 28 49 rfl Tryd.underlying28 2 (sz49 _) B rest.length cb rfl .i64 k rfl (by omega) ?_)
        | (at_builtin; refine wpList_append_srcE rfl (.tmp 28) (.tmp 31) rfl WQ.heap.size (.slice (some ⟨WQ.heap.size, 0, none⟩) 0 0) [] rfl HO0.out B k cb pre HPL.out rfl (HRP.out.below HO0.out.bel) HNB.out (by omega) (by simp; have := HPL.out; omega) rfl ?_; intro v3 w3 ho3; rw [List.nil_append] at ho3; have HO3 := Lib.hid ho3; have hq3 := (ho3.bel.cell (p := ⟨w.heap.size, 0, none⟩) HXW.out.2.2).trans HXW.out.1; have hq4 := (ho3.bel.cell (p := ⟨w.heap.size, 1, none⟩) HXW.out.2.2).trans HXW.out.2.1; obtain ⟨A3, c3, hv3, -, -, -, -, -⟩ := own_rdE ho3.own; subst hv3; clear ho3)
        | (at_builtin; refine wpList_append_srcE rfl (.tmp 33) (.tmp 35) rfl WQ.heap.size (.slice A3 pre.length c3) pre rfl (HO3.out.below (below_new _ _)) (some ⟨w3.heap.size, 0, none⟩) 1 1 [⟨key, s⟩] rfl rfl (rdE_new w3 key s) (by intro e; cases e) (by omega) (by have := HPL.out; omega) rfl ?_; intro v4 w4 ho4; have HO4 := Lib.hid (OE.named ho4 (n := k + 1) (by rw [List.length_append, HPL.out]; rfl)); obtain ⟨A4, c4, hv4, ho4'⟩ := HO4.out; subst hv4; clear ho4 ho4')
        | (at_builtin; refine wpList_append_srcE rfl (.tmp 37) (.tmp 40) rfl WQ.heap.size (.slice A4 (k + 1) c4) (pre ++ [⟨key, s⟩]) rfl HO4.out.get (subZ B k cb 2) (rest.length - k) (cb - k) suf HSL.out rfl (HRS.out.below HO4.out.get.bel) HNS.out (by omega) (by rw [List.length_append, HPL.out, List.length_singleton]; omega) rfl ?_; intro v5 w5 ho5; have HO5 := Lib.hid ho5; clear ho5))
      go_ret
      refine ⟨_, rfl, ?_⟩
      rw [HWT.out]
      have h := HO5.out.lift HWB.out
      rwa [List.append_assoc] at h

end Go.Proofs.YtpomaabkgbaikaaDoor
