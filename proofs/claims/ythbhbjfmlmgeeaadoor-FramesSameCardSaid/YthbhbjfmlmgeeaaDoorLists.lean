/- The lists of the frames with which bytes begin: the iterator's contract. -/
import Derived.Test.YthbhbjfmlmgeeaaDoorRange
import Derived.Test.YthbhbjfmlmgeeaaDoorRead
import Derived.OwnWalkIn
namespace Go.Proofs.YthbhbjfmlmgeeaaDoor
open Go Go.RowKit
open Go.Shelf
attribute [local go_sem] Oper.semAt_some
theorem lists_any (A : Option Addr) (n c : Nat) (w : World) :
    Calls Tryd.prog 39 #[.slice A n c] w fun e w' => e = .returned (.func (.func 45) #[] #[.pointer (some ⟨w.heap.size, 0, none⟩)]) ∧ w' = w.alloc (.cells #[.slice A n c] 25) := by
  go_enter Tryd.func39, Tryd.ntmps39
  go_wp2
  go_ret
  exact ⟨rfl, rfl⟩
theorem wpListIn_slice_lo {F : Fence} {n : Nat} {P : Program} {w : World} {ops : Array Oper} {rest : List Oper} {o : Oper} {a : Act} {Q : Exit → Act → World → Prop} (hg : o.guard = none) (x y : Operand) (t e : TypeId) (ho : o.op = .slice t x (some y) none none) (ht : P.underlying t = some (.slice e)) (hs : (sizeOf e).run P w = .ok 1 w)
    (A : Option Addr) (k c : Nat) (hx : a.eval x = .slice A k c) (kd : IntKind) (L : Nat) (hy : a.eval y = .int kd (L : Int)) (hL : L ≤ k) (hK : wpListIn F n P ops Q rest (a.put o.dst (.slice (subA A L c) (k - L) (c - L))) w) : wpListIn F n P ops Q (o :: rest) a w := by
  refine wpListIn_plain hg fun K hK' => ?_
  have he : P.elem t = e := by simp [Program.elem, ht]
  have hrun := run_slice_l (P := P) w t A k c (by rw [he]; exact ht) kd (L : Int) (by omega) (by omega)
  rw [he, hs] at hrun
  unfold Oper.wpIn
  refine ⟨?_, ?_⟩
  · simp [Oper.about, ho]
  · rw [Oper.semAt_plain F _ _ (by rw [ho]; intro c hc'; cases hc')]
    simp only [execOp, ho, Sem.run_bind, Sem.run_pure, Result.andThen_ok, hx, Option.map_none, Option.map_some, hy]
    rw [run_sliceAt_slice (h := by rw [he]; exact ht)]
    rw [hrun]
    simp only [Result.andThen_ok, sliced, Nat.mul_one, Int.toNat_natCast, Oper.uponIn_value]
    exact hK' _ _ hK
/-- A list that was read: where it ends, the slice, its texts. -/
structure Item where
  at_ : Nat
  v : Value
  ls : List ByteArray
def lastAt (xs : List Item) : Nat := match xs.getLast? with | none => 0 | some x => x.at_
theorem lastAt_nil : lastAt [] = 0 := rfl
theorem lastAt_snoc (xs : List Item) (x : Item) : lastAt (xs ++ [x]) = x.at_ := by simp [lastAt]
/-- The lists are those that the bytes begin with. -/
def Scanned (l : List UInt8) (xs : List Item) : Prop := (xs.map fun x => bl x.ls) = (scanL l).1 ∧ lastAt xs = (scanL l).2
/-- Where blocks below B but for these two are as they were. -/
def Same2 (B C D : Nat) (w W : World) : Prop := (∀ k, k < B → k ≠ C → k ≠ D → W.heap[k]? = w.heap[k]?) ∧ w.heap.size ≤ W.heap.size
theorem Same2.refl (B C D : Nat) (w : World) : Same2 B C D w w := ⟨fun _ _ _ _ => rfl, Nat.le_refl _⟩
theorem Same2.trans {B C D : Nat} {w W V : World} (h : Same2 B C D w W) (k : Same2 B C D W V) : Same2 B C D w V := ⟨fun i a b c => (k.1 i a b c).trans (h.1 i a b c), Nat.le_trans h.2 k.2⟩
theorem Same2.grown {B C D : Nat} {w W V : World} (h : Same2 B C D w W) (hB : B ≤ w.heap.size) (k : Below W.heap.size W V) : Same2 B C D w V := ⟨fun i a b c => (k.block i (by have := h.2; omega)).trans (h.1 i a b c), Nat.le_trans h.2 k.size⟩
theorem rd_of_block {w W : World} {A : Option Addr} {l : List UInt8} (h : Rd w A l) (hs : w.heap.size ≤ W.heap.size) (hk : ∀ ad, A = some ad → 0 < l.length → W.heap[ad.block]? = w.heap[ad.block]?) : Rd W A l := fun h0 => by
  obtain ⟨b, off, rfl, hlt, hc⟩ := h h0
  have := hk _ rfl h0
  exact ⟨b, off, rfl, Nat.lt_of_lt_of_le hlt hs, fun j hj => (World.cell?_of_block (w := w) (a := ⟨b, off + j, none⟩) this).trans (hc j hj)⟩
theorem scan_go {l : List UInt8} {a : Nat} {ps : List (List (List UInt8))} (hs : scanL l = (ps ++ (scanL (l.drop a)).1, a + (scanL (l.drop a)).2)) (h : (readL (l.drop a)).2.2 = 0) :
    scanL l = ((ps ++ [(readL (l.drop a)).1]) ++ (scanL (l.drop (a + (readL (l.drop a)).2.1))).1, a + (readL (l.drop a)).2.1 + (scanL (l.drop (a + (readL (l.drop a)).2.1))).2) := by
  have h1 := scanL_step h
  rw [hs, h1]
  simp only [List.drop_drop, List.append_assoc, List.singleton_append, Nat.add_assoc]
theorem scan_stop {l : List UInt8} {a : Nat} {ps : List (List (List UInt8))} (hs : scanL l = (ps ++ (scanL (l.drop a)).1, a + (scanL (l.drop a)).2)) (h : (readL (l.drop a)).2.2 ≠ 0) : scanL l = (ps, a) := by
  rw [hs, scanL_end h]
  simp
def itemOk (B : Nat) (x : Item) (W : World) : Prop := W.ownsRow B 9 1 x.v x.ls.length (cellsS x.ls)
set_option maxHeartbeats 4000000 in
theorem lists_seq (n B C D E : Nat) (A : Option Addr) (c : Nat) (l : List UInt8) (w : World) (hn : 1 ≤ n) (hB : B = w.heap.size) (hC : C < B) (hD : D < B) (hE : E < B) (hEC : E ≠ C) (hED : E ≠ D) (h0C : 0 < C) (h0D : 0 < D)
    (hbox : w.heap[E]? = some (.cells #[.slice A l.length c] 25 (0, 0))) (hlc : l.length ≤ c) (hm : l.length ≤ 2000000000) (hA : A = none → c = 0) (hr : Rd w A l) (hAC : ∀ ad, A = some ad → 0 < l.length → ad.block < B ∧ ad.block ≠ C ∧ ad.block ≠ D) (hg : Tabs w) :
    SeqC n Tryd.prog 45 #[.pointer (some ⟨E, 0, none⟩)] (fun x : Item => #[.int .i64 x.at_, x.v]) (Same2 B C D) (fun x W => itemOk B x W) (Scanned l) (l.length + 1) w := by
  intro f J W hb hJ hY h0
  have hW0 : Same2 B C D w W := ⟨fun k hk _ _ => hb.block k (by omega), hb.size⟩
  have HW0 := Lib.hid hW0
  have HJ0 := Lib.hid h0
  have HBX := Lib.hid hbox
  have HR := Lib.hid hr
  have HG := Lib.hid hg
  have HJ := Lib.hid hJ
  have HY := Lib.hid hY
  have HAC := Lib.hid hAC
  clear hW0 h0 hbox hr hg hJ hY hAC hb
  refine callsIn_of_wp Tryd.func45 rfl trivial ?_
  simp only [Tryd.ntmps45, List.size_toArray, List.length_cons, List.length_nil, Nat.reduceAdd, Nat.reduceSub, Array.replicate_succ, Array.replicate_zero, List.push_toArray, List.append_toArray, List.nil_append, List.cons_append]
  gi_wp2
  gi_loopw [3] (fun z wr => ∃ (xs : List Item) (a : Nat), z = .int .i64 a ∧ a ≤ l.length ∧ Hid (scanL l = ((xs.map fun x => bl x.ls) ++ (scanL (l.drop a)).1, a + (scanL (l.drop a)).2)) ∧ Hid (lastAt xs = a) ∧ xs.length ≤ a ∧ Hid (J xs wr) ∧ Hid (Same2 B C D w wr)) (fun z _ => l.length + 1 - (intOf z).toNat)
  case atStart => exact ⟨[], 0, rfl, Nat.zero_le _, by simp [Hid], rfl, Nat.le_refl _, HJ0, HW0⟩
  case round =>
    clear HJ0 HW0
    obtain ⟨xs, a, rfl, ha, HS, HLA, hxa, HJS, HW⟩ := hrel
    have hbw : wr.heap[E]? = some (.cells #[.slice A l.length c] 25 (0, 0)) := (HW.out.1 E hE hEC hED).trans HBX.out
    have hcell := cell_of_one hbw
    have hrd : Rd wr A l := rd_of_block HR.out HW.out.2 (fun ad h h0 => HW.out.1 _ (HAC.out ad h h0).1 (HAC.out ad h h0).2.1 (HAC.out ad h h0).2.2)
    have htab : Tabs wr := fun k hk => (World.cell?_of_block (w := w) (a := ⟨0, k, none⟩) (HW.out.1 0 (by omega) (by omega) (by omega))).trans (HG.out k hk)
    have hrd' := hrd.drop a c hlc
    have HRD := Lib.hid (fread_any (subA A a c) (l.length - a) (c - a) (l.drop a) wr (by rw [List.length_drop]) (by omega) (by omega) (subA_none hA) hrd' htab (by have := HW.out.2; omega))
    clear hbw hrd htab hrd'
    obtain ⟨q, hq⟩ : ∃ q, q = (readL (l.drop a)).2.1 := ⟨_, rfl⟩
    obtain ⟨ee, hee⟩ : ∃ ee, ee = (readL (l.drop a)).2.2 := ⟨_, rfl⟩
    have HQ := Lib.hid hq
    have HEE := Lib.hid hee
    clear hq hee
    by_cases hz : ee = 0
    · have hz' : (readL (l.drop a)).2.2 = 0 := by rw [← HEE.out]; exact hz
      obtain ⟨_, _, hq1, hq2⟩ := readL_ok' hz'
      rw [← HQ.out] at hq1 hq2
      have hq3 : a + q ≤ l.length := by rw [List.length_drop] at hq1; omega
      have HSG := scan_go HS.out hz'
      rw [← HQ.out] at HSG
      have HSG' := Lib.hid HSG
      clear HSG hq1
      gi_wp2_with (refine wpListIn_slice_lo rfl (.tmp 8) (.tmp 9) 25 5 rfl Tryd.underlying25 size5 A l.length c rfl .i64 a rfl ha ?_)
      refine ⟨trivial, (callsIn_wide.2 HRD.out).mono ?_⟩
      rintro e w2 ⟨v, ls, rfl, hls, hown, hbel⟩
      rw [← HQ.out, ← HEE.out]
      have hgr : wr.grownBy w2 none := ⟨hbel.os, hbel.tape, hbel.output, hbel.size, fun k hk _ => hbel.block k hk⟩
      have hJ2 := HJ.out xs wr w2 none HJS.out hgr (fun r h => by cases h)
      have hok : itemOk B ⟨a + q, v, ls⟩ w2 := own_down hown (by rw [hB]; exact HW.out.2)
      obtain ⟨fn, tmps, assign, body, hy, hR⟩ := HY.out xs ⟨a + q, v, ls⟩ w2 hok hJ2 (by omega)
      dsimp only at hy
      rw [Int.natCast_add] at hy
      have HW2 := Lib.hid (HW.out.grown (by omega) hbel)
      have HLS := Lib.hid hls
      subst hz
      clear HRD hgr hJ2 hok hown hbel hls
      gi_wp2
      refine hR.mono ?_
      rintro e W3 ⟨rfl, hJ3, hk3⟩
      have HJ3 := Lib.hid hJ3
      have HW3 := Lib.hid (HW2.out.trans hk3)
      clear hJ3 hk3 hy hR
      gi_wp2
      refine ⟨⟨xs ++ [⟨a + q, v, ls⟩], a + q, by go_num, hq3, ?_, Lib.hid (lastAt_snoc _ _), by rw [List.length_append]; simp; omega, HJ3, HW3⟩, by simp [intOf]; omega⟩
      show _ = _
      rw [List.map_append, List.map_cons, List.map_nil, ← HLS.out]
      exact HSG'.out
    · have hz' : (readL (l.drop a)).2.2 ≠ 0 := by rw [← HEE.out]; exact hz
      have hq0 := (readL_no hz').2
      rw [← HQ.out] at hq0
      have HSP := Lib.hid (scan_stop HS.out hz')
      have e1 : ((ee : Int) != 0) = true := by simp; omega
      have e2 : (ee != 0) = true := by simp; omega
      subst hq0
      clear hz hz'
      gi_wp2_with (refine wpListIn_slice_lo rfl (.tmp 8) (.tmp 9) 25 5 rfl Tryd.underlying25 size5 A l.length c rfl .i64 a rfl ha ?_)
      refine ⟨trivial, (callsIn_wide.2 HRD.out).mono ?_⟩
      rintro e w2 ⟨v, ls, rfl, hls, hown, hbel⟩
      rw [← HQ.out, ← HEE.out]
      have hgr : wr.grownBy w2 none := ⟨hbel.os, hbel.tape, hbel.output, hbel.size, fun k hk _ => hbel.block k hk⟩
      have HJ2 := Lib.hid (HJ.out xs wr w2 none HJS.out hgr (fun r h => by cases h))
      have HSC : Hid (Scanned l xs) := Lib.hid ⟨by rw [HSP.out], by rw [HSP.out]; exact HLA.out⟩
      have hwide : ∀ f, Fence.wide.fn f := fun _ => trivial
      clear HRD hgr hown hbel hls
      gi_wp2
      refine bodyPost_ret (results_none rfl _ _ _) rfl ?_
      exact ⟨⟨_, rfl⟩, xs, HSC.out, HJ2.out⟩
end Go.Proofs.YthbhbjfmlmgeeaaDoor
