/- The reference's lists: with a file. -/
import Derived.Test.YtcfglgejjmapdaaRefD
namespace Go.Proofs.Ytcfglgejjmapdaa
open Go Go.RowKit Go.Shelf
theorem sz27 (w : World) : (sizeOf 27).run Try.prog w = .ok 3 w := by kernel_rfl
section
variable {w : World} {ops : Array Oper} {rest : List Oper} {o : Oper} {a : Act} {Q : Exit → Act → World → Prop}
theorem wpList_hi3 (hg : o.guard = none) (x y : Operand) (ho : o.op = .slice 24 x none (some y) none)
    (A : Option Addr) (n c : Nat) (hx : a.eval x = .slice A n c) (k : IntKind) (H : Nat) (hy : a.eval y = .int k (H : Int)) (hH : H ≤ c) (hK : wpList Try.prog ops Q rest (a.put o.dst (.slice A H c)) w) : wpList Try.prog ops Q (o :: rest) a w := by
  refine wpList_plain hg fun K hK' => ?_
  have ht := Try.underlying24
  have he : Try.prog.elem 24 = 27 := by simp [Program.elem, ht]
  have hrun := run_slice_h (P := Try.prog) w 24 A n c (by rw [he]; exact ht) k (H : Int) (by omega) (by omega)
  rw [he, sz27] at hrun
  have hz : (if c = 0 then A else Option.map (fun x => x.add 0) A) = A := by
    split
    · rfl
    · cases A <;> simp [add_zero]
  unfold Oper.wp
  simp only [execOp, ho, Sem.run_bind, Sem.run_pure, Result.andThen_ok, hx, Option.map_none, Option.map_some, hy]
  rw [run_sliceAt_slice (h := by rw [he]; exact ht)]
  rw [hrun]
  simp only [Result.andThen_ok, sliced, Nat.zero_mul, hz, Nat.sub_zero, Int.toNat_natCast, Oper.upon_value]
  exact hK' _ _ hK
theorem wpList_lo3 (hg : o.guard = none) (x y : Operand) (ho : o.op = .slice 24 x (some y) none none)
    (A : Option Addr) (n c : Nat) (hx : a.eval x = .slice A n c) (k : IntKind) (L : Nat) (hy : a.eval y = .int k (L : Int)) (hL : L ≤ n) (hK : ∀ A3, A3 = (if c = L then A else A.map (·.add (L * 3))) → wpList Try.prog ops Q rest (a.put o.dst (.slice A3 (n - L) (c - L))) w) : wpList Try.prog ops Q (o :: rest) a w := by
  refine wpList_plain hg fun K hK' => ?_
  have ht := Try.underlying24
  have he : Try.prog.elem 24 = 27 := by simp [Program.elem, ht]
  have hrun := run_slice_l (P := Try.prog) w 24 A n c (by rw [he]; exact ht) k (L : Int) (by omega) (by omega)
  rw [he, sz27] at hrun
  unfold Oper.wp
  simp only [execOp, ho, Sem.run_bind, Sem.run_pure, Result.andThen_ok, hx, Option.map_none, Option.map_some, hy]
  rw [run_sliceAt_slice (h := by rw [he]; exact ht)]
  rw [hrun]
  simp only [Result.andThen_ok, sliced, Int.toNat_natCast, Oper.upon_value]
  exact hK' _ _ (hK _ rfl)
end
theorem RdF.take {w : World} {A : Option Addr} {l : List F} (h : RdF w A l) (k : Nat) : RdF w A (l.take k) := fun h0 => by
  rw [List.length_take] at h0
  obtain ⟨b, off, rfl, hlt, hc⟩ := h (by omega)
  exact ⟨b, off, rfl, hlt, fun i hi j hj => by rw [List.length_take] at hi; rw [hc i (by omega) j hj, List.getElem_take]⟩
theorem RdF.drop {w : World} {A : Option Addr} {l : List F} (h : RdF w A l) (k c : Nat) (hc0 : l.length ≤ c) : RdF w (if c = k then A else A.map (·.add (k * 3))) (l.drop k) := fun h0 => by
  rw [List.length_drop] at h0
  obtain ⟨b, off, rfl, hlt, hc⟩ := h (by omega)
  refine ⟨b, off + k * 3, ?_, hlt, fun i hi j hj => ?_⟩
  · rw [if_neg (by omega)]
    simp [addoff]
  · rw [List.length_drop] at hi
    have h1 := hc (k + i) (by omega) j hj
    rw [List.getElem_drop, ← h1]
    congr 2
    omega
theorem tw_cut {α : Type} {p : α → Bool} {l : List α} {k : Nat} (h : ∀ g ∈ l.take k, p g = true) (hk : ∀ (hlt : k < l.length), p l[k] = false) : l.takeWhile p = l.take k ∧ l.dropWhile p = l.drop k := by
  have e : l = l.take k ++ l.drop k := (List.take_append_drop k l).symm
  have d : (l.drop k).takeWhile p = [] ∧ (l.drop k).dropWhile p = l.drop k := by
    by_cases hlt : k < l.length
    · rw [List.drop_eq_getElem_cons hlt, List.takeWhile_cons, List.dropWhile_cons, hk hlt]
      exact ⟨rfl, rfl⟩
    · rw [List.drop_of_length_le (by omega)]
      simp
  have t := tw_all h
  constructor
  · conv => lhs; rw [e]
    rw [List.takeWhile_append, t.1]
    simp [d.1]
  · conv => lhs; rw [e]
    rw [List.dropWhile_append, t.2]
    simp [d.2]

theorem own_empty3 (w : World) (base : Nat) (hb : base ≤ w.heap.size) : (w.alloc (.cells #[] 27)).ownsRow base 27 3 (.slice (some ⟨w.heap.size, 0, none⟩) 0 0) 0 (cellsF []) :=
  ⟨rfl, .inr ⟨w.heap.size, 0, #[], rfl, hb, heap_alloc_new w _, Nat.le_refl _, by simp [maxLen], by simp, by simp [cellsF]⟩⟩
theorem none_low {A A3 : Option Addr} {c k : Nat} (h : A3 = (if c = k then A else A.map (·.add (k * 3)))) (hn : A = none → c = 0) (e : A3 = none) : c - k = 0 := by
  subst h
  split at e
  · omega
  · cases A with
    | none => have := hn rfl; omega
    | some a => cases e
theorem spot_low {A A3 : Option Addr} {c k : Nat} (h : A3 = (if c = k then A else A.map (·.add (k * 3)))) (hs : ∀ ad, A = some ad → ad.spot = none) (ad : Addr) (e : A3 = some ad) : ad.spot = none := by
  subst h
  split at e
  · exact hs ad e
  · cases A with
    | none => cases e
    | some a =>
      have h1 := hs a rfl
      obtain ⟨b, o, sp⟩ := a
      cases h1
      cases e
      simp [addoff]
def GoneTo (R : List F) (f : F) (k : Nat) : Prop := R.takeWhile (fun g => ltB g.name f.name) = R.take k ∧ R.dropWhile (fun g => ltB g.name f.name) = R.drop k

set_option maxRecDepth 100000 in
set_option maxHeartbeats 8000000 in
theorem with_any (A : Option Addr) (n c : Nat) (ls : List F) (f : F) (w : World) (hn : ls.length = n) (bn : n ≤ 100000) (ha : RdF w A ls) :
    Calls Try.prog 40 #[.slice A n c, .agg #[.string f.name, .string f.bytes, .int .i64 f.sync]] w (TellQ w (wth F.name ls f)) := by
  have hb0 := below_new w (.cells #[.string f.name, .string f.bytes, .int .i64 f.sync] 27)
  have HC := Lib.hid (drop_any A n c ls f.name (w.alloc (.cells #[.string f.name, .string f.bytes, .int .i64 f.sync] 27)) hn bn (ha.below hb0))
  have hbx := heap_alloc_new w (.cells #[.string f.name, .string f.bytes, .int .i64 f.sync] 27)
  have hdl := drp_len ls f.name
  rw [hn] at hdl
  clear ha hn
  go_enter Try.func40, Try.ntmps40
  go_wp2_with fail
  refine Calls.mono HC.out ?_
  rintro e w1 ⟨v, rfl, ho, hb1⟩
  obtain ⟨R, hR⟩ : ∃ R, drp F.name ls f.name = R := ⟨_, rfl⟩
  rw [hR] at ho hdl
  obtain ⟨m, hm⟩ : ∃ m, R.length = m := ⟨_, rfl⟩
  rw [hm] at ho hdl
  obtain ⟨A1, c1, rfl, hc1, hA1, hcm1, hr1, hs1⟩ := own_rdF ho hm
  have hx1 : w1.heap[w.heap.size]? = some (.cells #[.string f.name, .string f.bytes, .int .i64 f.sync] 27 (0, 0)) := (hb1.block _ (by simp)).trans hbx
  have x0 : w1.cell? ⟨w.heap.size, 0, none⟩ = some (.string f.name) := by simp only [World.cell?, hx1]; rfl
  have x1 : w1.cell? ⟨w.heap.size, 1, none⟩ = some (.string f.bytes) := by simp only [World.cell?, hx1]; rfl
  have x2 : w1.cell? ⟨w.heap.size, 2, none⟩ = some (.int .i64 f.sync) := by simp only [World.cell?, hx1]; rfl
  have HB := Lib.hid (hb0.trans (hb1.mono hb0.size))
  have HRR := Lib.hid hr1
  have HM := Lib.hid hm
  have HN1 := Lib.hid hA1
  have HSP := Lib.hid (fun ad (e : A1 = some ad) => (hs1 ad e).1)
  have HE := Lib.hid hR
  have HLT : Hid (w.heap.size < w1.heap.size) := Lib.hid (by have := hb1.size; simp at this; omega)
  have HBK1 := Lib.hid (fun ad (e : A1 = some ad) => (hs1 ad e).2.2)
  clear ho hb1 hb0 hbx hx1 hr1 hs1 hA1 hm hR HC
  go_wp2_with fail
  go_loopw [6] (fun i W => ∃ k q : Nat, W = w1.drewN q ∧ k ≤ m ∧ i = .int .i64 k ∧ Hid (∀ g ∈ R.take k, ltB g.name f.name = true)) (fun i _ => m - (intOf i).toNat)
  case atStart => exact ⟨0, 0, rfl, Nat.zero_le _, rfl, Lib.hid (by simp)⟩
  case round =>
    obtain ⟨k, q, rfl, hk, rfl, HT⟩ := hrel
    by_cases hlt : k < m
    · have hkn : k < R.length := by have := HM.out; omega
      obtain ⟨b, off, hA1, hbb, k0, k1, k2⟩ := HRR.out.at hkn
      subst hA1
      obtain ⟨x, hx, hxt⟩ := fil_at hkn
      have HXE : Hid (R[k]'hkn = x) := Lib.hid hx
      rw [hx] at k0
      have d0 : decide (k < m) = true := decide_eq_true hlt
      have hl := less_ltB x.name f.name
      cases hlb : ltB x.name f.name with
      | true =>
        rw [hlb] at hl
        have HT2 : Hid (∀ g ∈ R.take (k + 1), ltB g.name f.name = true) := Lib.hid (by rw [hxt]; intro g hg; rcases List.mem_append.1 hg with hg | hg; exact HT.out g hg; rw [List.mem_singleton.1 hg]; exact hlb)
        clear hx hxt HXE hlb k1 k2
        go_wp2_with fail
        go_quiet (fail)
        rename_i nq
        go_wp2_with fail
        go_round
        case rel => exact ⟨k + 1, q + nq, by first | rfl | rw [drew_two], by omega, by go_num, HT2⟩
        case measure => simp [intOf]; omega
      | false =>
        rw [hlb] at hl
        have HG : Hid (GoneTo R f k) := Lib.hid (tw_cut HT.out (fun _ => by rw [HXE.out]; exact hlb))
        have HTL : Hid ((R.take k).length = k) := Lib.hid (by rw [List.length_take]; omega)
        clear hx hxt HXE hlb k1 k2
        go_wp2_with fail
        go_quiet (fail)
        rename_i nq
        have hbq : Below w1.heap.size w1 ((w1.drewN q).drewN nq) := below_any nq (below_any q (Below.refl _ _))
        generalize ((w1.drewN q).drewN nq) = wq at hbq ⊢
        have HRq := Lib.hid ((HRR.out.below hbq).below (below_new wq (.cells #[] 27)))
        have HBq := Lib.hid (HB.out.trans (hbq.mono HB.out.size))
        have z0 : wq.cell? ⟨w.heap.size, 0, none⟩ = some (.string f.name) := (hbq.cell (p := ⟨w.heap.size, 0, none⟩) HLT.out).trans x0
        have z1 : wq.cell? ⟨w.heap.size, 1, none⟩ = some (.string f.bytes) := (hbq.cell (p := ⟨w.heap.size, 1, none⟩) HLT.out).trans x1
        have z2 : wq.cell? ⟨w.heap.size, 2, none⟩ = some (.int .i64 f.sync) := (hbq.cell (p := ⟨w.heap.size, 2, none⟩) HLT.out).trans x2
        have HLQ : Hid (w.heap.size < wq.heap.size) := Lib.hid (Nat.lt_of_lt_of_le HLT.out hbq.size)
        have HOq := Lib.hid (own_empty3 wq wq.heap.size (Nat.le_refl _))
        have HTF : Hid ((R.take k ++ [f]).length = k + 1) := Lib.hid (by rw [List.length_append, HTL.out]; rfl)
        have HLC : Hid (R.length ≤ c1) := Lib.hid (by rw [HM.out]; exact hc1)
        have HTD : Hid ((R.drop k).length = m - k) := Lib.hid (by rw [List.length_drop, HM.out])
        have HBK : Hid (∀ bb oo, (some ⟨b, off, none⟩) = some (⟨bb, oo, none⟩ : Addr) → bb < wq.heap.size) := Lib.hid (fun bb oo e => Nat.lt_of_lt_of_le (HBK1.out _ e) hbq.size)
        clear hbq x0 x1 x2
        go_wp2_with (first
          | (refine wpList_hi3 rfl (.tmp 29) (.tmp 30) rfl (some ⟨b, off, none⟩) m c1 rfl .i64 k rfl (by omega) ?_)
          | (at_builtin; refine wpList_files rfl (.tmp 28) (.tmp 31) rfl wq.heap.size _ [] 0 rfl rfl HOq.out (some ⟨b, off, none⟩) k c1 (R.take k) HTL.out rfl (HRq.out.take k) HN1.out (by omega) (by omega) (by simp) HSP.out ?_; intro v7 w7 ho7 hb7 hs7; rw [Nat.zero_add, List.nil_append] at ho7; have HO7 := Lib.hid ho7; have HR7 := Lib.hid (HRq.out.keep hs7 (fun b off e hlt2 => hb7.block b (HBK.out b off e))); have HB7 := Lib.hid (((below_new wq (.cells #[] 27)).trans hb7)); have y0 := (HB7.out.cell (p := ⟨w.heap.size, 0, none⟩) HLQ.out).trans z0; have y1 := (HB7.out.cell (p := ⟨w.heap.size, 1, none⟩) HLQ.out).trans z1; have y2 := (HB7.out.cell (p := ⟨w.heap.size, 2, none⟩) HLQ.out).trans z2; clear ho7 hb7 hs7 z0 z1 z2)
          | (at_builtin; refine wpList_files rfl (.tmp 33) (.tmp 35) rfl wq.heap.size _ (R.take k) k HTL.out rfl (own_belows HO7.out (below_new w7 (.cells #[.string f.name, .string f.bytes, .int .i64 f.sync] 27))) (some ⟨w7.heap.size, 0, none⟩) 1 1 [f] rfl rfl (file_new w7 f) (fun e => by cases e) (Nat.le_refl _) (by omega) (by have := HB7.out.size; simp; omega) (fun ad e => by cases e; rfl) ?_; intro v8 w8 ho8 hb8 hs8; have HO8 := Lib.hid ho8; have HR8 := Lib.hid ((HR7.out.below (below_new w7 (.cells #[.string f.name, .string f.bytes, .int .i64 f.sync] 27))).keep hs8 (fun b off e hlt2 => hb8.block b (HBK.out b off e))); have HB8 := Lib.hid (HB7.out.trans (((below_new w7 (.cells #[.string f.name, .string f.bytes, .int .i64 f.sync] 27)).mono HB7.out.size).trans hb8)); clear ho8 hb8 hs8 y0 y1 y2)
          | (refine wpList_lo3 rfl (.tmp 38) (.tmp 39) rfl (some ⟨b, off, none⟩) m c1 rfl .i64 k rfl (by omega) ?_; intro A3 hA3; have HA3 := Lib.hid hA3; clear hA3)
          | (at_builtin; refine wpList_files rfl (.tmp 37) (.tmp 40) rfl wq.heap.size _ (R.take k ++ [f]) (k + 1) HTF.out rfl HO8.out A3 (m - k) (c1 - k) (R.drop k) HTD.out rfl (by rw [HA3.out]; exact HR8.out.drop k c1 HLC.out) (fun e => none_low HA3.out HN1.out e) (by omega) (by omega) HB8.out.size (fun ad e => spot_low HA3.out HSP.out ad e) ?_; intro v9 w9 ho9 hb9 hs9; have HO9 := Lib.hid ho9; have HB9 := Lib.hid (HB8.out.trans hb9); clear ho9 hb9 hs9)
          | fail)
        go_ret
        have hw9 := HBq.out.trans (HB9.out.mono HBq.out.size)
        refine ⟨v9, rfl, ?_, hw9⟩
        have h9 := own_downs HO9.out HBq.out.size
        have hE : wth F.name ls f = R.take k ++ [f] ++ R.drop k := by unfold wth; rw [HE.out, HG.out.1, HG.out.2]; simp
        rw [hE]
        have hN : (R.take k ++ [f] ++ R.drop k).length = k + 1 + (m - k) := by rw [List.length_append, HTF.out, HTD.out]
        rw [hN]
        exact h9
    · have d0 : decide (k < m) = false := decide_eq_false hlt
      have HG : Hid (GoneTo R f k) := Lib.hid (tw_cut HT.out (fun h => absurd h (by have := HM.out; omega)))
      have HTL : Hid ((R.take k).length = k) := Lib.hid (by rw [List.length_take]; have := HM.out; omega)
      go_wp2_with fail
      go_quiet (fail)
      rename_i nq
      have hbq : Below w1.heap.size w1 ((w1.drewN q).drewN nq) := below_any nq (below_any q (Below.refl _ _))
      generalize ((w1.drewN q).drewN nq) = wq at hbq ⊢
      have HRq := Lib.hid ((HRR.out.below hbq).below (below_new wq (.cells #[] 27)))
      have HBq := Lib.hid (HB.out.trans (hbq.mono HB.out.size))
      have z0 : wq.cell? ⟨w.heap.size, 0, none⟩ = some (.string f.name) := (hbq.cell (p := ⟨w.heap.size, 0, none⟩) HLT.out).trans x0
      have z1 : wq.cell? ⟨w.heap.size, 1, none⟩ = some (.string f.bytes) := (hbq.cell (p := ⟨w.heap.size, 1, none⟩) HLT.out).trans x1
      have z2 : wq.cell? ⟨w.heap.size, 2, none⟩ = some (.int .i64 f.sync) := (hbq.cell (p := ⟨w.heap.size, 2, none⟩) HLT.out).trans x2
      have HLQ : Hid (w.heap.size < wq.heap.size) := Lib.hid (Nat.lt_of_lt_of_le HLT.out hbq.size)
      have HOq := Lib.hid (own_empty3 wq wq.heap.size (Nat.le_refl _))
      have HTF : Hid ((R.take k ++ [f]).length = k + 1) := Lib.hid (by rw [List.length_append, HTL.out]; rfl)
      have HLC : Hid (R.length ≤ c1) := Lib.hid (by rw [HM.out]; exact hc1)
      have HTD : Hid ((R.drop k).length = m - k) := Lib.hid (by rw [List.length_drop, HM.out])
      have HBK : Hid (∀ bb oo, (A1) = some (⟨bb, oo, none⟩ : Addr) → bb < wq.heap.size) := Lib.hid (fun bb oo e => Nat.lt_of_lt_of_le (HBK1.out _ e) hbq.size)
      clear hbq x0 x1 x2
      go_wp2_with (first
        | (refine wpList_hi3 rfl (.tmp 29) (.tmp 30) rfl (A1) m c1 rfl .i64 k rfl (by omega) ?_)
        | (at_builtin; refine wpList_files rfl (.tmp 28) (.tmp 31) rfl wq.heap.size _ [] 0 rfl rfl HOq.out (A1) k c1 (R.take k) HTL.out rfl (HRq.out.take k) HN1.out (by omega) (by omega) (by simp) HSP.out ?_; intro v7 w7 ho7 hb7 hs7; rw [Nat.zero_add, List.nil_append] at ho7; have HO7 := Lib.hid ho7; have HR7 := Lib.hid (HRq.out.keep hs7 (fun b off e hlt2 => hb7.block b (HBK.out b off e))); have HB7 := Lib.hid (((below_new wq (.cells #[] 27)).trans hb7)); have y0 := (HB7.out.cell (p := ⟨w.heap.size, 0, none⟩) HLQ.out).trans z0; have y1 := (HB7.out.cell (p := ⟨w.heap.size, 1, none⟩) HLQ.out).trans z1; have y2 := (HB7.out.cell (p := ⟨w.heap.size, 2, none⟩) HLQ.out).trans z2; clear ho7 hb7 hs7 z0 z1 z2)
        | (at_builtin; refine wpList_files rfl (.tmp 33) (.tmp 35) rfl wq.heap.size _ (R.take k) k HTL.out rfl (own_belows HO7.out (below_new w7 (.cells #[.string f.name, .string f.bytes, .int .i64 f.sync] 27))) (some ⟨w7.heap.size, 0, none⟩) 1 1 [f] rfl rfl (file_new w7 f) (fun e => by cases e) (Nat.le_refl _) (by omega) (by have := HB7.out.size; simp; omega) (fun ad e => by cases e; rfl) ?_; intro v8 w8 ho8 hb8 hs8; have HO8 := Lib.hid ho8; have HR8 := Lib.hid ((HR7.out.below (below_new w7 (.cells #[.string f.name, .string f.bytes, .int .i64 f.sync] 27))).keep hs8 (fun b off e hlt2 => hb8.block b (HBK.out b off e))); have HB8 := Lib.hid (HB7.out.trans (((below_new w7 (.cells #[.string f.name, .string f.bytes, .int .i64 f.sync] 27)).mono HB7.out.size).trans hb8)); clear ho8 hb8 hs8 y0 y1 y2)
        | (refine wpList_lo3 rfl (.tmp 38) (.tmp 39) rfl (A1) m c1 rfl .i64 k rfl (by omega) ?_; intro A3 hA3; have HA3 := Lib.hid hA3; clear hA3)
        | (at_builtin; refine wpList_files rfl (.tmp 37) (.tmp 40) rfl wq.heap.size _ (R.take k ++ [f]) (k + 1) HTF.out rfl HO8.out A3 (m - k) (c1 - k) (R.drop k) HTD.out rfl (by rw [HA3.out]; exact HR8.out.drop k c1 HLC.out) (fun e => none_low HA3.out HN1.out e) (by omega) (by omega) HB8.out.size (fun ad e => spot_low HA3.out HSP.out ad e) ?_; intro v9 w9 ho9 hb9 hs9; have HO9 := Lib.hid ho9; have HB9 := Lib.hid (HB8.out.trans hb9); clear ho9 hb9 hs9)
        | fail)
      go_ret
      have hw9 := HBq.out.trans (HB9.out.mono HBq.out.size)
      refine ⟨v9, rfl, ?_, hw9⟩
      have h9 := own_downs HO9.out HBq.out.size
      have hE : wth F.name ls f = R.take k ++ [f] ++ R.drop k := by unfold wth; rw [HE.out, HG.out.1, HG.out.2]; simp
      rw [hE]
      have hN : (R.take k ++ [f] ++ R.drop k).length = k + 1 + (m - k) := by rw [List.length_append, HTF.out, HTD.out]
      rw [hN]
      exact h9
end Go.Proofs.Ytcfglgejjmapdaa
