/- An argument that is a list of calls, one that is a call; how many calls there are. -/
import Derived.Test.YtpomaabkgbaikaaDoorFrame
import Derived.Test.YtpomaabkgbaikaaDoorRx
import Derived.Deep.Slices
import Derived.Deep.Strs
import Derived.Lib.SmallJoins
namespace Go.Proofs.YtpomaabkgbaikaaDoor
open Go Go.RowKit
open Go.ChangeShapes Go.WideShapes Go.ChangeAt Go.Deep Go.Joins
theorem wf_i64 {z : Int} (h : (Lit.int .i64 z).wf = true) : -9223372036854775808 ≤ z ∧ z ≤ 9223372036854775807 := by
  simp [Lit.wf, show IntKind.i64.min = -9223372036854775808 from rfl, show IntKind.i64.max = 9223372036854775807 from rfl] at h
  omega
def Ac.cell (a : Ac) : Nat → Value
  | 0 => .int .i64 a.what
  | 1 => .string a.name
  | _ => .string a.script
def Ac.ok (a : Ac) : Prop := (-9223372036854775808 ≤ a.what ∧ a.what ≤ 9223372036854775807) ∧ a.name.size ≤ 140737488351232 ∧ a.script.size ≤ 140737488351232
def RdC (W : World) (A : Option Addr) (l : List Ac) : Prop := 0 < l.length → ∃ b off, A = some ⟨b, off, none⟩ ∧ b < W.heap.size ∧ ∀ i (h : i < l.length) (j : Nat), j < 3 → W.cell? ⟨b, off + i * 3 + j, none⟩ = some (l[i].cell j)
theorem RdC.below {w w' : World} {A : Option Addr} {l : List Ac} (h : RdC w A l) (hb : Below w.heap.size w w') : RdC w' A l := fun h0 => by
  obtain ⟨b, off, rfl, hlt, hc⟩ := h h0
  exact ⟨b, off, rfl, Nat.lt_of_lt_of_le hlt hb.size, fun i hi j hj => (hb.cell (p := ⟨b, off + i * 3 + j, none⟩) hlt).trans (hc i hi j hj)⟩
theorem RdC.at {w : World} {A : Option Addr} {l : List Ac} (h : RdC w A l) {k : Nat} (hk : k < l.length) : ∃ b off, A = some ⟨b, off, none⟩ ∧ b < w.heap.size ∧ w.cell? ⟨b, off + k * 3, none⟩ = some (.int .i64 l[k].what) ∧ w.cell? ⟨b, off + k * 3 + 1, none⟩ = some (.string l[k].name) ∧ w.cell? ⟨b, off + k * 3 + 2, none⟩ = some (.string l[k].script) := by
  obtain ⟨b, off, rfl, hlt, hc⟩ := h (by omega)
  exact ⟨b, off, rfl, hlt, hc k hk 0 (by omega), hc k hk 1 (by omega), hc k hk 2 (by omega)⟩
section
variable {H : Type} {enc : TypeId × Value → H} {W : World}
theorem weights_all {e : TypeId} {d : DataW H} : ∀ {l : List (DataW H)}, d ∈ l → ∀ m ∈ d.weights Tryd.prog e, m ∈ DataW.weightsAll Tryd.prog e l
  | [], h => by cases h
  | x :: r, h => fun m hm => by
    rw [DataW.weightsAll]
    rcases List.mem_cons.1 h with rfl | h
    · exact List.mem_append_left _ hm
    · exact List.mem_append_right _ (weights_all h m hm)
set_option maxRecDepth 100000 in
theorem acts_of {fuel : Nat} {v : Value} {x : DataW H × List MemPlace} (h : DataW.trod enc Tryd.prog W 0 (fun _ => true) true fuel 24 [v] = some x) (hw : ∀ m ∈ x.1.weights Tryd.prog 24, m ≤ reachBytes) :
    ∃ A n c l, v = .slice A n c ∧ List.length l = n ∧ n ≤ c ∧ c ≤ maxLen ∧ (A = none → c = 0) ∧ RdC W A l ∧ ∀ a ∈ l, a.ok := by
  rcases open_slice Tryd.underlying24 h with ⟨hcs, _⟩ | ⟨a, l, c, m, f, D, Pl, hcs, _, hl, hm, hmm, hx, hcell⟩
  · simp at hcs
    exact ⟨none, 0, 0, [], hcs, rfl, Nat.le_refl _, by simp [maxLen], fun _ => rfl, fun h => absurd h (by simp), fun s hs => by cases hs⟩
  · simp at hcs hmm
    subst hmm
    have hC : Tryd.prog.cellsOf 39 = 3 := by kernel_rfl
    rw [hC] at hcell
    have key : ∀ i, ∃ z : Ac, i < l → (z.ok ∧ ∀ j, j < 3 → W.cell? (a.add (i * 3 + j)) = some (z.cell j)) := by
      intro i
      by_cases hi : i < l
      rotate_left
      · exact ⟨⟨0, ⟨#[]⟩, ⟨#[]⟩⟩, fun h => absurd h hi⟩
      obtain ⟨cs, hc, ht⟩ := hcell i (by omega)
      obtain ⟨_, hcl, hat⟩ := World.cells?_some hc
      obtain ⟨y0, y1, y2, n, hy, hlen, t0, t1, t2⟩ := trod_struct3 Tryd.underlying39 ht
      match cs, hcl with
      | [c0, c1, c2], _ =>
        have k9 : Tryd.prog.cellsOf 9 = 1 := by kernel_rfl
        have k3 : Tryd.prog.cellsOf 3 = 1 := by kernel_rfl
        simp only [k9, k3, List.drop_zero, List.drop_succ_cons, List.take_succ_cons, List.take_zero] at t0 t1 t2
        obtain ⟨z0, e0, x0, w0⟩ := DataW.trod_int Tryd.underlying3 t0
        obtain ⟨z1, e1, x1, w1⟩ := DataW.trod_string Tryd.underlying9 t1
        obtain ⟨z2, e2, x2, w2⟩ := DataW.trod_string Tryd.underlying9 t2
        cases e0; cases e1; cases e2
        have hz : z1.size ≤ 140737488351232 ∧ z2.size ≤ 140737488351232 := by
          subst hx
          have hD : D i = .agg [y0.1, y1.1, y2.1] := congrArg Prod.fst hy
          subst x0; subst x1; subst x2
          have h1 : z1.data.toList.length = z1.size := by rw [Array.length_toList]; rfl
          have h2 : z2.data.toList.length = z2.size := by rw [Array.length_toList]; rfl
          refine ⟨hw _ ?_, hw _ ?_⟩
          all_goals
            rw [DataW.weights, Tryd.underlying24]
            simp only
            refine List.mem_cons_of_mem _ (List.mem_append_left _ (weights_all (List.mem_map.2 ⟨i, List.mem_range.2 hi, rfl⟩) _ ?_))
            rw [hD, DataW.weights, Tryd.underlying39]
            simp [DataW.weightsEach, DataW.weights, h1, h2]
        refine ⟨⟨z0, z1, z2⟩, fun _ => ⟨⟨wf_i64 w0, hz.1, hz.2⟩, fun j hj => ?_⟩⟩
        have h1 := hat j hj
        rw [Go.Deep.add_add] at h1
        rw [h1]
        match j, hj with
        | 0, _ => rfl
        | 1, _ => rfl
        | 2, _ => rfl
    obtain ⟨S, hS⟩ := Classical.axiomOfChoice key
    have hlen : ((List.range l).map S).length = l := by simp
    refine ⟨some a, l, m, (List.range l).map S, hcs, hlen, hl, hm, (fun h => by cases h), fun h0 => ?_, fun s hs => ?_⟩
    · rw [hlen] at h0
      obtain ⟨b, off, spot⟩ := a
      have hc0 := (hS 0 h0).2 0 (by omega)
      have hspot : spot = none := by simpa [Addr.add] using World.cell?_spot hc0
      subst hspot
      rw [addoff] at hc0
      refine ⟨b, off, rfl, block_lt hc0, fun i hi j hj => ?_⟩
      rw [hlen] at hi
      have h1 := (hS i hi).2 j hj
      rw [addoff, ← Nat.add_assoc] at h1
      rw [h1]
      simp
    · obtain ⟨i, hi, rfl⟩ := List.mem_map.1 hs
      exact (hS i (List.mem_range.1 hi)).1
end
/-- What calls weigh. -/
def acW (l : List Ac) : Nat := (l.map fun x => 50 + x.name.size + x.script.size).sum
theorem acW_take {l : List Ac} {k : Nat} (h : k < l.length) : acW (l.take (k + 1)) = acW (l.take k) + (50 + l[k].name.size + l[k].script.size) := by
  rw [List.take_succ_eq_append_getElem h]
  unfold acW
  generalize l.take k = m
  simp
theorem acW_len : ∀ l : List Ac, 50 * l.length ≤ acW l
  | [] => Nat.le_refl _
  | x :: l => by
    have := acW_len l
    have e : acW (x :: l) = 50 + x.name.size + x.script.size + acW l := rfl
    rw [e, List.length_cons]; omega
theorem acW_mem {l : List Ac} {x : Ac} (h : x ∈ l) : x.name.size + x.script.size ≤ acW l := by
  induction l with
  | nil => cases h
  | cons y l ih =>
    have e : acW (y :: l) = 50 + y.name.size + y.script.size + acW l := rfl
    rw [e]
    rcases List.mem_cons.1 h with rfl | h
    · omega
    · have := ih h; omega
set_option maxRecDepth 100000 in
set_option maxHeartbeats 8000000 in
theorem few_any (A : Option Addr) (c : Nat) (l : List Ac) (w : World) (hr : RdC w A l) (hl : l.length ≤ 9223372036854775807) (ho : ∀ x ∈ l, x.ok) :
    Calls Tryd.prog 10 #[.slice A l.length c] w fun e w' => (∃ b, e = .returned (.bool b) ∧ (b = true → acW l ≤ 3000)) ∧ Below w.heap.size w w' := by
  have HR := Lib.hid hr
  have HO := Lib.hid ho
  clear hr ho
  go_enter Tryd.func10, Tryd.ntmps10
  go_wp2_with fail
  go_loopw [3, 4] (fun n i wr => ∃ k z : Nat, k ≤ l.length ∧ i = .int .i64 k ∧ n = .int .i64 z ∧ z ≤ 300000000000000 ∧ Hid (z = acW (l.take k)) ∧ Hid (Below w.heap.size w wr)) (fun _ i _ => l.length - (intOf i).toNat)
  case atStart => exact ⟨0, 0, Nat.zero_le _, rfl, rfl, by omega, Lib.hid rfl, Lib.hid (Below.refl _ _)⟩
  case round =>
    obtain ⟨k, z, hk, rfl, rfl, hz, HZ, HB⟩ := hrel
    by_cases hlt : k < l.length
    rotate_left
    · have d1 : decide (k < l.length) = false := decide_eq_false hlt
      have HY : Hid (z ≤ 3000 → acW l ≤ 3000) := Lib.hid (fun h => by
        have h1 := HZ.out
        rw [List.take_of_length_le (by omega)] at h1
        omega)
      by_cases h3 : z ≤ 3000
      · have d3 : decide (z ≤ 3000) = true := decide_eq_true h3
        have d4 : decide ((z : Int) ≤ 3000) = true := decide_eq_true (by omega)
        go_wp2_with fail
        go_ret
        exact ⟨⟨_, rfl, fun _ => HY.out h3⟩, HB.out⟩
      · have d3 : decide (z ≤ 3000) = false := decide_eq_false h3
        have d4 : decide ((z : Int) ≤ 3000) = false := decide_eq_false (by omega)
        go_wp2_with fail
        go_ret
        exact ⟨⟨_, rfl, fun h => by cases h⟩, HB.out⟩
    have d1 : decide (k < l.length) = true := decide_eq_true hlt
    by_cases h3 : z ≤ 3000
    rotate_left
    · have d3 : decide (z ≤ 3000) = false := decide_eq_false h3
      have d4 : decide ((z : Int) ≤ 3000) = false := decide_eq_false (by omega)
      go_wp2_with fail
      go_ret
      exact ⟨⟨_, rfl, fun h => by cases h⟩, HB.out⟩
    have d3 : decide (z ≤ 3000) = true := decide_eq_true h3
    have d4 : decide ((z : Int) ≤ 3000) = true := decide_eq_true (by omega)
    obtain ⟨b, off, hA, hbb, x0, x1, x2⟩ := (HR.out.below HB.out).at hlt
    have hok := HO.out _ (List.getElem_mem hlt)
    subst hA
    have hk0 : (0 : Int) ≤ (k : Int) := by omega
    have hkl : (k : Int) < (l.length : Int) := by omega
    have HTK := Lib.hid (acW_take hlt)
    generalize l[k] = p at *
    obtain ⟨⟨p1, p2⟩, p3, p4⟩ := hok
    clear hbb
    have HZ2 : Hid (z + 50 + p.name.size + p.script.size = acW (l.take (k + 1))) := Lib.hid (by rw [HTK.out, ← HZ.out]; omega)
    go_wp2_with fail
    go_quiet (fail)
    generalize nq = q1
    have HB1 := Lib.hid (below_any q1 HB.out)
    have y0 : (wr.drewN q1).cell? ⟨b, off + k * 3, none⟩ = some (.int .i64 p.what) := x0
    clear x0 x1 x2 HB HTK
    generalize wr.drewN q1 = W at *
    by_cases hneg : p.what < 0
    · have e1 : decide (p.what < 0) = true := decide_eq_true hneg
      go_wp2_with fail
      go_ret
      exact ⟨⟨_, rfl, fun h => by cases h⟩, HB1.out⟩
    have e1 : decide (p.what < 0) = false := decide_eq_false hneg
    by_cases hbig : 3 < p.what
    · have e2 : decide (3 < p.what) = true := decide_eq_true hbig
      go_wp2_with fail
      go_ret
      first
        | exact ⟨⟨_, rfl, fun h => by cases h⟩, HB1.out⟩
        | exact ⟨Or.inl rfl, HB1.out⟩
    have e2 : decide (3 < p.what) = false := decide_eq_false hbig
    go_wp2_with fail
    go_roundw
    case rel => exact ⟨k + 1, z + 50 + p.name.size + p.script.size, by omega, by go_num, by go_num, by omega, HZ2, HB1⟩
    case measure => simp [intOf]; omega
end Go.Proofs.YtpomaabkgbaikaaDoor
