/- What 'Read' tells of bytes. -/
import Derived.Test.YthbhbjfmlmgeeaaDoorDoor
namespace Go.Proofs.YthbhbjfmlmgeeaaDoor
open Go Go.RowKit
/-- The three results' variables. -/
def Vars (w W : World) : Prop := W.heap[w.heap.size]? = some (.cells #[.slice none 0 0] 22 (0, 0)) ∧ W.heap[w.heap.size + 1]? = some (.cells #[.int .i64 0] 3 (0, 0)) ∧ W.heap[w.heap.size + 2]? = some (.cells #[.int .i64 0] 26 (0, 0)) ∧ Below w.heap.size w W ∧ w.heap.size + 3 ≤ W.heap.size
theorem Vars.new (w : World) : Vars w (((w.alloc (.cells #[.slice none 0 0] 22)).alloc (.cells #[.int .i64 0] 3)).alloc (.cells #[.int .i64 0] 26)) := by
  have a0 := heap_alloc_new w (.cells #[.slice none 0 0] 22)
  have b0 := (Below.refl w.heap.size w).alloc (Nat.le_refl _) (.cells #[.slice none 0 0] 22)
  have s0 : (w.alloc (.cells #[.slice none 0 0] 22)).heap.size = w.heap.size + 1 := by simp
  generalize w.alloc (.cells #[.slice none 0 0] 22) = w1 at *
  have a1 := heap_alloc_new w1 (.cells #[.int .i64 0] 3)
  have c0 := (Below.heap_alloc w1 (.cells #[.int .i64 0] 3) w.heap.size (by omega)).trans a0
  have b1 := b0.alloc (by omega) (.cells #[.int .i64 0] 3)
  have s1 : (w1.alloc (.cells #[.int .i64 0] 3)).heap.size = w.heap.size + 2 := by simp [s0]
  rw [s0] at a1
  generalize w1.alloc (.cells #[.int .i64 0] 3) = w2 at *
  have a2 := heap_alloc_new w2 (.cells #[.int .i64 0] 26)
  rw [s1] at a2
  exact ⟨(Below.heap_alloc w2 _ w.heap.size (by omega)).trans c0, (Below.heap_alloc w2 _ (w.heap.size + 1) (by omega)).trans a1, a2, b1.alloc (by omega) _, by simp; omega⟩
theorem Vars.below {w W W' : World} (h : Vars w W) (hb : Below (w.heap.size + 3) W W') : Vars w W' := by
  obtain ⟨h0, h1, h2, h3, h4⟩ := h
  exact ⟨(hb.block _ (by omega)).trans h0, (hb.block _ (by omega)).trans h1, (hb.block _ (by omega)).trans h2, h3.trans (hb.mono (by omega)), Nat.le_trans h4 hb.size⟩
theorem Vars.torn {w W : World} (h : Vars w W) (l : List UInt8) (k : Nat) (hr : readL l = ([], 0, k)) (tmps : Array Value) (t2 : tmps.getD 2 undef = .pointer (some ⟨w.heap.size, 0, none⟩)) (t3 : tmps.getD 3 undef = .pointer (some ⟨w.heap.size + 1, 0, none⟩)) (t4 : tmps.getD 4 undef = .pointer (some ⟨w.heap.size + 2, 0, none⟩)) :
    bodyPostD Tryd.prog Tryd.f17 (ReadEnd w l) (.panic (torn k)) { tmps := tmps, defers := [D3 w.heap.size] } W := by
  obtain ⟨h0, h1, h2, h3, _⟩ := h
  exact door_torn w W l k _ _ _ tmps t2 t3 t4 h0 h1 h2 h3 hr
set_option maxHeartbeats 4000000 in
theorem fread_short (A : Option Addr) (n c : Nat) (l : List UInt8) (w : World) (hn : l.length = n) (h8 : n < 8) :
    Calls Tryd.prog 17 #[.slice A n c] w (ReadEnd w l) := by
  have hmf : ∀ (fn : Fn) (first cap : Array Value) (w : World), (Instr.makeFunc fn first cap).run Tryd.prog w = .ok (.func fn first cap) w := fun _ _ _ _ => rfl
  have hr : readL l = ([], 0, 120) := by unfold readL; rw [if_pos (by omega)]
  have HR := Lib.hid hr
  clear hn hr
  go_enter_defers Tryd.func17, Tryd.ntmps17
  go_wp2
  exact (Vars.new w).torn l 120 HR.out _ rfl rfl rfl
theorem St.new (w : World) (A : Option Addr) (c : Nat) (l : List UInt8) (T : TypeId) (cs : List Value) (hc : l.length ≤ c) (hm : l.length ≤ 9223372036854775807) (hA : A = none → c = 0) (hr : Rd w A l) (hlow : ∀ ad, A = some ad → ad.block < w.heap.size) : St (w.alloc (.cells (.slice A l.length c :: cs).toArray T)) w.heap.size cs T l :=
  ⟨A, c, heap_alloc_new w _, hc, hm, hA, hr.below ((Below.refl _ _).alloc (Nat.le_refl _) _), hlow⟩
theorem Low.st {w : World} {g : Nat} {v : Value} {l : List UInt8} (h : Low w g v l) (T : TypeId) (cs : List Value) (hg : g ≤ w.heap.size) (hm : l.length ≤ 9223372036854775807) : St (w.alloc (.cells (v :: cs).toArray T)) w.heap.size cs T l := by
  obtain ⟨A, c, rfl, h1, h2, h3, h4⟩ := h
  exact St.new w A c l T cs h1 hm h2 h3 (fun ad h => Nat.lt_of_lt_of_le (h4 ad h) hg)
theorem Low.rd {w : World} {g n c : Nat} {A : Option Addr} {l : List UInt8} (h : Low w g (.slice A n c) l) : Rd w A l := by
  obtain ⟨A', c', e, _, _, hr, _⟩ := h
  injection e with e1 e2 e3
  rw [e1]
  exact hr
theorem three (w : World) : (((w.alloc (.cells #[.slice none 0 0] 22)).alloc (.cells #[.int .i64 0] 3)).alloc (.cells #[.int .i64 0] 26)).heap.size = w.heap.size + 1 + 1 + 1 := by simp
theorem rl_long {l : List UInt8} (h8 : 8 ≤ l.length) (h : 1048576 < of4 (l.take 4)) : readL l = ([], 0, 121) := by unfold readL; rw [if_neg (by omega), if_pos h]
theorem rl_short {l : List UInt8} (h8 : 8 ≤ l.length) (h : of4 (l.take 4) ≤ 1048576) (h2 : (l.drop 8).length < of4 (l.take 4)) : readL l = ([], 0, 120) := by unfold readL; rw [if_neg (by omega), if_neg (by omega), if_pos h2]
theorem rl_sum {l : List UInt8} (h8 : 8 ≤ l.length) (h : of4 (l.take 4) ≤ 1048576) (h2 : of4 (l.take 4) ≤ (l.drop 8).length) (h3 : crcOf (l.take 4 ++ (l.drop 8).take (of4 (l.take 4))) ≠ of4 ((l.drop 4).take 4)) : readL l = ([], 0, 121) := by
  unfold readL; rw [if_neg (by omega), if_neg (by omega), if_neg (by omega), if_pos h3]
theorem rl_body {l : List UInt8} (h8 : 8 ≤ l.length) (h : of4 (l.take 4) ≤ 1048576) (h2 : of4 (l.take 4) ≤ (l.drop 8).length) (h3 : crcOf (l.take 4 ++ (l.drop 8).take (of4 (l.take 4))) = of4 ((l.drop 4).take 4)) : readL l = readT (of4 (l.take 4)) (bodyT ((l.drop 8).take (of4 (l.take 4)))) := by
  unfold readL; rw [if_neg (by omega), if_neg (by omega), if_neg (by omega), if_neg (by simp [h3])]
theorem fin_read {w W : World} {H : Nat} {v : Value} {ls : List ByteArray} (hV : Vars w W) (ho : W.ownsRow (H + 1) 9 1 v ls.length (cellsS ls)) (n : Nat) (hH : w.heap.size + 3 ≤ H) :
    (((W.setCell ⟨w.heap.size, 0, none⟩ v).setCell ⟨w.heap.size + 1, 0, none⟩ (.int .i64 n)).setCell ⟨w.heap.size + 1 + 1, 0, none⟩ (.int .i64 0)).heap[w.heap.size]? = some (.cells #[v] 22 (0, 0)) ∧
    (((W.setCell ⟨w.heap.size, 0, none⟩ v).setCell ⟨w.heap.size + 1, 0, none⟩ (.int .i64 n)).setCell ⟨w.heap.size + 1 + 1, 0, none⟩ (.int .i64 0)).heap[w.heap.size + 1]? = some (.cells #[.int .i64 n] 3 (0, 0)) ∧
    (((W.setCell ⟨w.heap.size, 0, none⟩ v).setCell ⟨w.heap.size + 1, 0, none⟩ (.int .i64 n)).setCell ⟨w.heap.size + 1 + 1, 0, none⟩ (.int .i64 0)).heap[w.heap.size + 2]? = some (.cells #[.int .i64 0] 26 (0, 0)) ∧
    Below w.heap.size w (((W.setCell ⟨w.heap.size, 0, none⟩ v).setCell ⟨w.heap.size + 1, 0, none⟩ (.int .i64 n)).setCell ⟨w.heap.size + 1 + 1, 0, none⟩ (.int .i64 0)) ∧
    (((W.setCell ⟨w.heap.size, 0, none⟩ v).setCell ⟨w.heap.size + 1, 0, none⟩ (.int .i64 n)).setCell ⟨w.heap.size + 1 + 1, 0, none⟩ (.int .i64 0)).ownsRow w.heap.size 9 1 v ls.length (cellsS ls) := by
  obtain ⟨h0, h1, h2, h3, h4⟩ := hV
  generalize w.heap.size = s at *
  have p0 := one_setCell (u := v) h0
  have p1 := (Below.heap_setCell W ⟨s, 0, none⟩ v (s + 1) (by simp)).trans h1
  have p2 := (Below.heap_setCell W ⟨s, 0, none⟩ v (s + 2) (by simp)).trans h2
  have hb1 := h3.setCell (p := ⟨s, 0, none⟩) (Nat.le_refl _) v
  have ne : ∀ k, k < H + 1 → v.ownBlock ≠ some k := fun k hk e => by have := (ho.lt k e).1; omega
  have o1 := ownsRow_setCell_other ho (a := ⟨s, 0, none⟩) (ne s (by omega)) v
  generalize W.setCell ⟨s, 0, none⟩ v = V at *
  have q0 := (Below.heap_setCell V ⟨s + 1, 0, none⟩ (.int .i64 n) s (by simp)).trans p0
  have q1 := one_setCell (u := .int .i64 n) p1
  have q2 := (Below.heap_setCell V ⟨s + 1, 0, none⟩ (.int .i64 n) (s + 2) (by simp)).trans p2
  have hb2 := hb1.setCell (p := ⟨s + 1, 0, none⟩) (by simp) (.int .i64 n)
  have o2 := ownsRow_setCell_other o1 (a := ⟨s + 1, 0, none⟩) (ne (s + 1) (by omega)) (.int .i64 n)
  generalize V.setCell ⟨s + 1, 0, none⟩ (.int .i64 n) = U at *
  exact ⟨(Below.heap_setCell U ⟨s + 2, 0, none⟩ (.int .i64 0) s (by simp)).trans q0, (Below.heap_setCell U ⟨s + 2, 0, none⟩ (.int .i64 0) (s + 1) (by simp)).trans q1, one_setCell (u := .int .i64 0) q2, hb2.setCell (p := ⟨s + 2, 0, none⟩) (by simp) (.int .i64 0), own_down (ownsRow_setCell_other o2 (a := ⟨s + 2, 0, none⟩) (ne (s + 2) (by omega)) (.int .i64 0)) (by omega)⟩
set_option maxHeartbeats 4000000 in
theorem fread_long (A : Option Addr) (n c : Nat) (l : List UInt8) (w : World) (hn : l.length = n) (h8 : 8 ≤ n) (hnc : n ≤ c) (hm : n ≤ 2000000000) (hA : A = none → c = 0) (hr : Rd w A l) (hg : Tabs w) (h0 : 0 < w.heap.size) :
    Calls Tryd.prog 17 #[.slice A n c] w (ReadEnd w l) := by
  subst hn
  have hmf : ∀ (fn : Fn) (first cap : Array Value) (w : World), (Instr.makeFunc fn first cap).run Tryd.prog w = .ok (.func fn first cap) w := fun _ _ _ _ => rfl
  have hV3 := Vars.new w
  have h3s := three w
  have hlow : ∀ ad, A = some ad → ad.block < (((w.alloc (.cells #[.slice none 0 0] 22)).alloc (.cells #[.int .i64 0] 3)).alloc (.cells #[.int .i64 0] 26)).heap.size := by
    intro ad h
    obtain ⟨b, off, h2, hlt, _⟩ := hr (by omega)
    rw [h] at h2
    cases h2
    rw [h3s]
    show b < _
    omega
  have hS4 := St.new _ A c l 59 [] hnc (by omega) hA (hr.below hV3.2.2.2.1) hlow
  rw [h3s] at hS4
  have HS4 := Lib.hid hS4
  have HV4 := Lib.hid (hV3.below ((Below.refl _ _).alloc (by rw [h3s]; exact Nat.le_refl _) (.cells #[.slice A l.length c] 59)))
  have HG := Lib.hid hg
  clear hV3 h3s hlow hS4 hr hg
  go_enter_defers Tryd.func17, Tryd.ntmps17
  go_wp2_with fail
  generalize ((((w.alloc (.cells #[.slice none 0 0] 22)).alloc (.cells #[.int .i64 0] 3)).alloc (.cells #[.int .i64 0] 26)).alloc (.cells #[.slice A l.length c] 59)) = w4 at *
  obtain ⟨G, hG⟩ : ∃ G, G = w.heap.size + 1 + 1 + 1 := ⟨_, rfl⟩
  have HGG := Lib.hid hG
  rw [← hG] at HS4
  rw [← hG]
  clear hG
  refine (take_st G [] 59 l 4 w4 HS4.out (by omega)).mono ?_
  rintro e w5 ⟨v5, rfl, hlow5, hst5, hgr5⟩
  have hb5 := grown_belowAt hgr5 (by have := HS4.out.lt; omega)
  have HV5 := Lib.hid (HV4.out.below (hb5.mono (by have := HGG.out; omega)))
  have HL5 := Lib.hid hlow5
  have HS5 := Lib.hid hst5
  obtain ⟨A5, c5, rfl, k1, k2, k3, k4⟩ := hlow5
  have hl4 : (l.take 4).length = 4 := by rw [List.length_take]; omega
  rw [hl4] at HL5 k1 ⊢
  have HR5 := Lib.hid k3
  have HL4 := Lib.hid hl4
  clear hst5 hgr5 hb5 HV4 HS4 k1 k2 k3 k4 hl4
  go_wp2_with fail
  refine (of_yes A5 c5 (l.take 4) w5 HL4.out HR5.out).mono ?_
  rintro e w6 ⟨rfl, m6, rfl⟩
  have HV6 : Hid (Vars w (w5.drewN m6)) := Lib.hid (HV5.out.below (below_any m6 (Below.refl _ _)))
  have HS6 := Lib.hid (show St (w5.drewN m6) G [] 59 (l.drop 4) from HS5.out)
  have HL6 := Lib.hid (HL5.out.below (below_any m6 (Below.refl G w5)))
  generalize w5.drewN m6 = w6 at *
  have hN := of4_lt (l.take 4)
  clear HV5 HS5 HR5 HL5
  go_wp2_with fail
  have hd4 : 4 ≤ (l.drop 4).length := by rw [List.length_drop]; omega
  refine (number_st G [] 59 (l.drop 4) w6 HS6.out hd4).mono ?_
  rintro e w7 ⟨rfl, hst7, hgr7⟩
  have hb7 := grown_belowAt hgr7 (by have := HS6.out.lt; omega)
  have HV7 := Lib.hid (HV6.out.below (hb7.mono (by have := HGG.out; omega)))
  have HL7 := Lib.hid (HL6.out.below hb7)
  have hdd : (l.drop 4).drop 4 = l.drop 8 := by rw [List.drop_drop]
  rw [hdd] at hst7
  have HS7 := Lib.hid hst7
  have hM := of4_lt ((l.drop 4).take 4)
  clear hst7 hgr7 hb7 HV6 HS6 HL6 hdd hd4
  by_cases hbig : 1048576 < of4 (l.take 4)
  · have HRL := Lib.hid (rl_long h8 hbig)
    go_wp2_with fail
    exact HV7.out.torn l 121 HRL.out _ rfl rfl rfl
  have hbig' : of4 (l.take 4) ≤ 1048576 := by omega
  have hcell : w7.cell? ⟨G, 0, none⟩ = some (.slice A (l.drop 8).length c) ∨ True := .inr trivial
  clear hcell
  obtain ⟨A7, c7, hg7, hc7, _, _, _, _⟩ := HS7.out
  have hcell7 : w7.cell? ⟨G, 0, none⟩ = some (.slice A7 (l.drop 8).length c7) := by simp [World.cell?, hg7]
  have hd8 : (l.drop 8).length ≤ 2000000000 := by rw [List.length_drop]; omega
  clear hg7 hc7
  by_cases hsh : (l.drop 8).length < of4 (l.take 4)
  · have HRL := Lib.hid (rl_short h8 hbig' hsh)
    generalize (l.drop 8).length = D at *
    go_wp2_with fail
    exact HV7.out.torn l 120 HRL.out _ rfl rfl rfl
  have hsh' : of4 (l.take 4) ≤ (l.drop 8).length := by omega
  have HR1 := Lib.hid (fun h3 => rl_sum h8 hbig' hsh' h3)
  have HR2 := Lib.hid (fun h3 => rl_body h8 hbig' hsh' h3)
  have HTK := Lib.hid (take_st G [] 59 (l.drop 8) (of4 (l.take 4)) w7 HS7.out hsh')
  have hbl : ((l.drop 8).take (of4 (l.take 4))).length = of4 (l.take 4) := by rw [List.length_take]; omega
  generalize (l.drop 8).take (of4 (l.take 4)) = body at *
  generalize (l.drop 8).length = D at *
  have HBL := Lib.hid hbl
  clear hbl
  go_wp2_with fail
  refine HTK.out.mono ?_
  rintro e w8 ⟨v8, rfl, hlow8, _, hgr8⟩
  have hb8 := grown_belowAt hgr8 (by have := HS7.out.lt; omega)
  have HV8 := Lib.hid (HV7.out.below (hb8.mono (by have := HGG.out; omega)))
  have HL8 := Lib.hid (HL7.out.below hb8)
  have hG8 : G ≤ w8.heap.size := by have := HS7.out.lt; have := hb8.size; omega
  have hbl2 : body.length ≤ 1048576 := by have := HBL.out; omega
  have HS9 := Lib.hid (hlow8.st 64 [.slice none 0 0] hG8 (by omega))
  have HB9 := Lib.hid ((Below.refl w8.heap.size w8).alloc (Nat.le_refl _) (.cells [v8, .slice none 0 0].toArray 64))
  have hs9 : w8.heap.size < (w8.alloc (.cells [v8, .slice none 0 0].toArray 64)).heap.size := by simp
  have HL9 := Lib.hid (HL8.out.below (HB9.out.mono hG8))
  have HLB := Lib.hid (hlow8.below (HB9.out.mono hG8))
  have HV9 := Lib.hid (HV8.out.below (HB9.out.mono (by have := HGG.out; omega)))
  obtain ⟨A8, c8, rfl, _, _, _, _⟩ := hlow8
  clear HTK HV7 HL7 HS7 hgr8 hb8 HV8 HL8 hcell7
  go_wp2_with fail
  generalize w8.alloc (.cells #[.slice A8 body.length c8, .slice none 0 0] 64) = w9 at *
  generalize w8.heap.size = H at *
  have hr5 := HL9.out.rd
  have hr8 := HLB.out.rd
  refine (sum_any A5 A8 4 body.length c5 c8 (l.take 4) body w9 HL4.out rfl (by omega) (by omega) hr5 hr8 (HG.out.below h0 HV9.out.2.2.2.1) (by have := HV9.out.2.2.2.2; omega)).mono ?_
  rintro e w10 ⟨rfl, hb10⟩
  have HS10 := Lib.hid (HS9.out.other (hb10.mono (by omega)))
  have HV10 := Lib.hid (HV9.out.below (hb10.mono (by have := HV9.out.2.2.2.2; omega)))
  have hcr := crcOf_lt (l.take 4 ++ body)
  generalize crcOf (l.take 4 ++ body) = CR at *
  generalize of4 ((l.drop 4).take 4) = WT at *
  clear hr5 hr8 hb10 HS9 HV9 HL9 HLB HB9 hs9
  by_cases hcw : CR = WT
  · subst hcw
    have HRL := Lib.hid (HR2.out rfl)
    have HRD := Lib.hid (read_any H body w10 HS10.out)
    clear HR1 HR2
    go_wp2_with fail
    refine HRD.out.mono ?_
    have hH3 : w.heap.size + 3 ≤ H := by have := HGG.out; omega
    rintro e w11 (⟨ls, v, A, c, rfl, hbt, hg11, ho11, hb11⟩ | ⟨rfl, hbt, hb11⟩)
    · obtain ⟨Av, cv, rfl, _, _, _, _⟩ := own_rdV ho11
      have HV11 := HV10.out.below (hb11.mono hH3)
      have hc11 : w11.cell? ⟨H, 1, none⟩ = some (.slice Av ls.length cv) := by simp [World.cell?, hg11]
      have hrl : readL l = (bl ls, 8 + of4 (l.take 4), 0) := by rw [HRL.out, hbt]; rfl
      have HF := Lib.hid (fin_read HV11 ho11 (8 + of4 (l.take 4)) hH3)
      have k0 := cell_of_one HV11.1
      have k1 := cell_of_one HV11.2.1
      have k2 := cell_of_one HV11.2.2.1
      have z0 := free_of_one HV11.1
      have z1 := free_of_one HV11.2.1
      have z2 := free_of_one HV11.2.2.1
      have HRE := Lib.hid hrl
      clear hrl hbt hg11 ho11 hb11 HV11 HRL HRD
      go_wp2_with fail
      obtain ⟨f0, f1, f2, f3, f4⟩ := HF.out
      exact door_ret w _ l _ ls _ rfl rfl rfl (8 + of4 (l.take 4)) f0 f1 f2 f3 HRE.out f4
    · exact (HV10.out.below (hb11.mono hH3)).torn l 121 (by rw [HRL.out, hbt]; rfl) _ rfl rfl rfl
  · have e1 : ((CR : Int) != (WT : Int)) = true := by simp; omega
    have e2 : (CR != WT) = true := by simp; omega
    have HRL := Lib.hid (HR1.out hcw)
    clear HR1 HR2 hcw
    go_wp2_with fail
    exact HV10.out.torn l 121 HRL.out _ rfl rfl rfl
theorem fread_any (A : Option Addr) (n c : Nat) (l : List UInt8) (w : World) (hn : l.length = n) (hnc : n ≤ c) (hm : n ≤ 2000000000) (hA : A = none → c = 0) (hr : Rd w A l) (hg : Tabs w) (h0 : 0 < w.heap.size) :
    Calls Tryd.prog 17 #[.slice A n c] w (ReadEnd w l) := by
  by_cases h8 : n < 8
  · exact fread_short A n c l w hn h8
  · exact fread_long A n c l w hn (by omega) hnc hm hA hr hg h0
end Go.Proofs.YthbhbjfmlmgeeaaDoor
