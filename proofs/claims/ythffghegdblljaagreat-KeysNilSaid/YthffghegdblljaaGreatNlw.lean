/- A keyspace that is none: the walk. -/
import Derived.Test.YthffghegdblljaaGreatNil
namespace Go.Proofs.YthffghegdblljaaGreat
open Go Go.RowKit Go.Shelf
attribute [local go_sem] Oper.semAt_some
theorem eqf67 (a : Value) (w : World) : (binOp .eql 67 (.func (.func 68) #[] #[a]) .nilFunc).run Tryz.prog w = .ok (.bool false) w := by kernel_rfl
theorem eqp33' (a : Addr) (w : World) : (binOp .eql 33 (.pointer none) (.pointer none)).run Tryz.prog w = .ok (.bool true) w := eqp33 w
theorem new_kb (w : World) : KB ((w.alloc (.map #[] 0)).alloc (.cells #[.map (some w.heap.size)] 74)) (w.heap.size + 1) w.heap.size := by
  have := heap_alloc_new (w.alloc (.map #[] 0)) (.cells #[.map (some w.heap.size)] 74)
  rw [show (w.alloc (.map #[] 0)).heap.size = w.heap.size + 1 by simp] at this
  exact this
theorem new_bel (w : World) : Below w.heap.size w ((w.alloc (.map #[] 0)).alloc (.cells #[.map (some w.heap.size)] 74)) :=
  (below_new w (.map #[] 0)).trans ((below_new (w.alloc (.map #[] 0)) (.cells #[.map (some w.heap.size)] 74)).mono (below_new w (.map #[] 0)).size)
/-- Between two rounds. -/
structure NZ (w W : World) (z c B : Nat) : Prop where
  zk : W.heap[z]? = some (.cells #[.map none] 74 (0, 0))
  cc : W.heap[c]? = some (.cells #[.int .i64 0] 3 (0, 0))
  bel : Below w.heap.size w W
  big : B ≤ W.heap.size
theorem keepc {A A' : World} {row : Option Nat} {b : Nat} {x : Array Value} {t : TypeId} {p : Nat × Nat} (h : A.heap[b]? = some (.cells x t p)) (hg : A.grownBy A' row) (ht : ∀ r, row = some r → ∃ o : Obj, A.heap[r]? = some o ∧ o.isCells = false) : A'.heap[b]? = some (.cells x t p) := by
  refine (hg.block b (Array.getElem?_eq_some_iff.1 h).1 (fun e => ?_)).trans h
  obtain ⟨o, h1, h2⟩ := ht b e.symm
  rw [h] at h1
  cases h1
  cases h2
theorem NZ.keep {w A A' : World} {z c B : Nat} {row : Option Nat} (h : NZ w A z c B) (hB : w.heap.size ≤ B) (hg : A.grownBy A' row) (ht : ∀ r, row = some r → B ≤ r ∧ ∃ o : Obj, A.heap[r]? = some o ∧ o.isCells = false) : NZ w A' z c B :=
  ⟨keepc h.zk hg (fun r e => (ht r e).2), keepc h.cc hg (fun r e => (ht r e).2), h.bel.grown hg h.bel.size (fun k e => by have := (ht k e).1; omega), Nat.le_trans h.big hg.size⟩
set_option maxRecDepth 200000 in
set_option maxHeartbeats 16000000 in
theorem nil_walk (s : ByteArray) (n o : Int) (k nm t : ByteArray) (i : Int) (w : World) : Calls Tryz.prog 10 #[.string s, .int .i64 n, .agg (efV o k nm t i)] w fun e w' => e = .returned (.bool true) ∧ Below w.heap.size w w' := by
  have hn1 := heap_alloc_new w (.cells (efV o k nm t i) 50)
  have hb1 := below_new w (.cells (efV o k nm t i) 50)
  have hs1 : (w.alloc (.cells (efV o k nm t i) 50)).heap.size = w.heap.size + 1 := by simp
  have hn2 := heap_alloc_new (w.alloc (.cells (efV o k nm t i) 50)) (.cells #[.map none] 74)
  have hb2 := hb1.trans ((below_new (w.alloc (.cells (efV o k nm t i) 50)) (.cells #[.map none] 74)).mono hb1.size)
  rw [hs1] at hn2
  have hn3 := (Below.heap_alloc ((w.alloc (.cells (efV o k nm t i) 50)).alloc (.cells #[.map none] 74)) (.cells (efV o k nm t i) 50) _ (hlt hn2)).trans hn2
  have hb3 := hb2.trans ((below_new ((w.alloc (.cells (efV o k nm t i) 50)).alloc (.cells #[.map none] 74)) (.cells (efV o k nm t i) 50)).mono hb2.size)
  have HZ := Lib.hid hn3
  have HB := Lib.hid hb3
  clear hn1 hb1 hs1 hn2 hb2 hn3 hb3
  have hmf : ∀ (fn : Fn) (first cap : Array Value) (w : World), (Instr.makeFunc fn first cap).run Tryz.prog w = .ok (.func fn first cap) w := fun _ _ _ _ => rfl
  have fe := eqf67
  refine (callsIn_wide (n := 4)).1 ?_
  refine callsIn_of_wp_marks Tryz.func10 rfl trivial ?_ rfl
  simp only [Tryz.ntmps10, List.size_toArray, List.length_cons, List.length_nil, Nat.reduceAdd, Nat.reduceSub, Array.replicate_succ, Array.replicate_zero, List.push_toArray, List.append_toArray, List.nil_append, List.cons_append]
  gi_wp2_with fail
  obtain ⟨w3, hw3⟩ : ∃ w3, ((w.alloc (.cells (efV o k nm t i) 50)).alloc (.cells #[.map none] 74)).alloc (.cells (efV o k nm t i) 50) = w3 := ⟨_, rfl⟩
  simp only [hw3] at HZ HB ⊢
  generalize hgz : w.heap.size + 1 = z at *
  clear hw3 hgz
  refine ⟨trivial, (callsIn_wide.2 (apply_nil _ _ _ _)).mono ?_⟩
  rintro e _ ⟨rfl, rfl⟩
  gi_wp2_with fail
  refine ⟨trivial, (callsIn_wide.2 (apply_zero z _ HZ.out)).mono ?_⟩
  rintro e _ ⟨rfl, rfl⟩
  gi_wp2_with fail
  refine ⟨trivial, (callsIn_wide.2 (look_nil s w3)).mono ?_⟩
  rintro e w5 ⟨rfl, hb⟩
  replace HZ := Lib.hid ((hb.block _ (hlt HZ.out)).trans HZ.out)
  replace HB := Lib.hid (HB.out.trans (hb.mono HB.out.size))
  clear hb
  gi_wp2_with fail
  obtain ⟨w6, hw6⟩ : ∃ x, w5.alloc (.cells (tgV 0 sE) 27) = x := ⟨_, rfl⟩
  have hb := below_new w5 (.cells (tgV 0 sE) 27)
  rw [hw6] at hb ⊢
  replace HZ := Lib.hid ((hb.block _ (hlt HZ.out)).trans HZ.out)
  replace HB := Lib.hid (HB.out.trans (hb.mono HB.out.size))
  clear hb
  clear hw6
  refine ⟨trivial, (callsIn_wide.2 (get_zero z s n w6 HZ.out)).mono ?_⟩
  rintro e w7 ⟨rfl, hb⟩
  replace HZ := Lib.hid ((hb.block _ (hlt HZ.out)).trans HZ.out)
  replace HB := Lib.hid (HB.out.trans (hb.mono HB.out.size))
  clear hb
  gi_wp2_with fail
  have hb1 := below_new w7 (.cells (tgV 0 sE) 27)
  have hb2 := hb1.trans ((below_new (w7.alloc (.cells (tgV 0 sE) 27)) (.cells #[.int .i64 0] 3)).mono hb1.size)
  have hcc := heap_alloc_new (w7.alloc (.cells (tgV 0 sE) 27)) (.cells #[.int .i64 0] 3)
  obtain ⟨c, hc⟩ : ∃ c, (w7.alloc (.cells (tgV 0 sE) 27)).heap.size = c := ⟨_, rfl⟩
  have hc1 : w7.heap.size + 1 = c := by rw [← hc]; simp
  have hlc : w.heap.size ≤ c := by have := HB.out.size; omega
  rw [hc] at hcc
  obtain ⟨w9, hw9⟩ : ∃ x, (w7.alloc (.cells (tgV 0 sE) 27)).alloc (.cells #[.int .i64 0] 3) = x := ⟨_, rfl⟩
  rw [hw9] at hb2 hcc ⊢
  replace HZ := Lib.hid ((hb2.block _ (hlt HZ.out)).trans HZ.out)
  replace HB := Lib.hid (HB.out.trans (hb2.mono HB.out.size))
  have HC := Lib.hid hcc
  have HLC := Lib.hid hlc
  rw [hc1]
  clear hb1 hb2 hc hc1 hlc hw9 hcc
  refine ⟨trivial, (callsIn_wide.2 (all_nil w9)).mono ?_⟩
  rintro e _ ⟨rfl, rfl⟩
  obtain ⟨w10, hw10⟩ : ∃ x, w9.alloc (.cells #[.pointer none] 33) = x := ⟨_, rfl⟩
  have hb := below_new w9 (.cells #[.pointer none] 33)
  have hn := heap_alloc_new w9 (.cells #[.pointer none] 33)
  rw [hw10] at hb hn ⊢
  replace HC := Lib.hid ((hb.block _ (hlt HC.out)).trans HC.out)
  replace HZ := Lib.hid ((hb.block _ (hlt HZ.out)).trans HZ.out)
  replace HB := Lib.hid (HB.out.trans (hb.mono HB.out.size))
  clear hb hn hw10
  gi_wp2_with fail
  refine ⟨trivial, (callsIn_wide.2 (all_nil w10)).mono ?_⟩
  rintro e _ ⟨rfl, rfl⟩
  obtain ⟨w11, hw11⟩ : ∃ x, w10.alloc (.cells #[.pointer none] 33) = x := ⟨_, rfl⟩
  have hb := below_new w10 (.cells #[.pointer none] 33)
  have hn := heap_alloc_new w10 (.cells #[.pointer none] 33)
  rw [hw11] at hb hn ⊢
  replace HC := Lib.hid ((hb.block _ (hlt HC.out)).trans HC.out)
  replace HZ := Lib.hid ((hb.block _ (hlt HZ.out)).trans HZ.out)
  replace HB := Lib.hid (HB.out.trans (hb.mono HB.out.size))
  have HP := Lib.hid hn
  clear hb hn hw11
  gi_wp2_with fail
  obtain ⟨b, hb⟩ : ∃ b, w10.heap.size = b := ⟨_, rfl⟩
  rw [hb] at HP ⊢
  clear hb
  refine rangeG (n := 4) (by omega) (gf := 68) (lb := #[.pointer (some ⟨b, 0, none⟩)]) rfl (enters_of Tryz.func68 (by kernel_rfl) rfl)
    (all1_nil 3 w11 (by omega) HP.out) (fun _ _ => trivial) (fun W k o o' hk ho => trivial) (fun _ => rfl)
    (fun _ W => NZ w W z c w11.heap.size) (fun pre A1 A2 row h hg ht => h.keep HB.out.size hg ht)
    ⟨HZ.out, HC.out, HB.out, Nat.le_refl _⟩
    ?a1 ?assign ?body ?done
  case assign =>
    intro l' x W K hK
    gi_wp2
    exact hK
  case body =>
    rintro l' pre x W hl hpx hI hlen
    exact hpx.elim
  case done =>
    rintro D xs W hD rfl hI hdf
    have HI := Lib.hid hI
    have HDF := Lib.hid hdf
    have c0 := cell1 hI.cc
    clear hI hdf
    gi_wp2_with fail
    refine ⟨trivial, (callsIn_wide.2 (size_nil n W)).mono ?_⟩
    rintro e W1 ⟨rfl, hb1⟩
    clear c0
    have HZ1 := Lib.hid ((hb1.block _ (hlt HI.out.zk)).trans HI.out.zk)
    have HD1 := Lib.hid ((hb1.block _ (hlt HDF.out)).trans HDF.out)
    have HB1 := Lib.hid (HI.out.bel.trans (hb1.mono HI.out.bel.size))
    clear hb1
    gi_wp2_with fail
    refine ⟨trivial, (callsIn_wide.2 (names_zero z n W1 HZ1.out)).mono ?_⟩
    rintro e _ ⟨rfl, rfl⟩
    have f1 := eqp33
    gi_wp2_with fail
    refine ⟨trivial, (callsIn_wide.2 (copy_nil W1)).mono ?_⟩
    rintro e _ ⟨rfl, rfl⟩
    gi_wp2_with fail
    refine ⟨trivial, (callsIn_wide.2 (same_nz z W1 HZ1.out)).mono ?_⟩
    rintro e _ ⟨rfl, rfl⟩
    gi_wp2_with fail
    refine ⟨trivial, (callsIn_wide.2 (new_keys W1)).mono ?_⟩
    rintro e _ ⟨rfl, rfl⟩
    have HK2 := Lib.hid (new_kb W1)
    have hb2 := new_bel W1
    generalize hg2 : W1.heap.size + 1 = g2 at *
    generalize (W1.alloc (.map #[] 0)).alloc (.cells #[.map (some W1.heap.size)] 74) = W2 at *
    have HD2 := Lib.hid ((hb2.block _ (hlt HD1.out)).trans HD1.out)
    have HB2 := Lib.hid (HB1.out.trans (hb2.mono HB1.out.size))
    clear hb2 HD1 HB1 HZ1 hg2
    gi_wp2_with fail
    refine ⟨trivial, (callsIn_wide.2 (same_nn g2 _ W2 HK2.out)).mono ?_⟩
    rintro e _ ⟨rfl, rfl⟩
    clear HK2
    gi_wp2_with fail
    refine ⟨trivial, (callsIn_wide.2 (new_keys W2)).mono ?_⟩
    rintro e _ ⟨rfl, rfl⟩
    have HK3 := Lib.hid (new_kb W2)
    have hb3 := new_bel W2
    generalize hg3 : W2.heap.size + 1 = g3 at *
    generalize (W2.alloc (.map #[] 0)).alloc (.cells #[.map (some W2.heap.size)] 74) = W3 at *
    have HD3 := Lib.hid ((hb3.block _ (hlt HD2.out)).trans HD2.out)
    have HB3 := Lib.hid (HB2.out.trans (hb3.mono HB2.out.size))
    clear hb3 HD2 HB2 hg3
    gi_wp2_with fail
    refine ⟨trivial, (callsIn_wide.2 (same_kn g3 _ W3 HK3.out)).mono ?_⟩
    rintro e _ ⟨rfl, rfl⟩
    clear HK3
    gi_wp2_with fail
    refine ⟨trivial, (callsIn_wide.2 (known_any W3)).mono ?_⟩
    rintro e W4 ⟨rfl, hb4⟩
    have HD4 := Lib.hid ((hb4.block _ (hlt HD3.out)).trans HD3.out)
    have HB4 := Lib.hid (HB3.out.trans (hb4.mono HB3.out.size))
    clear hb4 HD3 HB3
    gi_wp2_with fail
    have hrow : W4.grownBy (W4.putObj D (.deferred none)) (some D) := grownBy_putObj' _ _ _
    refine ⟨by simp, .inl ⟨_, _, rfl, run_takeDeferred (w := W4) HD4.out, ?_⟩⟩
    exact ⟨_, results_tmp Tryz.results10 _ _ _, rfl, HB4.out.grown hrow HB4.out.size (fun k e => by cases e; exact Nat.le_trans HB.out.size hD)⟩
end Go.Proofs.YthffghegdblljaaGreat
