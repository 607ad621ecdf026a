/- What a cache's All tells when it is gone over: the iterator's contract. -/
import Derived.Test.YtpomaabkgbaikaaDoorAl
import Derived.Test.YtpomaabkgbaikaaDoorRange
namespace Go.Proofs.YtpomaabkgbaikaaDoor
open Go Go.RowKit Go.Shelf
attribute [local go_sem] Oper.semAt_some
/-- Blocks of texts, and boxes of such rows, stay. -/
def KS (W W' : World) : Prop := ∀ (k : Nat) (x : Array Value) (t : TypeId) (p : Nat × Nat), (t = 9 ∨ t = 60) → W.heap[k]? = some (Obj.cells x t p) → W'.heap[k]? = some (Obj.cells x t p)
theorem KS.refl (W : World) : KS W W := fun _ _ _ _ _ h => h
theorem KS.trans {A B C : World} (h : KS A B) (k : KS B C) : KS A C := fun i x t p ht e => k i x t p ht (h i x t p ht e)
theorem KS.below {W W' : World} (h : Below W.heap.size W W') : KS W W' := fun k x t p _ e => (h.block k (Array.getElem?_eq_some_iff.1 e).1).trans e
theorem KS.alloc {A W : World} (h : KS A W) (o : Obj) : KS A (W.alloc o) := h.trans (.below (below_new W o))
theorem KS.setCell {A W : World} (h : KS A W) {a : Addr} {x : Array Value} {t : TypeId} {p : Nat × Nat} (hb : W.heap[a.block]? = some (.cells x t p)) (h9 : t ≠ 9) (h60 : t ≠ 60) (v : Value) : KS A (W.setCell a v) := h.trans fun k y t' q ht e => by
  refine (RowKit.Below.heap_setCell _ _ _ _ (fun e2 => ?_)).trans e
  rw [e2, hb] at e
  cases e
  rcases ht with rfl | rfl
  · exact h9 rfl
  · exact h60 rfl
theorem KS.putObj {W : World} {l : Nat} {o o' : Obj} (h : W.heap[l]? = some o') (hc : o'.isCells = false) : KS W (W.putObj l o) := fun k y t q _ e => by
  refine (World.putObj_heap_other (fun e2 => ?_)).trans e
  rw [e2, h] at e
  cases e
  cases hc
theorem KS.grown {A W W' : World} {row : Option Nat} (h : KS A W) (hg : W.grownBy W' row) (hr : ∀ (r : Nat) (x : Array Value) (t : TypeId) (p : Nat × Nat), (t = 9 ∨ t = 60) → row = some r → W.heap[r]? ≠ some (Obj.cells x t p)) : KS A W' := h.trans fun k y t q ht e =>
  (hg.block k (Array.getElem?_eq_some_iff.1 e).1 (fun e2 => hr k y t q ht e2.symm e)).trans e
theorem own_block9 {w : World} {base n : Nat} {A : Option Addr} {c : Nat} {xs : List Value} {m : Nat} (h : w.ownsRow base 9 1 (.slice A n c) m xs) : ∀ b off, A = some ⟨b, off, none⟩ → ∃ (x : Array Value) (p : Nat × Nat), w.heap[b]? = some (Obj.cells x 9 p) := by
  intro b off e
  subst e
  rcases h.2 with ⟨h2, _⟩ | ⟨g, cap, cur, h2, _, h3, _⟩
  · cases h2
  · cases h2
    exact ⟨_, _, h3⟩
theorem rdV_ks {w W : World} {A : Option Addr} {xs : List Value} (h : RdV w A xs) (ht : ∀ b off, A = some ⟨b, off, none⟩ → ∃ (x : Array Value) (p : Nat × Nat), w.heap[b]? = some (Obj.cells x 9 p)) (hk : KS w W) : RdV W A xs := fun h0 => by
  obtain ⟨b, off, rfl, hlt, hc⟩ := h h0
  obtain ⟨x, p, hb⟩ := ht b off rfl
  have hW := hk b x 9 p (.inl rfl) hb
  exact ⟨b, off, rfl, (Array.getElem?_eq_some_iff.1 hW).1, fun j hj => (World.cell?_of_block (w := w) (a := ⟨b, off + j, none⟩) (hW.trans hb.symm)).trans (hc j hj)⟩
set_option maxRecDepth 100000 in
set_option maxHeartbeats 4000000 in
theorem all1_seq {W1 : World} {b3 b4 : Nat} {v3 v4 : Value} {ds : List En} (n : Nat) (w : World) (hn : 1 ≤ n) (h : AL W1 b3 b4 w v3 v4 (ds.map En.key) (ds.map En.script)) (hmax : ds.length ≤ 1000000) :
    SeqG n Tryd.prog 37 #[.pointer (some ⟨b3, 0, none⟩), .pointer (some ⟨b4, 0, none⟩)] (fun e : En => #[.string e.key, .string e.script]) KS (fun pre e => pre ++ [e] <+: ds) (fun xs => xs = ds) (ds.length + 1) w := by
  intro y J W hbel hJ hY h0
  have hd := h.below hbel
  have hc1 := hd.cell
  have hx4 := Lib.hid hd.x4
  obtain ⟨A3, c3, hv3, -, -, -, hr3⟩ := own_rdV hd.o3
  obtain ⟨A4, c4, hv4, -, -, -, hr4⟩ := own_rdV hd.o4
  subst hv3
  subst hv4
  have HT3 := Lib.hid (own_block9 hd.o3)
  have HT4 := Lib.hid (own_block9 hd.o4)
  have HR3 := Lib.hid hr3
  have HR4 := Lib.hid hr4
  rw [List.length_map] at hc1 hx4
  have HJ0 := Lib.hid h0
  have HY := Lib.hid hY
  have HM := Lib.hid hmax
  clear h0 hJ hY hbel h hd hr3 hr4
  refine callsIn_of_wp Tryd.func37 rfl trivial ?_
  simp only [Tryd.ntmps37, List.size_toArray, List.length_cons, List.length_nil, Nat.reduceAdd, Nat.reduceSub, Array.replicate_succ, Array.replicate_zero, List.push_toArray, List.append_toArray, List.nil_append, List.cons_append]
  gi_wp2
  gi_loopw [8] (fun z wr => ∃ k : Nat, z = .int .i64 k ∧ k ≤ ds.length ∧ Hid (J (ds.take k) wr) ∧ Hid (KS W wr)) (fun z _ => ds.length - (intOf z).toNat)
  case atStart => exact ⟨0, rfl, Nat.zero_le _, HJ0, Lib.hid (KS.refl _)⟩
  case round =>
    clear HJ0
    obtain ⟨k, rfl, hkl, HJS, HW⟩ := hrel
    by_cases hlt : k < ds.length
    · obtain ⟨b, off, hA, -, hca⟩ := rdS_at (rdV_ks HR3.out HT3.out HW.out) (k := k) (by simpa using hlt)
      obtain ⟨b', off', hA', -, hcb⟩ := rdS_at (rdV_ks HR4.out HT4.out HW.out) (k := k) (by simpa using hlt)
      subst hA
      subst hA'
      have hz4 := HW.out _ _ _ _ (.inr rfl) hx4.out
      have hcz : wr.cell? ⟨b4, 0, none⟩ = some (.slice (some ⟨b', off', none⟩) ds.length c4) := by simp [World.cell?, hz4]
      obtain ⟨g, hg, hgt⟩ := list_at (ls := ds) hlt
      rw [List.getElem_map, hg] at hca hcb
      have hpre : ds.take k ++ [g] <+: ds := by rw [← hgt]; exact List.take_prefix _ _
      have HNX := Lib.hid hgt
      have hk0 : (0 : Int) ≤ (k : Int) := by omega
      have hk1 : (k : Int) < (ds.length : Int) := by omega
      obtain ⟨fn, tmps, assign, body, hy, hR⟩ := HY.out (ds.take k) g wr hpre HJS.out (by rw [List.length_take]; omega)
      try dsimp only at hy
      have HRr := Lib.hid hR
      obtain ⟨ky, hky⟩ : ∃ s, g.key = s := ⟨_, rfl⟩
      obtain ⟨sc, hsc⟩ : ∃ s, g.script = s := ⟨_, rfl⟩
      rw [hky] at hca hy
      rw [hsc] at hcb hy
      clear hg hR hpre hgt hz4
      gi_wp2
      refine HRr.out.mono ?_
      rintro e W3 ⟨rfl, hJ3, hk3⟩
      have HJ3 := Lib.hid hJ3
      have HW3 := Lib.hid (HW.out.trans hk3)
      clear hJ3 hk3 hy HRr hca hcb hcz
      gi_wp2
      refine ⟨⟨k + 1, by go_num, by omega, ?_, HW3⟩, by simp [intOf]; omega⟩
      show J _ _
      rw [HNX.out]
      exact HJ3.out
    · have HE : Hid (J ds wr) := by
        have h1 := HJS.out
        rw [List.take_of_length_le (by omega)] at h1
        exact Lib.hid h1
      gi_wp2
      go_end0
      exact ⟨⟨_, rfl⟩, _, rfl, HE.out⟩
end Go.Proofs.YtpomaabkgbaikaaDoor
