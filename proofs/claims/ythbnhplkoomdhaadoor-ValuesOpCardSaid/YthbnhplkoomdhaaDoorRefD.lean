/- Texts that are made. -/
import Derived.Test.YthbnhplkoomdhaaDoorRefC
namespace Go.Proofs.YthbnhplkoomdhaaDoor
open Go Go.RowKit
/-- All that was there but one block is as it was. -/
structure KB (b : Nat) (W W' : World) : Prop where
  os : W'.os = W.os
  tape : W'.tape = W.tape
  output : W'.output = W.output
  size : W.heap.size ≤ W'.heap.size
  same : ∀ k, k ≠ b → k < W.heap.size → W'.heap[k]? = W.heap[k]?
theorem KB.of_below {W W' : World} (b : Nat) (h : Below W.heap.size W W') (_ : b < W.heap.size) : KB b W W' := ⟨h.os, h.tape, h.output, h.size, fun k _ hk => h.block k hk⟩
theorem KB.trans {b : Nat} {A B C : World} (h : KB b A B) (k : KB b B C) : KB b A C :=
  ⟨k.os.trans h.os, k.tape.trans h.tape, k.output.trans h.output, Nat.le_trans h.size k.size, fun i hi hs => (k.same i hi (Nat.lt_of_lt_of_le hs h.size)).trans (h.same i hi hs)⟩
theorem KB.below {b B : Nat} {W W' : World} (h : KB b W W') (hb : B ≤ b) (hB : B ≤ W.heap.size) : Below B W W' := ⟨h.os, h.tape, h.output, h.size, fun k hk => h.same k (by omega) (by omega)⟩
theorem KB.set (W : World) (b i : Nat) (v : Value) (m : Nat) : KB b W ((W.setCell ⟨b, i, none⟩ v).drewN m) :=
  ⟨rfl, rfl, rfl, by show W.heap.size ≤ (W.setCell ⟨b, i, none⟩ v).heap.size; simp [World.setCell], fun k hk _ => heap_setCell_other W ⟨b, i, none⟩ k v hk⟩
theorem KB.drew (W : World) (b m : Nat) : KB b W (W.drewN m) := ⟨rfl, rfl, rfl, Nat.le_refl _, fun _ _ _ => rfl⟩
/-- A row behind a base is written. -/
theorem KB.addRow {b g : Nat} {W V : World} (h : KB b W V) (cs : Array Value) (hg : W.heap.size ≤ g) : KB b W (V.setRow g cs) := by
  have hb := setRow_below (Below.refl W.heap.size V) hg cs
  exact ⟨h.os, h.tape, h.output, Nat.le_trans h.size hb.size, fun k hk hl => (setRow_other V g k cs (by omega)).trans (h.same k hk hl)⟩
/-- The cells that a text takes. -/
def kk (t : Array UInt8) : Int := (t.size : Int) / 16 + 1
set_option maxRecDepth 10000 in
set_option maxHeartbeats 1000000 in
theorem mkp_yes (w : World) (G ob : Nat) (tb : Value) (c s : Int) (t : Array UInt8) (h : w.heap[G]? = some (.cells #[tb, .int .i64 c, .int .i64 s, .map (some ob)] 51 (0, 0))) (ht : t.size ≤ 2000) (h0 : 0 ≤ s) (hs : s + kk t ≤ c) (hc : c ≤ 1000000) :
    Calls Tryd.prog 50 #[.pointer (some ⟨G, 0, none⟩), .string { data := t }] w fun e w' => e = .returned (.tuple #[.agg #[.int .i64 3, .int .i64 0, .string { data := t }], .string { data := #[] }]) ∧ w'.heap[G]? = some (.cells #[tb, .int .i64 c, .int .i64 (s + kk t), .map (some ob)] 51 (0, 0)) ∧ KB G w w' := by
  have hkk : kk t = (t.size : Int) / 16 + 1 := rfl
  have hHl := hlt h
  have hts := ht
  have hsz : (ByteArray.mk t).size = t.size := rfl
  have HH := Lib.hid (alloc_at (o' := (.cells #[.int .i64 0, .int .i64 0, .string { data := #[] }] 24)) h)
  have HR := Lib.hid (newc w (.cells #[.int .i64 0, .int .i64 0, .string { data := #[] }] 24))
  have HK := Lib.hid (KB.of_below G ((Below.refl w.heap.size w).alloc (Nat.le_refl _) (.cells #[.int .i64 0, .int .i64 0, .string { data := #[] }] 24)) (by omega))
  have hne : w.heap.size ≠ G := by omega
  have hl1 : ((ByteArray.mk t).size : Int) ≤ 2000 := by rw [hsz]; omega
  clear h hsz
  go_enter Tryd.func50, Tryd.ntmps50
  go_wp2_with fail
  generalize w.alloc (.cells #[.int .i64 0, .int .i64 0, .string { data := #[] }] 24) = w1 at *
  refine (none_heap G ob tb c s _ HH.out).mono ?_
  rintro e w2 ⟨rfl, rfl⟩
  go_wp2_with fail
  refine (sp_yes _ G ob tb c s (kk t) HH.out h0 (by omega) hs hc).mono ?_
  rintro e w3 ⟨rfl, m, hw3⟩
  have hrow3 : w3.heap[G]? = some (.cells #[tb, .int .i64 c, .int .i64 (s + kk t), .map (some ob)] 51 (0, 0)) := by rw [hw3]; exact heap_setCell_same _ G 2 _ 51 _ HH.out
  have hres3 : w3.heap[w.heap.size]? = some (.cells #[.int .i64 0, .int .i64 0, .string { data := #[] }] 24 (0, 0)) := by rw [hw3]; exact (heap_setCell_other _ ⟨G, 2, none⟩ w.heap.size _ hne).trans HR.out
  have hk3 : KB G w w3 := by rw [hw3]; exact HK.out.trans (KB.set _ G 2 _ m)
  have HROW := Lib.hid hrow3
  have HRES := Lib.hid hres3
  have HK3 := Lib.hid hk3
  clear hw3 hrow3 hres3 hk3 HK HR HH hkk
  go_wp2_with fail
  refine (text_any _ _).mono ?_
  rintro e w4 ⟨rfl, hb4⟩
  have HROW4 := Lib.hid ((hb4.block _ (hlt HROW.out)).trans HROW.out)
  have HRES4 := Lib.hid ((hb4.block _ (hlt HRES.out)).trans HRES.out)
  have HK4 := Lib.hid (HK3.out.trans (KB.of_below G hb4 (hlt HROW.out)))
  clear hb4 HROW HRES HK3
  have HFIN := Lib.hid (setRow_at w4 w.heap.size _ #[.int .i64 3, .int .i64 0, .string { data := t }] 24 (0, 0) HRES4.out)
  have HFROW := Lib.hid ((setRow_other w4 w.heap.size G #[.int .i64 3, .int .i64 0, .string { data := t }] hne).trans HROW4.out)
  have HKF := Lib.hid (HK4.out.addRow #[.int .i64 3, .int .i64 0, .string { data := t }] (Nat.le_refl w.heap.size))
  go_wp2_with (refine wpList_store_row rfl 24 (.tmp 4) (.tmp 25) rfl w.heap.size #[.int .i64 3, .int .i64 0, .string { data := t }] rfl rfl 24 _ HRES4.out (by rw [size24]; rfl) rfl (by simp [Value.oneCell']) ?_)
  exact bodyPost_ret (v := .tuple #[.agg #[.int .i64 3, .int .i64 0, .string { data := t }], .string { data := #[] }]) (res50 _ _ w.heap.size _ rfl HFIN.out) rfl ⟨rfl, HFROW.out, HKF.out⟩
set_option maxRecDepth 10000 in
set_option maxHeartbeats 1000000 in
theorem mkp_no (w : World) (G ob : Nat) (tb : Value) (c s : Int) (t : Array UInt8) (h : w.heap[G]? = some (.cells #[tb, .int .i64 c, .int .i64 s, .map (some ob)] 51 (0, 0))) (ht : t.size ≤ 2000) (h0 : 0 ≤ s) (hs : c < s + kk t) (hc0 : 0 ≤ c) (hsc : s ≤ c) (hc : c ≤ 1000000) :
    Calls Tryd.prog 50 #[.pointer (some ⟨G, 0, none⟩), .string { data := t }] w fun e w' => e = .returned (.tuple #[.agg #[.int .i64 0, .int .i64 0, .string { data := #[] }], .string { data := #[109, 101, 109, 111, 114, 121] }]) ∧ w'.heap[G]? = some (.cells #[tb, .int .i64 c, .int .i64 s, .map (some ob)] 51 (0, 0)) ∧ KB G w w' := by
  have hkk : kk t = (t.size : Int) / 16 + 1 := rfl
  have hHl := hlt h
  have hts := ht
  have hsz : (ByteArray.mk t).size = t.size := rfl
  have HH := Lib.hid (alloc_at (o' := (.cells #[.int .i64 0, .int .i64 0, .string { data := #[] }] 24)) h)
  have HR := Lib.hid (newc w (.cells #[.int .i64 0, .int .i64 0, .string { data := #[] }] 24))
  have HK := Lib.hid (KB.of_below G ((Below.refl w.heap.size w).alloc (Nat.le_refl _) (.cells #[.int .i64 0, .int .i64 0, .string { data := #[] }] 24)) (by omega))
  have hne : w.heap.size ≠ G := by omega
  have hl1 : ((ByteArray.mk t).size : Int) ≤ 2000 := by rw [hsz]; omega
  clear h hsz
  go_enter Tryd.func50, Tryd.ntmps50
  go_wp2_with fail
  generalize w.alloc (.cells #[.int .i64 0, .int .i64 0, .string { data := #[] }] 24) = w1 at *
  refine (none_heap G ob tb c s _ HH.out).mono ?_
  rintro e w2 ⟨rfl, rfl⟩
  go_wp2_with fail
  refine (sp_no _ G ob tb c s (kk t) HH.out h0 (by omega) hs hc0 hsc hc).mono ?_
  rintro e w3 ⟨rfl, m, hw3⟩
  have hrow3 : w3.heap[G]? = some (.cells #[tb, .int .i64 c, .int .i64 s, .map (some ob)] 51 (0, 0)) := by rw [hw3]; exact HH.out
  have hres3 : w3.heap[w.heap.size]? = some (.cells #[.int .i64 0, .int .i64 0, .string { data := #[] }] 24 (0, 0)) := by rw [hw3]; exact HR.out
  have hk3 : KB G w w3 := by rw [hw3]; exact HK.out.trans (KB.drew _ G m)
  have HROW4 := Lib.hid hrow3
  have HRES4 := Lib.hid hres3
  have HK4 := Lib.hid hk3
  clear hw3 hrow3 hres3 hk3 HK HR HH hkk
  have HFIN := Lib.hid (setRow_at w3 w.heap.size _ #[.int .i64 0, .int .i64 0, .string { data := #[] }] 24 (0, 0) HRES4.out)
  have HFROW := Lib.hid ((setRow_other w3 w.heap.size G #[.int .i64 0, .int .i64 0, .string { data := #[] }] hne).trans HROW4.out)
  have HKF := Lib.hid (HK4.out.addRow #[.int .i64 0, .int .i64 0, .string { data := #[] }] (Nat.le_refl w.heap.size))
  go_wp2_with (refine wpList_store_row rfl 24 (.tmp 4) (.tmp 23) rfl w.heap.size #[.int .i64 0, .int .i64 0, .string { data := #[] }] rfl rfl 24 _ HRES4.out (by rw [size24]; rfl) rfl (by simp [Value.oneCell']) ?_)
  exact bodyPost_ret (v := .tuple #[.agg #[.int .i64 0, .int .i64 0, .string { data := #[] }], .string { data := #[109, 101, 109, 111, 114, 121] }]) (res50 _ _ w.heap.size _ rfl HFIN.out) rfl ⟨rfl, HFROW.out, HKF.out⟩
set_option maxRecDepth 10000 in
set_option maxHeartbeats 1000000 in
theorem mkr_yes (w : World) (G : Nat) (c s : Int) (t : Array UInt8) (h : w.heap[G]? = some (.cells #[.slice none 0 0, .int .i64 c, .int .i64 s] 38 (0, 0))) (ht : t.size ≤ 2000) (h0 : 0 ≤ s) (hs : s + kk t ≤ c) (hc : c ≤ 1000000) :
    Calls Tryd.prog 24 #[.pointer (some ⟨G, 0, none⟩), .string { data := t }] w fun e w' => e = .returned (.tuple #[.agg #[.int .i64 3, .int .i64 0, .string { data := t }], .string { data := #[] }]) ∧ w'.heap[G]? = some (.cells #[.slice none 0 0, .int .i64 c, .int .i64 (s + kk t)] 38 (0, 0)) ∧ KB G w w' := by
  have hkk : kk t = (t.size : Int) / 16 + 1 := rfl
  have hHl := hlt h
  have hts := ht
  have hsz : (ByteArray.mk t).size = t.size := rfl
  have HH := Lib.hid (alloc_at (o' := (.cells #[.int .i64 0, .int .i64 0, .string { data := #[] }] 24)) h)
  have HR := Lib.hid (newc w (.cells #[.int .i64 0, .int .i64 0, .string { data := #[] }] 24))
  have HK := Lib.hid (KB.of_below G ((Below.refl w.heap.size w).alloc (Nat.le_refl _) (.cells #[.int .i64 0, .int .i64 0, .string { data := #[] }] 24)) (by omega))
  have hne : w.heap.size ≠ G := by omega
  have hl1 : ((ByteArray.mk t).size : Int) ≤ 2000 := by rw [hsz]; omega
  clear h hsz
  go_enter Tryd.func24, Tryd.ntmps24
  go_wp2_with fail
  generalize w.alloc (.cells #[.int .i64 0, .int .i64 0, .string { data := #[] }] 24) = w1 at *
  refine (tk_yes _ G c s (kk t) HH.out h0 (by omega) hs hc).mono ?_
  rintro e w3 ⟨rfl, m, hw3⟩
  have hrow3 : w3.heap[G]? = some (.cells #[.slice none 0 0, .int .i64 c, .int .i64 (s + kk t)] 38 (0, 0)) := by rw [hw3]; exact heap_setCell_same _ G 2 _ 38 _ HH.out
  have hres3 : w3.heap[w.heap.size]? = some (.cells #[.int .i64 0, .int .i64 0, .string { data := #[] }] 24 (0, 0)) := by rw [hw3]; exact (heap_setCell_other _ ⟨G, 2, none⟩ w.heap.size _ hne).trans HR.out
  have hk3 : KB G w w3 := by rw [hw3]; exact HK.out.trans (KB.set _ G 2 _ m)
  have HROW := Lib.hid hrow3
  have HRES := Lib.hid hres3
  have HK3 := Lib.hid hk3
  clear hw3 hrow3 hres3 hk3 HK HR HH hkk
  go_wp2_with fail
  refine (rtext_any _ _).mono ?_
  rintro e w4 ⟨rfl, hb4⟩
  have HROW4 := Lib.hid ((hb4.block _ (hlt HROW.out)).trans HROW.out)
  have HRES4 := Lib.hid ((hb4.block _ (hlt HRES.out)).trans HRES.out)
  have HK4 := Lib.hid (HK3.out.trans (KB.of_below G hb4 (hlt HROW.out)))
  clear hb4 HROW HRES HK3
  have HFIN := Lib.hid (setRow_at w4 w.heap.size _ #[.int .i64 3, .int .i64 0, .string { data := t }] 24 (0, 0) HRES4.out)
  have HFROW := Lib.hid ((setRow_other w4 w.heap.size G #[.int .i64 3, .int .i64 0, .string { data := t }] hne).trans HROW4.out)
  have HKF := Lib.hid (HK4.out.addRow #[.int .i64 3, .int .i64 0, .string { data := t }] (Nat.le_refl w.heap.size))
  go_wp2_with (refine wpList_store_row rfl 24 (.tmp 4) (.tmp 19) rfl w.heap.size #[.int .i64 3, .int .i64 0, .string { data := t }] rfl rfl 24 _ HRES4.out (by rw [size24]; rfl) rfl (by simp [Value.oneCell']) ?_)
  exact bodyPost_ret (v := .tuple #[.agg #[.int .i64 3, .int .i64 0, .string { data := t }], .string { data := #[] }]) (res24 _ _ w.heap.size _ rfl HFIN.out) rfl ⟨rfl, HFROW.out, HKF.out⟩
set_option maxRecDepth 10000 in
set_option maxHeartbeats 1000000 in
theorem mkr_no (w : World) (G : Nat) (c s : Int) (t : Array UInt8) (h : w.heap[G]? = some (.cells #[.slice none 0 0, .int .i64 c, .int .i64 s] 38 (0, 0))) (ht : t.size ≤ 2000) (h0 : 0 ≤ s) (hs : c < s + kk t) (hc0 : 0 ≤ c) (hsc : s ≤ c) (hc : c ≤ 1000000) :
    Calls Tryd.prog 24 #[.pointer (some ⟨G, 0, none⟩), .string { data := t }] w fun e w' => e = .returned (.tuple #[.agg #[.int .i64 0, .int .i64 0, .string { data := #[] }], .string { data := #[109, 101, 109, 111, 114, 121] }]) ∧ w'.heap[G]? = some (.cells #[.slice none 0 0, .int .i64 c, .int .i64 s] 38 (0, 0)) ∧ KB G w w' := by
  have hkk : kk t = (t.size : Int) / 16 + 1 := rfl
  have hHl := hlt h
  have hts := ht
  have hsz : (ByteArray.mk t).size = t.size := rfl
  have HH := Lib.hid (alloc_at (o' := (.cells #[.int .i64 0, .int .i64 0, .string { data := #[] }] 24)) h)
  have HR := Lib.hid (newc w (.cells #[.int .i64 0, .int .i64 0, .string { data := #[] }] 24))
  have HK := Lib.hid (KB.of_below G ((Below.refl w.heap.size w).alloc (Nat.le_refl _) (.cells #[.int .i64 0, .int .i64 0, .string { data := #[] }] 24)) (by omega))
  have hne : w.heap.size ≠ G := by omega
  have hl1 : ((ByteArray.mk t).size : Int) ≤ 2000 := by rw [hsz]; omega
  clear h hsz
  go_enter Tryd.func24, Tryd.ntmps24
  go_wp2_with fail
  generalize w.alloc (.cells #[.int .i64 0, .int .i64 0, .string { data := #[] }] 24) = w1 at *
  refine (tk_no _ G c s (kk t) HH.out h0 (by omega) hs hc0 hsc hc).mono ?_
  rintro e w3 ⟨rfl, m, hw3⟩
  have hrow3 : w3.heap[G]? = some (.cells #[.slice none 0 0, .int .i64 c, .int .i64 s] 38 (0, 0)) := by rw [hw3]; exact HH.out
  have hres3 : w3.heap[w.heap.size]? = some (.cells #[.int .i64 0, .int .i64 0, .string { data := #[] }] 24 (0, 0)) := by rw [hw3]; exact HR.out
  have hk3 : KB G w w3 := by rw [hw3]; exact HK.out.trans (KB.drew _ G m)
  have HROW4 := Lib.hid hrow3
  have HRES4 := Lib.hid hres3
  have HK4 := Lib.hid hk3
  clear hw3 hrow3 hres3 hk3 HK HR HH hkk
  have HFIN := Lib.hid (setRow_at w3 w.heap.size _ #[.int .i64 0, .int .i64 0, .string { data := #[] }] 24 (0, 0) HRES4.out)
  have HFROW := Lib.hid ((setRow_other w3 w.heap.size G #[.int .i64 0, .int .i64 0, .string { data := #[] }] hne).trans HROW4.out)
  have HKF := Lib.hid (HK4.out.addRow #[.int .i64 0, .int .i64 0, .string { data := #[] }] (Nat.le_refl w.heap.size))
  go_wp2_with (refine wpList_store_row rfl 24 (.tmp 4) (.tmp 17) rfl w.heap.size #[.int .i64 0, .int .i64 0, .string { data := #[] }] rfl rfl 24 _ HRES4.out (by rw [size24]; rfl) rfl (by simp [Value.oneCell']) ?_)
  exact bodyPost_ret (v := .tuple #[.agg #[.int .i64 0, .int .i64 0, .string { data := #[] }], .string { data := #[109, 101, 109, 111, 114, 121] }]) (res24 _ _ w.heap.size _ rfl HFIN.out) rfl ⟨rfl, HFROW.out, HKF.out⟩
end Go.Proofs.YthbnhplkoomdhaaDoor
