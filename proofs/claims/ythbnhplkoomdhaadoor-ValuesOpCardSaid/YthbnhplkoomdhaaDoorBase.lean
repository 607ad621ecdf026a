/- A heap as New makes it, and the law's known values. -/
import Derived.Test.YthbnhplkoomdhaaDoorOpArith
import Derived.Deep.AppendLies
import Derived.OwnWalk
namespace Go.Proofs.YthbnhplkoomdhaaDoor
open Go Go.RowKit
set_option maxRecDepth 10000 in
set_option maxHeartbeats 2000000 in
theorem op_run_no (w : World) (H ob p : Nat) (tb : Value) (c s y : Int) (k : Array UInt8) (va vb : Int) (vs why : Array UInt8)
    (hH : w.heap[H]? = some (.cells #[tb, .int .i64 c, .int .i64 s, .map (some ob)] 51 (0, 0)))
    (hlk : ∀ W, Below w.heap.size w W → (Instr.lookup 47 (.map (some ob)) (.string { data := k }) false).run Tryd.prog W = .ok (.func (.func 48) #[] #[.pointer (some ⟨p, 0, none⟩)]) W)
    (hr : ∀ W, Below w.heap.size w W → Calls Tryd.prog 48 #[.pointer (some ⟨H, 0, none⟩), valNo, valI y, .pointer (some ⟨p, 0, none⟩)] W fun e w' => e = .returned (.tuple #[.agg #[.int .i64 va, .int .i64 vb, .string { data := vs }], .string { data := why }]) ∧ Below W.heap.size W w') :
    Calls Tryd.prog 10 #[.pointer (some ⟨H, 0, none⟩), .string { data := k }, valNo, valI y] w fun e w' => e = .returned (.tuple #[.agg #[.int .i64 va, .int .i64 vb, .string { data := vs }], .string { data := why }]) ∧ Below w.heap.size w w' := by
  have hb3 : Below w.heap.size w (((w.alloc (.cells #[.int .i64 0, .int .i64 0, .string { data := #[] }] 24)).alloc (.cells #[.int .i64 2, .int .i64 y, .string { data := #[] }] 24)).alloc (.cells #[.int .i64 0, .int .i64 0, .string { data := #[] }] 24)) := (((Below.refl w.heap.size w).alloc (Nat.le_refl _) _).alloc (by simp) _).alloc (by simp; omega) _
  have ha3 : (((w.alloc (.cells #[.int .i64 0, .int .i64 0, .string { data := #[] }] 24)).alloc (.cells #[.int .i64 2, .int .i64 y, .string { data := #[] }] 24)).alloc (.cells #[.int .i64 0, .int .i64 0, .string { data := #[] }] 24)).heap[w.heap.size]? = some (.cells #[.int .i64 0, .int .i64 0, .string { data := #[] }] 24) := (Below.heap_alloc _ _ _ (by simp; omega)).trans ((Below.heap_alloc _ _ _ (by simp)).trans (newc w _))
  have hb3' : (((w.alloc (.cells #[.int .i64 0, .int .i64 0, .string { data := #[] }] 24)).alloc (.cells #[.int .i64 2, .int .i64 y, .string { data := #[] }] 24)).alloc (.cells #[.int .i64 0, .int .i64 0, .string { data := #[] }] 24)).heap[w.heap.size + 1]? = some (.cells #[.int .i64 2, .int .i64 y, .string { data := #[] }] 24) := (Below.heap_alloc _ _ _ (by simp)).trans (by have := newc (w.alloc (.cells #[.int .i64 0, .int .i64 0, .string { data := #[] }] 24)) (.cells #[.int .i64 2, .int .i64 y, .string { data := #[] }] 24); simpa using this)
  have hc3 : (((w.alloc (.cells #[.int .i64 0, .int .i64 0, .string { data := #[] }] 24)).alloc (.cells #[.int .i64 2, .int .i64 y, .string { data := #[] }] 24)).alloc (.cells #[.int .i64 0, .int .i64 0, .string { data := #[] }] 24)).heap[w.heap.size + 1 + 1]? = some (.cells #[.int .i64 0, .int .i64 0, .string { data := #[] }] 24) := by have := newc ((w.alloc (.cells #[.int .i64 0, .int .i64 0, .string { data := #[] }] 24)).alloc (.cells #[.int .i64 2, .int .i64 y, .string { data := #[] }] 24)) (.cells #[.int .i64 0, .int .i64 0, .string { data := #[] }] 24); simpa using this
  have hHl := hlt' hH
  have hH3 : (((w.alloc (.cells #[.int .i64 0, .int .i64 0, .string { data := #[] }] 24)).alloc (.cells #[.int .i64 2, .int .i64 y, .string { data := #[] }] 24)).alloc (.cells #[.int .i64 0, .int .i64 0, .string { data := #[] }] 24)).heap[H]? = some (.cells #[tb, .int .i64 c, .int .i64 s, .map (some ob)] 51 (0, 0)) := (hb3.block _ hHl).trans hH
  have hlk3 := hlk _ hb3
  have he := eq53 (.func 48) #[] #[.pointer (some ⟨p, 0, none⟩)]
  have hc : (((w.alloc (.cells #[.int .i64 0, .int .i64 0, .string { data := #[] }] 24)).alloc (.cells #[.int .i64 2, .int .i64 y, .string { data := #[] }] 24)).alloc (.cells #[.int .i64 0, .int .i64 0, .string { data := #[] }] 24)).cell? ⟨H, 3, none⟩ = some (.map (some ob)) := by rw [cell_of_row _ H 3 _ 51 (0, 0) hH3]; rfl
  have HR := Lib.hid hr
  have HA3 := Lib.hid ha3
  have HB3 := Lib.hid hb3'
  have HC3 := Lib.hid hc3
  have HH3 := Lib.hid hH3
  clear hr hlk hH ha3 hb3' hc3 hH3
  go_enter Tryd.func10, Tryd.ntmps10
  go_wp2_with fail
  refine (none_heap H ob tb c s _ HH3.out).mono ?_
  rintro e w3 ⟨rfl, rfl⟩
  go_wp2_with fail
  generalize (((w.alloc (.cells #[.int .i64 0, .int .i64 0, .string { data := #[] }] 24)).alloc (.cells #[.int .i64 2, .int .i64 y, .string { data := #[] }] 24)).alloc (.cells #[.int .i64 0, .int .i64 0, .string { data := #[] }] 24)) = w3 at *
  refine (check_no w3).mono ?_
  rintro e w4 ⟨rfl, hb4⟩
  have ha4 := (hb4.block _ (hlt' HA3.out)).trans HA3.out
  have hbb4 := (hb4.block _ (hlt' HB3.out)).trans HB3.out
  have hc4 := (hb4.block _ (hlt' HC3.out)).trans HC3.out
  have hbw4 := hb3.trans (hb4.mono hb3.size)
  obtain ⟨y0, y1, y2⟩ := box3 hbb4
  have HA4 := Lib.hid ha4
  have HB4 := Lib.hid hbb4
  have HC4 := Lib.hid hc4
  clear ha4 hbb4 hc4 hlk3 hc
  go_wp2_with fail
  refine (check_int y w4).mono ?_
  rintro e w5 ⟨rfl, hb5⟩
  have ha5 := (hb5.block _ (hlt' HA4.out)).trans HA4.out
  have hbb5 := (hb5.block _ (hlt' HB4.out)).trans HB4.out
  have hc5 := (hb5.block _ (hlt' HC4.out)).trans HC4.out
  have hbw5 := hbw4.trans (hb5.mono hbw4.size)
  clear y0 y1 y2
  obtain ⟨y0, y1, y2⟩ := box3 hbb5
  obtain ⟨x0, x1, x2⟩ := box3 ha5
  have HC5 := Lib.hid hc5
  clear ha5 hbb5 hc5
  go_wp2_with fail
  refine (HR.out w5 hbw5).mono ?_
  rintro e w6 ⟨rfl, hb6⟩
  have hc6 := (hb6.block _ (hlt' HC5.out)).trans HC5.out
  have hbw6 := hbw5.trans (hb6.mono hbw5.size)
  have HC6 := Lib.hid hc6
  have HROW := Lib.hid (setRow_at w6 (w.heap.size + 1 + 1) _ #[.int .i64 va, .int .i64 vb, .string { data := vs }] 24 (0, 0) hc6)
  have hbelow : Below w.heap.size w (w6.setRow (w.heap.size + 1 + 1) #[.int .i64 va, .int .i64 vb, .string { data := vs }]) := setRow_below hbw6 (by omega) _
  clear hc6
  go_wp2_with (refine wpList_store_row rfl 24 (.tmp 8) (.tmp 38) rfl (w.heap.size + 1 + 1) #[.int .i64 va, .int .i64 vb, .string { data := vs }] rfl rfl 24 _ HC6.out (by rw [size24]; rfl) rfl (by simp [Value.oneCell']) ?_)
  exact bodyPost_ret (v := .tuple #[.agg #[.int .i64 va, .int .i64 vb, .string { data := vs }], .string { data := why }]) (res10 _ _ (w.heap.size + 1 + 1) _ rfl HROW.out) rfl ⟨rfl, hbelow⟩

theorem op_plus_no (w : World) (H ob : Nat) (tb : Value) (c s y : Int) (h : HeapAt w H ob tb c s) :
    Calls Tryd.prog 10 #[.pointer (some ⟨H, 0, none⟩), .string { data := #[43] }, valNo, valI y] w fun e w' => e = .returned (.tuple #[valNo, .string { data := #[116, 121, 112, 101] }]) ∧ Below w.heap.size w w' := by
  obtain ⟨hH, p, q, hT⟩ := h
  exact op_run_no w H ob (p 0) tb c s y #[43] _ _ _ #[116, 121, 112, 101] hH (fun W hW => look47 (hT.below hW) #[43] 0 _ (by rfl)) (fun W _ => rec_type W _ _ y)
theorem setRow_other (w : World) (g k : Nat) (cs : Array Value) (h : g ≠ k) : (w.setRow g cs).heap[k]? = w.heap[k]? := by
  simp [World.setRow, Array.getElem?_modify, h]
theorem below_drewN {B : Nat} {a w : World} (h : Below B a w) (n : Nat) : Below B a (w.drewN n) := ⟨h.os, h.tape, h.output, h.size, h.block⟩
theorem new_any (n : Nat) (w : World) (hn : n ≤ 1000) :
    Calls Tryd.prog 8 #[.int .i64 n] w fun e w' => ∃ H ob, e = .returned (.pointer (some ⟨H, 0, none⟩)) ∧ HeapAt w' H ob (.slice none 0 0) n 0 ∧ Below w.heap.size w w' ∧ w.heap.size ≤ H := by
  go_enter Tryd.func8, Tryd.ntmps8
  go_wp2_with fail
  refine (ops_any w).mono ?_
  rintro e w1 ⟨ob, rfl, ho, hb1⟩
  have hrow : (w1.alloc (.cells #[.slice none 0 0, .int .i64 n, .int .i64 0, .map (some ob)] 51)).heap[w1.heap.size]? = some (.cells #[.slice none 0 0, .int .i64 n, .int .i64 0, .map (some ob)] 51 (0, 0)) := newc w1 _
  have ho2 : OpsAt (w1.alloc (.cells #[.slice none 0 0, .int .i64 n, .int .i64 0, .map (some ob)] 51)) ob := ho.below ((Below.refl _ _).alloc (Nat.le_refl _) _)
  have hb2 : Below w.heap.size w (w1.alloc (.cells #[.slice none 0 0, .int .i64 n, .int .i64 0, .map (some ob)] 51)) := hb1.alloc hb1.size _
  have HR := Lib.hid hrow
  have HO := Lib.hid ho2
  clear hrow ho ho2
  go_wp2
  go_ret
  exact ⟨_, ob, rfl, ⟨HR.out, HO.out⟩, hb2, hb1.size⟩
set_option maxRecDepth 10000 in
theorem spent_any (H ob : Nat) (tb : Value) (c s : Int) (w : World) (h : w.heap[H]? = some (.cells #[tb, .int .i64 c, .int .i64 s, .map (some ob)] 51 (0, 0))) :
    Calls Tryd.prog 12 #[.pointer (some ⟨H, 0, none⟩)] w fun e w' => e = .returned (.int .i64 s) ∧ w' = w := by
  have h2 : w.cell? ⟨H, 2, none⟩ = some (.int .i64 s) := by rw [cell_of_row w H 2 _ 51 (0, 0) h]; rfl
  have HH := Lib.hid h
  clear h
  go_enter Tryd.func12, Tryd.ntmps12
  go_wp2_with (go_at_call 19; refine (none_heap H ob tb c s _ HH.out).mono ?_; rintro e w' ⟨rfl, rfl⟩)
  go_ret
  exact ⟨rfl, rfl⟩
set_option maxRecDepth 10000 in
theorem spend_any (H ob : Nat) (tb : Value) (c s n : Int) (w : World) (h : HeapAt w H ob tb c s) (h0 : 0 ≤ s) (hn : 0 ≤ n) (hs : s + n ≤ c) (hc : c ≤ 1000000) :
    Calls Tryd.prog 26 #[.pointer (some ⟨H, 0, none⟩), .int .i64 n] w fun e w' => e = .returned (.bool true) ∧ ∃ m, w' = (w.setCell ⟨H, 2, none⟩ (.int .i64 (s + n))).drewN m := by
  have h1 : w.cell? ⟨H, 1, none⟩ = some (.int .i64 c) := by rw [cell_of_row w H 1 _ 51 (0, 0) h.1]; rfl
  have h2 : w.cell? ⟨H, 2, none⟩ = some (.int .i64 s) := by rw [cell_of_row w H 2 _ 51 (0, 0) h.1]; rfl
  have hf : ∀ q, w.frozen? ⟨H, q, none⟩ = false := fun q => frozen_of_row w H q _ 51 h.1
  have d1 : decide (n > c - s) = false := by simp; omega
  have w1 : IntKind.i64.wrap (c - s) = c - s := IntWalk.i64_in _ (by omega)
  clear h
  go_enter Tryd.func26, Tryd.ntmps26
  go_wp2_with fail
  go_quiet (fail)
  go_wp2
  go_ret
  exact ⟨rfl, nq, rfl⟩
theorem info64 : (Tryd.prog.info? 64).map (fun i => (i.zero, i.size, i.bytes)) = some (some (.agg #[.map none, .map none, .int .i64 0]), 3, 24) := by kernel_rfl
theorem res17 (tmps : Array Value) (w : World) (g : Nat) (cs : Array Value) (hp : tmps.getD 2 undef = .pointer (some ⟨g, 0, none⟩)) (hg : w.heap[g]? = some (.cells cs 24 (0, 0))) (hs : cs.size = 3 := by rfl) :
    (results Tryd.f17 tmps).run Tryd.prog w = .ok (.tuple #[.agg cs, tmps.getD 3 undef]) w := by
  rw [results_cell_tmp Tryd.results17, hp]
  simp only [asAddr, Sem.run_pure, Result.andThen_ok]
  rw [run_loadVar_row (P := Tryd.prog) w g 24 24 cs (0, 0) _ hg Tryd.underlying24 rfl (by rw [size24, hs])]
  rfl
set_option maxRecDepth 10000 in
set_option maxHeartbeats 1000000 in
theorem table_any (H ob : Nat) (c : Int) (w : World) (h : HeapAt w H ob (.slice none 0 0) c 0) (h1 : 1 ≤ c) (hc : c ≤ 1000000) :
    Calls Tryd.prog 17 #[.pointer (some ⟨H, 0, none⟩)] w fun e w' => e = .returned (.tuple #[.agg #[.int .i64 4, .int .i64 0, .string { data := #[] }], .string { data := #[] }]) ∧ (∃ tb, w'.heap[H]? = some (.cells #[tb, .int .i64 c, .int .i64 1, .map (some ob)] 51 (0, 0))) ∧ Below H w w' ∧ (∀ k, k ≠ H → k < w.heap.size → w'.heap[k]? = w.heap[k]?) := by
  have hHl := hlt h.1
  have hb1 : Below w.heap.size w (w.alloc (.cells #[.int .i64 0, .int .i64 0, .string { data := #[] }] 24)) := (Below.refl w.heap.size w).alloc (Nat.le_refl _) _
  have h1w := h.below hb1
  have hres : (w.alloc (.cells #[.int .i64 0, .int .i64 0, .string { data := #[] }] 24)).heap[w.heap.size]? = some (.cells #[.int .i64 0, .int .i64 0, .string { data := #[] }] 24 (0, 0)) := newc w _
  have HH := Lib.hid h1w
  have HRES := Lib.hid hres
  clear h h1w hres
  go_enter Tryd.func17, Tryd.ntmps17
  go_wp2_with fail
  generalize w.alloc (.cells #[.int .i64 0, .int .i64 0, .string { data := #[] }] 24) = w1 at *
  refine (none_heap H ob _ c 0 w1 HH.out.1).mono ?_
  rintro e w2 ⟨rfl, rfl⟩
  go_wp2_with fail
  refine (spend_any H ob _ c 0 1 w2 HH.out (by omega) (by omega) (by omega) hc).mono ?_
  rintro e w3 ⟨rfl, m, hw3⟩
  have hrow3 : w3.heap[H]? = some (.cells #[.slice none 0 0, .int .i64 c, .int .i64 1, .map (some ob)] 51 (0, 0)) := by
    rw [hw3]; exact heap_setCell_same w2 H 2 _ 51 (.int .i64 (0 + 1)) HH.out.1
  have hres3 : w3.heap[w.heap.size]? = some (.cells #[.int .i64 0, .int .i64 0, .string { data := #[] }] 24 (0, 0)) := by
    rw [hw3]; exact (heap_setCell_other w2 ⟨H, 2, none⟩ w.heap.size _ (show w.heap.size ≠ H by omega)).trans HRES.out
  have hb3 : Below H w w3 := by
    rw [hw3]; exact below_drewN ((hb1.mono (B' := H) (by omega)).setCell (p := ⟨H, 2, none⟩) (Nat.le_refl _) _) m
  have hsz3 : w.heap.size < w3.heap.size := hlt hres3
  have hk3 : ∀ k, k ≠ H → k < w.heap.size → w3.heap[k]? = w.heap[k]? := fun k hk hl => by
    rw [hw3]; exact (heap_setCell_other w2 ⟨H, 2, none⟩ k _ (show k ≠ H from hk)).trans (hb1.block k hl)
  clear hw3 hb1
  have c0 : w3.cell? ⟨H, 0, none⟩ = some (.slice none 0 0) := by rw [cell_of_row w3 H 0 _ 51 (0, 0) hrow3]; rfl
  obtain ⟨i0, hi, hz0, hz1, hz2⟩ := info_parts info64
  have hown : w3.ownsRow w3.heap.size 64 3 (.slice none 0 0) 0 [] := World.ownsRow_nil w3 _ _ _
  have HROW := Lib.hid hrow3
  have HRES3 := Lib.hid hres3
  clear hrow3 hres3
  go_wp2_with (first
    | (at_builtin
       refine wpList_append_own _ rfl (.tmp 16) (.tmp 18) _ rfl w3.heap.size 64 i0 _ 3 24 Tryd.underlying49 hi hz0 hz1 hz2 rfl (by omega) (.slice none 0 0) 0 [] rfl (hown.alloc _) ⟨w3.heap.size, 0, none⟩ 1 1 [.map none, .map none, .int .i64 0] rfl rfl (World.news_of_block (cs := #[.map none, .map none, .int .i64 0]) (t := 64) (fr := (0, 0)) (newc w3 _)) (by simp [Value.oneCell']) (by simp [maxLen]) (by omega) (by simp) ?_
       intro v4 w4 hown4 hg4 _
       have hb4 : Below w3.heap.size w3 w4 := ((Below.refl w3.heap.size w3).alloc (Nat.le_refl _) (.cells #[.map none, .map none, .int .i64 0] 64)).grown hg4 (by simp) (by simp [Value.ownBlock])
       obtain ⟨g, cap, rfl, _, _⟩ := hown4.form (by omega)
       have hrow4 : w4.heap[H]? = some (.cells #[.slice none 0 0, .int .i64 c, .int .i64 1, .map (some ob)] 51 (0, 0)) := (hb4.block _ (by omega)).trans HROW.out
       have hres4 : w4.heap[w.heap.size]? = some (.cells #[.int .i64 0, .int .i64 0, .string { data := #[] }] 24 (0, 0)) := (hb4.block _ hsz3).trans HRES3.out
       have y0 : w4.cell? ⟨H, 0, none⟩ = some (.slice none 0 0) := by rw [cell_of_row w4 H 0 _ 51 (0, 0) hrow4]; rfl
       have yf : w4.frozen? ⟨H, 0, none⟩ = false := frozen_of_row w4 H 0 _ 51 hrow4
       have hrow5 : (w4.setCell ⟨H, 0, none⟩ (.slice (some ⟨g, 0, none⟩) 1 cap)).heap[H]? = some (.cells #[.slice (some ⟨g, 0, none⟩) 1 cap, .int .i64 c, .int .i64 1, .map (some ob)] 51 (0, 0)) := heap_setCell_same w4 H 0 _ 51 _ hrow4
       have hres5 : (w4.setCell ⟨H, 0, none⟩ (.slice (some ⟨g, 0, none⟩) 1 cap)).heap[w.heap.size]? = some (.cells #[.int .i64 0, .int .i64 0, .string { data := #[] }] 24 (0, 0)) := (heap_setCell_other w4 ⟨H, 0, none⟩ w.heap.size _ (show w.heap.size ≠ H by omega)).trans hres4
       have hb5 : Below H w (w4.setCell ⟨H, 0, none⟩ (.slice (some ⟨g, 0, none⟩) 1 cap)) := (hb3.trans (hb4.mono (B' := H) (by omega))).setCell (p := ⟨H, 0, none⟩) (Nat.le_refl _) _
       have HROW5 := Lib.hid hrow5
       have HRES5 := Lib.hid hres5
       have hrow6 := setRow_at (w4.setCell ⟨H, 0, none⟩ (.slice (some ⟨g, 0, none⟩) 1 cap)) w.heap.size _ #[.int .i64 4, .int .i64 0, .string { data := #[] }] 24 (0, 0) hres5
       have hfin : ((w4.setCell ⟨H, 0, none⟩ (.slice (some ⟨g, 0, none⟩) 1 cap)).setRow w.heap.size #[.int .i64 4, .int .i64 0, .string { data := #[] }]).heap[H]? = some (.cells #[.slice (some ⟨g, 0, none⟩) 1 cap, .int .i64 c, .int .i64 1, .map (some ob)] 51 (0, 0)) := (setRow_other (w4.setCell ⟨H, 0, none⟩ (.slice (some ⟨g, 0, none⟩) 1 cap)) w.heap.size H #[.int .i64 4, .int .i64 0, .string { data := #[] }] (show w.heap.size ≠ H by omega)).trans hrow5
       have hb6 : Below H w ((w4.setCell ⟨H, 0, none⟩ (.slice (some ⟨g, 0, none⟩) 1 cap)).setRow w.heap.size #[.int .i64 4, .int .i64 0, .string { data := #[] }]) := setRow_below hb5 (by omega) _
       have hk6 : ∀ k, k ≠ H → k < w.heap.size → ((w4.setCell ⟨H, 0, none⟩ (.slice (some ⟨g, 0, none⟩) 1 cap)).setRow w.heap.size #[.int .i64 4, .int .i64 0, .string { data := #[] }]).heap[k]? = w.heap[k]? := fun k hk hl =>
         (setRow_other _ w.heap.size k _ (show w.heap.size ≠ k by omega)).trans ((heap_setCell_other w4 ⟨H, 0, none⟩ k _ (show k ≠ H from hk)).trans ((hb4.block k (by omega)).trans (hk3 k hk hl)))
       have HROW6 := Lib.hid hrow6
       have HFIN := Lib.hid hfin
       clear hrow4 hres4 hrow5 hres5 hown4 hrow6 hfin)
    | (refine wpList_store_row rfl 24 (.tmp 2) (.tmp 28) rfl w.heap.size #[.int .i64 4, .int .i64 0, .string { data := #[] }] rfl rfl 24 _ HRES5.out (by rw [size24]; rfl) rfl (by simp [Value.oneCell']) ?_))
  exact bodyPost_ret (v := .tuple #[.agg #[.int .i64 4, .int .i64 0, .string { data := #[] }], .string { data := #[] }]) (res17 _ _ w.heap.size _ rfl HROW6.out) rfl ⟨rfl, ⟨_, HFIN.out⟩, hb6, hk6⟩
set_option maxRecDepth 10000 in
set_option maxHeartbeats 1000000 in
theorem known_any (w : World) : Calls Tryd.prog 7 #[] w fun e w' => e = .returned (.bool true) ∧ Below w.heap.size w w' := by
  go_enter Tryd.func7, Tryd.ntmps7
  go_wp2_with fail
  refine (new_any 10 w (by omega)).mono ?_
  rintro e w1 ⟨H, ob, rfl, hH, hb1, hHge⟩
  have HH := Lib.hid hH
  clear hH
  go_wp2_with fail
  refine (int_any 2 w1).mono ?_
  rintro e w2 ⟨rfl, hb2⟩
  go_wp2_with fail
  refine (int_any 3 w2).mono ?_
  rintro e w3 ⟨rfl, hb3⟩
  have h3 := (HH.out.below hb2).below hb3
  have hbw3 := (hb1.trans (hb2.mono hb1.size)).trans (hb3.mono (hb1.trans (hb2.mono hb1.size)).size)
  have HH3 := Lib.hid h3
  clear h3
  go_wp2_with fail
  refine (op_add_fine w3 H ob _ 10 0 2 3 HH3.out (by decide) (by decide) (by decide)).mono ?_
  rintro e w4 ⟨rfl, hb4⟩
  have e5 : (.tuple #[valI (2 + 3), .string { data := #[] }] : Value) = .tuple #[.agg #[.int .i64 2, .int .i64 5, .string { data := #[] }], .string { data := #[] }] := rfl
  rw [e5]
  clear e5
  have hbx : (w4.alloc (.cells #[.int .i64 2, .int .i64 5, .string { data := #[] }] 24)).heap[w4.heap.size]? = some (.cells #[.int .i64 2, .int .i64 5, .string { data := #[] }] 24 (0, 0)) := newc w4 _
  have h4 := HH3.out.below hb4
  have hHl4 := hlt h4.1
  have hb5 : Below w4.heap.size w4 (w4.alloc (.cells #[.int .i64 2, .int .i64 5, .string { data := #[] }] 24)) := (Below.refl _ _).alloc (Nat.le_refl _) _
  have h5 := h4.below hb5
  have hbw4 := hbw3.trans (hb4.mono hbw3.size)
  have hbw5 := hbw4.trans (hb5.mono hbw4.size)
  have HB := Lib.hid hbx
  have HH5 := Lib.hid h5
  clear hbx h4 h5
  go_wp2_with fail
  generalize w4.alloc (.cells #[.int .i64 2, .int .i64 5, .string { data := #[] }] 24) = w5 at *
  generalize w4.heap.size = D at *
  have hDl := hlt HB.out
  refine (table_any H ob 10 w5 HH5.out (by omega) (by omega)).mono ?_
  rintro e w6 ⟨rfl, ⟨tb, h6⟩, hb6, hk6⟩
  have hbx6 := (hk6 D (by omega) hDl).trans HB.out
  have hbw6 := hbw5.trans (hb6.mono hHge)
  have hx : ∀ o, (w6.alloc o).cell? ⟨D, 0, none⟩ = some (.int .i64 2) ∧ (w6.alloc o).cell? ⟨D, 1, none⟩ = some (.int .i64 5) ∧ (w6.alloc o).cell? ⟨D, 2, none⟩ = some (.string { data := #[] }) := fun o => box3 (alloc_at hbx6)
  have x0 := fun o => (hx o).1
  have x1 := fun o => (hx o).2.1
  have HS := Lib.hid (fun o => spent_any H ob tb 10 1 (w6.alloc o) (alloc_at h6))
  have hfin : ∀ o, Below w.heap.size w (w6.alloc o) := fun o => hbw6.alloc hbw6.size o
  clear hx h6 hbx6 hk6
  go_wp2_with (go_at_call 12; refine (HS.out _).mono ?_; rintro e w7 ⟨rfl, rfl⟩)
  go_ret
  exact ⟨rfl, hfin _⟩
end Go.Proofs.YthbnhplkoomdhaaDoor
