/- The word that begins at a place: the program's. -/
import Derived.Test.YtejicjcdbfjajaaDoorQuo
import Derived.Deep.Cut
import Derived.ScopeJumps
namespace Go.Proofs.YtejicjcdbfjajaaDoor
open Go Go.RowKit
/-- A word: its kind, its text, its number, where it ends. -/
abbrev Wd := Int × List UInt8 × Int × Nat
def wordX (a : Nat) : List UInt8 → Option Wd
  | [] => none
  | c :: r =>
    if isL c.toNat then
      let t := (c :: r).take (runF (c :: r))
      if keyB (ofL t) then some (1, t, 0, a + runF (c :: r)) else if 64 < t.length then none else some (0, t, 0, a + runF (c :: r))
    else if isD c.toNat then
      match numF 0 ((c :: r).take (runF (c :: r))) with
      | none => none
      | some n => some (2, [], n, a + runF (c :: r))
    else if c.toNat = 39 ∨ c.toNat = 34 then
      match quoT c r with
      | none => none
      | some (t, n) => some (3, t, 0, a + 1 + n)
    else match sgs.find? (fun g => Lib.hasPrefix (c :: r) (bl g)) with
      | none => none
      | some g => some (4, bl g, 0, a + g.size)
def wordR (l : List UInt8) (a : Nat) : Option Wd := wordX a (l.drop a)
def wordV (a : Nat) (o : Option Wd) : Value := match o with
  | none => .tuple #[.agg #[.int .i64 0, .string ⟨#[]⟩, .int .i64 0, .int .i64 a], .int .i64 0]
  | some (k, t, n, e) => .tuple #[.agg #[.int .i64 k, .string (ofL t), .int .i64 n, .int .i64 a], .int .i64 e]
def WordQ (w : World) (a : Nat) (o : Option Wd) (e : Ending) (w' : World) : Prop := e = .returned (wordV a o) ∧ Below w.heap.size w w'
/-- What stands while a word is read: where the source is, the place, the answer, the word. -/
structure WS (w W : World) (S a : Nat) (s : ByteArray) (m : Nat) (k : Int) (t : ByteArray) (n : Int) : Prop where
  b0 : W.heap[w.heap.size]? = some (.cells #[SP S] 88 (0, 0))
  b1 : W.heap[w.heap.size + 1]? = some (.cells #[.int .i64 a] 3 (0, 0))
  b2 : W.heap[w.heap.size + 1 + 1]? = some (.cells #[.int .i64 0, .string ⟨#[]⟩, .int .i64 0, .int .i64 0] 31 (0, 0))
  b3 : W.heap[w.heap.size + 1 + 1 + 1]? = some (.cells #[.int .i64 k, .string t, .int .i64 n, .int .i64 a] 31 (0, 0))
  sou : Sou W S s m
  bel : Below w.heap.size w W
theorem ws_new {w : World} {S m a : Nat} {s : ByteArray} (h : Sou w S s m) : WS w ((((w.alloc (.cells #[SP S] 88)).alloc (.cells #[.int .i64 a] 3)).alloc (.cells #[.int .i64 0, .string ⟨#[]⟩, .int .i64 0, .int .i64 0] 31)).alloc (.cells #[.int .i64 0, .string ⟨#[]⟩, .int .i64 0, .int .i64 a] 31)) S a s m 0 ⟨#[]⟩ 0 := by
  have hb : Below w.heap.size w ((((w.alloc (.cells #[SP S] 88)).alloc (.cells #[.int .i64 a] 3)).alloc (.cells #[.int .i64 0, .string ⟨#[]⟩, .int .i64 0, .int .i64 0] 31)).alloc (.cells #[.int .i64 0, .string ⟨#[]⟩, .int .i64 0, .int .i64 a] 31)) :=
    (((below_new w _).alloc (by simp) _).alloc (by simp; omega) _).alloc (by simp; omega) _
  refine ⟨?_, ?_, ?_, ?_, h.below hb, hb⟩
  · rw [Below.heap_alloc _ _ _ (by simp <;> omega), Below.heap_alloc _ _ _ (by simp <;> omega), Below.heap_alloc _ _ _ (by simp <;> omega)]
    exact heap_alloc_new w _
  · rw [Below.heap_alloc _ _ _ (by simp <;> omega), Below.heap_alloc _ _ _ (by simp <;> omega)]
    have := heap_alloc_new (w.alloc (.cells #[SP S] 88)) (.cells #[.int .i64 a] 3)
    simpa using this
  · rw [Below.heap_alloc _ _ _ (by simp)]
    have := heap_alloc_new ((w.alloc (.cells #[SP S] 88)).alloc (.cells #[.int .i64 a] 3)) (.cells #[.int .i64 0, .string ⟨#[]⟩, .int .i64 0, .int .i64 0] 31)
    simpa using this
  · have := heap_alloc_new (((w.alloc (.cells #[SP S] 88)).alloc (.cells #[.int .i64 a] 3)).alloc (.cells #[.int .i64 0, .string ⟨#[]⟩, .int .i64 0, .int .i64 0] 31)) (.cells #[.int .i64 0, .string ⟨#[]⟩, .int .i64 0, .int .i64 a] 31)
    simpa using this
section
variable {w W W' : World} {S a : Nat} {s : ByteArray} {m : Nat} {k : Int} {t : ByteArray} {n : Int}
theorem WS.cells (h : WS w W S a s m k t n) : W.cell? ⟨w.heap.size, 0, none⟩ = some (SP S) ∧ W.cell? ⟨w.heap.size + 1, 0, none⟩ = some (.int .i64 a) ∧ W.cell? ⟨w.heap.size + 1 + 1 + 1, 0, none⟩ = some (.int .i64 k) ∧ W.cell? ⟨w.heap.size + 1 + 1 + 1, 1, none⟩ = some (.string t) ∧ W.cell? ⟨w.heap.size + 1 + 1 + 1, 2, none⟩ = some (.int .i64 n) ∧ W.cell? ⟨w.heap.size + 1 + 1 + 1, 3, none⟩ = some (.int .i64 a) ∧ W.cell? ⟨S, 0, none⟩ = some (.string s) ∧ W.cell? ⟨S, 1, none⟩ = some (.map (some m)) := by
  refine ⟨?_, ?_, ?_, ?_, ?_, ?_, h.sou.c0, h.sou.c1⟩
  · rw [Lib.cell_of_heap h.b0]; rfl
  · rw [Lib.cell_of_heap h.b1]; rfl
  · rw [Lib.cell_of_heap h.b3]; rfl
  · rw [Lib.cell_of_heap h.b3]; rfl
  · rw [Lib.cell_of_heap h.b3]; rfl
  · rw [Lib.cell_of_heap h.b3]; rfl
theorem WS.free (h : WS w W S a s m k t n) : (∀ j, W.frozen? ⟨w.heap.size + 1 + 1 + 1, j, none⟩ = false) ∧ ∀ j, W.frozen? ⟨w.heap.size + 1 + 1, j, none⟩ = false := ⟨fun j => Lib.frozen_of_heap h.b3 j, fun j => Lib.frozen_of_heap h.b2 j⟩
theorem WS.lt (h : WS w W S a s m k t n) : w.heap.size + 1 + 1 + 1 < W.heap.size := (Array.getElem?_eq_some_iff.1 h.b3).1
theorem WS.below (h : WS w W S a s m k t n) (hb : Below W.heap.size W W') : WS w W' S a s m k t n := by
  have := h.lt
  exact ⟨(hb.block _ (by omega)).trans h.b0, (hb.block _ (by omega)).trans h.b1, (hb.block _ (by omega)).trans h.b2, (hb.block _ (by omega)).trans h.b3, h.sou.below hb, h.bel.trans (hb.mono h.bel.size)⟩
theorem WS.drew (h : WS w W S a s m k t n) (q : Nat) : WS w (W.drewN q) S a s m k t n := h.below (below_any q (Below.refl _ _))
theorem row_put {W : World} {g j : Nat} {cs : Array Value} {v : Value} {t : TypeId} (h : W.heap[g]? = some (.cells cs t (0, 0))) : (W.setCell ⟨g, j, none⟩ v).heap[g]? = some (.cells (cs.setIfInBounds j v) t (0, 0)) := by
  have hlt := (Array.getElem?_eq_some_iff.1 h).1
  have h' : W.heap[g] = .cells cs t (0, 0) := by simpa [Array.getElem?_eq_getElem hlt] using h
  show (W.heap.modify g _)[g]? = _
  rw [Array.getElem?_eq_getElem (by simpa using hlt), Array.getElem_modify_self, h']
  rfl
theorem WS.set (h : WS w W S a s m k t n) (hS : S < w.heap.size) (j : Nat) (v : Value) (k' : Int) (t' : ByteArray) (n' : Int) (hv : (#[Value.int .i64 k, .string t, .int .i64 n, .int .i64 a] : Array Value).setIfInBounds j v = #[.int .i64 k', .string t', .int .i64 n', .int .i64 a]) : WS w (W.setCell ⟨w.heap.size + 1 + 1 + 1, j, none⟩ v) S a s m k' t' n' := by
  have hb : Below (w.heap.size + 1 + 1 + 1) W (W.setCell ⟨w.heap.size + 1 + 1 + 1, j, none⟩ v) := (Below.refl _ _).setCell (p := ⟨w.heap.size + 1 + 1 + 1, j, none⟩) (Nat.le_refl _) _
  have hm : m < w.heap.size ∨ w.heap.size ≤ m := by omega
  have hmt : (W.setCell ⟨w.heap.size + 1 + 1 + 1, j, none⟩ v).heap[m]? = W.heap[m]? := by
    obtain ⟨es, clock, h1, h2⟩ := h.sou.ks
    refine Below.heap_setCell W _ v m (fun e => ?_)
    have e2 : m = w.heap.size + 1 + 1 + 1 := e
    rw [e2, h.b3] at h1
    cases h1
  refine ⟨(hb.block _ (by omega)).trans h.b0, (hb.block _ (by omega)).trans h.b1, (hb.block _ (by omega)).trans h.b2, ?_, ⟨(hb.block _ (by omega)).trans h.sou.z, ?_, h.sou.max⟩, h.bel.trans (hb.mono (by omega))⟩
  · rw [← hv]
    exact row_put h.b3
  · obtain ⟨es, clock, h1, h2⟩ := h.sou.ks
    exact ⟨es, clock, hmt.trans h1, h2⟩
end
def JW (w : World) (S a : Nat) (s : ByteArray) (m : Nat) (R : Option Wd) (act : Act) (W' : World) : Prop := R = none ∧ (∃ k t n, WS w W' S a s m k t n) ∧ act.defers = [] ∧ act.tmps.size = 132 ∧ act.tmps.getD 3 undef = .pointer (some ⟨w.heap.size + 1, 0, none⟩) ∧ act.tmps.getD 4 undef = .pointer (some ⟨w.heap.size + 1 + 1, 0, none⟩)
set_option maxRecDepth 100000 in
theorem lit132 (T : Array Value) (h : T.size = 132) : ∃ u : Nat → Value, T = #[u 0, u 1, u 2, u 3, u 4, u 5, u 6, u 7, u 8, u 9, u 10, u 11, u 12, u 13, u 14, u 15, u 16, u 17, u 18, u 19, u 20, u 21, u 22, u 23, u 24, u 25, u 26, u 27, u 28, u 29, u 30, u 31, u 32, u 33, u 34, u 35, u 36, u 37, u 38, u 39, u 40, u 41, u 42, u 43, u 44, u 45, u 46, u 47, u 48, u 49, u 50, u 51, u 52, u 53, u 54, u 55, u 56, u 57, u 58, u 59, u 60, u 61, u 62, u 63, u 64, u 65, u 66, u 67, u 68, u 69, u 70, u 71, u 72, u 73, u 74, u 75, u 76, u 77, u 78, u 79, u 80, u 81, u 82, u 83, u 84, u 85, u 86, u 87, u 88, u 89, u 90, u 91, u 92, u 93, u 94, u 95, u 96, u 97, u 98, u 99, u 100, u 101, u 102, u 103, u 104, u 105, u 106, u 107, u 108, u 109, u 110, u 111, u 112, u 113, u 114, u 115, u 116, u 117, u 118, u 119, u 120, u 121, u 122, u 123, u 124, u 125, u 126, u 127, u 128, u 129, u 130, u 131] := by
  refine ⟨fun i => T.getD i undef, ?_⟩
  have h1 : T = ((List.range 132).map (fun i => T.getD i undef)).toArray := by
    apply Array.ext
    · simp [h]
    · intro i h1 h2
      simp [Array.getD, h1]
  refine h1.trans ?_
  have h2 : ∀ u : Nat → Value, ((List.range 132).map u).toArray = #[u 0, u 1, u 2, u 3, u 4, u 5, u 6, u 7, u 8, u 9, u 10, u 11, u 12, u 13, u 14, u 15, u 16, u 17, u 18, u 19, u 20, u 21, u 22, u 23, u 24, u 25, u 26, u 27, u 28, u 29, u 30, u 31, u 32, u 33, u 34, u 35, u 36, u 37, u 38, u 39, u 40, u 41, u 42, u 43, u 44, u 45, u 46, u 47, u 48, u 49, u 50, u 51, u 52, u 53, u 54, u 55, u 56, u 57, u 58, u 59, u 60, u 61, u 62, u 63, u 64, u 65, u 66, u 67, u 68, u 69, u 70, u 71, u 72, u 73, u 74, u 75, u 76, u 77, u 78, u 79, u 80, u 81, u 82, u 83, u 84, u 85, u 86, u 87, u 88, u 89, u 90, u 91, u 92, u 93, u 94, u 95, u 96, u 97, u 98, u 99, u 100, u 101, u 102, u 103, u 104, u 105, u 106, u 107, u 108, u 109, u 110, u 111, u 112, u 113, u 114, u 115, u 116, u 117, u 118, u 119, u 120, u 121, u 122, u 123, u 124, u 125, u 126, u 127, u 128, u 129, u 130, u 131] := by
    intro u
    kernel_rfl
  exact h2 _

theorem clone_any (u : ByteArray) (W : World) (h : u.size ≤ 1000000000) : Calls Tryd.prog 62 #[.string u] W fun e w' => e = .returned (.string u) ∧ Below W.heap.size W w' := by
  have HC := Lib.hid (Tryd.stringslite_Clone u W (by omega))
  go_enter Tryd.func62, Tryd.ntmps62
  go_wp2_with fail
  refine HC.out.mono ?_
  rintro e w' ⟨rfl, hb⟩
  go_wp2_with fail
  go_ret
  exact ⟨rfl, hb⟩
theorem cls_one {n : Nat} (h : isL n = true) : (clsN n == 1) = true := by unfold clsN; rw [h]; rfl
theorem wordX_let {a r : Nat} {x : List UInt8} {c : UInt8} {y : List UInt8} {u : ByteArray} (hx : x = c :: y) (hl : isL c.toNat = true) (hr : runF x = r) (hu : bl u = x.take r) : wordX a x = if keyB u then some (1, bl u, 0, a + r) else if 64 < u.size then none else some (0, bl u, 0, a + r) := by
  subst hx
  simp only [wordX, hl, if_true, hr, ← hu, ofL_bl, bl_len]

theorem size31 : (Tryd.prog.info? 31).map (·.size) = some 4 := by kernel_rfl
theorem res44 (tmps : Array Value) (g : Nat) (v0 v1 v2 v3 y : Value) (W : World) (t4 : tmps.getD 4 undef = .pointer (some ⟨g, 0, none⟩)) (t5 : tmps.getD 5 undef = y) (c0 : W.heap[g]? = some (.cells #[v0, v1, v2, v3] 31 (0, 0))) : (results Tryd.f44 tmps).run Tryd.prog W = .ok (.tuple #[.agg #[v0, v1, v2, v3], y]) W := by
  have q0 : W.cell? ⟨g, 0, none⟩ = some v0 := by rw [Lib.cell_of_heap c0]; rfl
  have q1 : W.cell? ⟨g, 1, none⟩ = some v1 := by rw [Lib.cell_of_heap c0]; rfl
  have q2 : W.cell? ⟨g, 2, none⟩ = some v2 := by rw [Lib.cell_of_heap c0]; rfl
  have q3 : W.cell? ⟨g, 3, none⟩ = some v3 := by rw [Lib.cell_of_heap c0]; rfl
  simp only [Array.getD_eq_getD_getElem?] at t4 t5
  simp [results, Tryd.results44, t4, t5, q0, q1, q2, q3, go_sem]
set_option maxRecDepth 100000 in
set_option maxHeartbeats 16000000 in
theorem word_let (S : Nat) (s : ByteArray) (m a : Nat) (w : World) (h : Sou w S s m) (ha : a < s.size) (hl : isL s[a].toNat = true) :
    Calls Tryd.prog 44 #[SP S, .int .i64 a] w (WordQ w a (wordR (bl s) a)) := by
  have hmx := h.max
  have HWS := Lib.hid (ws_new (a := a) h)
  have hlt := h.lt
  have HD := Lib.hid (drop_at s a ha)
  obtain ⟨R, hR⟩ : ∃ R, wordR (bl s) a = R := ⟨_, rfl⟩
  rw [hR]
  unfold wordR at hR
  have HR := Lib.hid hR
  clear h hR
  go_enter Tryd.func44, Tryd.ntmps44
  go_wp2_with fail
  refine wp_scope_jumps 0 (JW w S a s m R) (fun _ _ => 0) rfl ?first ?pass
  case pass =>
    rintro ⟨T, df⟩ W' ⟨HRN, ⟨k, t, n, hws⟩, hdf, hsz, h3, h4⟩
    simp only at hdf hsz h3 h4
    subst hdf
    obtain ⟨u, rfl⟩ := lit132 T hsz
    change u 3 = _ at h3
    change u 4 = _ at h4
    rw [h3, h4]
    clear h3 h4 hsz
    have HW := Lib.hid hws
    have HZ := Lib.hid hws.b2
    obtain ⟨z0, z1, z2, z3, z4, z5, z6, z7⟩ := hws.cells
    clear hws
    go_wp2_with (refine wpList_store_row rfl 31 (.tmp 4) (.tmp 131) rfl (w.heap.size + 1 + 1) #[.int .i64 0, .string ⟨#[]⟩, .int .i64 0, .int .i64 a] rfl rfl 31 _ HZ.out size31 rfl (by simp [Value.oneCell']) ?_)
    change bodyPost _ _ _ Exit.ret _ _
    refine bodyPost_ret (res44 _ (w.heap.size + 1 + 1) _ _ _ _ _ _ rfl rfl (setRow_heap _ _ _ _ _ _ HZ.out)) rfl ?_
    refine ⟨?_, HW.out.bel.trans ⟨rfl, rfl, rfl, by simp, fun k hk => setRow_other _ _ _ _ (by omega)⟩⟩
    first | rfl | (rw [HRN]; rfl)
  go_wp2_with fail
  generalize ((((w.alloc (.cells #[SP S] 88)).alloc (.cells #[.int .i64 a] 3)).alloc (.cells #[.int .i64 0, .string ⟨#[]⟩, .int .i64 0, .int .i64 0] 31)).alloc (.cells #[.int .i64 0, .string ⟨#[]⟩, .int .i64 0, .int .i64 a] 31)) = W at *
  obtain ⟨z0, z1, z2, z3, z4, z5, z6, z7⟩ := HWS.out.cells
  go_quiet (fail)
  generalize nq = q
  have HW1 := Lib.hid (HWS.out.drew q)
  clear HWS z0 z1 z2 z3 z4 z5 z6 z7
  generalize W.drewN q = W at *
  obtain ⟨z0, z1, z2, z3, z4, z5, z6, z7⟩ := HW1.out.cells
  obtain ⟨c, hc⟩ : ∃ c, s[a].toNat = c := ⟨_, rfl⟩
  have HC := Lib.hid hc
  have HCL := Lib.hid (class_any c W)
  go_wp2_with fail
  refine HCL.out.mono ?_
  rintro e w' ⟨rfl, rfl⟩
  have hL : (clsN c == 1) = true := cls_one (by rw [← HC.out]; exact hl)
  obtain ⟨r, hr⟩ : ∃ r, runF ((bl s).drop a) = r := ⟨_, rfl⟩
  have hrl := runF_le ((bl s).drop a)
  rw [List.length_drop, bl_len, hr] at hrl
  have HRN := Lib.hid (run_any S s m a w' HW1.out.sou (by omega))
  rw [hr] at HRN
  have HRR := Lib.hid hr
  have hE : a + r ≤ s.size := by omega
  obtain ⟨u, hu⟩ : ∃ u, s.extract a (a + r) = u := ⟨_, rfl⟩
  have HU : Hid (bl u = ((bl s).drop a).take r) := Lib.hid (by rw [← hu, bl, ByteArray.data_extract, Array.toList_extract, List.extract_eq_take_drop, Nat.add_sub_cancel_left])
  have HUS : Hid (u.size ≤ 1000000000) := Lib.hid (by rw [← hu, ByteArray.size_extract]; omega)
  clear hr hrl
  have HX := Lib.hid (wordX_let (a := a) HD.out hl HRR.out HU.out)
  rw [HR.out] at HX
  go_wp2_with fail
  refine HRN.out.mono ?_
  rintro e w' ⟨rfl, rfl⟩
  have hf := HW1.out.free.1
  go_wp2_with fail
  go_region
  have HW2 : Hid (WS w (w'.setCell ⟨w.heap.size + 1 + 1 + 1, 1, none⟩ (.string u)).drew S a s m 0 u 0) := Lib.hid ((HW1.out.set hlt 1 (.string u) 0 u 0 rfl).drew 1)
  clear z0 z1 z2 z3 z4 z5 z6 z7 hf HW1 HRN HCL
  generalize (w'.setCell ⟨w.heap.size + 1 + 1 + 1, 1, none⟩ (.string u)).drew = W at *
  obtain ⟨z0, z1, z2, z3, z4, z5, z6, z7⟩ := HW2.out.cells
  have hk1 := look_keys HW2.out.sou.ks u
  have hk2 := look_keys (HW2.out.drew 1).sou.ks u
  have hk3 := look_keys (HW2.out.below (below_new W (.cells #[] 67))).sou.ks u
  have hk4 := look_keys ((HW2.out.below (below_new W (.cells #[] 67))).drew 1).sou.ks u
  change (Instr.lookup 46 (.map (some m)) (.string u) true).run Tryd.prog W.drew = .ok _ W.drew at hk2
  change (Instr.lookup 46 (.map (some m)) (.string u) true).run Tryd.prog (W.alloc (.cells #[] 67)).drew = .ok _ (W.alloc (.cells #[] 67)).drew at hk4
  obtain ⟨y0, y1, y2, y3, y4, y5, y6, y7⟩ := (HW2.out.below (below_new W (.cells #[] 67))).cells
  have HW3 : Hid (WS w (W.alloc (.cells #[] 67)).drew S a s m 0 u 0) := Lib.hid ((HW2.out.below (below_new W (.cells #[] 67))).drew 1)
  by_cases hkw : u ∈ kws
  · have hdk : decide (u ∈ kws) = true := decide_eq_true hkw
    have HY : Hid (R = some (1, bl u, 0, a + r)) := Lib.hid (by rw [HX.out, if_pos (by unfold keyB; exact hdk)])
    rw [hdk] at hk1 hk2 hk3 hk4
    clear hkw hdk
    go_wp2_with fail
    go_region
    all_goals
      clear z0 z1 z2 z3 z4 z5 z6 z7 y0 y1 y2 y3 y4 y5 y6 y7 hk1 hk2 hk3 hk4
      generalize (W.alloc (.cells #[] 67)).drew = V at *
      obtain ⟨z0, z1, z2, z3, z4, z5, z6, z7⟩ := HW3.out.cells
      have hf := HW3.out.free.1
      go_wp2_with fail
      refine (clone_any u _ HUS.out).mono ?_
      rintro e w4 ⟨rfl, hb4⟩
      have HW5 := Lib.hid ((HW3.out.set hlt 0 (.int .i64 1) 1 u 0 rfl).below hb4)
      clear hb4
      obtain ⟨x0, x1, x2, x3, x4, x5, x6, x7⟩ := HW5.out.cells
      have hf5 := HW5.out.free.1
      have hg5 := HW5.out.free.2
      have HW6 := Lib.hid (HW5.out.set hlt 1 (.string u) 1 u 0 rfl)
      have HZ := Lib.hid HW6.out.b2
      have HB6 := Lib.hid HW6.out.bel
      go_wp2_with (refine wpList_store_row rfl 31 (.tmp 4) (.tmp 128) rfl (w.heap.size + 1 + 1) #[.int .i64 1, .string u, .int .i64 0, .int .i64 a] rfl rfl 31 _ HZ.out size31 rfl (by simp [Value.oneCell']) ?_)
      change bodyPost _ _ _ Exit.ret _ _
      refine bodyPost_ret (res44 _ (w.heap.size + 1 + 1) _ _ _ _ _ _ rfl rfl (setRow_heap _ _ _ _ _ _ HZ.out)) rfl ?_
      refine ⟨?_, HB6.out.trans ⟨rfl, rfl, rfl, by simp, fun k hk => setRow_other _ _ _ _ (by omega)⟩⟩
      rw [HY.out]
      simp only [wordV, ofL_bl]
      go_num
  · have hdk : decide (u ∈ kws) = false := decide_eq_false hkw
    have HY2 := HX.out
    rw [if_neg (by unfold keyB; rw [hdk]; simp)] at HY2
    rw [hdk] at hk1 hk2 hk3 hk4
    by_cases h64 : 64 < u.size
    · rw [if_pos h64] at HY2
      have HY := Lib.hid HY2
      have d6 : decide ((64 : Int) < (u.size : Int)) = true := decide_eq_true (by omega)
      clear hkw hdk HY2
      go_wp2_with fail
      go_region
      all_goals
        clear z0 z1 z2 z3 z4 z5 z6 z7 y0 y1 y2 y3 y4 y5 y6 y7 hk1 hk2 hk3 hk4
        generalize (W.alloc (.cells #[] 67)).drew = V at *
        obtain ⟨z0, z1, z2, z3, z4, z5, z6, z7⟩ := HW3.out.cells
        have hf := HW3.out.free.1
        go_wp2_with fail
        apply wp_goto
        exact ⟨rfl, HY.out, ⟨_, _, _, HW3.out⟩, rfl, rfl, rfl, rfl⟩
    · rw [if_neg h64] at HY2
      have HY := Lib.hid HY2
      have d6 : decide ((64 : Int) < (u.size : Int)) = false := decide_eq_false (by omega)
      clear hkw hdk HY2
      go_wp2_with fail
      go_region
      all_goals
        clear z0 z1 z2 z3 z4 z5 z6 z7 y0 y1 y2 y3 y4 y5 y6 y7 hk1 hk2 hk3 hk4
        generalize (W.alloc (.cells #[] 67)).drew = V at *
        obtain ⟨z0, z1, z2, z3, z4, z5, z6, z7⟩ := HW3.out.cells
        have hf := HW3.out.free.1
        go_wp2_with fail
        refine (clone_any u _ HUS.out).mono ?_
        rintro e w4 ⟨rfl, hb4⟩
        have HW5 := Lib.hid ((HW3.out).below hb4)
        clear hb4
        obtain ⟨x0, x1, x2, x3, x4, x5, x6, x7⟩ := HW5.out.cells
        have hf5 := HW5.out.free.1
        have hg5 := HW5.out.free.2
        have HW6 := Lib.hid (HW5.out.set hlt 1 (.string u) 0 u 0 rfl)
        have HZ := Lib.hid HW6.out.b2
        have HB6 := Lib.hid HW6.out.bel
        go_wp2_with (refine wpList_store_row rfl 31 (.tmp 4) (.tmp 128) rfl (w.heap.size + 1 + 1) #[.int .i64 0, .string u, .int .i64 0, .int .i64 a] rfl rfl 31 _ HZ.out size31 rfl (by simp [Value.oneCell']) ?_)
        change bodyPost _ _ _ Exit.ret _ _
        refine bodyPost_ret (res44 _ (w.heap.size + 1 + 1) _ _ _ _ _ _ rfl rfl (setRow_heap _ _ _ _ _ _ HZ.out)) rfl ?_
        refine ⟨?_, HB6.out.trans ⟨rfl, rfl, rfl, by simp, fun k hk => setRow_other _ _ _ _ (by omega)⟩⟩
        rw [HY.out]
        simp only [wordV, ofL_bl]
        go_num

end Go.Proofs.YtejicjcdbfjajaaDoor
