/- Of a heap that is not there all is refused. -/
import Derived.Test.YthbnhplkoomdhaaGreatDoorVast
import Derived.ScopeJumps
namespace Go.Proofs.YthbnhplkoomdhaaGreatDoor
open Go Go.RowKit
theorem alloc_atN {W : World} {b : Nat} {o o' : Obj} (h : W.heap[b]? = some o) : (W.alloc o').heap[b]? = some o := (Below.heap_alloc W o' b (hlt' h)).trans h
theorem none_nil (w : World) : Calls Tryz.prog 17 #[.pointer none] w fun e w' => e = .returned (.bool true) ∧ w' = w := by
  go_enter Tryz.func17, Tryz.ntmps17
  go_wp2
  go_ret
  exact ⟨rfl, rfl⟩
theorem spent_nil (w : World) : Calls Tryz.prog 13 #[.pointer none] w fun e w' => e = .returned (.int .i64 0) ∧ w' = w := by
  go_enter Tryz.func13, Tryz.ntmps13
  go_wp2_with fail
  refine (none_nil w).mono ?_
  rintro e w1 ⟨rfl, rfl⟩
  go_wp2_with fail
  go_ret
  exact ⟨rfl, rfl⟩
theorem found_nil (k n : Int) (t : ByteArray) (s : Value) (w : World) : Calls Tryz.prog 19 #[.pointer none, valA k n t, s] w fun e w' => e = .returned (.tuple #[.pointer none, .string { data := #[109, 101, 109, 111, 114, 121] }]) ∧ Below w.heap.size w w' := by
  have hb := (Below.refl w.heap.size w).alloc (Nat.le_refl _) (.cells #[.int .i64 k, .int .i64 n, .string t] 24)
  go_enter Tryz.func19, Tryz.ntmps19
  go_wp2_with fail
  refine (none_nil _).mono ?_
  rintro e w1 ⟨rfl, rfl⟩
  go_wp2_with fail
  go_ret2
  exact ⟨rfl, hb⟩
theorem len_nil (k n : Int) (t : ByteArray) (w : World) : Calls Tryz.prog 9 #[.pointer none, valA k n t] w fun e w' => e = .returned (.tuple #[.int .i64 0, .string { data := #[109, 101, 109, 111, 114, 121] }]) ∧ Below w.heap.size w w' := by
  have hb := (Below.refl w.heap.size w).alloc (Nat.le_refl _) (.cells #[.int .i64 k, .int .i64 n, .string t] 24)
  go_enter Tryz.func9, Tryz.ntmps9
  go_wp2_with fail
  refine (none_nil _).mono ?_
  rintro e w1 ⟨rfl, rfl⟩
  go_wp2_with fail
  go_ret2
  exact ⟨rfl, hb⟩
theorem keys_nil (k n : Int) (t : ByteArray) (w : World) : Calls Tryz.prog 10 #[.pointer none, valA k n t] w fun e w' => e = .returned (.tuple #[.slice none 0 0, .string { data := #[109, 101, 109, 111, 114, 121] }]) ∧ Below w.heap.size w w' := by
  have hb := (Below.refl w.heap.size w).alloc (Nat.le_refl _) (.cells #[.int .i64 k, .int .i64 n, .string t] 24)
  go_enter Tryz.func10, Tryz.ntmps10
  go_wp2_with fail
  refine (found_nil k n t _ _).mono ?_
  rintro e w1 ⟨rfl, hb1⟩
  have hbw := hb.trans (hb1.mono hb.size)
  go_wp2_with fail
  go_ret2
  exact ⟨rfl, hbw⟩
theorem res6 (tmps : Array Value) (w : World) (g : Nat) (cs : Array Value) (hp : tmps.getD 2 undef = .pointer (some ⟨g, 0, none⟩)) (hg : w.heap[g]? = some (.cells cs 24 (0, 0))) (hs : cs.size = 3 := by rfl) :
    (results Tryz.f6 tmps).run Tryz.prog w = .ok (.tuple #[.agg cs, tmps.getD 3 undef]) w := by
  rw [results_cell_tmp Tryz.results6, hp]
  simp only [asAddr, Sem.run_pure, Result.andThen_ok]
  rw [run_loadVar_row (P := Tryz.prog) w g 24 24 cs (0, 0) _ hg Tryz.underlying24 rfl (by rw [size24, hs])]
  rfl
theorem res7 (tmps : Array Value) (w : World) (g : Nat) (cs : Array Value) (hp : tmps.getD 6 undef = .pointer (some ⟨g, 0, none⟩)) (hg : w.heap[g]? = some (.cells cs 24 (0, 0))) (hs : cs.size = 3 := by rfl) :
    (results Tryz.f7 tmps).run Tryz.prog w = .ok (.tuple #[.agg cs, tmps.getD 7 undef]) w := by
  rw [results_cell_tmp Tryz.results7, hp]
  simp only [asAddr, Sem.run_pure, Result.andThen_ok]
  rw [run_loadVar_row (P := Tryz.prog) w g 24 24 cs (0, 0) _ hg Tryz.underlying24 rfl (by rw [size24, hs])]
  rfl
theorem res11 (tmps : Array Value) (w : World) (g : Nat) (cs : Array Value) (hp : tmps.getD 4 undef = .pointer (some ⟨g, 0, none⟩)) (hg : w.heap[g]? = some (.cells cs 24 (0, 0))) (hs : cs.size = 3 := by rfl) :
    (results Tryz.f11 tmps).run Tryz.prog w = .ok (.tuple #[.agg cs, tmps.getD 5 undef]) w := by
  rw [results_cell_tmp Tryz.results11, hp]
  simp only [asAddr, Sem.run_pure, Result.andThen_ok]
  rw [run_loadVar_row (P := Tryz.prog) w g 24 24 cs (0, 0) _ hg Tryz.underlying24 rfl (by rw [size24, hs])]
  rfl
theorem res12 (tmps : Array Value) (w : World) (g : Nat) (cs : Array Value) (hp : tmps.getD 8 undef = .pointer (some ⟨g, 0, none⟩)) (hg : w.heap[g]? = some (.cells cs 24 (0, 0))) (hs : cs.size = 3 := by rfl) :
    (results Tryz.f12 tmps).run Tryz.prog w = .ok (.tuple #[.agg cs, tmps.getD 9 undef]) w := by
  rw [results_cell_tmp Tryz.results12, hp]
  simp only [asAddr, Sem.run_pure, Result.andThen_ok]
  rw [run_loadVar_row (P := Tryz.prog) w g 24 24 cs (0, 0) _ hg Tryz.underlying24 rfl (by rw [size24, hs])]
  rfl
theorem table_nil (w : World) : Calls Tryz.prog 6 #[.pointer none] w fun e w' => e = .returned (.tuple #[valNo, .string { data := #[109, 101, 109, 111, 114, 121] }]) ∧ Below w.heap.size w w' := by
  have hb := (Below.refl w.heap.size w).alloc (Nat.le_refl _) (.cells #[.int .i64 0, .int .i64 0, .string { data := #[] }] 24)
  go_enter Tryz.func6, Tryz.ntmps6
  go_wp2_with fail
  refine (none_nil _).mono ?_
  rintro e w1 ⟨rfl, rfl⟩
  go_wp2_with fail
  exact bodyPost_ret (v := .tuple #[valNo, .string { data := #[109, 101, 109, 111, 114, 121] }]) (res6 _ _ w.heap.size _ rfl (newc w _)) rfl ⟨rfl, hb⟩
theorem make_nil (s : ByteArray) (w : World) : Calls Tryz.prog 11 #[.pointer none, .string s] w fun e w' => e = .returned (.tuple #[valNo, .string { data := #[109, 101, 109, 111, 114, 121] }]) ∧ Below w.heap.size w w' := by
  have hb := (Below.refl w.heap.size w).alloc (Nat.le_refl _) (.cells #[.int .i64 0, .int .i64 0, .string { data := #[] }] 24)
  go_enter Tryz.func11, Tryz.ntmps11
  go_wp2_with fail
  refine (none_nil _).mono ?_
  rintro e w1 ⟨rfl, rfl⟩
  go_wp2_with fail
  exact bodyPost_ret (v := .tuple #[valNo, .string { data := #[109, 101, 109, 111, 114, 121] }]) (res11 _ _ w.heap.size _ rfl (newc w _)) rfl ⟨rfl, hb⟩
theorem new3 (w : World) (a b c : Obj) : (((w.alloc a).alloc b).alloc c).heap[w.heap.size + 1 + 1]? = some c := by
  have := newc ((w.alloc a).alloc b) c
  simpa using this
theorem below3 (w : World) (a b c : Obj) : Below w.heap.size w (((w.alloc a).alloc b).alloc c) := (((Below.refl w.heap.size w).alloc (Nat.le_refl _) a).alloc (by simp) b).alloc (by simp; omega) c
theorem op_nil (op kt vt : ByteArray) (kk kn vk vn : Int) (w : World) : Calls Tryz.prog 12 #[.pointer none, .string op, valA kk kn kt, valA vk vn vt] w fun e w' => e = .returned (.tuple #[valNo, .string { data := #[109, 101, 109, 111, 114, 121] }]) ∧ Below w.heap.size w w' := by
  have hb := below3 w (.cells #[.int .i64 kk, .int .i64 kn, .string kt] 24) (.cells #[.int .i64 vk, .int .i64 vn, .string vt] 24) (.cells #[.int .i64 0, .int .i64 0, .string { data := #[] }] 24)
  have hr := new3 w (.cells #[.int .i64 kk, .int .i64 kn, .string kt] 24) (.cells #[.int .i64 vk, .int .i64 vn, .string vt] 24) (.cells #[.int .i64 0, .int .i64 0, .string { data := #[] }] 24)
  have HR := Lib.hid hr
  clear hr
  go_enter Tryz.func12, Tryz.ntmps12
  go_wp2_with fail
  refine (none_nil _).mono ?_
  rintro e w1 ⟨rfl, rfl⟩
  go_wp2_with fail
  exact bodyPost_ret (v := .tuple #[valNo, .string { data := #[109, 101, 109, 111, 114, 121] }]) (res12 _ _ (w.heap.size + 2) _ rfl HR.out) rfl ⟨rfl, hb⟩

set_option maxRecDepth 10000 in
set_option maxHeartbeats 1000000 in
theorem get_nil (tk tn kk kn : Int) (tt kt : ByteArray) (w : World) : Calls Tryz.prog 7 #[.pointer none, valA tk tn tt, valA kk kn kt] w fun e w' => e = .returned (.tuple #[valNo, .string { data := #[109, 101, 109, 111, 114, 121] }]) ∧ Below w.heap.size w w' := by
  have hb := (below3 w (.cells #[.int .i64 tk, .int .i64 tn, .string tt] 24) (.cells #[.int .i64 kk, .int .i64 kn, .string kt] 24) (.cells #[.int .i64 0, .int .i64 0, .string { data := #[] }] 24)).alloc (by simp; omega) (.cells #[.int .i64 kk, .int .i64 kn, .string kt] 24)
  have hr := alloc_atN (o' := .cells #[.int .i64 kk, .int .i64 kn, .string kt] 24) (new3 w (.cells #[.int .i64 tk, .int .i64 tn, .string tt] 24) (.cells #[.int .i64 kk, .int .i64 kn, .string kt] 24) (.cells #[.int .i64 0, .int .i64 0, .string { data := #[] }] 24))
  have HR := Lib.hid hr
  clear hr
  go_enter Tryz.func7, Tryz.ntmps7
  go_wp2_with fail
  refine (found_nil tk tn tt _ _).mono ?_
  rintro e w1 ⟨rfl, hb1⟩
  have hr1 := (hb1.block _ (hlt' HR.out)).trans HR.out
  have hbw := hb.trans (hb1.mono hb.size)
  have HR1 := Lib.hid hr1
  have hrow := setRow_at w1 (w.heap.size + 1 + 1) _ #[.int .i64 0, .int .i64 0, .string { data := #[] }] 24 (0, 0) hr1
  have HROW := Lib.hid hrow
  have hbelow : Below w.heap.size w (w1.setRow (w.heap.size + 1 + 1) #[.int .i64 0, .int .i64 0, .string { data := #[] }]) := setRow_below hbw (by omega) _
  clear hr1 hrow
  go_wp2_with (refine wpList_store_row rfl 24 (.tmp 6) (.tmp 22) rfl (w.heap.size + 1 + 1) #[.int .i64 0, .int .i64 0, .string { data := #[] }] rfl rfl 24 _ HR1.out (by rw [size24]; rfl) rfl (by simp [Value.oneCell']) ?_)
  exact bodyPost_ret (v := .tuple #[valNo, .string { data := #[109, 101, 109, 111, 114, 121] }]) (res7 _ _ (w.heap.size + 1 + 1) _ rfl HROW.out) rfl ⟨rfl, hbelow⟩

set_option maxRecDepth 10000 in
set_option maxHeartbeats 1000000 in
theorem set_nil (tk tn kk kn vk vn : Int) (tt kt vt : ByteArray) (w : World) : Calls Tryz.prog 8 #[.pointer none, valA tk tn tt, valA kk kn kt, valA vk vn vt] w fun e w' => e = .returned (.string { data := #[109, 101, 109, 111, 114, 121] }) ∧ Below w.heap.size w w' := by
  have hb := (below3 w (.cells #[.int .i64 tk, .int .i64 tn, .string tt] 24) (.cells #[.int .i64 kk, .int .i64 kn, .string kt] 24) (.cells #[.int .i64 vk, .int .i64 vn, .string vt] 24)).alloc (by simp; omega) (.cells #[.int .i64 kk, .int .i64 kn, .string kt, .int .i64 vk, .int .i64 vn, .string vt] 24)
  go_enter Tryz.func8, Tryz.ntmps8
  go_wp2_with fail
  refine wp_scope_jumps 0 (fun a' w' => (∃ u0 u1 u2 u3 u4 u5 u6 u7 u8 u9 u10 u11 u13 u14 u15 u16 u17 u18 u19 u20 u21 u22 u23 u24 u25 u26 u27 u28 u29 u30 u31 u32 u33 u34 u35 u36 u37 u38 u39 u40 u41 u42 u43 u44 u45 u46 u47 u48 u49 u50 u51 u52 u53 u54 u55 u56 u57 u58 u59 u60 u61 u62 u63 u64 u65 u66 u67 u68 u69 u70 u71 u72 u73 u74 u75 u76 u77 u78 u79 u80 u81 u82 u83 u84 u85 u86 u87, a' = ({ tmps := #[u0, u1, u2, u3, u4, u5, u6, u7, u8, u9, u10, u11, .string { data := #[109, 101, 109, 111, 114, 121] }, u13, u14, u15, u16, u17, u18, u19, u20, u21, u22, u23, u24, u25, u26, u27, u28, u29, u30, u31, u32, u33, u34, u35, u36, u37, u38, u39, u40, u41, u42, u43, u44, u45, u46, u47, u48, u49, u50, u51, u52, u53, u54, u55, u56, u57, u58, u59, u60, u61, u62, u63, u64, u65, u66, u67, u68, u69, u70, u71, u72, u73, u74, u75, u76, u77, u78, u79, u80, u81, u82, u83, u84, u85, u86, u87], defers := [] } : Act)) ∧ Below w.heap.size w w') (fun _ _ => 0) rfl ?_ ?_
  · go_wp2_with fail
    refine (found_nil tk tn tt _ _).mono ?_
    rintro e w1 ⟨rfl, hb1⟩
    have hbw := hb.trans (hb1.mono hb.size)
    go_wp2_with fail
    go_step3
    refine ⟨rfl, ?_, hbw⟩
    (repeat apply Exists.intro)
    rfl
  · rintro a' w' ⟨⟨u0, u1, u2, u3, u4, u5, u6, u7, u8, u9, u10, u11, u13, u14, u15, u16, u17, u18, u19, u20, u21, u22, u23, u24, u25, u26, u27, u28, u29, u30, u31, u32, u33, u34, u35, u36, u37, u38, u39, u40, u41, u42, u43, u44, u45, u46, u47, u48, u49, u50, u51, u52, u53, u54, u55, u56, u57, u58, u59, u60, u61, u62, u63, u64, u65, u66, u67, u68, u69, u70, u71, u72, u73, u74, u75, u76, u77, u78, u79, u80, u81, u82, u83, u84, u85, u86, u87, rfl⟩, hbw⟩
    go_wp2_with fail
    simp only [Exit.jump]
    go_ret
    exact ⟨rfl, hbw⟩
end Go.Proofs.YthbnhplkoomdhaaGreatDoor
