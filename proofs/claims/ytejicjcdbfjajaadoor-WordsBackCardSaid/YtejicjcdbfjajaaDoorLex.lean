/- Lex: a text's words, or the place where there is none: its contract. -/
import Derived.Test.YtejicjcdbfjajaaDoorLexA
namespace Go.Proofs.YtejicjcdbfjajaaDoor
open Go Go.RowKit
open Go.Shelf
attribute [local go_sem] Oper.semAt_some
def tmpsL (s : ByteArray) (C : Nat) (u z6 z7 z13 z14 : Value) : Array Value := #[.string s, undef, .pointer (some ⟨C, 0, none⟩), .pointer (some ⟨C + 1, 0, none⟩), .pointer (some ⟨C + 1 + 1, 0, none⟩), .pointer (some ⟨C + 1 + 1 + 1, 0, none⟩), z6, z7, .string s, .int .i64 s.size, u, .string s, .func (.func 41) #[] #[.pointer (some ⟨C + 1 + 1 + 1 + 1, 0, none⟩)], z13, z14, undef, undef, undef, undef, undef, undef, undef, undef, undef]
set_option maxRecDepth 100000 in
set_option maxHeartbeats 4000000 in
theorem lex_any (s : ByteArray) (w : World) (hg : SPC w) (hs : s.size ≤ 1000000000) : Calls Tryd.prog 10 #[.string s] w (LexQ w s) := by
  have HG := Lib.hid hg
  clear hg
  refine (callsIn_wide (n := 4)).1 ?_
  refine callsIn_of_wp_marks Tryd.func10 rfl trivial ?_ rfl
  simp only [Tryd.ntmps10, List.size_toArray, List.length_cons, List.length_nil, Nat.reduceAdd, Nat.reduceSub, Array.replicate_succ, Array.replicate_zero, List.push_toArray, List.append_toArray, List.nil_append, List.cons_append]
  by_cases hm : 1048576 < s.size
  · gi_wp2_with fail
    have hb3 : Below w.heap.size w (((w.alloc (.cells #[.slice none 0 0] 23)).alloc (.cells #[.int .i64 0] 3)).alloc (.cells #[.int .i64 3] 24)) := ((below_new w _).alloc (by simp) _).alloc (by simp; omega) _
    refine ⟨.tuple #[.slice none 0 0, .int .i64 0, .int .i64 3], ?_, hb3, Or.inl ⟨hm, rfl⟩⟩
    refine res10 _ w.heap.size (w.heap.size + 1) (w.heap.size + 1 + 1) (.slice none 0 0) 0 3 _ rfl rfl rfl ?_ ?_ ?_
    · rw [Below.heap_alloc _ _ _ (by simp <;> omega), Below.heap_alloc _ _ _ (by simp)]
      exact heap_alloc_new w _
    · rw [Below.heap_alloc _ _ _ (by simp)]
      simpa using heap_alloc_new (w.alloc (.cells #[.slice none 0 0] 23)) (.cells #[.int .i64 0] 3)
    · simpa using heap_alloc_new ((w.alloc (.cells #[.slice none 0 0] 23)).alloc (.cells #[.int .i64 0] 3)) (.cells #[.int .i64 3] 24)
  · have hm' : s.size ≤ 1048576 := by omega
    gi_wp2_with fail
    refine ⟨trivial, (callsIn_wide.2 (each_any s _)).mono ?_⟩
    rintro e w3 ⟨rfl, rfl⟩
    gi_wp2_with fail
    have hb1 : Below w.heap.size w ((((w.alloc (.cells #[.slice none 0 0] 23)).alloc (.cells #[.int .i64 0] 3)).alloc (.cells #[.int .i64 0] 24)).alloc (.cells #[.slice none 0 0] 23)) := (((below_new w _).alloc (by simp) _).alloc (by simp; omega) _).alloc (by simp; omega) _
    have hs1 : ((((w.alloc (.cells #[.slice none 0 0] 23)).alloc (.cells #[.int .i64 0] 3)).alloc (.cells #[.int .i64 0] 24)).alloc (.cells #[.slice none 0 0] 23)).heap.size = w.heap.size + 1 + 1 + 1 + 1 := by simp
    have hc0 : ((((w.alloc (.cells #[.slice none 0 0] 23)).alloc (.cells #[.int .i64 0] 3)).alloc (.cells #[.int .i64 0] 24)).alloc (.cells #[.slice none 0 0] 23)).heap[w.heap.size]? = some (.cells #[.slice none 0 0] 23 (0, 0)) := by
      rw [Below.heap_alloc _ _ _ (by simp <;> omega), Below.heap_alloc _ _ _ (by simp <;> omega), Below.heap_alloc _ _ _ (by simp)]
      exact heap_alloc_new w _
    have hc1 : ((((w.alloc (.cells #[.slice none 0 0] 23)).alloc (.cells #[.int .i64 0] 3)).alloc (.cells #[.int .i64 0] 24)).alloc (.cells #[.slice none 0 0] 23)).heap[w.heap.size + 1]? = some (.cells #[.int .i64 0] 3 (0, 0)) := by
      rw [Below.heap_alloc _ _ _ (by simp), Below.heap_alloc _ _ _ (by simp)]
      simpa using heap_alloc_new (w.alloc (.cells #[.slice none 0 0] 23)) (.cells #[.int .i64 0] 3)
    have hc2 : ((((w.alloc (.cells #[.slice none 0 0] 23)).alloc (.cells #[.int .i64 0] 3)).alloc (.cells #[.int .i64 0] 24)).alloc (.cells #[.slice none 0 0] 23)).heap[w.heap.size + 1 + 1]? = some (.cells #[.int .i64 0] 24 (0, 0)) := by
      rw [Below.heap_alloc _ _ _ (by simp)]
      simpa using heap_alloc_new ((w.alloc (.cells #[.slice none 0 0] 23)).alloc (.cells #[.int .i64 0] 3)) (.cells #[.int .i64 0] 24)
    have hc3 : ((((w.alloc (.cells #[.slice none 0 0] 23)).alloc (.cells #[.int .i64 0] 3)).alloc (.cells #[.int .i64 0] 24)).alloc (.cells #[.slice none 0 0] 23)).heap[w.heap.size + 1 + 1 + 1]? = some (.cells #[.slice none 0 0] 23 (0, 0)) := by
      simpa using heap_alloc_new (((w.alloc (.cells #[.slice none 0 0] 23)).alloc (.cells #[.int .i64 0] 3)).alloc (.cells #[.int .i64 0] 24)) (.cells #[.slice none 0 0] 23)
    generalize (((w.alloc (.cells #[.slice none 0 0] 23)).alloc (.cells #[.int .i64 0] 3)).alloc (.cells #[.int .i64 0] 24)).alloc (.cells #[.slice none 0 0] 23) = w1 at *
    have hbx : (w1.alloc (.cells #[.string s] 9)).heap[w.heap.size + 1 + 1 + 1 + 1]? = some (.cells #[.string s] 9 (0, 0)) := by rw [← hs1]; exact heap_alloc_new w1 _
    have hb2 : Below w.heap.size w (w1.alloc (.cells #[.string s] 9)) := hb1.alloc (by omega) _
    have hs2 : (w1.alloc (.cells #[.string s] 9)).heap.size = w.heap.size + 5 := by simp [hs1]
    have hd0 := (Below.heap_alloc w1 (.cells #[.string s] 9) w.heap.size (by omega)).trans hc0
    have hd1 := (Below.heap_alloc w1 (.cells #[.string s] 9) (w.heap.size + 1) (by omega)).trans hc1
    have hd2 := (Below.heap_alloc w1 (.cells #[.string s] 9) (w.heap.size + 1 + 1) (by omega)).trans hc2
    have hd3 := (Below.heap_alloc w1 (.cells #[.string s] 9) (w.heap.size + 1 + 1 + 1) (by omega)).trans hc3
    have hI0 : LexI w [] (w1.alloc (.cells #[.string s] 9)) := ⟨⟨hd0, hd1, hd2, hb2⟩, ⟨_, hd3, World.ownsRow_nil _ _ _ _⟩, by omega⟩
    clear hc0 hc1 hc2 hc3 hd0 hd1 hd2 hd3
    generalize w1.alloc (.cells #[.string s] 9) = wl at *
    generalize (Value.bool (decide (1048576 < (s.size : Int)))) = u
    have HSEQ := each_seq 3 (w.heap.size + 1 + 1 + 1 + 1) s wl (by omega) hbx hs (spc_below HG.out hb2)
    have kp : ∀ {A : World} {row : Option Nat}, (∀ r, row = some r → wl.heap.size ≤ r ∧ ∃ o : Obj, A.heap[r]? = some o ∧ o.isCells = false) → ∀ r, row = some r → w.heap.size ≤ r ∧ ∃ o : Obj, A.heap[r]? = some o ∧ o.isCells = false := fun ht r e => ⟨by have := (ht r e).1; omega, (ht r e).2⟩
    refine rangeD (n := 4) (by omega) (gf := 41) (lb := #[.pointer (some ⟨w.heap.size + 1 + 1 + 1 + 1, 0, none⟩)]) rfl (enters_of Tryd.func41 (by kernel_rfl) rfl) HSEQ
      (fun x A' k o o' hx hk ho => trivial) Keep9.trans (fun W k r o hk h => Keep9.put h) (fun W o => Keep9.below (below_new W o)) (fun x A' o h => trivial) (fun x => .cells (wdV x.at_ x.o) 31) (fun _ => rfl) (fun _ => rfl)
      (LexI w) (LexE w) (fun pre A1 A2 row h hg ht => h.keep hg (kp ht)) (fun pre A1 A2 row h hg ht => h.keep hg (kp ht)) hI0
      (fun x b => { tmps := tmpsL s w.heap.size u (.pointer (some ⟨b, 0, none⟩)) (.bool x.o.isSome) (.agg (wdV x.at_ x.o)) (.bool x.o.isSome), defers := [] })
      ?assign ?body ?left ?done ?back
    case assign =>
      rintro l' ⟨b, o⟩ W K hK
      unfold tmpsL at hK
      rcases o with _ | ⟨k, t, n, e⟩
      · dsimp only [wdV, Option.isSome] at hK
        dsimp only [wdV, Option.isSome]
        gi_wp2
        exact hK
      · dsimp only [wdV, Option.isSome] at hK
        dsimp only [wdV, Option.isSome]
        gi_wp2
        exact hK
    case body =>
      rintro l' b pre ⟨at_, o⟩ W - hI hlen hnl hb hbox
      rcases o with _ | ⟨k, t, n, e⟩
      · exact absurd rfl hnl
      obtain ⟨i0, hi, hz0, hz1, hz2⟩ := info_parts w31_info
      obtain ⟨v, hv, ho⟩ := hI.out
      obtain ⟨Av, cv, rfl⟩ := own4_slice ho
      dsimp only [wdV, Option.isSome] at hbox
      dsimp only [wdV, Option.isSome]
      have hcell := cell_of_one hv
      have hple : pre.length ≤ 2000000000 := by omega
      have HI := Lib.hid hI
      have HV := Lib.hid hv
      have HO := Lib.hid ho
      have q0 : W.cell? ⟨b, 0, none⟩ = some (.int .i64 k) := by rw [Lib.cell_of_heap hbox]; rfl
      have q1 : W.cell? ⟨b, 1, none⟩ = some (.string (ofL t)) := by rw [Lib.cell_of_heap hbox]; rfl
      have q2 : W.cell? ⟨b, 2, none⟩ = some (.int .i64 n) := by rw [Lib.cell_of_heap hbox]; rfl
      have q3 : W.cell? ⟨b, 3, none⟩ = some (.int .i64 at_) := by rw [Lib.cell_of_heap hbox]; rfl
      clear hI hv ho hbx hb1 hI0 HSEQ hbox hnl
      unfold tmpsL
      gi_wp2_with (gi_at_builtin; refine wpListIn_append_own _ rfl (.tmp 19) (.tmp 21) 23 rfl (w.heap.size + 5) 31 i0 _ 4 40 Tryd.underlying23 hi hz0 hz1 hz2 rfl (by decide) (.slice Av pre.length cv) pre.length (wdsC pre) rfl (HO.out.alloc _) ⟨W.heap.size, 0, none⟩ 1 1 [.int .i64 k, .string (ofL t), .int .i64 n, .int .i64 at_] rfl rfl (World.news_of_block (cs := #[.int .i64 k, .string (ofL t), .int .i64 n, .int .i64 at_]) (t := 31) (fr := (0, 0)) (heap_alloc_new W _)) (by simp [Value.oneCell']) (by simp only [maxLen]; omega) (by omega) (by have := HI.out.size; simp; omega) ?_; intro v3 w3 ho3 hg3 _; have HS := lex_step (x := ⟨at_, some (k, t, n, e)⟩) HI.out HV.out HO.out ho3 hg3; obtain ⟨Hc, HP⟩ := HS; obtain ⟨A3, c3, hv3⟩ := own4_slice ho3; subst hv3; have hc3 := cell_of_one Hc.out; have hf3 := free_of_one Hc.out; clear ho3 hg3)
      exact HP.out
    case left =>
      rintro l' b pre ⟨at_, o⟩ W - hI hlen hls hb hbox
      obtain rfl : o = none := hls
      dsimp only [wdV, Option.isSome] at hbox
      dsimp only [wdV, Option.isSome]
      have HI := Lib.hid hI
      have q3 : W.cell? ⟨b, 3, none⟩ = some (.int .i64 at_) := by rw [Lib.cell_of_heap hbox]; rfl
      have c0 := cell_of_one hI.ans.r0
      have c1 := cell_of_one hI.ans.r1
      have c2 := cell_of_one hI.ans.r2
      have f0 := free_of_one hI.ans.r0
      have f1 := free_of_one hI.ans.r1
      have f2 := free_of_one hI.ans.r2
      clear hI hbx hb1 hI0 HSEQ hbox
      unfold tmpsL
      gi_wp2_with fail
      gi_region
      all_goals
        gi_wp2_with fail
        exact (lex_left HI.out 1).out
    case done =>
      rintro D xs W hD hS hn hI hdef
      obtain ⟨v, hv, ho⟩ := hI.out
      obtain ⟨Av, cv, rfl⟩ := own4_slice ho
      have hcell := cell_of_one hv
      have c0 := cell_of_one hI.ans.r0
      have c1 := cell_of_one hI.ans.r1
      have c2 := cell_of_one hI.ans.r2
      have f0 := free_of_one hI.ans.r0
      have f1 := free_of_one hI.ans.r1
      have f2 := free_of_one hI.ans.r2
      obtain ⟨HDF, HAN, HOW⟩ := lex_done hI hv ho (by omega) hdef
      have HN := Lib.hid hn
      have HS := Lib.hid hS
      clear hI hv ho hdef hbx hb1 hI0 HSEQ hn hS
      gi_wp2_with fail
      refine ⟨by simp, .inl ⟨_, _, rfl, run_takeDeferred HDF.out, ?_⟩⟩
      refine ⟨.tuple #[.slice Av xs.length cv, .int .i64 0, .int .i64 0], res10 _ w.heap.size (w.heap.size + 1) (w.heap.size + 1 + 1) (.slice Av xs.length cv) 0 0 _ rfl rfl rfl HAN.out.r0 HAN.out.r1 HAN.out.r2, HAN.out.below, Or.inr (Or.inl ⟨hm', ?_, _, rfl, ?_⟩)⟩
      · rw [← HS.out]; exact HN.out
      · rw [← HS.out]; exact HOW.out
    case back =>
      rintro D pre x W hD hS hn hls hI hdef
      obtain ⟨pre', b, he, hA⟩ := hI
      have hA' := hA.keep (grownBy_putObj' W D (.deferred none)) (fun r e => by cases e; exact ⟨by omega, _, hdef, rfl⟩)
      refine ⟨by simp, .inl ⟨_, _, rfl, run_takeDeferred hdef, ?_⟩⟩
      refine ⟨.tuple #[.slice none 0 0, .int .i64 b, .int .i64 210], res10 _ w.heap.size (w.heap.size + 1) (w.heap.size + 1 + 1) (.slice none 0 0) b 210 _ rfl rfl rfl hA'.r0 hA'.r1 hA'.r2, hA'.below, Or.inr (Or.inr ⟨hm', pre', b, ?_, ?_, rfl⟩)⟩
      · rw [← he]; exact hS.symm
      · have := List.append_inj' he (by simp)
        rw [← this.1]
        exact hn
end Go.Proofs.YtejicjcdbfjajaaDoor
