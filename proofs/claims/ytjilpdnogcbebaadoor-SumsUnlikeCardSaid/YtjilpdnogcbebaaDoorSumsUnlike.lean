/- Proved here: 'taborlaw01.SumsUnlike' returns true for every two slices of bytes, which read behind the call as they read before. Conditions: those of the given card (the four listed tables hold what the program's text lays; nothing else). -/
import Derived.Test.YtjilpdnogcbebaaDoorFrame
import Derived.Test.YtjilpdnogcbebaaDoorMath
namespace Go.Proofs.YtjilpdnogcbebaaDoor.sumsUnlike
open Go Go.RowKit Go.ChangeShapes Go.WideShapes Go.ChangeAt
open Go.ChangeMaps (open_string shut_string)

theorem row_conv {w : World} {g : Nat} {l : List UInt8} (h : RowB w g (padL l)) :
    (convert 22 9 (.slice (some ⟨g, 0, none⟩) (padN l.length) (padN l.length))).run Tryd.prog w = .ok (.string ⟨(padL l).toArray⟩) w := by
  have e := conv_some w g 0 (padN l.length) (padL l) (fun j hj => by rw [Nat.zero_add]; exact h.cell j hj)
  rwa [padL_len] at e
theorem rowB_below {w w' : World} {g : Nat} {l : List UInt8} (h : RowB w g l) (hb : Below w.heap.size w w') : RowB w' g l := by
  have hlt : g < w.heap.size := by
    rcases Nat.lt_or_ge g w.heap.size with h1 | h1
    · exact h1
    · unfold RowB at h; rw [Array.getElem?_eq_none h1] at h; cases h
  exact (hb.block g hlt).trans h
theorem own_below {w w' : World} {base n : Nat} {v : Value} {xs : List Value} (h : w.ownsRow base 5 1 v n xs) (hb : Below w.heap.size w w') : w'.ownsRow base 5 1 v n xs :=
  h.kept (row := none) ⟨hb.os, hb.tape, hb.output, hb.size, fun k hk _ => hb.block k hk⟩ (by cases v.ownBlock <;> simp)
theorem own_rd {w : World} {base : Nat} {v : Value} {l : List UInt8} (hl : 0 < l.length) (h : w.ownsRow base 5 1 v l.length (cellsB l)) : ∃ A c, v = .slice A l.length c ∧ Rd w A l := by
  have hlt := h.lt
  rcases h.2 with ⟨_, h0⟩ | ⟨g, cap, cur, rfl, hg, hh, hn, _⟩
  · omega
  · refine ⟨_, cap, rfl, fun _ => ⟨g, 0, rfl, (hlt g rfl).2, fun j hj => ?_⟩⟩
    have := h.cells (g := g) rfl j (.int .u8 l[j].toNat) (by simp [cellsB, cellB, hj])
    rw [add0] at this
    rw [Nat.zero_add]; exact this
theorem row4_cells (n : Nat) (h : n < 4294967296) : row4 n = (cellsB (bytes4 n)).toArray := by
  have h1 : n / 16777216 % 256 = n / 16777216 := by omega
  simp [row4, cellsB, cellB, bytes4, h1]
theorem bytes_new (n : Nat) (w : World) (hn : n < 4294967296) :
    Calls Tryd.prog 21 #[.int .u32 n] w fun e w' => ∃ g, e = .returned (.slice (some ⟨g, 0, none⟩) 4 4) ∧ (∀ j u, (cellsB (bytes4 n))[j]? = some u → w'.cell? ((⟨g, 0, none⟩ : Addr).add j) = some u) ∧ g < w'.heap.size ∧ w.grownBy w' none ∧ Below w.heap.size w w' := by
  refine (bytes_any n w hn).mono ?_
  rintro e w' ⟨rfl, rfl⟩
  have hb : Below w.heap.size w (w.alloc (.cells (row4 n) 5)) := (Below.refl _ _).alloc (Nat.le_refl _) _
  refine ⟨_, rfl, fun j u hu => ?_, by simp, ⟨hb.os, hb.tape, hb.output, hb.size, fun k hk _ => hb.block k hk⟩, hb⟩
  rw [add0, cell_of_row _ w.heap.size j _ 5 (0, 0) (heap_alloc_new w _), row4_cells n hn]
  simpa using hu
theorem sum_lt (a : List UInt8) : inv (crcL (inv 0) a) < 4294967296 := inv_lt _ (crcL_lt a _ (inv_lt 0 (by omega)))
theorem sum_sum (a : List UInt8) (N : Nat) (h : N = inv (crcL (inv 0) a)) : ((inv (crcL (inv 0) (a ++ bytes4 N)) : Nat) : Int) = 558161692 := by
  rw [h, own_sum a _ (crcL_lt a _ (inv_lt 0 (by omega))) rfl]; rfl
theorem arg_news {w : World} {x : Addr} {c : Nat} {l : List UInt8} (h : Arg w (.slice (some x) l.length c) l) : ∀ j u, (cellsB l)[j]? = some u → w.cell? (x.add j) = some u := by
  intro j u hu
  obtain ⟨hj, he⟩ := List.getElem?_eq_some_iff.1 hu
  have hj' : j < l.length := by simpa [cellsB] using hj
  rcases h with ⟨h, _⟩ | ⟨a, c, _, rfl⟩ | ⟨b, off, c, h, hlt, hc⟩
  · cases h
  · simp at hj'
  · cases h
    rw [addoff, hc j hj', ← he]
    simp [cellsB, cellB]

set_option maxHeartbeats 1000000 in
theorem walk_some (x : Addr) (c : Nat) (a : List UInt8) (v : Value) (b : List UInt8) (w : World) (hla : a.length ≤ 3000) (hlb : b.length ≤ 3000) (hu : Arg w (.slice (some x) a.length c) a) (hv : Arg w v b) (hL : Laid w) :
    Calls Tryd.prog 11 #[(.slice (some x) a.length c), v] w fun e w' => e = .returned (.bool true) ∧ Below w.heap.size w w' := by
  obtain ⟨i0, hi, hz0, hz1, hz2⟩ := info_parts u8_info
  have hra : Rd w (some x) a := by
    obtain ⟨A, c', he, hr⟩ := hu.rd
    cases he; exact hr
  have HRA := Lib.hid hra
  clear hra
  have HU := Lib.hid hu
  have HV := Lib.hid hv
  have HL := Lib.hid hL
  have HLA := Lib.hid hla
  have HLB := Lib.hid hlb
  obtain ⟨B, cb, rfl, hrb⟩ := hv.rd
  have HRB := Lib.hid hrb
  have da : decide ((a.length : Int) > 3000) = false := by first | (simp; done) | (simp; omega)
  have db : decide ((b.length : Int) > 3000) = false := by simp; omega
  have hne : (!((padL a == padL b) == (a == b))) = false := by
    by_cases h : a = b
    · rw [h]; simp
    · have h' : padL a ≠ padL b := fun e => h (padL_inj hla hlb e)
      rw [beq_eq_false_iff_ne.2 h', beq_eq_false_iff_ne.2 h]; rfl
  clear hL hu hv hrb hla hlb
  go_enter Tryd.func11, Tryd.ntmps11
  go_wp2_with fail
  refine (pad_any (some x) c a w (by have := HLA.out; omega) HRA.out).mono ?_
  rintro e w1 ⟨rfl, hp1, hb1⟩
  go_wp2_with fail
  refine (pad_any B cb b w1 (by have := HLB.out; omega) (HRB.out.below hb1)).mono ?_
  rintro e w2 ⟨rfl, hp2, hb2⟩
  have hbw2 : Below w.heap.size w w2 := hb1.trans (hb2.mono hb1.size)
  have hc1 := row_conv (rowB_below hp1 hb2)
  have hc2 := row_conv hp2
  have hc3 := (HU.out.below hbw2).conv
  have hc4 := (HV.out.below hbw2).conv
  have hown0 : (w2.alloc (.cells #[] 5)).ownsRow w2.heap.size 5 1 (.slice (some ⟨w2.heap.size, 0, none⟩) 0 0) 0 [] := World.ownsRow_made w2 #[] 0 (Nat.le_refl _) (by decide) (by simp)
  have hb0 : Below w2.heap.size w2 (w2.alloc (.cells #[] 5)) := (Below.refl w2.heap.size w2).alloc (Nat.le_refl _) (.cells #[] 5)
  have hbw0 : Below w.heap.size w (w2.alloc (.cells #[] 5)) := hbw2.trans (hb0.mono hbw2.size)
  have hnews := (HU.out.below hbw0)
  go_wp2_with (first
    | (at_builtin
       (refine wpList_append_own _ rfl (.tmp 31) (.tmp 32) _ rfl w2.heap.size 5 i0 _ 1 1 Tryd.underlying22 hi hz0 hz1 hz2 rfl (by omega) (.slice (some ⟨w2.heap.size, 0, none⟩) 0 0) 0 [] rfl hown0 x a.length c (cellsB a) rfl (by simp [cellsB]) (arg_news hnews) (cellsB_one a) (by have := HLA.out; simp only [maxLen]; omega) (by have := HLA.out; omega) (by simp) ?_)
       intro v3 w3 hown3 hg3 _
       have hb2w3 : Below w2.heap.size w2 w3 := hb0.grown hg3 (by simp) (by simp [Value.ownBlock])
       have hbw3 : Below w.heap.size w w3 := hbw2.trans (hb2w3.mono hbw2.size)
       have hl3 := HL.out.below hbw3
       skip)
    | (at_builtin
       go_must (refine wpList_append_own _ rfl (.tmp 33) (.tmp 36) _ rfl w2.heap.size 5 i0 _ 1 1 Tryd.underlying22 hi hz0 hz1 hz2 rfl (by omega) v3 (0 + a.length) ([] ++ cellsB a) rfl hown5 ⟨g5, 0, none⟩ 4 4 (cellsB (bytes4 N)) rfl (by simp [cellsB, bytes4]) hf5 (cellsB_one _) (by first | (simp [maxLen]; done) | (have := HLA.out; simp only [maxLen]; simp; omega)) (by first | (simp; done) | (have := HLA.out; simp; omega)) (hb2w5.size) ?_)
       intro v6 w6 hown6 hg6 _
       have hbw6 : Below w.heap.size w w6 := hbw5.grown hg6 hbw5.size (fun k hk => by have := (hown5.lt k hk).1; have := hbw2.size; omega)
       obtain ⟨L, hLe, hown6'⟩ : ∃ L, L = a ++ bytes4 N ∧ w6.ownsRow w2.heap.size 5 1 v6 L.length (cellsB L) := ⟨_, rfl, by simpa [cellsB, bytes4] using hown6⟩
       have hLlen : L.length ≤ 1000000 := by rw [hLe]; first | (simp [bytes4]; done) | (have := HLA.out; simp [bytes4]; omega)
       have hS6 : ((inv (crcL (inv 0) L) : Nat) : Int) = 558161692 := by rw [hLe]; exact HS.out
       have HS6 := Lib.hid hS6
       obtain ⟨A6, c6, rfl, hr6⟩ := own_rd (by rw [hLe]; simp [bytes4]) hown6'
       clear hLe hown6' hS6
       have hl6 := HL.out.below hbw6)
    | (go_at_call 14
       refine (crc_any (some x) c a w3 (by have := HLA.out; omega) (HRA.out.below hbw3) hl3.1 (by have := hl3.2.2; omega)).mono ?_
       rintro e w4 ⟨rfl, hb4⟩
       have hbw4 : Below w.heap.size w w4 := hbw3.trans (hb4.mono hbw3.size)
       have hown4 := own_below hown3 hb4
       have hNlt : inv (crcL (inv 0) a) < 4294967296 := sum_lt a
       obtain ⟨N, hN⟩ : ∃ N, N = inv (crcL (inv 0) a) := ⟨_, rfl⟩
       rw [← hN] at hNlt ⊢
       have HS := Lib.hid (sum_sum a N hN)
       clear hN)
    | (go_at_call 14
       go_must (refine (crc_any A6 c6 L w6 hLlen hr6 hl6.1 (by have := hl6.2.2; omega)).mono ?_)
       rintro e w7 ⟨rfl, hb7⟩
       rw [HS6.out]
       have hbw7 : Below w.heap.size w w7 := hbw6.trans (hb7.mono hbw6.size))
    | (go_at_call 21
       go_must (refine (bytes_new N w4 hNlt).mono ?_)
       rintro e w5 ⟨g5, rfl, hf5, hg5, hgr5, hb5⟩
       have hbw5 : Below w.heap.size w w5 := hbw4.trans (hb5.mono hbw4.size)
       have hown5 := own_below hown4 hb5
       have hb2w5 : Below w2.heap.size w2 w5 := (hb2w3.trans (hb4.mono hb2w3.size)).trans (hb5.mono (hb2w3.trans (hb4.mono hb2w3.size)).size))
    | (go_at_call 12
       go_must (refine (works_any w7 (HL.out.below hbw7)).mono ?_)
       rintro e w8 ⟨rfl, hb8⟩
       have hbw8 : Below w.heap.size w w8 := hbw7.trans (hb8.mono hbw7.size)))
  go_ret
  exact ⟨rfl, hbw8⟩

set_option maxHeartbeats 1000000 in
theorem walk_none (v : Value) (b : List UInt8) (w : World) (hla : ([] : List UInt8).length ≤ 3000) (hlb : b.length ≤ 3000) (hu : Arg w (.slice none 0 0) ([] : List UInt8)) (hv : Arg w v b) (hL : Laid w) :
    Calls Tryd.prog 11 #[(.slice none 0 0), v] w fun e w' => e = .returned (.bool true) ∧ Below w.heap.size w w' := by
  obtain ⟨i0, hi, hz0, hz1, hz2⟩ := info_parts u8_info
  have HU := Lib.hid hu
  have HV := Lib.hid hv
  have HL := Lib.hid hL
  have HLA := Lib.hid hla
  have HLB := Lib.hid hlb
  obtain ⟨B, cb, rfl, hrb⟩ := hv.rd
  have HRB := Lib.hid hrb
  have da : decide ((([] : List UInt8).length : Int) > 3000) = false := by first | (simp; done) | (simp; omega)
  have db : decide ((b.length : Int) > 3000) = false := by simp; omega
  have hne : (!((padL ([] : List UInt8) == padL b) == b.isEmpty)) = false := by
    by_cases h : b = []
    · rw [h]; simp
    · have h' : padL ([] : List UInt8) ≠ padL b := fun e => h (padL_inj hla hlb e).symm
      rw [beq_eq_false_iff_ne.2 h', List.isEmpty_eq_false_iff.2 h]; rfl
  clear hL hu hv hrb hla hlb
  go_enter Tryd.func11, Tryd.ntmps11
  go_wp2_with fail
  refine (pad_any none 0 ([] : List UInt8) w (by have := HLA.out; omega) (fun h => absurd h (by simp))).mono ?_
  rintro e w1 ⟨rfl, hp1, hb1⟩
  go_wp2_with fail
  refine (pad_any B cb b w1 (by have := HLB.out; omega) (HRB.out.below hb1)).mono ?_
  rintro e w2 ⟨rfl, hp2, hb2⟩
  have hbw2 : Below w.heap.size w w2 := hb1.trans (hb2.mono hb1.size)
  have hc1 := row_conv (rowB_below hp1 hb2)
  simp only [List.length_nil] at hc1
  have hc2 := row_conv hp2
  have hc3 := (HU.out.below hbw2).conv
  have hc4 := (HV.out.below hbw2).conv
  have hown0 : (w2.alloc (.cells #[] 5)).ownsRow w2.heap.size 5 1 (.slice (some ⟨w2.heap.size, 0, none⟩) 0 0) 0 [] := World.ownsRow_made w2 #[] 0 (Nat.le_refl _) (by decide) (by simp)
  have hb0 : Below w2.heap.size w2 (w2.alloc (.cells #[] 5)) := (Below.refl w2.heap.size w2).alloc (Nat.le_refl _) (.cells #[] 5)
  have hbw0 : Below w.heap.size w (w2.alloc (.cells #[] 5)) := hbw2.trans (hb0.mono hbw2.size)
  have hnews := (HU.out.below hbw0)
  go_wp2_with (first
    | (at_builtin
       (refine wpList_append_own_none rfl (.tmp 31) (.tmp 32) _ rfl w2.heap.size 5 i0 1 Tryd.underlying22 hi (.slice (some ⟨w2.heap.size, 0, none⟩) 0 0) 0 [] rfl hown0 rfl ?_)
       generalize w2.alloc (.cells #[] 5) = w3 at *
       have hb2w3 := hb0
       have hbw3 := hbw0
       have hown3 := hown0
       have hl3 := HL.out.below hbw3
       skip)
    | (at_builtin
       go_must (refine wpList_append_own _ rfl (.tmp 33) (.tmp 36) _ rfl w2.heap.size 5 i0 _ 1 1 Tryd.underlying22 hi hz0 hz1 hz2 rfl (by omega) (.slice (some ⟨w2.heap.size, 0, none⟩) 0 0) (0) ([]) rfl hown5 ⟨g5, 0, none⟩ 4 4 (cellsB (bytes4 N)) rfl (by simp [cellsB, bytes4]) hf5 (cellsB_one _) (by first | (simp [maxLen]; done) | (have := HLA.out; simp only [maxLen]; simp; omega)) (by first | (simp; done) | (have := HLA.out; simp; omega)) (hb2w5.size) ?_)
       intro v6 w6 hown6 hg6 _
       have hbw6 : Below w.heap.size w w6 := hbw5.grown hg6 hbw5.size (fun k hk => by have := (hown5.lt k hk).1; have := hbw2.size; omega)
       obtain ⟨L, hLe, hown6'⟩ : ∃ L, L = ([] : List UInt8) ++ bytes4 N ∧ w6.ownsRow w2.heap.size 5 1 v6 L.length (cellsB L) := ⟨_, rfl, by simpa [cellsB, bytes4] using hown6⟩
       have hLlen : L.length ≤ 1000000 := by rw [hLe]; first | (simp [bytes4]; done) | (have := HLA.out; simp [bytes4]; omega)
       have hS6 : ((inv (crcL (inv 0) L) : Nat) : Int) = 558161692 := by rw [hLe]; exact HS.out
       have HS6 := Lib.hid hS6
       obtain ⟨A6, c6, rfl, hr6⟩ := own_rd (by rw [hLe]; simp [bytes4]) hown6'
       clear hLe hown6' hS6
       have hl6 := HL.out.below hbw6)
    | (go_at_call 14
       refine (crc_any none 0 ([] : List UInt8) w3 (by have := HLA.out; omega) (fun h => absurd h (by simp)) hl3.1 (by have := hl3.2.2; omega)).mono ?_
       rintro e w4 ⟨rfl, hb4⟩
       have hbw4 : Below w.heap.size w w4 := hbw3.trans (hb4.mono hbw3.size)
       have hown4 := own_below hown3 hb4
       have hNlt : inv (crcL (inv 0) ([] : List UInt8)) < 4294967296 := sum_lt ([] : List UInt8)
       obtain ⟨N, hN⟩ : ∃ N, N = inv (crcL (inv 0) ([] : List UInt8)) := ⟨_, rfl⟩
       rw [← hN] at hNlt ⊢
       have HS := Lib.hid (sum_sum ([] : List UInt8) N hN)
       clear hN)
    | (go_at_call 14
       go_must (refine (crc_any A6 c6 L w6 hLlen hr6 hl6.1 (by have := hl6.2.2; omega)).mono ?_)
       rintro e w7 ⟨rfl, hb7⟩
       rw [HS6.out]
       have hbw7 : Below w.heap.size w w7 := hbw6.trans (hb7.mono hbw6.size))
    | (go_at_call 21
       go_must (refine (bytes_new N w4 hNlt).mono ?_)
       rintro e w5 ⟨g5, rfl, hf5, hg5, hgr5, hb5⟩
       have hbw5 : Below w.heap.size w w5 := hbw4.trans (hb5.mono hbw4.size)
       have hown5 := own_below hown4 hb5
       have hb2w5 : Below w2.heap.size w2 w5 := (hb2w3.trans (hb4.mono hb2w3.size)).trans (hb5.mono (hb2w3.trans (hb4.mono hb2w3.size)).size))
    | (go_at_call 12
       go_must (refine (works_any w7 (HL.out.below hbw7)).mono ?_)
       rintro e w8 ⟨rfl, hb8⟩
       have hbw8 : Below w.heap.size w w8 := hbw7.trans (hb8.mono hbw7.size)))
  go_ret
  exact ⟨rfl, hbw8⟩

theorem walk (u v : Value) (a b : List UInt8) (w : World) (hu : Arg w u a) (hv : Arg w v b) (hL : Laid w) :
    Calls Tryd.prog 11 #[u, v] w fun e w' => e = .returned (.bool true) ∧ Below w.heap.size w w' := by
  by_cases hla : a.length ≤ 3000
  · by_cases hlb : b.length ≤ 3000
    · have hu' := hu
      rcases hu with ⟨rfl, rfl⟩ | ⟨x, c, rfl, rfl⟩ | ⟨g, off, c, rfl, hlt, hc⟩
      · exact walk_none v b w hla hlb hu' hv hL
      · exact walk_some x c [] v b w hla hlb hu' hv hL
      · exact walk_some ⟨g, off, none⟩ c a v b w hla hlb hu' hv hL
    · have da : decide ((a.length : Int) > 3000) = false := by simp; omega
      have db : decide ((b.length : Int) > 3000) = true := by simp; omega
      obtain ⟨A, ca, rfl, _⟩ := hu.rd
      obtain ⟨B, cb, rfl, _⟩ := hv.rd
      have HL := Lib.hid hL
      clear hL hu hv
      go_enter Tryd.func11, Tryd.ntmps11
      go_wp2_with fail
      refine (works_any w HL.out).mono ?_
      rintro e w3 ⟨rfl, hb3⟩
      go_wp2
      go_ret
      exact ⟨rfl, hb3⟩
  · have da : decide ((a.length : Int) > 3000) = true := by simp; omega
    obtain ⟨A, ca, rfl, _⟩ := hu.rd
    obtain ⟨B, cb, rfl, _⟩ := hv.rd
    have HL := Lib.hid hL
    clear hL hu hv
    go_enter Tryd.func11, Tryd.ntmps11
    go_wp2_with fail
    refine (works_any w HL.out).mono ?_
    rintro e w3 ⟨rfl, hb3⟩
    go_wp2
    go_ret
    exact ⟨rfl, hb3⟩


theorem contract (H : Type) (enc : TypeId × Value → H) (W : World) (base : Nat) (args : Array Value) (ds gs : List (DataW H)) (before : List MemPlace)
    (hval : ∀ (j : Nat) t v, Tryd.f11.params[j]? = some t → args[j]? = some v → Value.okWide Tryd.prog W .any base t v)
    (hW : DataW.Whole enc Tryd.prog Tryd.f11.params.toList Rows.sumsUnlikeSpec.vars false W args.toList ds gs before) (hL : laidMetH Tryd.prog Rows.sumsUnlikeRow.laid W) :
    Calls Tryd.prog 11 args W fun e W' => ∃ v, e = .returned v ∧ Rows.sumsUnlikeSpec.post enc Tryd.prog Tryd.f11 false true false false W args v W' := by
  have hW' := hW
  obtain ⟨p, q, hA0, hV, rfl, hfz, hnd⟩ := hW
  have hA : DataW.TrodAll enc Tryd.prog W 0 (fun _ => true) true Tryd.f11.params.toList args.toList ds p := hA0
  rw [Tryd.params11] at hA hval
  obtain ⟨v0, vs0, d0, ds0, p0, q0, hargs, rfl, rfl, h0, r0⟩ := trodAll_cons hA
  obtain ⟨v1, vs1, d1, ds1, p1, q1, rfl, rfl, rfl, h1, r1⟩ := trodAll_cons r0
  obtain ⟨rfl, rfl, rfl⟩ := trodAll_nil r1
  obtain rfl : args = #[v0, v1] := by cases args; simp_all
  obtain ⟨rfl, rfl⟩ := trodVars_none hV
  obtain ⟨a0, len0, cap0, rfl⟩ := okWide_slice Tryd.underlying22 (hval 0 22 v0 rfl rfl)
  have k0 := h0
  have lt0 : ∀ x ∈ p0, x.block < W.heap.size := by obtain ⟨m, hm⟩ := k0; exact DataW.trod_lt m _ _ _ hm
  obtain ⟨l0, ha0, hlen0, hmax0⟩ := arg_of h0
  obtain ⟨a1, len1, cap1, rfl⟩ := okWide_slice Tryd.underlying22 (hval 1 22 v1 rfl rfl)
  have k1 := h1
  have lt1 : ∀ x ∈ p1, x.block < W.heap.size := by obtain ⟨m, hm⟩ := k1; exact DataW.trod_lt m _ _ _ hm
  obtain ⟨l1, ha1, hlen1, hmax1⟩ := arg_of h1
  clear hA0
  refine (walk _ _ l0 l1 W ha0 ha1 (laid_of hL)).mono fun e W' ⟨he, bel⟩ => ?_
  subst he
  exact ⟨_, rfl, _, _, _, [], _, [], hW', trodAll_mk1 (shut_bool Tryd.underlying4 _), (trodAll_cons_mk (Below.trod laidOut (by kernel_rfl) (of_decide_eq_true (by kernel_rfl)) k0 bel lt0) (trodAll_cons_mk (Below.trod laidOut (by kernel_rfl) (of_decide_eq_true (by kernel_rfl)) k1 bel lt1) trodAll_mk0)), rfl, bel.frame _, fun h => by cases h⟩

theorem reads (os : Os) {H : Type} (enc : TypeId × Value → H) : ∃ places, DataW.whole enc Tryd.prog ((laidWorld os).forCall (fun _ _ => 0) ⟨#[], #[.slice none 0 0, .slice none 0 0], []⟩).memory Tryd.f11.params.toList Rows.sumsUnlikeSpec.vars false (#[.slice none 0 0, .slice none 0 0] : Array Value).toList 8 = some ([.nil, .nil], [], places) :=
  ⟨[], by kernel_rfl⟩

set_option maxRecDepth 100000 in
theorem lifted (os : Os) (started : os.Started) (H : Type) (enc : TypeId × Value → H) (F : Stop.Interp) :
    ReturnsInHanded {} Tryd.checked os 11 .any ((OpenSpec.ofChange Rows.sumsUnlikeSpec).preRow enc Tryd.prog Tryd.f11 Rows.sumsUnlikeRow.domain false Rows.sumsUnlikeRow.laid) (((OpenSpec.ofChange Rows.sumsUnlikeSpec).at F).post enc Tryd.prog Tryd.f11 false true false false) := by
  obtain ⟨places, hx⟩ := reads os enc
  refine returnsInHanded_of_row (C := Tryd.checked) (s := OpenSpec.ofChange Rows.sumsUnlikeSpec) own started (by kernel_rfl) Tryd.func11
    (witness_row_at (enc := enc) (C := Tryd.checked) false (laidWorld os) #[.slice none 0 0, .slice none 0 0] rfl (by kernel_rfl) (by kernel_rfl) (by kernel_rfl)
      (OpenSpec.preRow_of_cond 8 hx (by kernel_rfl) (fun k hk => by cases hk) (by kernel_rfl) (laid_met os _))) ?_
  intro W base args ds gs before hval hW _ _ _ hL _ _
  exact contract H enc W base args ds gs before hval hW hL

theorem said : Rows.SumsUnlikeSaid :=
  OpenClaim.holds_of_cond 11 Tryd.f11 rfl rfl rfl rfl rfl rfl rfl ⟨rfl, rfl, rfl, rfl, rfl⟩ rfl rfl rfl rfl rfl (by kernel_rfl) Tryd.func11 (by kernel_rfl)
    (of_decide_eq_true (by kernel_rfl)) (by unfold Func.isWrapper; first | (rw [if_pos (by decide +kernel)]; kernel_rfl) | (rw [if_neg (by decide +kernel)]; exact ⟨rfl, rfl⟩))
    (fun os started H enc _ F => by rw [OpenClaim.pre_eq_preRow]; exact lifted os started H enc F)

theorem plain (f : FuncId) (fn : Func) (hf : Tryd.pinned.checked.prog.funcNamed "tabor/taborlaw01.SumsUnlike" = some f) (hfn : Tryd.pinned.checked.prog.funcs[f]? = some fn) :
    false = Tryd.pinned.checked.prog.looks [] ∧ ∀ (j : Nat) t, fn.params[j]? = some t → Tryd.pinned.checked.prog.wantsStandIn t = false := by
  obtain rfl : f = 11 := Option.some.inj ((show Tryd.prog.funcNamed "tabor/taborlaw01.SumsUnlike" = some 11 by kernel_rfl).symm.trans hf) |>.symm
  obtain rfl : fn = Tryd.f11 := (Option.some.inj (Tryd.func11.symm.trans hfn)).symm
  refine ⟨by kernel_rfl, fun j t ht => ?_⟩
  rw [Tryd.params11] at ht
  obtain rfl : t = 22 := by simpa using Array.mem_of_getElem? ht
  exact (show Tryd.prog.wantsStandIn 22 = false by kernel_rfl)

/-- The card. -/
theorem card : Rows.SumsUnlikeCardSaid :=
  Claim7.holds_tied_plain_at .later [] _ _ _ _ said (fun _ h => by cases h) (by kernel_rfl) (fun _ h => by cases h) sumsUnlike_row_tie rfl ⟨rfl, rfl⟩ (by kernel_rfl) rfl plain (by kernel_rfl)
#print axioms card
end Go.Proofs.YtjilpdnogcbebaaDoor.sumsUnlike
