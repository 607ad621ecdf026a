/- Proved here: 'taborlaw06.DequeAlls' returns true for any list of texts and any text. Conditions: none. -/
import Derived.LaidLaws
import Derived.Test.YtnnlfhdjakabmaaFrame
import Derived.Test.YtnnlfhdjakabmaaAm
namespace Go.Proofs.Ytnnlfhdjakabmaa.dequeAlls
open Go Go.RowKit Go.ChangeShapes Go.WideShapes Go.ChangeAt
open Go.Shelf

open Go.Shelf
attribute [local go_sem] Oper.semAt_some
def tmpsM (A : Option Addr) (n c : Nat) (t : ByteArray) (D E C g2 : Nat) (i s : Value) : Array Value := #[.slice A n c, .string t, undef, undef, .bool false, .pointer (some ⟨D, 0, none⟩), .int .i64 0, .func (.func 49) #[] #[.pointer (some ⟨E, 0, none⟩)], .int .i64 0, .pointer (some ⟨C, 0, none⟩), undef, s, undef, .slice A n c, .bool true, .bool false, .bool false, .string t, .int .i64 (t.size : Int), .bool false, .bool false, undef, .tuple #[.pointer (some ⟨D, 0, none⟩), .int .i64 0], .slice A n c, .tuple #[.pointer (some ⟨D, 0, none⟩), .int .i64 0], .pointer (some ⟨D, 0, none⟩), .int .i64 0, .pointer (some ⟨D, 0, none⟩), .func (.func 49) #[] #[.pointer (some ⟨E, 0, none⟩)], .pointer (some ⟨D, 0, none⟩), .string t, .slice (some ⟨g2, 0, none⟩) 1 1, .int .i64 0, .func (.func 49) #[] #[.pointer (some ⟨E, 0, none⟩)], .bool false, .func (.func 49) #[] #[.pointer (some ⟨E, 0, none⟩)], i, s, undef, undef, undef, undef, undef, undef, undef, undef, undef, undef, undef, undef, undef, undef, undef, undef, undef, undef, undef, undef, undef, undef, undef, undef, undef, undef, undef, undef, undef, undef, undef, undef, undef, undef, undef, undef, undef, undef]
def tmpsN (A : Option Addr) (n c : Nat) (t : ByteArray) (D E C C2 g2 : Nat) (i s : Value) : Array Value := #[.slice A n c, .string t, undef, undef, .bool false, .pointer (some ⟨D, 0, none⟩), .int .i64 0, .func (.func 49) #[] #[.pointer (some ⟨E, 0, none⟩)], .int .i64 0, .pointer (some ⟨C, 0, none⟩), undef, undef, .pointer (some ⟨C2, 0, none⟩), .slice A n c, .bool true, .bool false, .bool false, .string t, .int .i64 (t.size : Int), .bool false, .bool false, undef, .tuple #[.pointer (some ⟨D, 0, none⟩), .int .i64 0], .slice A n c, .tuple #[.pointer (some ⟨D, 0, none⟩), .int .i64 0], .pointer (some ⟨D, 0, none⟩), .int .i64 0, .pointer (some ⟨D, 0, none⟩), .func (.func 49) #[] #[.pointer (some ⟨E, 0, none⟩)], .pointer (some ⟨D, 0, none⟩), .string t, .slice (some ⟨g2, 0, none⟩) 1 1, .int .i64 0, .func (.func 49) #[] #[.pointer (some ⟨E, 0, none⟩)], .bool false, .func (.func 49) #[] #[.pointer (some ⟨E, 0, none⟩)], undef, undef, undef, undef, undef, undef, .func (.func 49) #[] #[.pointer (some ⟨E, 0, none⟩)], i, s, undef, undef, undef, undef, undef, undef, undef, undef, undef, undef, undef, undef, undef, undef, undef, undef, undef, undef, undef, undef, undef, undef, undef, undef, undef, undef, undef, undef, undef, undef, undef]
set_option maxHeartbeats 8000000 in
set_option maxRecDepth 100000 in
theorem walk (A : Option Addr) (n c : Nat) (l : List ByteArray) (t : ByteArray) (w : World) (hn : l.length = n) (bn : n ≤ 9223372036854775807) (hnc : n ≤ c) (hO : A = none → c = 0) (hs : ∀ s ∈ l, s.size ≤ 140737488351232) (ha : RdV w A (cellsS l)) (htb : t.size ≤ 9223372036854775807) :
    Calls Try.prog 9 #[.slice A n c, .string t] w fun e w' => e = .returned (.bool true) ∧ Below w.heap.size w w' := by
  have H1 := few_any A n c l w hn bn hs ha
  have HW := Lib.hid (works_any w)
  have HN := Lib.hid hn
  have HA := Lib.hid ha
  have HO := Lib.hid hO
  refine (callsIn_wide (n := 4)).1 ?_
  refine callsIn_of_wp_marks Try.func9 rfl trivial ?_ rfl
  simp only [Try.ntmps9, List.size_toArray, List.length_cons, List.length_nil, Nat.reduceAdd, Nat.reduceSub, Array.replicate_succ, Array.replicate_zero, List.push_toArray, List.append_toArray, List.nil_append, List.cons_append]
  by_cases q1 : szT l ≤ 3000
  rotate_left
  · rw [decide_eq_false q1] at H1
    have H1' := Lib.hid H1
    clear hn hs ha H1 q1 hO
    gi_wp2_with fail
    refine ⟨trivial, (callsIn_wide.2 H1'.out).mono ?_⟩
    rintro e w' ⟨rfl, rfl⟩
    gi_wp2_with fail
    refine ⟨trivial, (callsIn_wide.2 HW.out).mono ?_⟩
    rintro e w2 ⟨rfl, hb2⟩
    gi_wp2
    exact ⟨_, results_tmp Try.results9 _ _ _, rfl, hb2⟩
  rw [decide_eq_true q1] at H1
  have H1' := Lib.hid H1
  have L1 := Lib.hid (long_few q1)
  have z1 := szT_len l
  have bn' : n ≤ 300 := by omega
  clear hn hs ha H1 q1 z1 bn hO
  by_cases q3 : t.size > 3000
  · have d3 : decide ((t.size : Int) > 3000) = true := by simp; omega
    gi_wp2_with fail
    refine ⟨trivial, (callsIn_wide.2 H1'.out).mono ?_⟩
    rintro e w' ⟨rfl, rfl⟩
    gi_wp2_with fail
    refine ⟨trivial, (callsIn_wide.2 HW.out).mono ?_⟩
    rintro e w2 ⟨rfl, hb2⟩
    gi_wp2
    exact ⟨_, results_tmp Try.results9 _ _ _, rfl, hb2⟩
  have d3 : decide ((t.size : Int) > 3000) = false := by simp; omega
  gi_wp2_with fail
  refine ⟨trivial, (callsIn_wide.2 H1'.out).mono ?_⟩
  rintro e w0 ⟨rfl, rfl⟩
  gi_wp2_with fail
  refine ⟨trivial, (callsIn_wide.2 (new_ps w0 A n c l w0 (Below.refl _ _) HN.out HA.out L1.out (by omega))).mono ?_⟩
  rintro e w1 ⟨D, rfl, hp⟩
  have HP1 := Lib.hid hp
  clear hp
  gi_wp2_with fail
  refine ⟨trivial, (callsIn_wide.2 (all_ps w0 D l w1 HP1.out)).mono ?_⟩
  rintro e w2 ⟨E, A2, c2, rfl, hall⟩
  have HA2 := Lib.hid hall
  clear hall HP1
  gi_wp2_with fail
  refine ⟨trivial, (callsIn_wide.2 (allp_front w0 D l E A2 c2 l t w2 HA2.out (by omega) (by rw [HN.out]; omega))).mono ?_⟩
  rintro e w3 ⟨rfl, hall⟩
  have HA3 := Lib.hid hall
  clear hall HA2
  have hnf := nf E (w3.alloc (.cells #[.slice none 0 0] 29))
  gi_wp2_with fail
  have hcm := heap_alloc_new w3 (.cells #[.slice none 0 0] 29)
  have hba := below_new w3 (.cells #[.slice none 0 0] 29)
  have hsa : (w3.alloc (.cells #[.slice none 0 0] 29)).heap.size = w3.heap.size + 1 := by simp
  generalize w3.alloc (.cells #[.slice none 0 0] 29) = wa at *
  generalize w2.heap.size = g2 at *
  have hE3 := (Array.getElem?_eq_some_iff.1 HA3.out.2.1).1
  have hE := (hba.block E hE3).trans HA3.out.2.1
  have hra := HA3.out.2.2.below hba
  have hAb : ∀ ad, A2 = some ad → 0 < l.length → ad.block < w3.heap.size := fun ad e h0 => by
    obtain ⟨b, off, h2, hlt, _⟩ := HA3.out.2.2 (by rw [cellsS_len]; exact h0)
    rw [e] at h2
    cases h2
    exact hlt
  obtain ⟨B, hB⟩ : ∃ B, B = wa.heap.size := ⟨_, rfl⟩
  refine rangeC (n := 4) (by omega) (gf := 49) (lb := #[.pointer (some ⟨E, 0, none⟩)]) rfl (enters_of Try.func49 (by kernel_rfl) rfl)
    (all_seq 3 B w3.heap.size w3.heap.size E A2 c2 l wa (by omega) hB hE (by omega) (by omega) hra (fun ad e h0 => by have := hAb ad e h0; omega) (by have := HN.out; omega))
    (fun x A' k o o' hx hk ho => trivial) Same2.trans (fun W k o hk => ⟨fun i hi _ _ => World.putObj_heap_other (by omega), by simp⟩) (fun _ => rfl)
    (AmI w3 B) (fun pre A1 A2 row h hg ht => h.keep (by omega) hg (fun r e => ⟨by have := (ht r e).1; omega, (ht r e).2⟩)) ⟨⟨_, hcm, World.ownsRow_nil _ _ _ _⟩, hba, by omega⟩
    (fun x => { tmps := tmpsM A n c t D E w3.heap.size g2 (.int .i64 x.1) (.string x.2), defers := [] })
    ?assign ?body ?done
  case assign =>
    intro l' x W K hK
    unfold tmpsM at hK
    gi_wp2
    exact hK
  case body =>
    rintro l' pre x W hx hI hlen
    obtain ⟨i0, hi, hz0, hz1, hz2⟩ := info_parts str_info
    obtain ⟨vo, hv, ho⟩ := hI.out
    obtain ⟨Ao, co, hvo, _⟩ := own_rdV ho
    subst hvo
    have hcell := cell_of_one hv
    have hple : pre.length ≤ 2000000 := by have := HN.out; omega
    have HBe : Hid (w3.heap.size + 1 ≤ B) := Lib.hid (by omega)
    have HG1 := Lib.hid hv
    have HG3 := Lib.hid ho
    have HG4 := Lib.hid hI.below
    have g7 := hI.size
    obtain ⟨px, s⟩ := x
    clear hx hI hv ho hcm hba hE hra hAb hnf hB hsa hE3
    unfold tmpsM
    gi_wp2_with (gi_at_builtin; refine wpListIn_append_own _ rfl (.tmp 38) (.tmp 40) 29 rfl B 9 i0 _ 1 16 Try.underlying29 hi hz0 hz1 hz2 rfl (by omega) _ pre.length (cellsS (pre.map Prod.snd)) rfl (HG3.out.alloc _) ⟨W.heap.size, 0, none⟩ 1 1 [.string s] rfl rfl (World.news_of_block (cs := #[.string s]) (t := 9) (fr := (0, 0)) (heap_alloc_new W _)) (by simp [Value.oneCell']) (by simp only [maxLen]; omega) (by omega) (by simp at g7 ⊢; omega) ?_; intro v3 w4 ho3 hg3 _; have HS := am_step (x := (px, s)) HBe.out HG1.out HG3.out HG4.out g7 ho3 hg3; obtain ⟨Hcd, HK, H2, HIn⟩ := HS; obtain ⟨A3, c3, hv3, _⟩ := own_rdV ho3; subst hv3; have hc4 := cell_of_one Hcd.out; have hf4 := free_of_one Hcd.out; clear ho3 hg3)
    exact ⟨HK.out, H2.out, HIn.out⟩
  case done =>
    rintro D1 xs W hD1 hS hI hdef
    subst hS
    obtain ⟨vo, hv, ho⟩ := hI.out
    rw [num_snd, num_len l _ (Nat.le_refl _)] at ho
    have HV := Lib.hid hv
    have HOW := Lib.hid ho
    have HDF := Lib.hid hdef
    have HB4 := Lib.hid hI.below
    have hBs := hI.size
    have HBE := Lib.hid hB
    have HRA := Lib.hid hra
    have HEE := Lib.hid hE
    clear hI hv ho hdef hcm hba hE hra hAb hnf hB
    gi_wp2_with fail
    have hc5 := heap_alloc_new W (.cells #[.int .i64 0] 3)
    have hb5 := below_new W (.cells #[.int .i64 0] 3)
    have hs5 : (W.alloc (.cells #[.int .i64 0] 3)).heap.size = W.heap.size + 1 := by simp
    generalize W.alloc (.cells #[.int .i64 0] 3) = W5 at *
    obtain ⟨B5, hB5⟩ : ∃ B5, B5 = W5.heap.size := ⟨_, rfl⟩
    have hs34 : w3.heap.size < W.heap.size := (Array.getElem?_eq_some_iff.1 HV.out).1
    have hE5 := (hb5.block E (by omega)).trans ((HB4.out.block E hE3).trans HA3.out.2.1)
    have hr5 := (HA3.out.2.2.below HB4.out).below hb5
    refine rangeB (n := 4) (by omega) (gf := 49) (lb := #[.pointer (some ⟨E, 0, none⟩)]) rfl (enters_of Try.func49 (by kernel_rfl) rfl)
      (all_first 3 B5 W.heap.size E A2 c2 l W5 (by omega) hB5 hE5 (by omega) hr5 (by have := HN.out; omega)) 2
      Same2.trans (fun W k o hk => ⟨fun i hi _ _ => World.putObj_heap_other (by omega), by simp⟩) (fun _ => rfl)
      (OneI W W.heap.size 0) (OneI W W.heap.size 1) (fun A1 A2 row h hg ht => h.keep (Nat.le_refl _) (by omega) hg ht) (fun A1 A2 row h hg ht => h.keep (Nat.le_refl _) (by omega) hg ht) ⟨hc5, hb5⟩
      (fun x => { tmps := tmpsN A n c t D E w3.heap.size W.heap.size g2 (.int .i64 x.1) (.string x.2), defers := [] })
      ?assign2 ?body2 ?none2 ?some2
    case assign2 =>
      intro l' x W K hK
      unfold tmpsN at hK
      gi_wp2
      exact hK
    case body2 =>
      rintro l' x W6 hx ⟨h1, h2⟩
      have hcell := cell_of_one h1
      have hfree := free_of_one h1
      have q0 := one_setCell (u := .int .i64 1) h1
      have hq : Hid (exPost 2 (Same2 B5 W.heap.size W.heap.size) (OneI W W.heap.size 1) W6 (.exit 2) { tmps := #[], defers := [] } (W6.setCell ⟨W.heap.size, 0, none⟩ (.int .i64 1))) := Lib.hid
        ⟨rfl, KeepsOthers.setCell _ _ _, ⟨fun k hk hk1 _ => Below.heap_setCell _ ⟨W.heap.size, 0, none⟩ _ k hk1, by simp [World.setCell]⟩, q0, h2.setCell (p := ⟨W.heap.size, 0, none⟩) (Nat.le_refl _) _⟩
      clear h1 h2 hE5 hr5 hb5 hc5 hB5 q0 hx
      unfold tmpsN
      gi_wp2_with fail
      exact hq.out
    case none2 =>
      intro hx D2 W6 hD2 hOI hdef2
      obtain ⟨h1, h2⟩ := hOI
      obtain rfl : l = [] := by
        cases l
        · rfl
        · simp at hx
      obtain rfl : n = 0 := HN.out.symm
      have hcM : W6.cell? ⟨w3.heap.size, 0, none⟩ = some vo := cell_of_one ((h2.block w3.heap.size (by omega)).trans HV.out)
      have hcK := cell_of_one h1
      obtain ⟨A4, c4, hvo, -, -, -, hr4⟩ := own_rdV HOW.out
      have hvo' : vo = .slice A4 0 c4 := by rw [hvo]; exact congrArg (fun k => Value.slice A4 k c4) HN.out
      clear hvo
      subst hvo'
      have HR4 := Lib.hid (hr4.below h2)
      have HB6 := Lib.hid (HB4.out.trans (h2.mono (by omega)))
      have HDD := Lib.hid ((HA3.out.1.ds).below HB6.out)
      have HAR := Lib.hid (HA.out.below HDD.out.2)
      have HD2 := Lib.hid hdef2
      have HD1 := Lib.hid ((h2.block D1 (Array.getElem?_eq_some_iff.1 HDF.out).1).trans HDF.out)
      have hsz6 : w3.heap.size < W6.heap.size := by have := h2.size; omega
      have hD12 : D1 ≠ D2 := by have := (Array.getElem?_eq_some_iff.1 HDF.out).1; omega
      have hC26 : W.heap.size < W6.heap.size := (Array.getElem?_eq_some_iff.1 h1).1
      clear hr4 hdef2 h2 h1 hE5 hr5 hb5 hc5 hB5
      gi_wp2_with fail
      refine ⟨trivial, (callsIn_wide.2 (num_any 0 _)).mono ?_⟩
      rintro e w' ⟨rfl, rfl⟩
      gi_wp2_with fail
      refine ⟨trivial, (callsIn_wide.2 (num_any 0 _)).mono ?_⟩
      rintro e w' ⟨rfl, rfl⟩
      gi_wp2_with fail
      refine ⟨trivial, (callsIn_wide.2 (one_any A4 A 0 0 c4 c [] [] _ HN.out HN.out (by omega) (by omega) HR4.out HAR.out)).mono ?_⟩
      rintro e w7 ⟨he, q7, rfl⟩
      rw [eqS_refl] at he
      subst he
      gi_wp2_with fail
      have hb8 := (below_any q7 (Below.refl W6.heap.size W6)).trans ((below_new (W6.drewN q7) (.cells #[.string t] 9)).mono (Nat.le_refl _))
      refine ⟨trivial, (callsIn_wide.2 (front_list A (some ⟨(W6.drewN q7).heap.size, 0, none⟩) 0 1 c 1 [] [t] _ HN.out rfl hnc HO.out (HAR.out.below hb8) (new_rdS (W6.drewN q7) [t]) (by omega))).mono ?_⟩
      rintro e w9 ⟨A9, n9, c9, rfl, hl9, -, -, hr9, hb9⟩
      have HB9 := Lib.hid (hb8.trans (hb9.mono hb8.size))
      have HL9 := Lib.hid hl9
      have HR9 := Lib.hid hr9
      clear hl9 hr9 hb9 hb8 hcM hcK
      gi_wp2_with fail
      refine ⟨trivial, (callsIn_wide.2 (is_ds w0 D (t :: []) A9 n9 c9 w9 (HDD.out.below HB9.out) HL9.out HR9.out)).mono ?_⟩
      rintro e w10 ⟨rfl, -, hb10⟩
      have HB10 := Lib.hid (HB9.out.trans (hb10.mono HB9.out.size))
      clear hb10
      gi_wp2_with fail
      refine ⟨trivial, (callsIn_wide.2 (works_any _)).mono ?_⟩
      rintro e w11 ⟨rfl, hb11⟩
      have HB11 := Lib.hid (HB10.out.trans (hb11.mono HB10.out.size))
      clear hb11
      gi_wp2_with fail
      exact two_marks HDD.out.2 HB11.out HD1.out HD2.out hD12 (by have := HA3.out.1.ds.2.size; omega) (by have := HA3.out.1.ds.2.size; omega) undef (fun W => results_tmp Try.results9 _ _ W) _ (fun W hW => ⟨rfl, hW⟩)
    case some2 =>
      intro x hx D2 W6 hD2 hOI hdef2
      obtain ⟨h1, h2⟩ := hOI
      have hn1 : 1 ≤ n := by
        rw [← HN.out]
        cases l
        · simp at hx
        · simp
      clear hx
      have hcM : W6.cell? ⟨w3.heap.size, 0, none⟩ = some vo := cell_of_one ((h2.block w3.heap.size (by omega)).trans HV.out)
      have hcK := cell_of_one h1
      obtain ⟨A4, c4, hvo, -, -, -, hr4⟩ := own_rdV HOW.out
      have hvo' : vo = .slice A4 n c4 := by rw [hvo]; exact congrArg (fun k => Value.slice A4 k c4) HN.out
      clear hvo
      subst hvo'
      have HR4 := Lib.hid (hr4.below h2)
      have HB6 := Lib.hid (HB4.out.trans (h2.mono (by omega)))
      have HDD := Lib.hid ((HA3.out.1.ds).below HB6.out)
      have HAR := Lib.hid (HA.out.below HDD.out.2)
      have HD2 := Lib.hid hdef2
      have HD1 := Lib.hid ((h2.block D1 (Array.getElem?_eq_some_iff.1 HDF.out).1).trans HDF.out)
      have hsz6 : w3.heap.size < W6.heap.size := by have := h2.size; omega
      have hD12 : D1 ≠ D2 := by have := (Array.getElem?_eq_some_iff.1 HDF.out).1; omega
      have hC26 : W.heap.size < W6.heap.size := (Array.getElem?_eq_some_iff.1 h1).1
      clear hr4 hdef2 h2 h1 hE5 hr5 hb5 hc5 hB5
      gi_wp2_with fail
      refine ⟨trivial, (callsIn_wide.2 (num_any 0 _)).mono ?_⟩
      rintro e w' ⟨rfl, rfl⟩
      gi_wp2_with fail
      refine ⟨trivial, (callsIn_wide.2 (num_any 0 _)).mono ?_⟩
      rintro e w' ⟨rfl, rfl⟩
      gi_wp2_with fail
      refine ⟨trivial, (callsIn_wide.2 (one_any A4 A n n c4 c l l _ HN.out HN.out (by omega) (by omega) HR4.out HAR.out)).mono ?_⟩
      rintro e w7 ⟨he, q7, rfl⟩
      rw [eqS_refl] at he
      subst he
      gi_wp2_with fail
      have hb8 := (below_any q7 (Below.refl W6.heap.size W6)).trans ((below_new (W6.drewN q7) (.cells #[.string t] 9)).mono (Nat.le_refl _))
      refine ⟨trivial, (callsIn_wide.2 (front_list A (some ⟨(W6.drewN q7).heap.size, 0, none⟩) n 1 c 1 l [t] _ HN.out rfl hnc HO.out (HAR.out.below hb8) (new_rdS (W6.drewN q7) [t]) (by omega))).mono ?_⟩
      rintro e w9 ⟨A9, n9, c9, rfl, hl9, -, -, hr9, hb9⟩
      have HB9 := Lib.hid (hb8.trans (hb9.mono hb8.size))
      have HL9 := Lib.hid hl9
      have HR9 := Lib.hid hr9
      clear hl9 hr9 hb9 hb8 hcM hcK
      gi_wp2_with fail
      refine ⟨trivial, (callsIn_wide.2 (is_ds w0 D (t :: l) A9 n9 c9 w9 (HDD.out.below HB9.out) HL9.out HR9.out)).mono ?_⟩
      rintro e w10 ⟨rfl, -, hb10⟩
      have HB10 := Lib.hid (HB9.out.trans (hb10.mono HB9.out.size))
      clear hb10
      gi_wp2_with fail
      refine ⟨trivial, (callsIn_wide.2 (works_any _)).mono ?_⟩
      rintro e w11 ⟨rfl, hb11⟩
      have HB11 := Lib.hid (HB10.out.trans (hb11.mono HB10.out.size))
      clear hb11
      gi_wp2_with fail
      exact two_marks HDD.out.2 HB11.out HD1.out HD2.out hD12 (by have := HA3.out.1.ds.2.size; omega) (by have := HA3.out.1.ds.2.size; omega) undef (fun W => results_tmp Try.results9 _ _ W) _ (fun W hW => ⟨rfl, hW⟩)


theorem reads (os : Os) {H : Type} (enc : TypeId × Value → H) : ∃ places, DataW.whole enc Try.prog ((World.holding Try.prog os ⟨#[], #[.slice none 0 0, .string ⟨#[]⟩], []⟩).forCall (fun _ _ => 0) ⟨#[], #[.slice none 0 0, .string ⟨#[]⟩], []⟩).memory Try.f9.params.toList Rows.dequeAllsSpec.vars false (#[.slice none 0 0, .string ⟨#[]⟩] : Array Value).toList 8 = some ([.nil, .lit (.string [])], [], places) :=
  ⟨[], by kernel_rfl⟩
theorem laidNone (w : World) : laidMet Try.prog [] w := laidMet_of_run' 8 (by kernel_rfl) (by kernel_rfl)
set_option maxRecDepth 100000 in
theorem lifted (os : Os) (started : os.Started) (H : Type) (enc : TypeId × Value → H) (F : Stop.Interp) :
    ReturnsInHanded {} Try.checked os 9 .any ((OpenSpec.ofChange Rows.dequeAllsSpec).preRow enc Try.prog Try.f9 Rows.dequeAllsRow.domain false Rows.dequeAllsRow.laid) (((OpenSpec.ofChange Rows.dequeAllsSpec).at F).post enc Try.prog Try.f9 false true false false) := by
  obtain ⟨places, hx⟩ := reads os enc
  refine returnsInHanded_of_row (C := Try.checked) (s := OpenSpec.ofChange Rows.dequeAllsSpec) own started (by kernel_rfl) Try.func9
    (witness_row_at (enc := enc) (C := Try.checked) false (World.holding Try.prog os ⟨#[], #[.slice none 0 0, .string ⟨#[]⟩], []⟩) #[.slice none 0 0, .string ⟨#[]⟩] rfl (by kernel_rfl) (by kernel_rfl) (by kernel_rfl)
      (OpenSpec.preRow_of_cond 8 hx (by kernel_rfl) (fun k hk => by cases hk) (by kernel_rfl) (laidNone _))) ?_
  intro W base args ds gs before hval0 hW _ _ hZ _ _ _
  show Calls Try.prog 9 args W fun e W' => ∃ v, e = .returned v ∧ Rows.dequeAllsSpec.post enc Try.prog Try.f9 false true false false W args v W'
  have hval : ∀ (j : Nat) t v, Try.f9.params[j]? = some t → args[j]? = some v → Value.okWide Try.prog W .any base t v := hval0
  have hW' := hW
  obtain ⟨p, q, hA0, hV, rfl, hfz, hnd⟩ := hW
  have hA : DataW.TrodAll enc Try.prog W 0 (fun _ => true) true Try.f9.params.toList args.toList ds p := hA0
  have hZ1 : (DataW.weightsEach Try.prog (Try.f9.params.toList ++ (OpenSpec.ofChange Rows.dequeAllsSpec).bare.plain.varTypes Try.prog) (ds ++ gs)).all (· ≤ reachBytes) = true := hZ
  rw [Try.params9] at hZ1
  rw [Try.params9] at hA hval
  obtain ⟨v0, vs0, d0, ds0, p0, q0, hargs, rfl, rfl, h0, r0⟩ := trodAll_cons hA
  obtain ⟨v1, vs1, d1, ds1, p1, q1, rfl, rfl, rfl, h1, r1⟩ := trodAll_cons r0
  obtain ⟨rfl, rfl, rfl⟩ := trodAll_nil r1
  obtain rfl : args = #[v0, v1] := by cases args; simp_all
  obtain ⟨rfl, rfl⟩ := trodVars_none hV
  have k0 := h0
  have lt0 : ∀ x ∈ p0, x.block < W.heap.size := by obtain ⟨m, hm⟩ := k0; exact DataW.trod_lt m _ _ _ hm
  obtain ⟨ca0, na0, ea0, rfl⟩ := okWide_slice Try.underlying29 (hval 0 29 v0 rfl rfl)
  obtain ⟨fu0, hf0⟩ := h0
  obtain ⟨A0, n0, c0, l0, hv0, hn0, hnc0, hcm0, hO0, hr0, hs0⟩ := strs_of hf0 (weight_at hZ1 (j := 0) rfl rfl)
  cases hv0
  simp only [maxLen] at hcm0
  obtain ⟨s1, rfl, rfl, rfl, hs1⟩ := Go.ChangeMaps.open_string Try.underlying9 (hval 1 9 v1 rfl rfl) h1
  clear hA0 hval0
  refine (walk _ _ _ l0 _ W hn0 (by omega) hnc0 hO0 hs0 hr0 (by have := hs1; simp only [maxLen] at this; omega)).mono fun e W' ⟨he, bel⟩ => ?_
  subst he
  exact ⟨_, rfl, _, _, _, [], _, [], hW', trodAll_mk1 (shut_bool Try.underlying4 _), (trodAll_cons_mk (Below.trod laidOut (by kernel_rfl) (of_decide_eq_true (by kernel_rfl)) k0 bel lt0) (trodAll_cons_mk (Go.ChangeMaps.shut_string Try.underlying9 hs1) trodAll_mk0)), rfl, bel.frame _, fun h => by cases h⟩

/-- The statement. -/
theorem proved : Rows.DequeAllsSaid :=
  OpenClaim.holds_of_cond 9 Try.f9 rfl rfl rfl rfl rfl rfl rfl ⟨rfl, rfl, rfl, rfl, rfl⟩ rfl rfl rfl rfl rfl (by kernel_rfl) Try.func9 (by kernel_rfl)
    (of_decide_eq_true (by kernel_rfl)) (by unfold Func.isWrapper; first | (rw [if_pos (by decide +kernel)]; kernel_rfl) | (rw [if_neg (by decide +kernel)]; exact ⟨rfl, rfl⟩))
    (fun os started H enc _ F => by rw [OpenClaim.pre_eq_preRow]; exact lifted os started H enc F)
#print axioms proved
end Go.Proofs.Ytnnlfhdjakabmaa.dequeAlls
