/- A disk that is none; a new one; its names, rising. -/
import Derived.Test.YtcfglgejjmapdaaDk
import Derived.Test.YtcfglgejjmapdaaRange
import Derived.Test.YtcfglgejjmapdaaShelf
namespace Go.Proofs.Ytcfglgejjmapdaa
open Go Go.RowKit Go.Maps Go.Sort Go.Shelf
attribute [local go_sem] Oper.semAt_some
section
variable {T : Nat → Prop} {D M steps : Nat} {gs : List G} {hb : Bool} {rm : Int}
theorem none_any (w : World) (h : DK T D M gs steps hb rm w) : Calls Try.prog 35 #[.pointer (some ⟨D, 0, none⟩)] w fun e w' => e = .returned (.bool false) ∧ w = w' := by
  have h1 := h.cellsD.1
  clear h
  have hq := fun (w : World) (r : Option Nat) => run_eql_map_nil w 68 9 65 r Try.underlying68
  go_enter Try.func35, Try.ntmps35
  go_wp2
  go_ret
  exact ⟨rfl, rfl⟩
theorem none_nil (w : World) : Calls Try.prog 35 #[.pointer none] w fun e w' => e = .returned (.bool true) ∧ w = w' := by
  go_enter Try.func35, Try.ntmps35
  go_wp2
  go_ret
  exact ⟨rfl, rfl⟩
theorem halted_any (w : World) (h : DK T D M gs steps hb rm w) : Calls Try.prog 56 #[.pointer (some ⟨D, 0, none⟩)] w fun e w' => e = .returned (.bool (hb && decide (rm = 0))) ∧ w = w' := by
  have h1 := h.cellsD.2.2.1
  have h2 := h.cellsD.2.2.2
  clear h
  cases hb
  · go_enter Try.func56, Try.ntmps56
    go_wp2
    go_ret
    exact ⟨rfl, rfl⟩
  · by_cases hr : rm = 0
    · subst hr
      go_enter Try.func56, Try.ntmps56
      go_wp2
      go_ret
      exact ⟨rfl, rfl⟩
    · have e1 : (rm == 0) = false := by simpa using hr
      have HR := Lib.hid hr
      clear hr
      go_enter Try.func56, Try.ntmps56
      go_wp2
      go_ret
      exact ⟨ret_bool (by simp [HR.out]), rfl⟩
end
/-- A disk that was made behind w. -/
def Made (w : World) (gs : List G) (steps : Nat) (hb : Bool) (rm : Int) (e : Ending) (w' : World) : Prop :=
  ∃ T D M, e = .returned (.pointer (some ⟨D, 0, none⟩)) ∧ DK T D M gs steps hb rm w' ∧ Below w.heap.size w w' ∧ ∀ b, T b → w.heap.size ≤ b
theorem new_world (w : World) : DK (fun b => b = w.heap.size ∨ b = w.heap.size + 1) (w.heap.size + 1) w.heap.size [] 0 false 0 ((w.alloc (.map #[] 0)).alloc (.cells #[.map (some w.heap.size), .int .i64 0, .bool false, .int .i64 0] 70)) := by
  refine ⟨?_, ?_, by simp, List.Pairwise.nil, by simp, .inr rfl, .inl rfl, fun b hb => ?_, by omega, by omega⟩
  · have h := heap_alloc_new (w.alloc (.map #[] 0)) (.cells #[.map (some w.heap.size), .int .i64 0, .bool false, .int .i64 0] 70)
    rwa [show (w.alloc (.map #[] 0)).heap.size = w.heap.size + 1 by simp] at h
  · exact (World.ownsMap_made w Try.prog 9 ptrR).alloc _
  · rcases hb with rfl | rfl <;> simp <;> omega
theorem new_any (w : World) : Calls Try.prog 29 #[] w (Made w [] 0 false 0) := by
  have hmm := @run_makeMap Try.prog
  have HN := Lib.hid (new_world w)
  go_enter Try.func29, Try.ntmps29
  go_wp2
  go_ret
  exact ⟨_, _, _, rfl, HN.out, ((Below.refl _ w).alloc (Nat.le_refl _) _).alloc (by simp) _, fun b hb => by rcases hb with rfl | rfl <;> omega⟩
theorem u8_parts : ∃ i0 : TypeInfo, Try.prog.info? 5 = some i0 ∧ i0.zero = some (.int .u8 0) ∧ i0.size = 1 ∧ i0.bytes = 1 := by
  obtain ⟨i0, hi, hz0, hz1, hz2⟩ := info_parts u8_info
  exact ⟨i0, hi, hz0, hz1, hz2⟩
theorem clone_any (A : Option Addr) (n c : Nat) (l : List UInt8) (w : World) (hl : l.length = n) (hn : A = none → c = 0) (hc : n ≤ c) (hr : Rd w A l) (hb : n ≤ 2000000) (hs : ∀ ad, A = some ad → ad.spot = none) :
    Calls Try.prog 36 #[.slice A n c] w fun e w' => ∃ v, e = .returned v ∧ w'.ownsRow w.heap.size 5 1 v n (cellsB l) ∧ Below w.heap.size w w' := by
  cases A with
  | none =>
    have := hn rfl
    obtain rfl : n = 0 := by omega
    have hnil : l = [] := List.eq_nil_of_length_eq_zero hl
    subst hnil
    have h := AnyE.slices_Clone_nil Try.clone36 0 c w
    refine h.mono fun e w' ⟨he, hw⟩ => ?_
    subst hw
    exact ⟨_, he, ⟨rfl, .inl ⟨rfl, rfl⟩⟩, Below.refl _ _⟩
  | some ad =>
    by_cases h0 : n = 0
    · subst h0
      have hnil : l = [] := List.eq_nil_of_length_eq_zero hl
      subst hnil
      obtain ⟨i0, hi, hz0, hz1, hz2⟩ := u8_parts
      obtain ⟨b, off, spot⟩ := ad
      obtain rfl : spot = none := hs _ rfl
      have h := AnyE.slices_Clone Try.clone36 i0 _ 1 1 hi hz0 hz1 hz2 rfl (by omega) sz5 b off 0 c [] w rfl (by simp [maxLen]) (by omega) (by simp) (by simp)
      exact h.mono fun e w' ⟨v, he, ho, _, hbl⟩ => ⟨v, he, ho, hbl⟩
    · obtain ⟨b, off, hA, hlt, hcell⟩ := hr (by omega)
      cases hA
      obtain ⟨i0, hi, hz0, hz1, hz2⟩ := u8_parts
      have h := AnyE.slices_Clone Try.clone36 i0 _ 1 1 hi hz0 hz1 hz2 rfl (by omega) sz5 b off n c (cellsB l) w (by rw [cellsB_len]; omega) (by simp only [maxLen]; omega) (by omega)
        (fun j u hu => by
          obtain ⟨hj, he⟩ := List.getElem?_eq_some_iff.1 hu
          rw [cellsB_len] at hj
          rw [hcell j hj, ← he]
          simp [cellsB, cellB]) (cellsB_one l)
      exact h.mono fun e w' ⟨v, he, ho, _, hbl⟩ => ⟨v, he, ho, hbl⟩
theorem rising_any (D : Nat) (w : World) : Calls Try.prog 37 #[.pointer (some ⟨D, 0, none⟩)] w fun e w' => e = .returned (.func (.func 53) #[] #[.pointer (some ⟨w.heap.size, 0, none⟩)]) ∧ w' = w.alloc (.cells #[.pointer (some ⟨D, 0, none⟩)] 28) := by
  go_enter Try.func37, Try.ntmps37
  go_wp2
  go_ret
  exact ⟨rfl, rfl⟩
/-- slices.Sort's two contracts. -/
theorem sorts54 (m : Nat) : AnyZ.SortsIn Try.prog Try.sorted54_ren Fence.wide m :=
  ⟨fun blk off cap ss W hH hblk hsz => callsIn_wide.2 (AnyM.slices_Sort_string Try.sort58 blk off cap ss W hH hblk hsz),
   fun p cap W => callsIn_wide.2 (AnyM.slices_Sort_string_none Try.sort58 p cap W)⟩
theorem keys_any (mb : Option Nat) (W : World) : Calls Try.prog 55 #[.map mb] W fun e w' => e = .returned (.func (.func 59) #[] #[.pointer (some ⟨W.heap.size, 0, none⟩)]) ∧ w' = W.alloc (.cells #[.map mb] 68) :=
  (callsIn_wide (n := 5)).1 (AnyZ.keys_in Try.keys55 Fence.wide 5 trivial rfl mb W)
set_option maxHeartbeats 1000000 in
theorem sorted_any (b nn : Nat) (D0 : DataW Unit) (w : World) (hown : w.ownsMap Try.prog 9 ptrR b nn D0) (hmax : Maps.size D0 ≤ 2000000) :
    Calls Try.prog 54 #[.func (.func 59) #[] #[.pointer (some ⟨w.heap.size, 0, none⟩)]] (w.alloc (.cells #[.map (some b)] 68)) fun e w' => ∃ (v : Value) (ss : List (List UInt8)), e = .returned v ∧ ss.Perm (strKeys D0) ∧
      w'.ownsRow (w.alloc (.cells #[.map (some b)] 68)).heap.size 9 1 v ss.length ((ss.mergeSort (fun x y => decide (x ≤ y))).map encStr) ∧ (v = .slice none 0 0 ↔ ss = []) ∧ Below (w.alloc (.cells #[.map (some b)] 68)).heap.size (w.alloc (.cells #[.map (some b)] 68)) w' := by
  have hbl := hown.lt
  have hseq : SeqGives Fence.wide 2 Try.prog 59 #[.pointer (some ⟨w.heap.size, 0, none⟩)] encStr (fun ss => ss.Perm (strKeys D0)) (Maps.size D0) (w.alloc (.cells #[.map (some b)] 68)) :=
    AnyZ.keys_gives (ρ := Try.keys55_ren) { Try.keys55 with } Fence.wide _ trivial rfl (by omega) w.heap.size b nn D0 _ (by simp) (by simp) (by
      obtain ⟨es, clock, hb, Ft, hs, hD⟩ := hown
      exact ⟨es, clock, (Below.heap_alloc _ _ b hbl).trans hb, Ft, hs, hD⟩)
  exact (callsIn_wide (n := 5)).1 (AnyZ.sorted_in Try.sorted54 Fence.wide 5 trivial trivial trivial trivial rfl (by omega) (sorts54 _) (enters_of Try.func58 (by kernel_rfl) rfl) 59 #[.pointer (some ⟨w.heap.size, 0, none⟩)] trivial (enters_of Try.func59 (by kernel_rfl) rfl) _ _ (by simp only [maxLen]; omega) (by omega) _ hseq)
/-- A disk's names, sorted. -/
theorem sorted_dk {T : Nat → Prop} {D M steps : Nat} {gs : List G} {hb : Bool} {rm : Int} (w : World) (h : DK T D M gs steps hb rm w) (hmax : gs.length ≤ 2000000) :
    Calls Try.prog 54 #[.func (.func 59) #[] #[.pointer (some ⟨w.heap.size, 0, none⟩)]] (w.alloc (.cells #[.map (some M)] 68)) fun e w' => ∃ v, e = .returned v ∧ w'.ownsRow (w.heap.size + 1) 9 1 v gs.length (cellsS (gs.map gn)) ∧ Below (w.heap.size + 1) (w.alloc (.cells #[.map (some M)] 68)) w' := by
  refine (sorted_any M _ _ w h.map (by rw [size_ent]; exact hmax)).mono fun e w' ⟨v, ss, he, hp, ho, _, hbl⟩ => ?_
  have hsz : (w.alloc (.cells #[.map (some M)] 68)).heap.size = w.heap.size + 1 := by simp
  rw [hsz] at ho hbl
  refine ⟨v, he, ?_, hbl⟩
  have hl : ss.length = gs.length := by have := hp.length_eq; rw [keys_ent] at this; simpa using this
  rw [sorted_ent h.rise hp] at ho
  rw [hl] at ho
  have hc : (gs.map fun g => bl (gn g)).map encStr = cellsS (gs.map gn) := by
    simp only [cellsS, List.map_map]
    refine List.map_congr_left fun g _ => ?_
    simp [encStr, bl]
  rwa [hc] at ho
end Go.Proofs.Ytcfglgejjmapdaa
