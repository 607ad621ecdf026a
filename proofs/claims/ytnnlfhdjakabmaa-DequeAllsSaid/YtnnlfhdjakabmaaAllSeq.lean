/- All texts with their numbers: the iterator's contract. -/
import Derived.Test.YtnnlfhdjakabmaaWorks
namespace Go.Proofs.Ytnnlfhdjakabmaa
open Go Go.RowKit
open Go.Shelf
attribute [local go_sem] Oper.semAt_some
def AllQ (l : List ByteArray) (w : World) (e : Ending) (w' : World) : Prop := ∃ E A c, e = .returned (.func (.func 49) #[] #[.pointer (some ⟨E, 0, none⟩)]) ∧ w'.heap[E]? = some (.cells #[.slice A l.length c] 29 (0, 0)) ∧ w.heap.size ≤ E ∧ RdV w' A (cellsS l) ∧ (∀ ad, A = some ad → w.heap.size ≤ ad.block) ∧ Below w.heap.size w w'
theorem rangeL_all (l : List ByteArray) : rangeL l 0 (-1) = l := by
  have h : spanF l.length 0 (-1) = (0, (l.length : Int)) := by
    unfold spanF loF hiF
    by_cases h0 : l.length = 0
    · rw [if_pos (by omega), h0]
      rfl
    · rw [if_neg (by simp; omega)]
      simp
      omega
  unfold rangeL
  rw [h]
  simp
theorem all_any (D : Nat) (r : Option Nat) (l : List ByteArray) (w : World) (h : Dq D r l w) : Calls Try.prog 35 #[.pointer (some ⟨D, 0, none⟩)] w (AllQ l w) := by
  have H := Lib.hid (range_any D r l 0 (-1) w h (by omega) (by omega) (by omega) (by omega))
  clear h
  go_enter Try.func35, Try.ntmps35
  go_wp2_with fail
  refine H.out.mono ?_
  rintro e w2 ⟨v, rfl, ho, hb⟩
  rw [rangeL_all] at ho
  have hbl := fun k e => (ho.lt k e).1
  have hfo : ∀ A n c, v = .slice A n c → ∀ ad, A = some ad → v.ownBlock = some ad.block := by
    intro A n c hv ad had
    rcases ho.2 with ⟨rfl, _⟩ | ⟨g, cap, cur, rfl, _⟩
    · cases hv; cases had
    · cases hv; cases had; rfl
  obtain ⟨A, c, hv, -, -, -, hr⟩ := own_rdV ho
  have HFO := Lib.hid (hfo A _ c hv)
  subst hv
  have HBL := Lib.hid hbl
  have HR := Lib.hid hr
  have HB := Lib.hid hb
  clear ho hb hbl hr hfo
  go_wp2
  go_ret
  have hb2 := below_new w2 (.cells #[.slice A l.length c] 29)
  exact ⟨_, A, c, rfl, heap_alloc_new w2 _, HB.out.size, HR.out.below hb2, fun ad e => HBL.out _ (HFO.out ad e), HB.out.trans (hb2.mono HB.out.size)⟩
theorem all_nil (w : World) : Calls Try.prog 35 #[.pointer none] w (AllQ [] w) := by
  go_enter Try.func35, Try.ntmps35
  go_wp2_with fail
  refine (range_nil 0 (-1) w).mono ?_
  rintro e w2 ⟨rfl, rfl⟩
  go_wp2
  go_ret
  have hb2 := below_new w2 (.cells #[.slice none 0 0] 29)
  exact ⟨_, none, 0, rfl, heap_alloc_new w2 _, Nat.le_refl _, RdV.nil _ _, (fun ad e => by cases e), hb2⟩
/-- Where blocks below B but for these two are as they were. -/
def Same2 (B C D : Nat) (w W : World) : Prop := (∀ k, k < B → k ≠ C → k ≠ D → W.heap[k]? = w.heap[k]?) ∧ w.heap.size ≤ W.heap.size
theorem Same2.trans {B C D : Nat} {w W V : World} (h : Same2 B C D w W) (k : Same2 B C D W V) : Same2 B C D w V := ⟨fun i a b c => (k.1 i a b c).trans (h.1 i a b c), Nat.le_trans h.2 k.2⟩
/-- Texts with their numbers. -/
def num (l : List ByteArray) (k : Nat) : List (Nat × ByteArray) := ((List.range l.length).zip l).take k
theorem num_next {l : List ByteArray} {k : Nat} (hk : k < l.length) : num l (k + 1) = num l k ++ [(k, l[k])] := by
  unfold num
  rw [List.take_succ_eq_append_getElem (by simp; exact hk)]
  simp
theorem num_len (l : List ByteArray) (k : Nat) (hk : k ≤ l.length) : (num l k).length = k := by simp [num]; omega
set_option maxHeartbeats 4000000 in
theorem all_seq (n B C F E : Nat) (A : Option Addr) (c : Nat) (l : List ByteArray) (w : World) (hn : 1 ≤ n) (hB : B = w.heap.size) (hE : w.heap[E]? = some (.cells #[.slice A l.length c] 29 (0, 0))) (hEC : E ≠ C) (hEF : E ≠ F)
    (hr : RdV w A (cellsS l)) (hA : ∀ ad, A = some ad → 0 < l.length → ad.block ≠ C ∧ ad.block ≠ F) (hl : l.length ≤ 500000) :
    SeqC n Try.prog 49 #[.pointer (some ⟨E, 0, none⟩)] (fun x : Nat × ByteArray => #[.int .i64 x.1, .string x.2]) (Same2 B C F) (fun _ _ => True) (fun xs => xs = num l l.length) (l.length + 1) w := by
  intro y J W hbel hJ hY h0
  have hW0 : Same2 B C F w W := ⟨fun k hk _ _ => hbel.block k (by omega), hbel.size⟩
  have hEw : E < w.heap.size := (Array.getElem?_eq_some_iff.1 hE).1
  have hAB : ∀ ad, A = some ad → 0 < l.length → ad.block < w.heap.size := fun ad e h0 => by
    obtain ⟨b, off, h2, hlt, _⟩ := hr (by rw [cellsS_len]; exact h0)
    rw [e] at h2
    cases h2
    exact hlt
  have HW0 := Lib.hid hW0
  have HJ0 := Lib.hid h0
  have HR := Lib.hid hr
  have HAC := Lib.hid hA
  have HAB := Lib.hid hAB
  have HJ := Lib.hid hJ
  have HY := Lib.hid hY
  have hc1 := cell_of_one ((hW0.1 E (by omega) hEC hEF).trans hE)
  clear hW0 h0 hE hr hA hAB hJ hY hbel
  refine callsIn_of_wp Try.func49 rfl trivial ?_
  simp only [Try.ntmps49, List.size_toArray, List.length_cons, List.length_nil, Nat.reduceAdd, Nat.reduceSub, Array.replicate_succ, Array.replicate_zero, List.push_toArray, List.append_toArray, List.nil_append, List.cons_append]
  gi_wp2
  clear hc1
  gi_loopw [7] (fun z wr => ∃ k : Nat, z = .int .i64 k ∧ k ≤ l.length ∧ Hid (J (num l k) wr) ∧ Hid (Same2 B C F w wr)) (fun z _ => l.length - (intOf z).toNat)
  case atStart => exact ⟨0, rfl, Nat.zero_le _, HJ0, HW0⟩
  case round =>
    clear HJ0 HW0
    obtain ⟨k, rfl, hkl, HJS, HW⟩ := hrel
    by_cases hlt : k < l.length
    · have hrd : RdV wr A (cellsS l) := fun h0 => by
        obtain ⟨b, off, rfl, hlt2, hc⟩ := HR.out h0
        rw [cellsS_len] at h0
        obtain ⟨a1, a2⟩ := HAC.out _ rfl h0
        exact ⟨b, off, rfl, Nat.lt_of_lt_of_le hlt2 HW.out.2, fun j hj => (World.cell?_of_block (w := w) (a := ⟨b, off + j, none⟩) (HW.out.1 b (by rw [hB]; exact hlt2) a1 a2)).trans (hc j hj)⟩
      obtain ⟨b, off, rfl, hbb, hca⟩ := rdS_at hrd hlt
      have HNX := Lib.hid (num_next hlt)
      obtain ⟨s, hs⟩ : ∃ s, l[k] = s := ⟨_, rfl⟩
      rw [hs] at hca HNX
      have hk0 : (0 : Int) ≤ (k : Int) := by omega
      have hk1 : (k : Int) < (l.length : Int) := by omega
      obtain ⟨fn, tmps, assign, body, hy, hR⟩ := HY.out _ (k, s) wr trivial HJS.out (by rw [num_len l k hkl]; omega)
      dsimp only at hy
      have HRr := Lib.hid hR
      clear hrd hs hR
      gi_wp2
      refine HRr.out.mono ?_
      rintro e W3 ⟨rfl, hJ3, hk3⟩
      have HJ3 := Lib.hid hJ3
      have HW3 := Lib.hid (HW.out.trans hk3)
      clear hJ3 hk3 hy HRr hca
      gi_wp2
      refine ⟨⟨k + 1, by go_num, by omega, ?_, HW3⟩, by simp [intOf]; omega⟩
      show J _ _
      rw [HNX.out]
      exact HJ3.out
    · have HE : Hid (J (num l l.length) wr) := by rw [show l.length = k by omega]; exact HJS
      gi_wp2
      go_end0
      exact ⟨⟨_, rfl⟩, _, rfl, HE.out⟩
end Go.Proofs.Ytnnlfhdjakabmaa
