/- A step of a disk: done, or why not. -/
import Derived.Test.YtcfglgejjmapdaaSpec
namespace Go.Proofs.Ytcfglgejjmapdaa
open Go Go.RowKit Go.Shelf
/-- A function value with what it has captured. -/
abbrev fv (g : Nat) (lb : Array Value) : Value := .func (.func g) #[] lb
/-- What a step's asking tells, in whatever world behind this one. -/
def Asks (w : World) (g : Nat) (lb : Array Value) (r : Int) : Prop := (∀ args w, (callFunc g args).run Try.prog w = .ok (.enter g args) w) ∧ ∀ X, Below w.heap.size w X → Calls Try.prog g lb X fun e w' => e = .returned (.int .i64 r) ∧ ∃ q, w' = X.drewN q
theorem bad_name {ns : List ByteArray} (h : ns.all nameB = false) : ∀ k, k ≤ ns.length → (ns.take k).all nameB = true → k < ns.length := by
  intro k hk ht
  rcases Nat.lt_or_ge k ns.length with h1 | h1
  · exact h1
  · rw [List.take_of_length_le h1, h] at ht
    cases ht
theorem all_next {ns : List ByteArray} {k : Nat} {x : ByteArray} (ht : ns.take (k + 1) = ns.take k ++ [x]) (h : (ns.take k).all nameB = true) (hx : nameB x = true) : (ns.take (k + 1)).all nameB = true := by rw [ht, List.all_append, h]; simp [hx]
section
variable {T : Nat → Prop} {D M steps : Nat} {gs : List G} {hb : Bool} {rm : Int}
set_option maxHeartbeats 4000000 in
theorem done_bad (w : World) (h : DK T D M gs steps hb rm w) (A : Option Addr) (n c : Nat) (ns : List ByteArray) (hn : ns.length = n) (hr : RdV w A (cellsS ns)) (hs : ∀ s ∈ ns, s.size ≤ 9223372036854775807) (bn : n ≤ 9223372036854775807) (ga gd : Nat) (lba lbd : Array Value) (hbad : ns.all nameB = false) :
    Calls Try.prog 41 #[.pointer (some ⟨D, 0, none⟩), .agg #[.slice A n c, fv ga lba, fv gd lbd]] w fun e w' => e = .returned (.int .i64 2) ∧ Below w.heap.size w w' := by
  have HNO := Lib.hid (none_any _ (h.below (below_new w (.cells #[.slice A n c, fv ga lba, fv gd lbd] 82))))
  have HR := Lib.hid (hr.below (below_new w (.cells #[.slice A n c, fv ga lba, fv gd lbd] 82)))
  have HS := Lib.hid hs
  have HN := Lib.hid hn
  have HB := Lib.hid (bad_name hbad)
  have HBW := Lib.hid (below_new w (.cells #[.slice A n c, fv ga lba, fv gd lbd] 82))
  clear h hr hs hn hbad
  go_enter Try.func41, Try.ntmps41
  go_wp2_with fail
  refine HNO.out.mono ?_
  rintro e w2 ⟨rfl, rfl⟩
  go_wp2_with fail
  go_loop [13] (fun i => ∃ k : Nat, k ≤ n ∧ i = .int .i64 k ∧ Hid ((ns.take k).all nameB = true)) (fun i => n - (intOf i).toNat)
  case atStart => exact ⟨0, Nat.zero_le _, rfl, by simp [Hid]⟩
  case round =>
    obtain ⟨k, hk, rfl, HA⟩ := hrel
    by_cases hlt : k < n
    · obtain ⟨b, off, rfl, hbb, hca⟩ := rdS_at HR.out (k := k) (by have := HN.out; omega)
      obtain ⟨x, hx, hxt⟩ := list_at (ls := ns) (k := k) (by have := HN.out; omega)
      have hxm : x ∈ ns := by rw [← hx]; exact List.getElem_mem _
      rw [hx] at hca
      have HX := Lib.hid hxt
      have HXM := Lib.hid hxm
      have hk0 : (0 : Int) ≤ (k : Int) := by omega
      have hk1 : (k : Int) < (n : Int) := by omega
      clear hx hxt hxm
      have HNM := Lib.hid (fun W => name_any x W (HS.out x HXM.out))
      by_cases hnx : nameB x = true
      · have HNM2 : ∀ W, Calls Try.prog 10 #[.string x] W fun e w' => e = .returned (.bool true) ∧ W = w' := fun W => by have h9 := HNM.out W; rw [hnx] at h9; exact h9
        have HNM3 := Lib.hid HNM2
        clear HNM HNM2
        go_wp2_with fail
        refine (HNM3.out _).mono ?_
        rintro e w2 ⟨rfl, rfl⟩
        go_wp2_with fail
        go_round
        case rel => exact ⟨k + 1, by omega, by go_num, all_next HX.out HA.out hnx⟩
        case measure => simp [intOf]; omega
      · have HNM2 : ∀ W, Calls Try.prog 10 #[.string x] W fun e w' => e = .returned (.bool false) ∧ W = w' := fun W => by have h9 := HNM.out W; rw [show nameB x = false by simpa using hnx] at h9; exact h9
        have HNM3 := Lib.hid HNM2
        clear HNM HNM2 hnx
        go_wp2_with fail
        refine (HNM3.out _).mono ?_
        rintro e w2 ⟨rfl, rfl⟩
        go_wp2_with fail
        go_ret
        exact ⟨rfl, HBW.out⟩
    · obtain rfl : k = n := by omega
      exact absurd (HB.out k (by have := HN.out; omega) HA.out) (by have := HN.out; omega)
set_option maxHeartbeats 4000000 in
theorem done_ask (w : World) (h : DK T D M gs steps hb rm w) (A : Option Addr) (n c : Nat) (ns : List ByteArray) (hn : ns.length = n) (hr : RdV w A (cellsS ns)) (hs : ∀ s ∈ ns, s.size ≤ 9223372036854775807) (bn : n ≤ 9223372036854775807) (ga gd : Nat) (lba lbd : Array Value) (hgood : ns.all nameB = true) (r : Int) (hask : Asks w ga lba r) (hr0 : r ≠ 0) :
    Calls Try.prog 41 #[.pointer (some ⟨D, 0, none⟩), .agg #[.slice A n c, fv ga lba, fv gd lbd]] w fun e w' => e = .returned (.int .i64 r) ∧ Below w.heap.size w w' := by
  have HNO := Lib.hid (none_any _ (h.below (below_new w (.cells #[.slice A n c, fv ga lba, fv gd lbd] 82))))
  have HR := Lib.hid (hr.below (below_new w (.cells #[.slice A n c, fv ga lba, fv gd lbd] 82)))
  have HS := Lib.hid hs
  have HN := Lib.hid hn
  have HG := Lib.hid hgood
  have HQ := Lib.hid hask
  have e1 : (r != 0) = true := by simpa using hr0
  have e2 : (r == 0) = false := by simpa using hr0
  have hce := hask.1
  have HBW := Lib.hid (below_new w (.cells #[.slice A n c, fv ga lba, fv gd lbd] 82))
  clear h hr hs hn hgood hask hr0
  go_enter Try.func41, Try.ntmps41
  go_wp2_with fail
  refine HNO.out.mono ?_
  rintro e w2 ⟨rfl, rfl⟩
  go_wp2_with fail
  go_loop [13] (fun i => ∃ k : Nat, k ≤ n ∧ i = .int .i64 k ∧ Hid ((ns.take k).all nameB = true)) (fun i => n - (intOf i).toNat)
  case atStart => exact ⟨0, Nat.zero_le _, rfl, by simp [Hid]⟩
  case round =>
    obtain ⟨k, hk, rfl, HA⟩ := hrel
    by_cases hlt : k < n
    · obtain ⟨b, off, rfl, hbb, hca⟩ := rdS_at HR.out (k := k) (by have := HN.out; omega)
      obtain ⟨x, hx, hxt⟩ := list_at (ls := ns) (k := k) (by have := HN.out; omega)
      have hxm : x ∈ ns := by rw [← hx]; exact List.getElem_mem _
      rw [hx] at hca
      have HX := Lib.hid hxt
      have HXM := Lib.hid hxm
      have hk0 : (0 : Int) ≤ (k : Int) := by omega
      have hk1 : (k : Int) < (n : Int) := by omega
      clear hx hxt hxm
      have HNM := Lib.hid (fun W => name_any x W (HS.out x HXM.out))
      have hnx : nameB x = true := by have h9 := List.all_eq_true.1 HG.out x HXM.out; exact h9
      have HNM2 : ∀ W, Calls Try.prog 10 #[.string x] W fun e w' => e = .returned (.bool true) ∧ W = w' := fun W => by have h9 := HNM.out W; rw [hnx] at h9; exact h9
      have HNM3 := Lib.hid HNM2
      clear HNM HNM2
      go_wp2_with fail
      refine (HNM3.out _).mono ?_
      rintro e w2 ⟨rfl, rfl⟩
      go_wp2_with fail
      go_round
      case rel => exact ⟨k + 1, by omega, by go_num, all_next HX.out HA.out hnx⟩
      case measure => simp [intOf]; omega
    · obtain rfl : k = n := by omega
      go_wp2_with fail
      refine (HQ.out.2 _ HBW.out).mono ?_
      rintro e w2 ⟨rfl, q, rfl⟩
      go_wp2_with fail
      go_ret
      exact ⟨rfl, below_any q HBW.out⟩
set_option maxHeartbeats 4000000 in
theorem done_halt (w : World) (h : DK T D M gs steps hb rm w) (A : Option Addr) (n c : Nat) (ns : List ByteArray) (hn : ns.length = n) (hr : RdV w A (cellsS ns)) (hs : ∀ s ∈ ns, s.size ≤ 9223372036854775807) (bn : n ≤ 9223372036854775807) (ga gd : Nat) (lba lbd : Array Value) (hgood : ns.all nameB = true) (hask : Asks w ga lba 0) (hh : hb = true ∧ rm = 0) :
    Calls Try.prog 41 #[.pointer (some ⟨D, 0, none⟩), .agg #[.slice A n c, fv ga lba, fv gd lbd]] w fun e w' => e = .returned (.int .i64 7) ∧ Below w.heap.size w w' := by
  obtain ⟨rfl, rfl⟩ := hh
  have HNO := Lib.hid (none_any _ (h.below (below_new w (.cells #[.slice A n c, fv ga lba, fv gd lbd] 82))))
  have HR := Lib.hid (hr.below (below_new w (.cells #[.slice A n c, fv ga lba, fv gd lbd] 82)))
  have HS := Lib.hid hs
  have HN := Lib.hid hn
  have HG := Lib.hid hgood
  have HQ := Lib.hid hask
  have hce := hask.1
  have HBW := Lib.hid (below_new w (.cells #[.slice A n c, fv ga lba, fv gd lbd] 82))
  have HHA := Lib.hid (fun q => halted_any _ (h.below (below_any q (below_new w (.cells #[.slice A n c, fv ga lba, fv gd lbd] 82)))))
  clear h hr hs hn hgood hask
  go_enter Try.func41, Try.ntmps41
  go_wp2_with fail
  refine HNO.out.mono ?_
  rintro e w2 ⟨rfl, rfl⟩
  go_wp2_with fail
  go_loop [13] (fun i => ∃ k : Nat, k ≤ n ∧ i = .int .i64 k ∧ Hid ((ns.take k).all nameB = true)) (fun i => n - (intOf i).toNat)
  case atStart => exact ⟨0, Nat.zero_le _, rfl, by simp [Hid]⟩
  case round =>
    obtain ⟨k, hk, rfl, HA⟩ := hrel
    by_cases hlt : k < n
    · obtain ⟨b, off, rfl, hbb, hca⟩ := rdS_at HR.out (k := k) (by have := HN.out; omega)
      obtain ⟨x, hx, hxt⟩ := list_at (ls := ns) (k := k) (by have := HN.out; omega)
      have hxm : x ∈ ns := by rw [← hx]; exact List.getElem_mem _
      rw [hx] at hca
      have HX := Lib.hid hxt
      have HXM := Lib.hid hxm
      have hk0 : (0 : Int) ≤ (k : Int) := by omega
      have hk1 : (k : Int) < (n : Int) := by omega
      clear hx hxt hxm
      have HNM := Lib.hid (fun W => name_any x W (HS.out x HXM.out))
      have hnx : nameB x = true := by have h9 := List.all_eq_true.1 HG.out x HXM.out; exact h9
      have HNM2 : ∀ W, Calls Try.prog 10 #[.string x] W fun e w' => e = .returned (.bool true) ∧ W = w' := fun W => by have h9 := HNM.out W; rw [hnx] at h9; exact h9
      have HNM3 := Lib.hid HNM2
      clear HNM HNM2
      go_wp2_with fail
      refine (HNM3.out _).mono ?_
      rintro e w2 ⟨rfl, rfl⟩
      go_wp2_with fail
      go_round
      case rel => exact ⟨k + 1, by omega, by go_num, all_next HX.out HA.out hnx⟩
      case measure => simp [intOf]; omega
    · obtain rfl : k = n := by omega
      go_wp2_with fail
      refine (HQ.out.2 _ HBW.out).mono ?_
      rintro e w2 ⟨rfl, q, rfl⟩
      go_wp2_with fail
      refine (HHA.out q).mono ?_
      rintro e w2 ⟨rfl, rfl⟩
      go_wp2_with fail
      go_ret
      exact ⟨rfl, below_any q HBW.out⟩
/-- What a step is done in. -/
structure Ready (T : Nat → Prop) (D M : Nat) (gs : List G) (steps : Nat) (hb : Bool) (rm : Int) (w X : World) : Prop where
  dk : DK T D M gs (steps + 1) hb (if hb then rm - 1 else rm) X
  same : ∀ b, b < w.heap.size → b ≠ D → X.heap[b]? = w.heap[b]?
  keep : KeepT T w X
theorem ready_one (w X : World) (h : DK T D M gs steps hb rm w) (hbl : Below w.heap.size w X) (hh : hb = false) : Ready T D M gs steps hb rm w (X.setCell ⟨D, 1, none⟩ (.int .i64 ((steps : Int) + 1))) := by
  subst hh
  have hx := h.below hbl
  have h2 := heap_setCell_same X D 1 _ 70 (.int .i64 ((steps : Int) + 1)) hx.disk
  have hs : (X.setCell ⟨D, 1, none⟩ (.int .i64 ((steps : Int) + 1))).heap.size = X.heap.size := by simp [World.setCell]
  refine ⟨hx.count (by simpa using h2) (fun b _ hne => Below.heap_setCell _ ⟨D, 1, none⟩ _ b hne) (by rw [hs]; exact Nat.le_refl _) h.r0 h.r1, fun b hlt hne => (Below.heap_setCell _ ⟨D, 1, none⟩ _ b hne).trans (hbl.block b hlt), (KeepT.of_below hbl).setCell ⟨D, 1, none⟩ _ h.tD⟩
theorem ready_two (w X : World) (h : DK T D M gs steps hb rm w) (hbl : Below w.heap.size w X) (hh : hb = true) (hr : rm ≠ 0) : Ready T D M gs steps hb rm w ((X.setCell ⟨D, 3, none⟩ (.int .i64 (rm - 1))).setCell ⟨D, 1, none⟩ (.int .i64 ((steps : Int) + 1))) := by
  subst hh
  have hx := h.below hbl
  have h1 := heap_setCell_same X D 3 _ 70 (.int .i64 (rm - 1)) hx.disk
  have h2 := heap_setCell_same (X.setCell ⟨D, 3, none⟩ (.int .i64 (rm - 1))) D 1 _ 70 (.int .i64 ((steps : Int) + 1)) h1
  have hs : ((X.setCell ⟨D, 3, none⟩ (.int .i64 (rm - 1))).setCell ⟨D, 1, none⟩ (.int .i64 ((steps : Int) + 1))).heap.size = X.heap.size := by simp [World.setCell]
  have hne2 : ∀ b, b ≠ D → ((X.setCell ⟨D, 3, none⟩ (.int .i64 (rm - 1))).setCell ⟨D, 1, none⟩ (.int .i64 ((steps : Int) + 1))).heap[b]? = X.heap[b]? := fun b hne => (Below.heap_setCell _ ⟨D, 1, none⟩ _ b hne).trans (Below.heap_setCell _ ⟨D, 3, none⟩ _ b hne)
  have q0 := h.r0
  have q1 := h.r1
  refine ⟨hx.count (by simpa using h2) (fun b _ hne => hne2 b hne) (by rw [hs]; exact Nat.le_refl _) (by simp; omega) (by simp; omega), fun b hlt hne => (hne2 b hne).trans (hbl.block b hlt), ((KeepT.of_below hbl).setCell ⟨D, 3, none⟩ _ h.tD).setCell ⟨D, 1, none⟩ _ h.tD⟩
set_option maxHeartbeats 4000000 in
theorem done_yes (w : World) (h : DK T D M gs steps hb rm w) (A : Option Addr) (n c : Nat) (ns : List ByteArray) (hn : ns.length = n) (hr : RdV w A (cellsS ns)) (hs : ∀ s ∈ ns, s.size ≤ 9223372036854775807) (bn : n ≤ 9223372036854775807) (ga gd : Nat) (lba lbd : Array Value) (hgood : ns.all nameB = true) (hask : Asks w ga lba 0) (hh : ¬ (hb = true ∧ rm = 0)) (hst : steps ≤ 1000000) (Q : World → Prop) (hcd : ∀ args w, (callFunc gd args).run Try.prog w = .ok (.enter gd args) w) (hdo : ∀ X, Ready T D M gs steps hb rm w X → Calls Try.prog gd lbd X fun e w' => e = .returned (.tuple #[]) ∧ Q w') :
    Calls Try.prog 41 #[.pointer (some ⟨D, 0, none⟩), .agg #[.slice A n c, fv ga lba, fv gd lbd]] w fun e w' => e = .returned (.int .i64 0) ∧ Q w' := by
  have HNO := Lib.hid (none_any _ (h.below (below_new w (.cells #[.slice A n c, fv ga lba, fv gd lbd] 82))))
  have HR := Lib.hid (hr.below (below_new w (.cells #[.slice A n c, fv ga lba, fv gd lbd] 82)))
  have HS := Lib.hid hs
  have HN := Lib.hid hn
  have HG := Lib.hid hgood
  have HQ := Lib.hid hask
  have hce := hask.1
  have HBW := Lib.hid (below_new w (.cells #[.slice A n c, fv ga lba, fv gd lbd] 82))
  have HHA := Lib.hid (fun q => halted_any _ (h.below (below_any q (below_new w (.cells #[.slice A n c, fv ga lba, fv gd lbd] 82)))))
  have HD := Lib.hid h
  have HDO := Lib.hid hdo
  have hh2 : (hb && decide (rm = 0)) = false := by cases hb <;> simp_all
  have HH := Lib.hid hh
  have HH2 := Lib.hid hh2
  have q0 := h.r0
  have q1 := h.r1
  clear h hr hs hn hgood hask hdo hh hh2
  go_enter Try.func41, Try.ntmps41
  go_wp2_with fail
  refine HNO.out.mono ?_
  rintro e w2 ⟨rfl, rfl⟩
  go_wp2_with fail
  go_loop [13] (fun i => ∃ k : Nat, k ≤ n ∧ i = .int .i64 k ∧ Hid ((ns.take k).all nameB = true)) (fun i => n - (intOf i).toNat)
  case atStart => exact ⟨0, Nat.zero_le _, rfl, by simp [Hid]⟩
  case round =>
    obtain ⟨k, hk, rfl, HA⟩ := hrel
    by_cases hlt : k < n
    · obtain ⟨b, off, rfl, hbb, hca⟩ := rdS_at HR.out (k := k) (by have := HN.out; omega)
      obtain ⟨x, hx, hxt⟩ := list_at (ls := ns) (k := k) (by have := HN.out; omega)
      have hxm : x ∈ ns := by rw [← hx]; exact List.getElem_mem _
      rw [hx] at hca
      have HX := Lib.hid hxt
      have HXM := Lib.hid hxm
      have hk0 : (0 : Int) ≤ (k : Int) := by omega
      have hk1 : (k : Int) < (n : Int) := by omega
      clear hx hxt hxm
      have HNM := Lib.hid (fun W => name_any x W (HS.out x HXM.out))
      have hnx : nameB x = true := by have h9 := List.all_eq_true.1 HG.out x HXM.out; exact h9
      have HNM2 : ∀ W, Calls Try.prog 10 #[.string x] W fun e w' => e = .returned (.bool true) ∧ W = w' := fun W => by have h9 := HNM.out W; rw [hnx] at h9; exact h9
      have HNM3 := Lib.hid HNM2
      clear HNM HNM2
      go_wp2_with fail
      refine (HNM3.out _).mono ?_
      rintro e w2 ⟨rfl, rfl⟩
      go_wp2_with fail
      go_round
      case rel => exact ⟨k + 1, by omega, by go_num, all_next HX.out HA.out hnx⟩
      case measure => simp [intOf]; omega
    · obtain rfl : k = n := by omega
      go_wp2_with fail
      refine (HQ.out.2 _ HBW.out).mono ?_
      rintro e w2 ⟨rfl, q, rfl⟩
      go_wp2_with fail
      refine (HHA.out q).mono ?_
      rintro e w2 ⟨rfl, rfl⟩
      rw [HH2.out]
      have hd9 := HD.out.below (below_any q HBW.out)
      have c1 := hd9.cellsD.2.1
      have c2 := hd9.cellsD.2.2.1
      have c3 := hd9.cellsD.2.2.2
      have f1 := hd9.freeD 1
      have f3 := hd9.freeD 3
      cases hb
      · have HRY := Lib.hid (ready_one _ _ HD.out (below_any q HBW.out) rfl)
        clear hd9
        go_wp2_with fail
        refine (HDO.out _ HRY.out).mono ?_
        rintro e w2 ⟨rfl, hq⟩
        have HQQ := Lib.hid hq
        clear hq
        go_wp2_with fail
        go_ret
        exact ⟨rfl, HQQ.out⟩
      · have hr0 : rm ≠ 0 := fun e => HH.out ⟨rfl, e⟩
        have HRY := Lib.hid (ready_two _ _ HD.out (below_any q HBW.out) rfl hr0)
        have c1b := ((hd9.count (heap_setCell_same _ D 3 _ 70 (.int .i64 (rm - 1)) hd9.disk) (fun b _ hne => Below.heap_setCell _ ⟨D, 3, none⟩ _ b hne) (by simp [World.setCell]) (by omega) (by omega)).cellsD).2.1
        have f1b := (hd9.count (heap_setCell_same _ D 3 _ 70 (.int .i64 (rm - 1)) hd9.disk) (fun b _ hne => Below.heap_setCell _ ⟨D, 3, none⟩ _ b hne) (by simp [World.setCell]) (by omega) (by omega)).freeD 1
        clear hd9
        go_wp2_with fail
        refine (HDO.out _ HRY.out).mono ?_
        rintro e w2 ⟨rfl, hq⟩
        have HQQ := Lib.hid hq
        clear hq
        go_wp2_with fail
        go_ret
        exact ⟨rfl, HQQ.out⟩
end
end Go.Proofs.Ytcfglgejjmapdaa
