/- A deque, and the blocks that are none of its own. -/
import Derived.Test.YtnnlfhdjakabmaaNew
import Derived.Test.YtnnlfhdjakabmaaActs
import Derived.Maps.AppendAt
namespace Go.Proofs.Ytnnlfhdjakabmaa
open Go Go.RowKit
open Go.Shelf
/-- A deque that was made behind w, with these texts; the blocks of S are others. -/
def PS (w : World) (D : Nat) (M : List ByteArray) (S : Nat → Prop) (W : World) : Prop := ∃ r, Dq D r M W ∧ Far w.heap.size D r ∧ Below w.heap.size w W ∧ ∀ k, S k → k < W.heap.size ∧ k ≠ D ∧ r ≠ some k
def KeepS (S : Nat → Prop) (W W' : World) : Prop := (∀ k, S k → W'.heap[k]? = W.heap[k]?) ∧ W.heap.size ≤ W'.heap.size
/-- The block of a list that is not empty. -/
def LB (A : Option Addr) (L : List ByteArray) (k : Nat) : Prop := 0 < L.length ∧ ∃ off, A = some ⟨k, off, none⟩
theorem PS.ds {w W : World} {D : Nat} {M : List ByteArray} {S : Nat → Prop} (h : PS w D M S W) : DS w D M W := by
  obtain ⟨r, hd, hf, hb, _⟩ := h
  exact ⟨⟨r, hd, hf⟩, hb⟩
theorem PS.mono {w W : World} {D : Nat} {M : List ByteArray} {S T : Nat → Prop} (h : PS w D M S W) (hs : ∀ k, T k → S k) : PS w D M T W := by
  obtain ⟨r, hd, hf, hb, h4⟩ := h
  exact ⟨r, hd, hf, hb, fun k hk => h4 k (hs k hk)⟩
theorem PS.new {w W V : World} {D : Nat} {M : List ByteArray} {S T : Nat → Prop} (h : PS w D M S W) (hb : Below W.heap.size W V) (ht : ∀ k, T k → (S k ∨ W.heap.size ≤ k ∧ k < V.heap.size)) : PS w D M T V := by
  obtain ⟨r, hd, hf, hb2, h4⟩ := h
  have hs := hb.size
  refine ⟨r, hd.below hb, hf, hb2.trans (hb.mono hb2.size), fun k hk => ?_⟩
  rcases ht k hk with h5 | ⟨h5, h6⟩
  · have := h4 k h5
    exact ⟨by omega, this.2⟩
  · exact ⟨h6, (fun e => by have := hd.lt.1; omega), fun e => by have := (hd.lt.2 k e).1; omega⟩
theorem PS.below {w W V : World} {D : Nat} {M : List ByteArray} {S : Nat → Prop} (h : PS w D M S W) (hb : Below W.heap.size W V) : PS w D M S V := h.new hb (fun k hk => .inl hk)
theorem keep_call {w W W' : World} {D : Nat} {r r' : Option Nat} {S : Nat → Prop} {M' : List ByteArray} (hd : Dq D r' M' W') (hf : Far w.heap.size D r) (hb : Below w.heap.size w W) (h4 : ∀ k, S k → k < W.heap.size ∧ k ≠ D ∧ r ≠ some k) (hk : Keeps D r W W') (hn : Next W r r') : PS w D M' S W' ∧ KeepS S W W' := by
  have hs := hk.size
  refine ⟨⟨r', hd, hf.next hn hb.size, hb.trans (hk.below hf hb.size), fun k h => ?_⟩, fun k h => hk.block k (h4 k h).1 (h4 k h).2.1 (h4 k h).2.2, hk.size⟩
  obtain ⟨a, b, c⟩ := h4 k h
  refine ⟨by omega, b, ?_⟩
  rcases hn with rfl | hn
  · exact c
  · intro e; have := hn k e; omega
theorem RdV.keepS {A : Option Addr} {xs : List Value} {S : Nat → Prop} {W W' : World} (h : RdV W A xs) (hk : KeepS S W W') (hA : ∀ k off, 0 < xs.length → A = some ⟨k, off, none⟩ → S k) : RdV W' A xs := fun h0 => by
  obtain ⟨b, off, rfl, hlt, hc⟩ := h h0
  exact ⟨b, off, rfl, Nat.lt_of_lt_of_le hlt hk.2, fun j hj => by rw [← hc j hj]; simp only [World.cell?, hk.1 b (hA b off h0 rfl)]⟩
theorem cell_keepS {S : Nat → Prop} {W W' : World} (hk : KeepS S W W') {X j : Nat} (hX : S X) : W'.cell? ⟨X, j, none⟩ = W.cell? ⟨X, j, none⟩ := by simp only [World.cell?, hk.1 X hX]
theorem lb_sub {b o c X : Nat} {t : ByteArray} {L : List ByteArray} (k : Nat) (h : LB (subA (some ⟨b, o, none⟩) 1 c) L k) : LB (some ⟨b, o, none⟩) (t :: L) k ∨ k = X := by
  obtain ⟨_, off, e⟩ := h
  refine .inl ⟨by simp, o, ?_⟩
  unfold subA at e
  split at e
  · cases e; rfl
  · simp [Addr.add] at e
    rw [e.1]
theorem lb_front {A : Option Addr} {X : Nat} {t : ByteArray} {L : List ByteArray} (k : Nat) (h : LB A L k) : LB A (L ++ [t]) k ∨ k = X := by
  obtain ⟨_, off, e⟩ := h
  exact .inl ⟨by simp, off, e⟩
theorem dropL_le (cnt : Int) (t : ByteArray) (L : List ByteArray) : (dropL cnt t L).length ≤ L.length := by
  unfold dropL
  split
  · rw [List.length_reverse]; have := dropSt_len cnt t L.reverse; rw [List.length_reverse] at this; omega
  · have := dropSt_len cnt t L; omega
theorem ps_list {w W V : World} {D : Nat} {M L : List ByteArray} {S : Nat → Prop} {A : Option Addr} (h : PS w D M S W) (hb : Below W.heap.size W V) (hr : RdV V A (cellsS L)) (hf : ∀ ad, A = some ad → W.heap.size ≤ ad.block) : PS w D M (LB A L) V :=
  h.new hb (fun k hk => .inr (by
    obtain ⟨h0, off, e⟩ := hk
    obtain ⟨b, o2, e2, hlt, _⟩ := hr (by rw [cellsS_len]; exact h0)
    rw [e] at e2
    cases e2
    exact ⟨hf _ e, hlt⟩))
theorem run_strs {w : World} (ty base : Nat) (v : Value) (l : List ByteArray) (N : Nat) (hN : l.length = N) (hown : w.ownsRow base 9 1 v N (cellsS l)) (A : Option Addr) (n c : Nat) (m : List ByteArray) (hm : m.length = n)
    (hr : RdV w A (cellsS m)) (hn : A = none → c = 0) (hc : n ≤ c) (b1 : N + n ≤ 1000000) (hb : base ≤ w.heap.size) :
    ∃ v' w', (Builtin.append_ #[29, 29] ty #[v, .slice A n c]).run Try.prog w = .ok v' w' ∧ w'.ownsRow base 9 1 v' (N + n) (cellsS (l ++ m)) ∧ Below base w w' ∧ w.grownBy w' v.ownBlock := by
  obtain ⟨i0, hi, hz0, hz1, hz2⟩ := info_parts str_info
  have hcl := cellsS_len m
  cases A with
  | some ad =>
    obtain ⟨v', w', hrun, h1, h2, _⟩ := run_append_own_at (P := Try.prog) (w := w) base 29 ty 9 i0 _ 1 16 Try.underlying29 hi hz0 hz1 hz2 rfl (by omega) v N (cellsS l) hown ad n c (cellsS m) (by rw [hcl]; omega) hr.news (cellsS_one m) (by simp only [maxLen]; omega) (by omega) hb
    exact ⟨v', w', hrun, by rw [cellsS_app]; exact h1, (Below.refl base w).grown h2 hb (fun k hk => (hown.lt k hk).1), h2⟩
  | none =>
    have hc0 := hn rfl
    subst hc0
    obtain rfl : n = 0 := by omega
    have hnil : m = [] := List.eq_nil_of_length_eq_zero hm
    subst hnil
    have hrun := run_append_owned_none (P := Try.prog) (w := w) base 29 ty 9 i0 1 Try.underlying29 hi _ N _ hown
    exact ⟨v, w, hrun, by rw [List.append_nil]; exact hown, Below.refl _ _, ⟨rfl, rfl, rfl, Nat.le_refl _, fun _ _ _ => rfl⟩⟩
section
variable {w : World} {ops : Array Oper} {o : Oper} {a : Go.Act} {K : Go.Act → World → Prop} {Q : Exit → Go.Act → World → Prop} {E : Prop}
/-- Texts appended to a row, at a step of a region that draws. -/
theorem step_strs (hg : o.guard = none) (s x : Operand) (ho : o.op = .call { callee := .builtin .append, args := #[s, x], argTypes := #[29, 29] })
    (base : Nat) (v : Value) (l : List ByteArray) (N : Nat) (hN : l.length = N) (hs : a.eval s = v) (hown : w.ownsRow base 9 1 v N (cellsS l)) (A : Option Addr) (n c : Nat) (m : List ByteArray) (hm : m.length = n) (hx : a.eval x = .slice A n c)
    (hr : RdV w A (cellsS m)) (hn : A = none → c = 0) (hc : n ≤ c) (b1 : N + n ≤ 1000000) (hb : base ≤ w.heap.size)
    (hK : ∀ v' w', w'.ownsRow base 9 1 v' (N + n) (cellsS (l ++ m)) → Below base w w' → w.grownBy w' v.ownBlock → K (a.put o.dst v') w') : if Region.wanted o (yielded ops a.tmps) = true then Oper.wp Try.prog o a w K Q else E := by
  have hw : Region.wanted o (yielded ops a.tmps) = true := by simp [Region.wanted, hg]
  rw [if_pos hw]
  obtain ⟨v', w', hrun, h1, h2, h3⟩ := run_strs o.type base v l N hN hown A n c m hm hr hn hc b1 hb
  have h4 := hK v' w' h1 h2 h3
  unfold Oper.wp
  simp [execOp, ho, resolve, invoke, builtin, hs, hx, hrun, Result.andThen]
  exact h4
end
theorem placeF_no {n p i : Int} (hp : placeF n p = (i, false)) : i = 0 := by
  unfold placeF at hp
  by_cases hc : n < 1 ∨ (if p < 0 then p + n else p) < 0 ∨ n ≤ (if p < 0 then p + n else p)
  · rw [if_pos hc] at hp
    exact (congrArg Prod.fst hp).symm
  · rw [if_neg hc] at hp
    exact absurd (congrArg Prod.snd hp) (by simp)
theorem below_drew (w : World) : Below w.heap.size w w.drew := below_any 1 (Below.refl _ _)
theorem rdV_grown {w W : World} {g : Nat} {row : Option Nat} {xs : List Value} (h : RdV w (some ⟨g, 0, none⟩) xs) (hg : w.grownBy W row) (hn : row ≠ some g) : RdV W (some ⟨g, 0, none⟩) xs := fun h0 => by
  obtain ⟨b, off, e, hlt, hc⟩ := h h0
  cases e
  exact ⟨g, 0, rfl, Nat.lt_of_lt_of_le hlt hg.size, fun j hj => by rw [← hc j hj]; simp only [World.cell?, hg.block g hlt (fun e => hn e.symm)]⟩
theorem rd_b (w3 W : World) (t : ByteArray) (hg : ((w3.drew.alloc (.cells #[] 9)).alloc (.cells (cellsS [t]).toArray 9)).grownBy W (some w3.heap.size)) : RdV W (some ⟨w3.heap.size + 1, 0, none⟩) (cellsS [t]) := by
  have h := new_rdS (w3.drew.alloc (.cells #[] 9)) [t]
  rw [show (w3.drew.alloc (.cells #[] 9)).heap.size = w3.heap.size + 1 by simp] at h
  exact rdV_grown h hg (by simp)
theorem rd_c (w3 W : World) (t : ByteArray) (hg : ((w3.drew.alloc (.cells (cellsS [t]).toArray 9)).alloc (.cells #[] 9)).grownBy W (some (w3.heap.size + 1))) : RdV W (some ⟨w3.heap.size, 0, none⟩) (cellsS [t]) := by
  have h := (new_rdS w3.drew [t]).below (below_new _ (.cells #[] 9))
  exact rdV_grown h hg (by simp)
theorem own_c (w3 : World) (t : ByteArray) : ((w3.drew.alloc (.cells (cellsS [t]).toArray 9)).alloc (.cells #[] 9)).ownsRow w3.heap.size 9 1 (.slice (some ⟨w3.heap.size + 1, 0, none⟩) 0 0) 0 [] := by
  have h := own_empty (w3.drew.alloc (.cells (cellsS [t]).toArray 9)) 9 w3.heap.size (by simp)
  rwa [show (w3.drew.alloc (.cells (cellsS [t]).toArray 9)).heap.size = w3.heap.size + 1 by simp] at h
theorem new_act (W : World) (a p q : Int) (t : ByteArray) : (W.alloc (.cells #[.int .i64 a, .string t, .int .i64 p, .int .i64 q] 63)).cell? ⟨W.heap.size, 0, none⟩ = some (.int .i64 a) ∧ (W.alloc (.cells #[.int .i64 a, .string t, .int .i64 p, .int .i64 q] 63)).cell? ⟨W.heap.size, 1, none⟩ = some (.string t) ∧ (W.alloc (.cells #[.int .i64 a, .string t, .int .i64 p, .int .i64 q] 63)).cell? ⟨W.heap.size, 2, none⟩ = some (.int .i64 p) ∧ (W.alloc (.cells #[.int .i64 a, .string t, .int .i64 p, .int .i64 q] 63)).cell? ⟨W.heap.size, 3, none⟩ = some (.int .i64 q) := by
  refine ⟨?_, ?_, ?_, ?_⟩ <;> (simp only [World.cell?, heap_alloc_new]; rfl)
section
variable {w : World} {D : Nat} {M : List ByteArray} {S : Nat → Prop}
theorem ps_front (g : Nat) (t : ByteArray) (W : World) (h : PS w D M S W) (hr : RdV W (some ⟨g, 0, none⟩) (cellsS [t])) (hg : S g) (ht : t.size ≤ 1048576) (hM : M.length + 1 ≤ 65536) :
    Calls Try.prog 20 #[.pointer (some ⟨D, 0, none⟩), .slice (some ⟨g, 0, none⟩) 1 1] W fun e W' => e = .returned (.int .i64 0) ∧ PS w D (t :: M) S W' ∧ KeepS S W W' := by
  obtain ⟨r, hd, hf, hb, h4⟩ := h
  refine (front_yes D r M (some ⟨g, 0, none⟩) 1 1 [t] W hd rfl hr (fun ad e _ => by cases e; exact h4 g hg) (longB_no.2 (by simpa using ht)) hM).mono fun e W' ⟨he, r', hd', hk, hn⟩ => ⟨he, keep_call ?_ hf hb h4 hk hn⟩
  simpa using hd'
theorem ps_back (g : Nat) (t : ByteArray) (W : World) (h : PS w D M S W) (hr : RdV W (some ⟨g, 0, none⟩) (cellsS [t])) (hg : S g) (ht : t.size ≤ 1048576) (hM : M.length + 1 ≤ 65536) :
    Calls Try.prog 24 #[.pointer (some ⟨D, 0, none⟩), .slice (some ⟨g, 0, none⟩) 1 1] W fun e W' => e = .returned (.int .i64 0) ∧ PS w D (M ++ [t]) S W' ∧ KeepS S W W' := by
  obtain ⟨r, hd, hf, hb, h4⟩ := h
  exact (back_yes D r M (some ⟨g, 0, none⟩) 1 1 [t] W hd rfl hr (fun ad e _ => by cases e; exact h4 g hg) (longB_no.2 (by simpa using ht)) hM).mono fun e W' ⟨he, r', hd', hk, hn⟩ => ⟨he, keep_call hd' hf hb h4 hk hn⟩
theorem ps_popf (t : ByteArray) (W : World) (h : PS w D (t :: M) S W) :
    Calls Try.prog 26 #[.pointer (some ⟨D, 0, none⟩)] W fun e W' => e = .returned (.tuple #[.string t, .bool true]) ∧ PS w D M S W' ∧ KeepS S W W' := by
  obtain ⟨r, hd, hf, hb, h4⟩ := h
  exact (popf_yes D r M t W hd).mono fun e W' ⟨he, hd', hk⟩ => ⟨he, keep_call hd' hf hb h4 hk (Next.refl _ _)⟩
theorem ps_popb (t : ByteArray) (W : World) (h : PS w D (M ++ [t]) S W) :
    Calls Try.prog 27 #[.pointer (some ⟨D, 0, none⟩)] W fun e W' => e = .returned (.tuple #[.string t, .bool true]) ∧ PS w D M S W' ∧ KeepS S W W' := by
  obtain ⟨r, hd, hf, hb, h4⟩ := h
  exact (popb_yes D r M t W hd).mono fun e W' ⟨he, hd', hk⟩ => ⟨he, keep_call hd' hf hb h4 hk (Next.refl _ _)⟩
theorem ps_put (i : Nat) (a : Int) (t : ByteArray) (W : World) (h : PS w D M S W) (ht : t.size ≤ 1048576) (f1 : -9223372036854775808 ≤ a) (f2 : a ≤ 9223372036854775807) (hp : placeF M.length a = ((i : Int), true)) :
    Calls Try.prog 31 #[.pointer (some ⟨D, 0, none⟩), .int .i64 a, .string t] W fun e W' => e = .returned (.int .i64 0) ∧ PS w D (M.set i t) S W' ∧ KeepS S W W' := by
  obtain ⟨r, hd, hf, hb, h4⟩ := h
  exact (put_yes D i r M a t W hd ht f1 f2 hp).mono fun e W' ⟨he, hd', hk⟩ => ⟨he, keep_call hd' hf hb h4 hk (Next.refl _ _)⟩
theorem ps_put_no (a : Int) (t : ByteArray) (W : World) (h : PS w D M S W) (ht : t.size ≤ 1048576) (f1 : -9223372036854775808 ≤ a) (f2 : a ≤ 9223372036854775807) (hp : placeF M.length a = (0, false)) :
    Calls Try.prog 31 #[.pointer (some ⟨D, 0, none⟩), .int .i64 a, .string t] W fun e W' => e = .returned (.int .i64 4) ∧ W' = W := by
  obtain ⟨r, hd, hf, hb, h4⟩ := h
  exact put_no D r M a t W hd ht f1 f2 hp
theorem ps_keep (f u : Int) (W : World) (h : PS w D M S W) (f1 : -9223372036854775808 ≤ f) (f2 : f ≤ 9223372036854775807) (u1 : -9223372036854775808 ≤ u) (u2 : u ≤ 9223372036854775807) :
    Calls Try.prog 32 #[.pointer (some ⟨D, 0, none⟩), .int .i64 f, .int .i64 u] W fun e W' => e = .returned (.tuple #[]) ∧ PS w D (rangeL M f u) S W' ∧ KeepS S W W' := by
  obtain ⟨r, hd, hf, hb, h4⟩ := h
  exact (keep_any D r M f u W hd f1 f2 u1 u2).mono fun e W' ⟨he, r', hd', hk, hn⟩ => ⟨he, keep_call hd' hf hb h4 (hk.weaken r) (.inr hn)⟩
theorem ps_drop (cnt : Int) (t : ByteArray) (W : World) (h : PS w D M S W) (c1 : -9223372036854775808 ≤ cnt) (c2 : cnt ≤ 9223372036854775807) :
    Calls Try.prog 33 #[.pointer (some ⟨D, 0, none⟩), .int .i64 cnt, .string t] W fun e W' => e = .returned (.int .i64 (dropN cnt t M)) ∧ PS w D (dropL cnt t M) S W' ∧ KeepS S W W' := by
  obtain ⟨r, hd, hf, hb, h4⟩ := h
  have hq : Calls Try.prog 33 #[.pointer (some ⟨D, 0, none⟩), .int .i64 cnt, .string t] W (DropQ D (dropL cnt t M) (dropN cnt t M) W) := by
    by_cases hneg : cnt < 0
    · exact drop_neg D r M cnt t W hd c1 c2 hneg
    · exact drop_pos D r M cnt t W hd c1 c2 hneg
  exact hq.mono fun e W' ⟨he, r', hd', hk, hn⟩ => ⟨he, keep_call hd' hf hb h4 (hk.weaken r) (.inr hn)⟩
end
end Go.Proofs.Ytnnlfhdjakabmaa
