/- What the laws of a disk share. -/
import Derived.Test.YtcfglgejjmapdaaRefW
import Derived.Test.YtcfglgejjmapdaaDoes
import Derived.Test.YtcfglgejjmapdaaFrameB
namespace Go.Proofs.Ytcfglgejjmapdaa
open Go Go.RowKit Go.Shelf
/-- Files appended to a list of one's own, wherever they lie. -/
theorem run_filesN {w : World} (ty base : Nat) (v : Value) (l : List F) (N : Nat) (hN : l.length = N) (hown : w.ownsRow base 27 3 v N (cellsF l)) (A : Option Addr) (n c : Nat) (m : List F) (hm : m.length = n)
    (hr : RdF w A m) (hn : A = none → c = 0) (hc : n ≤ c) (b1 : N + n ≤ 1000000) (hb : base ≤ w.heap.size) :
    ∃ v' w', (Builtin.append_ #[24, 24] ty #[v, .slice A n c]).run Try.prog w = .ok v' w' ∧ w'.ownsRow base 27 3 v' (N + n) (cellsF (l ++ m)) ∧ w.grownBy w' v.ownBlock := by
  obtain ⟨i0, hi, hz0, hz1, hz2⟩ := file_parts
  have hcl := cellsF_len m
  cases A with
  | some ad =>
    have hnews : ∀ j u, (cellsF m)[j]? = some u → w.cell? (ad.add j) = some u := by
      intro j u hu
      obtain ⟨hj, _⟩ := List.getElem?_eq_some_iff.1 hu
      rw [hcl] at hj
      obtain ⟨b, off, hA2, hlt, hcell⟩ := hr (by omega)
      cases hA2
      rw [addoff]
      have h1 := cellsF_at m (j / 3) (by omega) (j % 3) (by omega)
      have h2 := hcell (j / 3) (by omega) (j % 3) (by omega)
      have h3 : j / 3 * 3 + j % 3 = j := by omega
      rw [h3, hu] at h1
      rw [show off + j / 3 * 3 + j % 3 = off + j by omega] at h2
      rw [h2, ← h1]
    obtain ⟨v', w', hrun, h1, h2, _, h4⟩ := run_append_own_at (P := Try.prog) (w := w) base 24 ty 27 i0 _ 3 40 Try.underlying24 hi hz0 hz1 hz2 rfl (by omega) v N (cellsF l) hown ad n c (cellsF m) (by rw [hcl, hm]) hnews (cellsF_one m) (by simp only [maxLen]; omega) (by omega) hb
    exact ⟨v', w', hrun, by rw [cellsF_app]; exact h1, h2⟩
  | none =>
    have hc0 := hn rfl
    subst hc0
    obtain rfl : n = 0 := by omega
    have hnil : m = [] := List.eq_nil_of_length_eq_zero hm
    subst hnil
    have hrun := run_append_owned_none (P := Try.prog) (w := w) base 24 ty 27 i0 3 Try.underlying24 hi _ N _ hown
    exact ⟨v, w, hrun, by rw [List.append_nil]; exact hown, ⟨rfl, rfl, rfl, Nat.le_refl _, fun _ _ _ => rfl⟩⟩
section
variable {w : World} {ops : Array Oper} {rest : List Oper} {o : Oper} {a : Act} {Q : Exit → Act → World → Prop}
theorem wpList_filesN (hg : o.guard = none) (s x : Operand) (ho : o.op = .call { callee := .builtin .append, args := #[s, x], argTypes := #[24, 24] })
    (base : Nat) (v : Value) (l : List F) (N : Nat) (hN : l.length = N) (hs : a.eval s = v) (hown : w.ownsRow base 27 3 v N (cellsF l)) (A : Option Addr) (n c : Nat) (m : List F) (hm : m.length = n) (hx : a.eval x = .slice A n c)
    (hr : RdF w A m) (hn : A = none → c = 0) (hc : n ≤ c) (b1 : N + n ≤ 1000000) (hb : base ≤ w.heap.size)
    (hK : ∀ v' w', w'.ownsRow base 27 3 v' (N + n) (cellsF (l ++ m)) → Below base w w' → w.heap.size ≤ w'.heap.size → wpList Try.prog ops Q rest (a.put o.dst v') w') : wpList Try.prog ops Q (o :: rest) a w := by
  obtain ⟨v', w', h1, h2, h3⟩ := run_filesN (w := w) o.type base v l N hN hown A n c m hm hr hn hc b1 hb
  exact wpList_app hg s x #[24, 24] ho v _ v' w' hs hx h1 (hK v' w' h2 ((Below.refl base w).grown h3 hb (fun k hk => (hown.lt k hk).1)) h3.size)
end
theorem find_at {l : List F} {nm : ByteArray} : ∀ (_ : placeF l nm < l.length), ∃ x, l[placeF l nm]? = some x ∧ fnd F.name l nm = some x := by
  induction l with
  | nil => intro h; simp at h
  | cons f r ih =>
    intro h
    simp only [placeF] at h ⊢
    by_cases e : f.name = nm
    · rw [if_pos e]
      exact ⟨f, rfl, by simp [fnd, e]⟩
    · rw [if_neg e] at h ⊢
      obtain ⟨x, h1, h2⟩ := ih (by simpa using h)
      refine ⟨x, by simpa using h1, ?_⟩
      have e2 : (bl f.name == bl nm) = false := by
        simp only [beq_eq_false_iff_ne, ne_eq]
        exact fun h => e (bl_inj h)
      unfold fnd at h2 ⊢
      rw [List.find?_cons, e2]
      exact h2
theorem find_no {l : List F} {nm : ByteArray} : ∀ (_ : ¬ placeF l nm < l.length), fnd F.name l nm = none := by
  induction l with
  | nil => intro _; rfl
  | cons f r ih =>
    intro h
    simp only [placeF] at h
    by_cases e : f.name = nm
    · rw [if_pos e] at h; simp at h
    · rw [if_neg e] at h
      have e2 : (bl f.name == bl nm) = false := by
        simp only [beq_eq_false_iff_ne, ne_eq]
        exact fun h => e (bl_inj h)
      have h2 := ih (by simpa using h)
      unfold fnd at h2 ⊢
      rw [List.find?_cons, e2]
      exact h2
/-- A row of bytes that may be written. -/
def RowB (w : World) (g n : Nat) : Prop := ∃ l : List UInt8, l.length = n ∧ Rd w (some ⟨g, 0, none⟩) l ∧ ∀ j, w.frozen? ⟨g, j, none⟩ = false
theorem RowB.byte {w : World} {g n k : Nat} (h : RowB w g n) (hk : k < n) : ∃ z : Int, w.cell? ⟨g, k, none⟩ = some (.int .u8 z) ∧ 0 ≤ z ∧ z ≤ 255 := by
  obtain ⟨l, hl, hr, _⟩ := h
  obtain ⟨b, off, e, _, hc⟩ := hr (by omega)
  cases e
  have h1 := hc k (by omega)
  rw [Nat.zero_add] at h1
  exact ⟨_, h1, by omega, by have := (l[k]).toNat_lt; omega⟩
theorem RowB.free {w : World} {g n : Nat} (h : RowB w g n) (j : Nat) : w.frozen? ⟨g, j, none⟩ = false := by
  obtain ⟨_, _, _, h⟩ := h
  exact h j
theorem frozen_set (w : World) (a b : Addr) (v : Value) : (w.setCell a v).frozen? b = w.frozen? b := by
  unfold World.frozen? World.setCell
  by_cases e : a.block = b.block
  · rw [e]
    cases h : w.heap[b.block]? with
    | none => simp [Array.getElem?_modify, h]
    | some o => cases o <;> simp [Array.getElem?_modify, h]
  · simp [Array.getElem?_modify, e]
theorem RowB.set {w : World} {g n k : Nat} {z : Int} (h : RowB w g n) (hk : k < n) (h0 : 0 ≤ z) (h1 : z ≤ 255) : RowB (w.setCell ⟨g, k, none⟩ (.int .u8 z)) g n := by
  obtain ⟨l, hl, hr, hf⟩ := h
  refine ⟨l.set k (UInt8.ofNat z.toNat), by simpa using hl, fun hp => ?_, fun j => by rw [frozen_set]; exact hf j⟩
  rw [List.length_set] at hp
  obtain ⟨b, off, e, hlt, hc⟩ := hr hp
  cases e
  refine ⟨g, 0, rfl, by simp [World.setCell]; exact hlt, fun j hj => ?_⟩
  have hj' : j < l.length := by rw [List.length_set] at hj; exact hj
  by_cases e : j = k
  · subst e
    have hz : ((UInt8.ofNat z.toNat).toNat : Int) = z := by simp; omega
    rw [List.getElem_set_self, hz, Nat.zero_add]
    have h2 := hc j hj'
    rw [Nat.zero_add] at h2
    exact World.cell?_setCell_same w ⟨g, j, none⟩ _ h2
  · rw [List.getElem_set_ne (by omega)]
    exact (World.cell?_setCell_other w ⟨g, k, none⟩ ⟨g, 0 + j, none⟩ _ (by intro h; injection h; omega)).trans (hc j hj')
theorem RowB.drew {w : World} {g n : Nat} (h : RowB w g n) (m : Nat) : RowB (w.drewN m) g n := h
theorem OwnRow.rowB {w : World} {base n : Nat} {v : Value} {l : List UInt8} (h : w.ownsRow base 5 1 v n (cellsB l)) (hn : l.length = n) :
    ∃ A c, v = .slice A n c ∧ n ≤ c ∧ c ≤ maxLen ∧ (A = none → c = 0) ∧ Rd w A l ∧ (∀ ad, A = some ad → base ≤ ad.block ∧ ad.block < w.heap.size) ∧ (0 < n → ∃ g, A = some ⟨g, 0, none⟩ ∧ RowB w g n) := by
  obtain ⟨A, c, rfl, h1, h2, h3, h4⟩ := own_rdV h
  refine ⟨A, c, rfl, h1, by assumption, by assumption, h4.rd, fun ad e => ?_, fun h0 => ?_⟩
  · subst e
    exact h.lt ad.block rfl
  · obtain ⟨g, off, e, hlt, hc⟩ := h4.rd (by omega)
    subst e
    have hoff : off = 0 := by
      rcases h.2 with ⟨e, _⟩ | ⟨g', cap, cur, e, _⟩
      · cases e
      · cases e; rfl
    subst hoff
    exact ⟨g, rfl, l, hn, h4.rd, fun j => h.frozenAt j⟩
end Go.Proofs.Ytcfglgejjmapdaa
