/- The first sign with which a text begins: the program's search. -/
import Derived.Test.YtejicjcdbfjajaaDoorWrd
namespace Go.Proofs.YtejicjcdbfjajaaDoor
open Go Go.RowKit
theorem quiet_N {P : Program} {f : FuncId} {args : Array Value} {w : World} {n : Nat} {v : Value} (h : Calls P f args (w.drewN n) fun e w' => e = .returned v ∧ w' = w.drewN n) :
    Calls P f args (w.drewN n) fun e w'' => e = .returned v ∧ ∃ m, w'' = w.drewN m := h.mono fun _ _ ⟨he, hm⟩ => ⟨he, n, hm⟩
theorem drew_two (w : World) (q r : Nat) : (w.drewN q).drewN r = w.drewN (q + r) := by unfold World.drewN; simp [Nat.add_assoc]
set_option maxHeartbeats 4000000 in
set_option maxRecDepth 100000 in
theorem asks_any (S B C a : Nat) (s g : ByteArray) (w : World) (hb : w.cell? ⟨B, 0, none⟩ = some (SP S)) (hc : w.cell? ⟨C, 0, none⟩ = some (.int .i64 a)) (c0 : w.cell? ⟨S, 0, none⟩ = some (.string s)) (ha : a ≤ s.size) (hm : s.size ≤ 1000000000) :
    Calls Tryd.prog 61 #[.string g, .pointer (some ⟨B, 0, none⟩), .pointer (some ⟨C, 0, none⟩)] w fun e w' => e = .returned (.bool (Lib.hasPrefix ((bl s).drop a) (bl g))) ∧ ∃ q, w' = w.drewN q := by
  have HP := Lib.hid (fun V => Tryd.strings_HasPrefix (s.extract a s.size) g V)
  rw [show (s.extract a s.size).data.toList = bl (s.extract a s.size) from rfl, bl_drop] at HP
  go_enter Tryd.func61, Tryd.ntmps61
  go_wp2_with fail
  go_quiet ((go_at_call 55; exact quiet_N (HP.out _)))
  go_wp2_with fail
  go_ret
  exact ⟨rfl, _, rfl⟩
/-- The signs as cells of an array behind a source's text and map. -/
theorem Sou.sign {W : World} {S m : Nat} {s : ByteArray} (h : Sou W S s m) (k : Nat) (hk : k < 25) : W.cell? ⟨S, 2 + k, none⟩ = some (.string (sgs25.getD k ⟨#[]⟩)) := by
  rw [Lib.cell_of_heap h.z, Array.getElem?_append_right (by simp)]
  have h1 : sgs25.length = 25 := rfl
  have e : 2 + k - (#[Value.string s, .map (some m)] : Array Value).size = k := by simp
  rw [e]
  simp [cellsS, List.getD, h1, hk]
/-- The place of the first that fits. -/
def firstF (p : ByteArray → Bool) (l : List ByteArray) : Nat := (l.takeWhile (fun x => !p x)).length
theorem takeWhile_all {p : ByteArray → Bool} {l : List ByteArray} : ∀ k, k ≤ firstF p l → ∀ j, j < k → ∀ h : j < l.length, p l[j] = false := by
  unfold firstF
  induction l with
  | nil => intro k hk j hj h; simp at h
  | cons x r ih =>
    intro k hk j hj h
    rw [List.takeWhile_cons] at hk
    split at hk
    · rename_i hx
      cases j with
      | zero => simpa using hx
      | succ j =>
        simp only [List.length_cons] at hk h
        have := ih (k - 1) (by omega) j (by omega) (by omega)
        simpa using this
    · simp at hk
      omega
theorem firstF_at {p : ByteArray → Bool} : ∀ {l : List ByteArray} {k : Nat} (h : k < l.length), (∀ j, j < k → ∀ h : j < l.length, p l[j] = false) → p l[k] = true → firstF p l = k
  | [], k, h, _, _ => absurd h (by simp)
  | x :: r, 0, _, _, hp => by
    unfold firstF
    rw [List.takeWhile_cons, if_neg]
    · rfl
    · simpa using hp
  | x :: r, k + 1, h, ha, hp => by
    unfold firstF
    have h0 := ha 0 (by omega) (by simp)
    rw [List.takeWhile_cons, if_pos (by simpa using h0), List.length_cons]
    have := firstF_at (p := p) (l := r) (k := k) (by simpa using h) (fun j hj hl => ha (j + 1) (by omega) (by rw [List.length_cons]; omega)) hp
    unfold firstF at this
    rw [this]
set_option maxHeartbeats 4000000 in
set_option maxRecDepth 100000 in
theorem find_sgn (S B C a m : Nat) (s : ByteArray) (w : World) (hb : w.cell? ⟨B, 0, none⟩ = some (SP S)) (hc : w.cell? ⟨C, 0, none⟩ = some (.int .i64 a)) (h : Sou w S s m) (ha : a ≤ s.size) :
    Calls Tryd.prog 60 #[.slice (some ⟨S, 2, none⟩) 25 25, .func (.func 61) #[] #[.pointer (some ⟨B, 0, none⟩), .pointer (some ⟨C, 0, none⟩)]] w fun e w' => e = .returned (.int .i64 ((firstF (fun g => Lib.hasPrefix ((bl s).drop a) (bl g)) sgs25 : Nat) : Int)) ∧ ∃ q, w' = w.drewN q := by
  have HA := Lib.hid (fun q g => asks_any S B C a s g (w.drewN q) hb hc h.c0 ha h.max)
  have HS := Lib.hid h
  have en : ∀ args w, (callFunc 61 args).run Tryd.prog w = .ok (.enter 61 args) w := enters_of Tryd.func61 (by kernel_rfl) rfl
  obtain ⟨p, hp⟩ : ∃ p : ByteArray → Bool, p = fun g => Lib.hasPrefix ((bl s).drop a) (bl g) := ⟨_, rfl⟩
  rw [← hp]
  have HA2 : Hid (∀ q g, Calls Tryd.prog 61 #[.string g, .pointer (some ⟨B, 0, none⟩), .pointer (some ⟨C, 0, none⟩)] (w.drewN q) fun e w' => e = .returned (.bool (p g)) ∧ ∃ r, w' = (w.drewN q).drewN r) := Lib.hid (fun q g => by rw [hp]; exact HA.out q g)
  have hlast : p (sgs25.getD 24 ⟨#[]⟩) = true := by rw [hp]; rfl
  have HL := Lib.hid hlast
  clear HA hb hc h hp hlast
  go_enter Tryd.func60, Tryd.ntmps60
  go_wp2_with fail
  go_loopw [8] (fun i wr => ∃ k q : Nat, k ≤ 24 ∧ i = .int .i64 k ∧ wr = w.drewN q ∧ Hid (∀ j, j < k → ∀ h : j < sgs25.length, p sgs25[j] = false)) (fun i _ => 25 - (intOf i).toNat)
  case atStart => exact ⟨0, 0, by omega, rfl, rfl, Lib.hid (fun j hj _ => absurd hj (by omega))⟩
  case round =>
    obtain ⟨k, q, hk, rfl, rfl, HN⟩ := hrel
    have hl : k < sgs25.length := by have : sgs25.length = 25 := rfl; omega
    have hca := HS.out.sign k (by omega)
    have hge : sgs25.getD k ⟨#[]⟩ = sgs25[k] := by simp [List.getD, hl]
    rw [hge] at hca
    have hca' : (w.drewN q).cell? ⟨S, 2 + k, none⟩ = some (.string sgs25[k]) := hca
    have HG := Lib.hid hge
    have HK := Lib.hid (HA2.out q sgs25[k])
    have hcell : w.cell? ⟨S, k + 2, none⟩ = some (.string sgs25[k]) := by rw [Nat.add_comm]; exact hca
    cases hpk : p sgs25[k] with
    | true =>
      have HY : Hid (firstF p sgs25 = k) := Lib.hid (firstF_at hl HN.out hpk)
      rw [hpk] at HK
      clear hge hpk
      generalize sgs25[k] = g at *
      go_wp2_with fail
      refine HK.out.mono ?_
      rintro e w' ⟨rfl, r, rfl⟩
      go_wp2_with fail
      go_ret
      exact ⟨by rw [HY.out]; rfl, _, rfl⟩
    | false =>
      have hk24 : k < 24 := by
        rcases Nat.lt_or_ge k 24 with h1 | h1
        · exact h1
        · have e : k = 24 := by omega
          subst e
          have h2 := HL.out
          rw [hge, hpk] at h2
          cases h2
      have HN2 : Hid (∀ j, j < k + 1 → ∀ h : j < sgs25.length, p sgs25[j] = false) := Lib.hid (fun j hj h => by
        rcases Nat.lt_or_ge j k with h1 | h1
        · exact HN.out j h1 h
        · have e : j = k := by omega
          subst e
          exact hpk)
      rw [hpk] at HK
      clear hge hpk
      generalize sgs25[k] = g at *
      go_wp2_with fail
      refine HK.out.mono ?_
      rintro e w' ⟨rfl, r, rfl⟩
      go_wp2_with fail
      go_roundw
      case rel => exact ⟨k + 1, q + r, by omega, by go_num, rfl, HN2⟩
      case measure => simp [intOf]; omega
theorem find_first {p : ByteArray → Bool} {e : ByteArray} (he : p e = true) : ∀ l : List ByteArray, firstF p (l ++ [e]) ≤ l.length ∧ l.find? p = (if firstF p (l ++ [e]) < l.length then some ((l ++ [e]).getD (firstF p (l ++ [e])) ⟨#[]⟩) else none)
  | [] => by
    have h : firstF p ([] ++ [e]) = 0 := by
      unfold firstF
      rw [List.nil_append, List.takeWhile_cons, if_neg (by simpa using he)]
      rfl
    rw [h]
    exact ⟨Nat.le_refl _, rfl⟩
  | x :: r => by
    have ih := find_first he r
    cases hx : p x with
    | true =>
      have h : firstF p (x :: r ++ [e]) = 0 := by
        unfold firstF
        rw [List.cons_append, List.takeWhile_cons, if_neg (by simpa using hx)]
        rfl
      rw [h]
      refine ⟨by simp, ?_⟩
      rw [List.find?_cons, hx, if_pos (by simp)]
      rfl
    | false =>
      have h : firstF p (x :: r ++ [e]) = firstF p (r ++ [e]) + 1 := by
        unfold firstF
        rw [List.cons_append, List.takeWhile_cons, if_pos (by simpa using hx), List.length_cons]
      rw [h]
      refine ⟨by simp; exact ih.1, ?_⟩
      rw [List.find?_cons, hx]
      simp only [List.length_cons, Nat.add_lt_add_iff_right]
      rw [ih.2]
      rfl
theorem sgs_some : ∀ k, k < 24 → 0 < (sgs25.getD k ⟨#[]⟩).size ∧ (sgs25.getD k ⟨#[]⟩).size ≤ 2 := by decide +kernel
end Go.Proofs.YtejicjcdbfjajaaDoor
