/- A word as a text, with a blank or nothing behind it, is read as the word. -/
import Derived.Test.YtejicjcdbfjajaaDoorPri
namespace Go.Proofs.YtejicjcdbfjajaaDoor
open Go Go.RowKit
/-- Nothing, or a blank. -/
def Stop (l : List UInt8) : Prop := l = [] ∨ ∃ y, l = 32 :: y
theorem runF_app : ∀ (l rest : List UInt8), (∀ c ∈ l, okB c = true) → Stop rest → runF (l ++ rest) = l.length
  | [], rest, _, h => by
    rcases h with rfl | ⟨y, rfl⟩
    · rfl
    · rw [List.nil_append, runF_no (by decide)]; rfl
  | c :: l, rest, ha, h => by
    rw [List.cons_append, runF_yes (ha c (by simp)), runF_app l rest (fun d hd => ha d (by simp [hd])) h, List.length_cons, Nat.add_comm]
theorem take_app (l rest : List UInt8) : (l ++ rest).take l.length = l := by simp
theorem isW_l {c : UInt8} (h : isL c.toNat = true) : isW c.toNat = false ∧ c.toNat ≠ 45 := by
  simp only [isL, Bool.or_eq_true, decide_eq_true_eq] at h
  simp only [isW]
  constructor
  · simp; omega
  · omega
theorem isW_d {c : UInt8} (h : isD c.toNat = true) : isW c.toNat = false ∧ c.toNat ≠ 45 ∧ isL c.toNat = false := by
  simp only [isD, decide_eq_true_eq] at h
  simp only [isW, isL]
  refine ⟨?_, by omega, ?_⟩ <;> simp <;> omega
theorem kws_good : (kws.all fun s => (bl s).all okB && (match bl s with | [] => false | c :: _ => isL c.toNat)) = true := by decide
theorem word_name {p : ByteArray} {rest : List UInt8} {a : Nat} (h : nameB p = true) (hs : Stop rest) : wordX a (bl p ++ rest) = some (0, bl p, 0, a + (bl p).length) ∧ blk false (bl p ++ rest) = 0 := by
  unfold nameB formB at h
  simp only [Bool.and_eq_true, Bool.not_eq_true', decide_eq_true_eq] at h
  obtain ⟨⟨⟨⟨h0, h64⟩, hc⟩, ha⟩, hk⟩ := h
  cases hb : bl p with
  | nil => rw [hb] at hc; cases hc
  | cons c r =>
    rw [hb] at hc
    simp only at hc
    have hr := runF_app (bl p) rest (fun d hd => List.all_eq_true.1 ha d hd) hs
    rw [hb] at hr
    have h1 := wordX_let (a := a) (u := p) (x := c :: r ++ rest) (y := r ++ rest) rfl hc hr (by rw [hb, take_app])
    rw [hk, hb] at h1
    refine ⟨?_, ?_⟩
    · rw [h1, if_neg (by simp), if_neg (by omega)]
    · exact blk_stop (isW_l hc).1 (fun e => absurd e (isW_l hc).2)
theorem word_key {p : ByteArray} {rest : List UInt8} {a : Nat} (h : keyB p = true) (hs : Stop rest) : wordX a (bl p ++ rest) = some (1, bl p, 0, a + (bl p).length) ∧ blk false (bl p ++ rest) = 0 := by
  have hm : p ∈ kws := of_decide_eq_true h
  have hg := List.all_eq_true.1 kws_good p hm
  rw [Bool.and_eq_true] at hg
  obtain ⟨ha, hc⟩ := hg
  cases hb : bl p with
  | nil => rw [hb] at hc; cases hc
  | cons c r =>
    rw [hb] at hc
    simp only at hc
    have hr := runF_app (bl p) rest (fun d hd => List.all_eq_true.1 ha d hd) hs
    rw [hb] at hr
    have h1 := wordX_let (a := a) (u := p) (x := c :: r ++ rest) (y := r ++ rest) rfl hc hr (by rw [hb, take_app])
    rw [h, hb] at h1
    refine ⟨?_, ?_⟩
    · rw [h1, if_pos rfl]
    · exact blk_stop (isW_l hc).1 (fun e => absurd e (isW_l hc).2)
theorem dec_big {n : Nat} (h : ¬ n < 10) : Lib.decDigits n = Lib.decDigits (n / 10) ++ [UInt8.ofNat (48 + n % 10)] := by rw [Lib.decDigits, dif_neg h]
theorem dig_nat (k : Nat) (h : k < 10) : (UInt8.ofNat (48 + k)).toNat = 48 + k := by simp; omega
theorem dig_is (k : Nat) (h : k < 10) : isD (UInt8.ofNat (48 + k)).toNat = true := by rw [dig_nat k h]; simp [isD]; omega
theorem dec_all : ∀ (n : Nat), (∀ c ∈ Lib.decDigits n, isD c.toNat = true) ∧ 0 < (Lib.decDigits n).length
  | n => by
    by_cases h : n < 10
    · rw [Lib.decDigits_one h]
      exact ⟨fun c hc => by rw [List.mem_singleton.1 hc]; exact dig_is n h, by simp⟩
    · have ih := dec_all (n / 10)
      rw [dec_big h]
      refine ⟨fun c hc => ?_, by simp⟩
      rcases List.mem_append.1 hc with hc | hc
      · exact ih.1 c hc
      · rw [List.mem_singleton.1 hc]; exact dig_is _ (Nat.mod_lt _ (by omega))
termination_by n => n
decreasing_by omega
theorem dec_num : ∀ (n : Nat), n ≤ 9223372036854775807 → numF 0 (Lib.decDigits n) = some n
  | n => by
    intro hn
    by_cases h : n < 10
    · rw [Lib.decDigits_one h, numF, if_pos ⟨dig_is n h, by omega⟩, numF, dig_nat n h]
      congr 1; omega
    · have ih := dec_num (n / 10) (by omega)
      have hm : n % 10 < 10 := Nat.mod_lt _ (by omega)
      rw [dec_big h, numF_snoc, ih]
      show numF (n / 10) [UInt8.ofNat (48 + n % 10)] = some n
      rw [numF, if_pos ⟨dig_is _ hm, by rw [dig_nat _ hm]; omega⟩, numF, dig_nat _ hm]
      congr 1; omega
termination_by n => n
decreasing_by omega
theorem word_int {z : Int} {rest : List UInt8} {a : Nat} (h0 : 0 ≤ z) (h1 : z ≤ 9223372036854775807) (hs : Stop rest) : wordX a (Lib.itoa z ++ rest) = some (2, [], z, a + (Lib.itoa z).length) ∧ blk false (Lib.itoa z ++ rest) = 0 := by
  obtain ⟨n, rfl⟩ : ∃ n : Nat, z = n := ⟨z.toNat, by omega⟩
  have he : Lib.itoa (n : Int) = Lib.decDigits n := by unfold Lib.itoa; rw [if_neg (by omega)]; simp
  rw [he]
  obtain ⟨ha, hp⟩ := dec_all n
  have hn := dec_num n (by omega)
  cases hb : Lib.decDigits n with
  | nil => rw [hb] at hp; simp at hp
  | cons c r =>
    have hc : isD c.toNat = true := ha c (by rw [hb]; simp)
    have hr := runF_app (Lib.decDigits n) rest (fun d hd => okB_d (ha d hd)) hs
    rw [hb] at hr
    have h1 := wordX_num (a := a) (u := ofL (c :: r)) (x := c :: r ++ rest) (y := r ++ rest) rfl (isW_d hc).2.2 hc hr (by rw [bl_ofL, take_app])
    rw [bl_ofL, ← hb, hn] at h1
    refine ⟨?_, ?_⟩
    · rw [← hb, h1]
    · exact blk_stop (isW_d hc).1 (fun e => absurd e (isW_d hc).2.1)
theorem quoT_rest (rest : List UInt8) : ∀ l : List UInt8, quoT 39 (qtL l ++ (39 :: rest)) = some (l, (qtL l).length + 1)
  | [] => quoT_last (q := 39) (c := 39) (r := rest) (by decide) rfl
  | c :: l => by
    have h1 : qtL (c :: l) = qtB c ++ qtL l := rfl
    rw [h1, List.append_assoc, quoT_byte, quoT_rest rest l]
    simp
    omega
theorem word_text {t : List UInt8} {rest : List UInt8} {a : Nat} : wordX a (quoL t ++ rest) = some (3, t, 0, a + (quoL t).length) ∧ blk false (quoL t ++ rest) = 0 := by
  have e : quoL t ++ rest = 39 :: (qtL t ++ (39 :: rest)) := by simp [quoL]
  rw [e]
  refine ⟨?_, blk_stop (by decide) (fun h => absurd h (by decide))⟩
  rw [wordX_quo rfl (Or.inl rfl), quoT_rest]
  have h1 : (quoL t).length = (qtL t).length + 2 := by simp [quoL]
  exact congrArg (fun z => some ((3 : Int), t, (0 : Int), z)) (by rw [h1]; omega)
theorem pre_app {x y g : List UInt8} (h : g.length ≤ x.length) : Lib.hasPrefix (x ++ y) g = Lib.hasPrefix x g := by
  have h1 : Lib.hasPrefix (x ++ y) g = true ↔ g <+: x ++ y := List.isPrefixOf_iff_prefix
  have h2 : Lib.hasPrefix x g = true ↔ g <+: x := List.isPrefixOf_iff_prefix
  rw [Bool.eq_iff_iff, h1, h2, List.prefix_iff_eq_take, List.prefix_iff_eq_take, List.take_append_of_le_length h]
theorem sgs_find1 : ∀ g ∈ sgs, sgs.find? (fun h => Lib.hasPrefix (bl g ++ [32]) (bl h)) = some g := by decide
theorem sgs_find0 : ∀ g ∈ sgs, sgs.find? (fun h => Lib.hasPrefix (bl g) (bl h)) = some g := by decide
theorem sgs_good : (sgs.all fun s => match bl s with | [] => false | c :: r => !isL c.toNat && !isD c.toNat && !(c.toNat == 39) && !(c.toNat == 34) && !isW c.toNat && (!(c.toNat == 45) || r == [])) = true := by decide
theorem find_congr {α : Type} {p q : α → Bool} : ∀ (l : List α), (∀ x ∈ l, p x = q x) → l.find? p = l.find? q
  | [], _ => rfl
  | x :: l, h => by
    rw [List.find?_cons, List.find?_cons, h x (by simp), find_congr l (fun y hy => h y (by simp [hy]))]
theorem word_sign {p : ByteArray} {rest : List UInt8} {a : Nat} (h : signB p = true) (hs : Stop rest) : wordX a (bl p ++ rest) = some (4, bl p, 0, a + (bl p).length) ∧ blk false (bl p ++ rest) = 0 := by
  have hm : p ∈ sgs := of_decide_eq_true h
  have hg := List.all_eq_true.1 sgs_good p hm
  have hf : sgs.find? (fun g => Lib.hasPrefix (bl p ++ rest) (bl g)) = some p := by
    rcases hs with rfl | ⟨y, rfl⟩
    · rw [List.append_nil]; exact sgs_find0 p hm
    · rw [← sgs_find1 p hm]
      refine find_congr sgs (fun g hg2 => ?_)
      have e : bl p ++ 32 :: y = (bl p ++ [32]) ++ y := by simp
      rw [e]
      have h1 := (sgs_small g hg2).2
      have h2 := (sgs_small p hm).1
      exact pre_app (by rw [List.length_append, bl_len, bl_len]; simp; omega)
  cases hb : bl p with
  | nil => rw [hb] at hg; simp at hg
  | cons c r =>
    rw [hb] at hg hf
    simp only [Bool.and_eq_true, Bool.not_eq_true', Bool.or_eq_true, beq_eq_false_iff_ne, ne_eq, beq_iff_eq] at hg
    obtain ⟨⟨⟨⟨⟨g1, g2⟩, g3⟩, g4⟩, g5⟩, g6⟩ := hg
    have h1 := wordX_sgnF (a := a) (x := c :: r ++ rest) (y := r ++ rest) rfl g1 g2 (by omega)
    rw [hf] at h1
    refine ⟨?_, ?_⟩
    · rw [h1]
      simp only [hb, ← bl_len]
    · refine blk_stop g5 (fun e => ?_)
      rcases g6 with g6 | g6
      · exact absurd e g6
      · subst g6
        rcases hs with rfl | ⟨y, rfl⟩
        · simp
        · simp
/-- A word that may be, as a text, is read as it. -/
theorem word_told {p : Wr} {rest : List UInt8} {a : Nat} (h : mayW p = true) (ho : p.ok) (hs : Stop rest) : wordX a (toldW p ++ rest) = some (p.kind, bl p.text, p.num, a + (toldW p).length) ∧ blk false (toldW p ++ rest) = 0 ∧ 0 < (toldW p).length := by
  obtain ⟨k, t, n, at_⟩ := p
  unfold mayW at h
  simp only at h
  have hpos : ∀ {s : ByteArray}, (wordX a (bl s ++ rest) = some (k, bl s, n, a + (bl s).length)) → 0 < (bl s).length := by
    intro s h1
    rcases Nat.eq_zero_or_pos (bl s).length with h2 | h2
    · exfalso
      have h3 := List.eq_nil_of_length_eq_zero h2
      rw [h3, List.nil_append] at h1
      rcases hs with rfl | ⟨y, rfl⟩
      · cases h1
      · have h4 : wordX a (32 :: y) = none := by
          rw [wordX_sgnF rfl (by decide) (by decide) (by decide)]
          have h5 : sgs.find? (fun g => Lib.hasPrefix (32 :: y) (bl g)) = none := by
            rw [List.find?_eq_none]
            intro g hg
            have h6 := List.all_eq_true.1 (by decide : (sgs.all fun g => match bl g with | [] => false | c :: _ => c != 32) = true) g hg
            cases hb : bl g with
            | nil => rw [hb] at h6; simp at h6
            | cons c r =>
              rw [hb] at h6
              simp only [bne_iff_ne, ne_eq] at h6
              simp [Lib.hasPrefix, List.isPrefixOf, h6]
          rw [h5]
        rw [h4] at h1
        cases h1
    · exact h2
  split at h
  · rename_i hk
    subst hk
    simp only [Bool.and_eq_true, decide_eq_true_eq] at h
    obtain ⟨h1, rfl⟩ := h
    have e : toldW ⟨0, t, 0, at_⟩ = bl t := by simp [toldW]
    rw [e]
    have h2 := word_name (a := a) h1 hs
    exact ⟨h2.1, h2.2, hpos h2.1⟩
  split at h
  · rename_i hk
    subst hk
    simp only [Bool.and_eq_true, decide_eq_true_eq] at h
    obtain ⟨h1, rfl⟩ := h
    have e : toldW ⟨1, t, 0, at_⟩ = bl t := by simp [toldW]
    rw [e]
    have h2 := word_key (a := a) h1 hs
    exact ⟨h2.1, h2.2, hpos h2.1⟩
  split at h
  · rename_i hk
    subst hk
    simp only [Bool.and_eq_true, decide_eq_true_eq] at h
    obtain ⟨rfl, h0⟩ := h
    have e : toldW ⟨2, ⟨#[]⟩, n, at_⟩ = Lib.itoa n := by simp [toldW]
    rw [e]
    have h2 := word_int (a := a) h0 ho.2.2.1.2 hs
    refine ⟨h2.1, h2.2, ?_⟩
    obtain ⟨m, rfl⟩ : ∃ m : Nat, n = m := ⟨n.toNat, by omega⟩
    have he : Lib.itoa (m : Int) = Lib.decDigits m := by unfold Lib.itoa; rw [if_neg (by omega)]; simp
    rw [he]
    exact (dec_all m).2
  split at h
  · rename_i hk
    subst hk
    simp only [decide_eq_true_eq] at h
    subst h
    have e : toldW ⟨3, t, 0, at_⟩ = quoL (bl t) := by simp [toldW]
    rw [e]
    exact ⟨word_text.1, (word_text (a := a)).2, by simp [quoL]⟩
  split at h
  · rename_i hk
    subst hk
    simp only [Bool.and_eq_true, decide_eq_true_eq] at h
    obtain ⟨h1, rfl⟩ := h
    have e : toldW ⟨4, t, 0, at_⟩ = bl t := by simp [toldW]
    rw [e]
    have h2 := word_sign (a := a) h1 hs
    exact ⟨h2.1, h2.2, hpos h2.1⟩
  · cases h
end Go.Proofs.YtejicjcdbfjajaaDoor
