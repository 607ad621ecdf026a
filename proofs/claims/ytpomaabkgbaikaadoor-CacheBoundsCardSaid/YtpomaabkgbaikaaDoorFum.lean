/- Names in a row, a cache that is full: the mathematics. -/
import Derived.Test.YtpomaabkgbaikaaDoorWk
namespace Go.Proofs.YtpomaabkgbaikaaDoor
open Go Go.RowKit
theorem hasK_iff {l : List En} {n : ByteArray} : hasK l n = true ↔ ∃ e ∈ l, e.key = n := by
  unfold hasK
  cases h : fnd En.key l n with
  | none =>
    have h1 := fnd_none.1 h
    simp only [Option.isSome, Bool.false_eq_true, false_iff]
    rintro ⟨e, he, hk⟩
    exact h1 e he hk
  | some e =>
    have h1 := fnd_mem h
    simp only [Option.isSome, true_iff]
    exact ⟨e, h1.1, h1.2⟩
theorem hasK_no {l : List En} {n : ByteArray} (h : ∀ e ∈ l, e.key ≠ n) : hasK l n = false := by
  cases h1 : hasK l n
  · rfl
  · obtain ⟨e, he, hk⟩ := hasK_iff.1 h1
    exact absurd hk (h e he)
theorem wth_size {l : List En} {x : En} : (wth En.key l x).length = (drp En.key l x.key).length + 1 := by
  unfold wth
  have h2 : ∀ (p : En → Bool) (l : List En), (l.takeWhile p).length + (l.dropWhile p).length = l.length := by
    intro p l
    induction l with
    | nil => rfl
    | cons x l ih => cases h : p x <;> simp [h] <;> omega
  have := h2 (fun g => ltB g.key x.key) (drp En.key l x.key)
  simp only [List.length_append, List.length_cons]
  omega
theorem drp_size : ∀ {l : List En} {n : ByteArray}, Rising En.key l → hasK l n = true → (drp En.key l n).length + 1 = l.length
  | [], n, _, h => by cases h
  | x :: l, n, hr, h => by
    have hx := List.pairwise_cons.1 hr
    by_cases hk : x.key = n
    · have h1 : hasK l n = false := hasK_no (fun e he hn => by
        have h2 := hx.1 e he
        rw [hk, hn, ltB_irrefl] at h2
        cases h2)
      have h3 := drp_none h1
      have h4 : drp En.key (x :: l) n = drp En.key l n := by
        unfold drp
        rw [List.filter_cons_of_neg]
        simp [hk]
      rw [h4, h3, List.length_cons]
    · have h1 : hasK l n = true := by
        obtain ⟨e, he, hn⟩ := hasK_iff.1 h
        rcases List.mem_cons.1 he with rfl | he
        · exact absurd hn hk
        · exact hasK_iff.2 ⟨e, he, hn⟩
      have h2 := drp_size hx.2 h1
      have h4 : drp En.key (x :: l) n = x :: drp En.key l n := by
        unfold drp
        rw [List.filter_cons_of_pos]
        simp only [Bool.not_eq_true', beq_eq_false_iff_ne, ne_eq]
        exact fun e => hk (bl_inj e)
      rw [h4, List.length_cons, List.length_cons, h2]
/-- The names that are put. -/
def nm5 (i : Nat) : ByteArray := ⟨#[UInt8.ofNat (97 + i % 26), UInt8.ofNat (97 + i / 26 % 26), UInt8.ofNat (97 + i / 676 % 26), UInt8.ofNat (97 + i / 17576), 95]⟩
abbrev aT : ByteArray := ⟨#[97]⟩
abbrev bT : ByteArray := ⟨#[98]⟩
abbrev xT : ByteArray := ⟨#[120]⟩
abbrev yT : ByteArray := ⟨#[121]⟩
theorem u8_of {n : Nat} (h : n < 256) : (UInt8.ofNat n).toNat = n := by simp; omega
theorem nm5_nm {i : Nat} (h : i < 65535) : nmB (nm5 i) = true := by
  have h3 : i / 17576 ≤ 3 := by omega
  have q : ∀ n, 97 ≤ n → n ≤ 122 → okN (UInt8.ofNat n) = true := by
    intro n h1 h2
    unfold okN
    rw [u8_of (by omega), decide_eq_true ⟨h1, h2⟩]
    rfl
  unfold nmB nm5
  have e1 := q (97 + i % 26) (by omega) (by omega)
  have e2 := q (97 + i / 26 % 26) (by omega) (by omega)
  have e3 := q (97 + i / 676 % 26) (by omega) (by omega)
  have e4 := q (97 + i / 17576) (by omega) (by omega)
  have e5 : okN 95 = true := by decide +kernel
  simp only [bl, List.all_cons, List.all_nil, e1, e2, e3, e4, e5]
  rfl
theorem nm5_inj {i j : Nat} (hi : i < 65535) (hj : j < 65535) (h : nm5 i = nm5 j) : i = j := by
  have h1 : bl (nm5 i) = bl (nm5 j) := by rw [h]
  unfold nm5 at h1
  simp only [bl, List.cons.injEq, and_true] at h1
  obtain ⟨a, b, c, d⟩ := h1
  have q : ∀ {n m : Nat}, n < 256 → m < 256 → UInt8.ofNat n = UInt8.ofNat m → n = m := fun h1 h2 e => by
    have := congrArg UInt8.toNat e
    rwa [u8_of h1, u8_of h2] at this
  have a' := q (by omega) (by omega) a
  have b' := q (by omega) (by omega) b
  have c' := q (by omega) (by omega) c
  have d' := q (by omega) (by omega) d
  omega
theorem nm5_size (i : Nat) : (nm5 i).size = 5 := rfl
theorem ne_of_size {a b : ByteArray} (h : a.size ≠ b.size) : a ≠ b := fun e => h (by rw [e])
/-- The names behind i of them. -/
structure NS (i : Nat) (ns : List En) : Prop where
  len : ns.length = i + 1
  all : ∀ e ∈ ns, e.key = aT ∨ ∃ j, j < i ∧ e.key = nm5 j
  one : hasK ns aT = true
theorem NS.no {i : Nat} {ns : List En} (h : NS i ns) (hi : i ≤ 65535) {n : ByteArray} (ha : n ≠ aT) (hn : ∀ j, j < i → n ≠ nm5 j) : hasK ns n = false := hasK_no (fun e he hk => by
  rcases h.all e he with h1 | ⟨j, hj, h1⟩
  · exact ha (by rw [← hk, h1])
  · exact hn j hj (by rw [← hk, h1]))
theorem load_x {l : List En} {t : Nat} {k s : ByteArray} (hk : nmB k = true) (hs : s.size ≤ 1048576) (h : hasK l k = true ∨ t < 65536) : loadE l t k s = 0 ∧ loadL l t k s = wth En.key l ⟨k, s⟩ := by
  have hp : putOk l t k s = true := by
    unfold putOk
    rw [decide_eq_true hs]
    rcases h with h | h
    · simp [h]
    · simp [h]
  unfold loadE loadL
  rw [if_pos hk, if_pos hk]
  unfold putE putL
  rw [if_pos hp, if_pos hp]
  exact ⟨rfl, rfl⟩
theorem load_no {l : List En} {t : Nat} {k s : ByteArray} (hk : nmB k = true) (h : 1048576 < s.size ∨ hasK l k = false ∧ 65536 ≤ t) : loadE l t k s = 3 ∧ loadL l t k s = l := by
  have hp : putOk l t k s = false := by
    unfold putOk
    rcases h with h | ⟨h1, h2⟩
    · rw [decide_eq_false (by omega)]; rfl
    · rw [h1, decide_eq_false (show ¬ t < 65536 by omega)]; simp
  unfold loadE loadL
  rw [if_pos hk, if_pos hk]
  unfold putE putL
  rw [hp]
  exact ⟨rfl, rfl⟩
theorem NS.next {i : Nat} {ns : List En} (h : NS i ns) (hi : i < 65535) (s : ByteArray) : NS (i + 1) (wth En.key ns ⟨nm5 i, s⟩) := by
  have h1 := h.no (by omega) (n := nm5 i) (ne_of_size (by rw [nm5_size]; decide)) (fun j hj e => by have := nm5_inj hi (by omega) e; omega)
  refine ⟨?_, ?_, ?_⟩
  · rw [wth_size, drp_none h1, h.len]
  · intro e he
    rcases mem_wth.1 he with rfl | ⟨he, -⟩
    · exact .inr ⟨i, by omega, rfl⟩
    · rcases h.all e he with h2 | ⟨j, hj, h2⟩
      · exact .inl h2
      · exact .inr ⟨j, by omega, h2⟩
  · obtain ⟨e, he, hk⟩ := hasK_iff.1 h.one
    exact hasK_iff.2 ⟨e, mem_wth.2 (.inr ⟨he, by rw [hk]; exact ne_of_size (by rw [nm5_size]; decide)⟩), hk⟩
theorem nm_a : nmB aT = true := by decide +kernel
theorem nm_b : nmB bT = true := by decide +kernel
theorem NS.first (s : ByteArray) : NS 0 (wth En.key [] ⟨aT, s⟩) :=
  ⟨rfl, fun e he => (by
    rcases mem_wth.1 he with rfl | ⟨he, -⟩
    · exact .inl rfl
    · cases he), hasK_iff.2 ⟨⟨aT, s⟩, mem_wth.2 (.inl rfl), rfl⟩⟩
/-- A full cache. -/
theorem full_x {ns : List En} (h : NS 65535 ns) (hr : Rising En.key ns) :
    (pE [] 65536 xT = 3 ∧ pL [] 65536 xT = [] ∧ pD [] 65536 xT = ⟨#[]⟩) ∧ (loadE ns 65536 bT xT = 3 ∧ loadL ns 65536 bT xT = ns) ∧ (loadE ns 65536 aT yT = 0 ∧ loadL ns 65536 aT yT = wth En.key ns ⟨aT, yT⟩) ∧
    (wth En.key ns ⟨aT, yT⟩).length = 65536 ∧ unE (wth En.key ns ⟨aT, yT⟩) aT = 0 ∧ (unL (wth En.key ns ⟨aT, yT⟩) aT).length = 65535 ∧
    (pE [] 65535 xT = 0 ∧ (pL [] 65535 xT).length = 1) := by
  have a1 : pE [] 65536 xT = 3 ∧ pL [] 65536 xT = [] := by
    unfold pE pL
    rw [if_neg (by decide), if_neg (by decide)]
    unfold putE putL putOk
    rw [show hasK [] (digP xT) = false from rfl]
    exact ⟨rfl, rfl⟩
  have a2 : pE [] 65535 xT = 0 ∧ (pL [] 65535 xT).length = 1 := by
    unfold pE pL
    rw [if_neg (by decide), if_neg (by decide)]
    unfold putE putL putOk
    rw [show hasK [] (digP xT) = false from rfl]
    exact ⟨rfl, rfl⟩
  have hl : (wth En.key ns ⟨aT, yT⟩).length = 65536 := by
    rw [wth_size]
    have := drp_size hr h.one
    rw [this, h.len]
  have hr2 := hr.wth ⟨aT, yT⟩
  have hk2 : hasK (wth En.key ns ⟨aT, yT⟩) aT = true := hasK_iff.2 ⟨⟨aT, yT⟩, mem_wth.2 (.inl rfl), rfl⟩
  refine ⟨⟨a1.1, a1.2, ?_⟩, load_no nm_b (.inr ⟨h.no (by omega) (by decide) (fun j hj => ne_of_size (by rw [nm5_size]; decide)), by omega⟩), load_x nm_a (by decide) (.inl h.one), hl, ?_, ?_, a2⟩
  · unfold pD
    rw [a1.1]
    rfl
  · unfold unE
    rw [if_pos nm_a, hk2]
    rfl
  · unfold unL
    rw [if_pos nm_a]
    have := drp_size hr2 hk2
    omega
theorem long_put (t : Nat) {s : ByteArray} (h : 1048576 < s.size) : pD [] t s = ⟨#[]⟩ ∧ pE [] t s = 3 ∧ pL [] t s = [] := by
  have e : pE [] t s = 3 := by unfold pE; rw [if_pos h]
  refine ⟨?_, e, ?_⟩
  · unfold pD
    rw [e]
    rfl
  · unfold pL
    rw [if_pos h]
/-- A cache that was made behind w. -/
structure FC (w : World) (C D M : Nat) (ds ns : List En) (W : World) : Prop where
  a : CA C D M ds ns W
  b : Below w.heap.size w W
  t : ∀ b, TC C D M b → w.heap.size ≤ b
  g : DG w
section
variable {C D M : Nat} {ds ns : List En} {w W W' : World}
theorem FC.below (h : FC w C D M ds ns W) (hb : Below W.heap.size W W') : FC w C D M ds ns W' := ⟨h.a.below hb, h.b.trans (hb.mono h.b.size), h.t, h.g⟩
theorem FC.two (h : FC w C D M ds ns W) : ∀ b, TC C D M b → b ≠ 2 := fun b t => by have := h.t b t; have := h.g.2; omega
theorem FC.keep {d n : List En} (h : FC w C D M ds ns W) (hc : CA C D M d n W') (hk : KeepT (TC C D M) W W') : FC w C D M d n W' := ⟨hc, h.b.trans (TC.below hk h.t h.b.size), h.t, h.g⟩
theorem fc_put (s : ByteArray) (p : Nat) (h : FC w C D M ds ns W) (hp : ds.length + ns.length = p) (hd : p ≤ 1000000) (hs : s.size ≤ 1000000 ∨ 1048576 < s.size ∧ s.size ≤ 9223372036854775807) :
    Calls Tryd.prog 23 #[.pointer (some ⟨C, 0, none⟩), .string s] W fun e w' => e = .returned (.tuple #[.string (pD ds p s), .int .i64 (pE ds p s)]) ∧ FC w C D M (pL ds p s) ns w' := by
  subst hp
  exact (putc_any s W h.a (h.g.below h.b) h.two (by omega) (by omega) hs).mono fun e w' ⟨he, hc, hk⟩ => ⟨he, h.keep hc hk⟩
theorem fc_load (k s : ByteArray) (p : Nat) (h : FC w C D M ds ns W) (hp : ds.length + ns.length = p) (hd : p ≤ 1000000) (hk : k.size ≤ maxLen) (hs : s.size ≤ 9223372036854775807) :
    Calls Tryd.prog 24 #[.pointer (some ⟨C, 0, none⟩), .string k, .string s] W fun e w' => e = .returned (.int .i64 (loadE ns p k s)) ∧ FC w C D M ds (loadL ns p k s) w' := by
  subst hp
  exact (load_any k s W h.a hk (by omega) (by omega) hs).mono fun e w' ⟨he, hc, hk⟩ => ⟨he, h.keep hc hk⟩
theorem fc_unload (k : ByteArray) (h : FC w C D M ds ns W) (hk : k.size ≤ maxLen) :
    Calls Tryd.prog 26 #[.pointer (some ⟨C, 0, none⟩), .string k] W fun e w' => e = .returned (.int .i64 (unE ns k)) ∧ FC w C D M ds (unL ns k) w' :=
  (unload_any k W h.a hk).mono fun e w' ⟨he, hc, hk⟩ => ⟨he, h.keep hc hk⟩
theorem fc_new (w : World) (hg : DG w) : Calls Tryd.prog 11 #[] w fun e w' => ∃ C D M, e = .returned (.pointer (some ⟨C, 0, none⟩)) ∧ FC w C D M [] [] w' :=
  (new_any w).mono fun e w' ⟨C, D, M, he, hc, hb, ht⟩ => ⟨C, D, M, he, hc, hb, ht, hg⟩
end
end Go.Proofs.YtpomaabkgbaikaaDoor
