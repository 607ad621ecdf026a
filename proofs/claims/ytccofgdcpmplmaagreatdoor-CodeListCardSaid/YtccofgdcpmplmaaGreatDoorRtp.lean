/- What is read of a listing is the program that was listed. -/
import Derived.Test.YtccofgdcpmplmaaGreatDoorRea
import Derived.Lib.ParseIntBTie
import Derived.Lib.AtoiAllCases
namespace Go.Proofs.YtccofgdcpmplmaaGreatDoor
open Go Go.RowKit Go.Shelf
theorem dec_digit (u : Nat) : ∀ b ∈ Go.Lib.decDigits u, 48 ≤ b.toNat ∧ b.toNat ≤ 57 := by
  induction u using Nat.strongRecOn with
  | ind u ih =>
    intro b hb
    rw [Go.Lib.decDigits] at hb
    split at hb
    · rename_i h
      rw [List.mem_singleton.1 hb]
      have : (UInt8.ofNat (48 + u)).toNat = 48 + u := by simp; omega
      omega
    · rename_i h
      rcases List.mem_append.1 hb with hb | hb
      · exact ih (u / 10) (by omega) b hb
      · rw [List.mem_singleton.1 hb]
        have : (UInt8.ofNat (48 + u % 10)).toNat = 48 + u % 10 := by simp; omega
        omega
theorem parse_app : ∀ (l r : List UInt8) (a v : Nat), Go.Lib.parseUint10 a l = .ok v → Go.Lib.parseUint10 a (l ++ r) = Go.Lib.parseUint10 v r
  | [], r, a, v, h => by
    simp only [Go.Lib.parseUint10] at h
    injection h with h
    subst h
    rfl
  | c :: l, r, a, v, h => by
    rw [List.cons_append]
    simp only [Go.Lib.parseUint10] at h ⊢
    split at h
    · rename_i h1
      split at h
      · cases h
      · rename_i h2
        split at h
        · cases h
        · rename_i h3
          rw [if_pos h1, if_neg h2, if_neg h3]
          exact parse_app l r _ v h
    · cases h
theorem parse_dec (u : Nat) (hu : u < 18446744073709551616) : Go.Lib.parseUint10 0 (Go.Lib.decDigits u) = .ok u := by
  induction u using Nat.strongRecOn with
  | ind u ih =>
    rw [Go.Lib.decDigits]
    split
    · rename_i h
      have e : (UInt8.ofNat (48 + u)).toNat = 48 + u := by simp; omega
      simp only [Go.Lib.parseUint10, e]
      rw [if_pos (by omega), if_neg (by omega), if_neg (by omega)]
      congr 1
      omega
    · rename_i h
      rw [parse_app _ _ _ _ (ih (u / 10) (by omega) (by omega))]
      have e : (UInt8.ofNat (48 + u % 10)).toNat = 48 + u % 10 := by simp; omega
      simp only [Go.Lib.parseUint10, e]
      rw [if_pos (by omega), if_neg (by omega), if_neg (by omega)]
      congr 1
      omega
theorem dec_cons (u : Nat) : ∃ c r, Go.Lib.decDigits u = c :: r ∧ 48 ≤ c.toNat ∧ c.toNat ≤ 57 := by
  cases h : Go.Lib.decDigits u with
  | nil => rw [Go.Lib.decDigits] at h; split at h <;> simp at h
  | cons c r => exact ⟨c, r, rfl, dec_digit u c (by rw [h]; simp)⟩
theorem mag_dec (u : Nat) (hu : u < 18446744073709551616) : Go.Lib.parseMag (Go.Lib.decDigits u) = .ok u := by
  obtain ⟨c, r, h, _⟩ := dec_cons u
  unfold Go.Lib.parseMag
  rw [if_neg (by rw [h]; simp)]
  exact parse_dec u hu
theorem atoi_itoa (z : Int) (h : inI z) : Go.Lib.atoiAll (Go.Lib.itoa z) = .ok z := by
  unfold inI at h
  unfold Go.Lib.itoa
  split
  · rw [Go.Lib.atoiAll_minus, mag_dec _ (by omega)]
    simp only [Go.Lib.signed]
    rw [if_neg (by omega)]
    congr 1
    omega
  · obtain ⟨c, r, hc, h1, h2⟩ := dec_cons z.toNat
    have hm := mag_dec z.toNat (by omega)
    rw [hc] at hm ⊢
    rw [Go.Lib.atoiAll_plain c r (by omega) (by omega), hm]
    simp only [Go.Lib.signless]
    rw [if_neg (by omega)]
    congr 1
    omega
theorem atoiO_itS {z : Int} (h : inI z) : atoiO (itS z) = some z := by
  unfold atoiO
  rw [bl_itS]
  unfold itL
  rw [atoi_itoa z h]
theorem pintO_itS {z : Int} (h : inI z) : pintO (itS z) = some z := by
  unfold pintO
  rw [Lib.parseIntB_64, bl_itS]
  unfold itL
  rw [atoi_itoa z h]
theorem itL_mem (z : Int) : ∀ b ∈ itL z, b.toNat = 45 ∨ (48 ≤ b.toNat ∧ b.toNat ≤ 57) := by
  intro b hb
  unfold itL Go.Lib.itoa at hb
  split at hb
  · rcases List.mem_cons.1 hb with rfl | hb
    · exact .inl rfl
    · exact .inr (dec_digit _ _ hb)
  · exact .inr (dec_digit _ _ hb)
theorem itL_no (z : Int) (c : UInt8) (hc : c.toNat < 45) : c ∉ itL z := fun h => by
  have := itL_mem z c h
  omega
theorem itL_cons (z : Int) : ∃ c r, itL z = c :: r ∧ c.toNat ≤ 57 := by
  cases h : itL z with
  | nil =>
    unfold itL Go.Lib.itoa at h
    obtain ⟨c, r, hc, _⟩ := dec_cons z.toNat
    split at h
    · cases h
    · rw [hc] at h
      cases h
  | cons c r =>
    have := itL_mem z c (by rw [h]; simp)
    exact ⟨c, r, rfl, by omega⟩
theorem hx_dig : ∀ d, d < 16 → dig (hx d).toNat = some d := by decide
theorem hx_ne : ∀ d, d < 16 → 45 < (hx d).toNat := by decide
theorem valL_two (b : UInt8) : valL [hx (b.toNat / 16), hx (b.toNat % 16)] = some b.toNat := by
  have h1 := hx_dig (b.toNat / 16) (by have := b.toNat_lt; omega)
  have h2 := hx_dig (b.toNat % 16) (by omega)
  unfold valL
  simp only [List.foldlM_cons, List.foldlM_nil, h1, h2]
  simp
  omega
theorem unspF_hexL : ∀ l : List UInt8, unspF (hexL l) = some l
  | [] => rfl
  | b :: l => by
    have e : hexL (b :: l) = hx (b.toNat / 16) :: hx (b.toNat % 16) :: hexL l := rfl
    rw [e, unspF, valL_two, unspF_hexL l]
    simp
theorem unspP_speL (s : ByteArray) : unspP (ofL (speL s)) = some s := by
  by_cases h0 : s.size = 0
  · have e : speL s = [45] := by unfold speL; rw [if_pos h0]
    rw [e]
    have e2 : s = ⟨#[]⟩ := bl_inj (by
      have : s.data.toList.length = 0 := h0
      exact List.eq_nil_of_length_eq_zero this)
    rw [e2]
    rfl
  · have e : speL s = hexL s.data.toList := by unfold speL; rw [if_neg h0]
    have hn : hexL s.data.toList ≠ [45] := fun e' => by
      have h1 := congrArg List.length e'
      rw [hexL_len] at h1
      simp at h1
      omega
    unfold unspP
    rw [e, bl_ofL', if_neg hn, unspF_hexL]
    exact congrArg some (bl_inj (bl_ofL' _))
theorem speL_mem (s : ByteArray) : ∀ b ∈ speL s, 45 ≤ b.toNat := by
  intro b hb
  unfold speL at hb
  split at hb
  · rw [List.mem_singleton.1 hb]
    decide
  · unfold hexL at hb
    obtain ⟨x, _, hx'⟩ := List.mem_flatMap.1 hb
    have h1 := hx_ne (x.toNat / 16) (by have := x.toNat_lt; omega)
    have h2 := hx_ne (x.toNat % 16) (by omega)
    rcases List.mem_cons.1 hx' with rfl | hx'
    · omega
    · rw [List.mem_singleton.1 hx']
      omega
theorem speL_no (s : ByteArray) (c : UInt8) (hc : c.toNat < 45) : c ∉ speL s := fun h => by
  have := speL_mem s c h
  omega
theorem idx_byte {c : UInt8} : ∀ {l r : List UInt8}, c ∉ l → Lib.indexByte (l ++ c :: r) c = l.length
  | [], r, _ => by simp [Lib.indexByte]
  | b :: l, r, h => by
    have h1 : b ≠ c := fun e => h (by simp [e])
    have h2 := idx_byte (l := l) (r := r) (fun e => h (List.mem_cons_of_mem _ e))
    rw [List.cons_append, Lib.indexByte, h2]
    simp [h1]
theorem idx_no {c : UInt8} : ∀ {l : List UInt8}, c ∉ l → Lib.indexByte l c = -1
  | [], _ => rfl
  | b :: l, h => by
    have h1 : b ≠ c := fun e => h (by simp [e])
    have h2 := idx_no (l := l) (fun e => h (List.mem_cons_of_mem _ e))
    rw [Lib.indexByte, h2]
    simp [h1]
theorem words_one {l : List UInt8} (h : (32 : UInt8) ∉ l) : wordsB (ofL l) = [ofL l] := by
  unfold wordsB
  refine Lib.splitB_miss _ _ _ _ ?_
  show Lib.index (ofL l).data.toList [32] = -1
  rw [bl_ofL', Lib.index_one, idx_no h]
theorem words_cons {l r : List UInt8} (h : (32 : UInt8) ∉ l) : wordsB (ofL (l ++ 32 :: r)) = ofL l :: wordsB (ofL r) := by
  have hi : Lib.indexB (ofL (l ++ 32 :: r)) ⟨#[32]⟩ = (l.length : Int) := by
    show Lib.index (ofL (l ++ 32 :: r)).data.toList [32] = _
    rw [bl_ofL', Lib.index_one, idx_byte h]
  have e1 : (ofL (l ++ 32 :: r)).extract (l.length + (⟨#[32]⟩ : ByteArray).size) (ofL (l ++ 32 :: r)).size = ofL r := by
    apply bl_inj
    show ((ofL (l ++ 32 :: r)).extract (l.length + (⟨#[32]⟩ : ByteArray).size) (ofL (l ++ 32 :: r)).size).data.toList = (ofL r).data.toList
    rw [Lib.extract_to_end, bl_ofL', bl_ofL', show (⟨#[32]⟩ : ByteArray).size = 1 from rfl]
    simp
  have e0 : (ofL (l ++ 32 :: r)).extract 0 (l.length + 0) = ofL l := by
    apply bl_inj
    show ((ofL (l ++ 32 :: r)).extract 0 (l.length + 0)).data.toList = (ofL l).data.toList
    rw [Lib.extract_from_zero, bl_ofL', bl_ofL']
    simp
  unfold wordsB
  rw [Lib.countB_hit _ _ l.length (by decide) hi, Nat.add_comm 1, Lib.splitB_hit _ _ _ _ l.length hi, e1, e0]
/-- The lines without their ends. -/
def kF (p : Pr) : List UInt8 := [102, 117, 110, 99] ++ 32 :: (itL p.params ++ 32 :: itL p.regs)
def kI (x : Ins) : List UInt8 := itL x.op ++ 32 :: (itL x.a ++ 32 :: (itL x.b ++ 32 :: itL x.c))
def kZ (z : Int) : List UInt8 := [105, 110, 116] ++ 32 :: itL z
def kT (s : ByteArray) : List UInt8 := [116, 101, 120, 116] ++ 32 :: speL s
theorem kF_eq (p : Pr) (r : List UInt8) : lF p ++ r = kF p ++ 10 :: r := by simp [lF_eq, kF]
theorem kI_eq (x : Ins) (r : List UInt8) : lI x ++ r = kI x ++ 10 :: r := by simp [lI_eq, kI]
theorem kZ_eq (z : Int) (r : List UInt8) : lZ z ++ r = kZ z ++ 10 :: r := by simp [lZ_eq, kZ]
theorem kT_eq (s : ByteArray) (r : List UInt8) : lT s ++ r = kT s ++ 10 :: r := by simp [lT_eq, kT]
theorem n10 (z : Int) : (10 : UInt8) ∉ itL z := itL_no z 10 (by decide)
theorem n32 (z : Int) : (32 : UInt8) ∉ itL z := itL_no z 32 (by decide)
theorem kF_no (p : Pr) : (10 : UInt8) ∉ kF p := by simp [kF, n10]
theorem kI_no (x : Ins) : (10 : UInt8) ∉ kI x := by simp [kI, n10]
theorem kZ_no (z : Int) : (10 : UInt8) ∉ kZ z := by simp [kZ, n10]
theorem kT_no (s : ByteArray) : (10 : UInt8) ∉ kT s := by simp [kT, speL_no s 10 (by decide)]
theorem line_words (c : Co) {line w0 : ByteArray} {wr : List ByteArray} (hw : wordsB line = w0 :: wr) : lineP c line = if (w0.toList == [102, 117, 110, 99]) = true then funcP c (wr.mapM atoiO)
    else if (w0.toList == [105, 110, 116]) = true then (pintO ((w0 :: wr).getLast (by simp))).map fun z => (c.1, c.2.1 ++ [z], c.2.2)
    else if (w0.toList == [116, 101, 120, 116]) = true then (unspP ((w0 :: wr).getLast (by simp))).map fun t => (c.1, c.2.1, c.2.2 ++ [t])
    else instP c ((w0 :: wr).mapM atoiO) := by
  unfold lineP
  rw [hw]
theorem line_F (c : Co) (p : Pr) (h : inI p.params ∧ inI p.regs) : lineP c (ofL (kF p)) = some (c.1 ++ [(p.params, p.regs, [])], c.2.1, c.2.2) := by
  have hw : wordsB (ofL (kF p)) = [ofL [102, 117, 110, 99], itS p.params, itS p.regs] := by
    unfold kF
    rw [words_cons (by decide), words_cons (n32 _), words_one (n32 _)]
    rfl
  rw [line_words _ hw]
  rw [if_pos (by rw [Lib.toList_data]; rfl)]
  simp [List.mapM_cons, atoiO_itS h.1, atoiO_itS h.2, funcP]
theorem line_Z (c : Co) (z : Int) (h : inI z) : lineP c (ofL (kZ z)) = some (c.1, c.2.1 ++ [z], c.2.2) := by
  have hw : wordsB (ofL (kZ z)) = [ofL [105, 110, 116], itS z] := by
    unfold kZ
    rw [words_cons (by decide), words_one (n32 _)]
    rfl
  rw [line_words _ hw]
  rw [if_neg (by rw [Lib.toList_data]; decide), if_pos (by rw [Lib.toList_data]; rfl)]
  simp [pintO_itS h]
theorem line_T (c : Co) (s : ByteArray) : lineP c (ofL (kT s)) = some (c.1, c.2.1, c.2.2 ++ [s]) := by
  have hw : wordsB (ofL (kT s)) = [ofL [116, 101, 120, 116], ofL (speL s)] := by
    unfold kT
    rw [words_cons (by decide), words_one (speL_no s 32 (by decide))]
  rw [line_words _ hw]
  rw [if_neg (by rw [Lib.toList_data]; decide), if_neg (by rw [Lib.toList_data]; decide), if_pos (by rw [Lib.toList_data]; rfl)]
  simp [unspP_speL]
theorem line_I (ps : List (Int × Int × List Ins)) (a b : Int) (k : List Ins) (y : List Int × List ByteArray) (x : Ins) (h : x.ok) : lineP (ps ++ [(a, b, k)], y.1, y.2) (ofL (kI x)) = some (ps ++ [(a, b, k ++ [x])], y.1, y.2) := by
  have hw : wordsB (ofL (kI x)) = [itS x.op, itS x.a, itS x.b, itS x.c] := by
    unfold kI
    rw [words_cons (n32 _), words_cons (n32 _), words_cons (n32 _), words_one (n32 _)]
    rfl
  obtain ⟨c, r, hc, hc'⟩ := itL_cons x.op
  have hne : ∀ (d : UInt8) (t : List UInt8), 57 < d.toNat → ¬ ((itS x.op).toList == d :: t) = true := fun d t hd e => by
    rw [Lib.toList_data, bl_itS, hc] at e
    have e' := List.cons.inj (beq_iff_eq.1 e)
    rw [e'.1] at hc'
    omega
  rw [line_words _ hw]
  rw [if_neg (hne _ _ (by decide)), if_neg (hne _ _ (by decide)), if_neg (hne _ _ (by decide))]
  have h4 := h
  obtain ⟨h0, h1, h2, h3⟩ := h4
  simp [List.mapM_cons, atoiO_itS h0, atoiO_itS h1, atoiO_itS h2, atoiO_itS h3, instP]
def runL (c : Co) (s : List UInt8) : Option Co := ((linesL s).map ofL).foldlM lineP c
theorem runL_nil (c : Co) : runL c [] = some c := rfl
theorem runL_line {c c' : Co} {l r : List UInt8} (h : (10 : UInt8) ∉ l) (hp : lineP c (ofL l) = some c') : runL c (l ++ 10 :: r) = runL c' r := by
  unfold runL
  rw [linesL_app h, List.map_cons, List.foldlM_cons, hp]
  rfl
theorem runL_code : ∀ (k : List Ins) (ps : List (Int × Int × List Ins)) (a b : Int) (k0 : List Ins) (y : List Int × List ByteArray) (r : List UInt8), (∀ x ∈ k, x.ok) →
    runL (ps ++ [(a, b, k0)], y.1, y.2) (codeL k ++ r) = runL (ps ++ [(a, b, k0 ++ k)], y.1, y.2) r
  | [], ps, a, b, k0, y, r, _ => by simp [codeL]
  | x :: k, ps, a, b, k0, y, r, h => by
    have e : codeL (x :: k) ++ r = lI x ++ (codeL k ++ r) := by simp [codeL]
    rw [e, kI_eq, runL_line (kI_no x) (line_I ps a b k0 y x (h x (by simp))), runL_code k ps a b (k0 ++ [x]) y r (fun z hz => h z (by simp [hz]))]
    simp
theorem runL_prots : ∀ (l : List Pr) (ps : List (Int × Int × List Ins)) (y : List Int × List ByteArray) (r : List UInt8), (∀ p ∈ l, inI p.params ∧ inI p.regs ∧ ∀ x ∈ p.code, x.ok) →
    runL (ps, y.1, y.2) (protsL l ++ r) = runL (ps ++ l.map Pr.core, y.1, y.2) r
  | [], ps, y, r, _ => by simp [protsL]
  | p :: l, ps, y, r, h => by
    have hp := h p (by simp)
    have e : protsL (p :: l) ++ r = lF p ++ (codeL p.code ++ (protsL l ++ r)) := by simp [protsL, protL]
    rw [e, kF_eq, runL_line (kF_no p) (line_F (ps, y.1, y.2) p ⟨hp.1, hp.2.1⟩)]
    show runL (ps ++ [(p.params, p.regs, [])], y.1, y.2) _ = _
    rw [runL_code p.code ps p.params p.regs [] y _ hp.2.2, runL_prots l _ y r (fun q hq => h q (by simp [hq]))]
    simp [Pr.core]
theorem runL_ints : ∀ (l : List Int) (ps : List (Int × Int × List Ins)) (is : List Int) (ts : List ByteArray) (r : List UInt8), (∀ z ∈ l, inI z) →
    runL (ps, is, ts) (intsL l ++ r) = runL (ps, is ++ l, ts) r
  | [], ps, is, ts, r, _ => by simp [intsL]
  | z :: l, ps, is, ts, r, h => by
    have e : intsL (z :: l) ++ r = lZ z ++ (intsL l ++ r) := by simp [intsL]
    rw [e, kZ_eq, runL_line (kZ_no z) (line_Z (ps, is, ts) z (h z (by simp)))]
    show runL (ps, is ++ [z], ts) _ = _
    rw [runL_ints l ps (is ++ [z]) ts r (fun q hq => h q (by simp [hq]))]
    simp
theorem runL_texts : ∀ (l : List ByteArray) (ps : List (Int × Int × List Ins)) (is : List Int) (ts : List ByteArray) (r : List UInt8),
    runL (ps, is, ts) (textsL l ++ r) = runL (ps, is, ts ++ l) r
  | [], ps, is, ts, r => by simp [textsL]
  | z :: l, ps, is, ts, r => by
    have e : textsL (z :: l) ++ r = lT z ++ (textsL l ++ r) := by simp [textsL]
    rw [e, kT_eq, runL_line (kT_no z) (line_T (ps, is, ts) z)]
    show runL (ps, is, ts ++ [z]) _ = _
    rw [runL_texts l ps is (ts ++ [z]) r]
    simp
theorem readL_listL (g : Pg) (hf : g.fit) (hi : ∀ z ∈ g.is, inI z) : readL (linesL (listL g)) = some (coreG g) := by
  have h1 := runL_prots g.ps [] ([], []) (intsL g.is ++ textsL g.ts) hf.r
  have h2 := runL_ints g.is ([] ++ g.ps.map Pr.core) [] [] (textsL g.ts) hi
  have h3 := runL_texts g.ts ([] ++ g.ps.map Pr.core) ([] ++ g.is) [] []
  have e : readL (linesL (listL g)) = runL ([], [], []) (protsL g.ps ++ (intsL g.is ++ textsL g.ts)) := by
    unfold readL runL listL
    rw [List.append_assoc]
  rw [List.append_nil] at h3
  rw [e]
  refine h1.trans (h2.trans (h3.trans ?_))
  rw [runL_nil]
  simp [coreG]
theorem lim_back {c c' : Co} {line : ByteArray} (hl : lineP c line = some c') (h : limC c') : limC c := by
  unfold lineP at hl
  split at hl
  · cases hl
  · split at hl
    · unfold funcP at hl
      split at hl
      · cases hl
        refine ⟨by have := h.p; simp at this; omega, by have := h.c; simp at this; omega, h.i, h.t, h.z, h.io, fun q hq => h.r q (List.mem_append_left _ hq)⟩
      · cases hl
    · split at hl
      · rename_i w0 wr hw _ _
        cases hz : pintO ((w0 :: wr).getLast (by simp)) with
        | none => rw [hz] at hl; cases hl
        | some z =>
          rw [hz] at hl
          cases hl
          exact ⟨h.p, h.c, by have := h.i; simp at this; omega, h.t, h.z, fun y hy => h.io y (List.mem_append_left _ hy), h.r⟩
      · split at hl
        · rename_i w0 wr hw _ _ _
          cases hz : unspP ((w0 :: wr).getLast (by simp)) with
          | none => rw [hz] at hl; cases hl
          | some z =>
            rw [hz] at hl
            cases hl
            exact ⟨h.p, h.c, h.i, by have := h.t; simp at this; omega, by have := h.z; simp at this; omega, h.io, h.r⟩
        · unfold instP at hl
          split at hl
          · rcases List.eq_nil_or_concat c.1 with h0 | ⟨l, ⟨qa, qb, qk⟩, hlq⟩
            · rw [h0] at hl
              cases hl
            · have hlq' : c.1 = l ++ [(qa, qb, qk)] := by simpa using hlq
              rw [hlq'] at hl
              simp at hl
              cases hl
              have hp := h.p
              have hc := h.c
              simp at hp hc
              refine ⟨by rw [hlq']; simp; omega, by rw [hlq']; simp; omega, h.i, h.t, h.z, h.io, fun q' hq => ?_⟩
              rw [hlq'] at hq
              rcases List.mem_append.1 hq with hq | hq
              · exact h.r q' (List.mem_append_left _ hq)
              · rw [List.mem_singleton.1 hq]
                have h2 := h.r _ (List.mem_append_right _ (List.mem_singleton.2 rfl))
                exact ⟨h2.1, h2.2.1, fun u hu => h2.2.2 u (List.mem_append_left _ hu)⟩
          · cases hl
theorem fold_back : ∀ (t : List ByteArray) {c c' : Co}, t.foldlM lineP c = some c' → limC c' → limC c
  | [], c, c', h, hl => by
    simp at h
    subst h
    exact hl
  | x :: t, c, c', h, hl => by
    rw [List.foldlM_cons] at h
    cases hx : lineP c x with
    | none => rw [hx] at h; cases h
    | some c1 =>
      rw [hx] at h
      exact lim_back hx (fold_back t h hl)
theorem list_lim {g : Pg} (hf : g.fit) (hi : ∀ z ∈ g.is, inI z) (hl : limC (coreG g)) (pre t : List (List UInt8)) (h : linesL (listL g) = pre ++ t) (c : Co) (hc : readL pre = some c) : limC c := by
  have h1 := readL_listL g hf hi
  rw [h] at h1
  unfold readL at h1 hc
  rw [List.map_append, List.foldlM_append, hc] at h1
  exact fold_back _ h1 hl
/-- A program without what says where it lies. -/
def Pr.clr (p : Pr) : Pr := ⟨p.params, p.regs, none, 0, p.code⟩
def Pg.clr (g : Pg) : Pg := ⟨none, 0, g.ps.map Pr.clr, none, 0, g.is, none, 0, g.ts⟩
theorem core_clr {l m : List Pr} (h : l.map Pr.core = m.map Pr.core) : l.map Pr.clr = m.map Pr.clr := by
  have e : ∀ x : List Pr, x.map Pr.clr = (x.map Pr.core).map fun q => ⟨q.1, q.2.1, none, 0, q.2.2⟩ := fun x => by simp [Pr.core, Function.comp_def, Pr.clr]
  rw [e, e, h]
theorem coreG_clr {g h : Pg} (e : coreG g = coreG h) : g.clr = h.clr := by
  have e1 : g.ps.map Pr.core = h.ps.map Pr.core := congrArg Prod.fst e
  have e2 : g.is = h.is := congrArg (fun x => x.2.1) e
  have e3 : g.ts = h.ts := congrArg (fun x => x.2.2) e
  unfold Pg.clr
  rw [core_clr e1, e2, e3]
theorem cnt_clr (l : List Pr) : cnt (l.map Pr.clr) = cnt l := by
  unfold cnt
  rw [List.map_map]
  rfl
theorem counted_clr (g : Pg) : countedB g.clr = countedB g := by
  unfold countedB Pg.clr
  simp [cnt_clr]
theorem headed_clr (g : Pg) : headedB g.clr = headedB g := by
  have e : ∀ l : List Pr, (l.map Pr.clr).any badP = l.any badP := fun l => by
    rw [List.any_map]
    rfl
  unfold headedB Pg.clr
  simp only [e]
  cases g.ps <;> rfl
theorem st_clr (g : Pg) (p : Pr) (what n a : Int) : stB g.clr p.clr what n a = stB g p what n a := by
  have e : ((g.ps.map Pr.clr).getD n.toNat ⟨0, 0, none, 0, []⟩).params = (g.ps.getD n.toNat ⟨0, 0, none, 0, []⟩).params := by
    simp only [List.getD, List.getElem?_map]
    cases g.ps[n.toNat]? <;> rfl
  unfold stB Pg.clr
  simp only [e, List.length_map]
  rfl
theorem named_clr (g : Pg) : namedB g.clr = namedB g := by
  have hm : ∀ p : Pr, mayB g.clr p.clr = mayB g p := fun p => by
    funext x
    unfold mayB
    simp only [st_clr]
  have e : namedB g.clr = (g.ps.map Pr.clr).all fun p => p.code.all (mayB g.clr p) := rfl
  rw [e, List.all_map]
  unfold namedB
  congr 1
  funext p
  show p.code.all (mayB g.clr p.clr) = _
  rw [hm]
theorem check_clr (g : Pg) : checkB g.clr = checkB g := by
  unfold checkB
  rw [counted_clr, headed_clr, named_clr]
  rfl
theorem list_clr (g : Pg) : listL g.clr = listL g := by
  have e : ∀ l : List Pr, protsL (l.map Pr.clr) = protsL l := fun l => by
    unfold protsL
    rw [List.flatMap_map]
    rfl
  unfold listL Pg.clr
  simp only [e]
theorem same_core {g h : Pg} (e : coreG g = coreG h) : checkB g = checkB h ∧ listL g = listL h ∧ sameG g h = true := by
  have e0 := coreG_clr e
  refine ⟨by rw [← check_clr g, ← check_clr h, e0], by rw [← list_clr g, ← list_clr h, e0], ?_⟩
  have e1 : g.ps.map Pr.core = h.ps.map Pr.core := congrArg Prod.fst e
  have e2 : g.is = h.is := congrArg (fun x => x.2.1) e
  have e3 : g.ts = h.ts := congrArg (fun x => x.2.2) e
  simp [sameG, e1, e2, e3]
end Go.Proofs.YtccofgdcpmplmaaGreatDoor
