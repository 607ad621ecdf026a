/- Letters and digits, and texts between quotes: the program's. -/
import Derived.Test.YtejicjcdbfjajaaDoorBlk
namespace Go.Proofs.YtejicjcdbfjajaaDoor
open Go Go.RowKit
def runF (l : List UInt8) : Nat := (l.takeWhile okB).length
theorem runF_yes {c : UInt8} {r : List UInt8} (h : okB c = true) : runF (c :: r) = 1 + runF r := by
  unfold runF
  rw [List.takeWhile_cons, if_pos h, List.length_cons, Nat.add_comm]
theorem runF_no {c : UInt8} {r : List UInt8} (h : okB c = false) : runF (c :: r) = 0 := by
  unfold runF
  rw [List.takeWhile_cons, if_neg (by rw [h]; simp)]
  rfl
theorem runF_le (l : List UInt8) : runF l ≤ l.length := by
  unfold runF
  exact (List.takeWhile_prefix okB).length_le
set_option maxRecDepth 100000 in
set_option maxHeartbeats 8000000 in
theorem run_any (S : Nat) (s : ByteArray) (m a : Nat) (w : World) (h : Sou w S s m) (ha : a ≤ s.size) :
    Calls Tryd.prog 57 #[SP S, .int .i64 a] w fun e w' => e = .returned (.int .i64 ((a + runF ((bl s).drop a) : Nat) : Int)) ∧ w' = w := by
  have c0 := h.c0
  have hmx := h.max
  obtain ⟨E, hE⟩ : ∃ E, a + runF ((bl s).drop a) = E := ⟨_, rfl⟩
  rw [hE]
  have HE := Lib.hid hE
  obtain ⟨r, hr⟩ : ∃ r, s.size = a + r := ⟨s.size - a, by omega⟩
  have HR := Lib.hid hr
  have hsub : ((s.size : Int) - (a : Int)) = (r : Int) := by omega
  clear hE h hr
  go_enter Tryd.func57, Tryd.ntmps57
  go_wp2_with fail
  go_loop [13] (fun i => ∃ k : Nat, k ≤ r ∧ i = .int .i64 k ∧ Hid (a + k + runF ((bl s).drop (a + k)) = E)) (fun i => r - (intOf i).toNat)
  case atStart => exact ⟨0, Nat.zero_le _, rfl, HE⟩
  case round =>
    obtain ⟨k, hk, rfl, HK⟩ := hrel
    by_cases hlt : k < r
    · have hks : a + k < s.size := by have := HR.out; omega
      have HCK := Lib.hid (fun W => class_any s[a + k].toNat W)
      have HD := Lib.hid (drop_at s (a + k) hks)
      cases hd : okB s[a + k] with
      | false =>
        have c1 := cls_no hd
        have HY : Hid (a + k = E) := Lib.hid (by
          have h1 := HK.out
          rw [HD.out, runF_no hd] at h1
          exact h1)
        clear hd
        go_wp2_with fail
        refine (HCK.out _).mono ?_
        rintro e w' ⟨rfl, rfl⟩
        go_wp2_with fail
        go_ret
        exact ⟨ret_int (by have := HY.out; omega), rfl⟩
      | true =>
        have c1 := cls_ok hd
        have HY : Hid (a + (k + 1) + runF ((bl s).drop (a + (k + 1))) = E) := Lib.hid (by
          have h1 := HK.out
          rw [HD.out, runF_yes hd] at h1
          rw [← Nat.add_assoc a k 1]
          omega)
        clear hd
        go_wp2_with fail
        refine (HCK.out _).mono ?_
        rintro e w' ⟨rfl, rfl⟩
        go_wp2_with fail
        go_round
        case rel => exact ⟨k + 1, by omega, by go_num, HY⟩
        case measure => simp [intOf]; omega
    · obtain rfl : k = r := by omega
      have HY : Hid (s.size = E) := Lib.hid (by
        have h1 := HK.out
        rw [← HR.out, List.drop_of_length_le (by rw [bl_len]; exact Nat.le_refl _)] at h1
        exact h1)
      go_wp2_with fail
      go_ret
      exact ⟨ret_int (by have := HY.out; omega), rfl⟩
/-- A text between quotes: its bytes, and how many bytes say so. -/
def quoF (q : UInt8) : Nat → List UInt8 → Option (List UInt8 × Nat)
  | 0, _ => none
  | _ + 1, [] => none
  | f + 1, c :: r =>
    if c.toNat = 10 then none else if c = q then some ([], 1)
    else if c.toNat = 92 then
      match escR r with
      | none => none
      | some (b, k) => (quoF q f (r.drop k)).map fun x => (b :: x.1, 1 + k + x.2)
    else (quoF q f r).map fun x => (c :: x.1, 1 + x.2)
theorem quoF_fuel (q : UInt8) : ∀ (f g : Nat) (l : List UInt8), l.length < f → l.length < g → quoF q f l = quoF q g l
  | 0, _, l, h, _ => absurd h (by omega)
  | _ + 1, 0, l, _, h => absurd h (by omega)
  | f + 1, g + 1, [], _, _ => rfl
  | f + 1, g + 1, c :: r, hf, hg => by
    simp only [List.length_cons] at hf hg
    rw [quoF, quoF]
    split
    · rfl
    · split
      · rfl
      · split
        · cases he : escR r with
          | none => rfl
          | some x =>
            obtain ⟨b, k⟩ := x
            simp only
            rw [quoF_fuel q f g (r.drop k) (by rw [List.length_drop]; omega) (by rw [List.length_drop]; omega)]
        · rw [quoF_fuel q f g r (by omega) (by omega)]
def quoT (q : UInt8) (l : List UInt8) : Option (List UInt8 × Nat) := quoF q (l.length + 1) l
theorem quoT_nil (q : UInt8) : quoT q [] = none := rfl
theorem quoT_end {q c : UInt8} {r : List UInt8} (h : c.toNat = 10) : quoT q (c :: r) = none := by
  unfold quoT
  rw [quoF, if_pos h]
theorem quoT_last {q c : UInt8} {r : List UInt8} (h : c.toNat ≠ 10) (hq : c = q) : quoT q (c :: r) = some ([], 1) := by
  unfold quoT
  rw [quoF, if_neg h, if_pos hq]
theorem quoT_bad {q c : UInt8} {r : List UInt8} (h : c.toNat ≠ 10) (hq : c ≠ q) (h2 : c.toNat = 92) (he : escR r = none) : quoT q (c :: r) = none := by
  unfold quoT
  rw [quoF, if_neg h, if_neg hq, if_pos h2, he]
theorem quoT_esc {q c b : UInt8} {k : Nat} {r : List UInt8} (h : c.toNat ≠ 10) (hq : c ≠ q) (h2 : c.toNat = 92) (he : escR r = some (b, k)) : quoT q (c :: r) = (quoT q (r.drop k)).map fun x => (b :: x.1, 1 + k + x.2) := by
  unfold quoT
  rw [quoF, if_neg h, if_neg hq, if_pos h2, he]
  simp only
  rw [quoF_fuel q _ ((r.drop k).length + 1) (r.drop k) (by rw [List.length_drop]; simp; omega) (by omega)]
theorem quoT_one {q c : UInt8} {r : List UInt8} (h : c.toNat ≠ 10) (hq : c ≠ q) (h2 : c.toNat ≠ 92) : quoT q (c :: r) = (quoT q r).map fun x => (c :: x.1, 1 + x.2) := by
  unfold quoT
  rw [quoF, if_neg h, if_neg hq, if_neg h2]
  rfl
theorem quoT_len (q : UInt8) : ∀ (f : Nat) (l : List UInt8) (t : List UInt8) (n : Nat), quoF q f l = some (t, n) → 1 ≤ n ∧ n ≤ l.length ∧ t.length ≤ n
  | 0, _, _, _, h => by cases h
  | _ + 1, [], _, _, h => by cases h
  | f + 1, c :: r, t, n, h => by
    rw [quoF] at h
    split at h
    · cases h
    · split at h
      · cases h
        simp
      · split at h
        · split at h
          · cases h
          · rename_i b k hk
            obtain ⟨x, h1, h2⟩ := Option.map_eq_some_iff.1 h
            obtain ⟨t', n'⟩ := x
            have := quoT_len q f _ t' n' h1
            rw [List.length_drop] at this
            have hl := escR_le hk
            cases h2
            simp
            omega
        · obtain ⟨x, h1, h2⟩ := Option.map_eq_some_iff.1 h
          obtain ⟨t', n'⟩ := x
          have := quoT_len q f _ t' n' h1
          cases h2
          simp
          omega
/-- What is told of a text that begins at a place. -/
def quoV (a : Nat) (o : Option (List UInt8 × Nat)) : Value := match o with | none => .tuple #[.string ⟨#[]⟩, .int .i64 0] | some (t, n) => .tuple #[.string (ofL t), .int .i64 ((a + n : Nat) : Int)]
theorem quoV_none (a : Nat) : quoV a none = .tuple #[.string ⟨#[]⟩, .int .i64 0] := rfl
theorem quoV_some (a : Nat) (t : List UInt8) (n : Nat) : quoV a (some (t, n)) = .tuple #[.string (ofL t), .int .i64 ((a + n : Nat) : Int)] := rfl
theorem escV_none : escV none = .tuple #[.int .u8 0, .int .i64 0] := rfl
theorem escV_some (b : UInt8) (k : Nat) : escV (some (b, k)) = .tuple #[.int .u8 b.toNat, .int .i64 k] := rfl
/-- How far a text was taken. -/
def QuoI (q : UInt8) (l : List UInt8) (a i : Nat) (acc : List UInt8) (R : Option (List UInt8 × Nat)) : Prop := a ≤ i ∧ R = (quoT q (l.drop i)).map fun x => (acc ++ x.1, i - a + x.2)
theorem quoI_step {q : UInt8} {l acc : List UInt8} {a i k : Nat} {b : UInt8} {R : Option (List UInt8 × Nat)} (h : QuoI q l a i acc R) (he : quoT q (l.drop i) = (quoT q (l.drop (i + k))).map fun x => (b :: x.1, k + x.2)) : QuoI q l a (i + k) (acc ++ [b]) R := by
  refine ⟨by have := h.1; omega, ?_⟩
  rw [h.2, he, Option.map_map]
  congr 1
  funext x
  have := h.1
  simp
  omega
set_option maxRecDepth 100000 in
set_option maxHeartbeats 16000000 in
theorem quoted_any (S : Nat) (s : ByteArray) (m a : Nat) (w : World) (h : Sou w S s m) (ha : a < s.size) (hq : s[a].toNat ≠ 10 ∧ s[a].toNat ≠ 92) :
    Calls Tryd.prog 59 #[SP S, .int .i64 a] w fun e w' => e = .returned (quoV (a + 1) (quoT s[a] ((bl s).drop (a + 1)))) ∧ Below w.heap.size w w' := by
  have hmx := h.max
  obtain ⟨R, hR⟩ : ∃ R, quoT s[a] ((bl s).drop (a + 1)) = R := ⟨_, rfl⟩
  rw [hR]
  have HS := Lib.hid h
  have HI : Hid (QuoI s[a] (bl s) (a + 1) (a + 1) [] R) := Lib.hid ⟨Nat.le_refl _, by rw [← hR]; simp⟩
  have HQ := Lib.hid hq
  have HG : Hid (Gr w.heap.size [] (w.alloc (.cells #[.pointer none, .slice none 0 0] 56))) := Lib.hid (gr_new w)
  have HB0 := Lib.hid (below_new w (.cells #[.pointer none, .slice none 0 0] 56))
  obtain ⟨qq, hqq⟩ : ∃ qq, s[a].toNat = qq := ⟨_, rfl⟩
  have HQQ := Lib.hid hqq
  have H0 := Lib.hid h
  have HEQ : Hid (∀ k (h : k < s.size), s[k] = s[a] ↔ s[k].toNat = qq) := Lib.hid (fun k h => by rw [← hqq]; exact UInt8.toNat_inj.symm)
  have c00 := h.c0
  clear h hR hq
  have hqm : qq ≠ 10 ∧ qq ≠ 92 := by have := HQ.out; rw [HQQ.out] at this; exact this
  go_enter Tryd.func59, Tryd.ntmps59
  go_wp2_with fail
  clear c00
  generalize w.alloc (.cells #[.pointer none, .slice none 0 0] 56) = w1 at *
  go_loopw [7] (fun i wr => ∃ (k : Nat) (acc : List UInt8), k ≤ s.size ∧ i = .int .i64 k ∧ acc.length ≤ k ∧ a + 1 ≤ k ∧ Hid (QuoI s[a] (bl s) (a + 1) k acc R) ∧ Hid (Gr w.heap.size acc wr) ∧ Hid (Below w.heap.size w wr)) (fun i _ => s.size - (intOf i).toNat)
  case atStart => exact ⟨a + 1, [], by omega, by go_num, by simp, Nat.le_refl _, HI, HG, HB0⟩
  case round =>
    clear HI HG HB0
    obtain ⟨k, acc, hk, rfl, hacc, hak, HI, HG, HB⟩ := hrel
    have c0 := (HS.out.below HB.out).c0
    by_cases hlt : k < s.size
    · obtain ⟨c, hc⟩ : ∃ c, s[k].toNat = c := ⟨_, rfl⟩
      have HD := Lib.hid (drop_at s k hlt)
      have HC := Lib.hid hc
      have HE := HEQ.out k hlt
      rw [HC.out] at HE
      by_cases h10 : c = 10
      · have HY : Hid (R = none) := Lib.hid (by
          have h1 := HI.out.2
          rw [HD.out, quoT_end (by rw [HC.out]; exact h10)] at h1
          exact h1)
        subst h10
        clear HE
        go_wp2_with fail
        go_ret2
        exact ⟨by rw [HY.out]; rfl, HB.out⟩
      · have g1 : ((c : Int) == 10) = false := eq_dec h10
        have g2 : ((c : Int) != 10) = true := by simp; omega
        have h10' := Lib.hid (show s[k].toNat ≠ 10 by rw [HC.out]; exact h10)
        by_cases hcq : c = qq
        · have HY : Hid (R = some (acc, k - (a + 1) + 1)) := Lib.hid (by
            have h1 := HI.out.2
            rw [HD.out, quoT_last h10'.out (HE.2 hcq)] at h1
            rw [h1]
            simp)
          have HDN := Lib.hid (done_gr w.heap.size acc wr HG.out)
          subst hcq
          clear HE h10
          go_wp2_with fail
          refine HDN.out.mono ?_
          rintro e w2 ⟨rfl, hb⟩
          go_wp2_with fail
          go_ret2
          refine ⟨?_, HB.out.trans hb⟩
          rw [HY.out, quoV_some]
          have e1 : a + 1 + (k - (a + 1) + 1) = k + 1 := by omega
          rw [e1]
          go_num
        · have g3 : ((c : Int) == (qq : Int)) = false := eq_dec hcq
          have hcq' := Lib.hid (show s[k] ≠ s[a] from fun h => hcq (HE.1 h))
          by_cases h92 : c = 92
          · have h92' := Lib.hid (show s[k].toNat = 92 by rw [HC.out]; exact h92)
            have HES := Lib.hid (escaped_any (s.extract (k + 1) s.size) wr (by rw [ByteArray.size_extract]; omega))
            rw [bl_drop] at HES
            subst h92
            clear HE h10
            cases hes : escR ((bl s).drop (k + 1)) with
            | none =>
              have HY : Hid (R = none) := Lib.hid (by
                have h1 := HI.out.2
                rw [HD.out, quoT_bad h10'.out hcq'.out h92'.out hes] at h1
                exact h1)
              rw [hes, escV_none] at HES
              clear hes
              go_wp2_with fail
              refine HES.out.mono ?_
              rintro e w' ⟨rfl, rfl⟩
              go_wp2_with fail
              go_ret2
              exact ⟨by rw [HY.out]; rfl, HB.out⟩
            | some x =>
              obtain ⟨b, n⟩ := x
              have hel := escR_le hes
              rw [List.length_drop, bl_len] at hel
              have hn1 : 1 ≤ n := hel.1
              have hkn : k + (1 + n) ≤ s.size := by omega
              have HY : Hid (QuoI s[a] (bl s) (a + 1) (k + (1 + n)) (acc ++ [b]) R) := Lib.hid (quoI_step HI.out (by
                rw [HD.out, quoT_esc h10'.out hcq'.out h92'.out hes, List.drop_drop, Nat.add_assoc]))
              have HBY := Lib.hid (byte_gr w.heap.size acc b wr HG.out (by omega))
              have gn : ((n : Int) == 0) = false := eq_dec (a := n) (b := 0) (by omega)
              rw [hes, escV_some] at HES
              clear hes hel
              go_wp2_with fail
              refine HES.out.mono ?_
              rintro e w' ⟨rfl, rfl⟩
              go_wp2_with fail
              refine HBY.out.mono ?_
              rintro e w2 ⟨rfl, hg2, hb2⟩
              have HG2 := Lib.hid hg2
              have HB2 := Lib.hid (HB.out.trans hb2)
              clear hg2 hb2
              go_wp2_with fail
              go_roundw
              case rel => exact ⟨k + (1 + n), acc ++ [b], hkn, by go_num, by simp; omega, by omega, HY, HG2, HB2⟩
              case measure => simp [intOf]; omega
          · have g4 : ((c : Int) == 92) = false := eq_dec h92
            have HY : Hid (QuoI s[a] (bl s) (a + 1) (k + 1) (acc ++ [s[k]]) R) := Lib.hid (quoI_step HI.out (by
              rw [HD.out, quoT_one h10'.out hcq'.out (by rw [HC.out]; exact h92)]))
            have HBY := Lib.hid (byte_gr w.heap.size acc s[k] wr HG.out (by omega))
            rw [HC.out] at HBY
            clear HE h10 h92
            go_wp2_with fail
            refine HBY.out.mono ?_
            rintro e w2 ⟨rfl, hg2, hb2⟩
            have HG2 := Lib.hid hg2
            have HB2 := Lib.hid (HB.out.trans hb2)
            clear hg2 hb2
            go_wp2_with fail
            go_roundw
            case rel => exact ⟨k + 1, acc ++ [s[k]], by omega, by go_num, by simp; omega, by omega, HY, HG2, HB2⟩
            case measure => simp [intOf]; omega
    · obtain rfl : k = s.size := by omega
      have HY : Hid (R = none) := Lib.hid (by
        have h1 := HI.out.2
        rw [List.drop_of_length_le (by rw [bl_len]; exact Nat.le_refl _)] at h1
        exact h1)
      go_wp2_with fail
      go_ret2
      exact ⟨by rw [HY.out]; rfl, HB.out⟩
end Go.Proofs.YtejicjcdbfjajaaDoor
