/- The request with which bytes begin, by the document's reader. -/
import Derived.Test.YtglicojojpggmaaDoorRBulk
import Derived.Test.YtglicojojpggmaaDoorPsw
namespace Go.Proofs.YtglicojojpggmaaDoor
open Go Go.RowKit
theorem rdS_one (w : World) (u : ByteArray) : RdV (w.alloc (.cells #[.string u] 9)) (some ⟨w.heap.size, 0, none⟩) [.string u] := fun _ => by
  have := heap_alloc_new w (.cells #[.string u] 9)
  refine ⟨w.heap.size, 0, rfl, lt_of_block this, fun j hj => ?_⟩
  have hj0 : j = 0 := by simp at hj; omega
  subst hj0
  simp only [World.cell?, this]
  rfl
section
variable {W w w' : World} {G : Nat} {b : ByteArray} {a most : Nat} {e tx it : Int}
theorem RI.below (h : RI W G b a e tx it) (hb : Below W.heap.size W w') : RI w' G b a e tx it := ⟨(hb.block _ (lt_of_block h.z)).trans h.z, h.pos, h.max⟩
set_option maxRecDepth 100000 in
set_option maxHeartbeats 8000000 in
/-- A nought ahead, where none may be. -/
theorem rdigits_zero (w : World) (most : Int) (h : RI w G b a 0 tx it) (h48 : (bl b)[a]? = some 48) :
    Calls Tryd.prog 43 #[.pointer (some ⟨G, 0, none⟩), .int .u64 0, .int .i64 0, .int .u64 1, .int .u64 most] w fun en w' => en = .returned (.int .u64 0) ∧ RI w' G b (a + 1) 131 tx it ∧ Only G w w' := by
  obtain ⟨z0, z1, z2, z3, z4, zf⟩ := h.rows
  obtain ⟨ha, hx⟩ := List.getElem?_eq_some_iff.1 h48
  have HN := Lib.hid (next_yes w h ha)
  rw [hx] at HN
  have hc : ((UInt8.toNat 48 : Nat) : Int) = 48 := rfl
  rw [hc] at HN
  have hw0 : IntKind.u64.wrap 48 = 48 := rfl
  clear h h48 hx ha hc
  go_enter Tryd.func43, Tryd.ntmps43
  go_wp2_with fail
  refine wp_loop_rounds 1 ?_
  rw [rounds_succ]
  go_wp2_with fail
  refine HN.out.mono ?_
  rintro en w1 ⟨rfl, hr, ho⟩
  obtain ⟨y0, y1, y2, y3, y4, yf⟩ := hr.rows
  have HF := Lib.hid (fail_yes w1 131 hr rfl)
  have HR2 := Lib.hid (hr.wr 131)
  have HO2 := Lib.hid (only_trans ho (only_set G 2 w1 (.int .i64 131)))
  clear hr ho HN
  go_wp2_with fail
  refine HF.out.mono ?_
  rintro en w2 ⟨rfl, rfl⟩
  clear HF y0 y1 y2 y3 y4 yf
  generalize w1.setCell ⟨G, 2, none⟩ (.int .i64 131) = w3 at *
  go_wp2_with fail
  change bodyPost Tryd.prog Tryd.f43 _ Exit.ret _ _
  go_ret
  exact ⟨rfl, HR2.out, HO2.out⟩
/-- How the document's number of texts is taken: a nought ahead is none. -/
def cntE (l : List UInt8) : Int := if l[1]? = some 48 then 131 else lenE 65536 l 1
theorem rcount_any (w : World) (h : RI w G b 1 0 tx it) :
    Calls Tryd.prog 43 #[.pointer (some ⟨G, 0, none⟩), .int .u64 0, .int .i64 0, .int .u64 1, .int .u64 65536] w fun en w' => (∃ k a' : Nat, en = .returned (.int .u64 k) ∧ k ≤ 65536 ∧ RI w' G b a' (cntE (bl b)) tx it ∧ (cntE (bl b) = 0 → k = (digR 65536 (bl b) 1).2.1 ∧ a' = (digR 65536 (bl b) 1).2.2 + 2)) ∧ Only G w w' := by
  by_cases h48 : (bl b)[1]? = some 48
  · have he : cntE (bl b) = 131 := if_pos h48
    refine (rdigits_zero w 65536 h h48).mono ?_
    rintro en w' ⟨rfl, hr, ho⟩
    exact ⟨⟨0, _, rfl, by omega, by rw [he]; exact hr, fun h0 => absurd (he.symm.trans h0) (by decide)⟩, ho⟩
  · have he : cntE (bl b) = lenE 65536 (bl b) 1 := if_neg h48
    have h1 := rdigits_any w 0 1 1 1 65536 h (by decide) (Nat.zero_le _) (Nat.le_refl _) (.inr rfl) (fun _ => .inr h48)
    rw [Nat.sub_self] at h1
    refine Calls.mono (show Calls Tryd.prog 43 #[.pointer (some ⟨G, 0, none⟩), .int .u64 0, .int .i64 0, .int .u64 1, .int .u64 65536] w _ from h1) ?_
    rintro en w' ⟨⟨k, a', rfl, hk, hr, hka⟩, ho⟩
    exact ⟨⟨k, a', rfl, hk, by rw [he]; exact hr, fun h0 => hka (he.symm.trans h0)⟩, ho⟩
theorem parseR_cnt (l : List UInt8) : parseR l = if expE l 0 42 ≠ 0 then (expE l 0 42, [], 0) else if cntE l ≠ 0 then (cntE l, [], 0) else itemsF (digR 65536 l 1).2.1 l ((digR 65536 l 1).2.2 + 2) 1048576 [] := by
  unfold parseR cntE
  by_cases h : expE l 0 42 ≠ 0
  · rw [if_pos h, if_pos h]
  · rw [if_neg h, if_neg h]
    cases hl : l[1]? with
    | none =>
      have hd : (digR 65536 l 1).1 = 130 := by
        unfold digR
        rw [show l.length + 1 - 1 = l.length by omega]
        cases l with
        | nil => rfl
        | cons x l =>
          show (digF (l.length + 1) 65536 1 (x :: l) 1 0).1 = 130
          unfold digF
          rw [hl]
      have hle : lenE 65536 l 1 = 130 := by unfold lenE; rw [hd]; rfl
      simp [hle]
    | some x =>
      simp only
      by_cases hx : x = 48
      · subst hx
        simp
      · simp [hx]
abbrev RBox (b : ByteArray) (it : Int) : Obj := .cells #[.string b, .int .i64 0, .int .i64 0, .int .i64 1048576, .int .i64 it] 89
theorem itemsF_step {m : Nat} {l : List UInt8} {a tx : Nat} {ls : List ByteArray} : itemsF (m + 1) l a tx ls =
    if bulkE l a tx ≠ 0 then (bulkE l a tx, [], 0) else itemsF m l ((digR tx l (a + 1)).2.2 + 2 + (digR tx l (a + 1)).2.1 + 2) (tx - (digR tx l (a + 1)).2.1) (ls ++ [cutT l ((digR tx l (a + 1)).2.2 + 2) (digR tx l (a + 1)).2.1]) := by
  unfold bulkE
  conv => lhs; unfold itemsF
  by_cases h1 : expE l a 36 = 0
  · by_cases h2 : lenE tx l (a + 1) = 0
    · simp [h1, h2]
    · simp [h1, h2]
  · simp [h1]
theorem bulkE_d {l : List UInt8} {a tx : Nat} (h : bulkE l a tx = 0) : (digR tx l (a + 1)).2.1 ≤ tx := by
  unfold bulkE at h
  by_cases h1 : expE l a 36 = 0
  · rw [if_neg (by simpa using h1)] at h
    by_cases h2 : lenE tx l (a + 1) = 0
    · exact digR_le (lenE_zero h2)
    · rw [if_pos h2] at h
      exact absurd h h2
  · rw [if_pos h1] at h
    exact absurd h h1
theorem below_own_drewN {v : Value} {n base : Nat} {xs : List Value} {t : TypeId} (h : W.ownsRow base t 1 v n xs) (q : Nat) : (W.drewN q).ownsRow base t 1 v n xs := h
/-- What stands in a round of the document's reader. -/
structure RP (w W : World) (G : Nat) (b : ByteArray) (v : Value) (ls : List ByteArray) (a : Nat) (e tx : Int) : Prop where
  ri : RI W G b a e tx 0
  own : W.ownsRow (G + 1) 9 1 v ls.length (cellsS ls)
  bel : Below w.heap.size w W
  g : w.heap.size ≤ G
theorem RP.only {v : Value} {ls : List ByteArray} {a a' : Nat} {e e' tx tx' : Int} {W' : World} (h : RP w W G b v ls a e tx) (ho : Only G W W') (hi : RI W' G b a' e' tx' 0) : RP w W' G b v ls a' e' tx' :=
  ⟨hi, h.own.kept ho (.inr (fun e => by have := (h.own.lt _ e).1; omega)), h.bel.trans (only_below ho h.g (by have := lt_of_block h.ri.z; have := h.g; omega)), h.g⟩
theorem RP.app {v v' : Value} {ls : List ByteArray} {a k : Nat} {e tx : Int} {W' : World} (h : RP w W G b v ls a e tx) (u : ByteArray) (hk : ls.length = k) (hown : W'.ownsRow (G + 1) 9 1 v' (k + 1) (cellsS ls ++ [.string u])) (hgr : (W.alloc (.cells #[.string u] 9)).grownBy W' v.ownBlock) : RP w W' G b v' (ls ++ [u]) a e tx := by
  have hb := below_new W (.cells #[.string u] 9)
  have hz := lt_of_block h.ri.z
  have hlt : ∀ j, v.ownBlock = some j → G + 1 ≤ j := fun j e => (h.own.lt j e).1
  have st : ∀ k, k < G + 1 → W'.heap[k]? = W.heap[k]? := fun k hk => (hgr.block k (by simp; omega) (fun e => by have := hlt k e.symm; omega)).trans (hb.block _ (by omega))
  refine ⟨⟨(st _ (by omega)).trans h.ri.z, h.ri.pos, h.ri.max⟩, ?_, (h.bel.trans (hb.mono (by have := h.g; omega))).trans ((Below.refl _ _).grown hgr (by have := h.g; simp; omega) (fun j e => by have := hlt j e; have := h.g; omega)), h.g⟩
  rw [cellsS_app, List.length_append, hk]
  exact hown
theorem rcnt_all {v : Value} {a1 : Nat} {E : Int} (w1 : World) (h : RP w w1 G b v [] a1 E 1048576) (hE : E = expE (bl b) 0 42) (ha : E = 0 → a1 = 1) :
    Calls Tryd.prog 43 #[.pointer (some ⟨G, 0, none⟩), .int .u64 0, .int .i64 0, .int .u64 1, .int .u64 65536] w1 fun en w2 => ∃ (k a' : Nat) (e : Int), en = .returned (.int .u64 k) ∧ k ≤ 65536 ∧ RP w w2 G b v [] a' e 1048576 ∧ (e = 0 → itemsF k (bl b) a' 1048576 [] = parseR (bl b)) ∧ (e ≠ 0 → parseR (bl b) = (e, [], 0)) := by
  by_cases hz : E = 0
  · obtain rfl := ha hz
    subst hz
    refine (rcount_any w1 h.ri).mono ?_
    rintro en w2 ⟨⟨k, a', rfl, hk, hr, hka⟩, ho⟩
    refine ⟨k, a', _, rfl, hk, h.only ho hr, fun h0 => ?_, fun h0 => ?_⟩
    · obtain ⟨rfl, rfl⟩ := hka h0
      rw [parseR_cnt, if_neg (by rw [← hE]; simp), if_neg (by rw [h0]; simp)]
    · rw [parseR_cnt, if_neg (by rw [← hE]; simp), if_pos h0]
  · refine (rdigits_stop w1 0 0 1 65536 h.ri hz).mono ?_
    rintro en w2 ⟨rfl, rfl⟩
    refine ⟨0, a1, E, rfl, by omega, h, fun h0 => absurd h0 hz, fun _ => ?_⟩
    rw [parseR_cnt, if_pos (by rw [← hE]; exact hz), hE]
set_option maxRecDepth 100000 in
set_option maxHeartbeats 8000000 in
theorem rparse_any (b : ByteArray) (w : World) (hm : b.size ≤ 1000000000) :
    Calls Tryd.prog 19 #[.string b] w (ParseEnd w (parseR (bl b))) := by
  obtain ⟨i0, hi, hz0, hz1, hz2⟩ := info_parts str_info
  obtain ⟨R, hR⟩ : ∃ R, parseR (bl b) = R := ⟨_, rfl⟩
  rw [hR]
  have HRR := Lib.hid hR
  clear hR
  have HI : Hid (RI (w.alloc (RBox b 0)) w.heap.size b 0 0 1048576 0) := Lib.hid ⟨heap_alloc_new w _, Nat.zero_le _, by omega⟩
  have HP0 : Hid (RP w (w.alloc (RBox b 0)) w.heap.size b (.slice none 0 0) [] 0 0 1048576) := Lib.hid ⟨HI.out, World.ownsRow_nil _ _ _ _, below_new w _, Nat.le_refl _⟩
  have HW := Lib.hid (want_any (w.alloc (RBox b 0)) 42 HI.out (by decide))
  have h0 : wantE (bl b) 0 0 42 = expE (bl b) 0 42 := if_neg (by simp)
  rw [h0] at HW
  clear h0
  go_enter Tryd.func19, Tryd.ntmps19
  go_wp2_with fail
  refine HW.out.mono ?_
  rintro en w1 ⟨rfl, ⟨a1, hr1, ha1⟩, ho1⟩
  have HP1 := Lib.hid (HP0.out.only ho1 hr1)
  have HA1 := Lib.hid ha1
  clear HW hr1 ha1 ho1 HP0 HI
  generalize w.heap.size = G at *
  have HC := Lib.hid (rcnt_all w1 HP1.out rfl HA1.out)
  clear HP1 HA1
  rw [HRR.out] at HC
  go_wp2_with fail
  refine HC.out.mono ?_
  rintro en w2 ⟨n, a2, e2, rfl, hn, hp2, hf2, hg2⟩
  have HP2 := Lib.hid hp2
  have HF2 := Lib.hid hf2
  have HG2 := Lib.hid hg2
  clear HC hp2 hf2 hg2
  go_wp2_with fail
  go_loopw [7, 8] (fun v i wr => ∃ (k : Nat) (ls : List ByteArray) (a : Nat) (e tx : Int), k ≤ n ∧ i = .int .u64 k ∧ Hid (RP w wr G b v ls a e tx) ∧ Hid (ls.length = k) ∧ Hid (e = 0 → ∃ txn : Nat, tx = txn ∧ txn ≤ 1048576 ∧ itemsF (n - k) (bl b) a txn ls = R) ∧ Hid (e ≠ 0 → R = (e, [], 0))) (fun _ i _ => n - (intOf i).toNat)
  case atStart => exact ⟨0, [], a2, e2, 1048576, Nat.zero_le _, rfl, HP2, rfl, Lib.hid (fun h => ⟨1048576, rfl, Nat.le_refl _, HF2.out h⟩), HG2⟩
  case round =>
    clear HP2 HF2 HG2
    obtain ⟨k, ls, a, e, tx, hk, rfl, HP, HLS, HF, HE⟩ := hrel
    obtain ⟨z0, z1, z2, z3, z4, zf⟩ := HP.out.ri.rows
    by_cases he : e = 0
    · subst he
      obtain ⟨txn, rfl, htx, hit⟩ := HF.out rfl
      have HIT := Lib.hid hit
      clear hit HE HF
      by_cases hlt : k < n
      · have HB := Lib.hid (rbulk_any wr txn HP.out.ri htx)
        have hit := HIT.out
        rw [show n - k = (n - (k + 1)) + 1 by omega, itemsF_step] at hit
        have HI2 := Lib.hid hit
        have HD := Lib.hid (bulkE_d (l := bl b) (a := a) (tx := txn))
        clear hit HIT
        generalize (digR txn (bl b) (a + 1)).2.1 = d at *
        generalize (digR txn (bl b) (a + 1)).2.2 + 2 = p at *
        go_wp2_with fail
        refine HB.out.mono ?_
        rintro en w3 ⟨⟨u, a3, t, rfl, hr3, hu⟩, ho3⟩
        have HP3 := Lib.hid (HP.out.only ho3 hr3)
        have HU := Lib.hid hu
        clear hr3 hu ho3 HB HP z0 z1 z2 z3 z4 zf
        have hb3 := HP3.out.bel.size
        have HW3 := Lib.hid (below_new w3 (.cells #[.string u] 9))
        go_wp2_with (at_builtin; refine wpList_append_src rfl (.tmp 31) (.tmp 33) 22 rfl (G + 1) 9 i0 _ 16 Tryd.underlying22 hi hz0 hz1 hz2 rfl _ k (cellsS ls) rfl (HLS.out ▸ own_below HP3.out.own HW3.out) (some ⟨w3.heap.size, 0, none⟩) 1 [.string u] rfl (rdS_one w3 u) (fun e => by cases e) (Nat.le_refl _) (by simp [Value.oneCell']) (by simp only [maxLen, List.length_singleton]; omega) (by simp only [List.length_singleton]; omega) (by have := lt_of_block HP3.out.ri.z; simp; omega) ?_; intro v4 w4 hown4 hgr4)
        refine ⟨⟨k + 1, ls ++ [u], a3, _, t, by omega, by go_num, Lib.hid (HP3.out.app u HLS.out hown4 hgr4), by show _ = _; rw [List.length_append, HLS.out]; rfl, Lib.hid (fun h => ?_), Lib.hid (fun h => ?_)⟩, by simp [intOf]; omega⟩
        · obtain ⟨rfl, rfl, rfl⟩ := HU.out h
          have hd := HD.out h
          refine ⟨txn - d, by omega, by omega, ?_⟩
          have h2 := HI2.out
          rw [if_neg (by rw [h]; simp)] at h2
          exact h2
        · have h2 := HI2.out
          rw [if_pos h] at h2
          exact h2.symm
      · obtain rfl : k = n := by omega
        have HR : Hid (R = (0, ls, a)) := Lib.hid (by have h := HIT.out; rw [Nat.sub_self] at h; exact h.symm)
        clear HIT
        go_wp2_with fail
        go_quiet (fail)
        go_wp2_with fail
        refine bodyPost_ret (v := .tuple #[u7, .int .i64 a, .int .i64 0]) (by simp [results, Tryd.results19, go_sem]) rfl ?_
        rw [HR.out]
        exact ⟨u7, rfl, own_down (below_own_drewN HP.out.own nq) (by have := HP.out.g; omega), below_any nq HP.out.bel⟩
    · have HR : Hid (R = (e, [], 0)) := Lib.hid (HE.out he)
      have h1 : (e == 0) = false := by simpa using he
      have h2 : decide (e = 0) = false := decide_eq_false he
      have h3 : (e != 0) = true := by simpa using he
      clear he HE HF
      by_cases hlt : k < n
      all_goals
        go_wp2_with fail
        go_quiet (fail)
        go_wp2_with fail
        refine bodyPost_ret (v := .tuple #[.slice none 0 0, .int .i64 0, .int .i64 e]) (by simp [results, Tryd.results19, go_sem]) rfl ?_
        rw [HR.out]
        exact ⟨_, rfl, World.ownsRow_nil _ _ _ _, below_any nq HP.out.bel⟩
end
end Go.Proofs.YtglicojojpggmaaDoor
