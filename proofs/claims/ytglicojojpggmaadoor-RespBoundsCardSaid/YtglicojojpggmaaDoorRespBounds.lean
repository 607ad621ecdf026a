/- Proved here: 'taborlaw04.RespBounds' returns true at the bounds of texts, replies, bytes and depth, and one past them (it has no arguments). Conditions: those of the given card (the three listed tables hold what the program's text lays; nothing else). -/
import Derived.Test.YtglicojojpggmaaDoorMaA
import Derived.Test.YtglicojojpggmaaDoorChA
import Derived.Test.YtglicojojpggmaaDoorKnow
import Derived.Test.YtglicojojpggmaaDoorWorks
import Derived.Laws.Tables
import Derived.Test.YtglicojojpggmaaDoorCopy
import Derived.Laws.OwnMore
import Derived.Deep.OwnRows
import Derived.Lib.SlBytesConst
import Derived.StillTailTactics
import Derived.Test.YtglicojojpggmaaDoorFrame
namespace Go.Proofs.YtglicojojpggmaaDoor
open Go Go.RowKit
abbrev zeroL (n : Nat) : List UInt8 := List.replicate n 0
def zeroT (n : Nat) : ByteArray := ⟨(zeroL n).toArray⟩
theorem zeroT_bl (n : Nat) : bl (zeroT n) = zeroL n := by simp [zeroT, bl]
theorem zeroT_size (n : Nat) : (zeroT n).size = n := by simp [zeroT, ByteArray.size]
abbrev emptyS (n : Nat) : List ByteArray := List.replicate n noT
theorem tot_empty (n : Nat) : totS (emptyS n) = 0 := by
  induction n with
  | zero => rfl
  | succ n ih => rw [emptyS, List.replicate_succ, totS, ih]; rfl
theorem sz_empty (n : Nat) : szS (emptyS n) = 5 * n := by
  induction n with
  | zero => rfl
  | succ n ih =>
    rw [emptyS, List.replicate_succ, szS, ih]
    show 5 + 0 + 5 * n = _
    omega
theorem reqE_empty (n : Nat) (h : 1 ≤ n ∧ n ≤ 65536) : reqE (emptyS n) = 0 := by
  unfold reqE
  rw [tot_empty, List.length_replicate, if_neg (by omega)]
theorem reqE_more (n : Nat) (h : 65536 < n) : reqE (emptyS n) = 2 := by
  unfold reqE
  rw [tot_empty, List.length_replicate, if_pos (by omega)]
theorem reqE_long (n : Nat) (h : n ≤ 1048576) : reqE [zeroT n] = 0 := by
  unfold reqE
  rw [totS, totS, zeroT_size, List.length_singleton, if_neg (by omega)]
theorem reqE_long2 (n : Nat) (h : 1048576 ≤ n) : reqE [sa, zeroT n] = 2 := by
  unfold reqE
  have hs : sa.size = 1 := rfl
  rw [totS, totS, totS, zeroT_size, hs, if_pos (by omega)]
theorem parse_many : (parseR [42, 54, 53, 53, 51, 55, 13, 10]).1 = 131 := by decide +kernel
theorem parse_great : (parseR [42, 49, 13, 10, 36, 49, 48, 52, 56, 53, 55, 55]).1 = 131 := by decide +kernel
theorem parse_two (s : ByteArray) (hs : s.size = 1048576) : (parseR ([42, 50, 13, 10] ++ (oneL s ++ [36, 49]))).1 = 131 := by
  obtain ⟨l, hl⟩ : ∃ l : List UInt8, l = [42, 50, 13, 10] ++ (oneL s ++ [36, 49]) := ⟨_, rfl⟩
  rw [← hl]
  have g4 : l.drop 4 = oneL s ++ [36, 49] := by rw [hl]; rfl
  have g1 : l.drop 1 = Lib.decDigits 2 ++ (crlf ++ (oneL s ++ [36, 49])) := by rw [hl, dec_small (by decide)]; rfl
  have g0 : expE l 0 42 = 0 := by rw [hl]; rfl
  have gx : l[1]? = some 50 := by rw [hl]; rfl
  have d2 : (Lib.decDigits 2).length = 1 := by rw [dec_small (by decide)]; rfl
  obtain ⟨k1, k2⟩ := lenE_run (most := 65536) (n := 2) (by decide) g1
  rw [d2] at k2
  obtain ⟨h1, h2, h3, h4, h5, h6⟩ := one_at g4 (show s.size ≤ 1048576 by omega)
  have h7 := drop_app g4
  obtain ⟨a, ha⟩ : ∃ a, a = 4 + (oneL s).length := ⟨_, rfl⟩
  rw [← ha] at h6 h7
  have e1 : expE l a 36 = 0 := by
    unfold expE
    rw [drop_at h7]
    rfl
  have e2 : lenE 0 l (a + 1) = 131 := by
    have h8 := drop_next h7
    have h9 := drop_at h8
    have h10 : a + 1 < l.length := by
      rcases Nat.lt_or_ge (a + 1) l.length with h | h
      · exact h
      · rw [List.getElem?_eq_none h] at h9
        cases h9
    obtain ⟨f, hf⟩ : ∃ f, l.length + 1 - (a + 1) = f + 1 := ⟨l.length - (a + 1), by omega⟩
    have hd : digR 0 l (a + 1) = (131, 0, a + 1) := by
      unfold digR
      rw [hf, digF, h9]
      simp
    unfold lenE
    rw [hd]
    rfl
  unfold parseR
  rw [if_neg (not_not_intro g0), gx]
  simp only
  rw [if_neg (by decide), if_neg (not_not_intro k1), k2]
  simp only
  rw [itemsF, if_neg (not_not_intro h1), if_neg (not_not_intro h2), h3]
  simp only
  rw [if_neg (not_not_intro h4), h5, h6, itemsF, if_neg (not_not_intro e1)]
  rw [hs, Nat.sub_self, e2]
  rfl
theorem oneL_great (s : ByteArray) (hs : s.size = 1048576) : oneL s = [36, 49, 48, 52, 56, 53, 55, 54, 13, 10] ++ (bl s ++ [13, 10]) := by
  have e : itL ((1048576 : Nat) : Int) = [49, 48, 52, 56, 53, 55, 54] := by
    rw [itL_nat]
    simp [dec_big, dec_small]
  unfold oneL layL
  rw [hs, e]
  simp [crlf]
/-- A reply so many lists deep, less one. -/
def nestR : Nat → Rp
  | 0 => .mk 5 0 noT []
  | n + 1 => .mk 5 0 noT [nestR n]
theorem fine_list (l : List Rp) (d : Int) : fineF (.mk 5 0 noT l) d = (!decide (d = 0) && fineL l (d - 1)) := by
  rw [fineF, if_neg (by decide), if_neg (by decide), if_neg (by decide), if_neg (by decide), if_pos rfl, decide_eq_true (show (0 : Int) = 0 from rfl), decide_eq_true (show noT.size = 0 from rfl)]
  rfl
theorem fine_nest : ∀ (n : Nat) (d : Int), 0 ≤ d → fineF (nestR n) d = decide ((n : Int) + 1 ≤ d)
  | 0, d, h => by
    rw [nestR, fine_list, fineL]
    by_cases h0 : d = 0
    · subst h0
      rfl
    · rw [decide_eq_false h0, decide_eq_true (by omega)]
      rfl
  | n + 1, d, h => by
    rw [nestR, fine_list, fineL, fineL]
    by_cases h0 : d = 0
    · subst h0
      rw [decide_eq_true rfl, decide_eq_false (by omega)]
      rfl
    · rw [fine_nest n (d - 1) (by omega), decide_eq_false h0]
      simp
      omega
theorem it_nest : ∀ n : Nat, itN (nestR n) = n
  | 0 => by rw [nestR, itN, itNL]; rfl
  | n + 1 => by
    rw [nestR, itN, itNL, itNL, it_nest n, List.length_singleton]
    omega
theorem tx_nest : ∀ n : Nat, txN (nestR n) = 0
  | 0 => by rw [nestR, txN, txNL]; rfl
  | n + 1 => by
    rw [nestR, txN, txNL, txNL, tx_nest n]
    rfl
theorem chk_deep : chkR (nestR 99) = 0 := chkR_yes (by rw [fine_nest _ _ (by decide)]; decide) (by rw [it_nest]; decide) (by rw [tx_nest]; decide)
theorem chk_deeper : chkR (nestR 100) = 2 := chkR_no (fun h => by
  have := h.1
  rw [fine_nest _ _ (by decide)] at this
  exact absurd this (by decide))
def manyR (n : Nat) : Rp := .mk 5 0 noT (List.replicate n noR)
theorem fineL_none : ∀ (n : Nat) (d : Int), fineL (List.replicate n noR) d = true
  | 0, d => by rw [List.replicate_zero, fineL]
  | n + 1, d => by
    rw [List.replicate_succ, fineL, fineL_none n d, fineF]
    rfl
theorem itNL_none : ∀ n : Nat, itNL (List.replicate n noR) = 0
  | 0 => by rw [List.replicate_zero, itNL]
  | n + 1 => by
    rw [List.replicate_succ, itNL, itNL_none n, itN]
    rfl
theorem txNL_none : ∀ n : Nat, txNL (List.replicate n noR) = 0
  | 0 => by rw [List.replicate_zero, txNL]
  | n + 1 => by
    rw [List.replicate_succ, txNL, txNL_none n, txN]
    rfl
theorem chk_many (n : Nat) (h : n ≤ 65536) : chkR (manyR n) = 0 := chkR_yes
  (by rw [manyR, fine_list, fineL_none]; rfl)
  (by rw [manyR, itN, itNL_none, List.length_replicate]; omega)
  (by rw [manyR, txN, txNL_none]; decide)
theorem chk_tooMany (n : Nat) (h : 65536 < n) : chkR (manyR n) = 2 := chkR_no (fun h' => by
  have := h'.2.1
  rw [manyR, itN, itNL_none, List.length_replicate] at this
  omega)
theorem chk_long (n : Nat) (h : 1048576 < n) : chkR (.mk 4 0 (zeroT n) []) = 2 := chkR_no (fun h' => by
  have := h'.2.2
  rw [txN, zeroT_size, txNL] at this
  omega)
def listsL (n : Nat) : List UInt8 := (List.replicate n [42, 49, 13, 10]).flatten
set_option maxRecDepth 100000 in
theorem dec_deep : (decR (listsL 100 ++ [42, 48])).e = 131 := by decide +kernel
set_option maxRecDepth 100000 in
theorem dec_fine : (decR (listsL 100 ++ [58, 49, 13, 10])).e = 0 := by decide +kernel
end Go.Proofs.YtglicojojpggmaaDoor
namespace Go.Proofs.YtglicojojpggmaaDoor
open Go Go.RowKit
attribute [local go_sem] Oper.semAt_some
theorem nest_form : ∀ k : Nat, (nestR k).kind = 5 ∧ (nestR k).num = 0 ∧ (nestR k).text = noT ∧ (nestR k).kids.length ≤ 1
  | 0 => ⟨rfl, rfl, rfl, by show ([] : List Rp).length ≤ 1; simp⟩
  | k + 1 => ⟨rfl, rfl, rfl, by show [nestR k].length ≤ 1; simp⟩
abbrev nst (A : Option Addr) (L c : Nat) : Array Value := #[.int .i64 5, .int .i64 0, .string { data := #[] }, .slice A L c]
theorem nst_rp (k : Nat) (A : Option Addr) (c : Nat) : rpV (nestR k) A c = nst A (nestR k).kids.length c := by
  obtain ⟨h1, h2, h3, _⟩ := nest_form k
  unfold rpV
  rw [h1, h2, h3]
structure NI (w W : World) (k : Nat) (A : Option Addr) (L c : Nat) : Prop where
  r0 : W.heap[w.heap.size]? = some (.cells #[.int .i64 0, .int .i64 0, .string { data := #[] }, .slice none 0 0] 41 (0, 0))
  r1 : W.heap[w.heap.size + 1]? = some (.cells (nst A L c) 41 (0, 0))
  len : L = (nestR k).kids.length
  kids : RpK (fun b => w.heap.size + 2 ≤ b) W (nestR k) A c
  bel : Below w.heap.size w W
  big : w.heap.size + 2 ≤ W.heap.size
theorem put4 (W : World) (n : Nat) {old : Array Value} (cs : Array Value) (h : W.heap[n]? = some (.cells old 41 (0, 0))) :
    (W.setRow n cs).heap[n]? = some (.cells cs 41 (0, 0)) ∧ (∀ k, k ≠ n → (W.setRow n cs).heap[k]? = W.heap[k]?) ∧ (W.setRow n cs).heap.size = W.heap.size ∧
    ∀ {B : Nat} {w : World}, B ≤ n → Below B w W → Below B w (W.setRow n cs) :=
  ⟨setRow_heap _ _ _ _ _ _ h, fun k hk => setRow_other _ _ _ _ hk, by simp [World.setRow], fun hB hb => hb.trans ⟨rfl, rfl, rfl, by simp [World.setRow], fun k hk => setRow_other _ _ _ _ (by omega)⟩⟩
theorem one4 (A : Option Addr) (L c : Nat) : (nst A L c).all (·.oneCell') = true := by simp [nst, Value.oneCell']
theorem NI.first (w : World) : NI w ((w.alloc (.cells #[.int .i64 0, .int .i64 0, .string { data := #[] }, .slice none 0 0] 41)).alloc (.cells (nst none 0 0) 41)) 0 none 0 0 := by
  have a0 := heap_alloc_new w (.cells #[.int .i64 0, .int .i64 0, .string { data := #[] }, .slice none 0 0] 41)
  have b0 := below_new w (.cells #[.int .i64 0, .int .i64 0, .string { data := #[] }, .slice none 0 0] 41)
  have s0 : (w.alloc (.cells #[.int .i64 0, .int .i64 0, .string { data := #[] }, .slice none 0 0] 41)).heap.size = w.heap.size + 1 := by simp
  generalize w.alloc (.cells #[.int .i64 0, .int .i64 0, .string { data := #[] }, .slice none 0 0] 41) = w1 at *
  have a1 := heap_alloc_new w1 (.cells (nst none 0 0) 41)
  have b1 := b0.trans ((below_new w1 (.cells (nst none 0 0) 41)).mono b0.size)
  have c0 := ((below_new w1 (.cells (nst none 0 0) 41)).block _ (lt_of_block a0)).trans a0
  have s1 : (w1.alloc (.cells (nst none 0 0) 41)).heap.size = w.heap.size + 2 := by simp [s0]
  rw [s0] at a1
  generalize w1.alloc (.cells (nst none 0 0) 41) = w2 at *
  refine ⟨c0, a1, rfl, ?_, b1, by omega⟩
  refine ⟨⟨by decide, by decide, by decide, by decide, by decide, by decide⟩, fun _ => rfl, by decide, ?_⟩
  show RpL _ _ [] _
  rw [RpL]
  trivial
theorem NI.cells {w W : World} {k : Nat} {A : Option Addr} {L c : Nat} (h : NI w W k A L c) : W.cell? ⟨w.heap.size + 1, 0, none⟩ = some (.int .i64 5) ∧ W.cell? ⟨w.heap.size + 1, 1, none⟩ = some (.int .i64 0) ∧ W.cell? ⟨w.heap.size + 1, 2, none⟩ = some (.string { data := #[] }) ∧ W.cell? ⟨w.heap.size + 1, 3, none⟩ = some (.slice A L c) := by
  refine ⟨?_, ?_, ?_, ?_⟩ <;> (simp only [World.cell?, h.r1]; rfl)
theorem NI.next {w W : World} {k : Nat} {A : Option Addr} {L c : Nat} (h : NI w W k A L c) :
    NI w ((W.alloc (.cells (nst A L c) 41)).setRow (w.heap.size + 1) (nst (some ⟨W.heap.size, 0, none⟩) 1 1)) (k + 1) (some ⟨W.heap.size, 0, none⟩) 1 1 ∧ (W.alloc (.cells (nst A L c) 41)).heap[w.heap.size + 1]? = some (.cells (nst A L c) 41 (0, 0)) := by
  have a1 := heap_alloc_new W (.cells (nst A L c) 41)
  have b1 := below_new W (.cells (nst A L c) 41)
  have s1 : (W.alloc (.cells (nst A L c) 41)).heap.size = W.heap.size + 1 := by simp
  generalize W.alloc (.cells (nst A L c) 41) = W1 at *
  have c1 := (b1.block _ (lt_of_block h.r1)).trans h.r1
  obtain ⟨h1, h2, h3, h4⟩ := put4 W1 (w.heap.size + 1) (nst (some ⟨W.heap.size, 0, none⟩) 1 1) c1
  have hbig := h.big
  have hkeep : ∀ b, w.heap.size + 2 ≤ b → b < W.heap.size → (W1.setRow (w.heap.size + 1) (nst (some ⟨W.heap.size, 0, none⟩) 1 1)).heap[b]? = W.heap[b]? ∧ w.heap.size + 2 ≤ b := fun b hb hl => ⟨(h2 b (by omega)).trans (b1.block b hl), hb⟩
  have r0 := (h2 w.heap.size (by omega)).trans ((b1.block _ (by omega)).trans h.r0)
  have rn := (h2 W.heap.size (by omega)).trans a1
  have hbel := h4 (B := w.heap.size) (w := w) (by omega) (h.bel.trans (b1.mono (by omega)))
  generalize W1.setRow (w.heap.size + 1) (nst (some ⟨W.heap.size, 0, none⟩) 1 1) = W2 at *
  have hkids := h.kids.imp (by omega) hkeep
  have hfit : Fits (.mk 5 0 noT [nestR k]) := ⟨by show (-9223372036854775808 : Int) ≤ 0; decide, by show (0 : Int) ≤ 9223372036854775807; decide, by show (-9223372036854775808 : Int) ≤ 5; decide, by show (5 : Int) ≤ 9223372036854775807; decide, Nat.zero_le _, by show [nestR k].length ≤ 140737488355328; simp⟩
  refine ⟨⟨r0, h1, rfl, ⟨hfit, (fun e => by cases e), (by show [nestR k].length ≤ 1; simp), ?_⟩, hbel, by omega⟩, c1⟩
  show RpL _ _ [nestR k] _
  rw [RpL]
  obtain ⟨f1, f2, f3, f4⟩ := nest_form k
  refine ⟨_, 0, rfl, by omega, by omega, RpK.mkA (A := A) (c := c) ?_ ?_ ?_ ?_ hkids, by rw [RpL]; trivial⟩
  · rw [f1]; simp only [World.cell?, rn]; rfl
  · rw [f2]; simp only [World.cell?, rn]; rfl
  · rw [f3]; simp only [World.cell?, rn]; rfl
  · rw [← h.len]; simp only [World.cell?, rn]; rfl
theorem NI.last {w W : World} {k : Nat} {A : Option Addr} {L c : Nat} (h : NI w W k A L c) :
    (W.setRow w.heap.size (nst A L c)).heap[w.heap.size]? = some (.cells (nst A L c) 41 (0, 0)) ∧
    RpK (fun b => w.heap.size ≤ b) (W.setRow w.heap.size (nst A L c)) (nestR k) A c ∧ Below w.heap.size w (W.setRow w.heap.size (nst A L c)) := by
  obtain ⟨h1, h2, h3, h4⟩ := put4 W w.heap.size (nst A L c) h.r0
  exact ⟨h1, h.kids.imp (by omega) fun b hb hl => ⟨h2 b (by omega), by omega⟩, h4 (Nat.le_refl _) h.bel⟩
theorem res33 (tmps : Array Value) (g : Nat) (v0 v1 v2 v3 : Value) (W : World) (t2 : tmps.getD 2 undef = .pointer (some ⟨g, 0, none⟩)) (hv : v0.oneCell' = true ∧ v1.oneCell' = true ∧ v2.oneCell' = true ∧ v3.oneCell' = true) (c0 : W.heap[g]? = some (.cells #[v0, v1, v2, v3] 41 (0, 0))) : (results Tryd.f33 tmps).run Tryd.prog W = .ok (.agg #[v0, v1, v2, v3]) W := by
  have q0 : W.cell? ⟨g, 0, none⟩ = some v0 := by simp only [World.cell?, c0]; rfl
  have q1 : W.cell? ⟨g, 1, none⟩ = some v1 := by simp only [World.cell?, c0]; rfl
  have q2 : W.cell? ⟨g, 2, none⟩ = some v2 := by simp only [World.cell?, c0]; rfl
  have q3 : W.cell? ⟨g, 3, none⟩ = some v3 := by simp only [World.cell?, c0]; rfl
  simp only [Array.getD_eq_getD_getElem?] at t2
  simp [results, Tryd.results33, t2, q0, q1, q2, q3, go_sem]
set_option maxRecDepth 100000 in
set_option maxHeartbeats 8000000 in
theorem nested_any (n : Nat) (h1 : 1 ≤ n) (h2 : n ≤ 1000) (w : World) :
    Calls Tryd.prog 33 #[.int .i64 n] w fun e w' => ∃ A c, e = .returned (.agg (rpV (nestR (n - 1)) A c)) ∧ RpK (fun b => w.heap.size ≤ b) w' (nestR (n - 1)) A c ∧ Below w.heap.size w w' := by
  have HF := Lib.hid (NI.first w)
  go_enter Tryd.func33, Tryd.ntmps33
  go_upto_region 3 with (fail)
  go_loopw [4] (fun i W => ∃ (j : Nat) (A : Option Addr) (L c : Nat), 1 ≤ j ∧ j ≤ n ∧ i = .int .i64 j ∧ Hid (NI w W (j - 1) A L c)) (fun i _ => n - (intOf i).toNat)
  case atStart => exact ⟨1, none, 0, 0, Nat.le_refl _, h1, rfl, HF⟩
  case round =>
    clear HF
    obtain ⟨j, A, L, c, hj1, hjn, rfl, HN⟩ := hrel
    obtain ⟨c0, c1, c2, c3⟩ := HN.out.cells
    by_cases hlt : j < n
    · obtain ⟨hx, hrow⟩ := HN.out.next
      have HX := Lib.hid hx
      have HR := Lib.hid hrow
      clear hx hrow
      go_wp2_with (refine wpList_store_row rfl 41 (.tmp 3) (.tmp 13) rfl (w.heap.size + 1) _ rfl rfl 41 _ HR.out size41 rfl (one4 _ _ _) ?_)
      go_roundw
      case rel => exact ⟨j + 1, _, _, _, by omega, by omega, by go_num, by rw [show j + 1 - 1 = (j - 1) + 1 by omega]; exact HX⟩
      case measure => simp [intOf]; omega
    · obtain rfl : j = n := by omega
      have HL := Lib.hid HN.out.last
      have HR := Lib.hid HN.out.r0
      have HLn := Lib.hid HN.out.len
      go_wp2_with (refine wpList_store_row rfl 41 (.tmp 2) (.tmp 14) rfl w.heap.size _ rfl rfl 41 _ HR.out size41 rfl (one4 _ _ _) ?_)
      obtain ⟨y1, y2, y3⟩ := HL.out
      refine bodyPost_ret (res33 _ w.heap.size _ _ _ _ _ rfl ⟨rfl, rfl, rfl, rfl⟩ y1) rfl ?_
      refine ⟨A, c, ?_, y2, y3⟩
      rw [nst_rp, ← HLn.out]
theorem feed_nil (w : World) : Calls Tryd.prog 30 #[.pointer none, .slice none 0 0] w fun e w' => e = .returned (.int .i64 1) ∧ w' = w := by
  go_enter Tryd.func30, Tryd.ntmps30
  go_wp2
  go_ret
  exact ⟨rfl, rfl⟩
theorem next_nil (w : World) : Calls Tryd.prog 32 #[.pointer none] w fun e w' => e = .returned (.tuple #[.slice none 0 0, .int .i64 1]) ∧ w' = w := by
  go_enter Tryd.func32, Tryd.ntmps32
  go_wp2
  go_ret2
  exact ⟨rfl, rfl⟩
end Go.Proofs.YtglicojojpggmaaDoor
namespace Go.Proofs.YtglicojojpggmaaDoor
open Go Go.RowKit
theorem made_one (z : Value) (n : Nat) : madeCells #[z] n = (List.replicate n z).toArray := Array.ext' (by rw [toList_madeCells_one])
theorem cellsS_empty (n : Nat) : cellsS (emptyS n) = List.replicate n (.string noT) := by rw [cellsS, emptyS, List.map_replicate]
theorem cellsB_zero (n : Nat) : cellsB (zeroL n) = List.replicate n (.int .u8 0) := by
  rw [cellsB, zeroL, List.map_replicate]
  rfl
theorem info9 : (Tryd.prog.info? 9).map (fun i => (i.zero, i.size, i.bytes)) = some (some (.string noT), 1, 16) := by kernel_rfl
theorem info41 : (Tryd.prog.info? 41).map (fun i => (i.zero, i.size, i.bytes)) = some (some (.agg zero41), 4, 56) := by kernel_rfl
theorem mk_strs (n : Nat) (h : n ≤ 2000000) (w : World) : (Instr.makeSlice 22 (.int .i64 (n : Int)) (.int .i64 (n : Int))).run Tryd.prog w = .ok (.slice (some ⟨w.heap.size, 0, none⟩) n n) (w.alloc (.cells (cellsS (emptyS n)).toArray 9)) := by
  rw [cellsS_empty, ← made_one]
  exact run_make_row' 22 9 (.string noT) 16 Tryd.underlying22 info9 rfl .i64 .i64 n (by omega) (by omega) w
theorem mk_bytes (n : Nat) (h : n ≤ 2000000) (w : World) : (Instr.makeSlice 25 (.int .i64 (n : Int)) (.int .i64 (n : Int))).run Tryd.prog w = .ok (.slice (some ⟨w.heap.size, 0, none⟩) n n) (w.alloc (.cells (cellsB (zeroL n)).toArray 5)) := by
  rw [cellsB_zero, ← made_one]
  exact run_make_row' 25 5 (.int .u8 0) 1 Tryd.underlying25 u8_info rfl .i64 .i64 n (by omega) (by omega) w
theorem mk_reps (n : Nat) (h : n ≤ 2000000) (w : World) : (Instr.makeSlice 39 (.int .i64 (n : Int)) (.int .i64 (n : Int))).run Tryd.prog w = .ok (.slice (some ⟨w.heap.size, 0, none⟩) n n) (w.alloc (.cells (madeCells zero41 (n * 4)) 41)) := by
  obtain ⟨i, hi, hzz⟩ := Option.map_eq_some_iff.1 info41
  simp only [Prod.mk.injEq] at hzz
  obtain ⟨hz, hs, hb⟩ := hzz
  have hr := run_make (P := Tryd.prog) w 39 41 i _ Tryd.underlying39 hi hz .i64 .i64 n n (by omega) (Int.le_refl _) (by rw [hb]; omega) (by omega)
  rw [Int.toNat_natCast, hs] at hr
  exact hr
theorem made_at (a b c d : Value) (n i j : Nat) (hi : i < n) (hj : j < 4) : (madeCells #[a, b, c, d] (n * 4))[i * 4 + j]? = some (#[a, b, c, d][j]!) := by
  have h1 : i * 4 + j < n * 4 := by omega
  have h2 : (i * 4 + j) % 4 = j := by omega
  simp [madeCells, h1, h2]
theorem zero_RpL {P : Nat → Prop} {W : World} {b : Nat} (hb : b < W.heap.size) (hp : P b) : ∀ (m o : Nat), (∀ i, i < m → ∀ j, j < 4 → W.cell? ⟨b, o + i * 4 + j, none⟩ = some (zero41[j]!)) → RpL P W (List.replicate m noR) (some ⟨b, o, none⟩)
  | 0, _, _ => by rw [List.replicate_zero, RpL]; trivial
  | m + 1, o, h => by
    rw [List.replicate_succ, RpL]
    have h0 := h 0 (by omega)
    refine ⟨b, o, rfl, hb, hp, ?_, zero_RpL hb hp m (o + 4) fun i hi j hj => ?_⟩
    · rw [RpA]
      exact ⟨none, 0, by simpa using h0 0 (by omega), by simpa using h0 1 (by omega), by simpa using h0 2 (by omega), by simpa using h0 3 (by omega), fits_noR, fun _ => rfl, by decide, by rw [RpL]; trivial⟩
    · have := h (i + 1) (by omega) j hj
      rw [show o + (i + 1) * 4 + j = o + 4 + i * 4 + j by omega] at this
      exact this
theorem many_rp (w : World) (n m : Nat) (h : m ≤ n) (hn : n ≤ 2000000) : RpK (fun b => w.heap.size ≤ b) (w.alloc (.cells (madeCells zero41 (n * 4)) 41)) (manyR m) (some ⟨w.heap.size, 0, none⟩) n := by
  have hx := heap_alloc_new w (.cells (madeCells zero41 (n * 4)) 41)
  have hfit : Fits (manyR m) := ⟨by show (-9223372036854775808 : Int) ≤ 0; decide, by show (0 : Int) ≤ 9223372036854775807; decide, by show (-9223372036854775808 : Int) ≤ 5; decide, by show (5 : Int) ≤ 9223372036854775807; decide, Nat.zero_le _, by show (List.replicate m noR).length ≤ 140737488355328; rw [List.length_replicate]; omega⟩
  refine ⟨hfit, (fun e => by cases e), by show (List.replicate m noR).length ≤ n; rw [List.length_replicate]; exact h, ?_⟩
  refine zero_RpL (lt_of_block hx) (Nat.le_refl _) m 0 fun i hi j hj => ?_
  unfold World.cell?
  rw [hx]
  have := made_at (.int .i64 0) (.int .i64 0) (.string ⟨#[]⟩) (.slice none 0 0) n i j (by omega) hj
  simpa using this
theorem many_v (n : Nat) (A : Option Addr) (c : Nat) : rpV (manyR n) A c = #[.int .i64 5, .int .i64 0, .string { data := #[] }, .slice A n c] := by
  show #[Value.int .i64 5, .int .i64 0, .string noT, .slice A (List.replicate n noR).length c] = _
  rw [List.length_replicate]
theorem rd_prefix {w : World} {A : Option Addr} {n m : Nat} (h : RdV w A (cellsS (emptyS n))) (hm : m ≤ n) : RdV w A (cellsS (emptyS m)) := fun h0 => by
  rw [cellsS_empty] at h h0
  rw [List.length_replicate] at h0
  obtain ⟨b, off, hA, hl, hc⟩ := h (by rw [List.length_replicate]; omega)
  refine ⟨b, off, hA, hl, fun j hj => ?_⟩
  have hj' : j < m := by rw [cellsS_empty, List.length_replicate] at hj; exact hj
  have := hc j (by rw [List.length_replicate]; omega)
  simp only [List.getElem_replicate] at this
  simp only [cellsS_empty, List.getElem_replicate]
  exact this
theorem zero_cut (n m : Nat) (h : m ≤ n) : (zeroT n).extract 0 m = zeroT m := by
  unfold zeroT
  apply ByteArray.ext
  rw [ByteArray.data_extract]
  simp only [List.extract_toArray, List.drop_zero, List.extract_eq_take_drop, Nat.sub_zero, List.take_replicate, Nat.min_eq_left h]
theorem zero_str (n : Nat) : (⟨(zeroL n).toArray⟩ : ByteArray) = zeroT n := rfl
theorem zero_add (a : ByteArray) (n : Nat) (b : ByteArray) : (a ++ zeroT n ++ b).data.toList = bl a ++ (zeroL n ++ bl b) := by
  simp [zeroT, bl]
end Go.Proofs.YtglicojojpggmaaDoor
namespace Go.Proofs.YtglicojojpggmaaDoor
open Go Go.RowKit
/-- Bytes of one's own, told with no error. -/
def BytesE (l : List UInt8) (m : Nat) (w : World) (e : Ending) (w' : World) : Prop := ∃ A c, e = .returned (.tuple #[.slice A m c, .int .i64 0]) ∧ m ≤ c ∧ (A = none → c = 0) ∧ Rd w' A l ∧ (∀ ad, A = some ad → ad.block < w'.heap.size) ∧ Below w.heap.size w w'
theorem req_ok (A : Option Addr) (n c m : Nat) (ls : List ByteArray) (w : World) (hn : ls.length = n) (ha : RdV w A (cellsS ls)) (hz : szS ls ≤ 10000000) (ht : TAB w) (hE : reqE ls = 0) (hm : (reqL n ls).length = m) :
    Calls Tryd.prog 14 #[.slice A n c] w (BytesE (reqL n ls) m w) := by
  refine (request_any A n c ls w hn ha hz ht).mono ?_
  rintro e w' ⟨v, rfl, ho, hb⟩
  rw [hE, if_pos rfl, hn] at ho
  rw [hE]
  obtain ⟨A', c', rfl, h1, h2, h3, h4⟩ := ho.form hm
  exact ⟨A', c', rfl, h1, h2, h3, fun ad e => (h4 ad e).2, hb⟩
theorem req_no (A : Option Addr) (n c : Nat) (ls : List ByteArray) (w : World) (hn : ls.length = n) (ha : RdV w A (cellsS ls)) (hz : szS ls ≤ 10000000) (ht : TAB w) (hE : reqE ls = 2) :
    Calls Tryd.prog 14 #[.slice A n c] w fun e w' => ∃ v, e = .returned (.tuple #[v, .int .i64 2]) ∧ Below w.heap.size w w' := by
  refine (request_any A n c ls w hn ha hz ht).mono ?_
  rintro e w' ⟨v, rfl, ho, hb⟩
  rw [hE]
  exact ⟨v, rfl, hb⟩
theorem parse_ok (A : Option Addr) (m c n : Nat) (ls : List ByteArray) (w : World) (hn : ls.length = n) (hm : (reqL n ls).length = m) (hc : m ≤ c) (hA : A = none → c = 0) (hr : Rd w A (reqL n ls)) (hb : ∀ ad, A = some ad → ad.block < w.heap.size) (hE : reqE ls = 0) (h9 : m ≤ 1000000000) :
    Calls Tryd.prog 18 #[.slice A m c] w fun e w' => ∃ A' c', e = .returned (.tuple #[.slice A' n c', .int .i64 (m : Nat), .int .i64 0]) ∧ Below w.heap.size w w' := by
  refine (parse_any A m c _ w hm hc hA hr hb h9).mono ?_
  have hp := parse_back hE []
  rw [List.append_nil, hn, hm] at hp
  rintro e w' ⟨v, rfl, ho, hbel⟩
  rw [hp] at ho ⊢
  obtain ⟨A', c', rfl, _⟩ := ownS_form ho
  rw [hn]
  exact ⟨A', c', rfl, hbel⟩
theorem parse_no (A : Option Addr) (m c : Nat) (l : List UInt8) (w : World) (hm : l.length = m) (hc : m ≤ c) (hA : A = none → c = 0) (hr : Rd w A l) (hb : ∀ ad, A = some ad → ad.block < w.heap.size) (hE : (parseR l).1 = 131) (h9 : m ≤ 1000000000) :
    Calls Tryd.prog 18 #[.slice A m c] w fun e w' => ∃ v k, e = .returned (.tuple #[v, .int .i64 (k : Nat), .int .i64 131]) ∧ Below w.heap.size w w' := by
  refine (parse_any A m c _ w hm hc hA hr hb h9).mono ?_
  rintro e w' ⟨v, rfl, ho, hbel⟩
  rw [hE]
  exact ⟨v, _, rfl, hbel⟩
theorem check_many (P : Nat → Prop) (n : Nat) (A : Option Addr) (c : Nat) (w : World) (hk : RpK P w (manyR n) A c) (k : Int) (h : chkR (manyR n) = k) : Calls Tryd.prog 23 #[.agg #[.int .i64 5, .int .i64 0, .string { data := #[] }, .slice A n c]] w fun e w' => e = .returned (.int .i64 k) ∧ Below w.heap.size w w' := by
  have := check_any P (manyR n) A c w hk
  rw [many_v, h] at this
  exact this
theorem enc_many (P : Nat → Prop) (n m : Nat) (A : Option Addr) (c : Nat) (w : World) (hk : RpK P w (manyR n) A c) (ht : TAB w) (h : chkR (manyR n) = 0) (hm : (encR (manyR n)).length = m) : Calls Tryd.prog 22 #[.agg #[.int .i64 5, .int .i64 0, .string { data := #[] }, .slice A n c]] w (BytesE (encR (manyR n)) m w) := by
  have := encode_any P (manyR n) A c w hk ht
  rw [many_v] at this
  refine this.mono ?_
  rintro e w' ⟨v, rfl, ho, hb⟩
  rw [h, if_pos rfl] at ho
  rw [h]
  obtain ⟨A', c', rfl, h1, h2, h3, h4⟩ := ho.form hm
  exact ⟨A', c', rfl, h1, h2, h3, fun ad e => (h4 ad e).2, hb⟩
theorem dec_many (n m : Nat) (A : Option Addr) (c : Nat) (w : World) (hm : (encR (manyR n)).length = m) (hc : m ≤ c) (hA : A = none → c = 0) (hr : Rd w A (encR (manyR n))) (hb : ∀ ad, A = some ad → ad.block < w.heap.size) (h : chkR (manyR n) = 0) (hf : fitR (manyR n)) (h9 : m ≤ 1000000000) :
    Calls Tryd.prog 25 #[.slice A m c] w fun e w' => ∃ A' c', e = .returned (.tuple #[.agg #[.int .i64 5, .int .i64 0, .string { data := #[] }, .slice A' n c'], .int .i64 (m : Nat), .int .i64 0]) ∧ Below w.heap.size w w' := by
  refine (decode_any A m c _ w hm hc hA hr hb h9).mono ?_
  obtain ⟨h1, h2, h3⟩ := decode_back h hf []
  rw [List.append_nil] at h1 h2 h3
  rintro e w' ⟨A', c', rfl, hk, hbel⟩
  rw [h1, h2, h3, hm, many_v]
  exact ⟨A', c', rfl, hbel⟩
theorem dec_at (A : Option Addr) (m c : Nat) (l : List UInt8) (w : World) (hm : l.length = m) (hc : m ≤ c) (hA : A = none → c = 0) (hr : Rd w A l) (hb : ∀ ad, A = some ad → ad.block < w.heap.size) (h9 : m ≤ 1000000000) (k : Int) (hk : (decR l).e = k) :
    Calls Tryd.prog 25 #[.slice A m c] w fun e w' => ∃ x y z p q r v, e = .returned (.tuple #[.agg #[.int .i64 x, .int .i64 y, .string z, .slice p q r], .int .i64 (v : Nat), .int .i64 k]) ∧ Below w.heap.size w w' := by
  refine (decode_any A m c _ w hm hc hA hr hb h9).mono ?_
  rintro e w' ⟨A', c', rfl, _, hbel⟩
  rw [hk]
  exact ⟨_, _, _, _, _, _, _, rfl, hbel⟩
end Go.Proofs.YtglicojojpggmaaDoor
namespace Go.Proofs.YtglicojojpggmaaDoor
open Go Go.RowKit
theorem slice_at {A : Option Addr} {n k : Nat} (h : n = k) : Value.slice A n n = .slice A k k := by rw [h]
theorem c_strs {N : Nat} (hN : N = 65537) (w : World) : (Instr.makeSlice 22 (.int .i64 65537) (.int .i64 65537)).run Tryd.prog w = .ok (.slice (some ⟨w.heap.size, 0, none⟩) 65537 65537) (w.alloc (.cells (cellsS (emptyS N)).toArray 9)) := by
  have h := mk_strs N (by omega) w
  have e : (N : Int) = 65537 := by omega
  rw [e, slice_at hN] at h
  exact h
theorem c_bytes {L : Nat} (hL : L = 1048577) (w : World) : (Instr.makeSlice 25 (.int .i64 1048577) (.int .i64 1048577)).run Tryd.prog w = .ok (.slice (some ⟨w.heap.size, 0, none⟩) 1048577 1048577) (w.alloc (.cells (cellsB (zeroL L)).toArray 5)) := by
  have h := mk_bytes L (by omega) w
  have e : (L : Int) = 1048577 := by omega
  rw [e, slice_at hL] at h
  exact h
theorem c_long {L : Nat} (hL : L = 1048577) (w : World) : (convert 25 9 (.slice (some ⟨w.heap.size, 0, none⟩) 1048577 1048577)).run Tryd.prog (w.alloc (.cells (cellsB (zeroL L)).toArray 5)) = .ok (.string (zeroT L)) (w.alloc (.cells (cellsB (zeroL L)).toArray 5)) := by
  have h := conv_n (n := L) (c := L) (A := some ⟨w.heap.size, 0, none⟩) (w := w.alloc (.cells (cellsB (zeroL L)).toArray 5)) (l := zeroL L) (by rw [List.length_replicate]) (fun e => by cases e) (Nat.le_refl _) (new_rdB w (zeroL L))
  rw [slice_at hL] at h
  exact h
theorem c_reps {N : Nat} (hN : N = 65537) (w : World) : (Instr.makeSlice 39 (.int .i64 65537) (.int .i64 65537)).run Tryd.prog w = .ok (.slice (some ⟨w.heap.size, 0, none⟩) 65537 65537) (w.alloc (.cells (madeCells zero41 (N * 4)) 41)) := by
  have h := mk_reps N (by omega) w
  have e : (N : Int) = 65537 := by omega
  rw [e, slice_at hN] at h
  exact h
theorem c_cut {L M : Nat} (hL : L = 1048577) (hM : M = 1048576) (w : World) : (Instr.slice 9 (.string (zeroT L)) none (some (.int .i64 1048576)) none).run Tryd.prog w = .ok (.string (zeroT M)) w := by
  rw [run_slice_string_h w 9 (zeroT L) Tryd.underlying9 .i64 1048576 (by decide) (by rw [zeroT_size]; omega), ← zero_cut L M (by omega)]
  rw [show (1048576 : Int).toNat = M by omega]
theorem sz_one (s : ByteArray) : szS [s] = s.size + 5 := by
  rw [szS, szS]
  omega
theorem sz_two (s t : ByteArray) : szS [s, t] = s.size + t.size + 10 := by
  rw [szS, szS, szS]
  omega
/-- The request of so many empty texts. -/
theorem c_req_a {K m : Nat} {l : List UInt8} (hK : K = 65536) (hl : reqL 65536 (emptyS K) = l) (hm : l.length = m) (A : Option Addr) (c : Nat) (w : World) (ha : RdV w A (cellsS (emptyS K))) (ht : TAB w) : Calls Tryd.prog 14 #[.slice A 65536 c] w (BytesE l m w) := by
  have h := req_ok A 65536 c m (emptyS K) w (by rw [List.length_replicate]; exact hK) ha (by rw [sz_empty]; omega) ht (reqE_empty K ⟨by omega, by omega⟩) (by rw [hl]; exact hm)
  rw [hl] at h
  exact h
theorem c_req_l {N : Nat} (hN : N = 65537) (A : Option Addr) (c : Nat) (w : World) (ha : RdV w A (cellsS (emptyS N))) (ht : TAB w) : Calls Tryd.prog 14 #[.slice A 65537 c] w fun e w' => ∃ v, e = .returned (.tuple #[v, .int .i64 2]) ∧ Below w.heap.size w w' :=
  req_no A 65537 c (emptyS N) w (by rw [List.length_replicate]; exact hN) ha (by rw [sz_empty]; omega) ht (reqE_more N (by omega))
theorem c_len_a {K m : Nat} {l : List UInt8} (hK : K = 65536) (hl : reqL 65536 (emptyS K) = l) (hm : l.length = m) : m ≤ 1000000000 := by
  have h := reqL_len 65536 (emptyS K) (Nat.le_refl _) (fun s hs => by rw [List.eq_of_mem_replicate hs]; exact Nat.zero_le _)
  rw [sz_empty, hl, hm] at h
  omega
theorem c_par_a {K m : Nat} {l : List UInt8} (hK : K = 65536) (hl : reqL 65536 (emptyS K) = l) (hm : l.length = m) (A : Option Addr) (c : Nat) (w : World) (hc : m ≤ c) (hA : A = none → c = 0) (hr : Rd w A l) (hb : ∀ ad, A = some ad → ad.block < w.heap.size) :
    Calls Tryd.prog 18 #[.slice A m c] w fun e w' => ∃ A' c', e = .returned (.tuple #[.slice A' 65536 c', .int .i64 (m : Nat), .int .i64 0]) ∧ Below w.heap.size w w' :=
  parse_ok A m c 65536 (emptyS K) w (by rw [List.length_replicate]; exact hK) (by rw [hl]; exact hm) hc hA (by rw [hl]; exact hr) hb (reqE_empty K ⟨by omega, by omega⟩) (c_len_a hK hl hm)
/-- The request of a long text. -/
theorem c_req_b {M m : Nat} {l : List UInt8} (hM : M = 1048576) (hl : reqL 1 [zeroT M] = l) (hm : l.length = m) (A : Option Addr) (c : Nat) (w : World) (ha : RdV w A (cellsS [zeroT M])) (ht : TAB w) : Calls Tryd.prog 14 #[.slice A 1 c] w (BytesE l m w) := by
  have h := req_ok A 1 c m [zeroT M] w rfl ha (by rw [sz_one, zeroT_size]; omega) ht (reqE_long M (by omega)) (by rw [hl]; exact hm)
  rw [hl] at h
  exact h
theorem c_req_i {M : Nat} (hM : M = 1048576) (A : Option Addr) (c : Nat) (w : World) (ha : RdV w A (cellsS [sa, zeroT M])) (ht : TAB w) : Calls Tryd.prog 14 #[.slice A 2 c] w fun e w' => ∃ v, e = .returned (.tuple #[v, .int .i64 2]) ∧ Below w.heap.size w w' :=
  req_no A 2 c [sa, zeroT M] w rfl ha (by rw [sz_two, zeroT_size, show sa.size = 1 from rfl]; omega) ht (reqE_long2 M (by omega))
theorem c_par_b {M m : Nat} {l : List UInt8} (hM : M = 1048576) (hl : reqL 1 [zeroT M] = l) (hm : l.length = m) (A : Option Addr) (c : Nat) (w : World) (hc : m ≤ c) (hA : A = none → c = 0) (hr : Rd w A l) (hb : ∀ ad, A = some ad → ad.block < w.heap.size) :
    Calls Tryd.prog 18 #[.slice A m c] w fun e w' => ∃ A' c', e = .returned (.tuple #[.slice A' 1 c', .int .i64 (m : Nat), .int .i64 0]) ∧ Below w.heap.size w w' := by
  have h := reqL_len 1 [zeroT M] (by decide) (fun s hs => by rw [List.mem_singleton.1 hs, zeroT_size]; omega)
  rw [sz_one, zeroT_size, hl, hm] at h
  exact parse_ok A m c 1 [zeroT M] w rfl (by rw [hl]; exact hm) hc hA (by rw [hl]; exact hr) hb (reqE_long M (by omega)) (by omega)
/-- Lists in lists. -/
theorem c_nest (n k : Nat) (z : Int) (hz : (n : Int) = z) (h : n = k + 1) (h2 : n ≤ 1000) (R : Rp) (hR : nestR k = R) (w : World) : Calls Tryd.prog 33 #[.int .i64 z] w fun e w' => ∃ A c, e = .returned (.agg (rpV R A c)) ∧ RpK (fun b => w.heap.size ≤ b) w' R A c ∧ Below w.heap.size w w' := by
  have := nested_any n (by omega) h2 w
  rw [show n - 1 = k by omega, hR, hz] at this
  exact this
theorem RpK.cap {P : Nat → Prop} {W : World} {r : Rp} {A : Option Addr} {c c' : Nat} (h : RpK P W r A c) (e : c = c') : RpK P W r A c' := e ▸ h
theorem cell4 {W : World} {g : Nat} {a b c d : Value} (h : W.heap[g]? = some (.cells #[a, b, c, d] 41 (0, 0))) : W.cell? ⟨g, 0, none⟩ = some a ∧ W.cell? ⟨g, 1, none⟩ = some b ∧ W.cell? ⟨g, 2, none⟩ = some c ∧ W.cell? ⟨g, 3, none⟩ = some d := by
  refine ⟨?_, ?_, ?_, ?_⟩ <;> (simp only [World.cell?, h]; rfl)
theorem frz4 {W : World} {g : Nat} {cs : Array Value} (h : W.heap[g]? = some (.cells cs 41 (0, 0))) (j : Nat) : W.frozen? ⟨g, j, none⟩ = false := by
  simp [World.frozen?, h]
theorem put3 {W : World} {g : Nat} {a b c d : Value} (d' : Value) (h : W.heap[g]? = some (.cells #[a, b, c, d] 41 (0, 0))) : (W.setCell ⟨g, 3, none⟩ d').heap[g]? = some (.cells #[a, b, c, d'] 41 (0, 0)) := by
  have := row_set (j := 3) (v := d') h
  simpa using this
theorem c_chk {R : Rp} {k : Int} (h : chkR R = k) (P : Nat → Prop) (A : Option Addr) (c : Nat) (w : World) (hk : RpK P w R A c) : Calls Tryd.prog 23 #[.agg (rpV R A c)] w fun e w' => e = .returned (.int .i64 k) ∧ Below w.heap.size w w' := by
  rw [← h]
  exact check_any P R A c w hk
/-- Many replies. -/
theorem c_many {N : Nat} (hN : N = 65537) (P : Nat → Prop) (A : Option Addr) (c : Nat) (w : World) (hk : RpK P w (manyR N) A c) : Calls Tryd.prog 23 #[.agg #[.int .i64 5, .int .i64 0, .string { data := #[] }, .slice A 65537 c]] w fun e w' => e = .returned (.int .i64 2) ∧ Below w.heap.size w w' := by
  have h := check_many P N A c w hk 2 (chk_tooMany N (by omega))
  rw [show Value.slice A N c = .slice A 65537 c by rw [hN]] at h
  exact h
theorem c_enc {K m : Nat} {l : List UInt8} (hK : K = 65536) (hl : encR (manyR K) = l) (hm : l.length = m) (P : Nat → Prop) (A : Option Addr) (c : Nat) (w : World) (hk : RpK P w (manyR K) A c) (ht : TAB w) :
    Calls Tryd.prog 22 #[.agg #[.int .i64 5, .int .i64 0, .string { data := #[] }, .slice A 65536 c]] w (BytesE l m w) := by
  have h := enc_many P K m A c w hk ht (chk_many K (by omega)) (by rw [hl]; exact hm)
  rw [hl, show Value.slice A K c = .slice A 65536 c by rw [hK]] at h
  exact h
theorem c_dec {K m : Nat} {l : List UInt8} (hK : K = 65536) (hl : encR (manyR K) = l) (hm : l.length = m) (hf : fitR (manyR K)) (A : Option Addr) (c : Nat) (w : World) (hc : m ≤ c) (hA : A = none → c = 0) (hr : Rd w A l) (hb : ∀ ad, A = some ad → ad.block < w.heap.size) :
    Calls Tryd.prog 25 #[.slice A m c] w fun e w' => ∃ A' c', e = .returned (.tuple #[.agg #[.int .i64 5, .int .i64 0, .string { data := #[] }, .slice A' 65536 c'], .int .i64 (m : Nat), .int .i64 0]) ∧ Below w.heap.size w w' := by
  have h9 := (chk_ok (chk_many K (by omega)) hf).2
  rw [hl, hm] at h9
  refine (dec_many K m A c w (by rw [hl]; exact hm) hc hA (by rw [hl]; exact hr) hb (chk_many K (by omega)) hf (by omega)).mono ?_
  rintro e w' ⟨A', c', rfl, hbel⟩
  exact ⟨A', c', by rw [hK], hbel⟩
theorem c_text {L : Nat} (hL : L = 1048577) (w : World) : Calls Tryd.prog 23 #[.agg #[.int .i64 4, .int .i64 0, .string (zeroT L), .slice none 0 0]] w fun e w' => e = .returned (.int .i64 2) ∧ Below w.heap.size w w' := by
  have hfit : Fits (.mk 4 0 (zeroT L) []) := ⟨by show (-9223372036854775808 : Int) ≤ 0; decide, by show (0 : Int) ≤ 9223372036854775807; decide, by show (-9223372036854775808 : Int) ≤ 4; decide, by show (4 : Int) ≤ 9223372036854775807; decide, by show (zeroT L).size ≤ _; rw [zeroT_size]; omega, Nat.zero_le _⟩
  have h := check_any (fun _ => True) (.mk 4 0 (zeroT L) []) none 0 w ⟨hfit, fun _ => rfl, Nat.le_refl _, by show RpL _ _ [] _; rw [RpL]; trivial⟩
  rw [chk_long L (by omega)] at h
  exact h
/-- Beginnings of requests that are none. -/
theorem new_rdF (w : World) (l : List UInt8) (fr : Nat × Nat) : Rd (w.alloc (.cells (cellsB l).toArray 5 fr)) (some ⟨w.heap.size, 0, none⟩) l := fun h0 => by
  have h := heap_alloc_new w (.cells (cellsB l).toArray 5 fr)
  refine ⟨_, 0, rfl, lt_of_block h, fun j hj => ?_⟩
  unfold World.cell?
  rw [h]
  simp [cellsB, cellB, hj]
theorem lit_p1 (w : World) : (convert 25 25 (.slice (some ⟨w.heap.size, 0, none⟩) 8 8)).run Tryd.prog (w.alloc (.cells #[.int .u8 42, .int .u8 54, .int .u8 53, .int .u8 53, .int .u8 51, .int .u8 55, .int .u8 13, .int .u8 10] 5)) = .ok (.slice (some ⟨w.heap.size, 0, none⟩) 8 8) (w.alloc (.cells #[.int .u8 42, .int .u8 54, .int .u8 53, .int .u8 53, .int .u8 51, .int .u8 55, .int .u8 13, .int .u8 10] 5 (8, 9))) := Go.Lib.run_convert_bytes_const w 25 5 _ 8 8 Tryd.underlying25 Tryd.underlying5
theorem lit_p2 (w : World) : (convert 25 25 (.slice (some ⟨w.heap.size, 0, none⟩) 12 12)).run Tryd.prog (w.alloc (.cells #[.int .u8 42, .int .u8 49, .int .u8 13, .int .u8 10, .int .u8 36, .int .u8 49, .int .u8 48, .int .u8 52, .int .u8 56, .int .u8 53, .int .u8 55, .int .u8 55] 5)) = .ok (.slice (some ⟨w.heap.size, 0, none⟩) 12 12) (w.alloc (.cells #[.int .u8 42, .int .u8 49, .int .u8 13, .int .u8 10, .int .u8 36, .int .u8 49, .int .u8 48, .int .u8 52, .int .u8 56, .int .u8 53, .int .u8 55, .int .u8 55] 5 (12, 13))) := Go.Lib.run_convert_bytes_const w 25 5 _ 12 12 Tryd.underlying25 Tryd.underlying5
theorem rd_p1 (w : World) : Rd (w.alloc (.cells #[.int .u8 42, .int .u8 54, .int .u8 53, .int .u8 53, .int .u8 51, .int .u8 55, .int .u8 13, .int .u8 10] 5 (8, 9))) (some ⟨w.heap.size, 0, none⟩) [42, 54, 53, 53, 51, 55, 13, 10] := new_rdF w _ _
theorem rd_p2 (w : World) : Rd (w.alloc (.cells #[.int .u8 42, .int .u8 49, .int .u8 13, .int .u8 10, .int .u8 36, .int .u8 49, .int .u8 48, .int .u8 52, .int .u8 56, .int .u8 53, .int .u8 55, .int .u8 55] 5 (12, 13))) (some ⟨w.heap.size, 0, none⟩) [42, 49, 13, 10, 36, 49, 48, 52, 56, 53, 55, 55] := new_rdF w _ _
theorem below_lit (w : World) (o : Obj) : w.heap.size < (w.alloc o).heap.size := by simp
theorem c_p1 (c : Nat) (g : Nat) (w : World) (hc : 8 ≤ c) (hr : Rd w (some ⟨g, 0, none⟩) [42, 54, 53, 53, 51, 55, 13, 10]) (hg : g < w.heap.size) : Calls Tryd.prog 18 #[.slice (some ⟨g, 0, none⟩) 8 c] w fun e w' => ∃ v k, e = .returned (.tuple #[v, .int .i64 (k : Nat), .int .i64 131]) ∧ Below w.heap.size w w' :=
  parse_no _ 8 c _ w rfl hc (fun e => by cases e) hr (fun ad e => by cases e; exact hg) parse_many (by decide)
theorem c_p2 (c : Nat) (g : Nat) (w : World) (hc : 12 ≤ c) (hr : Rd w (some ⟨g, 0, none⟩) [42, 49, 13, 10, 36, 49, 48, 52, 56, 53, 55, 55]) (hg : g < w.heap.size) : Calls Tryd.prog 18 #[.slice (some ⟨g, 0, none⟩) 12 c] w fun e w' => ∃ v k, e = .returned (.tuple #[v, .int .i64 (k : Nat), .int .i64 131]) ∧ Below w.heap.size w w' :=
  parse_no _ 12 c _ w rfl hc (fun e => by cases e) hr (fun ad e => by cases e; exact hg) parse_great (by decide)
theorem conv_cap (x : ByteArray) (s : Nat) (hs : x.size = s) : ∃ (f : World → Nat) (g : World → World), (∀ W, (convert 9 25 (.string x)).run Tryd.prog W = .ok (.slice (some ⟨W.heap.size, 0, none⟩) s (f W)) (g W)) ∧ ∀ W, Rd (g W) (some ⟨W.heap.size, 0, none⟩) x.data.toList ∧ Below W.heap.size W (g W) ∧ s ≤ f W ∧ W.heap.size < (g W).heap.size := by
  subst hs
  refine ⟨fun W => grownCap W x.size 0 5, fun W => Lib.bytesWorld W 5 x, fun W => Lib.run_convert_string_bytes W 9 25 5 x Tryd.underlying9 Tryd.underlying25 Tryd.underlying5, fun W => ⟨fun _ => ⟨_, 0, rfl, by rw [Lib.bytesWorld_size]; omega, fun j hj => ?_⟩, ?_, grownCap_ge W x.size 0 5, by rw [Lib.bytesWorld_size]; omega⟩⟩
  · have h2 : x.data.toList.length = x.size := by rw [Array.length_toList]; rfl
    rw [Nat.zero_add, Lib.bytesWorld_cell W 5 x j (by omega)]
    simp [List.getD, List.getElem?_eq_getElem hj]
  · exact ⟨rfl, rfl, rfl, by rw [Lib.bytesWorld_size]; omega, fun k hk => Lib.bytesWorld_at_old W 5 x k hk⟩
abbrev twoA : ByteArray := { data := #[42, 50, 13, 10, 36, 49, 48, 52, 56, 53, 55, 54, 13, 10] }
abbrev twoB : ByteArray := { data := #[13, 10, 36, 49] }
theorem two_list {M : Nat} (hM : M = 1048576) : (twoA ++ zeroT M ++ twoB).data.toList = [42, 50, 13, 10] ++ (oneL (zeroT M) ++ [36, 49]) := by
  rw [zero_add, oneL_great _ (by rw [zeroT_size]; exact hM), zeroT_bl]
  simp [bl]
theorem c_p3 {M s : Nat} {x : ByteArray} (hM : M = 1048576) (hx : twoA ++ zeroT M ++ twoB = x) (hs : x.size = s) (c : Nat) (g : Nat) (w : World) (hc : s ≤ c) (hr : Rd w (some ⟨g, 0, none⟩) x.data.toList) (hg : g < w.heap.size) : Calls Tryd.prog 18 #[.slice (some ⟨g, 0, none⟩) s c] w fun e w' => ∃ v k, e = .returned (.tuple #[v, .int .i64 (k : Nat), .int .i64 131]) ∧ Below w.heap.size w w' := by
  have h18 : x.size = M + 18 := by
    rw [← hx, ByteArray.size_append, ByteArray.size_append, zeroT_size]
    show 14 + M + 4 = _
    omega
  refine parse_no _ s c x.data.toList w (by rw [← hs]; rfl) hc (fun e => by cases e) hr (fun ad e => by cases e; exact hg) ?_ (by omega)
  rw [← hx, two_list hM]
  exact parse_two _ (by rw [zeroT_size]; exact hM)
/-- So many lists of one. -/
def lstB (k : Nat) : ByteArray := ⟨(listsL k).toArray⟩
theorem lst_next (k : Nat) : lstB k ++ ({ data := #[42, 49, 13, 10] } : ByteArray) = lstB (k + 1) := by
  unfold lstB listsL
  rw [List.replicate_succ']
  apply ByteArray.ext
  simp
theorem lst_size (k : Nat) : (lstB k).size = 4 * k := by
  have : (listsL k).length = 4 * k := by
    unfold listsL
    rw [List.length_flatten, List.map_replicate, List.sum_replicate_nat]
    show k * 4 = _
    omega
  rw [← this]
  exact List.size_toArray
theorem lst_list (k : Nat) (b : ByteArray) : (lstB k ++ b).data.toList = listsL k ++ b.data.toList := by simp [lstB]
theorem c_d1 {H s : Nat} {x : ByteArray} (hH : H = 100) (hx : lstB H ++ ({ data := #[42, 48] } : ByteArray) = x) (hs : x.size = s) (c : Nat) (g : Nat) (w : World) (hc : s ≤ c) (hr : Rd w (some ⟨g, 0, none⟩) x.data.toList) (hg : g < w.heap.size) :
    Calls Tryd.prog 25 #[.slice (some ⟨g, 0, none⟩) s c] w fun e w' => ∃ x y z p q r v, e = .returned (.tuple #[.agg #[.int .i64 x, .int .i64 y, .string z, .slice p q r], .int .i64 (v : Nat), .int .i64 131]) ∧ Below w.heap.size w w' := by
  have h18 : x.size = 4 * H + 2 := by
    rw [← hx, ByteArray.size_append, lst_size]
    rfl
  refine dec_at _ s c x.data.toList w (by rw [← hs]; rfl) hc (fun e => by cases e) hr (fun ad e => by cases e; exact hg) (by omega) 131 ?_
  rw [← hx, lst_list, hH]
  exact dec_deep
theorem c_d2 {H s : Nat} {x : ByteArray} (hH : H = 100) (hx : lstB H ++ ({ data := #[58, 49, 13, 10] } : ByteArray) = x) (hs : x.size = s) (c : Nat) (g : Nat) (w : World) (hc : s ≤ c) (hr : Rd w (some ⟨g, 0, none⟩) x.data.toList) (hg : g < w.heap.size) :
    Calls Tryd.prog 25 #[.slice (some ⟨g, 0, none⟩) s c] w fun e w' => ∃ x y z p q r v, e = .returned (.tuple #[.agg #[.int .i64 x, .int .i64 y, .string z, .slice p q r], .int .i64 (v : Nat), .int .i64 0]) ∧ Below w.heap.size w w' := by
  have h18 : x.size = 4 * H + 4 := by
    rw [← hx, ByteArray.size_append, lst_size]
    rfl
  refine dec_at _ s c x.data.toList w (by rw [← hs]; rfl) hc (fun e => by cases e) hr (fun ad e => by cases e; exact hg) (by omega) 0 ?_
  rw [← hx, lst_list, hH]
  exact dec_fine
end Go.Proofs.YtglicojojpggmaaDoor
namespace Go.Proofs.YtglicojojpggmaaDoor
open Go Go.RowKit
attribute [local go_sem] Oper.semAt_some
set_option maxRecDepth 100000 in
set_option maxHeartbeats 40000000 in
theorem bounds_walk (w : World) (ht : TAB w) : Calls Tryd.prog 9 #[] w fun e w' => e = .returned (.bool true) ∧ Below w.heap.size w w' := by
  obtain ⟨N, hN⟩ : ∃ N : Nat, N = 65537 := ⟨_, rfl⟩
  obtain ⟨K, hK⟩ : ∃ K : Nat, K = 65536 := ⟨_, rfl⟩
  obtain ⟨L, hL⟩ : ∃ L : Nat, L = 1048577 := ⟨_, rfl⟩
  obtain ⟨M, hM⟩ : ∃ M : Nat, M = 1048576 := ⟨_, rfl⟩
  obtain ⟨H, hH⟩ : ∃ H : Nat, H = 100 := ⟨_, rfl⟩
  obtain ⟨la, hla⟩ : ∃ l, reqL 65536 (emptyS K) = l := ⟨_, rfl⟩
  obtain ⟨ma, hma⟩ : ∃ m, la.length = m := ⟨_, rfl⟩
  obtain ⟨lb, hlb⟩ : ∃ l, reqL 1 [zeroT M] = l := ⟨_, rfl⟩
  obtain ⟨mb, hmb⟩ : ∃ m, lb.length = m := ⟨_, rfl⟩
  obtain ⟨lc, hlc⟩ : ∃ l, encR (manyR K) = l := ⟨_, rfl⟩
  obtain ⟨mc, hmc⟩ : ∃ m, lc.length = m := ⟨_, rfl⟩
  obtain ⟨R1, hR1⟩ : ∃ R, nestR 99 = R := ⟨_, rfl⟩
  obtain ⟨R2, hR2⟩ : ∃ R, nestR 100 = R := ⟨_, rfl⟩
  have GN := Lib.hid hN
  have GK := Lib.hid hK
  have GL := Lib.hid hL
  have GM := Lib.hid hM
  have GH := Lib.hid hH
  have Gla := Lib.hid hla
  have Gma := Lib.hid hma
  have Glb := Lib.hid hlb
  have Gmb := Lib.hid hmb
  have Glc := Lib.hid hlc
  have Gmc := Lib.hid hmc
  have GR1 := Lib.hid hR1
  have GR2 := Lib.hid hR2
  clear hN hK hL hM hH hla hma hlb hmb hlc hmc hR1 hR2
  have HMS := Lib.hid (c_strs GN.out w)
  have HT := Lib.hid ht
  have HR0 : Hid (RdV (w.alloc (.cells (cellsS (emptyS N)).toArray 9)) (some ⟨w.heap.size, 0, none⟩) (cellsS (emptyS N))) := Lib.hid (new_rdS w _)
  have HBw := Lib.hid (below_new w (.cells (cellsS (emptyS N)).toArray 9))
  clear ht
  go_enter Tryd.func9, Tryd.ntmps9
  have hms := HMS.out
  go_upto_region 2 with (fail)
  clear hms HMS
  generalize w.alloc (.cells (cellsS (emptyS N)).toArray 9) = w0 at *
  have HBw0 : Hid (Below w0.heap.size w0 w0) := Lib.hid (Below.refl _ _)
  have HC := Lib.hid (c_req_a GK.out Gla.out Gma.out (some ⟨w.heap.size, 0, none⟩) 65537 w0 (rd_prefix HR0.out (by have := GN.out; have := GK.out; omega)) (tab_below HT.out HBw.out))
  go_wp2_with fail
  refine HC.out.mono ?_
  rintro e w1 ⟨A1, c1, rfl, hca, hna, hra, hba, hb⟩
  clear HC
  have HS := Lib.hid (hb)
  replace HBw := Lib.hid (HBw.out.trans (HS.out.mono HBw.out.size))
  replace HBw0 := Lib.hid (HBw0.out.trans (HS.out.mono HBw0.out.size))
  clear HS
  clear hb
  have HA1 := Lib.hid hca
  have HA2 := Lib.hid hna
  have HA3 := Lib.hid hra
  have HA4 := Lib.hid hba
  clear hca hna hra hba
  have HBw1 : Hid (Below w1.heap.size w1 w1) := Lib.hid (Below.refl _ _)
  have HC := Lib.hid (c_req_l GN.out (some ⟨w.heap.size, 0, none⟩) 65537 w1 (HR0.out.below HBw0.out) (tab_below HT.out HBw.out))
  go_wp2_with fail
  refine HC.out.mono ?_
  rintro e w2 ⟨v2, rfl, hb⟩
  clear HC
  have HS := Lib.hid (hb)
  replace HBw := Lib.hid (HBw.out.trans (HS.out.mono HBw.out.size))
  replace HBw0 := Lib.hid (HBw0.out.trans (HS.out.mono HBw0.out.size))
  replace HBw1 := Lib.hid (HBw1.out.trans (HS.out.mono HBw1.out.size))
  clear HS
  clear hb
  clear HBw0
  clear HR0
  have HC := Lib.hid (c_par_a GK.out Gla.out Gma.out A1 c1 w2 HA1.out HA2.out (HA3.out.below HBw1.out) (fun ad e => Nat.lt_of_lt_of_le (HA4.out ad e) HBw1.out.size))
  go_wp2_with fail
  refine HC.out.mono ?_
  rintro e w3 ⟨A3, c3, rfl, hb⟩
  clear HC
  have HS := Lib.hid (hb)
  replace HBw := Lib.hid (HBw.out.trans (HS.out.mono HBw.out.size))
  replace HBw1 := Lib.hid (HBw1.out.trans (HS.out.mono HBw1.out.size))
  clear HS
  clear hb
  clear HBw1
  clear HA1 HA2 HA3 HA4
  have HX1 := Lib.hid (c_bytes GL.out w3)
  have HX2 := Lib.hid (c_long GL.out w3)
  have hx1 := HX1.out
  have hx2 := HX2.out
  go_upto_region 6 with (fail)
  clear hx1 hx2 HX1 HX2
  have HS := Lib.hid (below_new w3 (.cells (cellsB (zeroL L)).toArray 5))
  replace HBw := Lib.hid (HBw.out.trans (HS.out.mono HBw.out.size))
  clear HS
  generalize w3.alloc (.cells (cellsB (zeroL L)).toArray 5) = w4 at *
  have hcut := c_cut GL.out GM.out
  have HC := Lib.hid (c_req_b GM.out Glb.out Gmb.out (some ⟨w4.heap.size, 0, none⟩) 1 (w4.alloc (.cells #[.string (zeroT M)] 9)) (new_rdS w4 [zeroT M]) (tab_below HT.out (HBw.out.trans ((below_new w4 (.cells #[.string (zeroT M)] 9)).mono HBw.out.size))))
  go_wp2_with fail
  refine HC.out.mono ?_
  rintro e w6 ⟨A6, c6, rfl, hca, hna, hra, hba, hb⟩
  clear HC
  have HS := Lib.hid ((below_new w4 (.cells #[.string (zeroT M)] 9)).trans (hb.mono (below_new w4 (.cells #[.string (zeroT M)] 9)).size))
  replace HBw := Lib.hid (HBw.out.trans (HS.out.mono HBw.out.size))
  clear HS
  clear hb
  have HA1 := Lib.hid hca
  have HA2 := Lib.hid hna
  have HA3 := Lib.hid hra
  have HA4 := Lib.hid hba
  clear hca hna hra hba
  have HBw6 : Hid (Below w6.heap.size w6 w6) := Lib.hid (Below.refl _ _)
  have HC := Lib.hid (c_req_i GM.out (some ⟨w6.heap.size, 0, none⟩) 2 (w6.alloc (.cells #[.string sa, .string (zeroT M)] 9)) (new_rdS w6 [sa, zeroT M]) (tab_below HT.out (HBw.out.trans ((below_new w6 (.cells #[.string sa, .string (zeroT M)] 9)).mono HBw.out.size))))
  go_wp2_with fail
  refine HC.out.mono ?_
  rintro e w8 ⟨v8, rfl, hb⟩
  clear HC
  have HS := Lib.hid ((below_new w6 (.cells #[.string sa, .string (zeroT M)] 9)).trans (hb.mono (below_new w6 (.cells #[.string sa, .string (zeroT M)] 9)).size))
  replace HBw := Lib.hid (HBw.out.trans (HS.out.mono HBw.out.size))
  replace HBw6 := Lib.hid (HBw6.out.trans (HS.out.mono HBw6.out.size))
  clear HS
  clear hb
  clear hcut
  have HC := Lib.hid (c_par_b GM.out Glb.out Gmb.out A6 c6 w8 HA1.out HA2.out (HA3.out.below HBw6.out) (fun ad e => Nat.lt_of_lt_of_le (HA4.out ad e) HBw6.out.size))
  go_wp2_with fail
  refine HC.out.mono ?_
  rintro e w9 ⟨A9, c9, rfl, hb⟩
  clear HC
  have HS := Lib.hid (hb)
  replace HBw := Lib.hid (HBw.out.trans (HS.out.mono HBw.out.size))
  replace HBw6 := Lib.hid (HBw6.out.trans (HS.out.mono HBw6.out.size))
  clear HS
  clear hb
  clear HBw6
  clear HA1 HA2 HA3 HA4
  have HX1 := Lib.hid (c_reps GN.out w9)
  have HM1 := Lib.hid ((many_rp w9 N N (Nat.le_refl _) (by have := GN.out; have := GK.out; omega)).old)
  have HM2 := Lib.hid ((many_rp w9 N K (by have := GN.out; have := GK.out; omega) (by have := GN.out; have := GK.out; omega)).old)
  have hx1 := HX1.out
  go_upto_region 10 with (fail)
  clear hx1 HX1
  have HS := Lib.hid (below_new w9 (.cells (madeCells zero41 (N * 4)) 41))
  replace HBw := Lib.hid (HBw.out.trans (HS.out.mono HBw.out.size))
  clear HS
  have hs10 : (w9.alloc (.cells (madeCells zero41 (N * 4)) 41)).heap.size = w9.heap.size + 1 := by simp
  generalize w9.alloc (.cells (madeCells zero41 (N * 4)) 41) = w10 at *
  rw [← hs10]
  have HBX := Lib.hid (heap_alloc_new w10 (.cells #[.int .i64 5, .int .i64 0, .string { data := #[] }, .slice (some ⟨w9.heap.size, 0, none⟩) 65537 65537] 41))
  have HS10 := Lib.hid hs10
  clear hs10
  have HBw10 : Hid (Below w10.heap.size w10 w10) := Lib.hid (Below.refl _ _)
  have GE := Lib.hid HBw.out.size
  have HS := Lib.hid (below_new w10 (.cells #[.int .i64 5, .int .i64 0, .string { data := #[] }, .slice (some ⟨w9.heap.size, 0, none⟩) 65537 65537] 41))
  replace HBw := Lib.hid (HBw.out.trans (HS.out.mono HBw.out.size))
  replace HBw10 := Lib.hid (HBw10.out.trans (HS.out.mono HBw10.out.size))
  clear HS
  generalize w10.alloc (.cells #[.int .i64 5, .int .i64 0, .string { data := #[] }, .slice (some ⟨w9.heap.size, 0, none⟩) 65537 65537] 41) = w11 at *
  have HBw11 : Hid (Below w11.heap.size w11 w11) := Lib.hid (Below.refl _ _)
  have HC := Lib.hid (c_nest 100 99 100 rfl rfl (by decide) R1 GR1.out w11)
  go_wp2_with fail
  refine HC.out.mono ?_
  rintro e w12 ⟨A12, c12, rfl, hk, hb⟩
  clear HC
  have HK := Lib.hid hk
  clear hk
  have HS := Lib.hid (hb)
  replace HBw := Lib.hid (HBw.out.trans (HS.out.mono HBw.out.size))
  replace HBw10 := Lib.hid (HBw10.out.trans (HS.out.mono HBw10.out.size))
  replace HBw11 := Lib.hid (HBw11.out.trans (HS.out.mono HBw11.out.size))
  clear HS
  clear hb
  have HC := Lib.hid (c_chk (k := 0) (by rw [← GR1.out]; exact chk_deep) _ A12 c12 w12 HK.out)
  go_wp2_with fail
  refine HC.out.mono ?_
  rintro e w13 ⟨rfl, hb⟩
  clear HC
  have HS := Lib.hid (hb)
  replace HBw := Lib.hid (HBw.out.trans (HS.out.mono HBw.out.size))
  replace HBw10 := Lib.hid (HBw10.out.trans (HS.out.mono HBw10.out.size))
  replace HBw11 := Lib.hid (HBw11.out.trans (HS.out.mono HBw11.out.size))
  clear HS
  clear hb
  clear HK
  have HC := Lib.hid (c_nest 101 100 101 rfl rfl (by decide) R2 GR2.out w13)
  go_wp2_with fail
  refine HC.out.mono ?_
  rintro e w14 ⟨A14, c14, rfl, hk, hb⟩
  clear HC
  have HK := Lib.hid hk
  clear hk
  have HS := Lib.hid (hb)
  replace HBw := Lib.hid (HBw.out.trans (HS.out.mono HBw.out.size))
  replace HBw10 := Lib.hid (HBw10.out.trans (HS.out.mono HBw10.out.size))
  replace HBw11 := Lib.hid (HBw11.out.trans (HS.out.mono HBw11.out.size))
  clear HS
  clear hb
  have HC := Lib.hid (c_chk (k := 2) (by rw [← GR2.out]; exact chk_deeper) _ A14 c14 w14 HK.out)
  go_wp2_with fail
  refine HC.out.mono ?_
  rintro e w15 ⟨rfl, hb⟩
  clear HC
  have HS := Lib.hid (hb)
  replace HBw := Lib.hid (HBw.out.trans (HS.out.mono HBw.out.size))
  replace HBw10 := Lib.hid (HBw10.out.trans (HS.out.mono HBw10.out.size))
  replace HBw11 := Lib.hid (HBw11.out.trans (HS.out.mono HBw11.out.size))
  clear HS
  clear hb
  clear HK
  obtain ⟨q0, q1, q2, q3⟩ := cell4 ((HBw11.out.block _ (lt_of_block HBX.out)).trans HBX.out)
  have HC := Lib.hid (c_many GN.out _ (some ⟨w9.heap.size, 0, none⟩) 65537 w15 ((HM1.out.below HBw10.out).cap GN.out))
  go_wp2_with fail
  refine HC.out.mono ?_
  rintro e w16 ⟨rfl, hb⟩
  clear HC
  have HS := Lib.hid (hb)
  replace HBw := Lib.hid (HBw.out.trans (HS.out.mono HBw.out.size))
  replace HBw10 := Lib.hid (HBw10.out.trans (HS.out.mono HBw10.out.size))
  replace HBw11 := Lib.hid (HBw11.out.trans (HS.out.mono HBw11.out.size))
  clear HS
  clear hb
  clear q0 q1 q2 q3 HM1
  replace HBX := Lib.hid ((HBw11.out.block _ (lt_of_block HBX.out)).trans HBX.out)
  obtain ⟨q0, q1, q2, q3⟩ := cell4 HBX.out
  have hfz := frz4 HBX.out
  go_upto_region 14 with (fail)
  clear q0 q1 q2 q3 hfz
  clear HBw11
  replace HBX := Lib.hid (put3 (.slice (some ⟨w9.heap.size, 0, none⟩) 65536 65537) HBX.out)
  replace HBw10 := Lib.hid (HBw10.out.setCell (p := ⟨w10.heap.size, 3, none⟩) (Nat.le_refl _) (.slice (some ⟨w9.heap.size, 0, none⟩) 65536 65537))
  replace HBw := Lib.hid (HBw.out.setCell (p := ⟨w10.heap.size, 3, none⟩) GE.out (.slice (some ⟨w9.heap.size, 0, none⟩) 65536 65537))
  generalize w16.setCell ⟨w10.heap.size, 3, none⟩ (.slice (some ⟨w9.heap.size, 0, none⟩) 65536 65537) = w17 at *
  obtain ⟨q0, q1, q2, q3⟩ := cell4 HBX.out
  have HFT := Lib.hid (fitK HM2.out)
  have HC := Lib.hid (c_enc GK.out Glc.out Gmc.out _ (some ⟨w9.heap.size, 0, none⟩) 65537 w17 ((HM2.out.below HBw10.out).cap GN.out) (tab_below HT.out HBw.out))
  go_wp2_with fail
  refine HC.out.mono ?_
  rintro e w18 ⟨A18, c18, rfl, hca, hna, hra, hba, hb⟩
  clear HC
  have HS := Lib.hid (hb)
  replace HBw := Lib.hid (HBw.out.trans (HS.out.mono HBw.out.size))
  replace HBw10 := Lib.hid (HBw10.out.trans (HS.out.mono HBw10.out.size))
  clear HS
  clear hb
  have HA1 := Lib.hid hca
  have HA2 := Lib.hid hna
  have HA3 := Lib.hid hra
  have HA4 := Lib.hid hba
  clear hca hna hra hba q0 q1 q2 q3 HBX HM2
  clear HBw10
  have HC := Lib.hid (c_dec GK.out Glc.out Gmc.out HFT.out A18 c18 w18 HA1.out HA2.out HA3.out HA4.out)
  go_wp2_with fail
  refine HC.out.mono ?_
  rintro e w19 ⟨A19, c19, rfl, hb⟩
  clear HC
  have HS := Lib.hid (hb)
  replace HBw := Lib.hid (HBw.out.trans (HS.out.mono HBw.out.size))
  clear HS
  clear hb
  go_upto_region 16 with (fail)
  clear HA1 HA2 HA3 HA4 HFT
  have HXB := Lib.hid (cell4 (heap_alloc_new w19 (.cells #[.int .i64 5, .int .i64 0, .string { data := #[] }, .slice A19 65536 c19] 41))).2.2.2
  have HXL := Lib.hid (lt_of_block (heap_alloc_new w19 (.cells #[.int .i64 5, .int .i64 0, .string { data := #[] }, .slice A19 65536 c19] 41)))
  have HS := Lib.hid (below_new w19 (.cells #[.int .i64 5, .int .i64 0, .string { data := #[] }, .slice A19 65536 c19] 41))
  replace HBw := Lib.hid (HBw.out.trans (HS.out.mono HBw.out.size))
  clear HS
  generalize w19.alloc (.cells #[.int .i64 5, .int .i64 0, .string { data := #[] }, .slice A19 65536 c19] 41) = w20 at *
  generalize w19.heap.size = gx at *
  have HBw20 : Hid (Below w20.heap.size w20 w20) := Lib.hid (Below.refl _ _)
  have HC := Lib.hid (c_text GL.out w20)
  go_wp2_with fail
  refine HC.out.mono ?_
  rintro e w21 ⟨rfl, hb⟩
  clear HC
  have HS := Lib.hid (hb)
  replace HBw := Lib.hid (HBw.out.trans (HS.out.mono HBw.out.size))
  replace HBw20 := Lib.hid (HBw20.out.trans (HS.out.mono HBw20.out.size))
  clear HS
  clear hb
  have HC := Lib.hid (next_nil w21)
  go_wp2_with fail
  refine HC.out.mono ?_
  rintro e w22 ⟨rfl, rfl⟩
  clear HC
  have hl1 := lit_p1
  have hl2 := lit_p2
  have HC := Lib.hid (c_p1 8 w22.heap.size (w22.alloc (.cells #[.int .u8 42, .int .u8 54, .int .u8 53, .int .u8 53, .int .u8 51, .int .u8 55, .int .u8 13, .int .u8 10] 5 (8, 9))) (Nat.le_refl _) (rd_p1 w22) (below_lit _ _))
  go_wp2_with fail
  refine HC.out.mono ?_
  rintro e w23 ⟨v23, k23, rfl, hb⟩
  clear HC
  have HS := Lib.hid ((below_new w22 (.cells #[.int .u8 42, .int .u8 54, .int .u8 53, .int .u8 53, .int .u8 51, .int .u8 55, .int .u8 13, .int .u8 10] 5 (8, 9))).trans (hb.mono (below_new w22 (.cells #[.int .u8 42, .int .u8 54, .int .u8 53, .int .u8 53, .int .u8 51, .int .u8 55, .int .u8 13, .int .u8 10] 5 (8, 9))).size))
  replace HBw := Lib.hid (HBw.out.trans (HS.out.mono HBw.out.size))
  replace HBw20 := Lib.hid (HBw20.out.trans (HS.out.mono HBw20.out.size))
  clear HS
  clear hb
  have HC := Lib.hid (c_p2 12 w23.heap.size (w23.alloc (.cells #[.int .u8 42, .int .u8 49, .int .u8 13, .int .u8 10, .int .u8 36, .int .u8 49, .int .u8 48, .int .u8 52, .int .u8 56, .int .u8 53, .int .u8 55, .int .u8 55] 5 (12, 13))) (Nat.le_refl _) (rd_p2 w23) (below_lit _ _))
  go_wp2_with fail
  refine HC.out.mono ?_
  rintro e w24 ⟨v24, k24, rfl, hb⟩
  clear HC
  have HS := Lib.hid ((below_new w23 (.cells #[.int .u8 42, .int .u8 49, .int .u8 13, .int .u8 10, .int .u8 36, .int .u8 49, .int .u8 48, .int .u8 52, .int .u8 56, .int .u8 53, .int .u8 55, .int .u8 55] 5 (12, 13))).trans (hb.mono (below_new w23 (.cells #[.int .u8 42, .int .u8 49, .int .u8 13, .int .u8 10, .int .u8 36, .int .u8 49, .int .u8 48, .int .u8 52, .int .u8 56, .int .u8 53, .int .u8 55, .int .u8 55] 5 (12, 13))).size))
  replace HBw := Lib.hid (HBw.out.trans (HS.out.mono HBw.out.size))
  replace HBw20 := Lib.hid (HBw20.out.trans (HS.out.mono HBw20.out.size))
  clear HS
  clear hb
  clear hl1 hl2
  obtain ⟨x3, hx3⟩ : ∃ x, twoA ++ zeroT M ++ twoB = x := ⟨_, rfl⟩
  obtain ⟨s3, hs3⟩ : ∃ s, x3.size = s := ⟨_, rfl⟩
  obtain ⟨f3, g3, hcv, hcg⟩ := conv_cap x3 s3 hs3
  have HCG := Lib.hid (hcg w24)
  have HX3 := Lib.hid hx3
  have HS3 := Lib.hid hs3
  clear hcg
  have hcut := c_cut GL.out GM.out
  have hzs : (zeroT M).size = 1048576 := by rw [zeroT_size]; exact GM.out
  have HC := Lib.hid (c_p3 GM.out HX3.out HS3.out (f3 w24) w24.heap.size (g3 w24) HCG.out.2.2.1 HCG.out.1 HCG.out.2.2.2)
  go_wp2_with fail
  refine HC.out.mono ?_
  rintro e w25 ⟨v25, k25, rfl, hb⟩
  clear HC
  replace hb := HCG.out.2.1.trans (hb.mono HCG.out.2.1.size)
  have HS := Lib.hid (hb)
  replace HBw := Lib.hid (HBw.out.trans (HS.out.mono HBw.out.size))
  replace HBw20 := Lib.hid (HBw20.out.trans (HS.out.mono HBw20.out.size))
  clear HS
  clear hb
  clear HCG HX3 HS3 hcv hcut hzs hs3 hx3
  go_upto_region 24 with (fail)
  go_loop [39, 40] (fun s i => ∃ k : Nat, k ≤ 100 ∧ i = .int .i64 k ∧ s = .string (lstB k)) (fun _ i => 100 - (intOf i).toNat)
  case atStart => exact ⟨0, by omega, rfl, rfl⟩
  case round =>
    obtain ⟨k, hk, rfl, rfl⟩ := hrel
    have hsz : (lstB k).size = 4 * k := lst_size k
    have hnx := lst_next k
    by_cases hlt : k < 100
    · go_wp2_with fail
      go_round
      case rel => exact ⟨k + 1, by omega, by go_num, rfl⟩
      case measure => simp [intOf]; omega
    · obtain rfl : k = 100 := by omega
      clear hlt hk hnx
      obtain ⟨x4, hx4⟩ : ∃ x, lstB 100 ++ ({ data := #[42, 48] } : ByteArray) = x := ⟨_, rfl⟩
      obtain ⟨s4, hs4⟩ : ∃ s, x4.size = s := ⟨_, rfl⟩
      obtain ⟨f4, g4, hcv, hcg⟩ := conv_cap x4 s4 hs4
      have HCG := Lib.hid (hcg w25)
      have HX3 := Lib.hid hx4
      have HS3 := Lib.hid hs4
      clear hcg
      have HC := Lib.hid (c_d1 (H := 100) rfl HX3.out HS3.out (f4 w25) w25.heap.size (g4 w25) HCG.out.2.2.1 HCG.out.1 HCG.out.2.2.2)
      go_wp2_with fail
      refine HC.out.mono ?_
      rintro e w26 ⟨a4, b4, e4, p4, q4, r4, v4, rfl, hb⟩
      clear HC
      replace hb := HCG.out.2.1.trans (hb.mono HCG.out.2.1.size)
      have HS := Lib.hid (hb)
      replace HBw := Lib.hid (HBw.out.trans (HS.out.mono HBw.out.size))
      replace HBw20 := Lib.hid (HBw20.out.trans (HS.out.mono HBw20.out.size))
      clear HS
      clear hb
      clear HCG HX3 HS3 hcv hs4 hx4
      go_upto_region 28 with (fail)
      have HS := Lib.hid (below_new w26 (.cells #[.int .i64 a4, .int .i64 b4, .string e4, .slice p4 q4 r4] 41))
      replace HBw := Lib.hid (HBw.out.trans (HS.out.mono HBw.out.size))
      replace HBw20 := Lib.hid (HBw20.out.trans (HS.out.mono HBw20.out.size))
      clear HS
      generalize w26.alloc (.cells #[.int .i64 a4, .int .i64 b4, .string e4, .slice p4 q4 r4] 41) = w27 at *
      obtain ⟨x5, hx5⟩ : ∃ x, lstB 100 ++ ({ data := #[58, 49, 13, 10] } : ByteArray) = x := ⟨_, rfl⟩
      obtain ⟨s5, hs5⟩ : ∃ s, x5.size = s := ⟨_, rfl⟩
      obtain ⟨f5, g5, hcv, hcg⟩ := conv_cap x5 s5 hs5
      have HCG := Lib.hid (hcg w27)
      have HX3 := Lib.hid hx5
      have HS3 := Lib.hid hs5
      clear hcg
      have HC := Lib.hid (c_d2 (H := 100) rfl HX3.out HS3.out (f5 w27) w27.heap.size (g5 w27) HCG.out.2.2.1 HCG.out.1 HCG.out.2.2.2)
      go_wp2_with fail
      refine HC.out.mono ?_
      rintro e w28 ⟨a5, b5, e5, p5, q5, r5, v5, rfl, hb⟩
      clear HC
      replace hb := HCG.out.2.1.trans (hb.mono HCG.out.2.1.size)
      have HS := Lib.hid (hb)
      replace HBw := Lib.hid (HBw.out.trans (HS.out.mono HBw.out.size))
      replace HBw20 := Lib.hid (HBw20.out.trans (HS.out.mono HBw20.out.size))
      clear HS
      clear hb
      clear HCG HX3 HS3 hcv hs5 hx5
      go_upto_region 29 with (fail)
      have HS := Lib.hid (below_new w28 (.cells #[.int .i64 a5, .int .i64 b5, .string e5, .slice p5 q5 r5] 41))
      replace HBw := Lib.hid (HBw.out.trans (HS.out.mono HBw.out.size))
      replace HBw20 := Lib.hid (HBw20.out.trans (HS.out.mono HBw20.out.size))
      clear HS
      generalize w28.alloc (.cells #[.int .i64 a5, .int .i64 b5, .string e5, .slice p5 q5 r5] 41) = w29 at *
      have HWK : Hid (∀ W, Below w29.heap.size w29 W → Calls Tryd.prog 13 #[] W fun e w' => e = .returned (.bool true) ∧ Below W.heap.size W w') := Lib.hid (fun W hb => works_any W (tab_below HT.out (HBw.out.trans (hb.mono HBw.out.size))))
      have HXC : Hid (∀ W, Below w29.heap.size w29 W → W.cell? ⟨gx, 3, none⟩ = some (.slice A19 65536 c19)) := Lib.hid (fun W hb => (((HBw20.out.trans (hb.mono HBw20.out.size)).cell (p := ⟨gx, 3, none⟩) HXL.out).trans HXB.out))
      have HEND : Hid (∀ W, Below w29.heap.size w29 W → Below w.heap.size w W) := Lib.hid (fun W hb => HBw.out.trans (hb.mono HBw.out.size))
      have HWK9 := Lib.hid (HWK.out w29 (Below.refl _ _))
      have q3 := HXC.out w29 (Below.refl _ _)
      clear HBw HBw20 HXL HXB HT hsz GE HS10 HWK HXC
      go_wp2_with (first | (refine (num_any2 _ _).mono ?_; rintro e _ ⟨rfl, rfl⟩) | (refine (feed_nil _).mono ?_; rintro e _ ⟨rfl, rfl⟩) | (refine HWK9.out.mono ?_; rintro e w30 ⟨rfl, hb⟩))
      go_ret
      exact ⟨rfl, HEND.out _ hb⟩
end Go.Proofs.YtglicojojpggmaaDoor
namespace Go.Proofs.YtglicojojpggmaaDoor.respBounds
open Go Go.RowKit Go.ChangeShapes Go.WideShapes Go.ChangeAt
open Go.ChangeMaps (open_string shut_string)

theorem walk (w : World) (ht : TAB w) : Calls Tryd.prog 9 #[] w fun e w' => e = .returned (.bool true) ∧ Below w.heap.size w w' := bounds_walk w ht


set_option maxRecDepth 20000 in
theorem contract (H : Type) (enc : TypeId × Value → H) (W : World) (base : Nat) (args : Array Value) (ds gs : List (DataW H)) (before : List MemPlace)
    (hval : ∀ (j : Nat) t v, Tryd.f9.params[j]? = some t → args[j]? = some v → Value.okWide Tryd.prog W .any base t v)
    (hW : DataW.Whole enc Tryd.prog Tryd.f9.params.toList Rows.respBoundsSpec.vars false W args.toList ds gs before) 
    (hZ : (DataW.weightsEach Tryd.prog (Tryd.f9.params.toList ++ (OpenSpec.ofChange Rows.respBoundsSpec).bare.plain.varTypes Tryd.prog) (ds ++ gs)).all (· ≤ reachBytes) = true) (hL : laidMetH Tryd.prog Rows.respBoundsRow.laid W) :
    Calls Tryd.prog 9 args W fun e W' => ∃ v, e = .returned v ∧ Rows.respBoundsSpec.post enc Tryd.prog Tryd.f9 false true false false W args v W' := by
  have hW' := hW
  obtain ⟨p, q, hA0, hV, rfl, hfz, hnd⟩ := hW
  have hA : DataW.TrodAll enc Tryd.prog W 0 (fun _ => true) true Tryd.f9.params.toList args.toList ds p := hA0
  rw [Tryd.params9] at hA hval hZ
  obtain ⟨hargs, rfl, rfl⟩ := trodAll_nil hA
  obtain rfl : args = #[] := by cases args; simp_all
  obtain ⟨rfl, rfl⟩ := trodVars_none hV
  clear hA0
  refine (walk W (laid_pow hL)).mono fun e W' ⟨he, bel⟩ => ?_
  subst he
  exact ⟨_, rfl, _, _, _, [], _, [], hW', trodAll_mk1 (shut_bool Tryd.underlying4 _), trodAll_mk0, rfl, bel.frame _, fun h => by cases h⟩

theorem reads (os : Os) {H : Type} (enc : TypeId × Value → H) : ∃ places, DataW.whole enc Tryd.prog ((laidWorld os).forCall (fun _ _ => 0) ⟨#[], #[], []⟩).memory Tryd.f9.params.toList Rows.respBoundsSpec.vars false (#[] : Array Value).toList 8 = some ([], [], places) :=
  ⟨[], by kernel_rfl⟩

set_option maxRecDepth 100000 in
theorem lifted (os : Os) (started : os.Started) (H : Type) (enc : TypeId × Value → H) (F : Stop.Interp) :
    ReturnsInHanded {} Tryd.checked os 9 .any ((OpenSpec.ofChange Rows.respBoundsSpec).preRow enc Tryd.prog Tryd.f9 Rows.respBoundsRow.domain false Rows.respBoundsRow.laid) (((OpenSpec.ofChange Rows.respBoundsSpec).at F).post enc Tryd.prog Tryd.f9 false true false false) := by
  obtain ⟨places, hx⟩ := reads os enc
  refine returnsInHanded_of_row (C := Tryd.checked) (s := OpenSpec.ofChange Rows.respBoundsSpec) own started (by kernel_rfl) Tryd.func9
    (witness_row_at (enc := enc) (C := Tryd.checked) false (laidWorld os) #[] rfl (by kernel_rfl) (by kernel_rfl) (by kernel_rfl)
      (OpenSpec.preRow_of_cond 8 hx (by kernel_rfl) (fun k hk => by cases hk) (by kernel_rfl) (laid_met os _))) ?_
  intro W base args ds gs before hval hW _ _ hZ hL _ _
  exact contract H enc W base args ds gs before hval hW hZ hL

theorem said : Rows.RespBoundsSaid :=
  OpenClaim.holds_of_cond 9 Tryd.f9 rfl rfl rfl rfl rfl rfl rfl ⟨rfl, rfl, rfl, rfl, rfl⟩ rfl rfl rfl rfl rfl (by kernel_rfl) Tryd.func9 (by kernel_rfl)
    (of_decide_eq_true (by kernel_rfl)) (by unfold Func.isWrapper; first | (rw [if_pos (by decide +kernel)]; kernel_rfl) | (rw [if_neg (by decide +kernel)]; exact ⟨rfl, rfl⟩))
    (fun os started H enc _ F => by rw [OpenClaim.pre_eq_preRow]; exact lifted os started H enc F)

theorem plain (f : FuncId) (fn : Func) (hf : Tryd.pinned.checked.prog.funcNamed "tabor/taborlaw04.RespBounds" = some f) (hfn : Tryd.pinned.checked.prog.funcs[f]? = some fn) :
    true = Tryd.pinned.checked.prog.looks [] ∧ ∀ (j : Nat) t, fn.params[j]? = some t → Tryd.pinned.checked.prog.wantsStandIn t = false := by
  obtain rfl : f = 9 := Option.some.inj ((show Tryd.prog.funcNamed "tabor/taborlaw04.RespBounds" = some 9 by kernel_rfl).symm.trans hf) |>.symm
  obtain rfl : fn = Tryd.f9 := (Option.some.inj (Tryd.func9.symm.trans hfn)).symm
  refine ⟨by kernel_rfl, fun j t ht => ?_⟩
  rw [Tryd.params9] at ht
  simp at ht

/-- The card. -/
theorem card : Rows.RespBoundsCardSaid :=
  Claim7.holds_tied_plain_at .later [] _ _ _ _ said (fun _ h => by cases h) (by kernel_rfl) (fun _ h => by cases h) respBounds_row_tie rfl ⟨rfl, rfl⟩ (by kernel_rfl) rfl plain (by kernel_rfl)
#print axioms card
end Go.Proofs.YtglicojojpggmaaDoor.respBounds
