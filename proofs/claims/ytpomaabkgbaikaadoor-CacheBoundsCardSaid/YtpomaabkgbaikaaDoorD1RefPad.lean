/- The reference's padded bytes. -/
import Derived.Test.YtpomaabkgbaikaaDoorD1Kept
import Derived.Test.YtpomaabkgbaikaaDoorD1Math
namespace Go.Proofs.YtpomaabkgbaikaaDoor.Dg
open Go Go.RowKit
set_option maxRecDepth 100000 in
theorem own_belowR {w w' : World} {base n : Nat} {v : Value} {xs : List Value} (h : w.ownsRow base 5 1 v n xs) (hb : Below w.heap.size w w') : w'.ownsRow base 5 1 v n xs :=
  h.kept (row := none) ⟨hb.os, hb.tape, hb.output, hb.size, fun k hk _ => hb.block k hk⟩ (by cases v.ownBlock <;> simp)
set_option maxRecDepth 100000 in
theorem own_rdR {w : World} {base : Nat} {v : Value} {l : List UInt8} (hl : 0 < l.length) (h : w.ownsRow base 5 1 v l.length (cellsB l)) : ∃ A c, v = .slice A l.length c ∧ Rd w A l := by
  have hlt := h.lt
  rcases h.2 with ⟨_, h0⟩ | ⟨g, cap, cur, rfl, hg, hh, hn, _⟩
  · omega
  · refine ⟨_, cap, rfl, fun _ => ⟨g, 0, rfl, (hlt g rfl).2, fun j hj => ?_⟩⟩
    have := h.cells (g := g) rfl j (.int .u8 l[j].toNat) (by simp [cellsB, cellB, hj])
    rw [add0] at this
    rw [Nat.zero_add]; exact this
set_option maxRecDepth 100000 in
theorem own_shape {w : World} {base n : Nat} {v : Value} {xs : List Value} (hn : 0 < n) (h : w.ownsRow base 5 1 v n xs) : ∃ A c, v = .slice A n c := by
  rcases h.2 with ⟨_, h0⟩ | ⟨g, cap, cur, rfl, _⟩
  · omega
  · exact ⟨_, _, rfl⟩
set_option maxRecDepth 100000 in
theorem arg_newsR {w : World} {x : Addr} {c : Nat} {l : List UInt8} (h : Arg w (.slice (some x) l.length c) l) : ∀ j u, (cellsB l)[j]? = some u → w.cell? (x.add j) = some u := by
  intro j u hu
  obtain ⟨hj, he⟩ := List.getElem?_eq_some_iff.1 hu
  have hj' : j < l.length := by simpa [cellsB] using hj
  rcases h with ⟨h, _⟩ | ⟨a, c, _, rfl⟩ | ⟨b, off, c, h, hlt, hc⟩
  · cases h
  · simp at hj'
  · cases h
    rw [addoff, hc j hj', ← he]
    simp [cellsB, cellB]
def lenOf : Value → Nat
  | .slice _ n _ => n
  | _ => 0
/-- The first k bytes of the length's text. -/
def be (b k : Nat) : List UInt8 := (List.range k).map (beb b)
set_option maxRecDepth 100000 in
theorem be_tl (b : Nat) : be b 8 = tl b 8 := by simp [be, tl, List.range_succ]
set_option maxRecDepth 100000 in
theorem be_succ (b k : Nat) : be b (k + 1) = be b k ++ [beb b k] := by simp [be, List.range_succ]
set_option maxRecDepth 100000 in
theorem cellsB_snoc (l : List UInt8) (b : UInt8) : cellsB (l ++ [b]) = cellsB l ++ [.int .u8 b.toNat] := by simp [cellsB, cellB]
def bare (l : List UInt8) (k : Nat) : List UInt8 := l ++ 128 :: List.replicate k 0
set_option maxRecDepth 100000 in
theorem bare_succ (l : List UInt8) (k : Nat) : bare l (k + 1) = bare l k ++ [0] := by simp [bare, List.replicate_succ']
set_option maxRecDepth 100000 in
theorem bare_len (l : List UInt8) (k : Nat) : (bare l k).length = l.length + 1 + k := by simp [bare]; omega
set_option maxRecDepth 100000 in
theorem and255 (n s k : Nat) (hn : n ≤ 1000000) (hk : k < 8) (hs : s = 56 - 8 * k) : bits .and .u64 ((n : Int) * 8 / 2 ^ s) 255 = ((beb (n * 8) k).toNat : Int) := by
  have h1 : (n : Int) * 8 / 2 ^ s = ((n * 8 / 2 ^ s : Nat) : Int) := by simp
  have h2 : n * 8 / 2 ^ s < 18446744073709551616 := Nat.lt_of_le_of_lt (Nat.div_le_self _ _) (by omega)
  have h3 : (256 : Nat) ^ (7 - k) = 2 ^ s := by rw [hs, show 56 - 8 * k = 8 * (7 - k) by omega, Nat.pow_mul]
  have h4 : n * 8 / 2 ^ s &&& 255 = n * 8 / 2 ^ s % 256 := by
    have := Nat.and_two_pow_sub_one_eq_mod (n * 8 / 2 ^ s) 8
    simpa using this
  rw [h1, show (255 : Int) = ((255 : Nat) : Int) from rfl, u64_and_nat _ _ h2 (by omega), h4, beb_toNat, h3]

set_option maxHeartbeats 2000000 in
set_option maxRecDepth 100000 in
theorem rpad_some (x : Addr) (c : Nat) (a : List UInt8) (w : World) (hl : a.length ≤ 1000000) (hu : Arg w (.slice (some x) a.length c) a) :
    Calls Tryd.prog 53 #[(.slice (some x) a.length c)] w fun e w' => ∃ v, e = .returned v ∧ (∃ A c, v = .slice A (padL a).length c ∧ Rd w' A (padL a)) ∧ Below w.heap.size w w' := by
  obtain ⟨i0, hi, hz0, hz1, hz2⟩ := info_parts u8_info
  have HU := Lib.hid hu
  have HL := Lib.hid hl
  have hn0 : noughts a.length < 64 := Nat.mod_lt _ (by omega)
  have HN0 := Lib.hid hn0
  have hown0 : (w.alloc (.cells #[] 5)).ownsRow w.heap.size 5 1 (.slice (some ⟨w.heap.size, 0, none⟩) 0 0) 0 [] := World.ownsRow_made w #[] 0 (Nat.le_refl _) (by decide) (by simp)
  have hb0 : Below w.heap.size w (w.alloc (.cells #[] 5)) := (Below.refl w.heap.size w).alloc (Nat.le_refl _) (.cells #[] 5)
  have hnews := (HU.out.below hb0)
  clear hu hl hn0
  go_enter Tryd.func53, Tryd.ntmps53
  go_wp2_with (first
    | (at_builtin
       refine wpList_append_own _ rfl (.tmp 6) (.tmp 7) _ rfl w.heap.size 5 i0 _ 1 1 Tryd.underlying52 hi hz0 hz1 hz2 rfl (by omega) (.slice (some ⟨w.heap.size, 0, none⟩) 0 0) 0 [] rfl hown0 x a.length c (cellsB a) rfl (by simp [cellsB]) (arg_newsR hnews) (cellsB_one a) (by have := HL.out; simp only [maxLen]; omega) (by have := HL.out; omega) (by simp) ?_
       intro v1 w1 hown1 hg1 _
       have hbw1 : Below w.heap.size w w1 := hb0.grown hg1 (by simp) (by simp [Value.ownBlock]))
    | (at_builtin
       go_must (refine wpList_append_own _ rfl (.tmp 8) (.tmp 9) _ rfl w.heap.size 5 i0 _ 1 1 Tryd.underlying52 hi hz0 hz1 hz2 rfl (by omega) v1 (0 + a.length) ([] ++ cellsB a) rfl (hown1.alloc _) ⟨w1.heap.size, 0, none⟩ 1 1 [.int .u8 128] rfl rfl (one_new w1 _ _) (by simp [Value.oneCell']) (by first | (simp [maxLen]; done) | (have := HL.out; simp only [maxLen]; omega)) (by first | (simp; done) | (have := HL.out; omega)) (by have := hbw1.size; simp; omega) ?_)
       intro v2 w2 hown2 hg2 _
       have hbw2 : Below w.heap.size w w2 := (hbw1.alloc hbw1.size (.cells #[.int .u8 128] 5)).grown hg2 (by have := hbw1.size; simp; omega) (fun k hk => (hown1.lt k hk).1)
       have hown2' : w2.ownsRow w.heap.size 5 1 v2 (a.length + 1 + 0) (cellsB (bare a 0)) := by simpa [cellsB, bare, cellB] using hown2
       obtain ⟨A2, c2, rfl⟩ := own_shape (by omega) hown2'))
  clear hown0 hb0 hnews
  go_loopw [3] (fun v wr => ∃ k A c N, k ≤ noughts a.length ∧ Hid (N = a.length + 1 + k) ∧ v = .slice A N c ∧ wr.ownsRow w.heap.size 5 1 v N (cellsB (bare a k)) ∧ Below w.heap.size w wr) (fun v _ => 2000000 - lenOf v)
  case atStart => exact ⟨0, A2, c2, a.length + 1, Nat.zero_le _, rfl, rfl, hown2', hbw2⟩
  case round =>
    obtain ⟨k, A, c, N, hk, HN, rfl, hown, hbw⟩ := hrel
    have hN := HN.out
    have hN2 : N ≤ 1000064 := by have := HL.out; have := HN0.out; omega
    by_cases hlt : k < noughts a.length
    · have hd : ((N : Int) % 64 != 56) = true := by
        have : N % 64 ≠ 56 := by unfold noughts at hlt; omega
        simp; omega
      clear hN
      go_wp2_with (first
    | (at_builtin
       go_must (refine wpList_append_own _ rfl (.tmp 15) (.tmp 16) _ rfl w.heap.size 5 i0 _ 1 1 Tryd.underlying52 hi hz0 hz1 hz2 rfl (by omega) (.slice A N c) N (cellsB (bare a k)) rfl (hown.alloc _) ⟨wr.heap.size, 0, none⟩ 1 1 [.int .u8 0] rfl rfl (one_new wr _ _) (by simp [Value.oneCell']) (by simp only [maxLen]; omega) (by omega) (by have := hbw.size; simp; omega) ?_)
       intro v4 w4 hown4 hg4 _
       have hbw4 : Below w.heap.size w w4 := (hbw.alloc hbw.size (.cells #[.int .u8 0] 5)).grown hg4 (by have := hbw.size; simp; omega) (fun k hk => (hown.lt k hk).1)
       have hown4' : w4.ownsRow w.heap.size 5 1 v4 (N + 1) (cellsB (bare a (k + 1))) := by
         rw [bare_succ]; simpa [cellsB, cellB] using hown4
       obtain ⟨A4, c4, rfl⟩ := own_shape (by omega) hown4'))
      go_roundw
      case rel => exact ⟨k + 1, A4, c4, N + 1, by omega, by have := HN.out; show _ = _; omega, rfl, hown4', hbw4⟩
      case measure => simp [lenOf]; omega
    · have hd : ((N : Int) % 64 != 56) = false := by
        have hkn : k = noughts a.length := by omega
        have : N % 64 = 56 := by unfold noughts at hkn; omega
        simp; omega
      obtain ⟨M, hM⟩ : ∃ M, M = noughts a.length := ⟨_, rfl⟩
      have hkM : k = M := by omega
      subst hkM
      have HM := Lib.hid hM
      have hwrap : (a.length : Int) * 8 < 18446744073709551616 := by have := HL.out; omega
      clear hN hM hk hlt
      go_wp2
      obtain ⟨wo, hwo⟩ : ∃ wo : World, wo = wr := ⟨_, rfl⟩
      go_loopw [3, 5] (fun v i wr => ∃ k A c N, k ≤ 8 ∧ Hid (N = a.length + 1 + noughts a.length + k) ∧ v = .slice A N c ∧ ((k < 8 ∧ ∃ s : Nat, Hid (s + 8 * k = 56) ∧ i = .int .i64 (s : Int)) ∨ (k = 8 ∧ i = .int .i64 (-8))) ∧ wr.ownsRow w.heap.size 5 1 v N (cellsB (bare a (noughts a.length) ++ be (a.length * 8) k)) ∧ Below w.heap.size w wr) (fun v _ _ => 2000000 - lenOf v)
      case atStart => exact ⟨0, A, c, N, by omega, by rw [← HM.out]; exact HN.out, rfl, .inl ⟨by omega, 56, rfl, rfl⟩, by rw [← HM.out]; simpa [be] using hown, hbw⟩
      case round =>
        obtain ⟨k2, A5, c5, N5, hk2, HN5, rfl, hi5, hown5, hbw5⟩ := hrel
        have hN5 : N5 ≤ 1000072 := by have := HL.out; have := HN0.out; have := HN5.out; omega
        rcases hi5 with ⟨hlt8, s, HS, rfl⟩ | ⟨rfl, rfl⟩
        · have hs56 : s ≤ 56 := by have := HS.out; omega
          obtain ⟨x, hx⟩ : ∃ x, x = (beb (a.length * 8) k2).toNat := ⟨_, rfl⟩
          have e255 := and255 a.length s k2 HL.out hlt8 (by have := HS.out; omega)
          rw [← hx] at e255
          have hx256 : x < 256 := by rw [hx]; exact UInt8.toNat_lt _
          have HX := Lib.hid hx
          clear hx
          go_wp2_with (first
    | (at_builtin
       go_must (refine wpList_append_own _ rfl (.tmp 26) (.tmp 32) _ rfl w.heap.size 5 i0 _ 1 1 Tryd.underlying52 hi hz0 hz1 hz2 rfl (by omega) (.slice A5 N5 c5) N5 _ rfl (hown5.alloc _) ⟨wr.heap.size, 0, none⟩ 1 1 [.int .u8 x] rfl rfl (one_new wr _ _) (by simp [Value.oneCell']) (by simp only [maxLen]; omega) (by omega) (by have := hbw5.size; simp; omega) ?_)
       intro v6 w6 hown6 hg6 _
       have hbw6 : Below w.heap.size w w6 := (hbw5.alloc hbw5.size (.cells #[.int .u8 x] 5)).grown hg6 (by have := hbw5.size; simp; omega) (fun k hk => (hown5.lt k hk).1)
       have hown6' : w6.ownsRow w.heap.size 5 1 v6 (N5 + 1) (cellsB (bare a (noughts a.length) ++ be (a.length * 8) (k2 + 1))) := by
         rw [be_succ, ← List.append_assoc, cellsB_snoc, ← HX.out]; exact hown6
       obtain ⟨A6, c6, rfl⟩ := own_shape (by omega) hown6'))
          go_roundw
          case rel =>
            refine ⟨k2 + 1, A6, c6, N5 + 1, by omega, by have := HN5.out; show _ = _; omega, rfl, ?_, hown6', hbw6⟩
            have hs := HS.out
            by_cases h7 : k2 < 7
            · exact .inl ⟨by omega, s - 8, (by show _ = _; omega), congrArg (Value.int .i64) (by omega)⟩
            · exact .inr ⟨by omega, congrArg (Value.int .i64) (by omega)⟩
          case measure => simp [lenOf]; omega
        · have hp : wr.ownsRow w.heap.size 5 1 (.slice A5 N5 c5) (padL a).length (cellsB (padL a)) := by
            have hN := HN5.out
            have e : padL a = bare a (noughts a.length) ++ be (a.length * 8) 8 := by rw [be_tl]; rfl
            have e2 : (padL a).length = N5 := by rw [padL_len, hN]; rfl
            rw [e2, e]; exact hown5
          have hpos : 0 < (padL a).length := by rw [padL_len]; unfold padN; omega
          have hfin := own_rdR hpos hp
          go_wp2
          go_ret
          exact ⟨_, rfl, hfin, hbw5⟩

set_option maxHeartbeats 2000000 in
set_option maxRecDepth 100000 in
theorem rpad_none (w : World) (hl : ([] : List UInt8).length ≤ 1000000) (hu : Arg w (.slice none 0 0) ([] : List UInt8)) :
    Calls Tryd.prog 53 #[(.slice none 0 0)] w fun e w' => ∃ v, e = .returned v ∧ (∃ A c, v = .slice A (padL ([] : List UInt8)).length c ∧ Rd w' A (padL ([] : List UInt8))) ∧ Below w.heap.size w w' := by
  obtain ⟨i0, hi, hz0, hz1, hz2⟩ := info_parts u8_info
  have HU := Lib.hid hu
  have HL := Lib.hid hl
  have hn0 : noughts ([] : List UInt8).length < 64 := Nat.mod_lt _ (by omega)
  have HN0 := Lib.hid hn0
  have hown0 : (w.alloc (.cells #[] 5)).ownsRow w.heap.size 5 1 (.slice (some ⟨w.heap.size, 0, none⟩) 0 0) 0 [] := World.ownsRow_made w #[] 0 (Nat.le_refl _) (by decide) (by simp)
  have hb0 : Below w.heap.size w (w.alloc (.cells #[] 5)) := (Below.refl w.heap.size w).alloc (Nat.le_refl _) (.cells #[] 5)
  have hnews := (HU.out.below hb0)
  clear hu hl hn0
  go_enter Tryd.func53, Tryd.ntmps53
  go_wp2_with (first
    | (at_builtin
       refine wpList_append_own_none rfl (.tmp 6) (.tmp 7) _ rfl w.heap.size 5 i0 1 Tryd.underlying52 hi (.slice (some ⟨w.heap.size, 0, none⟩) 0 0) 0 [] rfl hown0 rfl ?_
       generalize w.alloc (.cells #[] 5) = w1 at *
       have hbw1 := hb0
       have hown1 := hown0)
    | (at_builtin
       go_must (refine wpList_append_own _ rfl (.tmp 8) (.tmp 9) _ rfl w.heap.size 5 i0 _ 1 1 Tryd.underlying52 hi hz0 hz1 hz2 rfl (by omega) (.slice (some ⟨w.heap.size, 0, none⟩) 0 0) 0 [] rfl (hown1.alloc _) ⟨w1.heap.size, 0, none⟩ 1 1 [.int .u8 128] rfl rfl (one_new w1 _ _) (by simp [Value.oneCell']) (by first | (simp [maxLen]; done) | (have := HL.out; simp only [maxLen]; omega)) (by first | (simp; done) | (have := HL.out; omega)) (by have := hbw1.size; simp; omega) ?_)
       intro v2 w2 hown2 hg2 _
       have hbw2 : Below w.heap.size w w2 := (hbw1.alloc hbw1.size (.cells #[.int .u8 128] 5)).grown hg2 (by have := hbw1.size; simp; omega) (fun k hk => (hown1.lt k hk).1)
       have hown2' : w2.ownsRow w.heap.size 5 1 v2 (([] : List UInt8).length + 1 + 0) (cellsB (bare ([] : List UInt8) 0)) := by simpa [cellsB, bare, cellB] using hown2
       obtain ⟨A2, c2, rfl⟩ := own_shape (by omega) hown2'))
  clear hown0 hb0 hnews
  go_loopw [3] (fun v wr => ∃ k A c N, k ≤ noughts ([] : List UInt8).length ∧ Hid (N = ([] : List UInt8).length + 1 + k) ∧ v = .slice A N c ∧ wr.ownsRow w.heap.size 5 1 v N (cellsB (bare ([] : List UInt8) k)) ∧ Below w.heap.size w wr) (fun v _ => 2000000 - lenOf v)
  case atStart => exact ⟨0, A2, c2, ([] : List UInt8).length + 1, Nat.zero_le _, rfl, rfl, hown2', hbw2⟩
  case round =>
    obtain ⟨k, A, c, N, hk, HN, rfl, hown, hbw⟩ := hrel
    have hN := HN.out
    have hN2 : N ≤ 1000064 := by have := HL.out; have := HN0.out; omega
    by_cases hlt : k < noughts ([] : List UInt8).length
    · have hd : ((N : Int) % 64 != 56) = true := by
        have : N % 64 ≠ 56 := by unfold noughts at hlt; omega
        simp; omega
      clear hN
      go_wp2_with (first
    | (at_builtin
       go_must (refine wpList_append_own _ rfl (.tmp 15) (.tmp 16) _ rfl w.heap.size 5 i0 _ 1 1 Tryd.underlying52 hi hz0 hz1 hz2 rfl (by omega) (.slice A N c) N (cellsB (bare ([] : List UInt8) k)) rfl (hown.alloc _) ⟨wr.heap.size, 0, none⟩ 1 1 [.int .u8 0] rfl rfl (one_new wr _ _) (by simp [Value.oneCell']) (by simp only [maxLen]; omega) (by omega) (by have := hbw.size; simp; omega) ?_)
       intro v4 w4 hown4 hg4 _
       have hbw4 : Below w.heap.size w w4 := (hbw.alloc hbw.size (.cells #[.int .u8 0] 5)).grown hg4 (by have := hbw.size; simp; omega) (fun k hk => (hown.lt k hk).1)
       have hown4' : w4.ownsRow w.heap.size 5 1 v4 (N + 1) (cellsB (bare ([] : List UInt8) (k + 1))) := by
         rw [bare_succ]; simpa [cellsB, cellB] using hown4
       obtain ⟨A4, c4, rfl⟩ := own_shape (by omega) hown4'))
      go_roundw
      case rel => exact ⟨k + 1, A4, c4, N + 1, by omega, by have := HN.out; show _ = _; omega, rfl, hown4', hbw4⟩
      case measure => simp [lenOf]; omega
    · have hd : ((N : Int) % 64 != 56) = false := by
        have hkn : k = noughts ([] : List UInt8).length := by omega
        have : N % 64 = 56 := by unfold noughts at hkn; omega
        simp; omega
      obtain ⟨M, hM⟩ : ∃ M, M = noughts ([] : List UInt8).length := ⟨_, rfl⟩
      have hkM : k = M := by omega
      subst hkM
      have HM := Lib.hid hM
      have hwrap : (([] : List UInt8).length : Int) * 8 < 18446744073709551616 := by have := HL.out; omega
      clear hN hM hk hlt
      go_wp2
      obtain ⟨wo, hwo⟩ : ∃ wo : World, wo = wr := ⟨_, rfl⟩
      go_loopw [3, 5] (fun v i wr => ∃ k A c N, k ≤ 8 ∧ Hid (N = ([] : List UInt8).length + 1 + noughts ([] : List UInt8).length + k) ∧ v = .slice A N c ∧ ((k < 8 ∧ ∃ s : Nat, Hid (s + 8 * k = 56) ∧ i = .int .i64 (s : Int)) ∨ (k = 8 ∧ i = .int .i64 (-8))) ∧ wr.ownsRow w.heap.size 5 1 v N (cellsB (bare ([] : List UInt8) (noughts ([] : List UInt8).length) ++ be (([] : List UInt8).length * 8) k)) ∧ Below w.heap.size w wr) (fun v _ _ => 2000000 - lenOf v)
      case atStart => exact ⟨0, A, c, N, by omega, by rw [← HM.out]; exact HN.out, rfl, .inl ⟨by omega, 56, rfl, rfl⟩, by rw [← HM.out]; simpa [be] using hown, hbw⟩
      case round =>
        obtain ⟨k2, A5, c5, N5, hk2, HN5, rfl, hi5, hown5, hbw5⟩ := hrel
        have hN5 : N5 ≤ 1000072 := by have := HL.out; have := HN0.out; have := HN5.out; omega
        rcases hi5 with ⟨hlt8, s, HS, rfl⟩ | ⟨rfl, rfl⟩
        · have hs56 : s ≤ 56 := by have := HS.out; omega
          obtain ⟨x, hx⟩ : ∃ x, x = (beb (([] : List UInt8).length * 8) k2).toNat := ⟨_, rfl⟩
          have e255 := and255 ([] : List UInt8).length s k2 HL.out hlt8 (by have := HS.out; omega)
          rw [← hx] at e255
          have e256 : bits .and .u64 0 255 = (x : Int) := by simpa using e255
          have hx256 : x < 256 := by rw [hx]; exact UInt8.toNat_lt _
          have HX := Lib.hid hx
          clear hx
          go_wp2_with (first
    | (at_builtin
       go_must (refine wpList_append_own _ rfl (.tmp 26) (.tmp 32) _ rfl w.heap.size 5 i0 _ 1 1 Tryd.underlying52 hi hz0 hz1 hz2 rfl (by omega) (.slice A5 N5 c5) N5 _ rfl (hown5.alloc _) ⟨wr.heap.size, 0, none⟩ 1 1 [.int .u8 x] rfl rfl (one_new wr _ _) (by simp [Value.oneCell']) (by simp only [maxLen]; omega) (by omega) (by have := hbw5.size; simp; omega) ?_)
       intro v6 w6 hown6 hg6 _
       have hbw6 : Below w.heap.size w w6 := (hbw5.alloc hbw5.size (.cells #[.int .u8 x] 5)).grown hg6 (by have := hbw5.size; simp; omega) (fun k hk => (hown5.lt k hk).1)
       have hown6' : w6.ownsRow w.heap.size 5 1 v6 (N5 + 1) (cellsB (bare ([] : List UInt8) (noughts ([] : List UInt8).length) ++ be (([] : List UInt8).length * 8) (k2 + 1))) := by
         rw [be_succ, ← List.append_assoc, cellsB_snoc, ← HX.out]; exact hown6
       obtain ⟨A6, c6, rfl⟩ := own_shape (by omega) hown6'))
          go_roundw
          case rel =>
            refine ⟨k2 + 1, A6, c6, N5 + 1, by omega, by have := HN5.out; show _ = _; omega, rfl, ?_, hown6', hbw6⟩
            have hs := HS.out
            by_cases h7 : k2 < 7
            · exact .inl ⟨by omega, s - 8, (by show _ = _; omega), congrArg (Value.int .i64) (by omega)⟩
            · exact .inr ⟨by omega, congrArg (Value.int .i64) (by omega)⟩
          case measure => simp [lenOf]; omega
        · have hp : wr.ownsRow w.heap.size 5 1 (.slice A5 N5 c5) (padL ([] : List UInt8)).length (cellsB (padL ([] : List UInt8))) := by
            have hN := HN5.out
            have e : padL ([] : List UInt8) = bare ([] : List UInt8) (noughts ([] : List UInt8).length) ++ be (([] : List UInt8).length * 8) 8 := by rw [be_tl]; rfl
            have e2 : (padL ([] : List UInt8)).length = N5 := by rw [padL_len, hN]; rfl
            rw [e2, e]; exact hown5
          have hpos : 0 < (padL ([] : List UInt8)).length := by rw [padL_len]; unfold padN; omega
          have hfin := own_rdR hpos hp
          go_wp2
          go_ret
          exact ⟨_, rfl, hfin, hbw5⟩

set_option maxRecDepth 100000 in
theorem rpad_any (v : Value) (l : List UInt8) (w : World) (hl : l.length ≤ 1000000) (hu : Arg w v l) :
    Calls Tryd.prog 53 #[v] w fun e w' => ∃ v, e = .returned v ∧ (∃ A c, v = .slice A (padL l).length c ∧ Rd w' A (padL l)) ∧ Below w.heap.size w w' := by
  have hu' := hu
  rcases hu with ⟨rfl, rfl⟩ | ⟨x, c, rfl, rfl⟩ | ⟨g, off, c, rfl, hlt, hc⟩
  · exact rpad_none w hl hu'
  · exact rpad_some x c [] w hl hu'
  · exact rpad_some ⟨g, off, none⟩ c l w hl hu'
end Go.Proofs.YtpomaabkgbaikaaDoor.Dg
