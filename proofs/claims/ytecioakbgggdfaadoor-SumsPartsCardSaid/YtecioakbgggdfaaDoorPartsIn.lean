/- SumsParts: every cut within the bytes. -/
import Derived.Test.YtecioakbgggdfaaDoorFrame
import Derived.Test.YtecioakbgggdfaaDoorMath
import Derived.Deep.RegionWith
import Derived.Deep.QuietTactic
import Derived.BigQuiet
import Derived.Deep.CutRange
import Derived.Deep.RegionHeld3
import Derived.Test.YtecioakbgggdfaaDoorQuiet
namespace Go.Proofs.YtecioakbgggdfaaDoor.sumsParts
open Go Go.RowKit Go.ChangeShapes Go.WideShapes Go.ChangeAt Go.BigFrame
theorem after5 (w W : World) (G D : Nat) (p : List UInt8) (s z s' t : St) (hz : W.heap[G]? = some (.cells z.row 36 (0, 0))) (hD : W.heap[D]? = some (.cells s.row 36 (0, 0))) (hP : RowB W w.heap.size p) (hDG : D < G) (hwD : w.heap.size < D)
    (hG : w.heap.size ≤ G) (hb : Below w.heap.size w W) (he : t = s') :
    D < G ∧ Hid (t = s') ∧ Hid ((store5W W G s').heap[G]? = some (.cells s'.row 36 (0, 0))) ∧ Hid ((store5W W G s').heap[D]? = some (.cells s.row 36 (0, 0))) ∧ Hid (RowB (store5W W G s') w.heap.size p) ∧ Below w.heap.size w (store5W W G s') :=
  ⟨hDG, he, store5 W G z s' hz, (store5_other W G s' D (by omega)).trans hD, (store5_other W G s' _ (by omega)).trans hP, store5_below hb hG s'⟩
theorem inv_inv (n : Nat) : inv (inv n) = n := by
  have h : ∀ M : Nat, M = 4294967295 → inv (inv n) = n := by
    intro M hM
    have e : ∀ x, inv x = M ^^^ x := fun x => by rw [hM]; rfl
    rw [e, e]; exact xor_back M n
  exact h _ rfl
theorem sum_ltP (a : List UInt8) : inv (crcL (inv 0) a) < 4294967296 := inv_lt _ (crcL_lt a _ (inv_lt 0 (by omega)))
theorem two_parts (l : List UInt8) (k : Nat) : inv (crcL (inv (inv (crcL (inv 0) (l.take k)))) (l.drop k)) = inv (crcL (inv 0) l) := by
  rw [inv_inv, ← crcL_append, List.take_append_drop]
theorem crc_len (A : Option Addr) (c : Nat) (l : List UInt8) (n : Nat) (w : World) (h : l.length = n) (hl : n ≤ 1000000) (hr : Rd w A l) (hg : Tabs w) (hb : 0 < w.heap.size) :
    Calls Tryd.prog 14 #[.slice A n c] w fun e w' => e = .returned (.int .u32 (inv (crcL (inv 0) l) : Nat)) ∧ Below w.heap.size w w' := by
  subst h; exact crc_any A c l w hl hr hg hb
theorem upd_len (s : Nat) (A : Option Addr) (c : Nat) (l : List UInt8) (n : Nat) (w : World) (hs : s < 4294967296) (h : l.length = n) (hl : n ≤ 1000000) (hr : Rd w A l) (hg : Tabs w) (hb : 0 < w.heap.size) :
    Calls Tryd.prog 17 #[.int .u32 s, .slice A n c] w fun e w' => e = .returned (.int .u32 (inv (crcL (inv s) l) : Nat)) ∧ Below w.heap.size w w' := by
  subst h; exact upd_any s A c l w hs hl hr hg hb
theorem drop_no {w : World} {A : Option Addr} {l : List UInt8} {k : Nat} (h : l.length ≤ k) : Rd w A (l.drop k) := fun hl => by simp at hl; omega
theorem drop_rd {w : World} {b off : Nat} {l : List UInt8} (h : Rd w (some ⟨b, off, none⟩) l) (k : Nat) : Rd w (some ⟨b, off + k, none⟩) (l.drop k) := by
  intro hl
  have hl' : 0 < l.length := by simp at hl; omega
  obtain ⟨b', off', he, hb, hc⟩ := h hl'
  cases he
  refine ⟨b, off + k, rfl, hb, fun j hj => ?_⟩
  have hj' : k + j < l.length := by simp at hj; omega
  rw [Nat.add_assoc, hc (k + j) hj']; simp
def zeroSt : St := ⟨0, 0, 0, 0, 0⟩
theorem hx_hex : ∀ d, d < 16 → hexB (hx d) = true := by decide
theorem low_hex (n j : Nat) : (low n j).all hexB = true := by
  induction j with
  | zero => rfl
  | succ j ih => simp only [low, List.all_cons, ih, Bool.and_true]; exact hx_hex _ (Nat.mod_lt _ (by omega))
theorem hexS_hex (s : St) (k : Nat) : (hexS s k).all hexB = true := by
  induction k with
  | zero => rfl
  | succ k ih => simp only [hexS, List.all_append, ih, low_hex, Bool.and_self]
theorem hexS_dig (s : St) : isDig (hexS s 5) = true := by
  simp only [isDig, hexS_len, hexS_hex]; decide
theorem rowB_below {w w' : World} {g : Nat} {l : List UInt8} (h : RowB w g l) (hb : Below w.heap.size w w') : RowB w' g l :=
  (hb.block g (Array.getElem?_eq_some_iff.1 h).1).trans h
theorem head_conv {w : World} {g : Nat} {l : List UInt8} (h : RowB w g (padL l)) (P : Nat) :
    (convert 22 9 (.slice (some ⟨g, 0, none⟩) l.length P)).run Tryd.prog w = .ok (.string ⟨l.toArray⟩) w := by
  refine conv_some w g 0 P l (fun j hj => ?_)
  have hj' : j < (padL l).length := by rw [padL_len]; unfold padN; omega
  rw [Nat.zero_add, h.cell j hj']
  simp [padL, List.getElem_append_left, hj]
theorem part_rd {w : World} {A : Option Addr} {l : List UInt8} (h : Rd w A l) (k : Nat) : Rd w A (l.take k) := by
  intro hl
  have hl' : 0 < l.length := by simp at hl; omega
  obtain ⟨b, off, rfl, hb, hc⟩ := h hl'
  refine ⟨b, off, rfl, hb, fun j hj => ?_⟩
  have hj' : j < l.length := by simp at hj; omega
  rw [hc j hj']; simp
theorem drop_any {w : World} {A : Option Addr} {l : List UInt8} {c : Nat} (h : Rd w A l) (hc : l.length ≤ c) (k : Nat) : Rd w (if c = k then A else Option.map (fun x => x.add k) A) (l.drop k) := by
  by_cases he : c = k
  · exact drop_no (by omega)
  · rw [if_neg he]
    intro hl
    have hl' : 0 < l.length := by simp at hl; omega
    obtain ⟨b, off, rfl, hb, hcell⟩ := h hl'
    rw [Option.map_some, addoff]
    exact drop_rd h k hl
theorem cap_of {H : Type} {enc : TypeId × Value → H} {W : World} {a : Option Addr} {len cap : Nat} {d : DataW H} {p : List MemPlace} (h : DataW.Trod enc Tryd.prog W 0 (fun _ => true) true 22 (.slice a len cap) d p) : len ≤ cap := by
  obtain ⟨fuel, hf⟩ := h
  rcases open_ints Tryd.underlying22 Tryd.underlying5 cells5 hf with ⟨hcs, _⟩ | ⟨x, l, c, zs, hcs, _, hl, hm, hz, _, hcell, hwz⟩
  · simp [Value.cells] at hcs
    omega
  · simp [Value.cells] at hcs
    obtain ⟨rfl, rfl, rfl⟩ := hcs
    omega
theorem afterA {w wr w5 : World} {D : Nat} {p : List UInt8} {s s' : St} (hb5 : Below wr.drew.heap.size wr.drew w5) (hD : wr.heap[D]? = some (.cells s.row 36 (0, 0))) (hP : RowB wr w.heap.size p) (hbw : Below w.heap.size w wr) (hwD : w.heap.size < D) :
    D < w5.heap.size ∧ Hid ((w5.alloc (.cells s'.row 36)).heap[w5.heap.size]? = some (.cells s'.row 36 (0, 0))) ∧ Hid ((w5.alloc (.cells s'.row 36)).heap[D]? = some (.cells s.row 36 (0, 0))) ∧ Hid (RowB (w5.alloc (.cells s'.row 36)) w.heap.size p) ∧ Below w.heap.size w (w5.alloc (.cells s'.row 36)) := by
  have hDl : D < wr.heap.size := (Array.getElem?_eq_some_iff.1 hD).1
  have hb : Below wr.heap.size wr w5 := (Below.refl wr.heap.size wr).drew.trans hb5
  have hs := hb.size
  have hb2 : Below wr.heap.size wr (w5.alloc (.cells s'.row 36)) := hb.alloc hs _
  exact ⟨by omega, heap_alloc_new w5 _, (hb2.block D hDl).trans hD, (hb2.block _ (by omega)).trans hP, hbw.trans (hb2.mono hbw.size)⟩
theorem afterB {w wr w5 : World} {D : Nat} {p : List UInt8} {s s' : St} (hb5 : Below (wr.alloc (.cells zeroSt.row 36)).drew.heap.size (wr.alloc (.cells zeroSt.row 36)).drew w5) (hD : wr.heap[D]? = some (.cells s.row 36 (0, 0))) (hP : RowB wr w.heap.size p) (hbw : Below w.heap.size w wr) (hwD : w.heap.size < D) :
    D < wr.heap.size ∧ Hid ((store5W w5 wr.heap.size s').heap[wr.heap.size]? = some (.cells s'.row 36 (0, 0))) ∧ Hid ((store5W w5 wr.heap.size s').heap[D]? = some (.cells s.row 36 (0, 0))) ∧ Hid (RowB (store5W w5 wr.heap.size s') w.heap.size p) ∧ Below w.heap.size w (store5W w5 wr.heap.size s') := by
  have hDl : D < wr.heap.size := (Array.getElem?_eq_some_iff.1 hD).1
  have hz : w5.heap[wr.heap.size]? = some (.cells zeroSt.row 36 (0, 0)) := (hb5.block wr.heap.size (by simp)).trans (heap_alloc_new wr _)
  have hb : Below wr.heap.size wr w5 := ((Below.refl wr.heap.size wr).alloc (Nat.le_refl _) (.cells zeroSt.row 36)).drew.trans (hb5.mono (by simp))
  have hws := hbw.size
  exact ⟨hDl, store5 w5 _ zeroSt s' hz, (store5_other w5 _ s' D (by omega)).trans ((hb.block D hDl).trans hD), (store5_other w5 _ s' _ (by omega)).trans ((hb.block _ (by omega)).trans hP), store5_below (hbw.trans (hb.mono hws)) hws s'⟩
theorem zeroB {wr w5 : World} (hb5 : Below (wr.alloc (.cells zeroSt.row 36)).drew.heap.size (wr.alloc (.cells zeroSt.row 36)).drew w5) : w5.heap[wr.heap.size]? = some (.cells zeroSt.row 36 (0, 0)) :=
  (hb5.block wr.heap.size (by simp)).trans (heap_alloc_new wr _)
theorem keepB {wr w5 : World} {D : Nat} {s : St} (hb5 : Below (wr.alloc (.cells zeroSt.row 36)).drew.heap.size (wr.alloc (.cells zeroSt.row 36)).drew w5) (hD : wr.heap[D]? = some (.cells s.row 36 (0, 0))) : w5.heap[D]? = some (.cells s.row 36 (0, 0)) :=
  ((((Below.refl wr.heap.size wr).alloc (Nat.le_refl _) (.cells zeroSt.row 36)).drew.trans (hb5.mono (by simp))).block D (Array.getElem?_eq_some_iff.1 hD).1).trans hD
theorem keepA {wr w5 : World} {D : Nat} {s : St} (hb5 : Below wr.drew.heap.size wr.drew w5) (hD : wr.heap[D]? = some (.cells s.row 36 (0, 0))) : w5.heap[D]? = some (.cells s.row 36 (0, 0)) :=
  (((Below.refl wr.heap.size wr).drew.trans hb5).block D (Array.getElem?_eq_some_iff.1 hD).1).trans hD
abbrev stA (s : St) : Value := .agg #[.int .u32 s.a, .int .u32 s.b, .int .u32 s.c, .int .u32 s.d, .int .u32 s.e]
theorem blockAt (p : List UInt8) (i : Nat) (s T : St) (hs : s = foldS p (List.range i)) (hT : T = foldS p (List.range (i + 1))) (A : Option Addr) (c : Nat) (W : World) (hl : (pieceL p i).length = 64) (hr : Rd W A (pieceL p i)) :
    Calls Tryd.prog 26 #[stA s, .slice A 64 c] W fun e w' => e = .returned (.tuple #[stA T, .int .i64 0]) ∧ Below W.heap.size W w' := by
  have hok : s.ok := by rw [hs]; exact foldS_ok _ _
  have e : T = blockS (pieceL p i) s := by rw [hT, hs, List.range_succ]; exact foldS_snoc p (List.range i) i
  rw [e]
  exact block_any s A c (pieceL p i) W hok hl hr

set_option maxHeartbeats 4000000 in
theorem walk_in (A : Option Addr) (c : Nat) (l : List UInt8) (k : Nat) (w : World) (hn : l.length ≤ 3000) (hk : k ≤ l.length) (hnc : l.length ≤ c) (ha : Arg w (.slice A l.length c) l) (hr : Rd w A l) (hL : Laid w) :
    Calls Tryd.prog 10 #[.slice A l.length c, .int .i64 (k : Int)] w fun e w' => e = .returned (.bool true) ∧ Below w.heap.size w w' := by
  have HL := Lib.hid hL
  have HA := Lib.hid ha
  have HR := Lib.hid hr
  have hl : l.length ≤ 1000000 := by omega
  have da : decide ((l.length : Int) > 3000) = false := by simp; omega
  have dc0 : decide ((k : Int) < 0) = false := by simp
  have dc : decide ((k : Int) > (l.length : Int)) = false := by simp; omega
  have dcn : decide (l.length < k) = false := by simp; omega
  have dcm : ¬ l.length < k := by omega
  clear ha hr hL
  go_enter Tryd.func10, Tryd.ntmps10
  go_wp2_with fail
  refine (pad_any A c l w hl HR.out).mono ?_
  rintro e w1 ⟨rfl, hp1, hb1⟩
  go_wp2_with fail
  refine (start_any w1).mono ?_
  rintro e w2 ⟨rfl, hb2⟩
  have e0 : Value.agg first.row = .agg #[.int .u32 first.a, .int .u32 first.b, .int .u32 first.c, .int .u32 first.d, .int .u32 first.e] := rfl
  rw [e0]
  clear e0
  have HF : Hid (w2.alloc (.cells #[.int .u32 first.a, .int .u32 first.b, .int .u32 first.c, .int .u32 first.d, .int .u32 first.e] 36) = w2.alloc (.cells first.row 36)) := rfl
  generalize first.a = fa at *
  generalize first.b = fb at *
  generalize first.c = fc at *
  generalize first.d = fd at *
  generalize first.e = fe at *
  go_wp2_with fail
  rw [HF.out]
  have hb12 : Below w1.heap.size w1 (w2.alloc (.cells first.row 36)) := hb2.alloc hb2.size _
  have hws : w.heap.size ≤ w1.heap.size := hb1.size
  have hbw3 : Below w.heap.size w (w2.alloc (.cells first.row 36)) := hb1.trans (hb12.mono hws)
  have hp3 := rowB_below hp1 hb12
  have hst3 : (w2.alloc (.cells first.row 36)).heap[w2.heap.size]? = some (.cells first.row 36 (0, 0)) := heap_alloc_new w2 _
  have hlt1 : w.heap.size < w1.heap.size := (Array.getElem?_eq_some_iff.1 hp1).1
  have hlt2 : w1.heap.size ≤ w2.heap.size := hb2.size
  have hN := padN_mod l.length
  have hplen : (padL l).length = padN l.length := padL_len l
  have hge : l.length + 9 ≤ padN l.length := by unfold padN; omega
  have hm : padN l.length / 64 ≤ 20000 := by unfold padN noughts; omega
  have HD : Hid (digS l = hexS (foldS (padL l) (List.range (padN l.length / 64))) 5) := rfl
  generalize w2.alloc (.cells first.row 36) = w3 at *
  have hc1 := head_conv hp3 (padN l.length)
  have hc2 := (HA.out.below hbw3).conv
  have hc3 : ∀ q, (convert 22 9 (.slice (some ⟨w.heap.size, 0, none⟩) l.length (padN l.length))).run Tryd.prog (w3.drewN q) = .ok (.string ⟨l.toArray⟩) (w3.drewN q) := fun q => head_conv (show RowB (w3.drewN q) w.heap.size (padL l) from hp3) (padN l.length)
  have hc4 : ∀ q, (convert 22 9 (.slice A l.length c)).run Tryd.prog (w3.drewN q) = .ok (.string ⟨l.toArray⟩) (w3.drewN q) := fun q => (HA.out.below (Below.drewN' hbw3 q)).conv
  generalize padN l.length / 64 = m at *
  generalize padN l.length = P at *
  have d1 : ((P : Int) % 64 != 0) = false := by simp; omega
  have d2 : decide ((P : Int) < (l.length : Int) + 9) = false := by simp; omega
  have hw9 : IntKind.i64.wrap ((l.length : Int) + 9) = (l.length : Int) + 9 := IntWalk.i64_in _ (by omega)
  have hle : (l.length : Int) ≤ (P : Int) := by omega
  have hle2 : l.length ≤ P := by omega
  have HN := Lib.hid hN
  have HP := Lib.hid hplen
  have HM := Lib.hid hm
  clear hN hplen hge hm
  go_quiet (fail)
  have hbw4 := Below.drewN' hbw3 nq
  have hp4 : RowB (w3.drewN nq) w.heap.size (padL l) := hp3
  have hst4 : (w3.drewN nq).heap[w2.heap.size]? = some (.cells first.row 36 (0, 0)) := hst3
  generalize w3.drewN nq = w4 at *
  clear hc1 hc2 hc3 hc4 hp3 hst3 hbw3 d1 d2 hw9 hb12
  have hwD : w.heap.size < w2.heap.size := by omega
  generalize w2.heap.size = D at *
  go_wp2_with fail
  have HPW := Lib.hid hp4
  have HST := Lib.hid hst4
  clear hp4 hst4 hp1
  go_loopw [7] (fun x wr => ∃ i a : Nat, i ≤ m ∧ Hid (a = 64 * i) ∧ x = .int .i64 (a : Int) ∧ Hid (wr.heap[D]? = some (.cells (foldS (padL l) (List.range i)).row 36 (0, 0))) ∧ Hid (RowB wr w.heap.size (padL l)) ∧ Below w.heap.size w wr) (fun x _ => 3000000 - (intOf x).toNat)
  case atStart => exact ⟨0, 0, Nat.zero_le _, rfl, rfl, HST, HPW, hbw4⟩
  case round =>
    obtain ⟨i, a, hi, HAI, rfl, HS, HPR, hbw⟩ := hrel
    have hai := HAI.out
    have hPm := HN.out
    have hmm := HM.out
    by_cases hlt : i < m
    · have e1 : decide ((a : Int) < (P : Int)) = true := by simp; omega
      have hle64 : (a : Int) + 64 ≤ (P : Int) := by omega
      have hw64 : IntKind.i64.wrap ((a : Int) + 64) = (a : Int) + 64 := IntWalk.i64_in _ (by omega)
      have hwn64 : a + 64 ≤ P := by omega
      have ha64 : a + 64 - a = 64 := by omega
      obtain ⟨y0, y1, y2, y3, y4⟩ := row36 wr _ _ HS.out
      have hpl : (pieceL (padL l) i).length = 64 := pieceL_len _ m i (by rw [HP.out, hPm]) hlt
      have hDlt : D < wr.heap.size := (Array.getElem?_eq_some_iff.1 HS.out).1
      have hrd : Rd (wr.alloc (.cells zeroSt.row 36)).drew (some ⟨w.heap.size, a, none⟩) (pieceL (padL l) i) := by
        rw [hai]; exact pieceL_rd (show RowB (wr.alloc (.cells zeroSt.row 36)).drew w.heap.size (padL l) from (heap_alloc_old wr _ (by omega)).trans HPR.out) i
      have HPL := Lib.hid hpl
      have HRD := Lib.hid hrd
      have hrd2 : Rd wr.drew (some ⟨w.heap.size, a, none⟩) (pieceL (padL l) i) := by
        rw [hai]; exact pieceL_rd (show RowB wr.drew w.heap.size (padL l) from HPR.out) i
      have HRD2 := Lib.hid hrd2
      clear hpl hrd hrd2
      clear hai hPm hmm
      go_wp2_with fail
      have hN0 : Hid (first = first) := rfl
      obtain ⟨sN, hsN⟩ : ∃ sN, sN = foldS (padL l) (List.range i) := ⟨_, rfl⟩
      obtain ⟨sT, hsT⟩ : ∃ sT, sT = foldS (padL l) (List.range (i + 1)) := ⟨_, rfl⟩
      have HB1 : Hid (Calls Tryd.prog 26 #[.agg #[.int .u32 sN.a, .int .u32 sN.b, .int .u32 sN.c, .int .u32 sN.d, .int .u32 sN.e], .slice (some ⟨w.heap.size, a, none⟩) 64 (P - a)] wr.drew fun e w' => e = .returned (.tuple #[.agg #[.int .u32 sT.a, .int .u32 sT.b, .int .u32 sT.c, .int .u32 sT.d, .int .u32 sT.e], .int .i64 0]) ∧ Below wr.drew.heap.size wr.drew w') := blockAt (padL l) i sN sT hsN hsT _ _ _ HPL.out HRD2.out
      have HB2 : Hid (Calls Tryd.prog 26 #[.agg #[.int .u32 sN.a, .int .u32 sN.b, .int .u32 sN.c, .int .u32 sN.d, .int .u32 sN.e], .slice (some ⟨w.heap.size, a, none⟩) 64 (P - a)] (wr.alloc (.cells #[.int .u32 0, .int .u32 0, .int .u32 0, .int .u32 0, .int .u32 0] 36)).drew fun e w' => e = .returned (.tuple #[.agg #[.int .u32 sT.a, .int .u32 sT.b, .int .u32 sT.c, .int .u32 sT.d, .int .u32 sT.e], .int .i64 0]) ∧ Below (wr.alloc (.cells zeroSt.row 36)).drew.heap.size (wr.alloc (.cells zeroSt.row 36)).drew w') := blockAt (padL l) i sN sT hsN hsT _ _ _ HPL.out HRD.out
      have HS' : Hid (wr.heap[D]? = some (.cells sN.row 36 (0, 0))) := by rw [hsN]; exact HS
      have HST2 := Lib.hid hsT
      clear hsN hsT hN0 HS y0 y1 y2 y3 y4
      obtain ⟨y0, y1, y2, y3, y4⟩ := row36 wr _ _ HS'.out
      have HS := HS'
      go_cut [8, 9] from 50 to 69 (fun p e wx => ∃ G s', p = .pointer (some ⟨G, 0, none⟩) ∧ e = .int .i64 0 ∧ Hid (s' = foldS (padL l) (List.range (i + 1))) ∧ D < G ∧ Hid (wx.heap[G]? = some (.cells s'.row 36 (0, 0))) ∧ Hid (wx.heap[D]? = some (.cells sN.row 36 (0, 0))) ∧ Hid (RowB wx w.heap.size (padL l)) ∧ Below w.heap.size w wx)
      case first =>
        have hA0 : (0 : Int) ≤ (a : Int) + 64 := by omega
        have hA1 : (a : Int) ≤ (a : Int) + 64 := by omega
        have hA2 : ((a : Int) + 64).toNat = a + 64 := by omega
        have hA3 : ¬ P = a := by omega
        have hA4 : (0 : Int) ≤ (a : Int) := by omega
        have HHS := HS
        have hwD2 := Lib.hid hwD
        have HBW := Lib.hid hbw
        go_region_held3 (fun W => W.cell? ⟨D, 0, none⟩ = some (.int .u32 sN.a) ∧ W.cell? ⟨D, 1, none⟩ = some (.int .u32 sN.b) ∧ W.cell? ⟨D, 2, none⟩ = some (.int .u32 sN.c) ∧ W.cell? ⟨D, 3, none⟩ = some (.int .u32 sN.d) ∧ W.cell? ⟨D, 4, none⟩ = some (.int .u32 sN.e))
          (first | go_keep | assumption | (dsimp only; assumption))
          (first
            | (go_at_call 26
               with_reducible (refine HB1.out.mono ?_)
               rintro e w5 ⟨rfl, hb5⟩
               have HRES := Lib.hid (afterA (s' := sT) hb5 HHS.out HPR.out HBW.out hwD2.out)
               obtain ⟨q0, q1, q2, q3, q4⟩ := row36 w5 D _ (keepA hb5 HHS.out)
               have hDw5 : D < w5.heap.size := (Array.getElem?_eq_some_iff.1 (keepA hb5 HHS.out)).1)
            | (go_at_call 26
               with_reducible (refine HB2.out.mono ?_)
               rintro e w5 ⟨rfl, hb5⟩
               have HRES := Lib.hid (afterB (s' := sT) hb5 HHS.out HPR.out HBW.out hwD2.out)
               obtain ⟨q0, q1, q2, q3, q4⟩ := row36 w5 D _ (keepB hb5 HHS.out)
               obtain ⟨x0, x1, x2, x3, x4⟩ := row36 w5 _ _ (zeroB hb5)
               have hf5 : ∀ q, w5.frozen? ⟨wr.heap.size, q, none⟩ = false := fun q => frozen_of_row w5 _ q _ 36 (zeroB hb5)
               have hne : ¬ D = wr.heap.size := by omega
               have hkB := row36 (store5W w5 wr.heap.size sT) D sN HRES.out.2.2.1.out
               unfold store5W at hkB))
        all_goals go_wp2_with fail
        all_goals go_meet
        all_goals exact ⟨_, _, rfl, rfl, HST2, HRES.out⟩
      case rest =>
        obtain ⟨G, s', rfl, rfl, HE, hDG, HG, HD6, HP6, hbw6⟩ := hcut
        obtain ⟨x0, x1, x2, x3, x4⟩ := row36 wc _ _ HG.out
        clear y0 y1 y2 y3 y4
        obtain ⟨y0, y1, y2, y3, y4⟩ := row36 wc _ _ HD6.out
        have hf6 : ∀ q, wc.frozen? ⟨D, q, none⟩ = false := fun q => frozen_of_row wc _ q _ 36 HD6.out
        go_wp2_with (go_at_call 20; refine (num_any 0 _).mono ?_; rintro e w' ⟨rfl, rfl⟩)
        go_roundw
        case rel =>
          refine ⟨i + 1, a + 64, by omega, by have := HAI.out; show _ = _; omega, by go_num, ?_, ?_, ?_⟩
          · rw [← HE.out]
            exact store5 wc D _ s' HD6.out
          · exact (store5_other wc D s' _ (by omega)).trans HP6.out
          · exact store5_below hbw6 (by omega) s'
        case measure => simp [intOf]; have := HN.out; have := HM.out; omega
    · obtain rfl : i = m := by omega
      have e1 : decide ((a : Int) < (P : Int)) = false := by simp; omega
      have e2 : decide (a < P) = false := by simp; omega
      have e3 : ¬ a < P := by omega
      have hDlt : D < wr.heap.size := (Array.getElem?_eq_some_iff.1 HS.out).1
      clear hai hPm hmm
      go_wp2_with fail
      refine (digest_any A c l wr hl (HR.out.below hbw) (HL.out.below hbw).2.1).mono ?_
      rintro e w7 ⟨rfl, hb7⟩
      have hbw7 : Below w.heap.size w w7 := hbw.trans (hb7.mono hbw.size)
      have hS7 : w7.heap[D]? = some (.cells (foldS (padL l) (List.range i)).row 36 (0, 0)) := (hb7.block D hDlt).trans HS.out
      have hok := foldS_ok (padL l) (List.range i)
      obtain ⟨str, hstr⟩ : ∃ str : ByteArray, str = ⟨(digS l).toArray⟩ := ⟨_, rfl⟩
      rw [← hstr]
      have ht : (⟨(hexS (foldS (padL l) (List.range i)) 5).toArray⟩ : ByteArray) = str := by rw [hstr, HD.out]
      have hsz : str.size ≤ maxLen := by
        rw [← ht]
        show (hexS (foldS (padL l) (List.range i)) 5).toArray.size ≤ maxLen
        rw [List.size_toArray, hexS_len]; decide
      have hdig : isDig str.data.toList = true := by rw [← ht]; exact hexS_dig _
      generalize foldS (padL l) (List.range i) = st at *
      obtain ⟨y0, y1, y2, y3, y4⟩ := row36 w7 _ _ hS7
      have HT := Lib.hid ht
      have HSZ := Lib.hid hsz
      have HDI := Lib.hid hdig
      have HOK := Lib.hid hok
      have h37 : w7.drew.cell? ⟨3, 15, none⟩ = some (.int .u8 4) := (HL.out.below hbw7).2.1
      have H37 := Lib.hid h37
      have hsum := Lib.hid (two_parts l k)
      have h37' : ∀ x : InW (Grown w7), x.w.cell? ⟨3, 15, none⟩ = some (.int .u8 4) := fun x => ((HL.out.below hbw7).below x.h).2.1
      have hDlt7 : D < w7.heap.size := Nat.lt_of_lt_of_le hDlt hb7.size
      have z0 : ∀ x : InW (Grown w7), x.w.cell? ⟨D, 0, none⟩ = some (.int .u32 st.a) := fun x => (x.h.cell (p := ⟨D, 0, none⟩) hDlt7).trans y0
      have z1 : ∀ x : InW (Grown w7), x.w.cell? ⟨D, 1, none⟩ = some (.int .u32 st.b) := fun x => (x.h.cell (p := ⟨D, 1, none⟩) hDlt7).trans y1
      have z2 : ∀ x : InW (Grown w7), x.w.cell? ⟨D, 2, none⟩ = some (.int .u32 st.c) := fun x => (x.h.cell (p := ⟨D, 2, none⟩) hDlt7).trans y2
      have z3 : ∀ x : InW (Grown w7), x.w.cell? ⟨D, 3, none⟩ = some (.int .u32 st.d) := fun x => (x.h.cell (p := ⟨D, 3, none⟩) hDlt7).trans y3
      have z4 : ∀ x : InW (Grown w7), x.w.cell? ⟨D, 4, none⟩ = some (.int .u32 st.e) := fun x => (x.h.cell (p := ⟨D, 4, none⟩) hDlt7).trans y4
      have hLx : ∀ x : InW (Grown w7), Hid (Laid x.w) := fun x => (HL.out.below hbw7).below x.h
      have hRx : ∀ x : InW (Grown w7), Hid (Rd x.w A l) := fun x => (HR.out.below hbw7).below x.h
      have hk0 : (0 : Int) ≤ (k : Int) := by omega
      have hkn : (k : Int) ≤ (l.length : Int) := by omega
      have hkc : (k : Int) ≤ (c : Int) := by omega
      have hncI : (l.length : Int) ≤ (c : Int) := by omega
      have HIN : Nonempty (InW (Grown w7)) := ⟨⟨w7, Below.refl _ _⟩⟩
      clear ht hsz hdig hok h37 hstr hS7 y0 y1 y2 y3 y4 H37
      have hn1 : (l.take k).length = k := by simp; omega
      have hn2 : (l.drop k).length = l.length - k := by simp
      have H29 : Hid (∀ x : InW (Grown w7), Calls Tryd.prog 29 #[.agg #[.int .u32 st.a, .int .u32 st.b, .int .u32 st.c, .int .u32 st.d, .int .u32 st.e]] x.w (RetIn (Grown w7) (.string str))) := fun x => by
        rw [← HT.out]; exact ret_below (text_any st x.w HOK.out (hLx x).out.2.1)
      have H34 : Hid (∀ x : InW (Grown w7), Calls Tryd.prog 34 #[.string str] x.w (RetIn (Grown w7) (.bool true))) := fun x => by
        rw [← HDI.out]; exact ret_same (is_any str x.w HSZ.out)
      have H14 : Hid (∀ x : InW (Grown w7), Calls Tryd.prog 14 #[.slice A k c] x.w (RetIn (Grown w7) (.int .u32 (inv (crcL (inv 0) (l.take k)) : Nat)))) := fun x =>
        ret_below (crc_len A c (l.take k) k x.w hn1 (by omega) (part_rd (hRx x).out k) (hLx x).out.1 (by have := (hLx x).out.2.2; omega))
      have H17 : Hid (∀ x : InW (Grown w7), Calls Tryd.prog 17 #[.int .u32 (inv (crcL (inv 0) (l.take k)) : Nat), .slice (if c = k then A else Option.map (fun x => x.add k) A) (l.length - k) (c - k)] x.w (RetIn (Grown w7) (.int .u32 (inv (crcL (inv 0) l) : Nat)))) := fun x => by
        rw [← hsum.out]
        exact ret_below (upd_len _ _ _ (l.drop k) (l.length - k) x.w (sum_ltP _) hn2 (by omega) (drop_any (hRx x).out hnc k) (hLx x).out.1 (by have := (hLx x).out.2.2; omega))
      have H14b : Hid (∀ x : InW (Grown w7), Calls Tryd.prog 14 #[.slice A l.length c] x.w (RetIn (Grown w7) (.int .u32 (inv (crcL (inv 0) l) : Nat)))) := fun x =>
        ret_below (crc_any A c l x.w hl (hRx x).out (hLx x).out.1 (by have := (hLx x).out.2.2; omega))
      have H12 : Hid (∀ x : InW (Grown w7), Calls Tryd.prog 12 #[] x.w (RetIn (Grown w7) (.bool true))) := fun x => ret_below (works_any x.w (hLx x).out)
      clear hn1 hn2
      go_wp2_with fail
      refine region_in (Grown w7) (by kernel_rfl) (by kernel_rfl) (Below.refl _ _).drew ?_
      repeat (go_big_quiet_step ((rename_i x; with_reducible (first | exact H29.out x | exact H34.out x | exact H14.out x | exact H17.out x | exact H14b.out x | exact H12.out x))))
      refine wpQuiet_nil ?_
      rintro _ ⟨x, rfl⟩
      have hbx := hbw7.trans (x.h.mono hbw7.size)
      go_wp2
      all_goals go_ret
      all_goals exact ⟨rfl, hbx⟩
end Go.Proofs.YtecioakbgggdfaaDoor.sumsParts
