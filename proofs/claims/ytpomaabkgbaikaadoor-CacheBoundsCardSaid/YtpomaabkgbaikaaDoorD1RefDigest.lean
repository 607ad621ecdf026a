/- The reference's digest of bytes: the same plain function as the program's. -/
import Derived.Test.YtpomaabkgbaikaaDoorD1RefCap
import Derived.Test.YtpomaabkgbaikaaDoorD1RefBlock
import Derived.Test.YtpomaabkgbaikaaDoorD1Digest
import Derived.Deep.RegionWith
import Derived.Deep.RegionLaw
import Derived.BigRegion
namespace Go.Proofs.YtpomaabkgbaikaaDoor.Dg
open Go Go.RowKit

set_option maxRecDepth 100000 in
theorem rdrop {w : World} {g : Nat} {p : List UInt8} (h : Rd w (some ⟨g, 0, none⟩) p) (hp : 0 < p.length) (m k a : Nat) (hm : p.length = 64 * m) (hk : k < m) (ha : a = 64 * k) : Rd w (some ⟨g, a, none⟩) (pieceL p k) := by
  intro _
  obtain ⟨b', off', he, hb, hc⟩ := h hp
  cases he
  refine ⟨g, a, rfl, hb, fun j hj => ?_⟩
  have hl := pieceL_len p m k hm hk
  have hj' : 64 * k + j < p.length := by omega
  have := hc (64 * k + j) hj'
  rw [Nat.zero_add] at this
  rw [ha, this]
  simp [pieceL]
set_option maxRecDepth 100000 in
theorem rd_keeps {w : World} {g D : Nat} {p : List UInt8} (s : St) (hne : g ≠ D) (h : Rd w (some ⟨g, 0, none⟩) p) : Rd (store5W w D s) (some ⟨g, 0, none⟩) p := by
  intro hl
  obtain ⟨b', off', he, hb, hc⟩ := h hl
  cases he
  have hs : (store5W w D s).heap.size = w.heap.size := by simp [store5W, World.setCell]
  refine ⟨g, 0, rfl, by rw [hs]; exact hb, fun j hj => ?_⟩
  rw [← hc j hj]
  unfold store5W
  have e : ∀ (w : World) (q : Nat) (v : Value), (w.setCell ⟨D, q, none⟩ v).cell? ⟨g, 0 + j, none⟩ = w.cell? ⟨g, 0 + j, none⟩ := fun w q v => by
    unfold World.cell?
    rw [heap_setCell_other _ _ _ _ hne]
  rw [e, e, e, e, e]
set_option maxRecDepth 100000 in
theorem rblockAt (p : List UInt8) (i : Nat) (s T : St) (hs : s = foldS p (List.range i)) (hT : T = foldS p (List.range (i + 1))) (A : Option Addr) (c : Nat) (W : World) (hl : (pieceL p i).length = 64) (hr : Rd W A (pieceL p i)) :
    Calls Tryd.prog 54 #[.agg #[.int .u32 s.a, .int .u32 s.b, .int .u32 s.c, .int .u32 s.d, .int .u32 s.e], .slice A 64 c] W fun e w' => e = .returned (.agg #[.int .u32 T.a, .int .u32 T.b, .int .u32 T.c, .int .u32 T.d, .int .u32 T.e]) ∧ Below W.heap.size W w' := by
  have hok : s.ok := by rw [hs]; exact foldS_ok _ _
  have e : T = blockS (pieceL p i) s := by rw [hT, hs, List.range_succ]; exact foldS_snoc p (List.range i) i
  rw [e]
  exact rblock_any s A c (pieceL p i) W hok hl hr

set_option maxHeartbeats 2000000 in
set_option maxRecDepth 100000 in
theorem rdigest_any (v : Value) (l : List UInt8) (w : World) (hl : l.length ≤ 1000000) (hu : Arg w v l) :
    Calls Tryd.prog 39 #[v] w fun e w' => e = .returned (.string ⟨(digS l).toArray⟩) ∧ Below w.heap.size w w' := by
  have HU := Lib.hid hu
  clear hu
  go_enter Tryd.func39, Tryd.ntmps39
  go_wp2_with fail
  refine (rstart_any w).mono ?_
  rintro e w1 ⟨rfl, hb1⟩
  have e0 : Value.agg first.row = .agg #[.int .u32 first.a, .int .u32 first.b, .int .u32 first.c, .int .u32 first.d, .int .u32 first.e] := rfl
  rw [e0]
  clear e0
  have HF : Hid (w1.alloc (.cells #[.int .u32 first.a, .int .u32 first.b, .int .u32 first.c, .int .u32 first.d, .int .u32 first.e] 90) = w1.alloc (.cells first.row 90)) := rfl
  generalize first.a = fa at *
  generalize first.b = fb at *
  generalize first.c = fc at *
  generalize first.d = fd at *
  generalize first.e = fe at *
  go_wp2_with fail
  rw [HF.out]
  have hb12 : Below w.heap.size w (w1.alloc (.cells first.row 90)) := hb1.alloc hb1.size _
  have hst2 : (w1.alloc (.cells first.row 90)).heap[w1.heap.size]? = some (.cells first.row 90 (0, 0)) := heap_alloc_new w1 _
  have hsz2 : w1.heap.size < (w1.alloc (.cells first.row 90)).heap.size := by simp
  generalize w1.alloc (.cells first.row 90) = w2 at *
  have hD0 := hb1.size
  generalize w1.heap.size = D at *
  refine (rcap_any v l w2 hl (HU.out.below hb12)).mono ?_
  rintro e w3 ⟨v3, rfl, ⟨g, cap, rfl, hcap, hg, hrd⟩, hb3⟩
  have hst3 : w3.heap[D]? = some (.cells first.row 90 (0, 0)) := (hb3.block D hsz2).trans hst2
  have hbw3 : Below w.heap.size w w3 := hb12.trans (hb3.mono hb12.size)
  have hN := padN_mod l.length
  have hplen : (padL l).length = padN l.length := padL_len l
  have hm : padN l.length / 64 ≤ 20000 := by unfold padN noughts; omega
  have hpos : 0 < (padL l).length := by rw [padL_len]; unfold padN; omega
  have hne : g ≠ D := by omega
  have HD : Hid (digS l = hexS (foldS (padL l) (List.range (padN l.length / 64))) 5) := rfl
  rw [hplen]
  rw [hplen] at hcap hpos
  generalize padN l.length / 64 = m at *
  generalize padN l.length = P at *
  have HN := Lib.hid hN
  have HP := Lib.hid hplen
  have HM := Lib.hid hm
  have HST := Lib.hid hst3
  have HRD := Lib.hid hrd
  have HPOS := Lib.hid hpos
  clear hN hplen hm hst3 hrd hst2 hb12 hb3 hsz2 hg hpos
  go_wp2_with fail
  go_loopw [5] (fun x wr => ∃ k a : Nat, k ≤ m ∧ Hid (a = 64 * k) ∧ x = .int .i64 (a : Int) ∧ Hid (wr.heap[D]? = some (.cells (foldS (padL l) (List.range k)).row 90 (0, 0))) ∧ Hid (Rd wr (some ⟨g, 0, none⟩) (padL l)) ∧ Below w.heap.size w wr) (fun x _ => 3000000 - (intOf x).toNat)
  case atStart => exact ⟨0, 0, Nat.zero_le _, rfl, rfl, HST, HRD, hbw3⟩
  case round =>
    clear HST HRD hbw3
    obtain ⟨k, a, hk, HA, rfl, HS, HR, hbw⟩ := hrel
    have hN := HN.out
    have ha := HA.out
    have hm := HM.out
    by_cases hlt : k < m
    · have haP : a + 64 ≤ P := by omega
      have haI : (a : Int) + 64 ≤ (P : Int) := by omega
      have haC : (a : Int) + 64 ≤ (cap : Int) := by omega
      have hd : decide ((a : Int) < (P : Int)) = true := by simp; omega
      have hd2 : (a : Int) < (P : Int) := by omega
      have h0 : (0 : Int) ≤ (a : Int) := by omega
      have h1 : (a : Int) ≤ (a : Int) + 64 := by omega
      have h2 : (0 : Int) ≤ (a : Int) + 64 := by omega
      have hn64 : ((a : Int) + 64).toNat = a + 64 := by omega
      have hw64 : IntKind.i64.wrap ((a : Int) + 64) = (a : Int) + 64 := IntWalk.i64_in _ (by omega)
      have h64 : a + 64 - a = 64 := by omega
      have hca : ¬ cap = a := by omega
      have hbig : Hid (a < 3000000) := by show _ < _; omega
      have HPC := Lib.hid (rdrop HR.out (by rw [HP.out]; exact HPOS.out) m k a (by rw [HP.out]; exact hN) hlt ha)
      have HPL := Lib.hid (pieceL_len (padL l) m k (by rw [HP.out]; exact hN) hlt)
      obtain ⟨sN, hsN⟩ : ∃ sN, sN = foldS (padL l) (List.range k) := ⟨_, rfl⟩
      obtain ⟨sT, hsT⟩ : ∃ sT, sT = foldS (padL l) (List.range (k + 1)) := ⟨_, rfl⟩
      have HB : Hid (Calls Tryd.prog 54 #[.agg #[.int .u32 sN.a, .int .u32 sN.b, .int .u32 sN.c, .int .u32 sN.d, .int .u32 sN.e], .slice (some ⟨g, a, none⟩) 64 (cap - a)] wr.drew fun e w' => e = .returned (.agg #[.int .u32 sT.a, .int .u32 sT.b, .int .u32 sT.c, .int .u32 sT.d, .int .u32 sT.e]) ∧ Below wr.drew.heap.size wr.drew w') := rblockAt (padL l) k sN sT hsN hsT _ _ wr.drew HPL.out HPC.out
      have HS' : Hid (wr.heap[D]? = some (.cells sN.row 90 (0, 0))) := by rw [hsN]; exact HS.out
      have HST2 := Lib.hid hsT
      obtain ⟨y0, y1, y2, y3, y4⟩ := row36 wr _ _ HS'.out
      have HDl := Lib.hid (Array.getElem?_eq_some_iff.1 HS'.out).1
      clear hN ha hm hsN hsT HS
      go_wp2_with fail
      go_region_with (first
        | (go_at_call 54
           with_reducible (refine HB.out.mono ?_)
           rintro e w5 ⟨rfl, hb5⟩
           have hbw5 : Below w.heap.size w w5 := hbw.trans (((Below.refl wr.heap.size wr).drew.trans hb5).mono hbw.size)
           have hd5 : w5.heap[D]? = some (.cells sN.row 90 (0, 0)) := (((Below.refl wr.heap.size wr).drew.trans hb5).block D HDl.out).trans HS'.out
           have HR5 := Lib.hid (HR.out.below ((Below.refl wr.heap.size wr).drew.trans hb5))
           have HD5 := Lib.hid hd5
           obtain ⟨q0, q1, q2, q3, q4⟩ := row36 w5 D _ hd5
           have hf5 : ∀ q, w5.frozen? ⟨D, q, none⟩ = false := fun q => frozen_of_row w5 _ q _ 90 hd5
           clear hd5 y0 y1 y2 y3 y4))
      go_wp2
      go_roundw
      case rel =>
        refine ⟨k + 1, a + 64, by omega, (by have := HA.out; show _ = _; omega), by go_num, ?_, ?_, ?_⟩
        · rw [← HST2.out]
          exact store5 w5 D sN sT HD5.out
        · exact rd_keeps sT hne HR5.out
        · exact store5_below hbw5 hD0 sT
      case measure => simp [intOf]; have := hbig.out; omega
    · obtain rfl : k = m := by omega
      have hd : decide ((a : Int) < (P : Int)) = false := by simp; omega
      have hd2 : ¬ a < P := by omega
      have HOK := Lib.hid (foldS_ok (padL l) (List.range k))
      have hl3 : Hid (digS l = hexS (foldS (padL l) (List.range k)) 5) := HD
      clear HD
      generalize foldS (padL l) (List.range k) = st at *
      obtain ⟨y0, y1, y2, y3, y4⟩ := row36 wr _ _ HS.out
      clear hN ha hm
      go_wp2_with fail
      refine (rtext_any st wr HOK.out).mono ?_
      rintro e w6 ⟨rfl, hb6⟩
      rw [← hl3.out]
      have hfin : Below w.heap.size w w6 := hbw.trans (hb6.mono hbw.size)
      go_wp2
      go_ret
      exact ⟨rfl, hfin⟩
end Go.Proofs.YtpomaabkgbaikaaDoor.Dg
