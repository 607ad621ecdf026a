/- The reference's crash. -/
import Derived.Test.YtcfglgejjmapdaaPair
import Derived.BigQuiet
namespace Go.Proofs.Ytcfglgejjmapdaa
open Go Go.RowKit Go.Shelf
theorem crash_next {keep : List Int} {l : List F} {k : Nat} {x : F} (hxt : l.take (k + 1) = l.take k ++ [x]) (hk : k < l.length) : crashL keep (l.take (k + 1)) = crashL keep (l.take k) ++ [crashAt keep k x] := by
  rw [hxt, crashL_snoc, List.length_take, Nat.min_eq_left (by omega)]
set_option maxRecDepth 100000 in
set_option maxHeartbeats 8000000 in
theorem rcrash_any (A : Option Addr) (n c : Nat) (ls : List F) (Ak : Option Addr) (nk ck : Nat) (lk : List Int) (w : World) (hn : ls.length = n) (bn : n ≤ 100000) (ha : RdF w A ls) (hs : fineL ls) (hnk : lk.length = nk) (hmk : nk ≤ 9223372036854775807) (hrk : RdV w Ak (intsV lk)) :
    Calls Try.prog 28 #[.slice A n c, .slice Ak nk ck] w (TellQ w (crashL lk ls)) := by
  have HN := Lib.hid hn
  have HA := Lib.hid ha
  have HS := Lib.hid hs
  have HNK := Lib.hid hnk
  have HRK := Lib.hid hrk
  clear hn ha hs hnk hrk
  go_enter Try.func28, Try.ntmps28
  go_wp2_with fail
  go_loopw [5, 6] (fun v i W => ∃ k : Nat, k ≤ n ∧ i = .int .i64 k ∧ Hid (W.ownsRow w.heap.size 27 3 v (crashL lk (ls.take k)).length (cellsF (crashL lk (ls.take k)))) ∧ Hid (Below w.heap.size w W)) (fun _ i _ => n - (intOf i).toNat)
  case atStart => exact ⟨0, Nat.zero_le _, rfl, Lib.hid (World.ownsRow_nil _ _ _ _), Lib.hid (Below.refl _ _)⟩
  case round =>
    obtain ⟨k, hk, rfl, HO, HB⟩ := hrel
    by_cases hlt : k < n
    · have hkn : k < ls.length := by have := HN.out; omega
      obtain ⟨b, off, rfl, hbb, k0, k1, k2⟩ := (HA.out.below HB.out).at hkn
      obtain ⟨x, hx, hxt⟩ := fil_at hkn
      have hxm := HS.out.2 _ (List.getElem_mem hkn)
      rw [hx] at k0 k1 k2 hxm
      obtain ⟨_, hs0, hs1, hs2⟩ := hxm
      obtain ⟨xn, xb, xs⟩ := x
      simp only at k0 k1 k2 hs0 hs1 hs2
      obtain ⟨sn, rfl⟩ : ∃ sn : Nat, xs = sn := ⟨xs.toNat, by omega⟩
      have hle : sn ≤ xb.size := by omega
      have hcl : (crashL lk (ls.take k)).length = k := by rw [crashL_len, List.length_take]; omega
      have HNX := Lib.hid (crash_next (keep := lk) hxt hkn)
      obtain ⟨mo, hmo⟩ : ∃ mo, moreAt lk k ⟨xn, xb, (sn : Int)⟩ = mo := ⟨_, rfl⟩
      have hmle : sn + mo ≤ xb.size := by have := moreAt_le (keep := lk) (i := k) (f := ⟨xn, xb, (sn : Int)⟩) (by simp) (by simpa using hs1); simp only [hmo, Int.toNat_natCast] at this; exact this
      have hca : crashAt lk k ⟨xn, xb, (sn : Int)⟩ = ⟨xn, xb.extract 0 (sn + mo), ((sn + mo : Nat) : Int)⟩ := by unfold crashAt cutF; simp only [Int.toNat_natCast]; rw [hmo, extract_take]
      obtain ⟨m, hm⟩ : ∃ m, sn + mo = m := ⟨_, rfl⟩
      rw [hm] at hca hmle
      have hxe : (xb.extract 0 m).size = m := by simp [ByteArray.size_extract]; omega
      have HCA := Lib.hid hca
      clear hca
      have hw1 : IntKind.i64.wrap ((xb.size : Int) - (sn : Int)) = (xb.size : Int) - (sn : Int) := IntWalk.i64_in _ (by omega)
      have hw2 : IntKind.i64.wrap ((sn : Int) + (mo : Int)) = (m : Int) := by rw [IntWalk.i64_in _ (by omega)]; omega
      clear hx hxt HA
      by_cases hkk : k < nk
      · have hkl : k < lk.length := by have := HNK.out; omega
        obtain ⟨b2, off2, rfl, hb2, hkv⟩ := rdI_at (HRK.out.below HB.out) hkl
        obtain ⟨kp, hkp⟩ : ∃ kp, lk[k] = kp := ⟨_, rfl⟩
        rw [hkp] at hkv
        have hmi : max 0 (min kp ((xb.size : Int) - (sn : Int))) = (mo : Int) := by
          rw [← hmo]; unfold moreAt; rw [dif_pos hkl, hkp]; simp only; omega
        clear hkp hmo
        go_upto_region 8 with (fail)
        go_quiet (fail)
        generalize nq = q1
        have HQB : Hid (Below wr.heap.size wr (wr.drewN q1)) := Lib.hid (below_any q1 (Below.refl _ _))
        have HBQ : Hid (Below w.heap.size w (wr.drewN q1)) := Lib.hid (below_any q1 HB.out)
        have k0q := cell_drew q1 k0
        have k1q := cell_drew q1 k1
        have k2q := cell_drew q1 k2
        clear hm
        clear hmi hkv hw1 HRK
        go_upto_region 8 with (fail)
        go_quiet (fail)
        generalize nq = q2
        generalize xb.extract 0 m = xe at HCA hxe ⊢
        have HB3 : Hid (Below w.heap.size w (wr.drewN (q1 + q2))) := Lib.hid (below_any (q1 + q2) HB.out)
        have hW := below_new (wr.drewN (q1 + q2)) (.cells #[.string xn, .string xe, .int .i64 (m : Nat)] 27)
        have HO2 := Lib.hid (own_belows HO.out ((below_any (q1 + q2) (Below.refl _ _)).trans hW))
        have HR := Lib.hid (file_new (wr.drewN (q1 + q2)) ⟨xn, xe, (m : Nat)⟩)
        have HB2 := Lib.hid (HB3.out.alloc HB3.out.size (.cells #[.string xn, .string xe, .int .i64 (m : Nat)] 27))
        clear hW
        go_wp2_with (at_builtin; refine wpList_files rfl (.tmp 50) (.tmp 60) rfl w.heap.size _ _ _ rfl rfl HO2.out (some ⟨(wr.drewN (q1 + q2)).heap.size, 0, none⟩) 1 1 [⟨xn, xe, (m : Nat)⟩] rfl rfl HR.out (fun e => by cases e) (Nat.le_refl _) (by omega) HB2.out.size (fun ad e => by cases e; rfl) ?_; intro v7 w7 ho7 hb7 hs7; have HO7 := Lib.hid ho7; have HB7 := Lib.hid (HB2.out.trans hb7); clear ho7 hb7 hs7)
        go_roundw
        case rel => exact ⟨k + 1, by omega, by go_num, by rw [HNX.out, HCA.out, List.length_append]; exact HO7, HB7⟩
        case measure => simp [intOf]; omega
      · have HQB : Hid (Below wr.heap.size wr wr) := Lib.hid (Below.refl _ _)
        have HBQ := HB
        obtain rfl : mo = 0 := by rw [← hmo]; exact moreAt_none (by have := HNK.out; omega)
        clear hmo HRK hw1
        rw [show ((0 : Nat) : Int) = 0 from rfl] at hw2
        obtain rfl : m = sn := by omega
        clear hm
        go_upto_region 8 with (fail)
        go_quiet (fail)
        generalize nq = q2
        generalize xb.extract 0 m = xe at HCA hxe ⊢
        have HB3 : Hid (Below w.heap.size w (wr.drewN q2)) := Lib.hid (below_any q2 HBQ.out)
        have hW := below_new (wr.drewN q2) (.cells #[.string xn, .string xe, .int .i64 (m : Nat)] 27)
        have HO2 := Lib.hid (own_belows HO.out ((below_any q2 HQB.out).trans hW))
        have HR := Lib.hid (file_new (wr.drewN q2) ⟨xn, xe, (m : Nat)⟩)
        have HB2 := Lib.hid (HB3.out.alloc HB3.out.size (.cells #[.string xn, .string xe, .int .i64 (m : Nat)] 27))
        clear hW
        go_wp2_with (at_builtin; refine wpList_files rfl (.tmp 50) (.tmp 60) rfl w.heap.size _ _ _ rfl rfl HO2.out (some ⟨(wr.drewN q2).heap.size, 0, none⟩) 1 1 [⟨xn, xe, (m : Nat)⟩] rfl rfl HR.out (fun e => by cases e) (Nat.le_refl _) (by omega) HB2.out.size (fun ad e => by cases e; rfl) ?_; intro v7 w7 ho7 hb7 hs7; have HO7 := Lib.hid ho7; have HB7 := Lib.hid (HB2.out.trans hb7); clear ho7 hb7 hs7)
        go_roundw
        case rel => exact ⟨k + 1, by omega, by go_num, by rw [HNX.out, HCA.out, List.length_append]; exact HO7, HB7⟩
        case measure => simp [intOf]; omega
    · obtain rfl : k = n := by omega
      have HTK : Hid (ls.take k = ls) := Lib.hid (List.take_of_length_le (by have := HN.out; omega))
      rw [HTK.out] at HO
      clear HA
      go_wp2_with fail
      go_ret
      exact ⟨_, rfl, HO.out, HB.out⟩
end Go.Proofs.Ytcfglgejjmapdaa
