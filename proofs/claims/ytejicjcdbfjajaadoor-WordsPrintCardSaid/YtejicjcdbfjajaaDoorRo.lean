/- Words as a text: the document's. -/
import Derived.Test.YtejicjcdbfjajaaDoorPn
namespace Go.Proofs.YtejicjcdbfjajaaDoor
open Go Go.RowKit
theorem RQ.below {w W W' : World} {v : Value} {l : List UInt8} (h : RQ w W v l) (hb : Below W.heap.size W W') : RQ w W' v l := ⟨own_below h.own hb, h.bel.trans (hb.mono h.bel.size)⟩
theorem RQ.text {w W W' : World} {v v' : Value} {l : List UInt8} {s : ByteArray} (h : RQ w W v l) (ho : W'.ownsRow w.heap.size 5 1 v' (l.length + s.size) (cellsB l ++ Lib.strCells s)) (hg : W.grownBy W' v.ownBlock) : RQ w W' v' (l ++ bl s) := by
  have e1 : cellsB (l ++ bl s) = cellsB l ++ Lib.strCells s := by rw [cellsB_app]; rfl
  refine ⟨?_, h.bel.grown hg h.bel.size (fun k hk => (h.own.lt k hk).1)⟩
  rw [e1, List.length_append, bl_len]
  exact ho
set_option maxRecDepth 100000 in
set_option maxHeartbeats 16000000 in
theorem rprint_any (A : Option Addr) (c : Nat) (l : List Wr) (w : World) (hr : RdA w A l) (hl : l.length ≤ 9223372036854775807) (ho : ∀ p ∈ l, p.ok) (hw : wgt l ≤ 1000000) (ht : TAB w) :
    Calls Tryd.prog 14 #[.slice A l.length c] w fun e w' => e = .returned (prO l) ∧ Below w.heap.size w w' := by
  obtain ⟨i0, hi, hz0, hz1, hz2⟩ := info_parts u8_info
  have hsz : ∀ p ∈ l, p.text.size ≤ 100000000 := fun p hp => by have := wgt_one hp; omega
  have HR := Lib.hid hr
  have HO := Lib.hid ho
  have HS := Lib.hid hsz
  have HT := Lib.hid ht
  have HP := Lib.hid (fun k => Nat.le_trans (prL_part ho k) hw)
  clear hr ho hsz ht hw
  go_enter Tryd.func14, Tryd.ntmps14
  go_wp2_with fail
  go_loopw [4] (fun i wr => ∃ k : Nat, k ≤ l.length ∧ i = .int .i64 k ∧ Hid (Below w.heap.size w wr) ∧ Hid ((l.take k).all mayW = true)) (fun i _ => l.length - (intOf i).toNat)
  case atStart => exact ⟨0, Nat.zero_le _, rfl, Lib.hid (Below.refl _ _), Lib.hid rfl⟩
  case round =>
    obtain ⟨k, hk, rfl, HB, HA⟩ := hrel
    by_cases hlt : k < l.length
    · obtain ⟨bA, oA, hA, hbA, x0, x1, x2, x3⟩ := (HR.out.below HB.out).at hlt
      subst hA
      have hk0 : (0 : Int) ≤ (k : Int) := by omega
      have hka : (k : Int) < (l.length : Int) := by omega
      have HMK := Lib.hid (fun W => rmay_any l[k] W (HS.out _ (List.getElem_mem hlt)))
      clear hbA
      cases hm : mayW l[k] with
      | false =>
        have HY : Hid (prO l = .tuple #[.string ⟨#[]⟩, .int .i64 2]) := Lib.hid (by unfold prO; rw [all_noW hlt hm]; rfl)
        rw [hm] at HMK
        clear hm
        generalize l[k] = p at *
        go_wp2_with fail
        refine (HMK.out _).mono ?_
        rintro e w2 ⟨rfl, hb2⟩
        have HB2 := Lib.hid (HB.out.trans (hb2.mono HB.out.size))
        clear hb2
        go_wp2_with fail
        go_ret2
        exact ⟨by rw [HY.out]; rfl, HB2.out⟩
      | true =>
        have HA2 := Lib.hid (all_snocW hlt HA.out hm)
        rw [hm] at HMK
        clear hm
        generalize l[k] = p at *
        go_wp2_with fail
        refine (HMK.out _).mono ?_
        rintro e w2 ⟨rfl, hb2⟩
        have HB2 := Lib.hid (HB.out.trans (hb2.mono HB.out.size))
        clear hb2
        go_wp2_with fail
        go_roundw
        case rel => exact ⟨k + 1, by omega, by go_num, HB2, HA2⟩
        case measure => simp [intOf]; omega
    · obtain rfl : k = l.length := by omega
      have hall : l.all mayW = true := by have h1 := HA.out; rwa [List.take_length] at h1
      have HY : Hid (prO l = .tuple #[.string (ofL (prL l)), .int .i64 0]) := Lib.hid (by unfold prO; rw [hall]; rfl)
      have HM : Hid (∀ p ∈ l, mayW p = true) := Lib.hid (List.all_eq_true.1 hall)
      have HQ0 : Hid (RQ w wr (.slice none 0 0) (prL (l.take 0))) := Lib.hid ⟨World.ownsRow_nil _ _ _ _, HB.out⟩
      have hdl : decide (l.length < l.length) = false := by simp
      clear hall HA HB
      go_wp2_with fail
      clear hdl
      go_loopw [5, 6] (fun v i wr => ∃ k : Nat, k ≤ l.length ∧ i = .int .i64 k ∧ (∃ A c, v = .slice A (prL (l.take k)).length c) ∧ Hid (RQ w wr v (prL (l.take k)))) (fun _ i _ => l.length - (intOf i).toNat)
      case atStart => exact ⟨0, Nat.zero_le _, rfl, ⟨none, 0, rfl⟩, HQ0⟩
      case round =>
        clear HQ0
        rename_i hrel
        obtain ⟨k, hk, rfl, ⟨A4, c4, rfl⟩, HQ⟩ := hrel
        by_cases hlt : k < l.length
        · obtain ⟨bA, oA, hA, hbA, x0, x1, x2, x3⟩ := (HR.out.below HQ.out.bel).at hlt
          subst hA
          have hk0 : (0 : Int) ≤ (k : Int) := by omega
          have hka : (k : Int) < (l.length : Int) := by omega
          have hdl : decide (k < l.length) = true := decide_eq_true hlt
          have HPT := Lib.hid (prL_take hlt)
          have HLE := Lib.hid (HP.out k)
          have HLN := Lib.hid (HP.out (k + 1))
          have hob := HO.out _ (List.getElem_mem hlt)
          have hsb := HS.out _ (List.getElem_mem hlt)
          have HTD := Lib.hid (fun W (h : TAB W) => rtold_any l[k] W h hob hsb)
          obtain ⟨nxt, hnq⟩ : ∃ n, prL (l.take (k + 1)) = n := ⟨_, rfl⟩
          have HNQ := Lib.hid hnq
          rw [hnq] at HPT HLN
          clear hnq
          generalize prL (l.take k) = acc at *
          obtain ⟨p, hp⟩ : ∃ p, l[k] = p := ⟨_, rfl⟩
          have HPP := Lib.hid hp
          rw [hp] at x0 x1 x2 x3 HTD HPT
          clear hbA hob hsb hp
          by_cases hk1 : k = 0
          · have dk : decide (0 < k) = false := decide_eq_false (by omega)
            have dk2 : decide ((0 : Int) < (k : Int)) = false := decide_eq_false (by omega)
            have HNX : Hid (nxt = acc ++ toldW p) := Lib.hid (by rw [HPT.out, if_pos hk1]; simp)
            have HQX := HQ
            clear HPT hk1 HQ
            go_wp2_with fail
            refine (HTD.out _ (tab_below HT.out HQX.out.bel)).mono ?_
            rintro e w5 ⟨rfl, hb5⟩
            have HQ5 := Lib.hid (HQX.out.below hb5)
            have HSZ : Hid ((ofL (toldW p)).size = (toldW p).length) := Lib.hid (by rw [← bl_len, bl_ofL])
            have HLX := Lib.hid (congrArg List.length HNX.out)
            clear hb5 HQX
            have dl : decide (1048576 < nxt.length) = false := decide_eq_false (by have := HLN.out; omega)
            have dl2 : decide ((1048576 : Int) < (nxt.length : Int)) = false := decide_eq_false (by have := HLN.out; omega)
            go_wp2_with (at_builtin; refine Lib.wpList_append_own_string _ rfl (.tmp 30) (.tmp 35) 52 9 rfl w.heap.size 5 i0 Tryd.underlying52 Tryd.underlying9 hi hz0 hz1 hz2 (.slice A4 acc.length c4) acc.length (cellsB acc) rfl HQ5.out.own (ofL (toldW p)) rfl (by have h1 := HLX.out; have h2 := HLN.out; have h3 := HSZ.out; rw [List.length_append] at h1; simp only [maxLen]; omega) (by have h1 := HLX.out; have h2 := HLN.out; have h3 := HSZ.out; rw [List.length_append] at h1; omega) (by have := HQ5.out.bel.size; omega) ?_; intro v7 w7 ho7 hg7 _; have HN := Lib.hid (RQ.text HQ5.out ho7 hg7); clear ho7 hg7; rw [bl_ofL, ← HNX.out] at HN; obtain ⟨A7, c7, hv7, hn7, hc7, hm7, hr7⟩ := own_rdV HN.out.own; subst hv7; clear hr7)
            go_roundw
            case rel => exact ⟨k + 1, by omega, by go_num, ⟨A7, c7, by rw [HNQ.out]⟩, Lib.hid (by rw [HNQ.out]; exact HN.out)⟩
            case measure => simp [intOf]; omega

          · have dk : decide (0 < k) = true := decide_eq_true (by omega)
            have dk2 : decide ((0 : Int) < (k : Int)) = true := decide_eq_true (by omega)
            obtain ⟨ac2, hac⟩ : ∃ x, acc ++ [32] = x := ⟨_, rfl⟩
            have HAC := Lib.hid hac
            have HNX : Hid (nxt = ac2 ++ toldW p) := Lib.hid (by rw [HPT.out, if_neg hk1, HAC.out])
            clear hac
            have HCE : Hid (cellsB acc ++ [.int .u8 32] = cellsB (acc ++ [32])) := Lib.hid (by rw [cellsB_app]; rfl)
            clear HPT hk1
            go_wp2_with (at_builtin; go_loud (refine wpList_append_own _ rfl (.tmp 27) (.tmp 28) 52 rfl w.heap.size 5 i0 _ 1 1 Tryd.underlying52 hi hz0 hz1 hz2 rfl (by omega) (.slice A4 acc.length c4) acc.length (cellsB acc) rfl (HQ.out.own.alloc _) ⟨wr.heap.size, 0, none⟩ 1 1 [.int .u8 32] rfl rfl (World.news_of_block (cs := #[.int .u8 32]) (t := 5) (fr := (0, 0)) (heap_alloc_new wr _)) (by simp [Value.oneCell']) (by have := HLE.out; simp only [maxLen]; omega) (by have := HLE.out; omega) (by have := HQ.out.bel.size; simp; omega) ?_; intro v3 w3 ho3 hg3 _; have HQX := Lib.hid (RQ.next (m := [32]) HQ.out ho3 (by simp [List.length_append]) (HCE.out) hg3); clear ho3 hg3; rw [HAC.out] at HQX; obtain ⟨A3, c3, hv3, hn3, hc3, hm3, hr3⟩ := own_rdV HQX.out.own; subst hv3; clear hr3; obtain ⟨bA, oA, hA, hbA, x0, x1, x2, x3⟩ := (HR.out.below HQX.out.bel).at hlt; cases hA; rw [HPP.out] at x0 x1 x2 x3; clear hbA))
            refine (HTD.out _ (tab_below HT.out HQX.out.bel)).mono ?_
            rintro e w5 ⟨rfl, hb5⟩
            have HQ5 := Lib.hid (HQX.out.below hb5)
            have HSZ : Hid ((ofL (toldW p)).size = (toldW p).length) := Lib.hid (by rw [← bl_len, bl_ofL])
            have HLX := Lib.hid (congrArg List.length HNX.out)
            clear hb5 HQX
            have dl : decide (1048576 < nxt.length) = false := decide_eq_false (by have := HLN.out; omega)
            have dl2 : decide ((1048576 : Int) < (nxt.length : Int)) = false := decide_eq_false (by have := HLN.out; omega)
            go_wp2_with (at_builtin; refine Lib.wpList_append_own_string _ rfl (.tmp 30) (.tmp 35) 52 9 rfl w.heap.size 5 i0 Tryd.underlying52 Tryd.underlying9 hi hz0 hz1 hz2 (.slice A3 ac2.length c3) ac2.length (cellsB ac2) rfl HQ5.out.own (ofL (toldW p)) rfl (by have h1 := HLX.out; have h2 := HLN.out; have h3 := HSZ.out; rw [List.length_append] at h1; simp only [maxLen]; omega) (by have h1 := HLX.out; have h2 := HLN.out; have h3 := HSZ.out; rw [List.length_append] at h1; omega) (by have := HQ5.out.bel.size; omega) ?_; intro v7 w7 ho7 hg7 _; have HN := Lib.hid (RQ.text HQ5.out ho7 hg7); clear ho7 hg7; rw [bl_ofL, ← HNX.out] at HN; obtain ⟨A7, c7, hv7, hn7, hc7, hm7, hr7⟩ := own_rdV HN.out.own; subst hv7; clear hr7)
            go_roundw
            case rel => exact ⟨k + 1, by omega, by go_num, ⟨A7, c7, by rw [HNQ.out]⟩, Lib.hid (by rw [HNQ.out]; exact HN.out)⟩
            case measure => simp [intOf]; omega

        · obtain rfl : k = l.length := by omega
          have hdl : decide (l.length < l.length) = false := by simp
          have hPL : prL (l.take l.length) = prL l := by rw [List.take_length]
          have HPL := Lib.hid hPL
          obtain ⟨A5, c5, hv5, hn5, hc5, hm5, hr5⟩ := own_rdV HQ.out.own
          have HBX := Lib.hid HQ.out.bel
          clear HQ hPL
          generalize prL (l.take l.length) = P at *
          cases hv5
          have hconv := conv_rd hc5 hn5 hr5.rd
          clear hr5
          go_wp2_with fail
          go_ret2
          exact ⟨by rw [HY.out, ← HPL.out]; rfl, HBX.out⟩
end Go.Proofs.YtejicjcdbfjajaaDoor
