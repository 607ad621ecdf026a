/- Words as a text: the program's Print. -/
import Derived.Test.YtejicjcdbfjajaaDoorPrc
import Derived.Test.YtejicjcdbfjajaaDoorPm
import Derived.Test.YtejicjcdbfjajaaDoorBls
namespace Go.Proofs.YtejicjcdbfjajaaDoor
open Go Go.RowKit
theorem wr_cell3 (w : World) (p : Wr) : (w.alloc (.cells (wrV p) 31)).cell? ⟨w.heap.size, 3, none⟩ = some (.int .i64 p.at_) := by
  have h := heap_alloc_new w (.cells (wrV p) 31)
  simp only [World.cell?, h]; rfl
set_option maxRecDepth 100000 in
set_option maxHeartbeats 8000000 in
theorem mayc_any (p : Wr) (m K : Nat) (w : World) (hk : KeysAt w m kws) (hc : w.cell? ⟨K, 0, none⟩ = some (.map (some m))) (hK : K < w.heap.size) (hs : p.text.size ≤ 100000000) : Calls Tryd.prog 26 #[.agg (wrV p), .pointer (some ⟨K, 0, none⟩)] w fun e w' => e = .returned (.bool (!mayW p)) ∧ Below w.heap.size w w' := by
  have hb0 := below_new w (.cells (wrV p) 31)
  obtain ⟨z0, z1, z2⟩ := wr_cells w p
  have z3 := wr_cell3 w p
  have zc := (hb0.cell (p := ⟨K, 0, none⟩) hK).trans hc
  have HB := Lib.hid hb0
  have HM := Lib.hid (may_any p m _ (hk.below hb0) hs)
  generalize mayW p = R at *
  clear hb0 hk hc hK
  go_enter Tryd.func26, Tryd.ntmps26
  go_upto_region 1 with (fail)
  generalize w.alloc (.cells (wrV p) 31) = W at *
  go_wp2_with fail
  refine HM.out.mono ?_
  rintro e w2 ⟨rfl, hb2⟩
  go_wp2_with fail
  go_ret
  exact ⟨rfl, HB.out.trans (hb2.mono HB.out.size)⟩
theorem all_snocW {l : List Wr} {k : Nat} (hk : k < l.length) (h : (l.take k).all mayW = true) (h2 : mayW l[k] = true) : (l.take (k + 1)).all mayW = true := by
  rw [List.take_succ_eq_append_getElem hk, List.all_append, h]
  simp [h2]
theorem all_noW {l : List Wr} {k : Nat} (hk : k < l.length) (h2 : mayW l[k] = false) : l.all mayW = false := by
  rw [Bool.eq_false_iff]
  intro h
  have := List.all_eq_true.1 h _ (List.getElem_mem hk)
  rw [h2] at this
  cases this
set_option maxRecDepth 100000 in
set_option maxHeartbeats 8000000 in
theorem ixf_any (A : Option Addr) (c m K : Nat) (l : List Wr) (w : World) (hr : RdA w A l) (hl : l.length ≤ 9223372036854775807) (hk : KeysAt w m kws) (hc : w.cell? ⟨K, 0, none⟩ = some (.map (some m))) (hK : K < w.heap.size) (hs : ∀ p ∈ l, p.text.size ≤ 100000000) :
    Calls Tryd.prog 49 #[.slice A l.length c, .func (.func 26) #[] #[.pointer (some ⟨K, 0, none⟩)]] w fun e w' => (∃ z : Int, e = .returned (.int .i64 z) ∧ decide (0 ≤ z) = !(l.all mayW)) ∧ Below w.heap.size w w' := by
  have HR := Lib.hid hr
  have HM := Lib.hid (fun (W : World) (hb : Below w.heap.size w W) (p : Wr) (hp : p.text.size ≤ 100000000) => mayc_any p m K W (hk.below hb) ((hb.cell (p := ⟨K, 0, none⟩) hK).trans hc) (Nat.lt_of_lt_of_le hK hb.size) hp)
  have HS := Lib.hid hs
  have en : ∀ args w, (callFunc 26 args).run Tryd.prog w = .ok (.enter 26 args) w := enters_of Tryd.func26 (by kernel_rfl) rfl
  clear hr hk hc hK hs
  go_enter Tryd.func49, Tryd.ntmps49
  go_wp2_with fail
  go_loopw [8] (fun i wr => ∃ k : Nat, k ≤ l.length ∧ i = .int .i64 k ∧ Hid (Below w.heap.size w wr) ∧ Hid ((l.take k).all mayW = true)) (fun i _ => l.length - (intOf i).toNat)
  case atStart => exact ⟨0, Nat.zero_le _, rfl, Lib.hid (Below.refl _ _), Lib.hid rfl⟩
  case round =>
    obtain ⟨k, hk, rfl, HB, HA⟩ := hrel
    by_cases hlt : k < l.length
    · obtain ⟨bA, oA, hA, hbA, x0, x1, x2, x3⟩ := (HR.out.below HB.out).at hlt
      subst hA
      have hk0 : (0 : Int) ≤ (k : Int) := by omega
      have hka : (k : Int) < (l.length : Int) := by omega
      have HMK := Lib.hid (HM.out wr HB.out l[k] (HS.out _ (List.getElem_mem hlt)))
      clear hbA
      cases hm : mayW l[k] with
      | false =>
        have HY := Lib.hid (all_noW hlt hm)
        rw [hm] at HMK
        clear hm
        generalize l[k] = p at *
        go_wp2_with fail
        refine HMK.out.mono ?_
        rintro e w2 ⟨rfl, hb2⟩
        have HB2 := Lib.hid (HB.out.trans (hb2.mono HB.out.size))
        clear hb2
        go_wp2_with fail
        go_ret
        exact ⟨⟨_, rfl, by rw [HY.out]; simp⟩, HB2.out⟩
      | true =>
        have HA2 := Lib.hid (all_snocW hlt HA.out hm)
        rw [hm] at HMK
        clear hm
        generalize l[k] = p at *
        go_wp2_with fail
        refine HMK.out.mono ?_
        rintro e w2 ⟨rfl, hb2⟩
        have HB2 := Lib.hid (HB.out.trans (hb2.mono HB.out.size))
        clear hb2
        go_wp2_with fail
        go_roundw
        case rel => exact ⟨k + 1, by omega, by go_num, HB2, HA2⟩
        case measure => simp [intOf]; omega
    · obtain rfl : k = l.length := by omega
      go_wp2_with fail
      go_ret
      exact ⟨⟨_, rfl, by have h1 := HA.out; rw [List.take_length] at h1; rw [h1]; rfl⟩, HB.out⟩
set_option maxRecDepth 100000 in
theorem cf_any (A : Option Addr) (c m K : Nat) (l : List Wr) (w : World) (hr : RdA w A l) (hl : l.length ≤ 9223372036854775807) (hk : KeysAt w m kws) (hc : w.cell? ⟨K, 0, none⟩ = some (.map (some m))) (hK : K < w.heap.size) (hs : ∀ p ∈ l, p.text.size ≤ 100000000) :
    Calls Tryd.prog 25 #[.slice A l.length c, .func (.func 26) #[] #[.pointer (some ⟨K, 0, none⟩)]] w fun e w' => e = .returned (.bool (!(l.all mayW))) ∧ Below w.heap.size w w' := by
  have HI := Lib.hid (ixf_any A c m K l w hr hl hk hc hK hs)
  clear hr hk hc hK hs
  go_enter Tryd.func25, Tryd.ntmps25
  go_wp2_with fail
  refine HI.out.mono ?_
  rintro e w2 ⟨⟨z, rfl, hz⟩, hb2⟩
  go_wp2_with fail
  go_ret
  exact ⟨by rw [← hz]; rfl, hb2⟩
/-- What Print tells. -/
def prO (l : List Wr) : Value := if l.all mayW then .tuple #[.string (ofL (prL l)), .int .i64 0] else .tuple #[.string ⟨#[]⟩, .int .i64 2]
theorem prL_take {l : List Wr} {k : Nat} (hk : k < l.length) : prL (l.take (k + 1)) = prL (l.take k) ++ (if k = 0 then [] else [32]) ++ toldW l[k] := by
  rw [List.take_succ_eq_append_getElem hk, prL_snoc]
  congr 2
  by_cases h : k = 0
  · subst h; simp
  · rw [if_neg h, if_neg]
    intro e
    have := congrArg List.length e
    rw [List.length_take, List.length_nil] at this
    omega
theorem prL_part {l : List Wr} (h : ∀ p ∈ l, p.ok) (k : Nat) : (prL (l.take k)).length ≤ wgt l :=
  Nat.le_trans (prL_len _ (fun p hp => h p (List.mem_of_mem_take hp))) (wgt_take l k)
set_option maxRecDepth 100000 in
set_option maxHeartbeats 16000000 in
theorem print_any (A : Option Addr) (c : Nat) (l : List Wr) (w : World) (hr : RdA w A l) (hl : l.length ≤ 9223372036854775807) (ho : ∀ p ∈ l, p.ok) (hw : wgt l ≤ 1000000) (hg : SPC w) (ht : TAB w) :
    Calls Tryd.prog 13 #[.slice A l.length c] w fun e w' => e = .returned (prO l) ∧ Below w.heap.size w w' := by
  have hsz : ∀ p ∈ l, p.text.size ≤ 100000000 := fun p hp => by have := wgt_one hp; omega
  have HR := Lib.hid hr
  have HO := Lib.hid ho
  have HS := Lib.hid hsz
  have HT := Lib.hid ht
  have HK := Lib.hid (keys_any w hg)
  have HP := Lib.hid (fun k => Nat.le_trans (prL_part ho k) hw)
  clear hr ho hsz hg ht hw
  go_enter Tryd.func13, Tryd.ntmps13
  go_wp2_with fail
  refine HK.out.mono ?_
  rintro e w1 ⟨rfl, hk1, hb1⟩
  have hb2 := below_new w1 (.cells #[.map (some w.heap.size)] 46)
  have HB2 := Lib.hid (hb1.trans (hb2.mono hb1.size))
  have hc2 : (w1.alloc (.cells #[.map (some w.heap.size)] 46)).cell? ⟨w1.heap.size, 0, none⟩ = some (.map (some w.heap.size)) := by
    have h := heap_alloc_new w1 (.cells #[.map (some w.heap.size)] 46)
    simp only [World.cell?, h]; rfl
  have HCF := Lib.hid (cf_any A c w.heap.size w1.heap.size l (w1.alloc (.cells #[.map (some w.heap.size)] 46)) (HR.out.below (hb1.trans (hb2.mono hb1.size))) hl (hk1.below hb2) hc2 (by simp) HS.out)
  clear hk1 hb1 hb2 hc2 HK
  cases hall : l.all mayW with
  | false =>
    have HY : Hid (prO l = .tuple #[.string ⟨#[]⟩, .int .i64 2]) := Lib.hid (by unfold prO; rw [hall]; rfl)
    rw [hall] at HCF
    clear hall HP
    go_wp2_with fail
    refine HCF.out.mono ?_
    rintro e w3 ⟨rfl, hb3⟩
    have HB3 := Lib.hid (HB2.out.trans (hb3.mono HB2.out.size))
    clear hb3
    go_wp2_with fail
    go_ret2
    exact ⟨by rw [HY.out]; rfl, HB3.out⟩
  | true =>
    have HY : Hid (prO l = .tuple #[.string (ofL (prL l)), .int .i64 0]) := Lib.hid (by unfold prO; rw [hall]; rfl)
    have HM : Hid (∀ p ∈ l, mayW p = true) := Lib.hid (List.all_eq_true.1 hall)
    rw [hall] at HCF
    clear hall
    go_wp2_with fail
    refine HCF.out.mono ?_
    rintro e w3 ⟨rfl, hb3⟩
    have HB3 := Lib.hid (HB2.out.trans (hb3.mono HB2.out.size))
    clear hb3 HCF HB2
    have HG : Hid (Gr w3.heap.size [] (w3.alloc (.cells #[.pointer none, .slice none 0 0] 56))) := Lib.hid (gr_new w3)
    have HB4 := Lib.hid (HB3.out.trans ((below_new w3 (.cells #[.pointer none, .slice none 0 0] 56)).mono HB3.out.size))
    have HW3 := Lib.hid HB3.out.size
    clear HB3
    go_wp2_with fail
    generalize w3.alloc (.cells #[.pointer none, .slice none 0 0] 56) = w4 at *
    generalize w3.heap.size = G at *
    go_loopw [14] (fun i wr => ∃ k : Nat, k ≤ l.length ∧ i = .int .i64 k ∧ Hid (Gr G (prL (l.take k)) wr) ∧ Hid (Below w.heap.size w wr)) (fun i _ => l.length - (intOf i).toNat)
    case atStart => exact ⟨0, Nat.zero_le _, rfl, HG, HB4⟩
    case round =>
      clear HG HB4
      rename_i hrel
      obtain ⟨k, hk, rfl, HG, HB⟩ := hrel
      by_cases hlt : k < l.length
      · obtain ⟨bA, oA, hA, hbA, x0, x1, x2, x3⟩ := (HR.out.below HB.out).at hlt
        subst hA
        have hk0 : (0 : Int) ≤ (k : Int) := by omega
        have hka : (k : Int) < (l.length : Int) := by omega
        have HPT := Lib.hid (prL_take hlt)
        have HLE := Lib.hid (HP.out k)
        have HLN := Lib.hid (HP.out (k + 1))
        have hob := HO.out _ (List.getElem_mem hlt)
        have hsb := HS.out _ (List.getElem_mem hlt)
        have HTP := Lib.hid (word_told (a := 0) (HM.out _ (List.getElem_mem hlt)) hob (stop_tlP [])).2.2
        have HTD := Lib.hid (fun W (h : TAB W) => told_any l[k] W h hob hsb)
        have HNB := Lib.hid (below_new wr (.cells (wrV l[k]) 31))
        have HNC := Lib.hid (heap_alloc_new wr (.cells (wrV l[k]) 31))
        obtain ⟨nxt, hnq⟩ : ∃ n, prL (l.take (k + 1)) = n := ⟨_, rfl⟩
        have HNQ := Lib.hid hnq
        rw [hnq] at HPT HLN
        clear hnq
        generalize prL (l.take k) = acc at *
        generalize l[k] = p at *
        clear hbA hob hsb
        have HB1 := Lib.hid (HB.out.trans (HNB.out.mono HB.out.size))
        have HG1 := Lib.hid (gr_below HG.out HNB.out)
        obtain ⟨y0, y1, y2⟩ := wr_cells wr p
        have y3 := wr_cell3 wr p
        by_cases hk1 : k = 0
        · have dk : decide (0 < k) = false := decide_eq_false (by omega)
          have dk2 : decide ((0 : Int) < (k : Int)) = false := decide_eq_false (by omega)
          have HNX : Hid (nxt = acc ++ toldW p) := Lib.hid (by rw [HPT.out, if_pos hk1]; simp)
          clear HPT HB HG hk1
          have HGX := HG1
          have HBX := HB1
          clear HG1 HB1
          go_wp2_with fail
          generalize wr.alloc (.cells (wrV p) 31) = w1x at *
          refine (HTD.out _ (tab_below HT.out HBX.out)).mono ?_
          rintro e w5 ⟨rfl, hb5⟩
          have HG5 := Lib.hid (gr_below HGX.out hb5)
          have HB5 := Lib.hid (HBX.out.trans (hb5.mono HBX.out.size))
          have HTX := Lib.hid (text_gr G acc (ofL (toldW p)) w5 HG5.out (by rw [bl_ofL]; intro e; have h1 := HTP.out; have h2 := congrArg List.length e; rw [List.length_append] at h2; simp only [List.length_nil] at h2; omega) (by have h1 := HNX.out; have h2 := HLN.out; rw [h1] at h2; rw [List.length_append] at h2; rw [← bl_len, bl_ofL]; omega))
          rw [bl_ofL, ← HNX.out] at HTX
          clear hb5 HGX HBX
          go_wp2_with fail
          refine HTX.out.mono ?_
          rintro e w6 ⟨⟨v6, rfl⟩, hg6, hb6⟩
          have HG6 := Lib.hid hg6
          have HB6 := Lib.hid (HB5.out.trans (hb6.mono HW3.out))
          have HLG := Lib.hid (len_gr G nxt w6 hg6)
          have dl : decide (1048576 < nxt.length) = false := decide_eq_false (by have := HLN.out; omega)
          have dl2 : decide ((1048576 : Int) < (nxt.length : Int)) = false := decide_eq_false (by have := HLN.out; omega)
          clear hb6 hg6 HTX HG5 HB5
          go_wp2_with fail
          refine HLG.out.mono ?_
          rintro e w7 ⟨rfl, rfl⟩
          go_wp2_with fail
          go_roundw
          case rel => exact ⟨k + 1, by omega, by go_num, Lib.hid (by rw [HNQ.out]; exact HG6.out), HB6⟩
          case measure => simp [intOf]; omega

        · have dk : decide (0 < k) = true := decide_eq_true (by omega)
          have dk2 : decide ((0 : Int) < (k : Int)) = true := decide_eq_true (by omega)
          have HNX : Hid (nxt = (acc ++ [32]) ++ toldW p) := Lib.hid (by rw [HPT.out, if_neg hk1])
          have HBY : Hid (Calls Tryd.prog 28 #[GrP G, .int .u8 32] (wr.alloc (.cells (wrV p) 31)) fun e w' => e = .returned .nilIface ∧ Gr G (acc ++ [32]) w' ∧ Below G (wr.alloc (.cells (wrV p) 31)) w' ∧ K31 (wr.alloc (.cells (wrV p) 31)) w') := Lib.hid (byte_gr31 G acc 32 _ HG1.out (by have := HLE.out; omega))
          clear HPT HB HG hk1
          go_wp2_with fail
          generalize wr.alloc (.cells (wrV p) 31) = w1x at *
          refine HBY.out.mono ?_
          rintro e w2 ⟨rfl, hg2, hb2, hk2⟩
          have HGX := Lib.hid hg2
          have HBX := Lib.hid (HB1.out.trans (hb2.mono HW3.out))
          have hcx := hk2 _ _ _ HNC.out
          have q0 : w2.cell? ⟨wr.heap.size, 0, none⟩ = some (.int .i64 p.kind) := by simp only [World.cell?, hcx]; rfl
          have q1 : w2.cell? ⟨wr.heap.size, 1, none⟩ = some (.string p.text) := by simp only [World.cell?, hcx]; rfl
          have q2 : w2.cell? ⟨wr.heap.size, 2, none⟩ = some (.int .i64 p.num) := by simp only [World.cell?, hcx]; rfl
          have q3 : w2.cell? ⟨wr.heap.size, 3, none⟩ = some (.int .i64 p.at_) := by simp only [World.cell?, hcx]; rfl
          clear hg2 hb2 hk2 hcx HG1 HB1 HBY y0 y1 y2 y3
          go_wp2_with fail
          refine (HTD.out _ (tab_below HT.out HBX.out)).mono ?_
          rintro e w5 ⟨rfl, hb5⟩
          have HG5 := Lib.hid (gr_below HGX.out hb5)
          have HB5 := Lib.hid (HBX.out.trans (hb5.mono HBX.out.size))
          have HTX := Lib.hid (text_gr G (acc ++ [32]) (ofL (toldW p)) w5 HG5.out (by rw [bl_ofL]; intro e; have h1 := HTP.out; have h2 := congrArg List.length e; rw [List.length_append] at h2; simp only [List.length_nil] at h2; omega) (by have h1 := HNX.out; have h2 := HLN.out; rw [h1] at h2; rw [List.length_append] at h2; rw [← bl_len, bl_ofL]; omega))
          rw [bl_ofL, ← HNX.out] at HTX
          clear hb5 HGX HBX
          go_wp2_with fail
          refine HTX.out.mono ?_
          rintro e w6 ⟨⟨v6, rfl⟩, hg6, hb6⟩
          have HG6 := Lib.hid hg6
          have HB6 := Lib.hid (HB5.out.trans (hb6.mono HW3.out))
          have HLG := Lib.hid (len_gr G nxt w6 hg6)
          have dl : decide (1048576 < nxt.length) = false := decide_eq_false (by have := HLN.out; omega)
          have dl2 : decide ((1048576 : Int) < (nxt.length : Int)) = false := decide_eq_false (by have := HLN.out; omega)
          clear hb6 hg6 HTX HG5 HB5
          go_wp2_with fail
          refine HLG.out.mono ?_
          rintro e w7 ⟨rfl, rfl⟩
          go_wp2_with fail
          go_roundw
          case rel => exact ⟨k + 1, by omega, by go_num, Lib.hid (by rw [HNQ.out]; exact HG6.out), HB6⟩
          case measure => simp [intOf]; omega

      · obtain rfl : k = l.length := by omega
        have hdl : decide (l.length < l.length) = false := by simp
        have HGL : Hid (Gr G (prL l) wr) := Lib.hid (by have := HG.out; rwa [List.take_length] at this)
        have HDN := Lib.hid (done_gr G (prL l) wr HGL.out)
        clear HG
        go_wp2_with fail
        refine HDN.out.mono ?_
        rintro e w7 ⟨rfl, hb7⟩
        have HB7 := Lib.hid (HB.out.trans (hb7.mono HW3.out))
        clear hb7
        go_wp2_with fail
        go_ret2
        exact ⟨by rw [HY.out]; rfl, HB7.out⟩
end Go.Proofs.YtejicjcdbfjajaaDoor
