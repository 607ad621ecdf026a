/- The reference's own errors of a step, and its step. -/
import Derived.Test.YtcfglgejjmapdaaLawM
namespace Go.Proofs.Ytcfglgejjmapdaa
open Go Go.RowKit Go.Shelf
theorem cell_drew {w : World} {a : Addr} {v : Value} (m : Nat) (h : w.cell? a = some v) : (w.drewN m).cell? a = some v := h
/-- What a step is refused for. -/
def refS (fs : List F) (wh : Int) (nm to_ : ByteArray) (nb : Nat) (N : Int) : Int :=
  if nameB nm = false then 2 else if wh = 3 ∧ nameB to_ = false then 2 else if placeF fs nm < fs.length then
    (if wh = 1 ∧ (N < 0 ∨ ((fs.getD (placeF fs nm) ⟨⟨#[]⟩, ⟨#[]⟩, 0⟩).bytes.size : Int) < N) then 4 else if wh = 0 ∧ (1048576 : Int) - ((fs.getD (placeF fs nm) ⟨⟨#[]⟩, ⟨#[]⟩, 0⟩).bytes.size : Int) < nb then 3 else 0)
  else (if wh ≠ 0 then 5 else if (1048576 : Int) < nb then 3 else 0)
theorem errS_ref (fs : List F) (wh : Int) (nm to_ : ByteArray) (l : List UInt8) (N : Int) (hb : Bool) (rm : Int) :
    errS fs wh nm to_ l N hb rm = if refS fs wh nm to_ l.length N ≠ 0 then refS fs wh nm to_ l.length N else if hb = true ∧ rm = 0 then 7 else 0 := by
  unfold errS refS stepErr thereF longF rangeF hadF
  by_cases hp : placeF fs nm < fs.length
  · obtain ⟨x, h1, h2⟩ := find_at hp
    have h3 : fs.getD (placeF fs nm) ⟨⟨#[]⟩, ⟨#[]⟩, 0⟩ = x := by rw [List.getD_eq_getElem?_getD, h1]; rfl
    rw [h2, h3]
    cases hn : nameB nm <;> cases ht : nameB to_ <;> by_cases w0 : wh = 0 <;> by_cases w1 : wh = 1 <;> by_cases w2 : wh = 2 <;> by_cases w3 : wh = 3 <;> (try simp_all) <;> (try split) <;> (try simp_all) <;> (try omega)
  · have h2 := find_no hp
    rw [h2]
    cases hn : nameB nm <;> cases ht : nameB to_ <;> by_cases w0 : wh = 0 <;> by_cases w1 : wh = 1 <;> by_cases w2 : wh = 2 <;> by_cases w3 : wh = 3 <;> (try simp_all) <;> (try split) <;> (try simp_all) <;> (try omega)
set_option maxRecDepth 100000 in
set_option maxHeartbeats 16000000 in
theorem refused_any (A : Option Addr) (n c : Nat) (ls : List F) (st lf : Int) (wh N : Int) (nm to_ : ByteArray) (Ab : Option Addr) (nb cb : Nat) (w : World) (hn : ls.length = n) (bn : n ≤ 100000) (ha : RdF w A ls) (hnm : nm.size ≤ 140737488351232) (hto : to_.size ≤ 140737488351232)
    (hs : ∀ f ∈ ls, f.bytes.size ≤ 140737488351232) (hnb : nb ≤ 9223372036854775807) :
    Calls Try.prog 38 #[.agg #[.slice A n c, .int .i64 st, .int .i64 lf], .agg #[.int .i64 wh, .string nm, .string to_, .slice Ab nb cb, .int .i64 N]] w fun e w' => e = .returned (.int .i64 (refS ls wh nm to_ nb N)) ∧ Below w.heap.size w w' := by
  obtain ⟨W, hW⟩ : ∃ W, W = (w.alloc (.cells #[.slice A n c, .int .i64 st, .int .i64 lf] 46)).alloc (.cells #[.int .i64 wh, .string nm, .string to_, .slice Ab nb cb, .int .i64 N] 43) := ⟨_, rfl⟩
  have hB : Below w.heap.size w W := by rw [hW]; exact (below_new w _).alloc (by simp) _
  have HB := Lib.hid hB
  have HN := Lib.hid hn
  have haW := ha.below hB
  have HF := Lib.hid (find_any A n c ls nm W hn (by omega) haW)
  have HM := Lib.hid (rname_any nm W (by omega))
  have HT := Lib.hid (rname_any to_ W (by omega))
  have HA := Lib.hid haW
  have HS := Lib.hid hs
  obtain ⟨r, hr⟩ : ∃ r, refS ls wh nm to_ nb N = r := ⟨_, rfl⟩
  rw [hr]
  have HR := Lib.hid hr
  clear hr ha haW hB hn hs
  cases hnv : nameB nm with
  | false =>
    have hr2 : r = 2 := by rw [← HR.out]; unfold refS; rw [if_pos hnv]
    subst hr2
    rw [hnv] at HM
    clear hnv HR
    subst hW
    go_enter Try.func38, Try.ntmps38
    go_wp2_with fail
    refine Calls.mono HM.out ?_
    rintro e w' ⟨rfl, rfl⟩
    go_wp2_with fail
    go_ret
    exact ⟨rfl, HB.out⟩
  | true =>
    rw [hnv] at HM
    by_cases hw : wh = 0
    · subst hw
      by_cases hp : placeF ls nm < ls.length
      rotate_left
      · have hfi : findI ls nm = -1 := by unfold findI; rw [if_neg hp]
        rw [hfi] at HF
        by_cases hl : (1048576 : Int) < (nb : Int)
        · have hr2 : r = 3 := by rw [← HR.out]; unfold refS; rw [if_neg (by rw [hnv]; simp), if_neg (by omega), if_neg hp, if_neg (by simp), if_pos hl]
          subst hr2
          have dl : decide ((1048576 : Int) < (nb : Int)) = true := decide_eq_true hl
          clear hnv HR hp hfi hl
          subst hW
          go_enter Try.func38, Try.ntmps38
          go_wp2_with fail
          refine Calls.mono HM.out ?_
          rintro e w' ⟨rfl, rfl⟩
          go_wp2_with fail
          refine Calls.mono HF.out ?_
          rintro e w' ⟨rfl, rfl⟩
          go_wp2_with fail
          go_quiet (fail)
          rename_i nq
          have HBQ := Lib.hid (below_any nq HB.out)
          go_wp2_with fail
          go_ret
          exact ⟨rfl, HBQ.out⟩
        · have hr2 : r = 0 := by rw [← HR.out]; unfold refS; rw [if_neg (by rw [hnv]; simp), if_neg (by omega), if_neg hp, if_neg (by simp), if_neg hl]
          subst hr2
          have dl : decide ((1048576 : Int) < (nb : Int)) = false := decide_eq_false hl
          clear hnv HR hp hfi hl
          subst hW
          go_enter Try.func38, Try.ntmps38
          go_wp2_with fail
          refine Calls.mono HM.out ?_
          rintro e w' ⟨rfl, rfl⟩
          go_wp2_with fail
          refine Calls.mono HF.out ?_
          rintro e w' ⟨rfl, rfl⟩
          go_wp2_with fail
          go_quiet (fail)
          rename_i nq
          have HBQ := Lib.hid (below_any nq HB.out)
          go_wp2_with fail
          go_ret
          exact ⟨rfl, HBQ.out⟩
      · obtain ⟨b, off, hA, hb, k0, k1, k2⟩ := HA.out.at hp
        obtain ⟨x, hx, hxt⟩ := fil_at hp
        rw [hx] at k1
        have hxs : x.bytes.size ≤ 140737488351232 := HS.out x (by rw [← hx]; exact List.getElem_mem hp)
        have hg : ls.getD (placeF ls nm) ⟨⟨#[]⟩, ⟨#[]⟩, 0⟩ = x := by rw [List.getD_eq_getElem?_getD, List.getElem?_eq_getElem hp, hx]; rfl
        have hfi : findI ls nm = placeF ls nm := by unfold findI; rw [if_pos hp]
        have hpn : placeF ls nm < n := by have := HN.out; omega
        rw [hfi] at HF
        have HG := Lib.hid hg
        have HP := Lib.hid hp
        have hr1 := HR.out
        skip
        by_cases hl : (1048576 : Int) - (x.bytes.size : Int) < (nb : Int)
        · have dl : decide ((1048576 : Int) - (x.bytes.size : Int) < (nb : Int)) = true := decide_eq_true hl
          have hr2 : r = 3 := by rw [← HR.out]; unfold refS; rw [if_neg (by rw [hnv]; simp), if_neg (by omega), if_pos hp, hg, if_neg (by omega), if_pos ⟨rfl, hl⟩]
          subst hr2
          clear hnv HR hg hx hxt hfi k0 k2 HG HP hr1
          generalize placeF ls nm = pl at hpn k1 HF hp
          clear hp
          subst hA
          subst hW
          go_enter Try.func38, Try.ntmps38
          go_wp2_with fail
          refine Calls.mono HM.out ?_
          rintro e w' ⟨rfl, rfl⟩
          go_wp2_with fail
          refine Calls.mono HF.out ?_
          rintro e w' ⟨rfl, rfl⟩
          go_wp2_with fail
          go_quiet (fail)
          rename_i nq
          have k1q := cell_drew nq k1
          clear k1
          have HBQ := Lib.hid (below_any nq HB.out)
          go_wp2_with fail
          go_ret
          exact ⟨rfl, HBQ.out⟩
        · have dl : decide ((1048576 : Int) - (x.bytes.size : Int) < (nb : Int)) = false := decide_eq_false hl
          have hr2 : r = 0 := by rw [← HR.out]; unfold refS; rw [if_neg (by rw [hnv]; simp), if_neg (by omega), if_pos hp, hg, if_neg (by omega), if_neg (fun h => hl h.2)]
          subst hr2
          clear hnv HR hg hx hxt hfi k0 k2 HG HP hr1
          generalize placeF ls nm = pl at hpn k1 HF hp
          clear hp
          subst hA
          subst hW
          go_enter Try.func38, Try.ntmps38
          go_wp2_with fail
          refine Calls.mono HM.out ?_
          rintro e w' ⟨rfl, rfl⟩
          go_wp2_with fail
          refine Calls.mono HF.out ?_
          rintro e w' ⟨rfl, rfl⟩
          go_wp2_with fail
          go_quiet (fail)
          rename_i nq
          have k1q := cell_drew nq k1
          clear k1
          have HBQ := Lib.hid (below_any nq HB.out)
          go_wp2_with fail
          go_ret
          exact ⟨rfl, HBQ.out⟩
    have hw0 := hw
    clear hw
    by_cases hw : wh = 1
    · subst hw
      clear hw0
      by_cases hp : placeF ls nm < ls.length
      rotate_left
      · have hfi : findI ls nm = -1 := by unfold findI; rw [if_neg hp]
        rw [hfi] at HF
        have hr2 : r = 5 := by rw [← HR.out]; unfold refS; rw [if_neg (by rw [hnv]; simp), if_neg (by omega), if_neg hp, if_pos (by simp)]
        subst hr2
        clear hnv HR hp hfi
        subst hW
        go_enter Try.func38, Try.ntmps38
        go_wp2_with fail
        refine Calls.mono HM.out ?_
        rintro e w' ⟨rfl, rfl⟩
        go_wp2_with fail
        refine Calls.mono HF.out ?_
        rintro e w' ⟨rfl, rfl⟩
        go_wp2_with fail
        go_ret
        exact ⟨rfl, HB.out⟩
      · obtain ⟨b, off, hA, hb, k0, k1, k2⟩ := HA.out.at hp
        obtain ⟨x, hx, hxt⟩ := fil_at hp
        rw [hx] at k1
        have hxs : x.bytes.size ≤ 140737488351232 := HS.out x (by rw [← hx]; exact List.getElem_mem hp)
        have hg : ls.getD (placeF ls nm) ⟨⟨#[]⟩, ⟨#[]⟩, 0⟩ = x := by rw [List.getD_eq_getElem?_getD, List.getElem?_eq_getElem hp, hx]; rfl
        have hfi : findI ls nm = placeF ls nm := by unfold findI; rw [if_pos hp]
        have hpn : placeF ls nm < n := by have := HN.out; omega
        rw [hfi] at HF
        have HG := Lib.hid hg
        have HP := Lib.hid hp
        have hr1 := HR.out
        skip
        by_cases hl : N < 0
        · have dl : decide (N < 0) = true := decide_eq_true hl
          have hr2 : r = 4 := by rw [← HR.out]; unfold refS; rw [if_neg (by rw [hnv]; simp), if_neg (by omega), if_pos hp, hg, if_pos ⟨rfl, .inl hl⟩]
          subst hr2
          clear hnv HR hg hx hxt hfi k0 k2 HG HP hr1
          generalize placeF ls nm = pl at hpn k1 HF hp
          clear hp
          subst hA
          subst hW
          go_enter Try.func38, Try.ntmps38
          go_wp2_with fail
          refine Calls.mono HM.out ?_
          rintro e w' ⟨rfl, rfl⟩
          go_wp2_with fail
          refine Calls.mono HF.out ?_
          rintro e w' ⟨rfl, rfl⟩
          go_wp2_with fail
          go_quiet (fail)
          rename_i nq
          have k1q := cell_drew nq k1
          clear k1
          have HBQ := Lib.hid (below_any nq HB.out)
          go_wp2_with fail
          go_ret
          exact ⟨rfl, HBQ.out⟩
        · have dl : decide (N < 0) = false := decide_eq_false hl
          by_cases hm : (x.bytes.size : Int) < N
          · have dm : decide ((x.bytes.size : Int) < N) = true := decide_eq_true hm
            have hr2 : r = 4 := by rw [← HR.out]; unfold refS; rw [if_neg (by rw [hnv]; simp), if_neg (by omega), if_pos hp, hg, if_pos ⟨rfl, .inr hm⟩]
            subst hr2
            clear hnv HR hg hx hxt hfi k0 k2 HG HP hr1
            generalize placeF ls nm = pl at hpn k1 HF hp
            clear hp
            subst hA
            subst hW
            go_enter Try.func38, Try.ntmps38
            go_wp2_with fail
            refine Calls.mono HM.out ?_
            rintro e w' ⟨rfl, rfl⟩
            go_wp2_with fail
            refine Calls.mono HF.out ?_
            rintro e w' ⟨rfl, rfl⟩
            go_wp2_with fail
            go_quiet (fail)
            rename_i nq
            have k1q := cell_drew nq k1
            clear k1
            have HBQ := Lib.hid (below_any nq HB.out)
            go_wp2_with fail
            go_ret
            exact ⟨rfl, HBQ.out⟩
          · have dm : decide ((x.bytes.size : Int) < N) = false := decide_eq_false hm
            have hr2 : r = 0 := by rw [← HR.out]; unfold refS; rw [if_neg (by rw [hnv]; simp), if_neg (by omega), if_pos hp, hg, if_neg (fun h => h.2.elim hl hm), if_neg (by omega)]
            subst hr2
            clear hnv HR hg hx hxt hfi k0 k2 HG HP hr1
            generalize placeF ls nm = pl at hpn k1 HF hp
            clear hp
            subst hA
            subst hW
            go_enter Try.func38, Try.ntmps38
            go_wp2_with fail
            refine Calls.mono HM.out ?_
            rintro e w' ⟨rfl, rfl⟩
            go_wp2_with fail
            refine Calls.mono HF.out ?_
            rintro e w' ⟨rfl, rfl⟩
            go_wp2_with fail
            go_quiet (fail)
            rename_i nq
            have k1q := cell_drew nq k1
            clear k1
            have HBQ := Lib.hid (below_any nq HB.out)
            go_wp2_with fail
            go_ret
            exact ⟨rfl, HBQ.out⟩
    have hw1 := hw
    clear hw
    by_cases hw : wh = 3
    · subst hw
      clear hw0 hw1
      cases htv : nameB to_ with
      | false =>
        have hr2 : r = 2 := by rw [← HR.out]; unfold refS; rw [if_neg (by rw [hnv]; simp), if_pos ⟨rfl, htv⟩]
        subst hr2
        rw [htv] at HT
        clear hnv HR htv
        subst hW
        go_enter Try.func38, Try.ntmps38
        go_wp2_with fail
        refine Calls.mono HM.out ?_
        rintro e w' ⟨rfl, rfl⟩
        go_wp2_with fail
        refine Calls.mono HT.out ?_
        rintro e w' ⟨rfl, rfl⟩
        go_wp2_with fail
        go_ret
        exact ⟨rfl, HB.out⟩
      | true =>
        rw [htv] at HT
        by_cases hp : placeF ls nm < ls.length
        rotate_left
        · have hfi : findI ls nm = -1 := by unfold findI; rw [if_neg hp]
          rw [hfi] at HF
          have hr2 : r = 5 := by rw [← HR.out]; unfold refS; rw [if_neg (by rw [hnv]; simp), if_neg (by rw [htv]; simp), if_neg hp, if_pos (by simp)]
          subst hr2
          clear hnv HR hp hfi
          subst hW
          go_enter Try.func38, Try.ntmps38
          go_wp2_with fail
          refine Calls.mono HM.out ?_
          rintro e w' ⟨rfl, rfl⟩
          go_wp2_with fail
          refine Calls.mono HT.out ?_
          rintro e w' ⟨rfl, rfl⟩
          go_wp2_with fail
          refine Calls.mono HF.out ?_
          rintro e w' ⟨rfl, rfl⟩
          go_wp2_with fail
          go_ret
          exact ⟨rfl, HB.out⟩
        · obtain ⟨b, off, hA, hb, k0, k1, k2⟩ := HA.out.at hp
          obtain ⟨x, hx, hxt⟩ := fil_at hp
          rw [hx] at k1
          have hxs : x.bytes.size ≤ 140737488351232 := HS.out x (by rw [← hx]; exact List.getElem_mem hp)
          have hg : ls.getD (placeF ls nm) ⟨⟨#[]⟩, ⟨#[]⟩, 0⟩ = x := by rw [List.getD_eq_getElem?_getD, List.getElem?_eq_getElem hp, hx]; rfl
          have hfi : findI ls nm = placeF ls nm := by unfold findI; rw [if_pos hp]
          have hpn : placeF ls nm < n := by have := HN.out; omega
          rw [hfi] at HF
          have HG := Lib.hid hg
          have HP := Lib.hid hp
          have hr1 := HR.out
          skip
          have hr2 : r = 0 := by rw [← HR.out]; unfold refS; rw [if_neg (by rw [hnv]; simp), if_neg (by rw [htv]; simp), if_pos hp, hg, if_neg (by omega), if_neg (by omega)]
          subst hr2
          clear hnv HR hg hx hxt hfi k0 k2 HG HP hr1
          generalize placeF ls nm = pl at hpn k1 HF hp
          clear hp
          subst hA
          subst hW
          go_enter Try.func38, Try.ntmps38
          go_wp2_with fail
          refine Calls.mono HM.out ?_
          rintro e w' ⟨rfl, rfl⟩
          go_wp2_with fail
          refine Calls.mono HT.out ?_
          rintro e w' ⟨rfl, rfl⟩
          go_wp2_with fail
          refine Calls.mono HF.out ?_
          rintro e w' ⟨rfl, rfl⟩
          go_wp2_with fail
          go_quiet (fail)
          rename_i nq
          have k1q := cell_drew nq k1
          clear k1
          have HBQ := Lib.hid (below_any nq HB.out)
          go_wp2_with fail
          go_ret
          exact ⟨rfl, HBQ.out⟩
    have hw3 := hw
    clear hw
    by_cases hp : placeF ls nm < ls.length
    rotate_left
    · have hfi : findI ls nm = -1 := by unfold findI; rw [if_neg hp]
      rw [hfi] at HF
      have hr2 : r = 5 := by rw [← HR.out]; unfold refS; rw [if_neg (by rw [hnv]; simp), if_neg (fun h => hw3 h.1), if_neg hp, if_pos hw0]
      subst hr2
      have e0 : decide (wh = 0) = false := decide_eq_false hw0
      have e1 : decide (wh = 1) = false := decide_eq_false hw1
      have e3 : decide (wh = 3) = false := decide_eq_false hw3
      have f0 : (wh == 0) = false := by simpa using hw0
      have f1 : (wh == 1) = false := by simpa using hw1
      have f3 : (wh == 3) = false := by simpa using hw3
      have g0 : (wh != 0) = true := by simpa using hw0
      clear hnv HR hp hfi
      clear hw0 hw1 hw3
      subst hW
      go_enter Try.func38, Try.ntmps38
      go_wp2_with fail
      refine Calls.mono HM.out ?_
      rintro e w' ⟨rfl, rfl⟩
      go_wp2_with fail
      refine Calls.mono HF.out ?_
      rintro e w' ⟨rfl, rfl⟩
      go_wp2_with fail
      go_ret
      exact ⟨rfl, HB.out⟩
    · obtain ⟨b, off, hA, hb, k0, k1, k2⟩ := HA.out.at hp
      obtain ⟨x, hx, hxt⟩ := fil_at hp
      rw [hx] at k1
      have hxs : x.bytes.size ≤ 140737488351232 := HS.out x (by rw [← hx]; exact List.getElem_mem hp)
      have hg : ls.getD (placeF ls nm) ⟨⟨#[]⟩, ⟨#[]⟩, 0⟩ = x := by rw [List.getD_eq_getElem?_getD, List.getElem?_eq_getElem hp, hx]; rfl
      have hfi : findI ls nm = placeF ls nm := by unfold findI; rw [if_pos hp]
      have hpn : placeF ls nm < n := by have := HN.out; omega
      rw [hfi] at HF
      have HG := Lib.hid hg
      have HP := Lib.hid hp
      have hr1 := HR.out
      skip
      have hr2 : r = 0 := by rw [← HR.out]; unfold refS; rw [if_neg (by rw [hnv]; simp), if_neg (fun h => hw3 h.1), if_pos hp, hg, if_neg (fun h => hw1 h.1), if_neg (fun h => hw0 h.1)]
      subst hr2
      have e0 : decide (wh = 0) = false := decide_eq_false hw0
      have e1 : decide (wh = 1) = false := decide_eq_false hw1
      have e3 : decide (wh = 3) = false := decide_eq_false hw3
      have f0 : (wh == 0) = false := by simpa using hw0
      have f1 : (wh == 1) = false := by simpa using hw1
      have f3 : (wh == 3) = false := by simpa using hw3
      have g0 : (wh != 0) = true := by simpa using hw0
      clear hnv HR hg hx hxt hfi k0 k2 HG HP hr1
      clear hw0 hw1 hw3
      generalize placeF ls nm = pl at hpn k1 HF hp
      clear hp
      subst hA
      subst hW
      go_enter Try.func38, Try.ntmps38
      go_wp2_with fail
      refine Calls.mono HM.out ?_
      rintro e w' ⟨rfl, rfl⟩
      go_wp2_with fail
      refine Calls.mono HF.out ?_
      rintro e w' ⟨rfl, rfl⟩
      go_wp2_with fail
      go_quiet (fail)
      rename_i nq
      have k1q := cell_drew nq k1
      clear k1
      have HBQ := Lib.hid (below_any nq HB.out)
      go_wp2_with fail
      go_ret
      exact ⟨rfl, HBQ.out⟩
end Go.Proofs.Ytcfglgejjmapdaa
