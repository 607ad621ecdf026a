/- The keys' sizes; the walk of CachePlays. -/
import Derived.Test.YtpomaabkgbaikaaDoorIs
import Derived.Test.YtpomaabkgbaikaaDoorWk
namespace Go.Proofs.YtpomaabkgbaikaaDoor
open Go Go.RowKit
def kOk (l : List En) : Prop := ∀ e ∈ l, e.key.size ≤ 1000000
theorem kOk.drp {l : List En} (h : kOk l) (n : ByteArray) : kOk (drp En.key l n) := fun e he => h e (List.mem_filter.1 he).1
theorem kOk.wth {l : List En} (h : kOk l) {x : En} (hx : x.key.size ≤ 1000000) : kOk (wth En.key l x) := by
  intro e he
  unfold Go.Proofs.YtpomaabkgbaikaaDoor.wth at he
  rcases List.mem_append.1 he with h1 | h1
  · exact h.drp _ e ((List.takeWhile_sublist _).subset h1)
  · rcases List.mem_cons.1 h1 with rfl | h2
    · exact hx
    · exact h.drp _ e ((List.dropWhile_sublist _).subset h2)
theorem kOk.putL {l : List En} (h : kOk l) (t : Nat) {k s : ByteArray} (hk : k.size ≤ 1000000) : kOk (putL l t k s) := by
  unfold Go.Proofs.YtpomaabkgbaikaaDoor.putL
  split
  · exact h.wth hk
  · exact h
theorem kOk.aD {ds ns : List En} (h : kOk ds) (x : Ac) : kOk (aD ds ns x) := by
  unfold Go.Proofs.YtpomaabkgbaikaaDoor.aD
  split
  · unfold pL
    split
    · exact h
    · exact h.putL _ (by rw [digP_size]; omega)
  · split
    · intro e he; cases he
    · exact h
theorem kOk.aN {ds ns : List En} (h : kOk ns) {x : Ac} (hx : x.name.size ≤ 1000000) : kOk (aN ds ns x) := by
  unfold Go.Proofs.YtpomaabkgbaikaaDoor.aN
  split
  · exact h
  split
  · exact h
  split
  · unfold loadL
    split
    · exact h.putL _ hx
    · exact h
  · unfold unL
    split
    · exact h.drp _
    · exact h
theorem plays_ok (l : List Ac) (ho : ∀ x ∈ l, x.name.size ≤ 1000000 ∧ x.script.size ≤ 1000000) : ∀ k, k ≤ l.length → kOk (plays (l.take k)).1 ∧ kOk (plays (l.take k)).2
  | 0, _ => ⟨(fun e he => by cases he), (fun e he => by cases he)⟩
  | k + 1, h => by
    have ih := plays_ok l ho k (by omega)
    rw [plays_take (by omega)]
    exact ⟨ih.1.aD _, ih.2.aN (ho _ (List.getElem_mem _)).1⟩
theorem plays_all (l : List Ac) (ho : ∀ x ∈ l, x.name.size ≤ 1000000 ∧ x.script.size ≤ 1000000) : (plays l).1.length ≤ l.length ∧ (plays l).2.length ≤ l.length ∧ kOk (plays l).1 ∧ kOk (plays l).2 := by
  have h1 := plays_len l l.length (Nat.le_refl _)
  have h2 := plays_ok l ho l.length (Nat.le_refl _)
  rw [List.take_length] at h1 h2
  exact ⟨h1.1, h1.2, h2.1, h2.2⟩
set_option maxHeartbeats 8000000 in
set_option maxRecDepth 100000 in
theorem plays_walk (A : Option Addr) (n c : Nat) (l : List Ac) (key : ByteArray) (w : World) (hn : l.length = n) (hr : RdC w A l) (ln : n ≤ 9223372036854775807) (so : ∀ x ∈ l, x.ok) (hk : key.size ≤ maxLen) (hg : DG w) :
    Calls Tryd.prog 4 #[.slice A n c, .string key] w fun e w' => e = .returned (.bool true) ∧ Below w.heap.size w w' := by
  subst hn
  have HF := Lib.hid (few_any A c l w hr ln so)
  have HW := Lib.hid (fun (W : World) (hW : DG W) => works_any W hW)
  have HR := Lib.hid hr
  have HG := Lib.hid hg
  clear hr so hg
  go_enter Tryd.func4, Tryd.ntmps4
  go_wp2_with fail
  refine HF.out.mono ?_
  rintro e w1 ⟨⟨b, rfl, hacw⟩, hb1⟩
  have HB1 := Lib.hid hb1
  have HACW := Lib.hid hacw
  clear hb1 hacw HF
  cases b with
  | false =>
    go_wp2_with fail
    refine (HW.out _ (HG.out.below HB1.out)).mono ?_
    rintro e w2 ⟨rfl, hb2⟩
    have HB2 := Lib.hid (HB1.out.trans (hb2.mono HB1.out.size))
    clear hb2
    go_wp2_with fail
    go_ret
    exact ⟨rfl, HB2.out⟩
  | true =>
    by_cases hbig : 3000 < key.size
    · have d1 : decide (3000 < key.size) = true := decide_eq_true hbig
      have d2 : decide (3000 < (key.size : Int)) = true := decide_eq_true (by omega)
      go_wp2_with fail
      refine (HW.out _ (HG.out.below HB1.out)).mono ?_
      rintro e w2 ⟨rfl, hb2⟩
      have HB2 := Lib.hid (HB1.out.trans (hb2.mono HB1.out.size))
      clear hb2
      go_wp2_with fail
      go_ret
      exact ⟨rfl, HB2.out⟩
    have d1 : decide (3000 < key.size) = false := decide_eq_false hbig
    have d2 : decide (3000 < (key.size : Int)) = false := decide_eq_false (by omega)
    have hac := HACW.out rfl
    have hlen : l.length ≤ 60 := by have := acW_len l; omega
    have hso : ∀ x ∈ l, x.name.size ≤ 1000000 ∧ x.script.size ≤ 1000000 := fun x hx => by have := acW_mem hx; omega
    have HPA := Lib.hid (plays_all l hso)
    have HSO := Lib.hid hso
    clear hso hac HACW
    go_wp2_with fail
    refine (new_any w1).mono ?_
    rintro e w2 ⟨C, D, M, rfl, hca, hb2, hge⟩
    have HB2 := Lib.hid (HB1.out.trans (hb2.mono HB1.out.size))
    have HPL := Lib.hid (played_any A c l w2 (HR.out.below HB2.out) (by omega) HSO.out hca (HG.out.below HB2.out) (fun b t => by have := hge b t; have := (HG.out.below HB1.out).2; omega))
    have HT : Hid (∀ b, TC C D M b → w.heap.size ≤ b) := Lib.hid (fun b t => Nat.le_trans HB1.out.size (hge b t))
    clear hca hb2 hge
    go_wp2_with fail
    refine HPL.out.mono ?_
    rintro e w3 ⟨v1, v2, rfl, hr1, hr2, hca, hkt⟩
    have HB3 : Hid (Below w.heap.size w w3) := Lib.hid (HB2.out.trans (hkt.below HT.out HB2.out.size))
    have HCA := Lib.hid hca
    obtain ⟨ds, hds⟩ : ∃ d, (plays l).1 = d := ⟨_, rfl⟩
    obtain ⟨ns, hns⟩ : ∃ d, (plays l).2 = d := ⟨_, rfl⟩
    rw [hds] at hr1 HCA HPA
    rw [hns] at hr2 HCA HPA
    have HR1 := Lib.hid hr1
    have HR2 := Lib.hid hr2
    obtain ⟨V1, e1, hv1, -, -, hq1⟩ := hr1
    obtain ⟨V2, e2, hv2, -, -, hq2⟩ := hr2
    subst hv1
    subst hv2
    have HQ1 := Lib.hid hq1
    have HQ2 := Lib.hid hq2
    clear hca hkt hds hns hq1 hq2 HPL
    go_wp2_with fail
    have hb4 := below_new w3 (.cells #[.slice V1 ds.length e1, .slice V2 ns.length e2] 30)
    have HN4 := Lib.hid (heap_alloc_new w3 (.cells #[.slice V1 ds.length e1, .slice V2 ns.length e2] 30))
    have HCA4 := Lib.hid (HCA.out.below hb4)
    have HR14 := Lib.hid (HR1.out.below hb4)
    have HR24 := Lib.hid (HR2.out.below hb4)
    have HQ14 := Lib.hid (HQ1.out.below hb4)
    have HQ24 := Lib.hid (HQ2.out.below hb4)
    have HB4 := Lib.hid (HB3.out.trans (hb4.mono HB3.out.size))
    clear hb4 HCA HR1 HR2 HQ1 HQ2 HB3 HT
    generalize w3.alloc (.cells #[.slice V1 ds.length e1, .slice V2 ns.length e2] 30) = w4 at *
    generalize w3.heap.size = g at *
    obtain ⟨s1, hs1⟩ : ∃ s, scr ds key = s := ⟨_, rfl⟩
    obtain ⟨t1, ht1⟩ : ∃ s, hasK ds key = s := ⟨_, rfl⟩
    obtain ⟨s2, hs2⟩ : ∃ s, scr ns key = s := ⟨_, rfl⟩
    obtain ⟨t2, ht2⟩ : ∃ s, hasK ns key = s := ⟨_, rfl⟩
    have HS1 := Lib.hid hs1
    have HS2 := Lib.hid hs2
    have HT1 := Lib.hid ht1
    have HT2 := Lib.hid ht2
    clear hs1 hs2 ht1 ht2
    have HG4 := Lib.hid (getc_any key w4 HCA4.out hk)
    rw [HS1.out, HT1.out] at HG4
    refine HG4.out.mono ?_
    rintro e w5 ⟨rfl, hb5⟩
    have z5 := cell2 ((hb5.block _ (Array.getElem?_eq_some_iff.1 HN4.out).1).trans HN4.out)
    obtain ⟨z0, z1⟩ := z5
    have HN5 := Lib.hid ((hb5.block _ (Array.getElem?_eq_some_iff.1 HN4.out).1).trans HN4.out)
    have HCA5 := Lib.hid (HCA4.out.below hb5)
    have HR15 := Lib.hid (HR14.out.below hb5)
    have HR25 := Lib.hid (HR24.out.below hb5)
    have HQ15 := Lib.hid (HQ14.out.below hb5)
    have HQ25 := Lib.hid (HQ24.out.below hb5)
    have HB5 := Lib.hid (HB4.out.trans (hb5.mono HB4.out.size))
    have HF1 := Lib.hid (find_any V1 e1 ds key w5 HQ15.out (by have := HPA.out.1; omega))
    rw [HS1.out, HT1.out] at HF1
    clear hb5 HN4 HCA4 HR14 HR24 HQ14 HQ24 HB4 HG4
    go_wp2_with fail
    refine HF1.out.mono ?_
    rintro e w6 ⟨rfl, rfl⟩
    have HG5 := Lib.hid (namedc_any key w5 HCA5.out hk)
    rw [HS2.out, HT2.out] at HG5
    clear HF1
    go_wp2_with fail
    refine HG5.out.mono ?_
    rintro e w6 ⟨rfl, hb6⟩
    clear z0 z1
    have z5 := cell2 ((hb6.block _ (Array.getElem?_eq_some_iff.1 HN5.out).1).trans HN5.out)
    obtain ⟨z0, z1⟩ := z5
    have HCA6 := Lib.hid (HCA5.out.below hb6)
    have HR16 := Lib.hid (HR15.out.below hb6)
    have HR26 := Lib.hid (HR25.out.below hb6)
    have HB6 := Lib.hid (HB5.out.trans (hb6.mono HB5.out.size))
    have HF2 := Lib.hid (find_any V2 e2 ns key w6 (HQ25.out.below hb6) (by have := HPA.out.2.1; omega))
    rw [HS2.out, HT2.out] at HF2
    clear hb6 HN5 HCA5 HR15 HR25 HQ15 HQ25 HB5 HG5
    go_wp2_with fail
    refine HF2.out.mono ?_
    rintro e w7 ⟨rfl, rfl⟩
    have HIS := Lib.hid (is_any _ _ w6 HCA6.out HR16.out HR26.out (by have := HPA.out.1; omega) (by have := HPA.out.2.1; omega) (fun e he => by have := HPA.out.2.2.1 e he; simp only [maxLen]; omega) (fun e he => by have := HPA.out.2.2.2 e he; simp only [maxLen]; omega))
    clear HF2
    have q1 := bytes_eq s1
    have q2 := bytes_eq s2
    have q3 : (t1 == t1) = true := by simp
    have q4 : (t2 == t2) = true := by simp
    go_wp2_with fail
    refine HIS.out.mono ?_
    rintro e w8 ⟨rfl, hb8⟩
    have HB8 := Lib.hid (HB6.out.trans (hb8.mono HB6.out.size))
    clear hb8 z0 z1
    go_wp2_with fail
    refine (HW.out _ (HG.out.below HB8.out)).mono ?_
    rintro e w9 ⟨rfl, hb9⟩
    have HB9 := Lib.hid (HB8.out.trans (hb9.mono HB8.out.size))
    clear hb9
    go_wp2_with fail
    go_ret
    exact ⟨rfl, HB9.out⟩
end Go.Proofs.YtpomaabkgbaikaaDoor
