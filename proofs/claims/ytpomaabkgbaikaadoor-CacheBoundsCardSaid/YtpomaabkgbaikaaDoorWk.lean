/- What is flushed, counted; the known cache of all statements. -/
import Derived.Test.YtpomaabkgbaikaaDoorFd
namespace Go.Proofs.YtpomaabkgbaikaaDoor
open Go Go.RowKit Go.Maps Go.Sort Go.Shelf
attribute [local go_sem] Oper.semAt_some
section
variable {C D M : Nat} {ds ns : List En}
theorem MP.clear {K : Nat} {l : List En} {W : World} (h : MP K l W) : ∃ W', (∀ ty, (Builtin.clear_ #[63] ty #[.map (some K)]).run Tryd.prog W = .ok (.tuple #[]) W') ∧ MP K [] W' ∧ KeepT (fun b => b = K) W W' := by
  obtain ⟨es, clock, hb⟩ := h.isMap
  refine ⟨{ W with heap := W.heap.setIfInBounds K (.map #[] clock) }, fun ty => ?_, ?_, ?_⟩
  · obtain ⟨o, h1, rfl⟩ := clear_map hb ty
    exact h1
  · refine ⟨⟨#[], clock, (MapKept.heap_set hb).1, ⟨by simp, MapKept.stamped_empty clock, by simp⟩, Nat.le_refl _, rfl⟩, List.Pairwise.nil⟩
  · refine ⟨rfl, rfl, rfl, by simp, fun b _ hn => (MapKept.heap_set hb).2 b hn⟩
set_option maxRecDepth 100000 in
theorem flush_any (w : World) (h : CA C D M ds ns w) : Calls Tryd.prog 27 #[.pointer (some ⟨C, 0, none⟩)] w fun e w' => e = .returned (.tuple #[]) ∧ CA C D M [] ns w' ∧ KeepT (TC C D M) w w' := by
  have HN := Lib.hid (none_any w h)
  have HCA := Lib.hid h
  have h1 := h.cells.1
  obtain ⟨W', hcl, hm, hk⟩ := h.dig.clear
  have HM := Lib.hid hm
  have HK := Lib.hid hk
  clear h hm hk
  go_enter Tryd.func27, Tryd.ntmps27
  go_wp2_with fail
  refine HN.out.mono ?_
  rintro e w1 ⟨rfl, rfl⟩
  go_wp2_with fail
  go_end0
  exact ⟨rfl, HCA.out.putD HM.out HK.out, HK.out.mono fun b e => .inr (.inl e)⟩
set_option maxRecDepth 100000 in
theorem len_any (w : World) (h : CA C D M ds ns w) (hd : ds.length ≤ 100000000) (hn : ns.length ≤ 100000000) : Calls Tryd.prog 28 #[.pointer (some ⟨C, 0, none⟩)] w fun e w' => e = .returned (.int .i64 ((ds.length + ns.length : Nat) : Int)) ∧ ∃ q, w' = w.drewN q := by
  have HN := Lib.hid (none_any w h)
  have HC := Lib.hid (count_any w h hd hn)
  clear h
  go_enter Tryd.func28, Tryd.ntmps28
  go_wp2_with fail
  refine HN.out.mono ?_
  rintro e w1 ⟨rfl, rfl⟩
  go_wp2_with fail
  refine HC.out.mono ?_
  rintro e w2 ⟨rfl, q, rfl⟩
  go_wp2_with fail
  go_ret
  exact ⟨rfl, _, rfl⟩
end
abbrev abcT : ByteArray := ⟨#[97, 98, 99]⟩
abbrev abcD : ByteArray := ⟨#[97, 57, 57, 57, 51, 101, 51, 54, 52, 55, 48, 54, 56, 49, 54, 97, 98, 97, 51, 101, 50, 53, 55, 49, 55, 56, 53, 48, 99, 50, 54, 99, 57, 99, 100, 48, 100, 56, 57, 100]⟩
theorem dig_abc : digP abcT = abcD := by
  have h : Dg.digS [97, 98, 99] = [97, 57, 57, 57, 51, 101, 51, 54, 52, 55, 48, 54, 56, 49, 54, 97, 98, 97, 51, 101, 50, 53, 55, 49, 55, 56, 53, 48, 99, 50, 54, 99, 57, 99, 100, 48, 100, 56, 57, 100] := by decide +kernel
  show (⟨(Dg.digS [97, 98, 99]).toArray⟩ : ByteArray) = _
  rw [h]
theorem k1 : pE [] 0 abcT = 0 ∧ pD [] 0 abcT = abcD ∧ pL [] 0 abcT = [⟨abcD, abcT⟩] := by
  have e1 : pE [] 0 abcT = 0 := by
    unfold pE
    rw [if_neg (by decide), dig_abc]
    rfl
  refine ⟨e1, ?_, ?_⟩
  · unfold pD
    rw [e1, if_pos rfl, dig_abc]
  · unfold pL
    rw [if_neg (by decide), dig_abc]
    rfl
theorem k2 : scr [⟨abcD, abcT⟩] abcD = abcT ∧ hasK [⟨abcD, abcT⟩] abcD = true := ⟨rfl, rfl⟩
theorem k3 : loadE [] 1 ⟨#[102]⟩ ⟨#[120]⟩ = 0 ∧ loadL [] 1 ⟨#[102]⟩ ⟨#[120]⟩ = [⟨⟨#[102]⟩, ⟨#[120]⟩⟩] := ⟨by decide +kernel, by rw [loadL, if_pos (by decide +kernel), putL, if_pos (by decide +kernel)]; rfl⟩
theorem k4 : scr [⟨⟨#[102]⟩, ⟨#[120]⟩⟩] ⟨#[102]⟩ = ⟨#[120]⟩ ∧ hasK [⟨⟨#[102]⟩, ⟨#[120]⟩⟩] ⟨#[102]⟩ = true := ⟨rfl, rfl⟩
theorem k5 : unE [⟨⟨#[102]⟩, ⟨#[120]⟩⟩] ⟨#[103]⟩ = 5 ∧ unL [⟨⟨#[102]⟩, ⟨#[120]⟩⟩] ⟨#[103]⟩ = [⟨⟨#[102]⟩, ⟨#[120]⟩⟩] := ⟨by decide +kernel, by rw [unL, if_pos (by decide +kernel)]; rfl⟩
theorem k6 : nmB ⟨#[97, 95, 49]⟩ = true := by decide +kernel
theorem TC.below {C D M B : Nat} {w w' : World} (hk : KeepT (TC C D M) w w') (h : ∀ b, TC C D M b → B ≤ b) (hb : B ≤ w.heap.size) : Below B w w' := hk.below h hb
set_option maxRecDepth 100000 in
set_option maxHeartbeats 4000000 in
theorem works_any (w : World) (hg : DG w) : Calls Tryd.prog 9 #[] w fun e w' => e = .returned (.bool true) ∧ Below w.heap.size w w' := by
  have HG := Lib.hid hg
  have HNW := Lib.hid (new_any w)
  clear hg
  go_enter Tryd.func9, Tryd.ntmps9
  go_wp2_with fail
  refine HNW.out.mono ?_
  rintro e w1 ⟨C, D, M, rfl, hca, hb, ht⟩
  have HT := Lib.hid ht
  have HB1 := Lib.hid hb
  have HTT := Lib.hid (fun b (t : TC C D M b) => (show b ≠ 2 by have := ht b t; have := HG.out.2; omega))
  have HG1 := Lib.hid (HG.out.below hb)
  have hp := putc_any abcT w1 hca HG1.out HTT.out (by simp) (by simp) (.inl (by decide))
  rw [show ([] : List En).length + ([] : List En).length = 0 from rfl, k1.1, k1.2.1, k1.2.2] at hp
  have HP := Lib.hid hp
  clear hp hca hb ht HNW
  go_wp2_with fail
  refine HP.out.mono ?_
  rintro e w2 ⟨rfl, hca, hk⟩
  have HB2 := Lib.hid (HB1.out.trans (TC.below hk HT.out HB1.out.size))
  have HG2 := Lib.hid (HG1.out.keep hk (fun t => HTT.out 2 t rfl))
  have hq := getc_any abcD w2 hca (by decide)
  rw [k2.1, k2.2] at hq
  have HQ := Lib.hid hq
  have HC2 := Lib.hid hca
  clear hq hca hk HP
  go_wp2_with fail
  refine HQ.out.mono ?_
  rintro e w3 ⟨rfl, hb⟩
  have HB3 := Lib.hid (HB2.out.trans (hb.mono HB2.out.size))
  have hl := load_any ⟨#[102]⟩ ⟨#[120]⟩ w3 (HC2.out.below hb) (by decide) (by simp) (by simp) (by decide)
  rw [show ([⟨abcD, abcT⟩] : List En).length + ([] : List En).length = 1 from rfl, k3.1, k3.2] at hl
  have HL := Lib.hid hl
  clear hl hb HQ
  go_wp2_with fail
  refine HL.out.mono ?_
  rintro e w4 ⟨rfl, hca, hk⟩
  have HB4 := Lib.hid (HB3.out.trans (TC.below hk HT.out HB3.out.size))
  have hq := namedc_any ⟨#[102]⟩ w4 hca (by decide)
  rw [k4.1, k4.2] at hq
  have HQ := Lib.hid hq
  have HC4 := Lib.hid hca
  clear hq hca hk HL
  go_wp2_with fail
  refine HQ.out.mono ?_
  rintro e w5 ⟨rfl, hb⟩
  have HB5 := Lib.hid (HB4.out.trans (hb.mono HB4.out.size))
  have hu := unload_any ⟨#[103]⟩ w5 (HC4.out.below hb) (by decide)
  rw [k5.1, k5.2] at hu
  have HU := Lib.hid hu
  clear hu hb HQ
  go_wp2_with fail
  refine HU.out.mono ?_
  rintro e w6 ⟨rfl, hca, hk⟩
  have HB6 := Lib.hid (HB5.out.trans (TC.below hk HT.out HB5.out.size))
  have hln := len_any w6 hca (by simp) (by simp)
  rw [show ([⟨abcD, abcT⟩] : List En).length + ([⟨⟨#[102]⟩, ⟨#[120]⟩⟩] : List En).length = 2 from rfl] at hln
  have HLN := Lib.hid hln
  clear hln hca hk HU
  go_wp2_with fail
  refine (num_any 0 w6).mono ?_
  rintro e w7 ⟨rfl, rfl⟩
  go_wp2_with fail
  refine (num_any 0 w6).mono ?_
  rintro e w7 ⟨rfl, rfl⟩
  go_wp2_with fail
  refine (num_any 5 w6).mono ?_
  rintro e w7 ⟨rfl, rfl⟩
  go_wp2_with fail
  refine HLN.out.mono ?_
  rintro e w7 ⟨rfl, q, rfl⟩
  go_wp2_with fail
  refine (nm_any ⟨#[97, 95, 49]⟩ _ (by decide)).mono ?_
  rw [k6]
  rintro e w7 ⟨rfl, rfl⟩
  go_wp2_with fail
  go_ret
  exact ⟨rfl, below_any q HB6.out⟩
end Go.Proofs.YtpomaabkgbaikaaDoor
