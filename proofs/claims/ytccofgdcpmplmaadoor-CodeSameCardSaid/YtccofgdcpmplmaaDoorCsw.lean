/- Two programs that are the same: the law's walk. -/
import Derived.Test.YtccofgdcpmplmaaDoorKno
import Derived.Test.YtccofgdcpmplmaaDoorLrg
import Derived.Test.YtccofgdcpmplmaaDoorRsa
namespace Go.Proofs.YtccofgdcpmplmaaDoor
open Go Go.RowKit Go.Shelf
theorem sameG_refl (g : Pg) : sameG g g = true := by simp [sameG]
set_option maxRecDepth 100000 in
set_option maxHeartbeats 16000000 in
theorem same_walk (g h : Pg) (w : World) (hg : g.at w) (hh : h.at w) (og : g.ok) (oh : h.ok) (hs : SPC w) :
    Calls Tryd.prog 5 #[.agg g.vals, .agg h.vals] w fun e w' => e = .returned (.bool true) ∧ Below w.heap.size w w' := by
  obtain ⟨h1, h2, hb⟩ := two_boxes w g.vals h.vals 26
  have HB := Lib.hid hb
  have HS := Lib.hid hs
  have HG : Hid (∀ W, Below w.heap.size w W → g.at W) := Lib.hid (fun W hb => hg.below hb)
  have HH : Hid (∀ W, Below w.heap.size w W → h.at W) := Lib.hid (fun W hb => hh.below hb)
  have HOG := Lib.hid og
  have HOH := Lib.hid oh
  have L1 : ∀ W, Below w.heap.size w W → Calls Tryd.prog 6 #[.agg g.vals] W fun e w' => (∃ b, e = .returned (.bool b) ∧ (b = false → g.few)) ∧ Below W.heap.size W w' := fun W hb => large_any g W (HG.out W hb) og
  have L2 : ∀ W, Below w.heap.size w W → Calls Tryd.prog 6 #[.agg h.vals] W fun e w' => (∃ b, e = .returned (.bool b) ∧ (b = false → h.few)) ∧ Below W.heap.size W w' := fun W hb => large_any h W (HH.out W hb) oh
  have K1 : ∀ W, Below w.heap.size w W → Calls Tryd.prog 7 #[] W fun e w' => e = .returned (.bool true) ∧ Below W.heap.size W w' := fun W hb => known_any W (spc_below hs hb)
  have S1 : ∀ W, g.few → h.few → Below w.heap.size w W → Calls Tryd.prog 12 #[.agg g.vals, .agg h.vals] W fun e w' => e = .returned (.bool (sameG g h)) ∧ Below W.heap.size W w' := fun W f1 f2 hb => same_any g h W (HG.out W hb) (HH.out W hb) f1.small f2.small
  have S2 : ∀ W, g.few → h.few → Below w.heap.size w W → Calls Tryd.prog 13 #[.agg g.vals, .agg h.vals] W fun e w' => e = .returned (.bool (sameG g h)) ∧ Below W.heap.size W w' := fun W f1 f2 hb => rsame_any g h W (HG.out W hb) (HH.out W hb) f1.small f2.small
  have S3 : ∀ W, g.few → Below w.heap.size w W → Calls Tryd.prog 12 #[.agg g.vals, .agg g.vals] W fun e w' => e = .returned (.bool true) ∧ Below W.heap.size W w' := fun W f1 hb => by
    have k := same_any g g W (HG.out W hb) (HG.out W hb) f1.small f1.small
    rw [sameG_refl] at k
    exact k
  obtain ⟨v0, v1, v2, hv⟩ : ∃ v0 v1 v2, g.vals = #[v0, v1, v2] := ⟨_, _, _, rfl⟩
  obtain ⟨u0, u1, u2, hu⟩ : ∃ u0 u1 u2, h.vals = #[u0, u1, u2] := ⟨_, _, _, rfl⟩
  obtain ⟨t, ht⟩ : ∃ t, sameG g h = t := ⟨_, rfl⟩
  rw [hv] at h1 h2 hb HB L1 S1 S2 S3 ⊢
  rw [hu] at h1 h2 hb HB L2 S1 S2 ⊢
  rw [ht] at S1 S2
  have HL1 := Lib.hid L1
  have HL2 := Lib.hid L2
  have HK := Lib.hid K1
  have HS1 := Lib.hid S1
  have HS2 := Lib.hid S2
  have HS3 := Lib.hid S3
  clear hg hh og oh hs hv hu ht L1 L2 K1 S1 S2 S3 HG HH hb
  have H1 := Lib.hid h1
  have H2 := Lib.hid h2
  clear h1 h2
  go_enter Tryd.func5, Tryd.ntmps5
  go_upto_region 1 with (fail)
  generalize (w.alloc _).alloc _ = w2 at *
  have hcx : ∀ W, Below w2.heap.size w2 W → (W.cell? ⟨w.heap.size, 0, none⟩ = some v0 ∧ W.cell? ⟨w.heap.size, 1, none⟩ = some v1 ∧ W.cell? ⟨w.heap.size, 2, none⟩ = some v2) ∧ W.cell? ⟨w.heap.size + 1, 0, none⟩ = some u0 ∧ W.cell? ⟨w.heap.size + 1, 1, none⟩ = some u1 ∧ W.cell? ⟨w.heap.size + 1, 2, none⟩ = some u2 := fun W hb => ⟨cell3 ((hb.block _ (Array.getElem?_eq_some_iff.1 H1.out).1).trans H1.out), cell3 ((hb.block _ (Array.getElem?_eq_some_iff.1 H2.out).1).trans H2.out)⟩
  have HCX := Lib.hid hcx
  clear hcx
  have hw : ∀ W, Below w2.heap.size w2 W → Below w.heap.size w W := fun W hb => HB.out.trans (hb.mono HB.out.size)
  have HW := Lib.hid hw
  clear hw
  have HR2 := Lib.hid (Below.refl w2.heap.size w2)
  obtain ⟨⟨x0, x1, x2⟩, x3, x4, x5⟩ := HCX.out _ HR2.out
  go_wp2_with fail
  refine (HL1.out _ (HW.out _ HR2.out)).mono ?_
  rintro e w3 ⟨⟨b1, rfl, hf1⟩, hb3⟩
  have HF1 := Lib.hid hf1
  have HB3 := Lib.hid hb3
  clear hf1 hb3 x0 x1 x2 x3 x4 x5
  obtain ⟨⟨x0, x1, x2⟩, x3, x4, x5⟩ := HCX.out _ HB3.out
  have HK3 := Lib.hid (HK.out _ (HW.out _ HB3.out))
  cases b1
  rotate_left
  · go_wp2_with fail
    refine HK3.out.mono ?_
    rintro e w4 ⟨rfl, hb4⟩
    have HB4 := Lib.hid (HB3.out.trans (hb4.mono HB3.out.size))
    clear hb4 HK3 x0 x1 x2 x3 x4 x5
    go_wp2_with fail
    go_ret
    exact ⟨rfl, HW.out _ HB4.out⟩
  clear HK3
  go_wp2_with fail
  refine (HL2.out _ (HW.out _ HB3.out)).mono ?_
  rintro e w4 ⟨⟨b2, rfl, hf2⟩, hb4⟩
  have HF2 := Lib.hid hf2
  have HB4 := Lib.hid (HB3.out.trans (hb4.mono HB3.out.size))
  clear hf2 hb4 x0 x1 x2 x3 x4 x5
  have HK4 := Lib.hid (HK.out _ (HW.out _ HB4.out))
  cases b2
  rotate_left
  · go_wp2_with fail
    refine HK4.out.mono ?_
    rintro e w5 ⟨rfl, hb5⟩
    have HB5 := Lib.hid (HB4.out.trans (hb5.mono HB4.out.size))
    clear hb5 HK4
    go_wp2_with fail
    go_ret
    exact ⟨rfl, HW.out _ HB5.out⟩
  clear HK4
  have HT1 : Hid (∀ W, Below w4.heap.size w4 W → Calls Tryd.prog 12 #[.agg #[v0, v1, v2], .agg #[u0, u1, u2]] W fun e w' => e = .returned (.bool t) ∧ Below W.heap.size W w') := Lib.hid (fun W hb => HS1.out W (HF1.out (by first | trivial | rfl)) (HF2.out (by first | trivial | rfl)) (HW.out _ (HB4.out.trans (hb.mono HB4.out.size))))
  have HT2 : Hid (∀ W, Below w4.heap.size w4 W → Calls Tryd.prog 13 #[.agg #[v0, v1, v2], .agg #[u0, u1, u2]] W fun e w' => e = .returned (.bool t) ∧ Below W.heap.size W w') := Lib.hid (fun W hb => HS2.out W (HF1.out (by first | trivial | rfl)) (HF2.out (by first | trivial | rfl)) (HW.out _ (HB4.out.trans (hb.mono HB4.out.size))))
  have HT3 : Hid (∀ W, Below w4.heap.size w4 W → Calls Tryd.prog 12 #[.agg #[v0, v1, v2], .agg #[v0, v1, v2]] W fun e w' => e = .returned (.bool true) ∧ Below W.heap.size W w') := Lib.hid (fun W hb => HS3.out W (HF1.out (by first | trivial | rfl)) (HW.out _ (HB4.out.trans (hb.mono HB4.out.size))))
  have HT4 : Hid (∀ W, Below w4.heap.size w4 W → Calls Tryd.prog 7 #[] W fun e w' => e = .returned (.bool true) ∧ Below W.heap.size W w') := Lib.hid (fun W hb => HK.out W (HW.out _ (HB4.out.trans (hb.mono HB4.out.size))))
  have HC4 : Hid (∀ W, Below w4.heap.size w4 W → (W.cell? ⟨w.heap.size, 0, none⟩ = some v0 ∧ W.cell? ⟨w.heap.size, 1, none⟩ = some v1 ∧ W.cell? ⟨w.heap.size, 2, none⟩ = some v2) ∧ W.cell? ⟨w.heap.size + 1, 0, none⟩ = some u0 ∧ W.cell? ⟨w.heap.size + 1, 1, none⟩ = some u1 ∧ W.cell? ⟨w.heap.size + 1, 2, none⟩ = some u2) := Lib.hid (fun W hb => HCX.out W (HB4.out.trans (hb.mono HB4.out.size)))
  have HBD := Lib.hid ((Below.refl w4.heap.size w4).drew)
  have HTR : Hid (∀ A B, Below w4.heap.size w4 A → Below A.heap.size A B → Below w4.heap.size w4 B) := Lib.hid (fun A B h k => h.trans (k.mono h.size))
  have dt : decide (t = t) = true := decide_eq_true rfl
  have db : (t == t) = true := beq_self_eq_true t
  obtain ⟨⟨x0, x1, x2⟩, x3, x4, x5⟩ := HC4.out _ (Below.refl _ _)
  go_wp2_with fail
  clear HL1 HL2 HK HS1 HS2 HS3 HF1 HF2 HOG HOH HS H1 H2 HCX HR2 HB3
  go_region_held3 (fun W => W.cell? ⟨w.heap.size, 0, none⟩ = some v0 ∧ W.cell? ⟨w.heap.size, 1, none⟩ = some v1 ∧ W.cell? ⟨w.heap.size, 2, none⟩ = some v2 ∧ W.cell? ⟨w.heap.size + 1, 0, none⟩ = some u0 ∧ W.cell? ⟨w.heap.size + 1, 1, none⟩ = some u1 ∧ W.cell? ⟨w.heap.size + 1, 2, none⟩ = some u2)
    (first | assumption | (exact ⟨x0, x1, x2, x3, x4, x5⟩) | (exact ⟨y0, y1, y2, y3, y4, y5⟩) | go_keep | fail)
    (first
      | (go_at_call 13; with_reducible (refine (HT2.out _ HB5.out).mono ?_); rintro e w6 ⟨rfl, hb6⟩; have HB6 := Lib.hid (HTR.out _ _ HB5.out hb6); obtain ⟨⟨y0, y1, y2⟩, y3, y4, y5⟩ := HC4.out _ HB6.out; clear hb6)
      | (go_at_call 7; with_reducible (refine (HT4.out _ HB7.out).mono ?_); rintro e w8 ⟨rfl, hb8⟩; have HB8 := Lib.hid (HTR.out _ _ HB7.out hb8); obtain ⟨⟨y0, y1, y2⟩, y3, y4, y5⟩ := HC4.out _ HB8.out; clear hb8)
      | (go_at_call 12; with_reducible (refine (HT3.out _ HB6.out).mono ?_); rintro e w7 ⟨rfl, hb7⟩; have HB7 := Lib.hid (HTR.out _ _ HB6.out hb7); obtain ⟨⟨y0, y1, y2⟩, y3, y4, y5⟩ := HC4.out _ HB7.out; clear hb7)
      | (go_at_call 12; with_reducible (refine (HT1.out _ HBD.out).mono ?_); rintro e w5 ⟨rfl, hb5⟩; have HB5 := Lib.hid (HTR.out _ _ HBD.out hb5); obtain ⟨⟨y0, y1, y2⟩, y3, y4, y5⟩ := HC4.out _ HB5.out; clear hb5))
  go_wp2_with fail
  go_ret
  exact ⟨rfl, HW.out _ (HB4.out.trans (HB8.out.mono HB4.out.size))⟩
end Go.Proofs.YtccofgdcpmplmaaDoor
