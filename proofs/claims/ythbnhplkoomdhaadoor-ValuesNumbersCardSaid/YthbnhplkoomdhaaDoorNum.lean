/- The law of numbers: all ways together. -/
import Derived.Test.YthbnhplkoomdhaaDoorNumA
import Derived.Test.YthbnhplkoomdhaaDoorNumB
import Derived.Test.YthbnhplkoomdhaaDoorNumC
import Derived.Test.YthbnhplkoomdhaaDoorNumD
import Derived.Test.YthbnhplkoomdhaaDoorNeg
namespace Go.Proofs.YthbnhplkoomdhaaDoor
open Go Go.RowKit
theorem fits_zero : Fits 0 := by unfold Fits; omega
theorem mul_zero_fits (q b : Int) (hr : q * b = 0) : q * b = 0 := hr
/-- Where nothing is left the product is the number itself, and fits. -/
theorem mul_back (a b q : Int) (ha : Fits a) (hb : Fits b) (hq : Fits q) (hb0 : b ≠ 0) (he : q * b = a) : MulFits q b := by
  have hw : IntKind.i64.wrap (q * b) = a := by rw [he]; exact IntWalk.i64_in _ (by unfold Fits at ha; omega)
  refine ⟨?_, ?_, ?_⟩
  · rintro ⟨rfl, rfl⟩; unfold Fits at ha; omega
  · rintro ⟨rfl, rfl⟩; unfold Fits at ha; omega
  · rw [hw, ← he, Int.mul_tdiv_cancel q hb0]
    exact IntWalk.i64_in _ (by unfold Fits at hq; omega)
theorem mul_in (a b : Int) (ha : Fits a) (hb : Fits b) (hb0 : b ≠ 0) (h : MulFits a b) : Fits (a * b) := by
  have h1 : ¬ (a = -9223372036854775808 ∧ b = -1) := fun x => h.2.1 ⟨x.2, x.1⟩
  have := mul_exact a b ha hb hb0 h1 h.2.2
  have hr := IntKind.wrap_i64 (a * b)
  unfold Fits
  rw [← this, hr]
  omega
theorem numbers_any (a b : Int) (w : World) (ha : Fits a) (hb : Fits b) :
    Calls Tryd.prog 4 #[.int .i64 a, .int .i64 b] w fun e w' => e = .returned (.bool true) ∧ Below w.heap.size w w' := by
  by_cases hb0 : b = 0
  · exact path_zero_sf_nf_z a b 0 0 0 0 0 true w (fun W H ob tb c s0 h => op_div_zero W H ob tb c s0 a b h hb0) (fun W H ob tb c s0 h => op_rest_zero W H ob tb c s0 a b h hb0) hb0
  have hn : a ≠ -9223372036854775808 → ∀ W, Calls Tryd.prog 14 #[valI a] W fun e w' => e = .returned (.tuple #[valI (-a), .string { data := #[] }]) ∧ Below W.heap.size W w' := fun h W => neg_fine a W ha h
  have ho : a = -9223372036854775808 → ∀ W, Calls Tryd.prog 14 #[valI a] W fun e w' => e = .returned (.tuple #[valNo, .string { data := #[111, 118, 101, 114] }]) ∧ Below W.heap.size W w' := fun h W => neg_over a W h
  have sn : a ≠ -9223372036854775808 → OpC #[45] (valI 0) (valI a) (valI (-a)) #[] := fun h0 W H ob tb c s0 h => by
    have := op_sub_fine W H ob tb c s0 0 a h fits_zero ha (by unfold Fits at *; omega)
    rwa [show (0 : Int) - a = -a by omega] at this
  have so : a = -9223372036854775808 → OpC #[45] (valI 0) (valI a) valNo #[111, 118, 101, 114] := fun h0 W H ob tb c s0 h =>
    op_sub_over W H ob tb c s0 0 a h fits_zero ha (by unfold Fits; omega)
  have df : Fits (a - b) → OpC #[45] (valI a) (valI b) (valI (a - b)) #[] := fun hf W H ob tb c s0 h => op_sub_fine W H ob tb c s0 a b h ha hb hf
  have dn : ¬ Fits (a - b) → OpC #[45] (valI a) (valI b) valNo #[111, 118, 101, 114] := fun hf W H ob tb c s0 h => op_sub_over W H ob tb c s0 a b h ha hb hf
  have ab : Fits (a - b) → OpC #[43] (valI (a - b)) (valI b) (valI a) #[] := fun hf W H ob tb c s0 h => by
    have := op_add_fine W H ob tb c s0 (a - b) b h hf hb (by rw [show a - b + b = a by omega]; exact ha)
    rwa [show a - b + b = a by omega] at this
  by_cases hov : a = -9223372036854775808 ∧ b = -1
  · have hs : Fits (a - b) := by unfold Fits; omega
    exact path_over_sf_no_z a b 0 (modV a b) 0 (a - b) 0 true w (fun W H ob tb c s0 h => op_div_over W H ob tb c s0 a b h hov) (fun W H ob tb c s0 h => op_rest_fine W H ob tb c s0 a b h ha hb hb0) hb0 (df hs) (ab hs) (ho hov.1) (so hov.1)
  have hq := divV_fits a b ha hb hb0 hov
  have hr := modV_fits a b hb hb0
  have hqr := div_mod a b
  have hside := mod_side a b hb0
  have D : OpC #[47] (valI a) (valI b) (valI (divV a b)) #[] := fun W H ob tb c s0 h => op_div_fine W H ob tb c s0 a b h ha hb hb0 hov
  have R : OpC #[37] (valI a) (valI b) (valI (modV a b)) #[] := fun W H ob tb c s0 h => op_rest_fine W H ob tb c s0 a b h ha hb hb0
  generalize divV a b = q at *
  generalize modV a b = r at *
  have mz : q = 0 → OpC #[42] (valI q) (valI b) (valI (q * b)) #[] := fun h0 W H ob tb c s0 h => by
    have := op_mul_zero W H ob tb c s0 q b h (.inl h0)
    rwa [show (0 : Int) = q * b by rw [h0, Int.zero_mul]] at this
  have mf : q ≠ 0 → MulFits q b → OpC #[42] (valI q) (valI b) (valI (q * b)) #[] := fun h0 hm W H ob tb c s0 h => op_mul_fine W H ob tb c s0 q b h hq hb h0 hb0 hm
  have mo : q ≠ 0 → ¬ MulFits q b → OpC #[42] (valI q) (valI b) valNo #[111, 118, 101, 114] := fun h0 hm W H ob tb c s0 h => op_mul_over W H ob tb c s0 q b h hq hb h0 hb0 hm
  have ad : Fits (q * b) → OpC #[43] (valI (q * b)) (valI r) (valI a) #[] := fun hf W H ob tb c s0 h => by
    have := op_add_fine W H ob tb c s0 (q * b) r h hf hr (by rw [hqr]; exact ha)
    rwa [hqr] at this
  have an : OpC #[43] valNo (valI r) valNo #[116, 121, 112, 101] := fun W H ob tb c s0 h => op_plus_no W H ob tb c s0 r h
  have hM : (OpC #[42] (valI q) (valI b) (valI (q * b)) #[] ∧ OpC #[43] (valI (q * b)) (valI r) (valI a) #[]) ∨ (OpC #[42] (valI q) (valI b) valNo #[111, 118, 101, 114] ∧ r ≠ 0) := by
    by_cases h0 : q = 0
    · exact .inl ⟨mz h0, ad (by rw [h0, Int.zero_mul]; exact fits_zero)⟩
    by_cases hm : MulFits q b
    · exact .inl ⟨mf h0 hm, ad (mul_in q b hq hb hb0 hm)⟩
    · refine .inr ⟨mo h0 hm, fun hr0 => hm (mul_back a b q ha hb hq hb0 (by omega))⟩
  clear mz mf mo ad hqr hq hr hov
  rcases hM with ⟨hm1, hm2⟩ | ⟨hm1, hr0⟩
  · by_cases hr0 : r = 0
    · by_cases hs : Fits (a - b)
      · by_cases hc : a = -9223372036854775808
        · exact path_mfine_sf_no_z a b q r (q * b) (a - b) 0 true w D R hb0 hm1 hm2 hr0 (df hs) (ab hs) (ho hc) (so hc)
        · exact path_mfine_sf_nf_z a b q r (q * b) (a - b) (-a) true w D R hb0 hm1 hm2 hr0 (df hs) (ab hs) (hn hc) (sn hc)
      · by_cases hc : a = -9223372036854775808
        · exact path_mfine_so_no_z a b q r (q * b) 0 0 true w D R hb0 hm1 hm2 hr0 (dn hs) (ho hc) (so hc)
        · exact path_mfine_so_nf_z a b q r (q * b) 0 (-a) true w D R hb0 hm1 hm2 hr0 (dn hs) (hn hc) (sn hc)
    · have hs1 : decide (b < 0) = decide (r < 0) := (hside.resolve_left hr0).symm
      by_cases hs : Fits (a - b)
      · by_cases hc : a = -9223372036854775808
        · exact path_mfine_sf_no_s a b q r (q * b) (a - b) 0 (decide (r < 0)) w D R hb0 hm1 hm2 hr0 rfl hs1 (df hs) (ab hs) (ho hc) (so hc)
        · exact path_mfine_sf_nf_s a b q r (q * b) (a - b) (-a) (decide (r < 0)) w D R hb0 hm1 hm2 hr0 rfl hs1 (df hs) (ab hs) (hn hc) (sn hc)
      · by_cases hc : a = -9223372036854775808
        · exact path_mfine_so_no_s a b q r (q * b) 0 0 (decide (r < 0)) w D R hb0 hm1 hm2 hr0 rfl hs1 (dn hs) (ho hc) (so hc)
        · exact path_mfine_so_nf_s a b q r (q * b) 0 (-a) (decide (r < 0)) w D R hb0 hm1 hm2 hr0 rfl hs1 (dn hs) (hn hc) (sn hc)
  · have hs1 : decide (b < 0) = decide (r < 0) := (hside.resolve_left hr0).symm
    by_cases hs : Fits (a - b)
    · by_cases hc : a = -9223372036854775808
      · exact path_mover_sf_no_s a b q r 0 (a - b) 0 (decide (r < 0)) w D R hb0 hm1 an hr0 rfl hs1 (df hs) (ab hs) (ho hc) (so hc)
      · exact path_mover_sf_nf_s a b q r 0 (a - b) (-a) (decide (r < 0)) w D R hb0 hm1 an hr0 rfl hs1 (df hs) (ab hs) (hn hc) (sn hc)
    · by_cases hc : a = -9223372036854775808
      · exact path_mover_so_no_s a b q r 0 0 0 (decide (r < 0)) w D R hb0 hm1 an hr0 rfl hs1 (dn hs) (ho hc) (so hc)
      · exact path_mover_so_nf_s a b q r 0 0 (-a) (decide (r < 0)) w D R hb0 hm1 an hr0 rfl hs1 (dn hs) (hn hc) (sn hc)
end Go.Proofs.YthbnhplkoomdhaaDoor
