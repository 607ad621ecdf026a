/- A text that is taken. -/
import Derived.Test.YtglicojojpggmaaDoorInp
namespace Go.Proofs.YtglicojojpggmaaDoor
open Go Go.RowKit
section
variable {W : World} {G : Nat} {A : Option Addr} {n c : Nat} {l : List UInt8} {a : Nat} {tx it li : Int}
theorem Inp.txs (h : Inp W G A n c l a tx it li) (t : Int) : Inp (W.setCell ⟨G, 2, none⟩ (.int .i64 t)) G A n c l a t it li :=
  ⟨row_set h.z, fun h0 => by
    obtain ⟨g, off, e, hlt, hc⟩ := h.rd h0
    exact ⟨g, off, e, by simpa [World.setCell] using hlt, fun j hj => (World.cell?_setCell_other W ⟨G, 2, none⟩ ⟨g, off + j, none⟩ _ (fun e2 => h.ne _ e (by injection e2 with e3; exact e3.symm))).trans (hc j hj)⟩, h.len, h.cap, h.nil, h.ne, h.max, h.pos⟩
/-- The text of k bytes from a on. -/
def cutT (l : List UInt8) (a k : Nat) : ByteArray := ofL ((l.drop a).take k)
def textE (l : List UInt8) (a k : Nat) : Int := if l.length - a < k then 130 else endE l (a + k)
theorem cut_conv (w : World) (h : Inp w G A n c l a tx it li) (k : Nat) (hk : a + k ≤ n) (q : Nat) :
    (convert 25 9 (.slice (subA A a c) k (c - a))).run Tryd.prog (w.drewN q) = .ok (.string (cutT l a k)) (w.drewN q) := by
  have h1 : Rd (w.drewN q) (subA A a c) ((l.drop a).take k) := ((h.drew q).rd.drop a c (by rw [h.len]; exact h.cap)).take k
  have h2 : ((l.drop a).take k).length = k := by rw [List.length_take, List.length_drop, h.len]; omega
  have h3 := conv_rd (w := w.drewN q) (l := (l.drop a).take k) (A := subA A a c) (c := c - a) (subA_none h.nil) (by rw [h2]; have := h.cap; omega) h1
  rw [h2] at h3
  exact h3
set_option maxRecDepth 100000 in
set_option maxHeartbeats 8000000 in
theorem text_any (w : World) (k : Nat) (h : Inp w G A n c l a tx it li) (hk : k ≤ 1000000000) (ht0 : -1000000000 ≤ tx) (ht1 : tx ≤ 1000000000) :
    Calls Tryd.prog 65 #[.pointer (some ⟨G, 0, none⟩), .int .i64 k] w (TakeQ w G A n c l (textE l a k) (.string (cutT l a k)) (a + k + 2) (tx - k) it li) := by
  have H := Lib.hid h
  have hmx := h.max
  have hps := h.pos
  have hcp := h.cap
  obtain ⟨z0, z1, z2, z3, z4, zf⟩ := h.rows
  have hw1 : IntKind.i64.wrap ((n : Int) - (a : Int)) = (n : Int) - (a : Int) := IntWalk.i64_in _ (by omega)
  by_cases hlt : n - a < k
  · have HE : Hid (textE l a k = 130) := Lib.hid (by unfold textE; rw [if_pos (by rw [h.len]; exact hlt)])
    have d : decide ((n : Int) - (a : Int) < (k : Int)) = true := decide_eq_true (by omega)
    clear h
    go_enter Tryd.func65, Tryd.ntmps65
    go_wp2_with fail
    go_quiet (fail)
    go_wp2_with fail
    exact post_panic rfl ⟨.inr ⟨by rw [HE.out]; decide, by rw [HE.out]⟩, only_drew G w _⟩
  · have HE : Hid (textE l a k = endE l (a + k)) := Lib.hid (by unfold textE; rw [if_neg (by rw [h.len]; exact hlt)])
    have d : decide ((n : Int) - (a : Int) < (k : Int)) = false := decide_eq_false (by omega)
    have hw2 : IntKind.i64.wrap ((a : Int) + (k : Int)) = (a : Int) + (k : Int) := IntWalk.i64_in _ (by omega)
    have HCV := Lib.hid (fun q => cut_conv w h k (by omega) q)
    have b0 : (0 : Int) ≤ (a : Int) := by omega
    have b1 : (a : Int) ≤ ((a + k : Nat) : Int) := by omega
    have b2 : ((a + k : Nat) : Int) ≤ (c : Int) := by omega
    clear h
    go_enter Tryd.func65, Tryd.ntmps65
    go_wp2_with fail
    go_quiet (fail)
    generalize nq = q1
    have hcv := fun q => HCV.out q
    have hcv2 : ∀ q2, (convert 25 9 (.slice (subA A a c) k (c - a))).run Tryd.prog ((w.drewN q1).drewN q2) = .ok (.string (cutT l a k)) ((w.drewN q1).drewN q2) := fun q2 => by rw [drew_two]; exact HCV.out _
    have hsl : ∀ X : World, (Instr.sliceAt 25 (.slice A n c) (some (.int .i64 (a : Int))) (some (.int .i64 ((a : Int) + (k : Int)))) none).run Tryd.prog X = .ok (.slice (subA A a c) k (c - a)) X := fun X => by
      rw [show (a : Int) + (k : Int) = ((a + k : Nat) : Int) by omega]
      have hrun := run_slice_lh (P := Tryd.prog) X 25 A n c Tryd.underlying25 .i64 .i64 (a : Int) ((a + k : Nat) : Int) (by omega) (by omega) (by omega)
      rw [run_sliceAt_slice (h := Tryd.underlying25), hrun]
      have he : Tryd.prog.elem 25 = 5 := by simp [Program.elem, Tryd.underlying25]
      rw [he, sz5]
      have hk2 : a + k - a = k := by omega
      simp only [Result.andThen_ok, sliced, Nat.mul_one, Int.toNat_natCast, hk2]
      rfl
    clear HCV b0 b1 b2
    go_wp2_with fail
    go_quiet (fail)
    generalize nq = q2
    clear hcv hcv2 hsl
    have hi := ((H.out.drew (q1 + q2)).at (a + k) (by omega)).txs (tx - k)
    have ho := only_trans (only_trans (only_drew G w (q1 + q2)) (only_set G 1 (w.drewN (q1 + q2)) (.int .i64 ((a + k : Nat) : Int)))) (only_set G 2 ((w.drewN (q1 + q2)).setCell ⟨G, 1, none⟩ (.int .i64 ((a + k : Nat) : Int))) (.int .i64 (tx - k)))
    rw [show ((a + k : Nat) : Int) = (a : Int) + (k : Int) by omega] at hi ho
    have HO := Lib.hid ho
    have H1 := Lib.hid (end_any _ hi)
    clear hi ho
    go_wp2_with fail
    refine H1.out.mono ?_
    rintro e w2 ⟨⟨he, rfl, hi2⟩ | ⟨he, rfl⟩, ho2⟩
    · have HI2 := Lib.hid hi2
      have HO2 := Lib.hid (only_trans HO.out ho2)
      have HE2 : Hid (textE l a k = 0) := Lib.hid (by rw [HE.out]; exact he)
      clear hi2 ho2 he H1
      go_wp2_with fail
      go_ret
      exact ⟨.inl ⟨HE2.out, rfl, HI2.out⟩, HO2.out⟩
    · exact post_panic rfl ⟨.inr ⟨by rw [HE.out]; exact he, by rw [HE.out]⟩, only_trans HO.out ho2⟩
end
end Go.Proofs.YtglicojojpggmaaDoor
