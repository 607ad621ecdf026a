/- A length that is taken; what input begins with. -/
import Derived.Test.YtglicojojpggmaaDoorDig
import Derived.Test.YtglicojojpggmaaDoorText
namespace Go.Proofs.YtglicojojpggmaaDoor
open Go Go.RowKit
theorem digF_le {most first : Nat} {l : List UInt8} : ∀ (f a acc : Nat) {r p : Nat}, digF f most first l a acc = (0, r, p) → acc ≤ most → r ≤ most
  | 0, _, _, _, _, h, _ => by simp [digF] at h
  | f + 1, a, acc, r, p, h, hac => by
    unfold digF at h
    split at h
    · simp at h
    · rename_i x _
      split at h
      · split at h
        · simp at h
        · simp at h; omega
      · split at h
        · simp at h
        · split at h
          · simp at h
          · rename_i h1 h2 h3
            exact digF_le f (a + 1) _ h (by omega)
theorem digR_le {most : Nat} {l : List UInt8} {a : Nat} (h : (digR most l a).1 = 0) : (digR most l a).2.1 ≤ most := by
  unfold digR at *
  exact digF_le _ _ _ (r := _) (p := _) (Prod.ext h rfl) (Nat.zero_le _)
def lenE (most : Nat) (l : List UInt8) (a : Nat) : Int := if (digR most l a).1 ≠ 0 then (digR most l a).1 else endE l (digR most l a).2.2
section
variable {W : World} {G : Nat} {A : Option Addr} {n c : Nat} {l : List UInt8} {a : Nat} {tx it li : Int}
set_option maxRecDepth 100000 in
set_option maxHeartbeats 8000000 in
theorem length_any (w : World) (most : Nat) (h : Inp w G A n c l a tx it li) (hm : most ≤ 9000000000000000000) :
    Calls Tryd.prog 63 #[.pointer (some ⟨G, 0, none⟩), .int .i64 most] w (TakeQ w G A n c l (lenE most l a) (.int .i64 (digR most l a).2.1) ((digR most l a).2.2 + 2) tx it li) := by
  have HDG := Lib.hid (digits_any w most h (by omega))
  have HLE := Lib.hid (digR_le (most := most) (l := l) (a := a))
  have HE : Hid (lenE most l a = if (digR most l a).1 ≠ 0 then (digR most l a).1 else endE l (digR most l a).2.2) := Lib.hid rfl
  obtain ⟨E, hE⟩ : ∃ E, lenE most l a = E := ⟨_, rfl⟩
  rw [hE] at HE ⊢
  generalize digR most l a = R at HDG HLE HE ⊢
  obtain ⟨r, v, p⟩ := R
  simp only at HDG HLE HE ⊢
  have hcv : IntKind.u64.wrap (most : Int) = (most : Int) := by rw [IntKind.wrap_u64]; omega
  clear hE h
  go_enter Tryd.func63, Tryd.ntmps63
  go_wp2_with fail
  refine HDG.out.mono ?_
  rintro e w1 ⟨⟨he, rfl, hi⟩ | ⟨he, rfl⟩, ho⟩
  · have hvm : v ≤ most := HLE.out he
    have hcw : IntKind.i64.wrap (v : Int) = (v : Int) := IntWalk.i64_in _ (by omega)
    have HO := Lib.hid ho
    have HR0 := Lib.hid he
    have H1 := Lib.hid (end_any w1 hi)
    clear hi ho he HDG
    go_wp2_with fail
    refine H1.out.mono ?_
    rintro e w2 ⟨⟨he, rfl, hi2⟩ | ⟨he, rfl⟩, ho2⟩
    · have HI2 := Lib.hid hi2
      have HO2 := Lib.hid (only_trans HO.out ho2)
      have HE2 : Hid (E = 0) := Lib.hid (by rw [HE.out, if_neg (by rw [HR0.out]; decide)]; exact he)
      clear hi2 ho2 he H1
      go_wp2_with fail
      go_ret
      exact ⟨.inl ⟨HE2.out, rfl, HI2.out⟩, HO2.out⟩
    · have HE2 : Hid (E = endE l p) := Lib.hid (by rw [HE.out, if_neg (by rw [HR0.out]; decide)])
      exact post_panic (P := Tryd.prog) (fn := Tryd.f63) rfl ⟨.inr ⟨by rw [HE2.out]; exact he, by rw [HE2.out]⟩, only_trans HO.out ho2⟩
  · have HE2 : Hid (E = r) := Lib.hid (by rw [HE.out, if_pos he])
    exact post_panic (P := Tryd.prog) (fn := Tryd.f63) rfl ⟨.inr ⟨by rw [HE2.out]; exact he, by rw [HE2.out]⟩, ho⟩
end
end Go.Proofs.YtglicojojpggmaaDoor
