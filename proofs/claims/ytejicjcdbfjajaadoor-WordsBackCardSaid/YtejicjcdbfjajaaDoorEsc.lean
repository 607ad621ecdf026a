/- The byte that is meant behind a backslash. -/
import Derived.Test.YtejicjcdbfjajaaDoorNum
namespace Go.Proofs.YtejicjcdbfjajaaDoor
open Go Go.RowKit
theorem numT_none : numT none = .tuple #[.int .i64 0, .bool false] := rfl
theorem numT_some (m : Nat) : numT (some m) = .tuple #[.int .i64 m, .bool true] := rfl
/-- The byte that is meant, and how many bytes say so. -/
def escR (l : List UInt8) : Option (UInt8 × Nat) :=
  match l with
  | [] => none
  | c :: _ =>
    if c.toNat = 110 then some (10, 1) else if c.toNat = 116 then some (9, 1) else if c.toNat = 114 then some (13, 1)
    else if c.toNat = 92 ∨ c.toNat = 39 ∨ c.toNat = 34 then some (c, 1)
    else if l.length < 3 then none
    else match numF 0 (l.take 3) with
      | none => none
      | some n => if n ≤ 255 then some (UInt8.ofNat n, 3) else none
def escV (o : Option (UInt8 × Nat)) : Value := match o with | none => .tuple #[.int .u8 0, .int .i64 0] | some (b, k) => .tuple #[.int .u8 b.toNat, .int .i64 k]
theorem escR_le {l : List UInt8} {b : UInt8} {k : Nat} (h : escR l = some (b, k)) : 1 ≤ k ∧ k ≤ l.length := by
  unfold escR at h
  cases l with
  | nil => cases h
  | cons c r =>
    simp only at h
    split at h
    · cases h; simp
    split at h
    · cases h; simp
    split at h
    · cases h; simp
    split at h
    · cases h; simp
    split at h
    · cases h
    · rename_i h3
      split at h
      · cases h
      · split at h
        · cases h
          simp at h3 ⊢
          omega
        · cases h
theorem bl_take (s : ByteArray) (k : Nat) : bl (s.extract 0 k) = (bl s).take k := by
  rw [bl, ByteArray.data_extract, Array.toList_extract, List.extract_eq_take_drop]
  simp
set_option maxHeartbeats 4000000 in
theorem escaped_any (s : ByteArray) (w : World) (hm : s.size ≤ 9223372036854775807) : Calls Tryd.prog 70 #[.string s] w fun e w' => e = .returned (escV (escR (bl s))) ∧ w' = w := by
  rcases empty_or s with rfl | h0
  · go_enter Tryd.func70, Tryd.ntmps70
    go_wp2_with fail
    go_ret2
    exact ⟨rfl, rfl⟩
  have he := ne_empty h0
  obtain ⟨r, hr⟩ := bl_head h0
  have hlen := bl_len s
  rw [hr] at hlen ⊢
  obtain ⟨n, hn⟩ : ∃ n, s[0].toNat = n := ⟨_, rfl⟩
  have HN := Lib.hid hn
  have HR := Lib.hid hr
  have HL := Lib.hid hlen
  clear hr hlen
  obtain ⟨R, hR⟩ : ∃ R, escR (s[0] :: r) = R := ⟨_, rfl⟩
  rw [hR]
  have HE := Lib.hid hR
  clear hR
  have f (k : Nat) (h : n ≠ k) : ((n : Int) == (k : Int)) = false := eq_dec h
  rcases Decidable.em (n = 110) with rfl | n1
  · have HY : Hid (R = some (10, 1)) := Lib.hid (by rw [← HE.out, escR]; simp only [HN.out]; rfl)
    go_enter Tryd.func70, Tryd.ntmps70
    go_wp2_with fail
    go_ret2
    exact ⟨by rw [HY.out]; rfl, rfl⟩
  rcases Decidable.em (n = 116) with rfl | n2
  · have HY : Hid (R = some (9, 1)) := Lib.hid (by rw [← HE.out, escR]; simp only [HN.out]; rfl)
    go_enter Tryd.func70, Tryd.ntmps70
    go_wp2_with fail
    go_ret2
    exact ⟨by rw [HY.out]; rfl, rfl⟩
  rcases Decidable.em (n = 114) with rfl | n3
  · have HY : Hid (R = some (13, 1)) := Lib.hid (by rw [← HE.out, escR]; simp only [HN.out]; rfl)
    go_enter Tryd.func70, Tryd.ntmps70
    go_wp2_with fail
    go_ret2
    exact ⟨by rw [HY.out]; rfl, rfl⟩
  have g1 : ((n : Int) == 110) = false := f 110 n1
  have g2 : ((n : Int) == 116) = false := f 116 n2
  have g3 : ((n : Int) == 114) = false := f 114 n3
  rcases Decidable.em (n = 92) with rfl | n4
  · have HY : Hid (R = some (s[0], 1)) := Lib.hid (by rw [← HE.out, escR]; simp only [HN.out]; rfl)
    go_enter Tryd.func70, Tryd.ntmps70
    go_wp2_with fail
    go_ret2
    exact ⟨by rw [HY.out]; simp only [escV, HN.out]; rfl, rfl⟩
  rcases Decidable.em (n = 39) with rfl | n5
  · have HY : Hid (R = some (s[0], 1)) := Lib.hid (by rw [← HE.out, escR]; simp only [HN.out]; rfl)
    go_enter Tryd.func70, Tryd.ntmps70
    go_wp2_with fail
    go_ret2
    exact ⟨by rw [HY.out]; simp only [escV, HN.out]; rfl, rfl⟩
  rcases Decidable.em (n = 34) with rfl | n6
  · have HY : Hid (R = some (s[0], 1)) := Lib.hid (by rw [← HE.out, escR]; simp only [HN.out]; rfl)
    go_enter Tryd.func70, Tryd.ntmps70
    go_wp2_with fail
    go_ret2
    exact ⟨by rw [HY.out]; simp only [escV, HN.out]; rfl, rfl⟩
  have g4 : ((n : Int) == 92) = false := f 92 n4
  have g5 : ((n : Int) == 39) = false := f 39 n5
  have g6 : ((n : Int) == 34) = false := f 34 n6
  have HY : Hid (R = if (s[0] :: r).length < 3 then none else match numF 0 ((s[0] :: r).take 3) with | none => none | some n => if n ≤ 255 then some (UInt8.ofNat n, 3) else none) := Lib.hid (by
    rw [← HE.out, escR, HN.out, if_neg n1, if_neg n2, if_neg n3, if_neg (by simp [n4, n5, n6])])
  have HY2 := HY.out
  rw [HL.out] at HY2
  clear f n1 n2 n3 n4 n5 n6 HE HY
  by_cases h3 : s.size < 3
  · rw [if_pos h3] at HY2
    have HY := Lib.hid HY2
    have d3 : decide ((s.size : Int) < 3) = true := decide_eq_true (by omega)
    clear HY2
    go_enter Tryd.func70, Tryd.ntmps70
    go_wp2_with fail
    go_ret2
    exact ⟨by rw [HY.out]; rfl, rfl⟩
  rw [if_neg h3] at HY2
  have d3 : decide ((s.size : Int) < 3) = false := decide_eq_false (by omega)
  have h33 : 3 ≤ s.size := by omega
  have HM := Lib.hid (number_any (s.extract 0 3) w (by rw [ByteArray.size_extract]; omega))
  rw [bl_take, HR.out] at HM
  generalize numF 0 ((s[0] :: r).take 3) = o at *
  have HY := Lib.hid HY2
  clear HY2
  cases o with
  | none =>
    simp only at HY
    rw [numT_none] at HM
    go_enter Tryd.func70, Tryd.ntmps70
    go_wp2_with fail
    refine HM.out.mono ?_
    rintro e w' ⟨rfl, rfl⟩
    go_wp2_with fail
    go_ret2
    exact ⟨by rw [HY.out]; rfl, rfl⟩
  | some m =>
    simp only at HY
    rw [numT_some] at HM
    by_cases hm2 : m ≤ 255
    · rw [if_pos hm2] at HY
      have d1 : decide ((255 : Int) < (m : Int)) = false := decide_eq_false (by omega)
      go_enter Tryd.func70, Tryd.ntmps70
      go_wp2_with fail
      refine HM.out.mono ?_
      rintro e w' ⟨rfl, rfl⟩
      go_wp2_with fail
      go_ret2
      refine ⟨?_, rfl⟩
      rw [HY.out]
      have e : (((UInt8.ofNat m).toNat : Nat) : Int) = (m : Int) := by
        rw [UInt8.toNat_ofNat']
        omega
      simp only [escV]
      rw [e]
      go_num
    · rw [if_neg hm2] at HY
      have d1 : decide ((255 : Int) < (m : Int)) = true := decide_eq_true (by omega)
      go_enter Tryd.func70, Tryd.ntmps70
      go_wp2_with fail
      refine HM.out.mono ?_
      rintro e w' ⟨rfl, rfl⟩
      go_wp2_with fail
      go_ret2
      exact ⟨by rw [HY.out]; rfl, rfl⟩
end Go.Proofs.YtejicjcdbfjajaaDoor
