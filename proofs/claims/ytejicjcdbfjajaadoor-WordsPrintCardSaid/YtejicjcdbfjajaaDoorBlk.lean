/- What stands between words: the program's way behind it. -/
import Derived.Test.YtejicjcdbfjajaaDoorEsc
import Derived.Test.YtejicjcdbfjajaaDoorKw
import Derived.Test.YtejicjcdbfjajaaDoorBld
namespace Go.Proofs.YtejicjcdbfjajaaDoor
open Go Go.RowKit
def isW (n : Nat) : Bool := decide (n = 32 ∨ n = 9 ∨ n = 10 ∨ n = 13)
/-- How many bytes stand between words: in a comment or not. -/
def blk : Bool → List UInt8 → Nat
  | _, [] => 0
  | false, c :: r => if isW c.toNat then 1 + blk false r else if c.toNat = 45 ∧ (r.head?.map UInt8.toNat) = some 45 then 1 + blk true r else 0
  | true, c :: r => if c.toNat = 10 then 1 + blk false r else 1 + blk true r
theorem blk_le : ∀ (b : Bool) (l : List UInt8), blk b l ≤ l.length
  | b, [] => by cases b <;> exact Nat.le_refl _
  | false, c :: r => by
    have h1 := blk_le false r
    have h2 := blk_le true r
    rw [blk, List.length_cons]
    split
    · omega
    · split
      · omega
      · omega
  | true, c :: r => by
    have h1 := blk_le false r
    have h2 := blk_le true r
    rw [blk, List.length_cons]
    split <;> omega
theorem blk_white {c : UInt8} {r : List UInt8} (h : isW c.toNat = true) : blk false (c :: r) = 1 + blk false r := by rw [blk, if_pos h]
theorem blk_none {c : UInt8} {r : List UInt8} (h : isW c.toNat = false) (h2 : Lib.hasPrefix (c :: r) [45, 45] = false) : blk false (c :: r) = 0 := by
  rw [blk, if_neg (by rw [h]; simp), if_neg]
  rintro ⟨h3, h4⟩
  cases r with
  | nil => cases h4
  | cons x r =>
    have e1 : c = 45 := UInt8.toNat_inj.1 h3
    have e2 : x = 45 := UInt8.toNat_inj.1 (by simpa using h4)
    subst e1; subst e2
    simp [Lib.hasPrefix] at h2
/-- Behind the end of a comment. -/
theorem blk_true : ∀ (l : List UInt8), (Lib.indexByte l 10 < 0 → blk true l = l.length) ∧ (∀ n : Nat, Lib.indexByte l 10 = n → n < l.length ∧ blk true l = n + blk false (l.drop n))
  | [] => ⟨fun _ => rfl, fun n h => by simp [Lib.indexByte] at h⟩
  | c :: r => by
    have ih := blk_true r
    have hge := Lib.indexByte_ge r 10
    by_cases hc : c = 10
    · subst hc
      have e : Lib.indexByte (10 :: r) 10 = 0 := by simp [Lib.indexByte]
      refine ⟨fun h => by rw [e] at h; omega, fun n h => ?_⟩
      rw [e] at h
      obtain rfl : n = 0 := by omega
      refine ⟨by simp, ?_⟩
      rw [List.drop_zero, Nat.zero_add, blk, blk, if_pos (by decide), if_pos (by decide)]
    · have hn : ¬ c.toNat = 10 := fun h => hc (UInt8.toNat_inj.1 h)
      have hb : (c == 10) = false := by simpa using hc
      by_cases hi : Lib.indexByte r 10 = -1
      · have e : Lib.indexByte (c :: r) 10 = -1 := by simp [Lib.indexByte, hb, hi]
        refine ⟨fun _ => ?_, fun n h => by rw [e] at h; omega⟩
        rw [blk, if_neg hn, ih.1 (by omega), List.length_cons]
        omega
      · have e : Lib.indexByte (c :: r) 10 = Lib.indexByte r 10 + 1 := by
          have : (Lib.indexByte r 10 == -1) = false := by simpa using hi
          simp [Lib.indexByte, hb, this]
        refine ⟨fun h => by rw [e] at h; omega, fun n h => ?_⟩
        rw [e] at h
        obtain ⟨m, rfl⟩ : ∃ m, n = m + 1 := ⟨n - 1, by omega⟩
        have h2 := ih.2 m (by omega)
        refine ⟨by simp; exact h2.1, ?_⟩
        rw [blk, if_neg hn, h2.2, List.drop_succ_cons]
        omega
theorem blk_dash {c : UInt8} {r : List UInt8} (h : isW c.toNat = false) (h2 : Lib.hasPrefix (c :: r) [45, 45] = true) : blk false (c :: r) = blk true (c :: r) := by
  cases r with
  | nil => simp [Lib.hasPrefix] at h2
  | cons x r =>
    simp [Lib.hasPrefix] at h2
    obtain ⟨e1, e2⟩ := h2
    subst e1; subst e2
    rw [blk, if_neg (by decide), if_pos ⟨rfl, rfl⟩]
    conv => rhs; rw [blk]
    rfl
def sgs : List ByteArray := [{ data := #[61, 61] }, { data := #[126, 61] }, { data := #[60, 61] }, { data := #[62, 61] }, { data := #[46, 46] }, { data := #[43] }, { data := #[45] }, { data := #[42] }, { data := #[47] }, { data := #[37] }, { data := #[35] }, { data := #[60] }, { data := #[62] }, { data := #[61] }, { data := #[40] }, { data := #[41] }, { data := #[123] }, { data := #[125] }, { data := #[91] }, { data := #[93] }, { data := #[59] }, { data := #[58] }, { data := #[44] }, { data := #[46] }]
def sgs25 : List ByteArray := sgs ++ [⟨#[]⟩]
/-- A source in block S: the text, the words of the language in map m, the signs. -/
structure Sou (W : World) (S : Nat) (s : ByteArray) (m : Nat) : Prop where
  z : W.heap[S]? = some (.cells (#[.string s, .map (some m)] ++ (cellsS sgs25).toArray) 74 (0, 0))
  ks : KeysAt W m kws
  max : s.size ≤ 1000000000
section
variable {W W' : World} {S m : Nat} {s : ByteArray}
theorem Sou.c0 (h : Sou W S s m) : W.cell? ⟨S, 0, none⟩ = some (.string s) := by
  rw [Lib.cell_of_heap h.z, Array.getElem?_append_left (by simp)]
  rfl
theorem Sou.c1 (h : Sou W S s m) : W.cell? ⟨S, 1, none⟩ = some (.map (some m)) := by
  rw [Lib.cell_of_heap h.z, Array.getElem?_append_left (by simp)]
  rfl
theorem Sou.lt (h : Sou W S s m) : S < W.heap.size := (Array.getElem?_eq_some_iff.1 h.z).1
theorem Sou.below (h : Sou W S s m) (hb : Below W.heap.size W W') : Sou W' S s m := ⟨(hb.block S h.lt).trans h.z, h.ks.below hb, h.max⟩
end
abbrev SP (S : Nat) : Value := .pointer (some ⟨S, 0, none⟩)
theorem drop_at (s : ByteArray) (k : Nat) (h : k < s.size) : (bl s).drop k = s[k] :: (bl s).drop (k + 1) := by
  rw [List.drop_eq_getElem_cons (by rw [bl_len]; exact h), bl_at s k h]
theorem bl_drop (s : ByteArray) (k : Nat) : bl (s.extract k s.size) = (bl s).drop k := by
  rw [bl, ByteArray.data_extract, Array.toList_extract, List.extract_eq_take_drop, List.take_of_length_le]
  rw [List.length_drop, Array.length_toList]
  exact Nat.le_refl _
set_option maxRecDepth 100000 in
set_option maxHeartbeats 8000000 in
theorem blanks_any (S : Nat) (s : ByteArray) (m a : Nat) (w : World) (h : Sou w S s m) (ha : a ≤ s.size) :
    Calls Tryd.prog 43 #[SP S, .int .i64 a] w fun e w' => e = .returned (.int .i64 ((a + blk false ((bl s).drop a) : Nat) : Int)) ∧ w' = w := by
  have c0 := h.c0
  have hmx := h.max
  obtain ⟨E, hE⟩ : ∃ E, a + blk false ((bl s).drop a) = E := ⟨_, rfl⟩
  rw [hE]
  have HE := Lib.hid hE
  clear hE h
  go_enter Tryd.func43, Tryd.ntmps43
  go_wp2_with fail
  go_loop [1] (fun i => ∃ k : Nat, k ≤ s.size ∧ i = .int .i64 k ∧ Hid (k + blk false ((bl s).drop k) = E)) (fun i => s.size - (intOf i).toNat)
  case atStart => exact ⟨a, ha, rfl, HE⟩
  case round =>
    obtain ⟨k, hk, rfl, HK⟩ := hrel
    by_cases hlt : k < s.size
    · obtain ⟨c, hc⟩ : ∃ c, s[k].toNat = c := ⟨_, rfl⟩
      have HD := Lib.hid (drop_at s k hlt)
      have HC := Lib.hid hc
      by_cases hw : isW c = true
      · have HY : Hid (k + 1 + blk false ((bl s).drop (k + 1)) = E) := Lib.hid (by
          have h1 := HK.out
          rw [HD.out, blk_white (by rw [HC.out]; exact hw)] at h1
          omega)
        have hw4 : c = 32 ∨ c = 9 ∨ c = 10 ∨ c = 13 := by simpa [isW] using hw
        clear hw
        rcases hw4 with rfl | rfl | rfl | rfl
        all_goals
          go_wp2_with fail
          go_round
          case rel => exact ⟨k + 1, by omega, by go_num, HY⟩
          case measure => simp [intOf]; omega
      · have hw : isW c = false := by simpa using hw
        have n4 : c ≠ 32 ∧ c ≠ 9 ∧ c ≠ 10 ∧ c ≠ 13 := by simpa [isW, not_or] using hw
        have g1 : ((c : Int) == 32) = false := eq_dec n4.1
        have g2 : ((c : Int) == 9) = false := eq_dec n4.2.1
        have g3 : ((c : Int) == 10) = false := eq_dec n4.2.2.1
        have g4 : ((c : Int) == 13) = false := eq_dec n4.2.2.2
        have HW := Lib.hid (show isW s[k].toNat = false by rw [HC.out]; exact hw)
        have HP := Lib.hid (Tryd.strings_HasPrefix (s.extract k s.size) { data := #[45, 45] } w)
        rw [show (s.extract k s.size).data.toList = bl (s.extract k s.size) from rfl, bl_drop] at HP
        clear n4 hw
        cases hp : Lib.hasPrefix ((bl s).drop k) [45, 45] with
        | false =>
          have HY : Hid (k = E) := Lib.hid (by
            have h1 := HK.out
            rw [HD.out] at hp
            rw [HD.out, blk_none HW.out hp] at h1
            exact h1)
          rw [show ([45, 45] : List UInt8) = (ByteArray.mk #[45, 45]).data.toList from rfl] at hp
          rw [hp] at HP
          clear hp
          go_wp2_with fail
          refine HP.out.mono ?_
          rintro e w' ⟨rfl, rfl⟩
          go_wp2_with fail
          go_ret
          exact ⟨by rw [HY.out]; rfl, rfl⟩
        | true =>
          have HI := Lib.hid (Tryd.strings_IndexByte (s.extract k s.size) 10 w)
          rw [show (s.extract k s.size).data.toList = bl (s.extract k s.size) from rfl, bl_drop] at HI
          have HBT := Lib.hid (blk_true ((bl s).drop k))
          have hbd : blk false ((bl s).drop k) = blk true ((bl s).drop k) := by
            rw [HD.out] at hp ⊢
            exact blk_dash HW.out hp
          have HBD := Lib.hid hbd
          rw [show ([45, 45] : List UInt8) = (ByteArray.mk #[45, 45]).data.toList from rfl] at hp
          rw [hp] at HP
          have hge := Lib.indexByte_ge ((bl s).drop k) 10
          obtain ⟨x, hx⟩ : ∃ x, Lib.indexByte ((bl s).drop k) ((10 : Int).toNat.toUInt8) = x := ⟨_, rfl⟩
          rw [hx] at HI
          have HX : Hid (Lib.indexByte ((bl s).drop k) 10 = x) := Lib.hid hx
          clear hp hx hbd
          by_cases hx0 : x < 0
          · have HY : Hid (E = s.size) := Lib.hid (by
              have h1 := HK.out
              rw [HBD.out, HBT.out.1 (by rw [HX.out]; exact hx0), List.length_drop, bl_len] at h1
              omega)
            clear hge
            go_wp2_with fail
            refine HP.out.mono ?_
            rintro e w' ⟨rfl, rfl⟩
            go_wp2_with fail
            refine HI.out.mono ?_
            rintro e w' ⟨rfl, rfl⟩
            go_wp2_with fail
            go_ret
            exact ⟨by rw [HY.out]; rfl, rfl⟩
          · obtain ⟨n, rfl⟩ : ∃ n : Nat, x = n := ⟨x.toNat, by omega⟩
            have h2 := HBT.out.2 n HX.out
            rw [List.length_drop, bl_len] at h2
            have hn1 : k + n < s.size := by omega
            have HY : Hid (k + n + blk false ((bl s).drop (k + n)) = E) := Lib.hid (by
              have h1 := HK.out
              rw [HBD.out, h2.2, List.drop_drop] at h1
              omega)
            have hn0 : 1 ≤ n := by
              rcases Nat.eq_zero_or_pos n with h0 | h0
              · subst h0
                exfalso
                have h3 := HX.out
                have h4 := HW.out
                rw [HD.out] at h3
                simp only [Lib.indexByte] at h3
                split at h3
                · rename_i h5
                  have : s[k] = 10 := by simpa using h5
                  rw [this] at h4
                  cases h4
                · split at h3
                  · cases h3
                  · have := Lib.indexByte_ge ((bl s).drop (k + 1)) 10
                    rename_i h6 _ h7
                    have : Lib.indexByte ((bl s).drop (k + 1)) 10 ≠ -1 := by simpa using h7
                    simp at h3
                    omega
              · exact h0
            clear h2 hge hx0
            go_wp2_with fail
            refine HP.out.mono ?_
            rintro e w' ⟨rfl, rfl⟩
            go_wp2_with fail
            refine HI.out.mono ?_
            rintro e w' ⟨rfl, rfl⟩
            go_wp2_with fail
            go_round
            case rel => exact ⟨k + n, by omega, by go_num, HY⟩
            case measure => simp [intOf]; omega
    · obtain rfl : k = s.size := by omega
      have HY : Hid (s.size = E) := Lib.hid (by
        have h1 := HK.out
        rw [List.drop_of_length_le (by rw [bl_len]; exact Nat.le_refl _)] at h1
        exact h1)
      go_wp2_with fail
      go_ret
      exact ⟨by rw [HY.out]; rfl, rfl⟩
end Go.Proofs.YtejicjcdbfjajaaDoor
