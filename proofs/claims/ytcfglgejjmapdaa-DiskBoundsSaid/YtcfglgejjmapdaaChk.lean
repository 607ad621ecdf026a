/- Which files make a disk. -/
import Derived.Test.YtcfglgejjmapdaaFewF
namespace Go.Proofs.Ytcfglgejjmapdaa
open Go Go.RowKit
/-- Is a file fine behind a name? -/
def goodF (last : ByteArray) (f : F) : Bool := nameB f.name && ltB last f.name && decide (0 ≤ f.sync) && decide (f.sync ≤ (f.bytes.size : Int))
def fineF (last : ByteArray) : List F → Bool
  | [] => true
  | f :: r => goodF last f && fineF f.name r
def longL (l : List F) : Bool := l.any fun f => decide (1048576 < f.bytes.size)
def checkF (l : List F) : Int := if fineF ⟨#[]⟩ l = false then 2 else if longL l = true then 3 else 0
/-- The name ahead of a place. -/
def lastAt (l : List F) : Nat → ByteArray
  | 0 => ⟨#[]⟩
  | k + 1 => match l[k]? with
    | some f => f.name
    | none => ⟨#[]⟩
theorem lastAt_succ {l : List F} {k : Nat} (h : k < l.length) : lastAt l (k + 1) = (l[k]).name := by
  show (match l[k]? with
    | some f => f.name
    | none => ⟨#[]⟩) = _
  rw [List.getElem?_eq_getElem h]
theorem fine_next {l : List F} {k : Nat} {x : F} (h : fineF ⟨#[]⟩ l = fineF (lastAt l k) (l.drop k)) (hk : k < l.length) (hx : l[k] = x) (hg : goodF (lastAt l k) x = true) : fineF ⟨#[]⟩ l = fineF (lastAt l (k + 1)) (l.drop (k + 1)) := by
  rw [h, lastAt_succ hk, hx, List.drop_eq_getElem_cons hk, hx]
  simp only [fineF, hg, Bool.true_and]
theorem fine_bad {l : List F} {k : Nat} {x : F} (h : fineF ⟨#[]⟩ l = fineF (lastAt l k) (l.drop k)) (hk : k < l.length) (hx : l[k] = x) (hg : goodF (lastAt l k) x = false) : fineF ⟨#[]⟩ l = false := by
  rw [h, List.drop_eq_getElem_cons hk, hx]
  simp only [fineF, hg, Bool.false_and]
theorem fine_all {l : List F} {k : Nat} (h : fineF ⟨#[]⟩ l = fineF (lastAt l k) (l.drop k)) (hk : l.length ≤ k) : fineF ⟨#[]⟩ l = true := by
  rw [h, List.drop_of_length_le hk]; rfl
theorem name_pos {s : ByteArray} (h : nameB s = true) : ltB ⟨#[]⟩ s = true := by
  have h1 : bl s ≠ [] := fun e => by
    have : s = ⟨#[]⟩ := by
      obtain ⟨⟨l⟩⟩ := s
      simp at e
      rw [e]
    rw [this] at h
    exact absurd h (by decide)
  cases hs : bl s with
  | nil => exact absurd hs h1
  | cons a r =>
    have h2 : ([] : List UInt8) < a :: r := List.nil_lt_cons a r
    unfold ltB
    rw [hs]
    exact decide_eq_true h2
theorem quiet_addS {P : Program} {f : FuncId} {args : Array Value} {w : World} {a n : Nat} {v : Value} (h : Calls P f args (w.drewN (a + n)) fun e w' => e = .returned v ∧ w.drewN (a + n) = w') :
    Calls P f args (w.drewN (a + n)) fun e w'' => e = .returned v ∧ ∃ m, w'' = w.drewN (a + m) := h.mono fun _ _ ⟨he, hm⟩ => ⟨he, n, hm.symm⟩
theorem bad_name1 {last : ByteArray} {x : F} (h : nameB x.name = false) : goodF last x = false := by simp [goodF, h]
theorem bad_order {last : ByteArray} {x : F} (h : ltB last x.name = false) : goodF last x = false := by simp [goodF, h]
theorem bad_low {last : ByteArray} {x : F} (h : x.sync < 0) : goodF last x = false := by
  have : ¬ 0 ≤ x.sync := by omega
  simp [goodF, this]
theorem bad_high {last : ByteArray} {x : F} (h : (x.bytes.size : Int) < x.sync) : goodF last x = false := by
  have : ¬ x.sync ≤ (x.bytes.size : Int) := by omega
  simp [goodF, this]
theorem good_all {last : ByteArray} {x : F} (h1 : nameB x.name = true) (h2 : ltB last x.name = true) (h3 : 0 ≤ x.sync) (h4 : x.sync ≤ x.bytes.size) : goodF last x = true := by simp [goodF, h1, h2, h3, h4]
/-- What fine files are. -/
theorem fine_rise {last : ByteArray} {l : List F} (h : fineF last l = true) : Rising F.name l ∧ (∀ f ∈ l, ltB last f.name = true) ∧ ∀ f ∈ l, nameB f.name = true ∧ 0 ≤ f.sync ∧ f.sync ≤ f.bytes.size := by
  induction l generalizing last with
  | nil => exact ⟨List.Pairwise.nil, by simp, by simp⟩
  | cons f r ih =>
    simp only [fineF, goodF, Bool.and_eq_true, decide_eq_true_eq] at h
    obtain ⟨⟨⟨⟨a1, a2⟩, a3⟩, a4⟩, a5⟩ := h
    obtain ⟨b1, b2, b3⟩ := ih a5
    refine ⟨List.pairwise_cons.2 ⟨b2, b1⟩, fun g hg => ?_, fun g hg => ?_⟩
    · rcases List.mem_cons.1 hg with rfl | hg
      · exact a2
      · exact ltB_trans a2 (b2 g hg)
    · rcases List.mem_cons.1 hg with rfl | hg
      · exact ⟨a1, a3, a4⟩
      · exact b3 g hg

theorem less_lt : ∀ x y : List UInt8, Op.bytesLess x y = decide (x < y)
  | x, [] => by cases x <;> simp [Op.bytesLess]
  | [], b :: y => by simp [Op.bytesLess, List.nil_lt_cons]
  | a :: x, b :: y => by
    rw [Op.bytesLess, less_lt x y]
    by_cases h1 : a < b
    · simp [h1, List.cons_lt_cons_iff]
    · by_cases h2 : a = b
      · subst h2; simp [List.cons_lt_cons_iff]
      · simp [h1, h2, List.cons_lt_cons_iff]
theorem less_ltB (a b : ByteArray) : Op.bytesLess a.toList b.toList = ltB a b := by rw [less_lt, Lib.toList_data, Lib.toList_data]; rfl
theorem order_three (a b : ByteArray) : (ltB b a = true ∧ Op.bytesLess a.toList b.toList = false ∧ (a.toList == b.toList) = false) ∨ (ltB b a = false ∧ Op.bytesLess a.toList b.toList = true) ∨ (ltB b a = false ∧ Op.bytesLess a.toList b.toList = false ∧ (a.toList == b.toList) = true) := by
  rw [less_ltB]
  by_cases h1 : ltB b a = true
  · exact .inl ⟨h1, ltB_asymm h1, by rw [Lib.toList_data, Lib.toList_data]; simpa using fun e => ltB_ne h1 (bl_inj e).symm⟩
  · have h1' : ltB b a = false := by simpa using h1
    by_cases h2 : ltB a b = true
    · exact .inr (.inl ⟨h1', h2⟩)
    · have h2' : ltB a b = false := by simpa using h2
      refine .inr (.inr ⟨h1', h2', ?_⟩)
      rw [Lib.toList_data, Lib.toList_data]
      have e : bl a = bl b := by
        simp only [ltB, decide_eq_false_iff_not] at h1' h2'
        exact List.le_antisymm (List.not_lt.1 h1') (List.not_lt.1 h2')
      simpa using e

set_option maxRecDepth 100000 in
set_option maxHeartbeats 16000000 in
theorem check_any (A : Option Addr) (n c : Nat) (ls : List F) (w : World) (hn : ls.length = n) (bn : n ≤ 9223372036854775806) (hs : ∀ f ∈ ls, f.name.size ≤ 140737488351232 ∧ f.bytes.size ≤ 140737488351232) (ha : RdF w A ls) :
    Calls Try.prog 15 #[.slice A n c] w fun e w' => e = .returned (.int .i64 (checkF ls)) ∧ ∃ q, w' = w.drewN q := by
  have HN := Lib.hid hn
  have HA := Lib.hid ha
  have HS := Lib.hid hs
  clear hn ha hs
  go_enter Try.func15, Try.ntmps15
  go_wp2_with fail
  go_loopw [3] (fun i W => ∃ k q : Nat, W = w.drewN q ∧ k ≤ n ∧ i = .int .i64 k ∧ Hid (fineF ⟨#[]⟩ ls = fineF (lastAt ls k) (ls.drop k))) (fun i _ => n - (intOf i).toNat)
  case atStart => exact ⟨0, 0, rfl, Nat.zero_le _, rfl, Lib.hid rfl⟩
  case round =>
    obtain ⟨k, q, rfl, hk, rfl, HT⟩ := hrel
    by_cases hlt : k < n
    · have hkn : k < ls.length := by have := HN.out; omega
      obtain ⟨b, off, rfl, hbb, k0, k1, k2⟩ := HA.out.at hkn
      obtain ⟨x, hx⟩ : ∃ x, ls[k] = x := ⟨_, rfl⟩
      have hxs := HS.out x (by rw [← hx]; exact List.getElem_mem _)
      obtain ⟨hx1, hx2⟩ := hxs
      have HKN := Lib.hid hkn
      have HXE : Hid (ls[k]'HKN.out = x) := Lib.hid hx
      rw [hx] at k0 k1 k2
      have HNM : Hid (∀ W, Calls Try.prog 11 #[.string x.name] W fun e w' => e = .returned (.bool (nameB x.name)) ∧ W = w') := Lib.hid (fun W => rname_any x.name W (by omega))
      cases hnm : nameB x.name with
      | false =>
        rw [hnm] at HNM
        have HG := Lib.hid (fine_bad HT.out HKN.out HXE.out (bad_name1 hnm))
        clear HT HXE hx hkn
        go_wp2_with fail
        go_quiet ((go_at_call 11; exact quiet_addS (HNM.out _)))
        rename_i nq
        go_wp2_with fail
        go_ret
        exact ⟨ret_int (by unfold checkF; rw [if_pos HG.out]), by first | exact ⟨_, rfl⟩ | exact ⟨_, drew_two _ _ _⟩⟩
      | true =>
        rw [hnm] at HNM
        by_cases hk0 : k = 0
        · have hord : ltB (lastAt ls k) x.name = true := by rw [hk0]; exact name_pos hnm
          have d0 : decide (0 < k) = false := by rw [hk0]; rfl
          clear hx hkn hk0
          by_cases h3 : x.sync < 0
          · have HG := Lib.hid (fine_bad HT.out HKN.out HXE.out (bad_low h3))
            have d3 : decide (x.sync < 0) = true := decide_eq_true h3
            clear HT HXE h3
            go_wp2_with fail
            go_quiet ((go_at_call 11; exact quiet_addS (HNM.out _)))
            rename_i nq
            go_wp2_with fail
            go_ret
            exact ⟨ret_int (by unfold checkF; rw [if_pos HG.out]), by first | exact ⟨_, rfl⟩ | exact ⟨_, drew_two _ _ _⟩⟩
          have d3 : decide (x.sync < 0) = false := decide_eq_false h3
          by_cases h4 : (x.bytes.size : Int) < x.sync
          · have HG := Lib.hid (fine_bad HT.out HKN.out HXE.out (bad_high h4))
            have d4 : decide ((x.bytes.size : Int) < x.sync) = true := decide_eq_true h4
            clear HT HXE
            go_wp2_with fail
            go_quiet ((go_at_call 11; exact quiet_addS (HNM.out _)))
            rename_i nq
            go_wp2_with fail
            go_ret
            exact ⟨ret_int (by unfold checkF; rw [if_pos HG.out]), by first | exact ⟨_, rfl⟩ | exact ⟨_, drew_two _ _ _⟩⟩
          have d4 : decide ((x.bytes.size : Int) < x.sync) = false := decide_eq_false h4
          have HG := Lib.hid (fine_next HT.out HKN.out HXE.out (good_all hnm hord (by omega) (by omega)))
          clear HT HXE hord
          go_wp2_with fail
          go_quiet ((go_at_call 11; exact quiet_addS (HNM.out _)))
          rename_i nq
          go_wp2_with fail
          go_round
          case rel => exact ⟨k + 1, q + nq, by first | rfl | rw [drew_two], by omega, by go_num, HG.out⟩
          case measure => simp [intOf]; omega
        · have d0 : decide (0 < k) = true := decide_eq_true (by omega)
          have hpn : k - 1 < ls.length := by omega
          obtain ⟨b2, off2, hA2, hbb2, p0, -, -⟩ := HA.out.at hpn
          cases hA2
          obtain ⟨y, hy⟩ : ∃ y, ls[k - 1] = y := ⟨_, rfl⟩
          rw [hy] at p0
          have hla : lastAt ls k = y.name := by obtain ⟨p, rfl⟩ : ∃ p, k = p + 1 := ⟨k - 1, by omega⟩; rw [lastAt_succ (by omega)]; exact congrArg F.name hy
          have w1 : IntKind.i64.wrap ((k : Int) - 1) = ((k - 1 : Nat) : Int) := by rw [Go.IntWalk.i64_in _ (by omega)]; omega
          have w2 : ((k - 1 : Nat) : Int) < (n : Int) := by omega
          clear hx hkn hy hpn hk0
          rcases order_three x.name y.name with ⟨hord, e1, e2⟩ | ⟨hord, e1⟩ | ⟨hord, e1, e2⟩
          · rw [← hla] at hord
            clear hla
            by_cases h3 : x.sync < 0
            · have HG := Lib.hid (fine_bad HT.out HKN.out HXE.out (bad_low h3))
              have d3 : decide (x.sync < 0) = true := decide_eq_true h3
              clear HT HXE h3
              go_wp2_with fail
              go_quiet ((go_at_call 11; exact quiet_addS (HNM.out _)))
              rename_i nq
              go_wp2_with fail
              go_ret
              exact ⟨ret_int (by unfold checkF; rw [if_pos HG.out]), by first | exact ⟨_, rfl⟩ | exact ⟨_, drew_two _ _ _⟩⟩
            have d3 : decide (x.sync < 0) = false := decide_eq_false h3
            by_cases h4 : (x.bytes.size : Int) < x.sync
            · have HG := Lib.hid (fine_bad HT.out HKN.out HXE.out (bad_high h4))
              have d4 : decide ((x.bytes.size : Int) < x.sync) = true := decide_eq_true h4
              clear HT HXE
              go_wp2_with fail
              go_quiet ((go_at_call 11; exact quiet_addS (HNM.out _)))
              rename_i nq
              go_wp2_with fail
              go_ret
              exact ⟨ret_int (by unfold checkF; rw [if_pos HG.out]), by first | exact ⟨_, rfl⟩ | exact ⟨_, drew_two _ _ _⟩⟩
            have d4 : decide ((x.bytes.size : Int) < x.sync) = false := decide_eq_false h4
            have HG := Lib.hid (fine_next HT.out HKN.out HXE.out (good_all hnm hord (by omega) (by omega)))
            clear HT HXE hord
            go_wp2_with fail
            go_quiet ((go_at_call 11; exact quiet_addS (HNM.out _)))
            rename_i nq
            go_wp2_with fail
            go_round
            case rel => exact ⟨k + 1, q + nq, by first | rfl | rw [drew_two], by omega, by go_num, HG.out⟩
            case measure => simp [intOf]; omega
          · rw [← hla] at hord
            have HG := Lib.hid (fine_bad HT.out HKN.out HXE.out (bad_order hord))
            clear hla hord HT HXE
            go_wp2_with fail
            go_quiet ((go_at_call 11; exact quiet_addS (HNM.out _)))
            rename_i nq
            go_wp2_with fail
            go_ret
            exact ⟨ret_int (by unfold checkF; rw [if_pos HG.out]), by first | exact ⟨_, rfl⟩ | exact ⟨_, drew_two _ _ _⟩⟩
          · rw [← hla] at hord
            have HG := Lib.hid (fine_bad HT.out HKN.out HXE.out (bad_order hord))
            clear hla hord HT HXE
            go_wp2_with fail
            go_quiet ((go_at_call 11; exact quiet_addS (HNM.out _)))
            rename_i nq
            go_wp2_with fail
            go_ret
            exact ⟨ret_int (by unfold checkF; rw [if_pos HG.out]), by first | exact ⟨_, rfl⟩ | exact ⟨_, drew_two _ _ _⟩⟩
    · obtain rfl : k = n := by omega
      have HF := Lib.hid (fine_all HT.out (by have := HN.out; omega))
      clear HT
      go_wp2_with fail
      go_loopw [4] (fun i W => ∃ m : Nat, W = w.drewN q ∧ m ≤ k ∧ i = .int .i64 m ∧ Hid (longL (ls.take m) = false)) (fun i _ => k - (intOf i).toNat)
      case atStart => exact ⟨0, rfl, Nat.zero_le _, rfl, Lib.hid rfl⟩
      case round =>
        obtain ⟨m, rfl, hm, rfl, HL⟩ := hrel
        by_cases hlt2 : m < k
        · have hmn : m < ls.length := by have := HN.out; omega
          obtain ⟨b, off, rfl, hbb, -, k1, -⟩ := HA.out.at hmn
          obtain ⟨x, hx, hxt⟩ := fil_at hmn
          have hxm : x ∈ ls := by rw [← hx]; exact List.getElem_mem _
          obtain ⟨hx1, hx2⟩ := HS.out x hxm
          rw [hx] at k1
          by_cases hl : 1048576 < x.bytes.size
          · have HG : Hid (longL ls = true) := Lib.hid (List.any_eq_true.2 ⟨x, hxm, decide_eq_true hl⟩)
            clear hx hxt hxm hmn HA
            go_wp2_with fail
            go_ret
            exact ⟨ret_int (by unfold checkF; rw [HF.out, HG.out]; rfl), by first | exact ⟨_, rfl⟩ | exact ⟨_, drew_two _ _ _⟩⟩
          · have HG : Hid (longL (ls.take (m + 1)) = false) := Lib.hid (by rw [hxt]; unfold longL; rw [List.any_append]; have := HL.out; unfold longL at this; rw [this]; simp; omega)
            clear hx hxt hxm hmn HA
            go_wp2_with fail
            go_round
            case rel => exact ⟨m + 1, by trivial, by omega, by go_num, HG.out⟩
            case measure => simp [intOf]; omega
        · obtain rfl : m = k := by omega
          have HG : Hid (longL ls = false) := Lib.hid (by have := HL.out; rwa [List.take_of_length_le (by have := HN.out; omega)] at this)
          clear HL
          go_wp2_with fail
          go_ret
          exact ⟨ret_int (by unfold checkF; rw [HF.out, HG.out]; rfl), by first | exact ⟨_, rfl⟩ | exact ⟨_, drew_two _ _ _⟩⟩
end Go.Proofs.Ytcfglgejjmapdaa
