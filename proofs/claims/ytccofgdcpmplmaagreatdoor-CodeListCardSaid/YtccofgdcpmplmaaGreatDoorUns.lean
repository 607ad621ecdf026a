/- A text whose bytes stand in digits of 16. -/
import Derived.Test.YtccofgdcpmplmaaGreatDoorPui
namespace Go.Proofs.YtccofgdcpmplmaaGreatDoor
open Go Go.RowKit Go.Shelf
/-- What two digits make. -/
def PuQ (o : Option Nat) (e : Ending) : Prop := match o with
  | some v => e = .returned (.tuple #[.int .u64 v, .nilIface])
  | none => ∃ te pe, e = .returned (.tuple #[.int .u64 0, .iface te pe])
theorem pu_any (s : ByteArray) (w : World) (hs : s.size = 2) (he : Env w) :
    Calls Tryz.prog 62 #[.string s, .int .i64 16, .int .i64 8] w fun e w' => PuQ (valL s.data.toList) e ∧ Below w.heap.size w w' := by
  have HI := Lib.hid (pu_inner s w hs)
  have HT : Hid (∀ W, Below w.heap.size w W → Calls Tryz.prog 61 #[.string { data := #[80, 97, 114, 115, 101, 85, 105, 110, 116] }, .string s, .int .i64 16, .int .i64 8, .iface 123 (.int .i64 2)] W fun e w' => (∃ te pe, e = .returned (.iface te pe)) ∧ Below W.heap.size W w') := Lib.hid (fun W hb => by
    obtain ⟨_, _, _, ⟨t2, p2, h2⟩, _⟩ := he.below hb
    refine (Go.Proofs.Tryz.strconv_toError_syntax _ s 16 8 _ W (by omega) h2 (.inr ⟨_, _, rfl⟩)).mono ?_
    rintro e w' ⟨M, rfl, _, _, hb⟩
    exact ⟨⟨_, _, rfl⟩, hb⟩)
  obtain ⟨o, ho⟩ : ∃ o, valL s.data.toList = o := ⟨_, rfl⟩
  rw [ho] at HI ⊢
  clear hs he ho
  go_enter Tryz.func62, Tryz.ntmps62
  go_wp2_with fail
  refine HI.out.mono ?_
  rintro e w1 ⟨hq, hb1⟩
  have HB1 := Lib.hid hb1
  clear hb1
  cases o with
  | some v =>
    have hq' : e = .returned (.tuple #[.int .u64 v, .nilIface]) := hq
    subst hq'
    clear hq
    go_wp2_with fail
    go_ret2
    exact ⟨rfl, HB1.out⟩
  | none =>
    have hq' : e = .returned (.tuple #[.int .u64 0, .iface 123 (.int .i64 2)]) := hq
    subst hq'
    clear hq
    go_wp2_with fail
    refine (HT.out _ HB1.out).mono ?_
    rintro e w2 ⟨⟨te, pe, rfl⟩, hb2⟩
    have HB2 := Lib.hid (HB1.out.trans (hb2.mono HB1.out.size))
    clear hb2
    go_wp2_with fail
    go_ret2
    exact ⟨⟨te, pe, rfl⟩, HB2.out⟩
def unspF : List UInt8 → Option (List UInt8)
  | x :: y :: r => (valL [x, y]).bind fun v => (unspF r).map (UInt8.ofNat v :: ·)
  | _ => some []
def unspP (s : ByteArray) : Option ByteArray := if s.data.toList = [45] then some ⟨#[]⟩ else (unspF s.data.toList).map ofL
section
variable {w : World} {ops : Array Oper} {rest : List Oper} {o : Oper} {a : Go.Act} {Q : Exit → Go.Act → World → Prop}
theorem wpList_byte (hg : o.guard = none) (s x : Operand) (ho : o.op = .call { callee := .builtin .append, args := #[s, x], argTypes := #[46, 46] })
    (base : Nat) (v : Value) (l : List UInt8) (hs : a.eval s = v) (hown : OwnB w base v l) (z : UInt8) (ad : Addr) (hx : a.eval x = .slice (some ad) 1 1) (hr : ∀ (j : Nat) u, [Value.int .u8 z.toNat][j]? = some u → w.cell? (ad.add j) = some u)
    (b1 : l.length ≤ 10000000) (hb : base ≤ w.heap.size)
    (hK : ∀ v' w', OwnB w' base v' (l ++ [z]) → Below base w w' → wpList Tryz.prog ops Q rest (a.put o.dst v') w') : wpList Tryz.prog ops Q (o :: rest) a w := by
  obtain ⟨i0, hi, hz0, hz1, hz2⟩ := info_parts u8_info'
  refine wpList_append_own w hg s x 46 ho base 5 i0 _ 1 1 Tryz.underlying46 hi hz0 hz1 hz2 rfl (by omega) v l.length (cellsB l) hs hown ad 1 1 [.int .u8 z.toNat] hx rfl hr (by simp; rfl) (by simp only [maxLen]; omega) (by omega) hb (fun v' w' h1 h2 _ => hK v' w' ?_ ((Below.refl base w).grown h2 hb (fun k hk => (World.ownsRow.lt hown k hk).1)))
  unfold OwnB
  rw [List.length_append, cellsB_app]
  exact h1
end
theorem valL_lt {x y : UInt8} {v : Nat} (h : valL [x, y] = some v) : v < 256 := by
  unfold valL at h
  simp only [List.foldlM_cons, List.foldlM_nil] at h
  cases hx : dig x.toNat with
  | none => simp [hx] at h
  | some a =>
    cases hy : dig y.toNat with
    | none => simp [hx, hy] at h
    | some b =>
      simp [hx, hy] at h
      have := dig_lt hx
      have := dig_lt hy
      omega
theorem unspF_short {l : List UInt8} (h : l.length < 2) : unspF l = some [] := by
  match l with
  | [] => rfl
  | [x] => rfl
  | x :: y :: r => simp at h; omega
theorem unspF_len : ∀ {l t : List UInt8}, unspF l = some t → t.length ≤ l.length
  | x :: y :: r, t, h => by
    simp only [unspF] at h
    cases hv : valL [x, y] with
    | none => simp [hv] at h
    | some v =>
      cases hr : unspF r with
      | none => simp [hv, hr] at h
      | some u =>
        simp [hv, hr] at h
        subst h
        have := unspF_len hr
        simp
        omega
  | [x], t, h => by cases h; simp
  | [], t, h => by cases h; simp
theorem extract_list (s : ByteArray) (a b : Nat) : (s.extract a b).data.toList = (s.data.toList.drop a).take (b - a) := by
  simp [ByteArray.data_extract, Array.toList_extract, List.extract_eq_take_drop]
/-- What unspelled tells. -/
def UnsQ (o : Option ByteArray) (e : Ending) : Prop := match o with
  | some t => e = .returned (.tuple #[.string t, .bool true])
  | none => e = .returned (.tuple #[.string { data := #[] }, .bool false])
set_option maxRecDepth 100000 in
set_option maxHeartbeats 8000000 in
theorem unspelled_any (s : ByteArray) (w : World) (hs : s.size ≤ 1000000) (he : Env w) :
    Calls Tryz.prog 41 #[.string s] w fun e w' => UnsQ (unspP s) e ∧ Below w.heap.size w w' := by
  by_cases h0 : s.data.toList = [45]
  · have hse : s = { data := #[45] } := by
      cases s with | mk d => cases d with | mk l => simp at h0; subst h0; rfl
    subst hse
    go_enter Tryz.func41, Tryz.ntmps41
    go_wp2_with fail
    go_ret2
    exact ⟨rfl, Below.refl _ _⟩
  have hne : (s.toList == [45]) = false := by
    have h1 := bytes_dec s { data := #[45] }
    have h3 : s ≠ { data := #[45] } := fun e => h0 (by rw [e])
    rw [decide_eq_false h3, show ({ data := #[45] } : ByteArray).toList = [45] from by kernel_rfl] at h1
    exact h1
  have HUN : Hid (unspP s = (unspF s.data.toList).map ofL) := Lib.hid (by rw [unspP, if_neg h0])
  obtain ⟨n, hn⟩ : ∃ n, s.size = n := ⟨_, rfl⟩
  have hlen : s.data.toList.length = n := by rw [← hn]; exact Array.length_toList
  have HLN := Lib.hid hlen
  have HE : Hid (∀ W, Below w.heap.size w W → Env W) := Lib.hid (fun W hb => he.below hb)
  rw [hn] at hs
  clear h0 he hlen
  go_enter Tryz.func41, Tryz.ntmps41
  go_wp2_with fail
  go_loopw [4, 5] (fun v i wr => ∃ (k : Nat) (zs : List UInt8), 2 * k ≤ n + 1 ∧ i = .int .i64 (2 * k : Nat) ∧ zs.length = k ∧ Hid (unspF s.data.toList = (unspF (s.data.toList.drop (2 * k))).map (zs ++ ·)) ∧ Hid (OwnB wr w.heap.size v zs) ∧ Hid (Below w.heap.size w wr)) (fun _ i _ => n + 2 - (intOf i).toNat)
  case atStart => exact ⟨0, [], Nat.zero_le _, rfl, rfl, Lib.hid (by simp), Lib.hid (OwnB.nil _ _), Lib.hid (Below.refl _ _)⟩
  case round =>
    obtain ⟨k, zs, hk, rfl, hzk, HU, HO, HBL⟩ := hrel
    obtain ⟨i, hi⟩ : ∃ i, 2 * k = i := ⟨_, rfl⟩
    rw [hi] at HU hk ⊢
    have w1 : IntKind.i64.wrap ((i : Int) + 1) = (i : Int) + 1 := IntWalk.i64_in _ (by omega)
    have w2 : IntKind.i64.wrap ((i : Int) + 2) = (i : Int) + 2 := IntWalk.i64_in _ (by omega)
    by_cases hlt : i + 1 < n
    rotate_left
    · have d1 : decide ((i : Int) + 1 < (n : Int)) = false := decide_eq_false (by omega)
      have HEND : Hid (unspP s = some (ofL zs)) := Lib.hid (by
        rw [HUN.out, HU.out, unspF_short (by rw [List.length_drop, HLN.out]; omega)]
        simp)
      have HCO := conv_own HO.out
      go_wp2_with fail
      go_ret2
      exact ⟨by rw [HEND.out]; rfl, HBL.out⟩
    have d1 : decide ((i : Int) + 1 < (n : Int)) = true := decide_eq_true (by omega)
    obtain ⟨x, y, r, hxy⟩ : ∃ x y r, s.data.toList.drop i = x :: y :: r := by
      have h1 : (s.data.toList.drop i).length = n - i := by rw [List.length_drop, HLN.out]
      match hd : s.data.toList.drop i, h1 with
      | [], h1 => simp at h1; omega
      | [x], h1 => simp at h1; omega
      | x :: y :: r, _ => exact ⟨x, y, r, rfl⟩
    have hdr : s.data.toList.drop (i + 2) = r := by
      rw [← List.drop_drop, hxy]
      rfl
    have hex : (s.extract i (i + 2)).data.toList = [x, y] := by
      rw [extract_list, hxy]
      simp
    have hexs : (s.extract i (i + 2)).size = 2 := by
      have h1 := congrArg List.length hex
      rwa [show (s.extract i (i + 2)).data.toList.length = (s.extract i (i + 2)).size from Array.length_toList] at h1
    have HPU := Lib.hid (pu_any (s.extract i (i + 2)) wr hexs (HE.out _ HBL.out))
    rw [hex] at HPU
    rw [hxy] at HU
    have HDR := Lib.hid hdr
    have HI := Lib.hid hi
    have hkb : k ≤ 1000000 := by omega
    have i0 : (0 : Int) ≤ (i : Int) := by omega
    have i1 : (i : Int) ≤ (i : Int) + 2 := by omega
    have i2 : (i : Int) + 2 ≤ (n : Int) := by omega
    have i3 : i ≤ i + 2 := by omega
    have i4 : i + 2 ≤ n := by omega
    clear hxy hdr hex hexs hi
    go_wp2_with fail
    refine HPU.out.mono ?_
    rintro e w3 ⟨hq, hb3⟩
    have HO3 := Lib.hid (HO.out.below hb3)
    have HB3 := Lib.hid (HBL.out.trans (hb3.mono HBL.out.size))
    clear hb3 HPU HO HBL
    cases hv : valL [x, y] with
    | none =>
      rw [hv] at hq
      obtain ⟨te, pe, rfl⟩ := hq
      have HNO : Hid (unspP s = none) := Lib.hid (by
        rw [HUN.out, HU.out]
        simp [unspF, hv])
      clear hv
      go_wp2_with fail
      go_ret2
      exact ⟨by rw [HNO.out]; rfl, HB3.out⟩
    | some v =>
      rw [hv] at hq
      have hq' : e = .returned (.tuple #[.int .u64 v, .nilIface]) := hq
      subst hq'
      have hlt2 := valL_lt hv
      obtain ⟨z, hz⟩ : ∃ z : UInt8, UInt8.ofNat v = z := ⟨_, rfl⟩
      have hzn : z.toNat = v := by rw [← hz]; exact UInt8.toNat_ofNat_of_lt' (by simpa using hlt2)
      have HU2 : Hid (unspF s.data.toList = (unspF (s.data.toList.drop (i + 2))).map ((zs ++ [z]) ++ ·)) := Lib.hid (by
        rw [HU.out, HDR.out, unspF, hv]
        simp [hz]
        cases unspF r <;> simp)
      have w3' : IntKind.u8.wrap (v : Int) = (z.toNat : Int) := by rw [IntWalk.u8_in _ (by omega)]; omega
      have HO4 : Hid (OwnB (w3.alloc (.cells #[.int .u8 z.toNat] 5)) w.heap.size u4 zs) := Lib.hid (HO3.out.below (below_new w3 _))
      have HB4 : Hid (Below w.heap.size w (w3.alloc (.cells #[.int .u8 z.toNat] 5))) := Lib.hid (HB3.out.trans ((below_new w3 _).mono HB3.out.size))
      have HN4 := Lib.hid (new_one w3 (.int .u8 z.toNat) 5)
      have HZV := Lib.hid hzn
      clear hv hq hz hzn HU HDR hlt2
      go_wp2_with (at_builtin; refine wpList_byte rfl (.tmp 28) (.tmp 31) rfl w.heap.size u4 zs rfl HO4.out z ⟨w3.heap.size, 0, none⟩ rfl HN4.out (by omega) HB4.out.size ?_; intro v7 w7 ho7 hb7; have HO7 := Lib.hid ho7; have HB7 := Lib.hid hb7; clear ho7 hb7)
      go_roundw
      case rel =>
        have hii := HI.out
        exact ⟨k + 1, zs ++ [z], by omega, congrArg (Value.int .i64) (by omega), by simp; omega, by rw [show 2 * (k + 1) = i + 2 by omega]; exact HU2, HO7, Lib.hid (HB4.out.trans HB7.out)⟩
      case measure => simp [intOf]; omega
end Go.Proofs.YtccofgdcpmplmaaGreatDoor
