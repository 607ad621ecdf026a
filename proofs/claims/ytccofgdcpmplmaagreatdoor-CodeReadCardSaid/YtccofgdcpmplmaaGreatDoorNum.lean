/- Whole numbers that words are. -/
import Derived.Test.YtccofgdcpmplmaaGreatDoorEnv
import Derived.Lib.AtoiAllCases
import Derived.Lib.AtoiErrMem
import Derived.Deep.CutRange
namespace Go.Proofs.YtccofgdcpmplmaaGreatDoor
open Go Go.RowKit Go.Shelf
def atoiO (s : ByteArray) : Option Int := match Lib.atoiAll s.data.toList with
  | .ok v => some v
  | _ => none
def pintO (s : ByteArray) : Option Int := match Lib.parseIntB 64 s.data.toList with
  | .ok v => some v
  | _ => none
theorem atoiO_in {s : ByteArray} {v : Int} (h : atoiO s = some v) : inI v := by
  unfold atoiO at h
  split at h
  · rename_i u hu
    cases h
    exact Lib.atoiAll_bounds hu
  · cases h
/-- A number, or an error. -/
def NumQ (o : Option Int) (e : Ending) : Prop := match o with
  | some v => e = .returned (.tuple #[.int .i64 v, .nilIface])
  | none => ∃ z te pe, e = .returned (.tuple #[.int .i64 z, .iface te pe])
theorem below_or {w w' : World} (h : w' = w ∨ ∃ t, w' = Lib.bytesWorld w 5 t) : Below w.heap.size w w' := by
  rcases h with rfl | ⟨t, rfl⟩
  · exact Below.refl _ _
  · exact Lib.bytesWorld_below w 5 t
theorem atoi_bad (s : ByteArray) (hlim : s.size ≤ 281474976710656) (h1 : ∀ v, Lib.atoiAll s.data.toList ≠ .ok v) (h2 : Lib.atoiAll s.data.toList ≠ .range) (ev : Value) (w : World) (hv : w.cell? ⟨2, 0, none⟩ = some ev) (hev : ev = .nilIface ∨ ∃ te pe, ev = .iface te pe) :
    Calls Tryz.prog 59 #[.string s] w fun e w' => ∃ N, e = .returned (.tuple #[.int .i64 (0), .iface 124 (.pointer (some ⟨N, 0, none⟩))]) ∧ w.heap.size ≤ N ∧ w'.heap[N]? = some (.cells #[.string ⟨#[65, 116, 111, 105]⟩, .string s, ev] 136 (0, 0)) ∧ Below w.heap.size w w' := by
  cases hx : Lib.atoiAll s.data.toList with
  | ok v => exact absurd hx (h1 v)
  | range => exact absurd hx h2
  | _ => exact Any.strconv_Atoi_syntax Tryz.laysC172 s hlim hx ev w hv hev
theorem pint_bad (s : ByteArray) (hlim : s.size ≤ 281474976710656) (h1 : ∀ v, Lib.parseIntB 64 s.data.toList ≠ .ok v) (h2 : Lib.parseIntB 64 s.data.toList ≠ .range) (ev : Value) (w : World) (hv : w.cell? ⟨2, 0, none⟩ = some ev) (hev : ev = .nilIface ∨ ∃ te pe, ev = .iface te pe) :
    Calls Tryz.prog 40 #[.string s, .int .i64 10, .int .i64 64] w fun e w' => ∃ N, e = .returned (.tuple #[.int .i64 (0), .iface 124 (.pointer (some ⟨N, 0, none⟩))]) ∧ w.heap.size ≤ N ∧ w'.heap[N]? = some (.cells #[.string ⟨#[80, 97, 114, 115, 101, 73, 110, 116]⟩, .string s, ev] 136 (0, 0)) ∧ Below w.heap.size w w' := by
  cases hx : Lib.parseIntB 64 s.data.toList with
  | ok v => exact absurd hx (h1 v)
  | range => exact absurd hx h2
  | _ => exact Any.strconv_ParseInt_10_at64_syntax Tryz.laysC174 s hlim hx ev w hv hev
theorem atoi_any (s : ByteArray) (w : World) (hs : s.size ≤ 1000000) (he : Env w) :
    Calls Tryz.prog 59 #[.string s] w fun e w' => NumQ (atoiO s) e ∧ Below w.heap.size w w' := by
  obtain ⟨_, _, _, ⟨t2, p2, h2⟩, t3, p3, h3⟩ := he
  unfold atoiO
  cases h : Lib.atoiAll s.data.toList with
  | ok v =>
    refine (Go.Proofs.Tryz.strconv_Atoi_ok s (by omega) v h w).mono ?_
    rintro e w' ⟨rfl, hw⟩
    exact ⟨rfl, below_or hw⟩
  | range =>
    refine (Go.Proofs.Tryz.strconv_Atoi_range s (by omega) h _ w h3 (.inr ⟨_, _, rfl⟩)).mono ?_
    rintro e w' ⟨M, rfl, _, _, hb⟩
    exact ⟨⟨_, _, _, rfl⟩, hb⟩
  | _ =>
    refine (atoi_bad s (by omega) (by rw [h]; intro v hv; cases hv) (by rw [h]; intro hv; cases hv) _ w h2 (.inr ⟨_, _, rfl⟩)).mono ?_
    rintro e w' ⟨M, rfl, _, _, hb⟩
    exact ⟨⟨_, _, _, rfl⟩, hb⟩
theorem pint_any (s : ByteArray) (w : World) (hs : s.size ≤ 1000000) (he : Env w) :
    Calls Tryz.prog 40 #[.string s, .int .i64 10, .int .i64 64] w fun e w' => NumQ (pintO s) e ∧ Below w.heap.size w w' := by
  obtain ⟨_, _, _, ⟨t2, p2, h2⟩, t3, p3, h3⟩ := he
  unfold pintO
  cases h : Lib.parseIntB 64 s.data.toList with
  | ok v =>
    refine (Go.Proofs.Tryz.strconv_ParseInt_10_at64_ok s (by omega) v h w).mono ?_
    rintro e w' ⟨rfl, hw⟩
    exact ⟨rfl, below_or hw⟩
  | range =>
    refine (Go.Proofs.Tryz.strconv_ParseInt_10_at64_range s (by omega) h _ w h3 (.inr ⟨_, _, rfl⟩)).mono ?_
    rintro e w' ⟨M, rfl, _, _, hb⟩
    exact ⟨⟨_, _, _, rfl⟩, hb⟩
  | _ =>
    refine (pint_bad s (by omega) (by rw [h]; intro v hv; cases hv) (by rw [h]; intro hv; cases hv) _ w h2 (.inr ⟨_, _, rfl⟩)).mono ?_
    rintro e w' ⟨M, rfl, _, _, hb⟩
    exact ⟨⟨_, _, _, rfl⟩, hb⟩
theorem int_info : (Tryz.prog.info? 3).map (fun i => (i.zero, i.size, i.bytes)) = some (some (.int .i64 0), 1, 8) := by kernel_rfl
theorem i64_info : (Tryz.prog.info? 2).map (fun i => (i.zero, i.size, i.bytes)) = some (some (.int .i64 0), 1, 8) := by kernel_rfl
theorem intsV_len (l : List Int) : (intsV l).length = l.length := by simp [intsV]
theorem intsV_one (l : List Int) : ∀ u ∈ intsV l, u.oneCell' = true := by
  intro u hu
  obtain ⟨z, _, rfl⟩ := List.mem_map.1 hu
  rfl
theorem new_one (W : World) (v : Value) (t : TypeId) : ∀ (j : Nat) u, [v][j]? = some u → (W.alloc (.cells #[v] t)).cell? (Addr.add ⟨W.heap.size, 0, none⟩ j) = some u := by
  intro j u h
  rcases j with _ | j
  · cases h
    rw [addoff, Lib.cell_of_heap (heap_alloc_new W (.cells #[v] t))]
    rfl
  · simp at h
def OwnI (w : World) (base : Nat) (t : TypeId) (v : Value) (l : List Int) : Prop := w.ownsRow base t 1 v l.length (intsV l)
theorem OwnI.below {w w' : World} {base : Nat} {t : TypeId} {v : Value} {l : List Int} (h : OwnI w base t v l) (hb : Below w.heap.size w w') : OwnI w' base t v l := own_below h hb
theorem OwnI.rd {w : World} {base : Nat} {t : TypeId} {v : Value} {l : List Int} (h : OwnI w base t v l) : ∃ A c, v = .slice A l.length c ∧ l.length ≤ c ∧ (A = none → c = 0) ∧ c ≤ maxLen ∧ RdV w A (intsV l) := by
  obtain ⟨A, c, rfl, h1, h2, h3, h4⟩ := own_rdV h
  exact ⟨A, c, rfl, h1, h2, h3, h4⟩
section
variable {w : World} {ops : Array Oper} {rest : List Oper} {o : Oper} {a : Go.Act} {Q : Exit → Go.Act → World → Prop}
theorem wpList_int (hg : o.guard = none) (s x : Operand) (ho : o.op = .call { callee := .builtin .append, args := #[s, x], argTypes := #[76, 76] })
    (base : Nat) (v : Value) (l : List Int) (hs : a.eval s = v) (hown : OwnI w base 3 v l) (z : Int) (ad : Addr) (hx : a.eval x = .slice (some ad) 1 1) (hr : ∀ (j : Nat) u, [Value.int .i64 z][j]? = some u → w.cell? (ad.add j) = some u)
    (b1 : l.length ≤ 10000000) (hb : base ≤ w.heap.size)
    (hK : ∀ v' w', OwnI w' base 3 v' (l ++ [z]) → Below base w w' → wpList Tryz.prog ops Q rest (a.put o.dst v') w') : wpList Tryz.prog ops Q (o :: rest) a w := by
  obtain ⟨i0, hi, hz0, hz1, hz2⟩ := info_parts int_info
  refine wpList_append_own w hg s x 76 ho base 3 i0 _ 1 8 Tryz.underlying76 hi hz0 hz1 hz2 rfl (by omega) v l.length (intsV l) hs hown ad 1 1 [.int .i64 z] hx rfl hr (by simp; rfl) (by simp only [maxLen]; omega) (by omega) hb (fun v' w' h1 h2 _ => hK v' w' ?_ ((Below.refl base w).grown h2 hb (fun k hk => (World.ownsRow.lt hown k hk).1)))
  unfold OwnI
  rw [List.length_append, show intsV (l ++ [z]) = intsV l ++ [.int .i64 z] by simp [intsV]]
  exact h1
end
theorem mapM_next {f : ByteArray → Option Int} {l : List ByteArray} {k : Nat} {zs : List Int} (h : k < l.length) (hz : (l.take k).mapM f = some zs) : (l.take (k + 1)).mapM f = (f l[k]).map (fun v => zs ++ [v]) := by
  rw [List.take_succ_eq_append_getElem h, List.mapM_append, hz]
  cases hf : f l[k] <;> simp [hf]
theorem mapM_none {f : ByteArray → Option Int} {l : List ByteArray} {k : Nat} (h : (l.take k).mapM f = none) : l.mapM f = none := by
  conv => lhs; rw [← List.take_append_drop k l, List.mapM_append, h]
  rfl
theorem mapM_len {f : ByteArray → Option Int} : ∀ {l : List ByteArray} {zs : List Int}, l.mapM f = some zs → zs.length = l.length
  | [], zs, h => by simp at h; subst h; rfl
  | x :: r, zs, h => by
    rw [List.mapM_cons] at h
    cases hx : f x with
    | none => simp [hx] at h
    | some v =>
      cases hr : r.mapM f with
      | none => simp [hx, hr] at h
      | some t =>
        simp [hx, hr] at h
        subst h
        simp [mapM_len hr]
theorem mapM_in : ∀ {l : List ByteArray} {zs : List Int}, l.mapM atoiO = some zs → ∀ z ∈ zs, inI z
  | [], zs, h => by simp at h; subst h; simp
  | x :: r, zs, h => by
    rw [List.mapM_cons] at h
    cases hx : atoiO x with
    | none => simp [hx] at h
    | some v =>
      cases hr : r.mapM atoiO with
      | none => simp [hx, hr] at h
      | some t =>
        simp [hx, hr] at h
        subst h
        intro z hz
        rcases List.mem_cons.1 hz with rfl | hz
        · exact atoiO_in hx
        · exact mapM_in hr z hz
/-- What numbers tells. -/
def NumsQ (o : Option (List Int)) (many : Int) (e : Ending) (w' : World) : Prop := match o with
  | some zs => ∃ A c, e = .returned (.tuple #[.slice A zs.length c, .bool ((zs.length : Int) == many)]) ∧ RdV w' A (intsV zs) ∧ ∀ b, (Value.slice A zs.length c).ownBlock = some b → ∃ cs fr, w'.heap[b]? = some (.cells cs 3 fr)
  | none => e = .returned (.tuple #[.slice none 0 0, .bool false])
set_option maxRecDepth 100000 in
set_option maxHeartbeats 4000000 in
theorem numbers_any (A : Option Addr) (c : Nat) (fs : List ByteArray) (many : Int) (w : World) (hr : RdV w A (cellsS fs)) (hn : fs.length ≤ 1000000) (hs : ∀ s ∈ fs, s.size ≤ 1000000) (he : Env w) :
    Calls Tryz.prog 39 #[.slice A fs.length c, .int .i64 many] w fun e w' => NumsQ (fs.mapM atoiO) many e w' ∧ Below w.heap.size w w' := by
  obtain ⟨n, hn1⟩ : ∃ n, fs.length = n := ⟨_, rfl⟩
  have HN := Lib.hid hn1
  have HR : Hid (∀ W, Below w.heap.size w W → RdV W A (cellsS fs)) := Lib.hid (fun W hb => hr.below hb)
  have HE : Hid (∀ W, Below w.heap.size w W → Env W) := Lib.hid (fun W hb => he.below hb)
  have HS := Lib.hid hs
  rw [hn1] at hn ⊢
  clear hr he hs hn1
  go_enter Tryz.func39, Tryz.ntmps39
  go_wp2_with fail
  go_loopw [6, 13] (fun v i wr => ∃ (k : Nat) (zs : List Int), k ≤ n ∧ i = .int .i64 k ∧ zs.length = k ∧ Hid ((fs.take k).mapM atoiO = some zs) ∧ Hid (OwnI wr w.heap.size 3 v zs) ∧ Hid (Below w.heap.size w wr)) (fun _ i _ => n - (intOf i).toNat)
  case atStart => exact ⟨0, [], Nat.zero_le _, rfl, rfl, Lib.hid (by simp), Lib.hid (World.ownsRow_nil _ _ _ _), Lib.hid (Below.refl _ _)⟩
  case round =>
    obtain ⟨k, zs, hk, rfl, hzk, HM, HO, HBL⟩ := hrel
    by_cases hlt : k < n
    rotate_left
    · have d1 : decide (k < n) = false := decide_eq_false hlt
      have d2 : decide ((k : Int) < (n : Int)) = false := decide_eq_false (by omega)
      have HALL : Hid (fs.mapM atoiO = some zs) := Lib.hid (by
        have h1 := HM.out
        rwa [List.take_of_length_le (by have := HN.out; omega)] at h1)
      have hty := own_type HO.out
      obtain ⟨A', c', hv, _, _, _, hr'⟩ := HO.out.rd
      subst hv
      have HTY := Lib.hid hty
      clear hty
      have HR' := Lib.hid hr'
      have HZ := Lib.hid hzk
      clear hr' HO HM
      go_wp2_with fail
      go_ret2
      exact ⟨by rw [HALL.out]; exact ⟨A', c', by rw [HZ.out]; rfl, HR'.out, HTY.out⟩, HBL.out⟩
    have hka : k < fs.length := by have := HN.out; omega
    obtain ⟨b6, o6, hT, hb6, u0⟩ := rdS_at (HR.out _ HBL.out) hka
    have HNX := Lib.hid (mapM_next hka HM.out)
    have HSZ := Lib.hid (HS.out _ (List.getElem_mem hka))
    obtain ⟨s, hs⟩ : ∃ s, fs[k] = s := ⟨_, rfl⟩
    rw [hs] at u0 HNX HSZ
    have hk0 : (0 : Int) ≤ (k : Int) := by omega
    have hkl : (k : Int) < (n : Int) := by omega
    have d1 : decide (k < n) = true := decide_eq_true hlt
    have HA := Lib.hid (atoi_any s wr HSZ.out (HE.out _ HBL.out))
    rw [hT]
    clear hs hT hka HM
    go_wp2_with fail
    refine HA.out.mono ?_
    rintro e w3 ⟨hq, hb3⟩
    have HO3 := Lib.hid (HO.out.below hb3)
    have HB3 := Lib.hid (HBL.out.trans (hb3.mono HBL.out.size))
    clear hb3 u0 HA HO HBL
    cases ha : atoiO s with
    | none =>
      rw [ha] at hq
      obtain ⟨z, te, pe, rfl⟩ := hq
      have HNO : Hid (fs.mapM atoiO = none) := Lib.hid (mapM_none (k := k + 1) (by rw [HNX.out, ha]; rfl))
      clear ha
      go_wp2_with fail
      go_ret2
      exact ⟨by rw [HNO.out]; rfl, HB3.out⟩
    | some z =>
      rw [ha] at hq
      have hq' : e = .returned (.tuple #[.int .i64 z, .nilIface]) := hq
      subst hq'
      have HNY : Hid ((fs.take (k + 1)).mapM atoiO = some (zs ++ [z])) := Lib.hid (by rw [HNX.out, ha]; rfl)
      have HO4 : Hid (OwnI (w3.alloc (.cells #[.int .i64 z] 3)) w.heap.size 3 u6 zs) := Lib.hid (HO3.out.below (below_new w3 _))
      have HB4 : Hid (Below w.heap.size w (w3.alloc (.cells #[.int .i64 z] 3))) := Lib.hid (HB3.out.trans ((below_new w3 _).mono HB3.out.size))
      have HN4 := Lib.hid (new_one w3 (.int .i64 z) 3)
      clear ha hq HNX
      go_wp2_with (at_builtin; refine wpList_int rfl (.tmp 24) (.tmp 26) rfl w.heap.size u6 zs rfl HO4.out z ⟨w3.heap.size, 0, none⟩ rfl HN4.out (by omega) HB4.out.size ?_; intro v7 w7 ho7 hb7; have HO7 := Lib.hid ho7; have HB7 := Lib.hid hb7; clear ho7 hb7)
      go_roundw
      case rel => exact ⟨k + 1, zs ++ [z], by omega, by go_num, by simp; omega, HNY, HO7, Lib.hid (HB4.out.trans HB7.out)⟩
      case measure => simp [intOf]; omega
end Go.Proofs.YtccofgdcpmplmaaGreatDoor
