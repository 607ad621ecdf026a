/- What is put under its digest; what is unloaded, flushed, counted, named. -/
import Derived.Test.YtpomaabkgbaikaaDoorFc
import Derived.Test.YtpomaabkgbaikaaDoorShelf
namespace Go.Proofs.YtpomaabkgbaikaaDoor
open Go Go.RowKit Go.Maps Go.Sort Go.Shelf
attribute [local go_sem] Oper.semAt_some
section
variable {C D M : Nat} {ds ns : List En}
/-- What Put tells. -/
def pE (ds : List En) (total : Nat) (s : ByteArray) : Int := if 1048576 < s.size then 3 else putE ds total (digP s) s
def pD (ds : List En) (total : Nat) (s : ByteArray) : ByteArray := if pE ds total s = 0 then digP s else ⟨#[]⟩
def pL (ds : List En) (total : Nat) (s : ByteArray) : List En := if 1048576 < s.size then ds else putL ds total (digP s) s
theorem putE_cases (l : List En) (t : Nat) (k s : ByteArray) : (putE l t k s = 0 ∧ (putE l t k s == 0) = true ∧ (putE l t k s != 0) = false) ∨ (putE l t k s = 3 ∧ (putE l t k s == 0) = false ∧ (putE l t k s != 0) = true) := by
  unfold putE
  cases putOk l t k s
  · exact .inr ⟨rfl, rfl, rfl⟩
  · exact .inl ⟨rfl, rfl, rfl⟩
set_option maxRecDepth 100000 in
theorem putc_any (s : ByteArray) (w : World) (h : CA C D M ds ns w) (hg : DG w) (h2 : ∀ b, TC C D M b → b ≠ 2) (hd : ds.length ≤ 100000000) (hn : ns.length ≤ 100000000) (hs : s.size ≤ 1000000 ∨ 1048576 < s.size ∧ s.size ≤ 9223372036854775807) :
    Calls Tryd.prog 23 #[.pointer (some ⟨C, 0, none⟩), .string s] w fun e w' => e = .returned (.tuple #[.string (pD ds (ds.length + ns.length) s), .int .i64 (pE ds (ds.length + ns.length) s)]) ∧ CA C D M (pL ds (ds.length + ns.length) s) ns w' ∧ KeepT (TC C D M) w w' := by
  have HN := Lib.hid (none_any w h)
  have HCA := Lib.hid h
  by_cases h1 : 1048576 < s.size
  · have d1 : decide (1048576 < s.size) = true := decide_eq_true h1
    have d2 : decide ((1048576 : Int) < (s.size : Int)) = true := decide_eq_true (by omega)
    have HE : Hid (pE ds (ds.length + ns.length) s = 3 ∧ pD ds (ds.length + ns.length) s = ⟨#[]⟩ ∧ pL ds (ds.length + ns.length) s = ds) := Lib.hid (by
      have e : pE ds (ds.length + ns.length) s = 3 := if_pos h1
      refine ⟨e, ?_, if_pos h1⟩
      unfold pD
      rw [e, if_neg (by decide)])
    clear h h1 hs
    go_enter Tryd.func23, Tryd.ntmps23
    go_wp2_with fail
    refine HN.out.mono ?_
    rintro e w1 ⟨rfl, rfl⟩
    go_wp2_with fail
    go_ret2
    exact ⟨by rw [HE.out.1, HE.out.2.1]; rfl, by rw [HE.out.2.2]; exact HCA.out, KeepT.refl _ _⟩
  have d1 : decide (1048576 < s.size) = false := decide_eq_false h1
  have d2 : decide ((1048576 : Int) < (s.size : Int)) = false := decide_eq_false (by omega)
  have hs2 : s.size ≤ 1000000 := by omega
  have hk : (digP s).size ≤ maxLen := by rw [digP_size]; simp [maxLen]
  obtain ⟨f, g, hcv, hrb⟩ := conv_new s
  have hcw := hcv w
  obtain ⟨hr, hb⟩ := hrb w
  have HDI := Lib.hid (dig_any (some ⟨w.heap.size, 0, none⟩) s.size (f w) s (g w) rfl hs2 hr (hg.below hb))
  have HB := Lib.hid hb
  have HP := Lib.hid (fun W (hbw : Below w.heap.size w W) => put_caD (digP s) s W.drew ((h.below hbw).keep (W' := W.drew) (fun _ _ => rfl)) hk hd hn (by omega))
  have HE : Hid (pE ds (ds.length + ns.length) s = putE ds (ds.length + ns.length) (digP s) s ∧ pL ds (ds.length + ns.length) s = putL ds (ds.length + ns.length) (digP s) s ∧ pD ds (ds.length + ns.length) s = if putE ds (ds.length + ns.length) (digP s) s = 0 then digP s else ⟨#[]⟩) := Lib.hid (by
    have e : pE ds (ds.length + ns.length) s = putE ds (ds.length + ns.length) (digP s) s := if_neg h1
    refine ⟨e, if_neg h1, ?_⟩
    unfold pD
    rw [e])
  rw [HE.out.1, HE.out.2.1, HE.out.2.2]
  have HPC := Lib.hid (putE_cases ds (ds.length + ns.length) (digP s) s)
  generalize putE ds (ds.length + ns.length) (digP s) s = E at *
  generalize putL ds (ds.length + ns.length) (digP s) s = L at *
  generalize digP s = dg at *
  have HQ := Lib.hid (fun W (hbw : Below w.heap.size w W) => (h.below hbw).cells.1)
  clear h hg hs hs2 h1 hcv hrb hr hb hk HE
  go_enter Tryd.func23, Tryd.ntmps23
  go_wp2_with fail
  refine HN.out.mono ?_
  rintro e w1 ⟨rfl, rfl⟩
  go_wp2_with fail
  refine HDI.out.mono ?_
  rintro e w2 ⟨rfl, hb2⟩
  have hbw := HB.out.trans (hb2.mono HB.out.size)
  have HBW := Lib.hid hbw
  have hc2 := HQ.out _ hbw
  have HP2 := Lib.hid (HP.out _ hbw)
  clear hbw hb2 HDI HP HQ
  go_wp2_with fail
  go_region_held3 (fun W => W.cell? ⟨C, 0, none⟩ = some (.map (some D)))
    (first | assumption | go_keep | fail)
    (first
      | (go_at_call 44; with_reducible (refine HP2.out.mono ?_); rintro e w5 ⟨rfl, hca, hkt⟩; have HC5 := Lib.hid hca; have HK5 := Lib.hid hkt; have hc5 := hca.cells.1; clear hca hkt))
  have HKX := Lib.hid ((KeepT.of_below HBW.out (T := TC C D M)).drew 1 |>.trans HK5.out (fun b t => .inl t))
  rcases HPC.out with ⟨rfl, e1, e2⟩ | ⟨rfl, e1, e2⟩
  · go_wp2_with fail
    go_ret2
    exact ⟨rfl, HC5.out, HKX.out⟩
  · go_wp2_with fail
    go_ret2
    exact ⟨rfl, HC5.out, HKX.out⟩
/-- What unloading tells. -/
def unE (ns : List En) (key : ByteArray) : Int := if nmB key then (if hasK ns key then 0 else 5) else 2
def unL (ns : List En) (key : ByteArray) : List En := if nmB key then drp En.key ns key else ns
theorem drp_none {l : List En} {n : ByteArray} (h : hasK l n = false) : drp En.key l n = l := by
  have h1 : fnd En.key l n = none := by
    unfold hasK at h
    cases hq : fnd En.key l n with
    | none => rfl
    | some e => rw [hq] at h; cases h
  rw [fnd_none] at h1
  unfold drp
  rw [List.filter_eq_self]
  intro e he
  have := h1 e he
  simp only [Bool.not_eq_true', beq_eq_false_iff_ne, ne_eq]
  exact fun q => this (bl_inj q)
theorem MP.del {K : Nat} {l : List En} {n : Nat} {W W' : World} (h : MP K l W) (k : ByteArray) (ho : W'.ownsMap Tryd.prog 9 kR K n ((dMap En.key En.script l).del (.string (bl k)))) : MP K (drp En.key l k) W' := by
  rw [del_ent] at ho
  have h1 := map_tight ho
  rw [size_ent] at h1
  exact ⟨h1, h.2.drp k⟩
set_option maxRecDepth 100000 in
theorem unload_any (key : ByteArray) (w : World) (h : CA C D M ds ns w) (hk : key.size ≤ maxLen) :
    Calls Tryd.prog 26 #[.pointer (some ⟨C, 0, none⟩), .string key] w fun e w' => e = .returned (.int .i64 (unE ns key)) ∧ CA C D M ds (unL ns key) w' ∧ KeepT (TC C D M) w w' := by
  have HN := Lib.hid (named_any key w h hk)
  have HCA := Lib.hid h
  unfold unE unL
  cases hb : nmB key with
  | false =>
    rw [hb] at HN
    clear hb h
    go_enter Tryd.func26, Tryd.ntmps26
    go_wp2_with fail
    refine HN.out.mono ?_
    rintro e w1 ⟨rfl, rfl⟩
    go_wp2_with fail
    go_ret
    exact ⟨rfl, HCA.out, KeepT.refl _ _⟩
  | true =>
    rw [hb] at HN
    have h1 := h.cells.2
    have hlo := h.nam.look key hk
    have HKO := Lib.hid (key_of hk)
    obtain ⟨sc, hsc⟩ : ∃ sc, scr ns key = sc := ⟨_, rfl⟩
    rw [hsc] at hlo
    have hbn := below_new w (.cells #[.string sc] 72)
    have y1 := (h.below hbn).cells.2
    have HC1 := Lib.hid (h.below hbn)
    have HB1 := Lib.hid hbn
    simp only [if_true]
    cases hh : hasK ns key with
    | false =>
      have HDN := Lib.hid (drp_none hh)
      rw [hh] at hlo
      clear hb h hsc hh hbn
      go_enter Tryd.func26, Tryd.ntmps26
      go_wp2_with fail
      refine HN.out.mono ?_
      rintro e w1 ⟨rfl, rfl⟩
      go_wp2_with fail
      go_ret
      exact ⟨rfl, by rw [HDN.out]; exact HC1.out, KeepT.of_below HB1.out⟩
    | true =>
      rw [hh] at hlo
      clear hb h hsc hh hbn
      go_enter Tryd.func26, Tryd.ntmps26
      go_wp2_with fail
      refine HN.out.mono ?_
      rintro e w1 ⟨rfl, rfl⟩
      go_wp2_with (at_delete; refine wpList_delete_own _ rfl (.tmp 30) (.tmp 31) 63 9 rfl 72 (Maps.string_keyed Tryd.underlying9) Tryd.underlying63 kR M _ _ rfl HC1.out.nam.1 (.string key) (.string (bl key)) rfl HKO.out ?_; intro w7 hown1 hturn1; have HT7 := Lib.hid (KeepT.turned (Below.refl _ _) hturn1); have HM7 := Lib.hid (HC1.out.nam.del key hown1); clear hown1 hturn1)
      go_ret
      exact ⟨rfl, HC1.out.putM HM7.out HT7.out, (KeepT.of_below HB1.out).trans HT7.out (fun b e => .inl (.inr (.inr e)))⟩
theorem clear_map {w : World} {r : Nat} {es : Array MapEntry} {clock : Nat} (hb : w.heap[r]? = some (.map es clock)) (ty : TypeId) : ∃ o, (Builtin.clear_ #[63] ty #[.map (some r)]).run Tryd.prog w = .ok (.tuple #[]) { w with heap := w.heap.setIfInBounds r o } ∧ o = .map #[] clock := by
  refine ⟨.map #[] clock, ?_, rfl⟩
  simp [Builtin.clear_, run_underlying Tryd.underlying63, MapKept.run_getObj_map hb, MapKept.run_setObj_map _ hb, Result.andThen]
end
end Go.Proofs.YtpomaabkgbaikaaDoor
