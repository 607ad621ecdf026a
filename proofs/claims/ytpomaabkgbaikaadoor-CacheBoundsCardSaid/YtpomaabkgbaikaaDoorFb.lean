/- The cache's Get, Named; what is put under a key. -/
import Derived.Test.YtpomaabkgbaikaaDoorFa
namespace Go.Proofs.YtpomaabkgbaikaaDoor
open Go Go.RowKit Go.Maps
attribute [local go_sem] Oper.semAt_some
section
variable {C D M : Nat} {ds ns : List En}
set_option maxRecDepth 100000 in
theorem namedc_any (key : ByteArray) (w : World) (h : CA C D M ds ns w) (hk : key.size ≤ maxLen) : Calls Tryd.prog 15 #[.pointer (some ⟨C, 0, none⟩), .string key] w fun e w' => e = .returned (.tuple #[.string (scr ns key), .bool (hasK ns key)]) ∧ Below w.heap.size w w' := by
  have HN := Lib.hid (none_any w h)
  have h1 := h.cells.2
  have HG := Lib.hid (fun v => get_any M ns key w.drew v (h.nam.keep (W' := w.drew) rfl) hk)
  have HCC : Hid (∀ w5, Below w.drew.heap.size w.drew w5 → w5.cell? ⟨C, 1, none⟩ = some (.map (some M))) := Lib.hid (fun w5 hb => (hb.cell (p := ⟨C, 1, none⟩) (h.lt C (.inl rfl))).trans h1)
  clear h
  go_enter Tryd.func15, Tryd.ntmps15
  go_wp2_with fail
  refine HN.out.mono ?_
  rintro e w1 ⟨rfl, rfl⟩
  go_wp2_with fail
  go_region_held3 (fun W => W.cell? ⟨C, 1, none⟩ = some (.map (some M)))
    (first | assumption | go_keep | fail)
    (first
      | (go_at_call 33; with_reducible (refine (HG.out _).mono ?_); rintro e w5 ⟨rfl, hb5⟩; have HB5 := Lib.hid hb5; have hc5 := HCC.out _ hb5; clear hb5))
  go_wp2_with fail
  go_ret2
  exact ⟨rfl, (Below.refl _ w).drew.trans HB5.out⟩
/-- May there be a script under a key? -/
def putOk (l : List En) (total : Nat) (key s : ByteArray) : Bool := decide (s.size ≤ 1048576) && (hasK l key || decide (total < 65536))
theorem KeepT.turned {w W W' : World} {K : Nat} (h : Below w.heap.size w W) (ht : W.mapTurned W' K) : KeepT (fun b => b = K) w W' :=
  (KeepT.of_below h).mono (T' := fun b => b = K) (fun _ e => e) |>.grown ht.grown (fun r e => by cases e; exact .inl rfl)
theorem MP.put {K : Nat} {l : List En} {x : En} {n : Nat} {W W' : World} (h : MP K l W) (ho : W'.ownsMap Tryd.prog 9 kR K n ((dMap En.key En.script l).put (.string (bl x.key)) (.lit (.string (bl x.script))))) : MP K (wth En.key l x) W' := by
  have h1 := map_tight ho
  rw [put_ent x h.2, size_ent] at h1
  exact ⟨h1, h.2.wth x⟩
set_option maxRecDepth 100000 in
theorem put_any (K : Nat) (l : List En) (key s : ByteArray) (w : World) (h : CA C D M ds ns w) (hm : MP K l w) (hk : key.size ≤ maxLen) (hd : ds.length ≤ 100000000) (hn : ns.length ≤ 100000000) (hl : l.length ≤ 100000000) (hs : s.size ≤ 9223372036854775807) :
    Calls Tryd.prog 44 #[.pointer (some ⟨C, 0, none⟩), .map (some K), .string key, .string s] w fun e w' =>
      (e = .returned (.int .i64 3) ∧ putOk l (ds.length + ns.length) key s = false ∧ Below w.heap.size w w') ∨
      (e = .returned (.int .i64 0) ∧ putOk l (ds.length + ns.length) key s = true ∧ MP K (wth En.key l ⟨key, s⟩) w' ∧ KeepT (fun b => b = K) w w') := by
  have hlo := hm.look key hk
  have HM := Lib.hid hm
  have HKO := Lib.hid (key_of hk)
  have HCN := Lib.hid (fun W (hb : Below w.heap.size w W) => count_any W (h.below hb) hd hn)
  have HPO : Hid (putOk l (ds.length + ns.length) key s = (decide (s.size ≤ 1048576) && (hasK l key || decide (ds.length + ns.length < 65536)))) := Lib.hid rfl
  obtain ⟨hb, hhb⟩ : ∃ hb, hasK l key = hb := ⟨_, rfl⟩
  obtain ⟨sc, hsc⟩ : ∃ sc, scr l key = sc := ⟨_, rfl⟩
  rw [hhb] at HPO hlo
  rw [hsc] at hlo
  obtain ⟨tot, htot⟩ : ∃ t, ds.length + ns.length = t := ⟨_, rfl⟩
  have htl : tot ≤ 200000000 := by omega
  rw [htot] at HCN HPO ⊢
  generalize putOk l tot key s = P at *
  clear h hm hhb hsc htot hk
  have HW1 := Lib.hid (below_new w (.cells #[.string sc] 72))
  by_cases h1 : 1048576 < s.size
  · have d1 : decide (1048576 < s.size) = true := decide_eq_true h1
    have d2 : decide ((1048576 : Int) < (s.size : Int)) = true := decide_eq_true (by omega)
    have HY : Hid (P = false) := Lib.hid (by rw [HPO.out, decide_eq_false (by omega)]; rfl)
    have HBK := HW1
    clear h1
    go_enter Tryd.func44, Tryd.ntmps44
    go_wp2_with fail
    go_ret
    exact .inl ⟨rfl, HY.out, HBK.out⟩
  have d1 : decide (1048576 < s.size) = false := decide_eq_false h1
  have d2 : decide ((1048576 : Int) < (s.size : Int)) = false := decide_eq_false (by omega)
  have h2 : decide (s.size ≤ 1048576) = true := decide_eq_true (by omega)
  rw [h2, Bool.true_and] at HPO
  clear h1 h2
  cases hb with
  | true =>
    have HY : Hid (P = true) := Lib.hid (by rw [HPO.out]; rfl)
    have HBK := HW1
    have HMX := Lib.hid (HM.out.keep (W' := w.alloc (.cells #[.string sc] 72)) (HW1.out.block _ HM.out.lt))
    go_enter Tryd.func44, Tryd.ntmps44
    go_wp2_with (go_loud (refine wpList_mapUpdate_in _ rfl (.tmp 29) (.tmp 30) (.tmp 32) 63 rfl 9 72 (Maps.string_keyed Tryd.underlying9) Tryd.underlying63 kR K _ _ rfl HMX.out.1 (by simp only [maxLen]; omega) (.string key) (.agg #[.string s]) (.string (bl key)) rfl rfl HKO.out (.lit (.string (bl s))) [] rfl ?_; intro w7 hown1 hturn1; have HT7 := Lib.hid (KeepT.turned HBK.out hturn1); have HM7 := Lib.hid (MP.put (x := ⟨key, s⟩) HMX.out hown1); clear hown1 hturn1))
    go_ret
    exact .inr ⟨rfl, HY.out, HM7.out, HT7.out⟩
  | false =>
    by_cases h3 : 65536 ≤ tot
    · have d3 : decide (65536 ≤ tot) = true := decide_eq_true h3
      have d4 : decide ((65536 : Int) ≤ (tot : Int)) = true := decide_eq_true (by omega)
      have HY : Hid (P = false) := Lib.hid (by rw [HPO.out, decide_eq_false (by omega)]; rfl)
      clear h3
      go_enter Tryd.func44, Tryd.ntmps44
      go_wp2_with fail
      refine (HCN.out _ HW1.out).mono ?_
      rintro e w2 ⟨rfl, q, rfl⟩
      have HBK := Lib.hid (below_any q HW1.out)
      go_wp2_with fail
      go_ret
      exact .inl ⟨rfl, HY.out, HBK.out⟩
    · have d3 : decide (65536 ≤ tot) = false := decide_eq_false h3
      have d4 : decide ((65536 : Int) ≤ (tot : Int)) = false := decide_eq_false (by omega)
      have HY : Hid (P = true) := Lib.hid (by rw [HPO.out, decide_eq_true (by omega)]; rfl)
      clear h3
      go_enter Tryd.func44, Tryd.ntmps44
      go_wp2_with fail
      refine (HCN.out _ HW1.out).mono ?_
      rintro e w2 ⟨rfl, q, rfl⟩
      have HBK := Lib.hid (below_any q HW1.out)
      have HMX := Lib.hid (HM.out.keep (W' := (w.alloc (.cells #[.string sc] 72)).drewN q) (HW1.out.block _ HM.out.lt))
      go_wp2_with (go_loud (refine wpList_mapUpdate_in _ rfl (.tmp 29) (.tmp 30) (.tmp 32) 63 rfl 9 72 (Maps.string_keyed Tryd.underlying9) Tryd.underlying63 kR K _ _ rfl HMX.out.1 (by simp only [maxLen]; omega) (.string key) (.agg #[.string s]) (.string (bl key)) rfl rfl HKO.out (.lit (.string (bl s))) [] rfl ?_; intro w7 hown1 hturn1; have HT7 := Lib.hid (KeepT.turned HBK.out hturn1); have HM7 := Lib.hid (MP.put (x := ⟨key, s⟩) HMX.out hown1); clear hown1 hturn1))
      go_ret
      exact .inr ⟨rfl, HY.out, HM7.out, HT7.out⟩
end
end Go.Proofs.YtpomaabkgbaikaaDoor
