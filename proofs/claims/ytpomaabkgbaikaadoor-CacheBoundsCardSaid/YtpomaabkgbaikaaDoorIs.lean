/- Has a cache just these? -/
import Derived.Test.YtpomaabkgbaikaaDoorAlx
import Derived.Test.YtpomaabkgbaikaaDoorWk
namespace Go.Proofs.YtpomaabkgbaikaaDoor
open Go Go.RowKit
section
variable {C D M : Nat} {ds ns : List En}
theorem cell2 {W : World} {b : Nat} {u v : Value} {t : TypeId} (h : W.heap[b]? = some (.cells #[u, v] t (0, 0))) : W.cell? ⟨b, 0, none⟩ = some u ∧ W.cell? ⟨b, 1, none⟩ = some v := by
  refine ⟨?_, ?_⟩ <;> (simp only [World.cell?, h]; rfl)
theorem hasK_mem {l : List En} (h : Rising En.key l) {p : En} (hp : p ∈ l) : hasK l p.key = true := by
  unfold hasK
  rw [fnd_eq h hp]
  rfl
theorem cmp_same (k s : ByteArray) (W : World) : (binOp BinOp.neq 49 (.agg #[.string k, .string s]) (.agg #[.string k, .string s])).run Tryd.prog W = .ok (.bool false) W := by
  have h1 := bytes_eq k
  have h2 := bytes_eq s
  simp [go_sem, h1, h2]
set_option maxRecDepth 100000 in
set_option maxHeartbeats 8000000 in
theorem is_any (v1 v2 : Value) (w : World) (h : CA C D M ds ns w) (r1 : RE w v1 ds) (r2 : RE w v2 ns) (hd : ds.length ≤ 100000) (hn : ns.length ≤ 100000) (hkd : ∀ e ∈ ds, e.key.size ≤ maxLen) (hkn : ∀ e ∈ ns, e.key.size ≤ maxLen) :
    Calls Tryd.prog 16 #[.pointer (some ⟨C, 0, none⟩), .agg #[v1, v2]] w fun e w' => e = .returned (.bool true) ∧ Below w.heap.size w w' := by
  have hb0 := below_new w (.cells #[v1, v2] 30)
  have hn0 := heap_alloc_new w (.cells #[v1, v2] 30)
  have HC := Lib.hid (h.below hb0)
  have HR1 := Lib.hid (r1.below hb0)
  have HR2 := Lib.hid (r2.below hb0)
  have HKD := Lib.hid hkd
  have HKN := Lib.hid hkn
  clear h r1 r2 hkd hkn
  go_enter Tryd.func16, Tryd.ntmps16
  go_upto_region 1 with (fail)
  have HB0 := Lib.hid hb0
  have HN0 := Lib.hid hn0
  clear hb0 hn0
  generalize w.alloc (.cells #[v1, v2] 30) = W0 at *
  go_wp2_with fail
  refine (allx_any W0 HC.out hd HKD.out).mono ?_
  rintro e w1 ⟨v, rfl, hoe⟩
  obtain ⟨A5, c5, rfl, -, -, -, -, hr5⟩ := own_rdE hoe.own
  have HB1 := Lib.hid hoe.bel
  have HR5 := Lib.hid hr5
  clear hoe hr5
  go_wp2_with fail
  refine (names_any w1 (HC.out.below HB1.out) (by omega)).mono ?_
  rintro e w2 ⟨A6, c6, rfl, hr6, hb2⟩
  have HB2 := Lib.hid (HB1.out.trans (hb2.mono HB1.out.size))
  have HRd5 := Lib.hid (HR5.out.below hb2)
  have HR6 := Lib.hid hr6
  have HC2 := Lib.hid (HC.out.below HB2.out)
  have HQ1 := Lib.hid (HR1.out.below HB2.out)
  have HQ2 := Lib.hid (HR2.out.below HB2.out)
  have HN2 := Lib.hid ((HB2.out.block _ (Array.getElem?_eq_some_iff.1 HN0.out).1).trans HN0.out)
  have HBW := Lib.hid (HB0.out.trans (HB2.out.mono HB0.out.size))
  clear hr6 hb2 HB1 HR5 HC HR1 HR2 HN0 HB0 HB2
  obtain ⟨B1, e1, hv1, -, -, hq1⟩ := HQ1.out
  obtain ⟨B2, e2, hv2, -, -, hq2⟩ := HQ2.out
  subst hv1
  subst hv2
  have HP1 := Lib.hid hq1
  have HP2 := Lib.hid hq2
  clear hq1 hq2 HQ1 HQ2
  have z0 : w2.cell? ⟨w.heap.size, 0, none⟩ = some (.slice B1 ds.length e1) := by simp only [World.cell?, HN2.out]; rfl
  have z1 : w2.cell? ⟨w.heap.size, 1, none⟩ = some (.slice B2 ns.length e2) := by simp only [World.cell?, HN2.out]; rfl
  have hlen : (IntKind.i64.wrap (↑ds.length + ↑ns.length)) = ((ds.length + ns.length : Nat) : Int) := by
    rw [IntWalk.i64_in _ (by omega)]; omega
  have HLN := Lib.hid (len_any w2 HC2.out (by omega) (by omega))
  go_wp2_with fail
  refine HLN.out.mono ?_
  rintro e w3 ⟨rfl, q, rfl⟩
  have hb3 : Below w2.heap.size w2 (w2.drewN q) := below_any q (Below.refl _ _)
  have HB3 := Lib.hid hb3
  clear HLN hb3
  go_wp2_with fail
  clear hlen z0 z1
  generalize w2.drewN q = w3 at *
  go_loopw [7] (fun i wr => ∃ k : Nat, k ≤ ds.length ∧ i = .int .i64 k ∧ Hid (Below w2.heap.size w2 wr)) (fun i _ => ds.length - (intOf i).toNat)
  case atStart => exact ⟨0, Nat.zero_le _, rfl, HB3⟩
  case round =>
    clear HB3
    obtain ⟨k, hk, rfl, HB⟩ := hrel
    by_cases hlt : k < ds.length
    rotate_left
    · have d1 : decide (k < ds.length) = false := decide_eq_false hlt
      go_wp2_with fail
      go_loopw [10] (fun i wr => ∃ k : Nat, k ≤ ns.length ∧ i = .int .i64 k ∧ Hid (Below w2.heap.size w2 wr)) (fun i _ => ns.length - (intOf i).toNat)
      case atStart => exact ⟨0, Nat.zero_le _, rfl, HB⟩
      case round =>
        clear HB hlt d1 hk
        obtain ⟨k, hk, rfl, HB⟩ := hrel
        by_cases hlt : k < ns.length
        rotate_left
        · have d1 : decide (k < ns.length) = false := decide_eq_false hlt
          go_wp2_with fail
          go_ret
          exact ⟨rfl, HBW.out.trans (HB.out.mono HBW.out.size)⟩
        have d1 : decide (k < ns.length) = true := decide_eq_true hlt
        have hk0 : (0 : Int) ≤ (k : Int) := by omega
        have hkl : (k : Int) < (ns.length : Int) := by omega
        obtain ⟨p, hp⟩ : ∃ p, ns[k] = p := ⟨_, rfl⟩
        have hmem : p ∈ ns := by rw [← hp]; exact List.getElem_mem hlt
        obtain ⟨b, off, hA, hbb, x0⟩ := rdS_at (HR6.out.below HB.out) (k := k) (by rw [List.length_map]; exact hlt)
        obtain ⟨b', off', hA', hbb', y0, y1⟩ := (HP2.out.below HB.out).at hlt
        rw [List.getElem_map, hp] at x0
        rw [hp] at y0 y1
        subst hA
        subst hA'
        have HG := Lib.hid (namedc_any p.key wr (HC2.out.below HB.out) (HKN.out p hmem))
        have HSC : Hid (scr ns p.key = p.script ∧ hasK ns p.key = true) := Lib.hid ⟨scr_mem HC2.out.nam.2 hmem, hasK_mem HC2.out.nam.2 hmem⟩
        rw [HSC.out.1, HSC.out.2] at HG
        have HX := Lib.hid (fun w5 (hb : Below wr.heap.size wr w5) => (⟨(hb.cell (p := ⟨b, off + k, none⟩) hbb).trans x0, (hb.cell (p := ⟨b', off' + k * 2, none⟩) hbb').trans y0, (hb.cell (p := ⟨b', off' + k * 2 + 1, none⟩) hbb').trans y1⟩ : w5.cell? ⟨b, off + k, none⟩ = some (.string p.key) ∧ w5.cell? ⟨b', off' + k * 2, none⟩ = some (.string p.key) ∧ w5.cell? ⟨b', off' + k * 2 + 1, none⟩ = some (.string p.script)))
        have hbox := (HB.out.block _ (Array.getElem?_eq_some_iff.1 HN2.out).1).trans HN2.out
        have HBX := Lib.hid (fun w5 (hb : Below wr.heap.size wr w5) => cell2 ((hb.block _ (Array.getElem?_eq_some_iff.1 hbox).1).trans hbox))
        clear hbox hp hmem hbb hbb'
        go_wp2_with fail
        refine HG.out.mono ?_
        rintro e w5 ⟨rfl, hb5⟩
        have HBW5 := Lib.hid (HB.out.trans (hb5.mono HB.out.size))
        obtain ⟨x0', y0', y1'⟩ := HX.out _ hb5
        have z0' := (HBX.out _ hb5).2
        clear hb5 x0 y0 y1 HX HBX HG HB
        have hsm := bytes_eq p.script
        have hkm := bytes_eq p.key
        go_wp2_with fail
        go_quiet (fail)
        generalize nq = q1
        have HB6 := Lib.hid (below_any q1 HBW5.out)
        clear HBW5 x0' y0' y1' z0'
        generalize w5.drewN q1 = w6 at *
        go_wp2_with fail
        go_roundw
        case rel => exact ⟨k + 1, by omega, by go_num, HB6⟩
        case measure => simp [intOf]; omega
    have d1 : decide (k < ds.length) = true := decide_eq_true hlt
    have hk0 : (0 : Int) ≤ (k : Int) := by omega
    have hkl : (k : Int) < (ds.length : Int) := by omega
    obtain ⟨p, hp⟩ : ∃ p, ds[k] = p := ⟨_, rfl⟩
    have hmem : p ∈ ds := by rw [← hp]; exact List.getElem_mem hlt
    obtain ⟨b, off, hA, hbb, x0, x1⟩ := (HRd5.out.below HB.out).at hlt
    obtain ⟨b', off', hA', hbb', y0, y1⟩ := (HP1.out.below HB.out).at hlt
    rw [hp] at x0 x1 y0 y1
    subst hA
    subst hA'
    have HG := Lib.hid (getc_any p.key wr (HC2.out.below HB.out) (HKD.out p hmem))
    have HSC : Hid (scr ds p.key = p.script ∧ hasK ds p.key = true) := Lib.hid ⟨scr_mem HC2.out.dig.2 hmem, hasK_mem HC2.out.dig.2 hmem⟩
    rw [HSC.out.1, HSC.out.2] at HG
    have HX := Lib.hid (fun w5 (hb : Below wr.heap.size wr w5) => (⟨(hb.cell (p := ⟨b, off + k * 2, none⟩) hbb).trans x0, (hb.cell (p := ⟨b, off + k * 2 + 1, none⟩) hbb).trans x1, (hb.cell (p := ⟨b', off' + k * 2, none⟩) hbb').trans y0, (hb.cell (p := ⟨b', off' + k * 2 + 1, none⟩) hbb').trans y1⟩ : w5.cell? ⟨b, off + k * 2, none⟩ = some (.string p.key) ∧ w5.cell? ⟨b, off + k * 2 + 1, none⟩ = some (.string p.script) ∧ w5.cell? ⟨b', off' + k * 2, none⟩ = some (.string p.key) ∧ w5.cell? ⟨b', off' + k * 2 + 1, none⟩ = some (.string p.script)))
    have hbox := (HB.out.block _ (Array.getElem?_eq_some_iff.1 HN2.out).1).trans HN2.out
    have HBX := Lib.hid (fun w5 (hb : Below wr.heap.size wr w5) => cell2 ((hb.block _ (Array.getElem?_eq_some_iff.1 hbox).1).trans hbox))
    clear hbox
    clear hp hmem hbb hbb'
    go_wp2_with fail
    refine HG.out.mono ?_
    rintro e w5 ⟨rfl, hb5⟩
    have HBW5 := Lib.hid (HB.out.trans (hb5.mono HB.out.size))
    obtain ⟨x0', x1', y0', y1'⟩ := HX.out _ hb5
    have z0' := (HBX.out _ hb5).1
    clear hb5 x0 x1 y0 y1 HX HBX HG HB
    have hsm := bytes_eq p.script
    have hkm := bytes_eq p.key
    have hcm := fun W => cmp_same p.key p.script W
    go_wp2_with fail
    go_quiet (fail)
    generalize nq = q1
    have HB6 := Lib.hid (below_any q1 HBW5.out)
    clear HBW5 x0' x1' y0' y1' z0' hcm
    generalize w5.drewN q1 = w6 at *
    go_wp2_with fail
    go_roundw
    case rel => exact ⟨k + 1, by omega, by go_num, HB6⟩
    case measure => simp [intOf]; omega
end
end Go.Proofs.YtpomaabkgbaikaaDoor
