/- Proved here: 'taborlaw03.FramesScan' returns true for every slice of bytes, which reads behind the call as it read before. Conditions: those of the given card (the listed table holds what the program's text lays; nothing else). -/
import Derived.Test.YthbhbjfmlmgeeaaDoorFrame
import Derived.Test.YthbhbjfmlmgeeaaDoorMut
namespace Go.Proofs.YthbhbjfmlmgeeaaDoor.framesScan
open Go Go.RowKit Go.ChangeShapes Go.WideShapes Go.ChangeAt
open Go.ChangeMaps (open_string shut_string)

set_option maxHeartbeats 8000000 in
set_option maxRecDepth 100000 in
theorem walk (A : Option Addr) (n c : Nat) (l : List UInt8) (w : World) (hn : l.length = n) (hnc : n ≤ c) (bn : n ≤ 9223372036854775807) (hA : A = none → c = 0) (hr : Rd w A l) (hg : Tabs w) (h0 : 0 < w.heap.size) :
    Calls Tryd.prog 5 #[.slice A n c] w fun e w' => e = .returned (.bool true) ∧ Below w.heap.size w w' := by
  have HN := Lib.hid hn
  have HA := Lib.hid hA
  have HR := Lib.hid hr
  have HG := Lib.hid hg
  by_cases hb : 3000 < n
  · have HW := Lib.hid (works_any w hg h0)
    clear hn hA hr hg
    go_enter Tryd.func5, Tryd.ntmps5
    go_wp2_with fail
    refine HW.out.mono ?_
    rintro e w2 ⟨rfl, hb2⟩
    go_wp2
    go_ret
    exact ⟨rfl, hb2⟩
  have bn' : n ≤ 3000 := by omega
  clear hn hA hr hg hb bn
  go_enter Tryd.func5, Tryd.ntmps5
  go_wp2_with (first
    | (at_builtin; refine wpList_bytes rfl (.tmp 16) (.tmp 17) rfl w.heap.size _ [] rfl (own_empty w 5 w.heap.size (Nat.le_refl _)) A n c l HN.out rfl (HR.out.below (below_new w _)) HA.out hnc (by simp; omega) (by simp) ?_; intro v5 w5 ho5 hb5 hs5; have HB5 := Lib.hid ((below_new w (.cells #[] 5)).trans hb5); have hs5' := HB5.out.size; have HO5 := Lib.hid ho5; clear ho5 hb5 hs5)
    | (at_builtin; refine wpList_bytes rfl (.tmp 18) (.tmp 19) rfl w.heap.size v5 _ rfl (HO5.out.below (below_new w5 _)) (some ⟨w5.heap.size, 0, none⟩) 1 1 [77] rfl rfl (new_rdB w5 [77]) (fun h => by cases h) (Nat.le_refl _) (by rw [List.nil_append, HN.out]; omega) (by simp; omega) ?_; intro v7 w7 ho7 hb7 hs7; obtain ⟨g, off, c7, hv7, hc7, hgl, hgb, hr7, hcell7⟩ := copy_form ho7 HN.out; subst hv7; have HR7 := Lib.hid hr7; have HC7 := Lib.hid hcell7; have HB7 := Lib.hid ((HB5.out.trans ((below_new w5 (.cells (cellsB [77]).toArray 5)).mono hs5')).trans hb7); clear ho7 hb7 hs7 hr7 hcell7)
    | (refine wpList_up (by rfl) (.tmp 20) (.tmp 22) rfl (some ⟨g, off, none⟩) (n + 1) c7 rfl n rfl (by omega) ?_))
  have hs7 := HB7.out.size
  refine (scan_any (some ⟨g, off, none⟩) n c7 l w7 HN.out (by omega) (by omega) (fun h => by cases h) HR7.out (HG.out.below h0 HB7.out) (Nat.lt_of_lt_of_le h0 hs7)).mono ?_
  intro e w8 hscan
  obtain ⟨v8, xs, rfl, hx8, ho8, hi8, hb8⟩ := hscan
  obtain ⟨K, hK⟩ : ∃ K, K = (scanL l).2 := ⟨_, rfl⟩
  rw [← hK]
  have HK := Lib.hid hK
  have HB8 := Lib.hid (HB7.out.trans (hb8.mono hs7))
  have HX8 := Lib.hid hx8
  have HO8 := Lib.hid ho8
  have HI8 := Lib.hid hi8
  have HB78 := Lib.hid hb8
  have HR78 := Lib.hid (HR7.out.below hb8)
  have HC8 := Lib.hid ((hb8.cell (p := ⟨g, off + n, none⟩) hgl).trans HC7.out)
  have hs8 := hb8.size
  clear hK hx8 ho8 hi8 hb8
  go_wp2_with fail
  refine (scan_any (some ⟨g, off, none⟩) n c7 l w8 HN.out (by omega) (by omega) (fun h => by cases h) HR78.out (HG.out.below h0 HB8.out) (Nat.lt_of_lt_of_le h0 HB8.out.size)).mono ?_
  intro e w9 hscan
  obtain ⟨v9, ys, rfl, hx9, ho9, hi9, hb9⟩ := hscan
  rw [← HK.out]
  have HB9 := Lib.hid (HB8.out.trans (hb9.mono HB8.out.size))
  have HX9 := Lib.hid hx9
  have HO9 := Lib.hid ho9
  have HI9 := Lib.hid hi9
  have HB89 := Lib.hid hb9
  have HR79 := Lib.hid (HR78.out.below hb9)
  have HC9 := Lib.hid ((hb9.cell (p := ⟨g, off + n, none⟩) (Nat.lt_of_lt_of_le hgl hs8)).trans HC8.out)
  have hs9 := hb9.size
  clear hx9 ho9 hi9 hb9 HR78 HC8 HR7 HC7
  go_wp2_with fail
  refine (rscan_any A n c l w9 HN.out hnc (by omega) HA.out (HR.out.below HB9.out)).mono ?_
  intro e w10 hscan
  obtain ⟨v10, zs, rfl, hx10, ho10, hi10, hb10⟩ := hscan
  rw [← HK.out]
  have HB10 := Lib.hid (HB9.out.trans (hb10.mono HB9.out.size))
  have HX10 := Lib.hid hx10
  have HO10 := Lib.hid ho10
  have HI10 := Lib.hid hi10
  have HB810 := Lib.hid (HB89.out.trans (hb10.mono hs9))
  have HO9b := Lib.hid (own_below HO9.out hb10)
  have HI9b : Hid (∀ y ∈ ys, itemOk w8.heap.size y w10) := Lib.hid fun y hy => own_below (HI9.out y hy) hb10
  have HR710 := Lib.hid (HR79.out.below hb10)
  have HC10 := Lib.hid ((hb10.cell (p := ⟨g, off + n, none⟩) (Nat.lt_of_lt_of_le hgl (Nat.le_trans hs8 hs9))).trans HC9.out)
  have hs10 := hb10.size
  clear hx10 ho10 hi10 hb10 HR79 HC9 HB89 HO9 HI9
  -- the rows' forms
  obtain ⟨A8, N, c8, hv8, hN8, bN, hat⟩ := rows_at HO8.out
  obtain ⟨Az, nz, cz, rz, hvz, hlz, hnz, bz, hrz, hez⟩ := rows_items HO10.out HI10.out
  obtain ⟨Ax, nx, cx, rx, hvx, hlx, hnx, bx, hrx, hex⟩ := rows_items (own_below HO8.out HB810.out) (fun x hx => own_below (HI8.out x hx) HB810.out)
  subst hvz
  have hvv := hvx.symm.trans hv8
  obtain ⟨rfl, rfl, rfl⟩ : Ax = A8 ∧ nx = N ∧ cx = c8 := by simpa using hvv
  subst hv8
  have HE1 : Hid (eqR (lsOf rx) (lsOf rz) = true) := Lib.hid (by rw [hex, hez, scanned_same HX8.out HX10.out]; simp [eqR])
  have HAT := Lib.hid hat
  have HRZ := Lib.hid hrz
  have HRX := Lib.hid hrx
  have HLX := Lib.hid hlx
  have HLZ := Lib.hid hlz
  have HEZ := Lib.hid hez
  have HNX := Lib.hid hN8
  clear hat hrz hrx hlx hlz hez hex hN8 hnx hnz hvx hvv
  go_wp2_with fail
  refine (rsame_any Ax Az nx nz cx cz rx rz w10 HLX.out HLZ.out bx bz HRX.out HRZ.out).mono ?_
  rintro e w11 ⟨he, q11, rfl⟩
  rw [HE1.out] at he
  subst he
  have hb11 := below_any q11 (Below.refl w10.heap.size w10)
  have HB11 := Lib.hid (HB10.out.trans (hb11.mono HB10.out.size))
  have HB811 := Lib.hid (HB810.out.trans (hb11.mono (Nat.le_trans hs9 hs10)))
  have HO9c := Lib.hid (own_below HO9b.out hb11)
  have HI9c : Hid (∀ y ∈ ys, itemOk w8.heap.size y (w10.drewN q11)) := Lib.hid fun y hy => own_below (HI9b.out y hy) hb11
  have HO10c := Lib.hid (own_below HO10.out hb11)
  have HI10c : Hid (∀ y ∈ zs, itemOk w9.heap.size y (w10.drewN q11)) := Lib.hid fun y hy => own_below (HI10.out y hy) hb11
  have hconv1 := conv_n HN.out (fun h => by cases h) (show n ≤ c7 by omega) (HR710.out.below hb11)
  have hconv2 := conv_n HN.out HA.out hnc (HR.out.below HB11.out)
  have hcell := (show (w10.drewN q11).cell? ⟨g, off + n, none⟩ = _ from HC10.out)
  have hs11 := hb11.size
  generalize w10.drewN q11 = w11 at *
  clear hb11 HR710 HC10 HO9b HI9b HO10 HI10 HB10 HB810 HRZ HRX
  have hn1 : (n : Int) < (n : Int) + 1 := by omega
  go_wp2_with (refine wpList_up (by rfl) (.tmp 56) (.tmp 59) rfl (some ⟨g, off, none⟩) n c7 rfl (n + 1) rfl hc7 ?_)
  clear hconv1 hconv2 hcell
  obtain ⟨g8, cs8, hg8⟩ : ∃ g8 cs8, 0 < nx → Ax = some ⟨g8, 0, none⟩ ∧ w7.heap.size ≤ g8 ∧ g8 < w8.heap.size ∧ w8.heap[g8]? = some (.cells cs8 22 (0, 0)) ∧ ∀ j x, xs[j]? = some x → w8.cell? ⟨g8, j, none⟩ = some x.v := by
    by_cases h0x : 0 < nx
    · obtain ⟨g8, cs8, h⟩ := HAT.out h0x
      exact ⟨g8, cs8, fun _ => h⟩
    · exact ⟨0, #[], fun h => absurd h h0x⟩
  have HG8 := Lib.hid hg8
  have HM0 := Lib.hid (MutI.start (B := w7.heap.size) (g := g8) (xs := xs) HB7.out HB78.out HB811.out (fun j x hx => (HG8.out (by have := (List.getElem?_eq_some_iff.1 hx).1; have := HNX.out; omega)).2.2.2.2 j x hx) (fun h => (HG8.out (by have := HNX.out; omega)).2.2.1))
  clear hg8 HAT
  go_loopw [10] (fun i W => ∃ j : Nat, j ≤ nx ∧ i = .int .i64 j ∧ Hid (MutI w w8 w11 w7.heap.size g8 xs j W)) (fun i _ => nx - (intOf i).toNat)
  case atStart => exact ⟨0, Nat.zero_le _, rfl, HM0⟩
  case round =>
    obtain ⟨j, hj, rfl, HM⟩ := hrel
    clear HM0
    by_cases hlt : j < nx
    · obtain ⟨rfl, hg7, hg8', HGB, -⟩ := HG8.out (by omega)
      have HGBh := Lib.hid HGB
      have hw8 : w.heap.size ≤ w8.heap.size := by omega
      have hw11 : w.heap.size ≤ w11.heap.size := by omega
      have hg11 : g8 < w11.heap.size := by omega
      have hwg : w.heap.size ≤ g8 := by omega
      clear HGB
      obtain ⟨wo, rfl⟩ : ∃ wo : World, wo = wr := ⟨_, rfl⟩
      obtain ⟨x, hx⟩ : ∃ x, xs[j]? = some x := ⟨_, List.getElem?_eq_getElem (by have := HNX.out; omega)⟩
      have hxm : x ∈ xs := List.mem_of_getElem? hx
      have hxi := HI8.out x hxm
      obtain ⟨A1, c1, n1, hv1, hl1⟩ := item_form hxi
      have hb1 := scanned_len HX8.out hxm
      have HX := Lib.hid hx
      have HV := Lib.hid hv1
      have HL1 := Lib.hid hl1
      have HXI := Lib.hid hxi
      have hcell : wo.cell? ⟨g8, j, none⟩ = some (.slice A1 n1 c1) := by rw [← hv1]; exact HM.out.row j x (Nat.le_refl _) hx
      have hn1b : n1 ≤ 65536 := by omega
      clear hx hv1 hl1 hxi hxm hb1
      have hj0 : (0 : Int) ≤ (j : Int) := by omega
      have hj1 : (j : Int) < (nx : Int) := by omega
      go_wp2
      clear hcell
      go_loopw [11] (fun k W => ∃ q : Nat, q ≤ n1 ∧ k = .int .i64 q ∧ Hid (MutI w w8 w11 w7.heap.size g8 xs j W)) (fun k _ => n1 - (intOf k).toNat)
      case atStart => exact ⟨0, Nat.zero_le _, rfl, HM⟩
      case round =>
        obtain ⟨q, hq, rfl, HMi⟩ := hrel
        clear HM
        have hcell : wr.cell? ⟨g8, j, none⟩ = some (.slice A1 n1 c1) := by rw [← HV.out]; exact HMi.out.row j x (Nat.le_refl _) HX.out
        obtain ⟨ys1, hys, hblk⟩ := mut_item HXI.out HGBh.out HMi.out.shp
        rw [HV.out] at hblk hys
        rw [HL1.out] at hys
        have HBK := Lib.hid hblk
        have HYS := Lib.hid hys
        clear hblk hys
        by_cases hqn : q < n1
        · obtain ⟨g1, u1, rfl, hob, hcu, hfu⟩ := own_at HYS.out hqn
          have HCH := Lib.hid (HMi.out.change (Shp.set wr ⟨g1, q, none⟩ (.string ⟨#[63]⟩) rfl) (some g1) (set_grown' wr g1 q _) (fun k e => by cases e; have h := HBK.out g1 hob; exact ⟨by omega, h.2⟩) hw11 hg11)
          have hq0 : (0 : Int) ≤ (q : Int) := by omega
          have hq1 : (q : Int) < (n1 : Int) := by omega
          clear hob
          go_wp2
          go_roundw
          case rel => exact ⟨q + 1, by omega, by go_num, HCH⟩
          case measure => simp [intOf]; omega
        · obtain rfl : q = n1 := by omega
          have HHA := Lib.hid (HMi.out.alloc hw11 hg11 (.cells #[.string ⟨#[63]⟩] 9))
          have HBL : Hid (∀ k, (Value.slice A1 q c1).ownBlock = some k → w.heap.size ≤ k ∧ k < w8.heap.size ∧ k ≠ g8) := Lib.hid fun k e => by have h := HBK.out k e; exact ⟨by omega, h.2⟩
          have hwr : w7.heap.size ≤ wr.heap.size := by have := HMi.out.big; omega
          go_wp2_with (at_builtin; refine wpList_append_shp rfl (.tmp 93) (.tmp 94) rfl w7.heap.size _ q ys1 rfl (HYS.out.alloc _) ⟨wr.heap.size, 0, none⟩ 1 ⟨#[63]⟩ rfl (new_str wr _) (by omega) (by simp; omega) ?_; intro v' w' ho' hg' hs'; have HMa := Lib.hid (MutI.change HHA.out hs' _ hg' HBL.out hw11 hg11); have hc2 := HMa.out.row j x (Nat.le_refl _) HX.out; have hf2 : w'.frozen? ⟨g8, j, none⟩ = false := HMa.out.shp.free HGBh.out; obtain ⟨A2, c2, hv2, -⟩ := own_rdV ho'; subst hv2; clear ho' hg' hs')
          go_roundw
          case rel => exact ⟨j + 1, by omega, by go_num, Lib.hid (HMa.out.next hwg hg8' hw11 _)⟩
          case measure => simp [intOf]; omega
    · obtain rfl : j = nx := by omega
      obtain ⟨A9, n9, c9, r9, rfl, hl9, -, b9, hr9, he9⟩ := HM.out.items (Nat.le_refl _) HO9c.out HI9c.out
      obtain ⟨A10, n10, c10, r10, hv10, hl10, -, b10, hr10, he10⟩ := HM.out.items hs9 HO10c.out HI10c.out
      obtain ⟨rfl, rfl, rfl⟩ : Az = A10 ∧ nz = n10 ∧ cz = c10 := by simpa using hv10
      have HE2 : Hid (eqR (lsOf r9) (lsOf r10) = true) := Lib.hid (by rw [he9, he10, scanned_same HX9.out HX10.out]; simp [eqR])
      have HL9 := Lib.hid hl9
      have HL10 := Lib.hid hl10
      have HR9 := Lib.hid hr9
      have HR10 := Lib.hid hr10
      have HLW := Lib.hid HM.out.low
      clear hl9 hl10 hr9 hr10 he9 he10 hv10
      go_wp2_with fail
      refine (rsame_any A9 Az n9 nz c9 cz r9 r10 wr HL9.out HL10.out b9 b10 HR9.out HR10.out).mono ?_
      rintro e w12 ⟨he, q12, rfl⟩
      rw [HE2.out] at he
      subst he
      have HB12 := Lib.hid (HLW.out.trans ((below_any q12 (Below.refl wr.heap.size wr)).mono HLW.out.size))
      generalize wr.drewN q12 = w12 at *
      go_wp2_with fail
      refine (works_any w12 (HG.out.below h0 HB12.out) (Nat.lt_of_lt_of_le h0 HB12.out.size)).mono ?_
      rintro e w13 ⟨rfl, hb13⟩
      go_wp2
      go_ret
      exact ⟨rfl, HB12.out.trans (hb13.mono HB12.out.size)⟩


set_option maxRecDepth 20000 in
theorem contract (H : Type) (enc : TypeId × Value → H) (W : World) (base : Nat) (args : Array Value) (ds gs : List (DataW H)) (before : List MemPlace)
    (hval : ∀ (j : Nat) t v, Tryd.f5.params[j]? = some t → args[j]? = some v → Value.okWide Tryd.prog W .any base t v)
    (hW : DataW.Whole enc Tryd.prog Tryd.f5.params.toList Rows.framesScanSpec.vars false W args.toList ds gs before) 
    (hZ : (DataW.weightsEach Tryd.prog (Tryd.f5.params.toList ++ (OpenSpec.ofChange Rows.framesScanSpec).bare.plain.varTypes Tryd.prog) (ds ++ gs)).all (· ≤ reachBytes) = true) (hL : laidMetH Tryd.prog Rows.framesScanRow.laid W) :
    Calls Tryd.prog 5 args W fun e W' => ∃ v, e = .returned v ∧ Rows.framesScanSpec.post enc Tryd.prog Tryd.f5 false true false false W args v W' := by
  have hW' := hW
  obtain ⟨p, q, hA0, hV, rfl, hfz, hnd⟩ := hW
  have hA : DataW.TrodAll enc Tryd.prog W 0 (fun _ => true) true Tryd.f5.params.toList args.toList ds p := hA0
  rw [Tryd.params5] at hA hval hZ
  obtain ⟨v0, vs0, d0, ds0, p0, q0, hargs, rfl, rfl, h0, r0⟩ := trodAll_cons hA
  obtain ⟨rfl, rfl, rfl⟩ := trodAll_nil r0
  obtain rfl : args = #[v0] := by cases args; simp_all
  obtain ⟨rfl, rfl⟩ := trodVars_none hV
  have k0 := h0
  have lt0 : ∀ x ∈ p0, x.block < W.heap.size := by obtain ⟨m, hm⟩ := k0; exact DataW.trod_lt m _ _ _ hm
  obtain ⟨ca0, na0, ea0, rfl⟩ := okWide_slice Tryd.underlying25 (hval 0 25 v0 rfl rfl)
  obtain ⟨fu0, hf0⟩ := h0
  obtain ⟨A0, n0, c0, l0, hv0, hn0, hnc0, hcm0, hO0, hr0⟩ := bytes_of hf0
  cases hv0
  simp only [maxLen] at hcm0
  clear hA0
  refine (walk _ _ _ l0 W hn0 hnc0 (by omega) hO0 hr0 (tabs_of hL) (pos_of hL)).mono fun e W' ⟨he, bel⟩ => ?_
  subst he
  exact ⟨_, rfl, _, _, _, [], _, [], hW', trodAll_mk1 (shut_bool Tryd.underlying4 _), (trodAll_cons_mk (Below.trod laidOut (by kernel_rfl) (of_decide_eq_true (by kernel_rfl)) k0 bel lt0) trodAll_mk0), rfl, bel.frame _, fun h => by cases h⟩

theorem reads (os : Os) {H : Type} (enc : TypeId × Value → H) : ∃ places, DataW.whole enc Tryd.prog ((laidWorld os).forCall (fun _ _ => 0) ⟨#[], #[.slice none 0 0], []⟩).memory Tryd.f5.params.toList Rows.framesScanSpec.vars false (#[.slice none 0 0] : Array Value).toList 8 = some ([.nil], [], places) :=
  ⟨[], by kernel_rfl⟩

set_option maxRecDepth 100000 in
theorem lifted (os : Os) (started : os.Started) (H : Type) (enc : TypeId × Value → H) (F : Stop.Interp) :
    ReturnsInHanded {} Tryd.checked os 5 .any ((OpenSpec.ofChange Rows.framesScanSpec).preRow enc Tryd.prog Tryd.f5 Rows.framesScanRow.domain false Rows.framesScanRow.laid) (((OpenSpec.ofChange Rows.framesScanSpec).at F).post enc Tryd.prog Tryd.f5 false true false false) := by
  obtain ⟨places, hx⟩ := reads os enc
  refine returnsInHanded_of_row (C := Tryd.checked) (s := OpenSpec.ofChange Rows.framesScanSpec) own started (by kernel_rfl) Tryd.func5
    (witness_row_at (enc := enc) (C := Tryd.checked) false (laidWorld os) #[.slice none 0 0] rfl (by kernel_rfl) (by kernel_rfl) (by kernel_rfl)
      (OpenSpec.preRow_of_cond 8 hx (by kernel_rfl) (fun k hk => by cases hk) (by kernel_rfl) (laid_met os _))) ?_
  intro W base args ds gs before hval hW _ _ hZ hL _ _
  exact contract H enc W base args ds gs before hval hW hZ hL

theorem said : Rows.FramesScanSaid :=
  OpenClaim.holds_of_cond 5 Tryd.f5 rfl rfl rfl rfl rfl rfl rfl ⟨rfl, rfl, rfl, rfl, rfl⟩ rfl rfl rfl rfl rfl (by kernel_rfl) Tryd.func5 (by kernel_rfl)
    (of_decide_eq_true (by kernel_rfl)) (by unfold Func.isWrapper; first | (rw [if_pos (by decide +kernel)]; kernel_rfl) | (rw [if_neg (by decide +kernel)]; exact ⟨rfl, rfl⟩))
    (fun os started H enc _ F => by rw [OpenClaim.pre_eq_preRow]; exact lifted os started H enc F)

theorem plain (f : FuncId) (fn : Func) (hf : Tryd.pinned.checked.prog.funcNamed "tabor/taborlaw03.FramesScan" = some f) (hfn : Tryd.pinned.checked.prog.funcs[f]? = some fn) :
    true = Tryd.pinned.checked.prog.looks [] ∧ ∀ (j : Nat) t, fn.params[j]? = some t → Tryd.pinned.checked.prog.wantsStandIn t = false := by
  obtain rfl : f = 5 := Option.some.inj ((show Tryd.prog.funcNamed "tabor/taborlaw03.FramesScan" = some 5 by kernel_rfl).symm.trans hf) |>.symm
  obtain rfl : fn = Tryd.f5 := (Option.some.inj (Tryd.func5.symm.trans hfn)).symm
  refine ⟨by kernel_rfl, fun j t ht => ?_⟩
  rw [Tryd.params5] at ht
  obtain rfl : t = 25 := by simpa using Array.mem_of_getElem? ht
  exact (show Tryd.prog.wantsStandIn 25 = false by kernel_rfl)

/-- The card. -/
theorem card : Rows.FramesScanCardSaid :=
  Claim7.holds_tied_plain_at .later [] _ _ _ _ said (fun _ h => by cases h) (by kernel_rfl) (fun _ h => by cases h) framesScan_row_tie rfl ⟨rfl, rfl⟩ (by kernel_rfl) rfl plain (by kernel_rfl)
#print axioms card
end Go.Proofs.YthbhbjfmlmgeeaaDoor.framesScan
