/- The walk of CacheBounds. -/
import Derived.Test.YtpomaabkgbaikaaDoorFum
import Derived.Test.YtpomaabkgbaikaaDoorNil
import Derived.Laws.OwnMore
import Derived.Laws.IdiomStrings
namespace Go.Proofs.YtpomaabkgbaikaaDoor
open Go Go.RowKit Go.Shelf
attribute [local go_sem] Oper.semAt_some
theorem made_at (z : Value) (S : Nat) {j : Nat} (hj : j < S) : (madeCells #[z] S)[j]? = some z := by
  rw [← Array.getElem?_toList, toList_madeCells_one, List.getElem?_replicate, if_pos hj]
theorem bytes_of (S : Nat) (hS : S ≤ 5000000) : ∃ (O : Obj) (s : ByteArray), s.size = S ∧ (∀ W : World, (Instr.makeSlice 52 (.int .i64 (S : Int)) (.int .i64 (S : Int))).run Tryd.prog W = .ok (.slice (some ⟨W.heap.size, 0, none⟩) S S) (W.alloc O)) ∧
    ∀ W : World, (convert 52 9 (.slice (some ⟨W.heap.size, 0, none⟩) S S)).run Tryd.prog (W.alloc O) = .ok (.string s) (W.alloc O) := by
  refine ⟨.cells (madeCells #[.int .u8 0] S) 5, ⟨(List.replicate S (0 : UInt8)).toArray⟩, by show (List.replicate S (0 : UInt8)).toArray.size = S; simp, fun W => ?_, fun W => ?_⟩
  · obtain ⟨i0, hi, hz0, hz1, hz2⟩ := info_parts u8_info
    have h := run_make (P := Tryd.prog) W 52 5 i0 _ Tryd.underlying52 hi hz0 .i64 .i64 (S : Int) (S : Int) (by omega) (by omega) (by rw [hz2]; omega) (by omega)
    rw [hz1, Nat.mul_one] at h
    exact h
  · have h := run_convert_bytes_back (P := Tryd.prog) (W.alloc (.cells (madeCells #[.int .u8 0] S) 5)) 52 9 5 ⟨W.heap.size, 0, none⟩ S (List.replicate S (0 : UInt8)) Tryd.underlying52 Tryd.underlying5 Tryd.underlying9 (fun j hj => by
      simp at hj
      have h := heap_alloc_new W (.cells (madeCells #[.int .u8 0] S) 5)
      have h2 : (madeCells #[.int .u8 0] S)[j]? = some (.int .u8 0) := made_at _ _ hj
      rw [addoff]
      simp only [World.cell?, h, Nat.zero_add]
      rw [List.getElem_replicate]
      simpa using h2)
    rwa [List.length_replicate] at h
theorem cut_text (s : ByteArray) (hs : s.size = 1048577) : ∃ t : ByteArray, t.size = 1048576 ∧ ∀ W : World, (Instr.slice 9 (.string s) none (some (.int .i64 1048576)) none).run Tryd.prog W = .ok (.string t) W := by
  refine ⟨s.extract 0 1048576, by rw [ByteArray.size_extract]; omega, fun W => ?_⟩
  simp [go_sem, hs]
def nm4 (i : Nat) : ByteArray := ⟨#[UInt8.ofNat (97 + i % 26), UInt8.ofNat (97 + i / 26 % 26), UInt8.ofNat (97 + i / 676 % 26), UInt8.ofNat (97 + i / 17576)]⟩
theorem nm4_add (i : Nat) : nm4 i ++ ⟨#[95]⟩ = nm5 i := by
  apply bl_inj
  simp [nm4, nm5]
theorem nm4_conv {k : Nat} (hk : k < 65535) (W : World) : (convert 52 9 (.slice (some ⟨W.heap.size, 0, none⟩) 4 4)).run Tryd.prog (W.alloc (.cells #[.int .u8 (97 + (k : Int) % 26), .int .u8 (97 + (k : Int) / 26 % 26), .int .u8 (97 + (k : Int) / 676 % 26), .int .u8 (97 + (k : Int) / 17576)] 5)) = .ok (.string (nm4 k)) (W.alloc (.cells #[.int .u8 (97 + (k : Int) % 26), .int .u8 (97 + (k : Int) / 26 % 26), .int .u8 (97 + (k : Int) / 676 % 26), .int .u8 (97 + (k : Int) / 17576)] 5)) := by
  refine run_convert_bytes_back (P := Tryd.prog) _ 52 9 5 ⟨W.heap.size, 0, none⟩ 4 [UInt8.ofNat (97 + k % 26), UInt8.ofNat (97 + k / 26 % 26), UInt8.ofNat (97 + k / 676 % 26), UInt8.ofNat (97 + k / 17576)] Tryd.underlying52 Tryd.underlying5 Tryd.underlying9 (fun j hj => ?_)
  have h := heap_alloc_new W (.cells #[.int .u8 (97 + (k : Int) % 26), .int .u8 (97 + (k : Int) / 26 % 26), .int .u8 (97 + (k : Int) / 676 % 26), .int .u8 (97 + (k : Int) / 17576)] 5)
  rw [addoff]
  simp only [World.cell?, h, Nat.zero_add]
  have q : ∀ {n : Nat} {z : Int}, n < 256 → z = (n : Int) → Value.int .u8 z = Value.int .u8 ((UInt8.ofNat n).toNat : Int) := fun h1 h2 => by rw [u8_of h1, h2]
  match j, hj with
  | 0, _ => exact congrArg some (q (by omega) (by omega))
  | 1, _ => exact congrArg some (q (by omega) (by omega))
  | 2, _ => exact congrArg some (q (by omega) (by omega))
  | 3, _ => exact congrArg some (q (by omega) (by omega))
set_option maxHeartbeats 8000000 in
set_option maxRecDepth 100000 in
theorem bounds_walk (w : World) (hg : DG w) : Calls Tryd.prog 6 #[] w fun e w' => e = .returned (.bool true) ∧ Below w.heap.size w w' := by
  have HG := Lib.hid hg
  have HW := Lib.hid (fun (W : World) (hW : DG W) => works_any W hW)
  have HNW := Lib.hid (fc_new w hg)
  obtain ⟨O, s, hs, hmk, hcv⟩ := bytes_of 1048577 (by omega)
  obtain ⟨t, ht, hct⟩ := cut_text s hs
  have hmk' : ∀ W : World, (Instr.makeSlice 52 (.int .i64 1048577) (.int .i64 1048577)).run Tryd.prog W = .ok (.slice (some ⟨W.heap.size, 0, none⟩) 1048577 1048577) (W.alloc O) := fun W => hmk W
  have HS := Lib.hid hs
  have HTZ := Lib.hid ht
  clear hg hs ht hmk
  go_enter Tryd.func6, Tryd.ntmps6
  go_wp2_with fail
  refine HNW.out.mono ?_
  rintro e w1 ⟨C, D, M, rfl, hfc⟩
  have HC1 := Lib.hid hfc
  clear hfc HNW
  go_wp2_with fail
  generalize hw2 : w1.alloc O = w2 at *
  have hb2 : Below w1.heap.size w1 w2 := by rw [← hw2]; exact below_new w1 O
  have HC2 := Lib.hid (HC1.out.below hb2)
  have hp := fc_put s 0 HC2.out rfl (by omega) (.inr ⟨by rw [HS.out]; omega, by rw [HS.out]; omega⟩)
  have hl := long_put 0 (s := s) (by rw [HS.out]; omega)
  rw [hl.1, hl.2.1, hl.2.2] at hp
  have HP := Lib.hid hp
  clear hp hl hw2 hb2 HC1 hmk' hcv
  refine HP.out.mono ?_
  rintro e w3 ⟨rfl, hfc⟩
  have hq := fc_load aT s 0 hfc rfl (by omega) (by decide) (by rw [HS.out]; omega)
  have hl := load_no (l := []) (t := 0) (s := s) nm_a (.inl (by rw [HS.out]; omega))
  rw [hl.1, hl.2] at hq
  have HQ := Lib.hid hq
  clear hq hl HP HC2 hfc
  go_wp2_with fail
  refine HQ.out.mono ?_
  rintro e w4 ⟨rfl, hfc⟩
  have hq := fc_load aT t 0 hfc rfl (by omega) (by decide) (by rw [HTZ.out]; omega)
  have hl := load_x (l := []) (t := 0) (s := t) nm_a (by rw [HTZ.out]; omega) (.inr (by omega))
  rw [hl.1, hl.2] at hq
  have HQ := Lib.hid hq
  clear hq hl hfc
  go_wp2_with fail
  refine HQ.out.mono ?_
  rintro e w5 ⟨rfl, hfc⟩
  have HC5 := Lib.hid hfc
  clear hfc HQ hct
  go_wp2_with fail
  go_loopw [7] (fun i wr => ∃ (k : Nat) (ns : List En), k ≤ 65535 ∧ i = .int .i64 k ∧ Hid (NS k ns) ∧ Hid (FC w C D M [] ns wr)) (fun i _ => 65535 - (intOf i).toNat)
  case atStart => exact ⟨0, _, by omega, rfl, Lib.hid (NS.first t), HC5⟩
  case round =>
    clear HC5
    obtain ⟨k, ns, hk, rfl, HN, HF⟩ := hrel
    by_cases hlt : k < 65535
    rotate_left
    · have d1 : decide ((k : Int) < 65535) = false := decide_eq_false (by omega)
      have d2 : decide (k < 65535) = false := decide_eq_false hlt
      obtain rfl : k = 65535 := by omega
      have HM := Lib.hid (full_x HN.out HF.out.a.nam.2)
      have HLN := Lib.hid HN.out.len
      have hq := fc_put xT 65536 HF.out (by rw [HLN.out]; rfl) (by omega) (.inl (by decide))
      rw [HM.out.1.1, HM.out.1.2.1, HM.out.1.2.2] at hq
      have HQ := Lib.hid hq
      clear hq HF HN
      go_wp2_with fail
      refine HQ.out.mono ?_
      rintro e w6 ⟨rfl, hfc⟩
      have hq := fc_load bT xT 65536 hfc (by rw [HLN.out]; rfl) (by omega) (by decide) (by decide)
      rw [HM.out.2.1.1, HM.out.2.1.2] at hq
      have HQ := Lib.hid hq
      clear hq hfc
      go_wp2_with fail
      refine HQ.out.mono ?_
      rintro e w7 ⟨rfl, hfc⟩
      have hq := fc_load aT yT 65536 hfc (by rw [HLN.out]; rfl) (by omega) (by decide) (by decide)
      rw [HM.out.2.2.1.1, HM.out.2.2.1.2] at hq
      have HQ := Lib.hid hq
      clear hq hfc
      go_wp2_with fail
      refine HQ.out.mono ?_
      rintro e w8 ⟨rfl, hfc⟩
      have hq := fc_unload aT hfc (by decide)
      rw [HM.out.2.2.2.2.1] at hq
      have HL3 := Lib.hid HM.out.2.2.2.2.2.1
      have HQ := Lib.hid hq
      clear hq hfc
      generalize unL (wth En.key ns ⟨aT, yT⟩) aT = ns3 at *
      go_wp2_with fail
      refine HQ.out.mono ?_
      rintro e w9 ⟨rfl, hfc⟩
      have hq := fc_put xT 65535 hfc (by rw [HL3.out]; rfl) (by omega) (.inl (by decide))
      rw [HM.out.2.2.2.2.2.2.1] at hq
      have HL4 := Lib.hid HM.out.2.2.2.2.2.2.2
      have HQ := Lib.hid hq
      clear hq hfc HM HLN
      generalize pL [] 65535 xT = ds4 at *
      generalize pD [] 65535 xT = d4 at *
      go_wp2_with fail
      refine HQ.out.mono ?_
      rintro e w10 ⟨rfl, hfc⟩
      have hln := len_any w10 hfc.a (by rw [HL4.out]; omega) (by rw [HL3.out]; omega)
      rw [HL4.out, HL3.out, show 1 + 65535 = 65536 from rfl] at hln
      have HLE := Lib.hid hln
      have HF := Lib.hid hfc
      clear hln hfc HQ
      go_wp2_with fail
      refine (put_nil xT _).mono ?_
      rintro e wn ⟨rfl, rfl⟩
      go_wp2_with fail
      refine (get_nil xT _).mono ?_
      rintro e wn ⟨rfl, rfl⟩
      go_wp2_with fail
      refine (flush_nil _).mono ?_
      rintro e wn ⟨rfl, rfl⟩
      go_wp2_with fail
      refine (num_any 3 _).mono ?_
      rintro e w7 ⟨rfl, rfl⟩
      go_wp2_with fail
      refine (num_any 3 _).mono ?_
      rintro e w7 ⟨rfl, rfl⟩
      go_wp2_with fail
      refine (num_any 0 _).mono ?_
      rintro e w7 ⟨rfl, rfl⟩
      go_wp2_with fail
      refine (num_any 3 _).mono ?_
      rintro e w7 ⟨rfl, rfl⟩
      go_wp2_with fail
      refine (num_any 3 _).mono ?_
      rintro e w7 ⟨rfl, rfl⟩
      go_wp2_with fail
      refine (num_any 0 _).mono ?_
      rintro e w7 ⟨rfl, rfl⟩
      go_wp2_with fail
      refine (num_any 0 _).mono ?_
      rintro e w7 ⟨rfl, rfl⟩
      go_wp2_with fail
      refine (num_any 0 _).mono ?_
      rintro e w7 ⟨rfl, rfl⟩
      go_wp2_with fail
      refine HLE.out.mono ?_
      rintro e w11 ⟨rfl, q, hwq⟩
      have HB := Lib.hid (show Below w.heap.size w w11 by rw [hwq]; exact below_any q HF.out.b)
      have HCX := Lib.hid (show CA C D M ds4 ns3 w11 by rw [hwq]; exact HF.out.a.below (below_any q (Below.refl _ _)))
      clear HLE HF hwq
      go_wp2_with fail
      refine (num_any 1 _).mono ?_
      rintro e w7 ⟨rfl, rfl⟩
      go_wp2_with fail
      refine (load_nil aT ⟨#[]⟩ _).mono ?_
      rintro e wn ⟨rfl, rfl⟩
      go_wp2_with fail
      refine (num_any 1 _).mono ?_
      rintro e w7 ⟨rfl, rfl⟩
      go_wp2_with fail
      refine (unload_nil aT _).mono ?_
      rintro e wn ⟨rfl, rfl⟩
      go_wp2_with fail
      refine (num_any 1 _).mono ?_
      rintro e w7 ⟨rfl, rfl⟩
      go_wp2_with fail
      refine (copy_nil _).mono ?_
      rintro e wn ⟨rfl, rfl⟩
      go_wp2_with fail
      refine (len_nil _).mono ?_
      rintro e wn ⟨rfl, rfl⟩
      go_wp2_with fail
      refine (names_nil _).mono ?_
      rintro e wn ⟨rfl, rfl⟩
      go_wp2_with fail
      refine (allx_nil _).mono ?_
      rintro e w12 ⟨v, rfl, hoe⟩
      obtain ⟨A5, c5, rfl, -, -, -, -, -⟩ := own_rdE hoe.own
      have HB12 := Lib.hid (HB.out.trans (hoe.bel.mono HB.out.size))
      have HC12 := Lib.hid (HCX.out.below hoe.bel)
      clear hoe
      go_wp2_with fail
      refine (same_nil _).mono ?_
      rintro e wn ⟨rfl, rfl⟩
      go_wp2_with fail
      refine (same_nil2 _ HC12.out).mono ?_
      rintro e wn ⟨rfl, rfl⟩
      go_wp2_with fail
      refine (HW.out _ (HG.out.below HB12.out)).mono ?_
      rintro e w13 ⟨rfl, hb13⟩
      have HB13 := Lib.hid (HB12.out.trans (hb13.mono HB12.out.size))
      clear hb13
      go_wp2_with fail
      go_ret
      exact ⟨rfl, HB13.out⟩
    have d1 : decide ((k : Int) < 65535) = true := decide_eq_true (by omega)
    have d2 : decide (k < 65535) = true := decide_eq_true hlt
    have hcv := nm4_conv hlt wr
    have HAD := Lib.hid (nm4_add k)
    have hz4 : (nm4 k).size = 4 := rfl
    have hb2 := below_new wr (.cells #[.int .u8 (97 + (k : Int) % 26), .int .u8 (97 + (k : Int) / 26 % 26), .int .u8 (97 + (k : Int) / 676 % 26), .int .u8 (97 + (k : Int) / 17576)] 5)
    have hq := fc_load (nm5 k) xT (k + 1) (HF.out.below hb2) (by rw [HN.out.len]; simp) (by omega) (by rw [nm5_size]; decide) (by decide)
    have hl := load_x (l := ns) (t := k + 1) (s := xT) (nm5_nm hlt) (by decide) (.inr (by omega))
    rw [hl.1, hl.2, ← HAD.out] at hq
    have HQ := Lib.hid hq
    have HN2 := Lib.hid (HN.out.next hlt xT)
    rw [← HAD.out] at HN2
    generalize nm4 k = n4 at *
    clear hq hl hb2 HN HF
    go_wp2_with fail
    refine HQ.out.mono ?_
    rintro e w6 ⟨rfl, hfc⟩
    have HF6 := Lib.hid hfc
    clear hfc HQ hcv hz4
    go_wp2_with fail
    refine (num_any 0 w6).mono ?_
    rintro e w7 ⟨rfl, rfl⟩
    go_wp2_with fail
    go_roundw
    case rel => exact ⟨k + 1, _, by omega, by go_num, HN2, HF6⟩
    case measure => simp [intOf]; omega
end Go.Proofs.YtpomaabkgbaikaaDoor
