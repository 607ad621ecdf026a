/- The lists of the frames with which bytes begin, by the reference. -/
import Derived.Test.YthbhbjfmlmgeeaaDoorRRead
import Derived.Test.YthbhbjfmlmgeeaaDoorScan
namespace Go.Proofs.YthbhbjfmlmgeeaaDoor
open Go Go.RowKit
/-- What holds between two rounds. -/
structure Rows2 (w : World) (pre : List Item) (v : Value) (W : World) : Prop where
  own : W.ownsRow w.heap.size 22 1 v pre.length (pre.map Item.v)
  items : ∀ x ∈ pre, itemOk w.heap.size x W
  below : Below w.heap.size w W
theorem rscan_step {w W W3 W4 : World} {pre : List Item} {x : Item} {v v' : Value} (h : Rows2 w pre v W) (hb : Below W.heap.size W W3) (hx : W3.ownsRow W.heap.size 9 1 x.v x.ls.length (cellsS x.ls))
    (ho4 : W4.ownsRow w.heap.size 22 1 v' (pre.length + 1) (pre.map Item.v ++ [x.v])) (hg4 : (W3.alloc (.cells #[x.v] 22)).grownBy W4 v.ownBlock) : Rows2 w (pre ++ [x]) v' W4 := by
  obtain ⟨h1, h2, h3⟩ := h
  have hs := h3.size
  have o3 := own_below h1 hb
  have ne : ∀ y : Item, itemOk w.heap.size y W3 → y.v.ownBlock = none ∨ y.v.ownBlock ≠ v.ownBlock := by
    intro y hy
    rcases hy.2 with ⟨e, _⟩ | ⟨g, cap, cur, e, hb, hgg, _⟩
    · left; rw [e]; rfl
    · right
      rw [e]
      rcases o3.2 with ⟨e2, _⟩ | ⟨g2, cap2, cur2, e2, hb2, hgg2, _⟩
      · rw [e2]; simp [Value.ownBlock]
      · rw [e2]
        simp only [Value.ownBlock, ne_eq, Option.some.injEq]
        rintro rfl
        rw [hgg] at hgg2
        cases hgg2
  refine ⟨?_, fun y hy => ?_, ?_⟩
  · rw [List.length_append, List.map_append]; exact ho4
  · have key : ∀ y : Item, itemOk w.heap.size y W3 → itemOk w.heap.size y W4 := fun y hy => World.ownsRow.kept (w := W3.alloc (.cells #[x.v] 22)) (hy.alloc _) hg4 (ne y hy)
    rcases List.mem_append.1 hy with hy | hy
    · exact key y (own_below (h2 y hy) hb)
    · obtain rfl : y = x := by simpa using hy
      exact key y (own_down hx hs)
  · exact ((h3.trans (hb.mono hs)).alloc (Nat.le_trans hs hb.size) (.cells #[x.v] 22)).grown hg4 (by simp; have := hb.size; omega) (fun k hk => (o3.lt k hk).1)
set_option maxHeartbeats 4000000 in
theorem rscan_any (A : Option Addr) (n c : Nat) (l : List UInt8) (w : World) (hn : l.length = n) (hnc : n ≤ c) (bn : n ≤ 2000000000) (hA : A = none → c = 0) (hr : Rd w A l) :
    Calls Tryd.prog 20 #[.slice A n c] w (ScanEnd w l) := by
  obtain ⟨i0, hi, hz0, hz1, hz2⟩ := info_parts slice_info
  have HN := Lib.hid hn
  have HA := Lib.hid hA
  have HR := Lib.hid hr
  clear hn hA hr
  go_enter Tryd.func20, Tryd.ntmps20
  go_wp2_with fail
  go_loopw [4, 5] (fun v z wr => ∃ (xs : List Item) (a : Nat), z = .int .i64 a ∧ a ≤ n ∧ Hid (scanL l = ((xs.map fun x => bl x.ls) ++ (scanL (l.drop a)).1, a + (scanL (l.drop a)).2)) ∧ Hid (lastAt xs = a) ∧ xs.length ≤ a ∧ Hid (Rows2 w xs v wr)) (fun _ z _ => n - (intOf z).toNat)
  case atStart => exact ⟨[], 0, rfl, Nat.zero_le _, by simp [Hid], rfl, Nat.le_refl _, Lib.hid ⟨World.ownsRow_nil _ _ _ _, (fun x hx => by cases hx), Below.refl _ _⟩⟩
  case round =>
    obtain ⟨xs, a, rfl, ha, HS, HLA, hxa, HI⟩ := hrel
    by_cases hlt : a < n
    · have HRW := Lib.hid (HR.out.below HI.out.below)
      obtain ⟨r, hr⟩ : ∃ r, a + r = n := ⟨n - a, by omega⟩
      have HRR := Lib.hid hr
      have hdl : (l.drop a).length = r := by rw [List.length_drop, HN.out]; omega
      have HDL := Lib.hid hdl
      clear hr hdl
      obtain ⟨q, hq⟩ : ∃ q, q = (readL (l.drop a)).2.1 := ⟨_, rfl⟩
      obtain ⟨ee, hee⟩ : ∃ ee, ee = (readL (l.drop a)).2.2 := ⟨_, rfl⟩
      have HQ := Lib.hid hq
      have HEE := Lib.hid hee
      clear hq hee
      by_cases hz : ee = 0
      · have hz' : (readL (l.drop a)).2.2 = 0 := by rw [← HEE.out]; exact hz
        obtain ⟨_, _, hq1, hq2⟩ := readL_ok' hz'
        rw [← HQ.out] at hq1 hq2
        have hq3 : a + q ≤ n := by have := HDL.out; have := HRR.out; omega
        have hsg := scan_go HS.out hz'
        rw [← HQ.out] at hsg
        have HSG := Lib.hid hsg
        subst hz
        clear hsg hq1 hz'
        go_wp2_with (refine wpList_cut_lo (by rfl) (.tmp 14) (.tmp 15) rfl A n c l HN.out hnc HA.out HRW.out rfl a r rfl HRR.out ?_; intro A' c' hr' hn' hc')
        refine (rread_any A' r c' _ wr HDL.out hc' (by have := HRR.out; omega) hn' hr').mono ?_
        rintro e w2 ⟨v, ls, rfl, hls, hown, hbel⟩
        rw [← HQ.out, ← HEE.out]
        obtain ⟨A2, c2, rfl, _⟩ := own_rdV hown
        have HLS := Lib.hid hls
        have HO := Lib.hid hown
        have HB := Lib.hid hbel
        have hs2 := hbel.size
        clear hr' hn' hc' hls hown hbel
        go_wp2_with (at_builtin; refine wpList_append_own _ rfl (.tmp 23) (.tmp 25) 39 rfl w.heap.size 22 i0 _ 1 24 Tryd.underlying39 hi hz0 hz1 hz2 rfl (by omega) u4 xs.length (xs.map Item.v) rfl ((own_below HI.out.own HB.out).alloc _) ⟨w2.heap.size, 0, none⟩ 1 1 [.slice A2 ls.length c2] rfl rfl (World.news_of_block (cs := #[.slice A2 ls.length c2]) (t := 22) (fr := (0, 0)) (heap_alloc_new w2 _)) (by simp [Value.oneCell']) (by simp only [maxLen]; omega) (by omega) (by simp; have := HI.out.below.size; omega) ?_; intro v7 w7 ho7 hg7 _)
        have H7 := Lib.hid (rscan_step (x := ⟨a + q, .slice A2 ls.length c2, ls⟩) HI.out HB.out HO.out ho7 hg7)
        go_roundw
        case rel =>
          refine ⟨xs ++ [⟨a + q, .slice A2 ls.length c2, ls⟩], a + q, by go_num, hq3, ?_, Lib.hid (lastAt_snoc _ _), by rw [List.length_append]; simp; omega, H7⟩
          show _ = _
          rw [List.map_append, List.map_cons, List.map_nil, ← HLS.out]
          exact HSG.out
        case measure => simp [intOf]; omega
      · have hz' : (readL (l.drop a)).2.2 ≠ 0 := by rw [← HEE.out]; exact hz
        have hsp := scan_stop HS.out hz'
        have HSC : Hid (Scanned l xs) := Lib.hid ⟨by rw [hsp], by rw [hsp]; exact HLA.out⟩
        have HL2 := Lib.hid (show (scanL l).2 = a by rw [hsp])
        have e1 : ((ee : Int) != 0) = true := by simp; omega
        have e2 : (ee != 0) = true := by simp; omega
        clear hsp hz hz'
        go_wp2_with (refine wpList_cut_lo (by rfl) (.tmp 14) (.tmp 15) rfl A n c l HN.out hnc HA.out HRW.out rfl a r rfl HRR.out ?_; intro A' c' hr' hn' hc')
        refine (rread_any A' r c' _ wr HDL.out hc' (by have := HRR.out; omega) hn' hr').mono ?_
        rintro e w2 ⟨v, ls, rfl, hls, hown, hbel⟩
        rw [← HQ.out, ← HEE.out]
        have HB := Lib.hid hbel
        clear hr' hn' hc' hls hown hbel
        go_wp2
        go_ret2
        exact ⟨_, xs, by rw [HL2.out]; rfl, HSC.out, own_below HI.out.own HB.out, fun x hx => own_below (HI.out.items x hx) HB.out, HI.out.below.trans (HB.out.mono HI.out.below.size)⟩
    · obtain rfl : a = n := by omega
      have hd : l.drop a = [] := List.drop_eq_nil_of_le (by rw [HN.out]; exact Nat.le_refl _)
      have hsp := scan_stop HS.out (by rw [hd, readL_nil]; omega)
      have HSC : Hid (Scanned l xs) := Lib.hid ⟨by rw [hsp], by rw [hsp]; exact HLA.out⟩
      have HL2 := Lib.hid (show (scanL l).2 = a by rw [hsp])
      clear hsp hd
      go_wp2
      go_ret2
      exact ⟨_, xs, by rw [HL2.out]; rfl, HSC.out, HI.out.own, HI.out.items, HI.out.below⟩
end Go.Proofs.YthbhbjfmlmgeeaaDoor
