/- The cache's All: two rows that grow, the iterator's function. -/
import Derived.Test.YtpomaabkgbaikaaDoorNa
import Derived.Test.YtpomaabkgbaikaaDoorPl
import Derived.Deep.AppendLies
namespace Go.Proofs.YtpomaabkgbaikaaDoor
open Go Go.RowKit
theorem run_kept (s : ByteArray) (W : World) : (Instr.field 72 (.agg #[.string s]) 0).run Tryd.prog W = .ok (.string s) W := by kernel_rfl
theorem scr_mem {l : List En} (h : Rising En.key l) {p : En} (hp : p ∈ l) : scr l p.key = p.script := by
  unfold scr
  rw [fnd_eq h hp]
/-- Two boxes, each with a row of texts of one's own. -/
structure AL (W1 : World) (b3 b4 : Nat) (W : World) (v3 v4 : Value) (ks ss : List ByteArray) : Prop where
  x3 : W.heap[b3]? = some (.cells #[v3] 60 (0, 0))
  x4 : W.heap[b4]? = some (.cells #[v4] 60 (0, 0))
  o3 : W.ownsRow W1.heap.size 9 1 v3 ks.length (cellsS ks)
  o4 : W.ownsRow W1.heap.size 9 1 v4 ss.length (cellsS ss)
  ne : ∀ b, v3.ownBlock = some b → v4.ownBlock ≠ some b
  kp : KeepT (fun b => b = b3 ∨ b = b4) W1 W
  lt3 : b3 < W1.heap.size
  lt4 : b4 < W1.heap.size
  d : b3 ≠ b4
theorem AL.swap {W1 W : World} {b3 b4 : Nat} {v3 v4 : Value} {ks ss : List ByteArray} (h : AL W1 b3 b4 W v3 v4 ks ss) : AL W1 b4 b3 W v4 v3 ss ks :=
  ⟨h.x4, h.x3, h.o4, h.o3, fun b h1 h2 => h.ne b h2 h1, h.kp.mono (fun b t => t.symm), h.lt4, h.lt3, h.d.symm⟩
theorem AL.below {W1 W W' : World} {b3 b4 : Nat} {v3 v4 : Value} {ks ss : List ByteArray} (h : AL W1 b3 b4 W v3 v4 ks ss) (hb : Below W.heap.size W W') : AL W1 b3 b4 W' v3 v4 ks ss :=
  ⟨(hb.block _ (Array.getElem?_eq_some_iff.1 h.x3).1).trans h.x3, (hb.block _ (Array.getElem?_eq_some_iff.1 h.x4).1).trans h.x4, own_below h.o3 hb, own_below h.o4 hb, h.ne, h.kp.trans (.of_below hb (T := fun b => b = b3 ∨ b = b4)) (fun b t => .inl t), h.lt3, h.lt4, h.d⟩
theorem own_set {W : World} {base b n : Nat} {v u : Value} {xs : List Value} (h : W.ownsRow base 9 1 v n xs) (hb : b < base) : (W.setCell ⟨b, 0, none⟩ u).ownsRow base 9 1 v n xs := by
  refine h.kept (row := some b) ⟨rfl, rfl, rfl, by simp [World.setCell], fun k hk hne => Below.heap_setCell _ ⟨b, 0, none⟩ _ k (fun e => hne (by rw [e]))⟩ ?_
  cases hv : v.ownBlock with
  | none => exact .inl rfl
  | some g =>
    have := (h.lt g hv).1
    exact .inr (fun e => by cases e; omega)
/-- One text more in the first row. -/
theorem AL.push {W1 W Wx W' : World} {b3 b4 : Nat} {v3 v4 : Value} {ks ss : List ByteArray} (h : AL W1 b3 b4 W v3 v4 ks ss) (hx : Below W.heap.size W Wx) {k : ByteArray} {g c n : Nat}
    (ho : W'.ownsRow W1.heap.size 9 1 (.slice (some ⟨g, 0, none⟩) n c) (ks.length + 1) (cellsS ks ++ [.string k])) (hg : Wx.grownBy W' v3.ownBlock) (hn : v3.ownBlock = some g ∨ g = Wx.heap.size) :
    AL W1 b3 b4 (W'.setCell ⟨b3, 0, none⟩ (.slice (some ⟨g, 0, none⟩) n c)) (.slice (some ⟨g, 0, none⟩) n c) v4 (ks ++ [k]) ss := by
  have hx' := h.below hx
  have n3 : some b3 ≠ v3.ownBlock := fun e => by have := (h.o3.lt b3 e.symm).1; have := h.lt3; omega
  have n4 : some b4 ≠ v3.ownBlock := fun e => by have := (h.o3.lt b4 e.symm).1; have := h.lt4; omega
  have y3 := (hg.block b3 (Array.getElem?_eq_some_iff.1 hx'.x3).1 n3).trans hx'.x3
  have y4 := (hg.block b4 (Array.getElem?_eq_some_iff.1 hx'.x4).1 n4).trans hx'.x4
  have z4 : W'.ownsRow W1.heap.size 9 1 v4 ss.length (cellsS ss) := by
    refine hx'.o4.kept hg ?_
    cases hv : v4.ownBlock with
    | none => exact .inl rfl
    | some b => exact .inr (fun e => h.ne b e.symm hv)
  refine ⟨row_put y3, (Below.heap_setCell _ ⟨b3, 0, none⟩ _ b4 h.d.symm).trans y4, ?_, own_set z4 h.lt3, ?_, ?_, h.lt3, h.lt4, h.d⟩
  · have := own_set (u := .slice (some ⟨g, 0, none⟩) n c) ho h.lt3
    rw [List.length_append, cellsS_app]
    exact this
  · intro b hb
    cases hb
    rcases hn with hn | hn
    · exact h.ne _ hn
    · intro e
      have := (hx'.o4.lt _ e).2
      show False
      have h2 : g < Wx.heap.size := this
      omega
  · exact ((hx'.kp.grown (T := fun b => b = b3 ∨ b = b4) hg (fun r e => .inr (h.o3.lt r e).1)).setCell ⟨b3, 0, none⟩ _ (.inl rfl))
theorem AL.mid {W1 W Wx W' : World} {b3 b4 : Nat} {v3 v4 : Value} {ks ss : List ByteArray} (h : AL W1 b3 b4 W v3 v4 ks ss) (hx : Below W.heap.size W Wx) (hg : Wx.grownBy W' v3.ownBlock) : W'.cell? ⟨b3, 0, none⟩ = some v3 ∧ W'.frozen? ⟨b3, 0, none⟩ = false := by
  have hx' := h.below hx
  have n3 : some b3 ≠ v3.ownBlock := fun e => by have := (h.o3.lt b3 e.symm).1; have := h.lt3; omega
  have y3 := (hg.block b3 (Array.getElem?_eq_some_iff.1 hx'.x3).1 n3).trans hx'.x3
  exact ⟨by simp [World.cell?, y3], by simp [World.frozen?, y3]⟩
theorem AL.cell {W1 W : World} {b3 b4 : Nat} {v3 v4 : Value} {ks ss : List ByteArray} (h : AL W1 b3 b4 W v3 v4 ks ss) : W.cell? ⟨b3, 0, none⟩ = some v3 := by simp [World.cell?, h.x3]
theorem AL.size {W1 W : World} {b3 b4 : Nat} {v3 v4 : Value} {ks ss : List ByteArray} (h : AL W1 b3 b4 W v3 v4 ks ss) : W1.heap.size ≤ W.heap.size := h.kp.size
/-- A row of texts that was there stays. -/
theorem AL.row {W1 W : World} {b3 b4 : Nat} {v3 v4 : Value} {ks ss l : List ByteArray} {A : Option Addr} (h : AL W1 b3 b4 W v3 v4 ks ss) (hr : RdV W1 A (cellsS l)) (i3 : W1.heap[b3]? = some (.cells #[.slice none 0 0] 60 (0, 0))) (i4 : W1.heap[b4]? = some (.cells #[.slice none 0 0] 60 (0, 0))) : RdV W A (cellsS l) := fun h0 => by
  obtain ⟨b, off, rfl, hlt, hc⟩ := hr h0
  have h1 := hc 0 h0
  have hs : ∃ s, (cellsS l)[0] = Value.string s := by
    rw [cellsS_len] at h0
    exact ⟨l[0], by simp [cellsS]⟩
  obtain ⟨s, hs⟩ := hs
  rw [hs] at h1
  have key : ∀ b', W1.heap[b']? = some (.cells #[.slice none 0 0] 60 (0, 0)) → b ≠ b' := fun b' hb e => by
    subst e
    simp only [World.cell?, hb] at h1
    match hoff : off + 0 with
    | 0 => rw [hoff] at h1; simp at h1
    | n + 1 => rw [hoff] at h1; simp at h1
  have hb := h.kp.block b hlt (fun t => by rcases t with e | e; exact key _ i3 e; exact key _ i4 e)
  exact ⟨b, off, rfl, Nat.lt_of_lt_of_le hlt h.kp.size, fun j hj => (World.cell?_of_block (w := W1) (w' := W) (a := ⟨b, off + j, none⟩) hb).trans (hc j hj)⟩
section
variable {C D M : Nat} {ds ns : List En}
/-- What All tells. -/
def AllP (w : World) (ds : List En) (e : Ending) (w' : World) : Prop := e = .returned (.func (.func 37) #[] #[.pointer (some ⟨w.heap.size, 0, none⟩), .pointer (some ⟨w.heap.size + 1, 0, none⟩)]) ∧ Below w.heap.size w w' ∧
  ∃ W1 v3 v4, AL W1 w.heap.size (w.heap.size + 1) w' v3 v4 (ds.map En.key) (ds.map En.script)
set_option maxRecDepth 100000 in
set_option maxHeartbeats 8000000 in
theorem all_any (w : World) (h : CA C D M ds ns w) (hmax : ds.length ≤ 1000000) (hky : ∀ e ∈ ds, e.key.size ≤ maxLen) : Calls Tryd.prog 18 #[.pointer (some ⟨C, 0, none⟩)] w (AllP w ds) := by
  have hb1 := below_new w (.cells #[.slice none 0 0] 60)
  have hb2 := below_new (w.alloc (.cells #[.slice none 0 0] 60)) (.cells #[.slice none 0 0] 60)
  have hs1 : (w.alloc (.cells #[.slice none 0 0] 60)).heap.size = w.heap.size + 1 := by simp
  have hbb : Below w.heap.size w ((w.alloc (.cells #[.slice none 0 0] 60)).alloc (.cells #[.slice none 0 0] 60)) := hb1.trans (hb2.mono (by omega))
  have hn1 := heap_alloc_new w (.cells #[.slice none 0 0] 60)
  have hn2 := heap_alloc_new (w.alloc (.cells #[.slice none 0 0] 60)) (.cells #[.slice none 0 0] 60)
  rw [hs1] at hn2
  have hn3 := (hb2.block _ (by omega)).trans hn1
  have hca := h.below hbb
  have HLT := Lib.hid h.lt
  obtain ⟨i0, hi, hz0, hz1, hz2⟩ := info_parts str_info
  clear hn1 hb1 hb2 hs1 h
  go_enter Tryd.func18, Tryd.ntmps18
  go_upto_region 2 with (fail)
  have HB0 := Lib.hid hbb
  generalize (w.alloc (.cells #[.slice none 0 0] 60)).alloc (.cells #[.slice none 0 0] 60) = W0 at *
  have HN := Lib.hid (none_any W0 hca)
  have h1 := hca.cells.1
  have HK := Lib.hid (fun v : World => keys_any (some D) v)
  have HS := Lib.hid (fun q => sorted_mp (W0.drewN q) (hca.dig.keep rfl) (by omega))
  have HC := Lib.hid hca
  have HX := Lib.hid (And.intro hn3 hn2)
  clear hca hbb hn3 hn2
  go_wp2_with fail
  refine HN.out.mono ?_
  rintro e w1 ⟨rfl, rfl⟩
  go_wp2_with fail
  refine (HK.out _).mono ?_
  rintro e w2 ⟨rfl, rfl⟩
  go_wp2_with fail
  refine (HS.out 0).mono ?_
  rintro e w3 ⟨v, rfl, ho, hb⟩
  obtain ⟨A6, c6, rfl, -, -, -, hr⟩ := own_rdV ho
  have hbw : Below W0.heap.size W0 w3 := (below_new W0 _).trans (hb.mono (Nat.le_succ W0.heap.size))
  have hx3 := (hbw.block _ (Array.getElem?_eq_some_iff.1 HX.out.1).1).trans HX.out.1
  have hx4 := (hbw.block _ (Array.getElem?_eq_some_iff.1 HX.out.2).1).trans HX.out.2
  have HAL0 : Hid (AL w3 w.heap.size (w.heap.size + 1) w3 (.slice none 0 0) (.slice none 0 0) [] []) := Lib.hid ⟨hx3, hx4, World.ownsRow_nil _ _ _ _, World.ownsRow_nil _ _ _ _, (fun b e => by cases e), KeepT.refl _ _, (Array.getElem?_eq_some_iff.1 hx3).1, (Array.getElem?_eq_some_iff.1 hx4).1, by omega⟩
  have HX3 := Lib.hid hx3
  have HX4 := Lib.hid hx4
  have HR := Lib.hid hr
  have HC3 := Lib.hid (HC.out.below hbw)
  have HB3 := Lib.hid (HB0.out.trans (hbw.mono HB0.out.size))
  have HKY := Lib.hid hky
  clear ho hb hbw hx3 hx4 hr HC HX HB0 HS HK HN hky h1
  go_wp2_with fail
  go_loopw [18] (fun i wr => ∃ (k : Nat) (v3 v4 : Value), k ≤ ds.length ∧ i = .int .i64 k ∧ Hid (AL w3 w.heap.size (w.heap.size + 1) wr v3 v4 ((ds.take k).map En.key) ((ds.take k).map En.script))) (fun i _ => ds.length - (intOf i).toNat)
  case atStart => exact ⟨0, _, _, Nat.zero_le _, rfl, HAL0⟩
  case round =>
    clear HAL0
    obtain ⟨k, v3, v4, hk, rfl, HAL⟩ := hrel
    by_cases hlt : k < ds.length
    rotate_left
    · have d1 : decide (k < ds.length) = false := decide_eq_false hlt
      have HT := Lib.hid (List.take_of_length_le (l := ds) (i := k) (by omega))
      have hfb : Below w.heap.size w wr := HB3.out.trans (HAL.out.kp.below (fun b t => by rcases t with e | e <;> omega) HB3.out.size)
      have HFB := Lib.hid hfb
      clear hfb
      rw [HT.out] at HAL
      go_wp2_with fail
      go_ret
      exact ⟨rfl, HFB.out, w3, v3, v4, HAL.out⟩
    have d1 : decide (k < ds.length) = true := decide_eq_true hlt
    have hk0 : (0 : Int) ≤ (k : Int) := by omega
    have hkl : (k : Int) < (ds.length : Int) := by omega
    obtain ⟨p, hp⟩ : ∃ p, ds[k] = p := ⟨_, rfl⟩
    have HPK := Lib.hid (HKY.out p (by rw [← hp]; exact List.getElem_mem hlt))
    obtain ⟨b, off, hA, -, x0⟩ := rdS_at (HAL.out.row HR.out HX3.out HX4.out) (k := k) (by rw [List.length_map]; exact hlt)
    subst hA
    rw [List.getElem_map, hp] at x0
    have HTK : Hid (ds.take (k + 1) = ds.take k ++ [p]) := Lib.hid (by rw [List.take_succ_eq_append_getElem hlt, hp])
    obtain ⟨ks, hks⟩ : ∃ ks, (ds.take k).map En.key = ks := ⟨_, rfl⟩
    obtain ⟨ss, hss⟩ : ∃ ks, (ds.take k).map En.script = ks := ⟨_, rfl⟩
    have hkl1 : ks.length = k := by rw [← hks, List.length_map, List.length_take]; omega
    have hsl1 : ss.length = k := by rw [← hss, List.length_map, List.length_take]; omega
    have HKS := Lib.hid hks
    have HSS := Lib.hid hss
    rw [hks, hss] at HAL
    have HSC : Hid (scr ds p.key = p.script) := Lib.hid (scr_mem HC3.out.dig.2 (by rw [← hp]; exact List.getElem_mem hlt))
    have HKL := Lib.hid hkl1
    have HSL := Lib.hid hsl1
    obtain ⟨A3, c3, hv3, -, -, -, -⟩ := own_rdV HAL.out.o3
    obtain ⟨A4, c4, hv4, -, -, -, -⟩ := own_rdV HAL.out.o4
    subst hv3
    subst hv4
    have y3 := HAL.out.cell
    have hkm : k ≤ 1000000 := by omega
    clear hks hss hp hkl1 hsl1
    go_wp2_with (at_builtin; go_loud (refine wpList_append_lies _ rfl (.tmp 22) (.tmp 24) 60 rfl w3.heap.size 9 i0 _ 1 16 Tryd.underlying60 hi hz0 hz1 hz2 rfl (by omega) (.slice A3 ks.length c3) ks.length (cellsS ks) rfl (own_below HAL.out.o3 (below_new wr _)) ⟨wr.heap.size, 0, none⟩ 1 1 [.string p.key] rfl rfl (World.news_of_block (cs := #[.string p.key]) (t := 9) (fr := (0, 0)) (heap_alloc_new wr _)) (by simp [Value.oneCell']) (by omega) (by have := HKL.out; simp only [maxLen]; omega) (by have := HKL.out; omega) (by have := HAL.out.size; simp; omega) _ rfl ?_; intro g3 d3 W' ho hg hn _; have HA2 := Lib.hid (HAL.out.push (below_new wr _) ho hg hn); obtain ⟨m3, f3⟩ := HAL.out.mid (below_new wr _) hg; clear ho hg hn))
    generalize W'.setCell ⟨w.heap.size, 0, none⟩ (.slice (some ⟨g3, 0, none⟩) (ks.length + 1) d3) = W2 at *
    have hca2 : CA C D M ds ns W2 := HC3.out.other HA2.out.kp (fun b t => by have := HLT.out b t; rintro (e | e) <;> omega)
    have h1 := hca2.cells.1
    have hl1 := (hca2.dig.keep (W' := W2.drew) rfl).look1 p.key HPK.out
    rw [HSC.out] at hl1
    have HA3 := Lib.hid HA2.out.swap
    have y4 := HA3.out.cell
    have e1 := World.new_ne W2 _ h1
    have e2 := World.new_ne W2 _ y4
    have hgc : ∀ b, (Value.slice A4 ss.length c4).ownBlock = some b → w3.heap.size ≤ b := fun b e => (HA3.out.o3.lt b e).1
    have hfl := fun W => run_kept p.script W
    have HOW : Hid ((W2.alloc (.cells #[.string p.script] 9)).drew.ownsRow w3.heap.size 9 1 (.slice A4 ss.length c4) ss.length (cellsS ss)) := Lib.hid ((own_below HA3.out.o3 (below_new W2 _)).drew)
    have HNE : Hid (∀ j u, ([.string p.script] : List Value)[j]? = some u → (W2.alloc (.cells #[.string p.script] 9)).drew.cell? ((⟨W2.heap.size, 0, none⟩ : Addr).add j) = some u) := Lib.hid (World.news_of_block (w := (W2.alloc (.cells #[.string p.script] 9)).drew) (cs := #[.string p.script]) (t := 9) (fr := (0, 0)) (heap_alloc_new W2 _))
    have HL1 : Hid (ss.length + 1 ≤ maxLen) := Lib.hid (by have := HSL.out; simp only [maxLen]; omega)
    have HL2 : Hid ((ss.length + 1) * 16 ≤ 140737488355328) := Lib.hid (by have := HSL.out; omega)
    have HL3 : Hid (w3.heap.size ≤ (W2.alloc (.cells #[.string p.script] 9)).drew.heap.size) := Lib.hid (by have := HA3.out.size; simp [World.drew]; omega)
    have HCX : Hid (∀ W3, (W2.alloc (.cells #[.string p.script] 9)).drew.grownBy W3 (Value.slice A4 ss.length c4).ownBlock → W3.cell? ⟨C, 0, none⟩ = some (.map (some D)) ∧ W3.cell? ⟨w.heap.size + 1, 0, none⟩ = some (.slice A4 ss.length c4) ∧ W3.frozen? ⟨w.heap.size + 1, 0, none⟩ = false) := Lib.hid (fun W3 hg => by
      have hq := HA3.out.mid (Wx := (W2.alloc (.cells #[.string p.script] 9)).drew) (below_new W2 _).drew hg
      refine ⟨?_, hq.1, hq.2⟩
      have hC : C < w3.heap.size := (HC3.out.lt C (.inl rfl))
      have hs := HA3.out.size
      refine (hg.cell_far ⟨C, 0, none⟩ (by simp [World.drew]; omega) (fun e => by have := (HA3.out.o3.lt C e.symm).1; omega)).trans ?_
      exact ((below_new W2 _).drew.cell (p := ⟨C, 0, none⟩) (by show C < _; omega)).trans h1)
    have hne1 : w.heap.size + 1 ≠ C := by have := HLT.out C (.inl rfl); omega
    have hne2 : C ≠ w.heap.size + 1 := by have := HLT.out C (.inl rfl); omega
    have y5 : (W2.alloc (.cells #[.string p.script] 9)).cell? ⟨w.heap.size + 1, 0, none⟩ = some (.slice A4 ss.length c4) := (HA3.out.below (below_new W2 _)).cell
    have y6 : (W2.alloc (.cells #[.string p.script] 9)).drew.cell? ⟨w.heap.size + 1, 0, none⟩ = some (.slice A4 ss.length c4) := y5
    clear hca2
    go_region_law
      (first
        | (refine step_append_lies _ (by rfl) (.tmp 26) (.tmp 35) 60 (by rfl) w3.heap.size 9 i0 _ 1 16 Tryd.underlying60 hi hz0 hz1 hz2 rfl (by omega) (.slice A4 ss.length c4) ss.length (cellsS ss) (by rfl) HOW.out ⟨W2.heap.size, 0, none⟩ 1 1 [.string p.script] (by rfl) (by rfl) HNE.out (by simp [Value.oneCell']) (by omega) HL1.out HL2.out HL3.out _ rfl ?_; intro g4 d4 W3 ho hg hn hlt4; have HOX := Lib.hid ho; have HGX := Lib.hid hg; have HNX := Lib.hid hn; obtain ⟨c1, c2, c3⟩ := HCX.out _ hg; clear ho hg hn))
    all_goals
      have HA5 := Lib.hid (HA3.out.push (below_new W2 _).drew HOX.out HGX.out HNX.out).swap
      clear HOX HGX HNX c1 c2 c3
      go_wp2_with fail
      go_roundw
      case rel => exact ⟨k + 1, _, _, by omega, by go_num, Lib.hid (by rw [HTK.out, List.map_append, List.map_append, HKS.out, HSS.out]; exact HA5.out)⟩
      case measure => simp [intOf]; omega
end
end Go.Proofs.YtpomaabkgbaikaaDoor
