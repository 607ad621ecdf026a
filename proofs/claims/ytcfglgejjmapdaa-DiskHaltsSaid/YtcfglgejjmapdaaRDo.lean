/- The reference's step. -/
import Derived.Test.YtcfglgejjmapdaaRefu
import Derived.Test.YtcfglgejjmapdaaRefW
import Derived.Laws.ResultCell
import Derived.Laws.Tables
import Derived.Deep.Cut
namespace Go.Proofs.Ytcfglgejjmapdaa
open Go Go.RowKit Go.Shelf
theorem size46' : (Try.prog.info? 46).map (·.size) = some 3 := by kernel_rfl
theorem refS_cut {fs : List F} {nm to_ : ByteArray} {nb : Nat} {N : Int} {x : F} (h : refS fs 1 nm to_ nb N = 0) (hp : placeF fs nm < fs.length) (hg : fs.getD (placeF fs nm) ⟨⟨#[]⟩, ⟨#[]⟩, 0⟩ = x) : 0 ≤ N ∧ N ≤ x.bytes.size := by
  by_cases e : N < 0 ∨ (x.bytes.size : Int) < N
  · exfalso
    unfold refS at h
    by_cases hn : nameB nm = false
    · rw [if_pos hn] at h
      omega
    rw [if_neg hn, if_neg (by omega), if_pos hp, hg, if_pos ⟨rfl, e⟩] at h
    omega
  · omega
theorem extract_take (a : ByteArray) (k : Nat) : a.extract 0 k = ⟨((bl a).take k).toArray⟩ := by
  apply ByteArray.ext
  simp only [bl, ByteArray.data_extract]
  apply Array.ext'
  simp
theorem res23 (tmps : Array Value) (w : World) (g : Nat) (cs : Array Value) (e : Value) (hp : tmps.getD 4 undef = .pointer (some ⟨g, 0, none⟩)) (he : tmps.getD 5 undef = e) (hg : w.heap[g]? = some (.cells cs 46 (0, 0))) (hs : cs.size = 3) :
    (results Try.f23 tmps).run Try.prog w = .ok (.tuple #[.agg cs, e]) w := by
  rw [results_cell_tmp (p := 4) (u := 5) (ty := 46) rfl]
  rw [hp, he]
  simp only [asAddr, Sem.run_pure, Result.andThen_ok, run_loadVar_row (P := Try.prog) w g 46 46 cs (0, 0) _ hg Try.underlying46 rfl (by rw [size46', hs])]
/-- The boxes of a step: the disk, the step, the answer. -/
structure DoW (w : World) (fl : Value) (st lf : Int) (sv : Array Value) (X : World) : Prop where
  b2 : X.heap[w.heap.size]? = some (.cells #[fl, .int .i64 st, .int .i64 lf] 46 (0, 0))
  b3 : X.heap[w.heap.size + 1]? = some (.cells sv 43 (0, 0))
  b4 : X.heap[w.heap.size + 1 + 1]? = some (.cells #[.slice none 0 0, .int .i64 0, .int .i64 0] 46 (0, 0))
  bel : Below w.heap.size w X
  sz : w.heap.size + 3 ≤ X.heap.size
theorem row3 {W : World} {g : Nat} {a b c : Value} {t : TypeId} (h : W.heap[g]? = some (.cells #[a, b, c] t (0, 0))) : W.cell? ⟨g, 0, none⟩ = some a ∧ W.cell? ⟨g, 1, none⟩ = some b ∧ W.cell? ⟨g, 2, none⟩ = some c ∧ ∀ j, W.frozen? ⟨g, j, none⟩ = false := by
  refine ⟨?_, ?_, ?_, fun j => ?_⟩
  · simp only [World.cell?, h]; rfl
  · simp only [World.cell?, h]; rfl
  · simp only [World.cell?, h]; rfl
  · simp [World.frozen?, h]
theorem row5 {W : World} {g : Nat} {a b c d e : Value} {t : TypeId} (h : W.heap[g]? = some (.cells #[a, b, c, d, e] t (0, 0))) : W.cell? ⟨g, 0, none⟩ = some a ∧ W.cell? ⟨g, 1, none⟩ = some b ∧ W.cell? ⟨g, 2, none⟩ = some c ∧ W.cell? ⟨g, 3, none⟩ = some d ∧ W.cell? ⟨g, 4, none⟩ = some e := by
  refine ⟨?_, ?_, ?_, ?_, ?_⟩
  · simp only [World.cell?, h]; rfl
  · simp only [World.cell?, h]; rfl
  · simp only [World.cell?, h]; rfl
  · simp only [World.cell?, h]; rfl
  · simp only [World.cell?, h]; rfl
theorem set_row {W : World} {g j : Nat} {cs : Array Value} {v : Value} {t : TypeId} (h : W.heap[g]? = some (.cells cs t (0, 0))) : (W.setCell ⟨g, j, none⟩ v).heap[g]? = some (.cells (cs.setIfInBounds j v) t (0, 0)) := by
  have hlt := lt_of_block h
  have h' : W.heap[g] = .cells cs t (0, 0) := by simpa [Array.getElem?_eq_getElem hlt] using h
  show (W.heap.modify g _)[g]? = _
  rw [Array.getElem?_eq_getElem (by simpa using hlt), Array.getElem_modify_self, h']
  rfl
section
variable {w X X' : World} {fl : Value} {st lf : Int} {sv : Array Value}
theorem DoW.start (w : World) (fl : Value) (st lf : Int) (sv : Array Value) : DoW w fl st lf sv (((w.alloc (.cells #[fl, .int .i64 st, .int .i64 lf] 46)).alloc (.cells sv 43)).alloc (.cells #[.slice none 0 0, .int .i64 0, .int .i64 0] 46)) := by
  have e0 := heap_alloc_new w (.cells #[fl, .int .i64 st, .int .i64 lf] 46)
  have B1 := below_new (w.alloc (.cells #[fl, .int .i64 st, .int .i64 lf] 46)) (.cells sv 43)
  have e1 := heap_alloc_new (w.alloc (.cells #[fl, .int .i64 st, .int .i64 lf] 46)) (.cells sv 43)
  have B2 := below_new ((w.alloc (.cells #[fl, .int .i64 st, .int .i64 lf] 46)).alloc (.cells sv 43)) (.cells #[.slice none 0 0, .int .i64 0, .int .i64 0] 46)
  have e2 := heap_alloc_new ((w.alloc (.cells #[fl, .int .i64 st, .int .i64 lf] 46)).alloc (.cells sv 43)) (.cells #[.slice none 0 0, .int .i64 0, .int .i64 0] 46)
  have s1 : (w.alloc (.cells #[fl, .int .i64 st, .int .i64 lf] 46)).heap.size = w.heap.size + 1 := by simp
  have s2 : ((w.alloc (.cells #[fl, .int .i64 st, .int .i64 lf] 46)).alloc (.cells sv 43)).heap.size = w.heap.size + 1 + 1 := by simp
  rw [s1] at e1 B1
  rw [s2] at e2 B2
  refine ⟨?_, ?_, e2, ?_, by simp⟩
  · exact ((B2.block _ (by omega)).trans (B1.block _ (by omega))).trans e0
  · exact (B2.block _ (by omega)).trans e1
  · exact ((below_new w _).trans (B1.mono (by omega))).trans (B2.mono (by omega))
theorem DoW.next (h : DoW w fl st lf sv X) (hb : Below X.heap.size X X') : DoW w fl st lf sv X' := by
  have := h.sz
  exact ⟨(hb.block _ (by omega)).trans h.b2, (hb.block _ (by omega)).trans h.b3, (hb.block _ (by omega)).trans h.b4, h.bel.trans (hb.mono h.bel.size), Nat.le_trans h.sz hb.size⟩
theorem set_other {W : World} {g j b : Nat} {v : Value} (hne : b ≠ g) : (W.setCell ⟨g, j, none⟩ v).heap[b]? = W.heap[b]? := Below.heap_setCell W ⟨g, j, none⟩ v b (by simpa using hne)
theorem size_set {W : World} {a : Addr} {v : Value} : (W.setCell a v).heap.size = W.heap.size := by simp [World.setCell]
theorem DoW.left (h : DoW w fl st lf sv X) (v : Int) : DoW w fl st v sv (X.setCell ⟨w.heap.size, 2, none⟩ (.int .i64 v)) :=
  ⟨set_row h.b2, (set_other (by omega)).trans h.b3, (set_other (by omega)).trans h.b4, h.bel.setCell (p := ⟨w.heap.size, 2, none⟩) (Nat.le_refl _) _, by rw [size_set]; exact h.sz⟩
theorem DoW.step (h : DoW w fl st lf sv X) (v : Int) : DoW w fl v lf sv (X.setCell ⟨w.heap.size, 1, none⟩ (.int .i64 v)) :=
  ⟨set_row h.b2, (set_other (by omega)).trans h.b3, (set_other (by omega)).trans h.b4, h.bel.setCell (p := ⟨w.heap.size, 1, none⟩) (Nat.le_refl _) _, by rw [size_set]; exact h.sz⟩
theorem DoW.file (h : DoW w fl st lf sv X) (v : Value) : DoW w v st lf sv (X.setCell ⟨w.heap.size, 0, none⟩ v) :=
  ⟨set_row h.b2, (set_other (by omega)).trans h.b3, (set_other (by omega)).trans h.b4, h.bel.setCell (p := ⟨w.heap.size, 0, none⟩) (Nat.le_refl _) _, by rw [size_set]; exact h.sz⟩
theorem DoW.other (h : DoW w fl st lf sv X) {g : Nat} (hg : w.heap.size + 3 ≤ g) (j : Nat) (v : Value) : DoW w fl st lf sv (X.setCell ⟨g, j, none⟩ v) :=
  ⟨(set_other (by omega)).trans h.b2, (set_other (by omega)).trans h.b3, (set_other (by omega)).trans h.b4, h.bel.setCell (p := ⟨g, j, none⟩) (by simp only; omega) _, by rw [size_set]; exact h.sz⟩
theorem DoW.answer (h : DoW w fl st lf sv X) (a b c : Value) : (((X.setCell ⟨w.heap.size + 1 + 1, 0, none⟩ a).setCell ⟨w.heap.size + 1 + 1, 1, none⟩ b).setCell ⟨w.heap.size + 1 + 1, 2, none⟩ c).heap[w.heap.size + 1 + 1]? = some (.cells #[a, b, c] 46 (0, 0)) :=
  set_row (set_row (set_row h.b4))
theorem DoW.answers (h : DoW w fl st lf sv X) (a b c : Value) : Below w.heap.size w (((X.setCell ⟨w.heap.size + 1 + 1, 0, none⟩ a).setCell ⟨w.heap.size + 1 + 1, 1, none⟩ b).setCell ⟨w.heap.size + 1 + 1, 2, none⟩ c) :=
  ((h.bel.setCell (p := ⟨w.heap.size + 1 + 1, 0, none⟩) (by simp only; omega) _).setCell (p := ⟨w.heap.size + 1 + 1, 1, none⟩) (by simp only; omega) _).setCell (p := ⟨w.heap.size + 1 + 1, 2, none⟩) (by simp only; omega) _
/-- The file that a step changes. -/
def FB (g : Nat) (f : F) (X : World) : Prop := X.heap[g]? = some (.cells #[.string f.name, .string f.bytes, .int .i64 f.sync] 27 (0, 0))
theorem FB.next {g : Nat} {f : F} (h : FB g f X) (hb : Below X.heap.size X X') : FB g f X' := (hb.block _ (lt_of_block h)).trans h
theorem FB.setf {g : Nat} {f : F} (h : FB g f X) (x : F) : FB g x (((X.setCell ⟨g, 0, none⟩ (.string x.name)).setCell ⟨g, 1, none⟩ (.string x.bytes)).setCell ⟨g, 2, none⟩ (.int .i64 x.sync)) := set_row (set_row (set_row h))
theorem RdF.three {V : World} {b off pl : Nat} {ls : List F} {x : F} (h : RdF V (some ⟨b, off, none⟩) ls) (hx : ls[pl]? = some x) : V.cell? ⟨b, off + pl * 3, none⟩ = some (.string x.name) ∧ V.cell? ⟨b, off + pl * 3 + 1, none⟩ = some (.string x.bytes) ∧ V.cell? ⟨b, off + pl * 3 + 2, none⟩ = some (.int .i64 x.sync) := by
  obtain ⟨hp, e⟩ := List.getElem?_eq_some_iff.1 hx
  obtain ⟨b', off', hA, _, k0, k1, k2⟩ := h.at hp
  cases hA
  rw [e] at k0 k1 k2
  exact ⟨k0, k1, k2⟩
theorem bytes_app (a : ByteArray) (l : List UInt8) : a ++ (⟨l.toArray⟩ : ByteArray) = ⟨(bl a ++ l).toArray⟩ := by
  apply ByteArray.ext
  simp [bl, ByteArray.data_append]
/-- What the reference's step answers. -/
def RDoQ (ls : List F) (wh : Int) (nm to_ : ByteArray) (l : List UInt8) (N st lf : Int) (A : Option Addr) (w : World) (e : Ending) (w' : World) : Prop :=
  ∃ A' n' c', e = .returned (.tuple #[.agg #[.slice A' n' c', .int .i64 (if errS ls wh nm to_ l N (decide (0 ≤ lf)) lf = 0 then st + 1 else st), .int .i64 (if errS ls wh nm to_ l N (decide (0 ≤ lf)) lf = 0 ∧ 0 < lf then lf - 1 else lf)], .int .i64 (errS ls wh nm to_ l N (decide (0 ≤ lf)) lf)]) ∧
    (if errS ls wh nm to_ l N (decide (0 ≤ lf)) lf = 0 then nextS ls wh nm to_ l N else ls).length = n' ∧ n' ≤ c' ∧ (A' = none → c' = 0) ∧ RdF w' A' (if errS ls wh nm to_ l N (decide (0 ≤ lf)) lf = 0 then nextS ls wh nm to_ l N else ls) ∧ ((A' = A ∧ ¬ errS ls wh nm to_ l N (decide (0 ≤ lf)) lf = 0) ∨ ∀ ad, A' = some ad → w.heap.size ≤ ad.block) ∧ Below w.heap.size w w'
theorem RDoQ.no {ls : List F} {wh : Int} {nm to_ : ByteArray} {l : List UInt8} {N : Int} {A : Option Addr} {n c : Nat} {r : Int} (h : errS ls wh nm to_ l N (decide (0 ≤ lf)) lf = r) (hr : r ≠ 0) (hn : ls.length = n) (hc : n ≤ c) (hA : A = none → c = 0) (ha : RdF X A ls) (hb : Below w.heap.size w X) :
    RDoQ ls wh nm to_ l N st lf A w (.returned (.tuple #[.agg #[.slice A n c, .int .i64 st, .int .i64 lf], .int .i64 r])) X := by
  unfold RDoQ
  rw [h]
  simp only [hr, if_false, false_and]
  exact ⟨A, n, c, rfl, hn, hc, hA, ha, .inl ⟨rfl, fun h => h⟩, hb⟩
theorem RDoQ.yes {ls fs : List F} {wh : Int} {nm to_ : ByteArray} {l : List UInt8} {N : Int} {A A' : Option Addr} {n' c' : Nat} {st' lf' : Int} (h : errS ls wh nm to_ l N (decide (0 ≤ lf)) lf = 0) (hf : nextS ls wh nm to_ l N = fs) (hs : st' = st + 1) (hl : lf' = if 0 < lf then lf - 1 else lf) (hn : fs.length = n') (hc : n' ≤ c') (hA : A' = none → c' = 0) (ha : RdF X A' fs) (hk : ∀ ad, A' = some ad → w.heap.size ≤ ad.block) (hb : Below w.heap.size w X) :
    RDoQ ls wh nm to_ l N st lf A w (.returned (.tuple #[.agg #[.slice A' n' c', .int .i64 st', .int .i64 lf'], .int .i64 0])) X := by
  unfold RDoQ
  rw [h, hf, hs, hl]
  simp only [if_true, true_and]
  exact ⟨A', n', c', rfl, hn, hc, hA, ha, .inr hk, hb⟩
end
set_option maxRecDepth 100000 in
set_option maxHeartbeats 32000000 in
theorem rdo_any (A : Option Addr) (n c : Nat) (ls : List F) (st lf : Int) (wh N : Int) (nm to_ : ByteArray) (Ab : Option Addr) (nb cb : Nat) (l : List UInt8) (w : World) (hn : ls.length = n) (bn : n ≤ 90000) (hcc : n ≤ c) (hAn : A = none → c = 0) (ha : RdF w A ls) (hnm : nm.size ≤ 140737488351232) (hto : to_.size ≤ 140737488351232)
    (hs : ∀ f ∈ ls, f.bytes.size ≤ 1048576 ∧ 0 ≤ f.sync ∧ f.sync ≤ f.bytes.size) (hl : l.length = nb) (hnb : nb ≤ 1000) (hcb : nb ≤ cb) (hob : Ab = none → cb = 0) (hrb : Rd w Ab l) (hst0 : 0 ≤ st) (hst1 : st ≤ 1000000) (hlf0 : -1 ≤ lf) (hlf1 : lf ≤ 9223372036854775807) :
    Calls Try.prog 23 #[.agg #[.slice A n c, .int .i64 st, .int .i64 lf], .agg #[.int .i64 wh, .string nm, .string to_, .slice Ab nb cb, .int .i64 N]] w (RDoQ ls wh nm to_ l N st lf A w) := by
  obtain ⟨W, hW⟩ : ∃ W, W = (((w.alloc (.cells #[.slice A n c, .int .i64 st, .int .i64 lf] 46)).alloc (.cells #[.int .i64 wh, .string nm, .string to_, .slice Ab nb cb, .int .i64 N] 43)).alloc (.cells #[.slice none 0 0, .int .i64 0, .int .i64 0] 46)) := ⟨_, rfl⟩
  have hD : DoW w (.slice A n c) st lf #[.int .i64 wh, .string nm, .string to_, .slice Ab nb cb, .int .i64 N] W := by rw [hW]; exact DoW.start w _ _ _ _
  have HD0 := Lib.hid hD
  have HN := Lib.hid hn
  have HA := Lib.hid ha
  have HS := Lib.hid hs
  have HL := Lib.hid hl
  have HOB := Lib.hid hob
  have HRB := Lib.hid hrb
  have HAN := Lib.hid hAn
  have HRF := Lib.hid (refused_any A n c ls st lf wh N nm to_ Ab nb cb W hn (by omega) (ha.below hD.bel) hnm hto (fun f hf => by have := (hs f hf).1; omega) (by omega))
  have HER := Lib.hid (errS_ref ls wh nm to_ l N (decide (0 ≤ lf)) lf)
  rw [hl] at HER
  obtain ⟨r, hr⟩ : ∃ r, refS ls wh nm to_ nb N = r := ⟨_, rfl⟩
  rw [hr] at HRF HER
  have HR := Lib.hid hr
  clear hn ha hs hl hob hrb hD hr hAn
  subst hW
  go_enter Try.func23, Try.ntmps23
  go_wp2_with fail
  refine Calls.mono HRF.out ?_
  rintro e w1 ⟨rfl, hb1⟩
  have HD := Lib.hid (HD0.out.next (hb1.mono (Nat.le_refl _)))
  clear hb1 HRF HD0
  generalize hX : w1 = X at HD ⊢
  clear hX w1
  have haX := HA.out.below HD.out.bel
  have HAX := Lib.hid haX
  clear haX
  by_cases hr0 : r ≠ 0
  · have HE : Hid (errS ls wh nm to_ l N (decide (0 ≤ lf)) lf = r) := Lib.hid (by rw [HER.out, if_pos hr0])
    have e0 : decide (r = 0) = false := decide_eq_false hr0
    have g0 : (r != 0) = true := by simpa using hr0
    have HR0 := Lib.hid hr0
    clear hr0
    obtain ⟨p0, p1, p2, pf⟩ := row3 HD.out.b2
    obtain ⟨q0, q1, q2, qf⟩ := row3 HD.out.b4
    go_wp2_with fail
    refine bodyPost_ret (res23 _ _ (w.heap.size + 1 + 1) #[.slice A n c, .int .i64 st, .int .i64 lf] (.int .i64 r) rfl rfl (HD.out.answer _ _ _) rfl) rfl ?_
    exact RDoQ.no HE.out HR0.out HN.out hcc HAN.out (HA.out.below (HD.out.answers _ _ _)) (HD.out.answers _ _ _)
  obtain rfl : r = 0 := by omega
  clear hr0
  by_cases hz : lf = 0
  · subst hz
    have HE : Hid (errS ls wh nm to_ l N (decide (0 ≤ (0 : Int))) 0 = 7) := Lib.hid (by rw [HER.out, if_neg (by simp)]; simp)
    obtain ⟨p0, p1, p2, pf⟩ := row3 HD.out.b2
    obtain ⟨q0, q1, q2, qf⟩ := row3 HD.out.b4
    go_wp2_with fail
    refine bodyPost_ret (res23 _ _ (w.heap.size + 1 + 1) #[.slice A n c, .int .i64 st, .int .i64 0] (.int .i64 7) rfl rfl (HD.out.answer _ _ _) rfl) rfl ?_
    exact RDoQ.no HE.out (by omega) HN.out hcc HAN.out (HA.out.below (HD.out.answers _ _ _)) (HD.out.answers _ _ _)
  have HE : Hid (errS ls wh nm to_ l N (decide (0 ≤ lf)) lf = 0) := Lib.hid (by rw [HER.out, if_neg (by simp), if_neg (fun h => hz h.2)])
  clear HER
  obtain ⟨lf2, hlf2⟩ : ∃ lf2, lf2 = if 0 < lf then lf - 1 else lf := ⟨_, rfl⟩
  have HLF := Lib.hid hlf2
  clear hlf2
  by_cases hp : 0 < lf
  · have d0 : decide (lf = 0) = false := decide_eq_false hz
    have g0 : (lf == 0) = false := by simpa using hz
    have dp : decide (0 < lf) = true := decide_eq_true hp
    obtain ⟨p0, p1, p2, pf⟩ := row3 HD.out.b2
    go_upto_region 9 with (fail)
    obtain ⟨lg, hlg⟩ : ∃ lg, lg = lf - 1 := ⟨_, rfl⟩
    have HE2 : Hid (lg = if 0 < lf then lf - 1 else lf) := Lib.hid (by rw [hlg, if_pos hp])
    have HD2 := Lib.hid ((HD.out.left (lf - 1)).step (st + 1))
    clear p0 p1 p2 pf HD
    generalize (X.setCell ⟨w.heap.size, 2, none⟩ (.int .i64 (lf - 1))).setCell ⟨w.heap.size, 1, none⟩ (.int .i64 (st + 1)) = Y at HD2 ⊢
    rw [← hlg] at HD2
    clear hlg
    clear HAX
    clear d0 g0 dp hp
    obtain ⟨p0, p1, p2, pf⟩ := row3 HD2.out.b2
    obtain ⟨s0, s1, s2, s3, s4⟩ := row5 HD2.out.b3
    have HF := Lib.hid (find_any A n c ls nm Y HN.out (by omega) (HA.out.below HD2.out.bel))
    by_cases hfd : placeF ls nm < ls.length
    · obtain ⟨x, hx1, hx2⟩ := find_at hfd
      have hfi : findI ls nm = placeF ls nm := by unfold findI; rw [if_pos hfd]
      have hpn : placeF ls nm < n := by have := HN.out; omega
      rw [hfi] at HF
      obtain ⟨b, off, hA, hb, k0, k1, k2⟩ := (HA.out.below HD2.out.bel).at hfd
      have hxe : ls[placeF ls nm]'hfd = x := by rw [List.getElem?_eq_getElem hfd] at hx1; exact Option.some.inj hx1
      rw [hxe] at k0 k1 k2
      have HXM : Hid (x ∈ ls) := Lib.hid (by rw [← hxe]; exact List.getElem_mem hfd)
      have HX2 := Lib.hid hx2
      have hxn : x.name = nm := (fnd_mem hx2).2
      have HXN := Lib.hid hxn
      have HRX : Hid (refS ls wh nm to_ nb N = 0) := HR
      have HPL := Lib.hid hfd
      have HXG : Hid (ls.getD (placeF ls nm) ⟨⟨#[]⟩, ⟨#[]⟩, 0⟩ = x) := Lib.hid (by rw [List.getD_eq_getElem?_getD, hx1]; rfl)
      have HX1 := Lib.hid hx1
      clear hx1 hx2 hfi hxe hxn HR
      generalize hpl : placeF ls nm = pl at hpn k0 k1 k2 HF HX1
      have HPE := Lib.hid hpl
      clear hpl hfd
      subst hA
      clear k0 k1 k2
      go_wp2_with fail
      refine Calls.mono HF.out ?_
      rintro e w' ⟨rfl, rfl⟩
      clear HF
      go_upto_region 11 with (fail)
      have HD3 := Lib.hid (HD2.out.next (below_new Y (.cells #[.string nm, .string ⟨#[]⟩, .int .i64 0] 27)))
      have HFB : Hid (FB Y.heap.size ⟨nm, ⟨#[]⟩, 0⟩ (Y.alloc (.cells #[.string nm, .string ⟨#[]⟩, .int .i64 0] 27))) := Lib.hid (heap_alloc_new Y _)
      have HNF := Lib.hid HD2.out.sz
      clear p0 p1 p2 pf s0 s1 s2 s3 s4 HD2
      generalize Y.alloc (.cells #[.string nm, .string ⟨#[]⟩, .int .i64 0] 27) = Z at HD3 HFB ⊢
      generalize Y.heap.size = nf at HFB HNF ⊢
      obtain ⟨p0, p1, p2, pf⟩ := row3 HD3.out.b2
      obtain ⟨s0, s1, s2, s3, s4⟩ := row5 HD3.out.b3
      obtain ⟨y0, y1, y2, yf⟩ := row3 HFB.out
      obtain ⟨k0, k1, k2⟩ := (HA.out.below HD3.out.bel).three HX1.out
      go_upto_region 13 with (fail)
      have HFB2 := Lib.hid (HFB.out.setf x)
      have HD4 := Lib.hid (((HD3.out.other HNF.out 0 (.string x.name)).other HNF.out 1 (.string x.bytes)).other HNF.out 2 (.int .i64 x.sync))
      clear p0 p1 p2 pf s0 s1 s2 s3 s4 y0 y1 y2 yf k0 k1 k2 HD3 HFB
      generalize ((Z.setCell ⟨nf, 0, none⟩ (.string x.name)).setCell ⟨nf, 1, none⟩ (.string x.bytes)).setCell ⟨nf, 2, none⟩ (.int .i64 x.sync) = U at HFB2 HD4 ⊢
      by_cases w0 : wh = 0
      · subst w0
        have hcv : (convert 35 9 (.slice Ab nb cb)).run Try.prog U = .ok (.string ⟨l.toArray⟩) U := by
          have h1 := conv_rd (w := U) (l := l) (A := Ab) (c := cb) HOB.out (by rw [HL.out]; exact hcb) (HRB.out.below HD4.out.bel)
          rw [HL.out] at h1
          exact h1
        have hz : (⟨l.toArray⟩ : ByteArray).size = nb := by rw [← HL.out]; rfl
        have HBA := Lib.hid (bytes_app x.bytes l)
        generalize (⟨l.toArray⟩ : ByteArray) = sb at hcv hz HBA
        have hxz : x.bytes.size ≤ 1048576 := (HS.out x HXM.out).1
        obtain ⟨p0, p1, p2, pf⟩ := row3 HD4.out.b2
        obtain ⟨s0, s1, s2, s3, s4⟩ := row5 HD4.out.b3
        obtain ⟨y0, y1, y2, yf⟩ := row3 HFB2.out
        go_upto_region 26 with (fail)
        have HFZ : Hid (FB nf ⟨x.name, x.bytes ++ sb, x.sync⟩ (U.setCell ⟨nf, 1, none⟩ (.string (x.bytes ++ sb)))) := Lib.hid (set_row HFB2.out)
        have HDZ := Lib.hid (HD4.out.other HNF.out 1 (.string (x.bytes ++ sb)))
        clear p0 p1 p2 pf s0 s1 s2 s3 s4 y0 y1 y2 yf
        clear HD4 HFB2 hcv
        generalize U.setCell ⟨nf, 1, none⟩ (.string (x.bytes ++ sb)) = V at HFZ HDZ ⊢
        have HWT := Lib.hid (with_any (some ⟨b, off, none⟩) n c ls ⟨x.name, x.bytes ++ sb, x.sync⟩ V HN.out (by omega) (HA.out.below HDZ.out.bel))
        obtain ⟨p0, p1, p2, pf⟩ := row3 HDZ.out.b2
        obtain ⟨s0, s1, s2, s3, s4⟩ := row5 HDZ.out.b3
        obtain ⟨y0, y1, y2, yf⟩ := row3 HFZ.out
        go_wp2_with fail
        refine Calls.mono HWT.out ?_
        rintro e w9 ⟨v9, rfl, ho9, hb9⟩
        obtain ⟨A9, c9, rfl, hc9, hA9, hcm9, hr9, hs9⟩ := own_rdF ho9 rfl
        have HD9 := Lib.hid (HDZ.out.next hb9)
        have HNE : Hid (∀ b off, A9 = some (⟨b, off, none⟩ : Addr) → w.heap.size + 3 ≤ b) := Lib.hid (fun b off e => Nat.le_trans HDZ.out.sz (hs9 _ e).2.1)
        have HS9 : Hid (w.heap.size ≤ V.heap.size) := Lib.hid HDZ.out.bel.size
        have HR9 := Lib.hid hr9
        have HK9 := Lib.hid hs9
        have HA9 := Lib.hid hA9
        clear p0 p1 p2 pf s0 s1 s2 s3 s4 y0 y1 y2 yf
        clear ho9 hb9 hr9 hs9 hA9 HWT HFZ HDZ
        generalize hm9 : (wth F.name ls ⟨x.name, x.bytes ++ sb, x.sync⟩).length = m9 at hc9 ⊢
        have HM9 := Lib.hid hm9
        clear hm9
        obtain ⟨p0, p1, p2, pf⟩ := row3 HD9.out.b2
        obtain ⟨q0, q1, q2, qf⟩ := row3 HD9.out.b4
        go_wp2_with fail
        refine bodyPost_ret (res23 _ _ (w.heap.size + 1 + 1) #[.slice A9 m9 c9, .int .i64 (st + 1), .int .i64 lg] (.int .i64 0) rfl rfl ((HD9.out.file (.slice A9 m9 c9)).answer _ _ _) rfl) rfl ?_
        exact RDoQ.yes HE.out (by show appendF ls nm l = _; unfold appendF; rw [HX2.out, HBA.out, HXN.out]) rfl HE2.out HM9.out hc9 HA9.out (HR9.out.keep (by simp [World.setCell]) (fun b off e hlt => ((set_other (by have := HNE.out b off e; omega)).trans ((set_other (by have := HNE.out b off e; omega)).trans ((set_other (by have := HNE.out b off e; omega)).trans (set_other (by have := HNE.out b off e; omega))))))) (fun ad e => Nat.le_trans HS9.out (HK9.out ad e).2.1) ((HD9.out.file (.slice A9 m9 c9)).answers _ _ _)
      by_cases w2 : wh = 2
      · subst w2
        obtain ⟨p0, p1, p2, pf⟩ := row3 HD4.out.b2
        obtain ⟨s0, s1, s2, s3, s4⟩ := row5 HD4.out.b3
        obtain ⟨y0, y1, y2, yf⟩ := row3 HFB2.out
        go_upto_region 26 with (fail)
        have HFZ : Hid (FB nf ⟨x.name, x.bytes, x.bytes.size⟩ (U.setCell ⟨nf, 2, none⟩ (.int .i64 x.bytes.size))) := Lib.hid (set_row HFB2.out)
        have HDZ := Lib.hid (HD4.out.other HNF.out 2 (.int .i64 x.bytes.size))
        clear p0 p1 p2 pf s0 s1 s2 s3 s4 y0 y1 y2 yf
        clear HD4 HFB2
        generalize U.setCell ⟨nf, 2, none⟩ (.int .i64 x.bytes.size) = V at HFZ HDZ ⊢
        have HWT := Lib.hid (with_any (some ⟨b, off, none⟩) n c ls ⟨x.name, x.bytes, x.bytes.size⟩ V HN.out (by omega) (HA.out.below HDZ.out.bel))
        obtain ⟨p0, p1, p2, pf⟩ := row3 HDZ.out.b2
        obtain ⟨s0, s1, s2, s3, s4⟩ := row5 HDZ.out.b3
        obtain ⟨y0, y1, y2, yf⟩ := row3 HFZ.out
        go_wp2_with fail
        refine Calls.mono HWT.out ?_
        rintro e w9 ⟨v9, rfl, ho9, hb9⟩
        obtain ⟨A9, c9, rfl, hc9, hA9, hcm9, hr9, hs9⟩ := own_rdF ho9 rfl
        have HD9 := Lib.hid (HDZ.out.next hb9)
        have HNE : Hid (∀ b off, A9 = some (⟨b, off, none⟩ : Addr) → w.heap.size + 3 ≤ b) := Lib.hid (fun b off e => Nat.le_trans HDZ.out.sz (hs9 _ e).2.1)
        have HS9 : Hid (w.heap.size ≤ V.heap.size) := Lib.hid HDZ.out.bel.size
        have HR9 := Lib.hid hr9
        have HK9 := Lib.hid hs9
        have HA9 := Lib.hid hA9
        clear p0 p1 p2 pf s0 s1 s2 s3 s4 y0 y1 y2 yf
        clear ho9 hb9 hr9 hs9 hA9 HWT HFZ HDZ
        generalize hm9 : (wth F.name ls ⟨x.name, x.bytes, x.bytes.size⟩).length = m9 at hc9 ⊢
        have HM9 := Lib.hid hm9
        clear hm9
        obtain ⟨p0, p1, p2, pf⟩ := row3 HD9.out.b2
        obtain ⟨q0, q1, q2, qf⟩ := row3 HD9.out.b4
        go_wp2_with fail
        refine bodyPost_ret (res23 _ _ (w.heap.size + 1 + 1) #[.slice A9 m9 c9, .int .i64 (st + 1), .int .i64 lg] (.int .i64 0) rfl rfl ((HD9.out.file (.slice A9 m9 c9)).answer _ _ _) rfl) rfl ?_
        exact RDoQ.yes HE.out (by show syncF ls nm = _; unfold syncF; rw [HX2.out, HXN.out]) rfl HE2.out HM9.out hc9 HA9.out (HR9.out.keep (by simp [World.setCell]) (fun b off e hlt => ((set_other (by have := HNE.out b off e; omega)).trans ((set_other (by have := HNE.out b off e; omega)).trans ((set_other (by have := HNE.out b off e; omega)).trans (set_other (by have := HNE.out b off e; omega))))))) (fun ad e => Nat.le_trans HS9.out (HK9.out ad e).2.1) ((HD9.out.file (.slice A9 m9 c9)).answers _ _ _)
      have HNFU : Hid (nf < U.heap.size) := Lib.hid (lt_of_block HFB2.out)
      by_cases w3 : wh = 3
      · subst w3
        have HDR := Lib.hid (drop_any (some ⟨b, off, none⟩) n c ls nm U HN.out (by omega) (HA.out.below HD4.out.bel))
        obtain ⟨p0, p1, p2, pf⟩ := row3 HD4.out.b2
        obtain ⟨s0, s1, s2, s3, s4⟩ := row5 HD4.out.b3
        obtain ⟨y0, y1, y2, yf⟩ := row3 HFB2.out
        go_wp2_with fail
        refine Calls.mono HDR.out ?_
        rintro e w8 ⟨v8, rfl, ho8, hb8⟩
        obtain ⟨A8, c8, rfl, hc8, hA8, hcm8, hr8, hs8⟩ := own_rdF ho8 rfl
        have HD8 := Lib.hid (HD4.out.next hb8)
        have HF8 := Lib.hid (HFB2.out.next hb8)
        have HS8 := Lib.hid hs8
        have HA8 := Lib.hid hA8
        have HR8 := Lib.hid hr8
        have HB8 : Hid (w.heap.size + 3 ≤ U.heap.size) := Lib.hid HD4.out.sz
        clear p0 p1 p2 pf s0 s1 s2 s3 s4 y0 y1 y2 yf
        clear ho8 hb8 hr8 hs8 hA8 HDR HD4 HFB2
        generalize hm8 : (drp F.name ls nm).length = m8 at hc8 ⊢
        have HM8 := Lib.hid hm8
        have HM8L : Hid (m8 ≤ n) := Lib.hid (by rw [← hm8, ← HN.out]; exact drp_len ls nm)
        clear hm8
        obtain ⟨p0, p1, p2, pf⟩ := row3 HD8.out.b2
        obtain ⟨s0, s1, s2, s3, s4⟩ := row5 HD8.out.b3
        obtain ⟨y0, y1, y2, yf⟩ := row3 HF8.out
        have hnf9 : w.heap.size < nf := by have := HNF.out; omega
        have y0s : ∀ v, (w8.setCell ⟨w.heap.size, 0, none⟩ v).cell? ⟨nf, 0, none⟩ = some (.string x.name) := fun v => (World.cell?_setCell_other w8 ⟨w.heap.size, 0, none⟩ ⟨nf, 0, none⟩ v (by intro h; injection h; omega)).trans y0
        go_upto_region 26 with (fail)
        clear y0s hnf9
        have HDZ := Lib.hid ((HD8.out.file (.slice A8 m8 c8)).other HNF.out 0 (.string to_))
        have HFZ : Hid (FB nf ⟨to_, x.bytes, x.sync⟩ ((w8.setCell ⟨w.heap.size, 0, none⟩ (.slice A8 m8 c8)).setCell ⟨nf, 0, none⟩ (.string to_))) := Lib.hid (set_row ((set_other (by have := HNF.out; omega)).trans HF8.out))
        have HR8Z : Hid (RdF ((w8.setCell ⟨w.heap.size, 0, none⟩ (.slice A8 m8 c8)).setCell ⟨nf, 0, none⟩ (.string to_)) A8 (drp F.name ls nm)) := Lib.hid (HR8.out.keep (by simp [World.setCell]) (fun b off e hlt => (set_other (by have h1 := (HS8.out _ e).2.1; have h2 := HB8.out; have h3 := HNFU.out; simp only at h1; omega)).trans (set_other (by have h1 := (HS8.out _ e).2.1; have h2 := HB8.out; simp only at h1; omega))))
        clear p0 p1 p2 pf s0 s1 s2 s3 s4 y0 y1 y2 yf
        clear HD8 HF8 HR8
        generalize (w8.setCell ⟨w.heap.size, 0, none⟩ (.slice A8 m8 c8)).setCell ⟨nf, 0, none⟩ (.string to_) = V at HFZ HDZ HR8Z ⊢
        have HWT := Lib.hid (with_any A8 m8 c8 (drp F.name ls nm) ⟨to_, x.bytes, x.sync⟩ V HM8.out (by have := HM8L.out; omega) HR8Z.out)
        obtain ⟨p0, p1, p2, pf⟩ := row3 HDZ.out.b2
        obtain ⟨s0, s1, s2, s3, s4⟩ := row5 HDZ.out.b3
        obtain ⟨y0, y1, y2, yf⟩ := row3 HFZ.out
        go_wp2_with fail
        refine Calls.mono HWT.out ?_
        rintro e w9 ⟨v9, rfl, ho9, hb9⟩
        obtain ⟨A9, c9, rfl, hc9, hA9, hcm9, hr9, hs9⟩ := own_rdF ho9 rfl
        have HD9 := Lib.hid (HDZ.out.next hb9)
        have HNE : Hid (∀ b off, A9 = some (⟨b, off, none⟩ : Addr) → w.heap.size + 3 ≤ b) := Lib.hid (fun b off e => Nat.le_trans HDZ.out.sz (hs9 _ e).2.1)
        have HS9 : Hid (w.heap.size ≤ V.heap.size) := Lib.hid HDZ.out.bel.size
        have HR9 := Lib.hid hr9
        have HK9 := Lib.hid hs9
        have HA9 := Lib.hid hA9
        clear p0 p1 p2 pf s0 s1 s2 s3 s4 y0 y1 y2 yf
        clear ho9 hb9 hr9 hs9 hA9 HWT HFZ HDZ
        generalize hm9 : (wth F.name (drp F.name ls nm) ⟨to_, x.bytes, x.sync⟩).length = m9 at hc9 ⊢
        have HM9 := Lib.hid hm9
        clear hm9
        obtain ⟨p0, p1, p2, pf⟩ := row3 HD9.out.b2
        obtain ⟨q0, q1, q2, qf⟩ := row3 HD9.out.b4
        go_wp2_with fail
        refine bodyPost_ret (res23 _ _ (w.heap.size + 1 + 1) #[.slice A9 m9 c9, .int .i64 (st + 1), .int .i64 lg] (.int .i64 0) rfl rfl ((HD9.out.file (.slice A9 m9 c9)).answer _ _ _) rfl) rfl ?_
        exact RDoQ.yes HE.out (by show renameF ls nm to_ = _; unfold renameF; rw [HX2.out]) rfl HE2.out HM9.out hc9 HA9.out (HR9.out.keep (by simp [World.setCell]) (fun b off e hlt => ((set_other (by have := HNE.out b off e; omega)).trans ((set_other (by have := HNE.out b off e; omega)).trans ((set_other (by have := HNE.out b off e; omega)).trans (set_other (by have := HNE.out b off e; omega))))))) (fun ad e => Nat.le_trans HS9.out (HK9.out ad e).2.1) ((HD9.out.file (.slice A9 m9 c9)).answers _ _ _)
      by_cases w1 : wh = 1
      rotate_left
      · have e0 : decide (wh = 0) = false := decide_eq_false w0
        have e1 : decide (wh = 1) = false := decide_eq_false w1
        have e2 : decide (wh = 2) = false := decide_eq_false w2
        have e3 : decide (wh = 3) = false := decide_eq_false w3
        have f0 : (wh == 0) = false := by simpa using w0
        have f1 : (wh == 1) = false := by simpa using w1
        have f2 : (wh == 2) = false := by simpa using w2
        have f3 : (wh == 3) = false := by simpa using w3
        have HNX : Hid (nextS ls wh nm to_ l N = drp F.name ls nm) := Lib.hid (by unfold nextS; rw [if_neg w0, if_neg w1, if_neg w2, if_neg w3])
        clear w0 w1 w2 w3
        have HDR := Lib.hid (drop_any (some ⟨b, off, none⟩) n c ls nm U HN.out (by omega) (HA.out.below HD4.out.bel))
        obtain ⟨p0, p1, p2, pf⟩ := row3 HD4.out.b2
        obtain ⟨s0, s1, s2, s3, s4⟩ := row5 HD4.out.b3
        obtain ⟨y0, y1, y2, yf⟩ := row3 HFB2.out
        go_wp2_with fail
        refine Calls.mono HDR.out ?_
        rintro e w8 ⟨v8, rfl, ho8, hb8⟩
        obtain ⟨A8, c8, rfl, hc8, hA8, hcm8, hr8, hs8⟩ := own_rdF ho8 rfl
        have HD8 := Lib.hid (HD4.out.next hb8)
        have HF8 := Lib.hid (HFB2.out.next hb8)
        have HS8 := Lib.hid hs8
        have HA8 := Lib.hid hA8
        have HR8 := Lib.hid hr8
        have HB8 : Hid (w.heap.size + 3 ≤ U.heap.size) := Lib.hid HD4.out.sz
        clear p0 p1 p2 pf s0 s1 s2 s3 s4 y0 y1 y2 yf
        clear ho8 hb8 hr8 hs8 hA8 HDR HD4 HFB2
        generalize hm8 : (drp F.name ls nm).length = m8 at hc8 ⊢
        have HM8 := Lib.hid hm8
        have HM8L : Hid (m8 ≤ n) := Lib.hid (by rw [← hm8, ← HN.out]; exact drp_len ls nm)
        clear hm8
        have HNE : Hid (∀ b off, A8 = some (⟨b, off, none⟩ : Addr) → w.heap.size + 3 ≤ b) := Lib.hid (fun b off e => Nat.le_trans HB8.out (HS8.out _ e).2.1)
        clear HF8
        obtain ⟨p0, p1, p2, pf⟩ := row3 HD8.out.b2
        obtain ⟨q0, q1, q2, qf⟩ := row3 HD8.out.b4
        go_wp2_with fail
        refine bodyPost_ret (res23 _ _ (w.heap.size + 1 + 1) #[.slice A8 m8 c8, .int .i64 (st + 1), .int .i64 lg] (.int .i64 0) rfl rfl ((HD8.out.file (.slice A8 m8 c8)).answer _ _ _) rfl) rfl ?_
        exact RDoQ.yes HE.out HNX.out rfl HE2.out HM8.out hc8 HA8.out (HR8.out.keep (by simp [World.setCell]) (fun b off e hlt => ((set_other (by have := HNE.out b off e; omega)).trans ((set_other (by have := HNE.out b off e; omega)).trans ((set_other (by have := HNE.out b off e; omega)).trans (set_other (by have := HNE.out b off e; omega))))))) (fun ad e => by have h1 := (HS8.out ad e).2.1; have h2 := HB8.out; omega) ((HD8.out.file (.slice A8 m8 c8)).answers _ _ _)
      subst w1
      have hN := refS_cut HRX.out HPL.out HXG.out
      have hxs : x.bytes.size ≤ 1048576 ∧ 0 ≤ x.sync ∧ x.sync ≤ x.bytes.size := HS.out x HXM.out
      obtain ⟨k, rfl⟩ : ∃ k : Nat, N = k := ⟨N.toNat, by omega⟩
      have hk : k ≤ x.bytes.size := by omega
      obtain ⟨p0, p1, p2, pf⟩ := row3 HD4.out.b2
      obtain ⟨s0, s1, s2, s3, s4⟩ := row5 HD4.out.b3
      obtain ⟨y0, y1, y2, yf⟩ := row3 HFB2.out
      go_upto_region 26 with (fail)
      have HFZ : Hid (FB nf ⟨x.name, x.bytes.extract 0 k, min x.sync k⟩ ((U.setCell ⟨nf, 1, none⟩ (.string (x.bytes.extract 0 k))).setCell ⟨nf, 2, none⟩ (.int .i64 (min x.sync k)))) := Lib.hid (set_row (set_row HFB2.out))
      have HDZ := Lib.hid ((HD4.out.other HNF.out 1 (.string (x.bytes.extract 0 k))).other HNF.out 2 (.int .i64 (min x.sync k)))
      clear p0 p1 p2 pf s0 s1 s2 s3 s4 y0 y1 y2 yf
      clear HD4 HFB2
      generalize (U.setCell ⟨nf, 1, none⟩ (.string (x.bytes.extract 0 k))).setCell ⟨nf, 2, none⟩ (.int .i64 (min x.sync k)) = V at HFZ HDZ ⊢
      have HWT := Lib.hid (with_any (some ⟨b, off, none⟩) n c ls ⟨x.name, x.bytes.extract 0 k, min x.sync k⟩ V HN.out (by omega) (HA.out.below HDZ.out.bel))
      obtain ⟨p0, p1, p2, pf⟩ := row3 HDZ.out.b2
      obtain ⟨s0, s1, s2, s3, s4⟩ := row5 HDZ.out.b3
      obtain ⟨y0, y1, y2, yf⟩ := row3 HFZ.out
      go_wp2_with fail
      refine Calls.mono HWT.out ?_
      rintro e w9 ⟨v9, rfl, ho9, hb9⟩
      obtain ⟨A9, c9, rfl, hc9, hA9, hcm9, hr9, hs9⟩ := own_rdF ho9 rfl
      have HD9 := Lib.hid (HDZ.out.next hb9)
      have HNE : Hid (∀ b off, A9 = some (⟨b, off, none⟩ : Addr) → w.heap.size + 3 ≤ b) := Lib.hid (fun b off e => Nat.le_trans HDZ.out.sz (hs9 _ e).2.1)
      have HS9 : Hid (w.heap.size ≤ V.heap.size) := Lib.hid HDZ.out.bel.size
      have HR9 := Lib.hid hr9
      have HK9 := Lib.hid hs9
      have HA9 := Lib.hid hA9
      clear p0 p1 p2 pf s0 s1 s2 s3 s4 y0 y1 y2 yf
      clear ho9 hb9 hr9 hs9 hA9 HWT HFZ HDZ
      generalize hm9 : (wth F.name ls ⟨x.name, x.bytes.extract 0 k, min x.sync k⟩).length = m9 at hc9 ⊢
      have HM9 := Lib.hid hm9
      clear hm9
      obtain ⟨p0, p1, p2, pf⟩ := row3 HD9.out.b2
      obtain ⟨q0, q1, q2, qf⟩ := row3 HD9.out.b4
      go_wp2_with fail
      refine bodyPost_ret (res23 _ _ (w.heap.size + 1 + 1) #[.slice A9 m9 c9, .int .i64 (st + 1), .int .i64 lg] (.int .i64 0) rfl rfl ((HD9.out.file (.slice A9 m9 c9)).answer _ _ _) rfl) rfl ?_
      exact RDoQ.yes HE.out (by show cutS ls nm (k : Int).toNat = _; unfold cutS; rw [HX2.out, HXN.out, Int.toNat_natCast, extract_take]) rfl HE2.out HM9.out hc9 HA9.out (HR9.out.keep (by simp [World.setCell]) (fun b off e hlt => ((set_other (by have := HNE.out b off e; omega)).trans ((set_other (by have := HNE.out b off e; omega)).trans ((set_other (by have := HNE.out b off e; omega)).trans (set_other (by have := HNE.out b off e; omega))))))) (fun ad e => Nat.le_trans HS9.out (HK9.out ad e).2.1) ((HD9.out.file (.slice A9 m9 c9)).answers _ _ _)
    · have hfn := find_no hfd
      have hfi : findI ls nm = -1 := by unfold findI; rw [if_neg hfd]
      rw [hfi] at HF
      clear hfi
      have HFN := Lib.hid hfn
      clear hfn
      by_cases w0 : wh = 0
      rotate_left
      · have h9 := HR.out
        unfold refS at h9
        rw [if_neg hfd, if_pos w0] at h9
        split at h9
        · omega
        split at h9
        · omega
        omega
      subst w0
      clear hfd
      go_wp2_with fail
      refine Calls.mono HF.out ?_
      rintro e w' ⟨rfl, rfl⟩
      clear HF
      go_upto_region 11 with (fail)
      have HD3 := Lib.hid (HD2.out.next (below_new Y (.cells #[.string nm, .string ⟨#[]⟩, .int .i64 0] 27)))
      have HFB : Hid (FB Y.heap.size ⟨nm, ⟨#[]⟩, 0⟩ (Y.alloc (.cells #[.string nm, .string ⟨#[]⟩, .int .i64 0] 27))) := Lib.hid (heap_alloc_new Y _)
      have HNF := Lib.hid HD2.out.sz
      clear p0 p1 p2 pf s0 s1 s2 s3 s4 HD2
      generalize Y.alloc (.cells #[.string nm, .string ⟨#[]⟩, .int .i64 0] 27) = Z at HD3 HFB ⊢
      generalize Y.heap.size = nf at HFB HNF ⊢
      obtain ⟨p0, p1, p2, pf⟩ := row3 HD3.out.b2
      obtain ⟨s0, s1, s2, s3, s4⟩ := row5 HD3.out.b3
      have HD4 := HD3
      have HFB2 := HFB
      clear HD3 HFB p0 p1 p2 pf s0 s1 s2 s3 s4
      go_upto_region 13 with (fail)
      have hcv : (convert 35 9 (.slice Ab nb cb)).run Try.prog Z = .ok (.string ⟨l.toArray⟩) Z := by
        have h1 := conv_rd (w := Z) (l := l) (A := Ab) (c := cb) HOB.out (by rw [HL.out]; exact hcb) (HRB.out.below HD4.out.bel)
        rw [HL.out] at h1
        exact h1
      have hz : (⟨l.toArray⟩ : ByteArray).size = nb := by rw [← HL.out]; rfl
      have HBA := Lib.hid (bytes_app (⟨#[]⟩ : ByteArray) l)
      generalize (⟨l.toArray⟩ : ByteArray) = sb at hcv hz HBA
      obtain ⟨p0, p1, p2, pf⟩ := row3 HD4.out.b2
      obtain ⟨s0, s1, s2, s3, s4⟩ := row5 HD4.out.b3
      obtain ⟨y0, y1, y2, yf⟩ := row3 HFB2.out
      go_upto_region 26 with (fail)
      have HFZ : Hid (FB nf ⟨nm, (⟨#[]⟩ : ByteArray) ++ sb, 0⟩ (Z.setCell ⟨nf, 1, none⟩ (.string ((⟨#[]⟩ : ByteArray) ++ sb)))) := Lib.hid (set_row HFB2.out)
      have HDZ := Lib.hid (HD4.out.other HNF.out 1 (.string ((⟨#[]⟩ : ByteArray) ++ sb)))
      clear p0 p1 p2 pf s0 s1 s2 s3 s4 y0 y1 y2 yf
      clear HD4 HFB2 hcv
      generalize Z.setCell ⟨nf, 1, none⟩ (.string ((⟨#[]⟩ : ByteArray) ++ sb)) = V at HFZ HDZ ⊢
      have HWT := Lib.hid (with_any A n c ls ⟨nm, (⟨#[]⟩ : ByteArray) ++ sb, 0⟩ V HN.out (by omega) (HA.out.below HDZ.out.bel))
      obtain ⟨p0, p1, p2, pf⟩ := row3 HDZ.out.b2
      obtain ⟨s0, s1, s2, s3, s4⟩ := row5 HDZ.out.b3
      obtain ⟨y0, y1, y2, yf⟩ := row3 HFZ.out
      go_wp2_with fail
      refine Calls.mono HWT.out ?_
      rintro e w9 ⟨v9, rfl, ho9, hb9⟩
      obtain ⟨A9, c9, rfl, hc9, hA9, hcm9, hr9, hs9⟩ := own_rdF ho9 rfl
      have HD9 := Lib.hid (HDZ.out.next hb9)
      have HNE : Hid (∀ b off, A9 = some (⟨b, off, none⟩ : Addr) → w.heap.size + 3 ≤ b) := Lib.hid (fun b off e => Nat.le_trans HDZ.out.sz (hs9 _ e).2.1)
      have HS9 : Hid (w.heap.size ≤ V.heap.size) := Lib.hid HDZ.out.bel.size
      have HR9 := Lib.hid hr9
      have HK9 := Lib.hid hs9
      have HA9 := Lib.hid hA9
      clear p0 p1 p2 pf s0 s1 s2 s3 s4 y0 y1 y2 yf
      clear ho9 hb9 hr9 hs9 hA9 HWT HFZ HDZ
      generalize hm9 : (wth F.name ls ⟨nm, (⟨#[]⟩ : ByteArray) ++ sb, 0⟩).length = m9 at hc9 ⊢
      have HM9 := Lib.hid hm9
      clear hm9
      obtain ⟨p0, p1, p2, pf⟩ := row3 HD9.out.b2
      obtain ⟨q0, q1, q2, qf⟩ := row3 HD9.out.b4
      go_wp2_with fail
      refine bodyPost_ret (res23 _ _ (w.heap.size + 1 + 1) #[.slice A9 m9 c9, .int .i64 (st + 1), .int .i64 lg] (.int .i64 0) rfl rfl ((HD9.out.file (.slice A9 m9 c9)).answer _ _ _) rfl) rfl ?_
      exact RDoQ.yes HE.out (by show appendF ls nm l = _; unfold appendF; rw [HFN.out, HBA.out]; rfl) rfl HE2.out HM9.out hc9 HA9.out (HR9.out.keep (by simp [World.setCell]) (fun b off e hlt => ((set_other (by have := HNE.out b off e; omega)).trans ((set_other (by have := HNE.out b off e; omega)).trans ((set_other (by have := HNE.out b off e; omega)).trans (set_other (by have := HNE.out b off e; omega))))))) (fun ad e => Nat.le_trans HS9.out (HK9.out ad e).2.1) ((HD9.out.file (.slice A9 m9 c9)).answers _ _ _)
  · have d0 : decide (lf = 0) = false := decide_eq_false hz
    have g0 : (lf == 0) = false := by simpa using hz
    have dp : decide (0 < lf) = false := decide_eq_false hp
    obtain ⟨p0, p1, p2, pf⟩ := row3 HD.out.b2
    go_upto_region 9 with (fail)
    have HE2 : Hid (lf = if 0 < lf then lf - 1 else lf) := Lib.hid (by rw [if_neg (by omega)])
    have HD2 := Lib.hid (HD.out.step (st + 1))
    clear p0 p1 p2 pf HD
    generalize X.setCell ⟨w.heap.size, 1, none⟩ (.int .i64 (st + 1)) = Y at HD2 ⊢
    obtain ⟨lg, hlg⟩ : ∃ lg, lg = lf := ⟨_, rfl⟩
    rw [← hlg] at HD2
    have HE3 : Hid (lg = if 0 < lf then lf - 1 else lf) := Lib.hid (by rw [hlg]; exact HE2.out)
    clear HE2 hlg
    have HE2 := HE3
    clear HE3
    clear HAX
    clear d0 g0 dp hp
    obtain ⟨p0, p1, p2, pf⟩ := row3 HD2.out.b2
    obtain ⟨s0, s1, s2, s3, s4⟩ := row5 HD2.out.b3
    have HF := Lib.hid (find_any A n c ls nm Y HN.out (by omega) (HA.out.below HD2.out.bel))
    by_cases hfd : placeF ls nm < ls.length
    · obtain ⟨x, hx1, hx2⟩ := find_at hfd
      have hfi : findI ls nm = placeF ls nm := by unfold findI; rw [if_pos hfd]
      have hpn : placeF ls nm < n := by have := HN.out; omega
      rw [hfi] at HF
      obtain ⟨b, off, hA, hb, k0, k1, k2⟩ := (HA.out.below HD2.out.bel).at hfd
      have hxe : ls[placeF ls nm]'hfd = x := by rw [List.getElem?_eq_getElem hfd] at hx1; exact Option.some.inj hx1
      rw [hxe] at k0 k1 k2
      have HXM : Hid (x ∈ ls) := Lib.hid (by rw [← hxe]; exact List.getElem_mem hfd)
      have HX2 := Lib.hid hx2
      have hxn : x.name = nm := (fnd_mem hx2).2
      have HXN := Lib.hid hxn
      have HRX : Hid (refS ls wh nm to_ nb N = 0) := HR
      have HPL := Lib.hid hfd
      have HXG : Hid (ls.getD (placeF ls nm) ⟨⟨#[]⟩, ⟨#[]⟩, 0⟩ = x) := Lib.hid (by rw [List.getD_eq_getElem?_getD, hx1]; rfl)
      have HX1 := Lib.hid hx1
      clear hx1 hx2 hfi hxe hxn HR
      generalize hpl : placeF ls nm = pl at hpn k0 k1 k2 HF HX1
      have HPE := Lib.hid hpl
      clear hpl hfd
      subst hA
      clear k0 k1 k2
      go_wp2_with fail
      refine Calls.mono HF.out ?_
      rintro e w' ⟨rfl, rfl⟩
      clear HF
      go_upto_region 11 with (fail)
      have HD3 := Lib.hid (HD2.out.next (below_new Y (.cells #[.string nm, .string ⟨#[]⟩, .int .i64 0] 27)))
      have HFB : Hid (FB Y.heap.size ⟨nm, ⟨#[]⟩, 0⟩ (Y.alloc (.cells #[.string nm, .string ⟨#[]⟩, .int .i64 0] 27))) := Lib.hid (heap_alloc_new Y _)
      have HNF := Lib.hid HD2.out.sz
      clear p0 p1 p2 pf s0 s1 s2 s3 s4 HD2
      generalize Y.alloc (.cells #[.string nm, .string ⟨#[]⟩, .int .i64 0] 27) = Z at HD3 HFB ⊢
      generalize Y.heap.size = nf at HFB HNF ⊢
      obtain ⟨p0, p1, p2, pf⟩ := row3 HD3.out.b2
      obtain ⟨s0, s1, s2, s3, s4⟩ := row5 HD3.out.b3
      obtain ⟨y0, y1, y2, yf⟩ := row3 HFB.out
      obtain ⟨k0, k1, k2⟩ := (HA.out.below HD3.out.bel).three HX1.out
      go_upto_region 13 with (fail)
      have HFB2 := Lib.hid (HFB.out.setf x)
      have HD4 := Lib.hid (((HD3.out.other HNF.out 0 (.string x.name)).other HNF.out 1 (.string x.bytes)).other HNF.out 2 (.int .i64 x.sync))
      clear p0 p1 p2 pf s0 s1 s2 s3 s4 y0 y1 y2 yf k0 k1 k2 HD3 HFB
      generalize ((Z.setCell ⟨nf, 0, none⟩ (.string x.name)).setCell ⟨nf, 1, none⟩ (.string x.bytes)).setCell ⟨nf, 2, none⟩ (.int .i64 x.sync) = U at HFB2 HD4 ⊢
      by_cases w0 : wh = 0
      · subst w0
        have hcv : (convert 35 9 (.slice Ab nb cb)).run Try.prog U = .ok (.string ⟨l.toArray⟩) U := by
          have h1 := conv_rd (w := U) (l := l) (A := Ab) (c := cb) HOB.out (by rw [HL.out]; exact hcb) (HRB.out.below HD4.out.bel)
          rw [HL.out] at h1
          exact h1
        have hz : (⟨l.toArray⟩ : ByteArray).size = nb := by rw [← HL.out]; rfl
        have HBA := Lib.hid (bytes_app x.bytes l)
        generalize (⟨l.toArray⟩ : ByteArray) = sb at hcv hz HBA
        have hxz : x.bytes.size ≤ 1048576 := (HS.out x HXM.out).1
        obtain ⟨p0, p1, p2, pf⟩ := row3 HD4.out.b2
        obtain ⟨s0, s1, s2, s3, s4⟩ := row5 HD4.out.b3
        obtain ⟨y0, y1, y2, yf⟩ := row3 HFB2.out
        go_upto_region 26 with (fail)
        have HFZ : Hid (FB nf ⟨x.name, x.bytes ++ sb, x.sync⟩ (U.setCell ⟨nf, 1, none⟩ (.string (x.bytes ++ sb)))) := Lib.hid (set_row HFB2.out)
        have HDZ := Lib.hid (HD4.out.other HNF.out 1 (.string (x.bytes ++ sb)))
        clear p0 p1 p2 pf s0 s1 s2 s3 s4 y0 y1 y2 yf
        clear HD4 HFB2 hcv
        generalize U.setCell ⟨nf, 1, none⟩ (.string (x.bytes ++ sb)) = V at HFZ HDZ ⊢
        have HWT := Lib.hid (with_any (some ⟨b, off, none⟩) n c ls ⟨x.name, x.bytes ++ sb, x.sync⟩ V HN.out (by omega) (HA.out.below HDZ.out.bel))
        obtain ⟨p0, p1, p2, pf⟩ := row3 HDZ.out.b2
        obtain ⟨s0, s1, s2, s3, s4⟩ := row5 HDZ.out.b3
        obtain ⟨y0, y1, y2, yf⟩ := row3 HFZ.out
        go_wp2_with fail
        refine Calls.mono HWT.out ?_
        rintro e w9 ⟨v9, rfl, ho9, hb9⟩
        obtain ⟨A9, c9, rfl, hc9, hA9, hcm9, hr9, hs9⟩ := own_rdF ho9 rfl
        have HD9 := Lib.hid (HDZ.out.next hb9)
        have HNE : Hid (∀ b off, A9 = some (⟨b, off, none⟩ : Addr) → w.heap.size + 3 ≤ b) := Lib.hid (fun b off e => Nat.le_trans HDZ.out.sz (hs9 _ e).2.1)
        have HS9 : Hid (w.heap.size ≤ V.heap.size) := Lib.hid HDZ.out.bel.size
        have HR9 := Lib.hid hr9
        have HK9 := Lib.hid hs9
        have HA9 := Lib.hid hA9
        clear p0 p1 p2 pf s0 s1 s2 s3 s4 y0 y1 y2 yf
        clear ho9 hb9 hr9 hs9 hA9 HWT HFZ HDZ
        generalize hm9 : (wth F.name ls ⟨x.name, x.bytes ++ sb, x.sync⟩).length = m9 at hc9 ⊢
        have HM9 := Lib.hid hm9
        clear hm9
        obtain ⟨p0, p1, p2, pf⟩ := row3 HD9.out.b2
        obtain ⟨q0, q1, q2, qf⟩ := row3 HD9.out.b4
        go_wp2_with fail
        refine bodyPost_ret (res23 _ _ (w.heap.size + 1 + 1) #[.slice A9 m9 c9, .int .i64 (st + 1), .int .i64 lg] (.int .i64 0) rfl rfl ((HD9.out.file (.slice A9 m9 c9)).answer _ _ _) rfl) rfl ?_
        exact RDoQ.yes HE.out (by show appendF ls nm l = _; unfold appendF; rw [HX2.out, HBA.out, HXN.out]) rfl HE2.out HM9.out hc9 HA9.out (HR9.out.keep (by simp [World.setCell]) (fun b off e hlt => ((set_other (by have := HNE.out b off e; omega)).trans ((set_other (by have := HNE.out b off e; omega)).trans ((set_other (by have := HNE.out b off e; omega)).trans (set_other (by have := HNE.out b off e; omega))))))) (fun ad e => Nat.le_trans HS9.out (HK9.out ad e).2.1) ((HD9.out.file (.slice A9 m9 c9)).answers _ _ _)
      by_cases w2 : wh = 2
      · subst w2
        obtain ⟨p0, p1, p2, pf⟩ := row3 HD4.out.b2
        obtain ⟨s0, s1, s2, s3, s4⟩ := row5 HD4.out.b3
        obtain ⟨y0, y1, y2, yf⟩ := row3 HFB2.out
        go_upto_region 26 with (fail)
        have HFZ : Hid (FB nf ⟨x.name, x.bytes, x.bytes.size⟩ (U.setCell ⟨nf, 2, none⟩ (.int .i64 x.bytes.size))) := Lib.hid (set_row HFB2.out)
        have HDZ := Lib.hid (HD4.out.other HNF.out 2 (.int .i64 x.bytes.size))
        clear p0 p1 p2 pf s0 s1 s2 s3 s4 y0 y1 y2 yf
        clear HD4 HFB2
        generalize U.setCell ⟨nf, 2, none⟩ (.int .i64 x.bytes.size) = V at HFZ HDZ ⊢
        have HWT := Lib.hid (with_any (some ⟨b, off, none⟩) n c ls ⟨x.name, x.bytes, x.bytes.size⟩ V HN.out (by omega) (HA.out.below HDZ.out.bel))
        obtain ⟨p0, p1, p2, pf⟩ := row3 HDZ.out.b2
        obtain ⟨s0, s1, s2, s3, s4⟩ := row5 HDZ.out.b3
        obtain ⟨y0, y1, y2, yf⟩ := row3 HFZ.out
        go_wp2_with fail
        refine Calls.mono HWT.out ?_
        rintro e w9 ⟨v9, rfl, ho9, hb9⟩
        obtain ⟨A9, c9, rfl, hc9, hA9, hcm9, hr9, hs9⟩ := own_rdF ho9 rfl
        have HD9 := Lib.hid (HDZ.out.next hb9)
        have HNE : Hid (∀ b off, A9 = some (⟨b, off, none⟩ : Addr) → w.heap.size + 3 ≤ b) := Lib.hid (fun b off e => Nat.le_trans HDZ.out.sz (hs9 _ e).2.1)
        have HS9 : Hid (w.heap.size ≤ V.heap.size) := Lib.hid HDZ.out.bel.size
        have HR9 := Lib.hid hr9
        have HK9 := Lib.hid hs9
        have HA9 := Lib.hid hA9
        clear p0 p1 p2 pf s0 s1 s2 s3 s4 y0 y1 y2 yf
        clear ho9 hb9 hr9 hs9 hA9 HWT HFZ HDZ
        generalize hm9 : (wth F.name ls ⟨x.name, x.bytes, x.bytes.size⟩).length = m9 at hc9 ⊢
        have HM9 := Lib.hid hm9
        clear hm9
        obtain ⟨p0, p1, p2, pf⟩ := row3 HD9.out.b2
        obtain ⟨q0, q1, q2, qf⟩ := row3 HD9.out.b4
        go_wp2_with fail
        refine bodyPost_ret (res23 _ _ (w.heap.size + 1 + 1) #[.slice A9 m9 c9, .int .i64 (st + 1), .int .i64 lg] (.int .i64 0) rfl rfl ((HD9.out.file (.slice A9 m9 c9)).answer _ _ _) rfl) rfl ?_
        exact RDoQ.yes HE.out (by show syncF ls nm = _; unfold syncF; rw [HX2.out, HXN.out]) rfl HE2.out HM9.out hc9 HA9.out (HR9.out.keep (by simp [World.setCell]) (fun b off e hlt => ((set_other (by have := HNE.out b off e; omega)).trans ((set_other (by have := HNE.out b off e; omega)).trans ((set_other (by have := HNE.out b off e; omega)).trans (set_other (by have := HNE.out b off e; omega))))))) (fun ad e => Nat.le_trans HS9.out (HK9.out ad e).2.1) ((HD9.out.file (.slice A9 m9 c9)).answers _ _ _)
      have HNFU : Hid (nf < U.heap.size) := Lib.hid (lt_of_block HFB2.out)
      by_cases w3 : wh = 3
      · subst w3
        have HDR := Lib.hid (drop_any (some ⟨b, off, none⟩) n c ls nm U HN.out (by omega) (HA.out.below HD4.out.bel))
        obtain ⟨p0, p1, p2, pf⟩ := row3 HD4.out.b2
        obtain ⟨s0, s1, s2, s3, s4⟩ := row5 HD4.out.b3
        obtain ⟨y0, y1, y2, yf⟩ := row3 HFB2.out
        go_wp2_with fail
        refine Calls.mono HDR.out ?_
        rintro e w8 ⟨v8, rfl, ho8, hb8⟩
        obtain ⟨A8, c8, rfl, hc8, hA8, hcm8, hr8, hs8⟩ := own_rdF ho8 rfl
        have HD8 := Lib.hid (HD4.out.next hb8)
        have HF8 := Lib.hid (HFB2.out.next hb8)
        have HS8 := Lib.hid hs8
        have HA8 := Lib.hid hA8
        have HR8 := Lib.hid hr8
        have HB8 : Hid (w.heap.size + 3 ≤ U.heap.size) := Lib.hid HD4.out.sz
        clear p0 p1 p2 pf s0 s1 s2 s3 s4 y0 y1 y2 yf
        clear ho8 hb8 hr8 hs8 hA8 HDR HD4 HFB2
        generalize hm8 : (drp F.name ls nm).length = m8 at hc8 ⊢
        have HM8 := Lib.hid hm8
        have HM8L : Hid (m8 ≤ n) := Lib.hid (by rw [← hm8, ← HN.out]; exact drp_len ls nm)
        clear hm8
        obtain ⟨p0, p1, p2, pf⟩ := row3 HD8.out.b2
        obtain ⟨s0, s1, s2, s3, s4⟩ := row5 HD8.out.b3
        obtain ⟨y0, y1, y2, yf⟩ := row3 HF8.out
        have hnf9 : w.heap.size < nf := by have := HNF.out; omega
        have y0s : ∀ v, (w8.setCell ⟨w.heap.size, 0, none⟩ v).cell? ⟨nf, 0, none⟩ = some (.string x.name) := fun v => (World.cell?_setCell_other w8 ⟨w.heap.size, 0, none⟩ ⟨nf, 0, none⟩ v (by intro h; injection h; omega)).trans y0
        go_upto_region 26 with (fail)
        clear y0s hnf9
        have HDZ := Lib.hid ((HD8.out.file (.slice A8 m8 c8)).other HNF.out 0 (.string to_))
        have HFZ : Hid (FB nf ⟨to_, x.bytes, x.sync⟩ ((w8.setCell ⟨w.heap.size, 0, none⟩ (.slice A8 m8 c8)).setCell ⟨nf, 0, none⟩ (.string to_))) := Lib.hid (set_row ((set_other (by have := HNF.out; omega)).trans HF8.out))
        have HR8Z : Hid (RdF ((w8.setCell ⟨w.heap.size, 0, none⟩ (.slice A8 m8 c8)).setCell ⟨nf, 0, none⟩ (.string to_)) A8 (drp F.name ls nm)) := Lib.hid (HR8.out.keep (by simp [World.setCell]) (fun b off e hlt => (set_other (by have h1 := (HS8.out _ e).2.1; have h2 := HB8.out; have h3 := HNFU.out; simp only at h1; omega)).trans (set_other (by have h1 := (HS8.out _ e).2.1; have h2 := HB8.out; simp only at h1; omega))))
        clear p0 p1 p2 pf s0 s1 s2 s3 s4 y0 y1 y2 yf
        clear HD8 HF8 HR8
        generalize (w8.setCell ⟨w.heap.size, 0, none⟩ (.slice A8 m8 c8)).setCell ⟨nf, 0, none⟩ (.string to_) = V at HFZ HDZ HR8Z ⊢
        have HWT := Lib.hid (with_any A8 m8 c8 (drp F.name ls nm) ⟨to_, x.bytes, x.sync⟩ V HM8.out (by have := HM8L.out; omega) HR8Z.out)
        obtain ⟨p0, p1, p2, pf⟩ := row3 HDZ.out.b2
        obtain ⟨s0, s1, s2, s3, s4⟩ := row5 HDZ.out.b3
        obtain ⟨y0, y1, y2, yf⟩ := row3 HFZ.out
        go_wp2_with fail
        refine Calls.mono HWT.out ?_
        rintro e w9 ⟨v9, rfl, ho9, hb9⟩
        obtain ⟨A9, c9, rfl, hc9, hA9, hcm9, hr9, hs9⟩ := own_rdF ho9 rfl
        have HD9 := Lib.hid (HDZ.out.next hb9)
        have HNE : Hid (∀ b off, A9 = some (⟨b, off, none⟩ : Addr) → w.heap.size + 3 ≤ b) := Lib.hid (fun b off e => Nat.le_trans HDZ.out.sz (hs9 _ e).2.1)
        have HS9 : Hid (w.heap.size ≤ V.heap.size) := Lib.hid HDZ.out.bel.size
        have HR9 := Lib.hid hr9
        have HK9 := Lib.hid hs9
        have HA9 := Lib.hid hA9
        clear p0 p1 p2 pf s0 s1 s2 s3 s4 y0 y1 y2 yf
        clear ho9 hb9 hr9 hs9 hA9 HWT HFZ HDZ
        generalize hm9 : (wth F.name (drp F.name ls nm) ⟨to_, x.bytes, x.sync⟩).length = m9 at hc9 ⊢
        have HM9 := Lib.hid hm9
        clear hm9
        obtain ⟨p0, p1, p2, pf⟩ := row3 HD9.out.b2
        obtain ⟨q0, q1, q2, qf⟩ := row3 HD9.out.b4
        go_wp2_with fail
        refine bodyPost_ret (res23 _ _ (w.heap.size + 1 + 1) #[.slice A9 m9 c9, .int .i64 (st + 1), .int .i64 lg] (.int .i64 0) rfl rfl ((HD9.out.file (.slice A9 m9 c9)).answer _ _ _) rfl) rfl ?_
        exact RDoQ.yes HE.out (by show renameF ls nm to_ = _; unfold renameF; rw [HX2.out]) rfl HE2.out HM9.out hc9 HA9.out (HR9.out.keep (by simp [World.setCell]) (fun b off e hlt => ((set_other (by have := HNE.out b off e; omega)).trans ((set_other (by have := HNE.out b off e; omega)).trans ((set_other (by have := HNE.out b off e; omega)).trans (set_other (by have := HNE.out b off e; omega))))))) (fun ad e => Nat.le_trans HS9.out (HK9.out ad e).2.1) ((HD9.out.file (.slice A9 m9 c9)).answers _ _ _)
      by_cases w1 : wh = 1
      rotate_left
      · have e0 : decide (wh = 0) = false := decide_eq_false w0
        have e1 : decide (wh = 1) = false := decide_eq_false w1
        have e2 : decide (wh = 2) = false := decide_eq_false w2
        have e3 : decide (wh = 3) = false := decide_eq_false w3
        have f0 : (wh == 0) = false := by simpa using w0
        have f1 : (wh == 1) = false := by simpa using w1
        have f2 : (wh == 2) = false := by simpa using w2
        have f3 : (wh == 3) = false := by simpa using w3
        have HNX : Hid (nextS ls wh nm to_ l N = drp F.name ls nm) := Lib.hid (by unfold nextS; rw [if_neg w0, if_neg w1, if_neg w2, if_neg w3])
        clear w0 w1 w2 w3
        have HDR := Lib.hid (drop_any (some ⟨b, off, none⟩) n c ls nm U HN.out (by omega) (HA.out.below HD4.out.bel))
        obtain ⟨p0, p1, p2, pf⟩ := row3 HD4.out.b2
        obtain ⟨s0, s1, s2, s3, s4⟩ := row5 HD4.out.b3
        obtain ⟨y0, y1, y2, yf⟩ := row3 HFB2.out
        go_wp2_with fail
        refine Calls.mono HDR.out ?_
        rintro e w8 ⟨v8, rfl, ho8, hb8⟩
        obtain ⟨A8, c8, rfl, hc8, hA8, hcm8, hr8, hs8⟩ := own_rdF ho8 rfl
        have HD8 := Lib.hid (HD4.out.next hb8)
        have HF8 := Lib.hid (HFB2.out.next hb8)
        have HS8 := Lib.hid hs8
        have HA8 := Lib.hid hA8
        have HR8 := Lib.hid hr8
        have HB8 : Hid (w.heap.size + 3 ≤ U.heap.size) := Lib.hid HD4.out.sz
        clear p0 p1 p2 pf s0 s1 s2 s3 s4 y0 y1 y2 yf
        clear ho8 hb8 hr8 hs8 hA8 HDR HD4 HFB2
        generalize hm8 : (drp F.name ls nm).length = m8 at hc8 ⊢
        have HM8 := Lib.hid hm8
        have HM8L : Hid (m8 ≤ n) := Lib.hid (by rw [← hm8, ← HN.out]; exact drp_len ls nm)
        clear hm8
        have HNE : Hid (∀ b off, A8 = some (⟨b, off, none⟩ : Addr) → w.heap.size + 3 ≤ b) := Lib.hid (fun b off e => Nat.le_trans HB8.out (HS8.out _ e).2.1)
        clear HF8
        obtain ⟨p0, p1, p2, pf⟩ := row3 HD8.out.b2
        obtain ⟨q0, q1, q2, qf⟩ := row3 HD8.out.b4
        go_wp2_with fail
        refine bodyPost_ret (res23 _ _ (w.heap.size + 1 + 1) #[.slice A8 m8 c8, .int .i64 (st + 1), .int .i64 lg] (.int .i64 0) rfl rfl ((HD8.out.file (.slice A8 m8 c8)).answer _ _ _) rfl) rfl ?_
        exact RDoQ.yes HE.out HNX.out rfl HE2.out HM8.out hc8 HA8.out (HR8.out.keep (by simp [World.setCell]) (fun b off e hlt => ((set_other (by have := HNE.out b off e; omega)).trans ((set_other (by have := HNE.out b off e; omega)).trans ((set_other (by have := HNE.out b off e; omega)).trans (set_other (by have := HNE.out b off e; omega))))))) (fun ad e => by have h1 := (HS8.out ad e).2.1; have h2 := HB8.out; omega) ((HD8.out.file (.slice A8 m8 c8)).answers _ _ _)
      subst w1
      have hN := refS_cut HRX.out HPL.out HXG.out
      have hxs : x.bytes.size ≤ 1048576 ∧ 0 ≤ x.sync ∧ x.sync ≤ x.bytes.size := HS.out x HXM.out
      obtain ⟨k, rfl⟩ : ∃ k : Nat, N = k := ⟨N.toNat, by omega⟩
      have hk : k ≤ x.bytes.size := by omega
      obtain ⟨p0, p1, p2, pf⟩ := row3 HD4.out.b2
      obtain ⟨s0, s1, s2, s3, s4⟩ := row5 HD4.out.b3
      obtain ⟨y0, y1, y2, yf⟩ := row3 HFB2.out
      go_upto_region 26 with (fail)
      have HFZ : Hid (FB nf ⟨x.name, x.bytes.extract 0 k, min x.sync k⟩ ((U.setCell ⟨nf, 1, none⟩ (.string (x.bytes.extract 0 k))).setCell ⟨nf, 2, none⟩ (.int .i64 (min x.sync k)))) := Lib.hid (set_row (set_row HFB2.out))
      have HDZ := Lib.hid ((HD4.out.other HNF.out 1 (.string (x.bytes.extract 0 k))).other HNF.out 2 (.int .i64 (min x.sync k)))
      clear p0 p1 p2 pf s0 s1 s2 s3 s4 y0 y1 y2 yf
      clear HD4 HFB2
      generalize (U.setCell ⟨nf, 1, none⟩ (.string (x.bytes.extract 0 k))).setCell ⟨nf, 2, none⟩ (.int .i64 (min x.sync k)) = V at HFZ HDZ ⊢
      have HWT := Lib.hid (with_any (some ⟨b, off, none⟩) n c ls ⟨x.name, x.bytes.extract 0 k, min x.sync k⟩ V HN.out (by omega) (HA.out.below HDZ.out.bel))
      obtain ⟨p0, p1, p2, pf⟩ := row3 HDZ.out.b2
      obtain ⟨s0, s1, s2, s3, s4⟩ := row5 HDZ.out.b3
      obtain ⟨y0, y1, y2, yf⟩ := row3 HFZ.out
      go_wp2_with fail
      refine Calls.mono HWT.out ?_
      rintro e w9 ⟨v9, rfl, ho9, hb9⟩
      obtain ⟨A9, c9, rfl, hc9, hA9, hcm9, hr9, hs9⟩ := own_rdF ho9 rfl
      have HD9 := Lib.hid (HDZ.out.next hb9)
      have HNE : Hid (∀ b off, A9 = some (⟨b, off, none⟩ : Addr) → w.heap.size + 3 ≤ b) := Lib.hid (fun b off e => Nat.le_trans HDZ.out.sz (hs9 _ e).2.1)
      have HS9 : Hid (w.heap.size ≤ V.heap.size) := Lib.hid HDZ.out.bel.size
      have HR9 := Lib.hid hr9
      have HK9 := Lib.hid hs9
      have HA9 := Lib.hid hA9
      clear p0 p1 p2 pf s0 s1 s2 s3 s4 y0 y1 y2 yf
      clear ho9 hb9 hr9 hs9 hA9 HWT HFZ HDZ
      generalize hm9 : (wth F.name ls ⟨x.name, x.bytes.extract 0 k, min x.sync k⟩).length = m9 at hc9 ⊢
      have HM9 := Lib.hid hm9
      clear hm9
      obtain ⟨p0, p1, p2, pf⟩ := row3 HD9.out.b2
      obtain ⟨q0, q1, q2, qf⟩ := row3 HD9.out.b4
      go_wp2_with fail
      refine bodyPost_ret (res23 _ _ (w.heap.size + 1 + 1) #[.slice A9 m9 c9, .int .i64 (st + 1), .int .i64 lg] (.int .i64 0) rfl rfl ((HD9.out.file (.slice A9 m9 c9)).answer _ _ _) rfl) rfl ?_
      exact RDoQ.yes HE.out (by show cutS ls nm (k : Int).toNat = _; unfold cutS; rw [HX2.out, HXN.out, Int.toNat_natCast, extract_take]) rfl HE2.out HM9.out hc9 HA9.out (HR9.out.keep (by simp [World.setCell]) (fun b off e hlt => ((set_other (by have := HNE.out b off e; omega)).trans ((set_other (by have := HNE.out b off e; omega)).trans ((set_other (by have := HNE.out b off e; omega)).trans (set_other (by have := HNE.out b off e; omega))))))) (fun ad e => Nat.le_trans HS9.out (HK9.out ad e).2.1) ((HD9.out.file (.slice A9 m9 c9)).answers _ _ _)
    · have hfn := find_no hfd
      have hfi : findI ls nm = -1 := by unfold findI; rw [if_neg hfd]
      rw [hfi] at HF
      clear hfi
      have HFN := Lib.hid hfn
      clear hfn
      by_cases w0 : wh = 0
      rotate_left
      · have h9 := HR.out
        unfold refS at h9
        rw [if_neg hfd, if_pos w0] at h9
        split at h9
        · omega
        split at h9
        · omega
        omega
      subst w0
      clear hfd
      go_wp2_with fail
      refine Calls.mono HF.out ?_
      rintro e w' ⟨rfl, rfl⟩
      clear HF
      go_upto_region 11 with (fail)
      have HD3 := Lib.hid (HD2.out.next (below_new Y (.cells #[.string nm, .string ⟨#[]⟩, .int .i64 0] 27)))
      have HFB : Hid (FB Y.heap.size ⟨nm, ⟨#[]⟩, 0⟩ (Y.alloc (.cells #[.string nm, .string ⟨#[]⟩, .int .i64 0] 27))) := Lib.hid (heap_alloc_new Y _)
      have HNF := Lib.hid HD2.out.sz
      clear p0 p1 p2 pf s0 s1 s2 s3 s4 HD2
      generalize Y.alloc (.cells #[.string nm, .string ⟨#[]⟩, .int .i64 0] 27) = Z at HD3 HFB ⊢
      generalize Y.heap.size = nf at HFB HNF ⊢
      obtain ⟨p0, p1, p2, pf⟩ := row3 HD3.out.b2
      obtain ⟨s0, s1, s2, s3, s4⟩ := row5 HD3.out.b3
      have HD4 := HD3
      have HFB2 := HFB
      clear HD3 HFB p0 p1 p2 pf s0 s1 s2 s3 s4
      go_upto_region 13 with (fail)
      have hcv : (convert 35 9 (.slice Ab nb cb)).run Try.prog Z = .ok (.string ⟨l.toArray⟩) Z := by
        have h1 := conv_rd (w := Z) (l := l) (A := Ab) (c := cb) HOB.out (by rw [HL.out]; exact hcb) (HRB.out.below HD4.out.bel)
        rw [HL.out] at h1
        exact h1
      have hz : (⟨l.toArray⟩ : ByteArray).size = nb := by rw [← HL.out]; rfl
      have HBA := Lib.hid (bytes_app (⟨#[]⟩ : ByteArray) l)
      generalize (⟨l.toArray⟩ : ByteArray) = sb at hcv hz HBA
      obtain ⟨p0, p1, p2, pf⟩ := row3 HD4.out.b2
      obtain ⟨s0, s1, s2, s3, s4⟩ := row5 HD4.out.b3
      obtain ⟨y0, y1, y2, yf⟩ := row3 HFB2.out
      go_upto_region 26 with (fail)
      have HFZ : Hid (FB nf ⟨nm, (⟨#[]⟩ : ByteArray) ++ sb, 0⟩ (Z.setCell ⟨nf, 1, none⟩ (.string ((⟨#[]⟩ : ByteArray) ++ sb)))) := Lib.hid (set_row HFB2.out)
      have HDZ := Lib.hid (HD4.out.other HNF.out 1 (.string ((⟨#[]⟩ : ByteArray) ++ sb)))
      clear p0 p1 p2 pf s0 s1 s2 s3 s4 y0 y1 y2 yf
      clear HD4 HFB2 hcv
      generalize Z.setCell ⟨nf, 1, none⟩ (.string ((⟨#[]⟩ : ByteArray) ++ sb)) = V at HFZ HDZ ⊢
      have HWT := Lib.hid (with_any A n c ls ⟨nm, (⟨#[]⟩ : ByteArray) ++ sb, 0⟩ V HN.out (by omega) (HA.out.below HDZ.out.bel))
      obtain ⟨p0, p1, p2, pf⟩ := row3 HDZ.out.b2
      obtain ⟨s0, s1, s2, s3, s4⟩ := row5 HDZ.out.b3
      obtain ⟨y0, y1, y2, yf⟩ := row3 HFZ.out
      go_wp2_with fail
      refine Calls.mono HWT.out ?_
      rintro e w9 ⟨v9, rfl, ho9, hb9⟩
      obtain ⟨A9, c9, rfl, hc9, hA9, hcm9, hr9, hs9⟩ := own_rdF ho9 rfl
      have HD9 := Lib.hid (HDZ.out.next hb9)
      have HNE : Hid (∀ b off, A9 = some (⟨b, off, none⟩ : Addr) → w.heap.size + 3 ≤ b) := Lib.hid (fun b off e => Nat.le_trans HDZ.out.sz (hs9 _ e).2.1)
      have HS9 : Hid (w.heap.size ≤ V.heap.size) := Lib.hid HDZ.out.bel.size
      have HR9 := Lib.hid hr9
      have HK9 := Lib.hid hs9
      have HA9 := Lib.hid hA9
      clear p0 p1 p2 pf s0 s1 s2 s3 s4 y0 y1 y2 yf
      clear ho9 hb9 hr9 hs9 hA9 HWT HFZ HDZ
      generalize hm9 : (wth F.name ls ⟨nm, (⟨#[]⟩ : ByteArray) ++ sb, 0⟩).length = m9 at hc9 ⊢
      have HM9 := Lib.hid hm9
      clear hm9
      obtain ⟨p0, p1, p2, pf⟩ := row3 HD9.out.b2
      obtain ⟨q0, q1, q2, qf⟩ := row3 HD9.out.b4
      go_wp2_with fail
      refine bodyPost_ret (res23 _ _ (w.heap.size + 1 + 1) #[.slice A9 m9 c9, .int .i64 (st + 1), .int .i64 lg] (.int .i64 0) rfl rfl ((HD9.out.file (.slice A9 m9 c9)).answer _ _ _) rfl) rfl ?_
      exact RDoQ.yes HE.out (by show appendF ls nm l = _; unfold appendF; rw [HFN.out, HBA.out]; rfl) rfl HE2.out HM9.out hc9 HA9.out (HR9.out.keep (by simp [World.setCell]) (fun b off e hlt => ((set_other (by have := HNE.out b off e; omega)).trans ((set_other (by have := HNE.out b off e; omega)).trans ((set_other (by have := HNE.out b off e; omega)).trans (set_other (by have := HNE.out b off e; omega))))))) (fun ad e => Nat.le_trans HS9.out (HK9.out ad e).2.1) ((HD9.out.file (.slice A9 m9 c9)).answers _ _ _)
end Go.Proofs.Ytcfglgejjmapdaa
