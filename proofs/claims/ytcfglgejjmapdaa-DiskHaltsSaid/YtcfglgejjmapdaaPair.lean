/- The reference's disk beside the program's. -/
import Derived.Test.YtcfglgejjmapdaaRDo
import Derived.Test.YtcfglgejjmapdaaFrameS
namespace Go.Proofs.Ytcfglgejjmapdaa
open Go Go.RowKit Go.Shelf
def outF (ls : List F) (wh : Int) (nm to_ : ByteArray) (l : List UInt8) (N : Int) (hb : Bool) (rm : Int) : List F := if errS ls wh nm to_ l N hb rm = 0 then nextS ls wh nm to_ l N else ls
def outS (ls : List F) (wh : Int) (nm to_ : ByteArray) (l : List UInt8) (N : Int) (hb : Bool) (rm : Int) (steps : Nat) : Nat := if errS ls wh nm to_ l N hb rm = 0 then steps + 1 else steps
def outR (ls : List F) (wh : Int) (nm to_ : ByteArray) (l : List UInt8) (N : Int) (hb : Bool) (rm : Int) : Int := if errS ls wh nm to_ l N hb rm = 0 then (if hb then rm - 1 else rm) else rm
/-- The bound of steps, in both ways. -/
def RelL (hb : Bool) (rm lf : Int) : Prop := hb = decide (0 ≤ lf) ∧ (0 ≤ lf → rm = lf)
theorem errS_rel {ls : List F} {wh : Int} {nm to_ : ByteArray} {l : List UInt8} {N : Int} {hb : Bool} {rm lf : Int} (h : RelL hb rm lf) : errS ls wh nm to_ l N (decide (0 ≤ lf)) lf = errS ls wh nm to_ l N hb rm := by
  rw [errS_ref, errS_ref, h.1]
  split
  · rfl
  · by_cases e : 0 ≤ lf
    · rw [h.2 e]
    · simp [e]
theorem errS_zero {ls : List F} {wh : Int} {nm to_ : ByteArray} {l : List UInt8} {N : Int} {hb : Bool} {rm : Int} (h : errS ls wh nm to_ l N hb rm = 0) : ¬ (hb = true ∧ rm = 0) := by
  rw [errS_ref] at h
  split at h
  · omega
  · intro e
    rw [if_pos e] at h
    omega
theorem RelL.next {ls : List F} {wh : Int} {nm to_ : ByteArray} {l : List UInt8} {N : Int} {hb : Bool} {rm lf : Int} (h : RelL hb rm lf) : RelL hb (outR ls wh nm to_ l N hb rm) (if errS ls wh nm to_ l N hb rm = 0 ∧ 0 < lf then lf - 1 else lf) := by
  obtain ⟨h1, h2⟩ := h
  unfold RelL outR
  by_cases e : errS ls wh nm to_ l N hb rm = 0
  · have e2 := errS_zero e
    rw [if_pos e]
    by_cases p : 0 ≤ lf
    · have h3 : hb = true := by rw [h1]; simpa using p
      have h4 := h2 p
      have h5 : lf ≠ 0 := fun h0 => e2 ⟨h3, by omega⟩
      rw [if_pos ⟨e, by omega⟩, h3]
      refine ⟨?_, fun _ => ?_⟩
      · symm; simp; omega
      · simp; omega
    · have h3 : hb = false := by rw [h1]; simpa using p
      rw [if_neg (fun h => by omega), h3]
      exact ⟨by symm; simpa using p, fun q => absurd q p⟩
  · rw [if_neg e, if_neg (fun h => e h.1)]
    exact ⟨h1, h2⟩
theorem next_len (ls : List F) (wh : Int) (nm to_ : ByteArray) (l : List UInt8) (N : Int) : (nextS ls wh nm to_ l N).length ≤ ls.length + 1 := by
  unfold nextS
  split
  · exact append_len _ _ _
  split
  · unfold cutS; split
    · exact wth_len _ _
    · omega
  split
  · exact sync_len _ _
  split
  · unfold renameF; split
    · exact Nat.le_trans (wth_len _ _) (by have := drp_len ls nm; omega)
    · omega
  · have := drp_len ls nm; omega
theorem out_len (ls : List F) (wh : Int) (nm to_ : ByteArray) (l : List UInt8) (N : Int) (hb : Bool) (rm : Int) : (outF ls wh nm to_ l N hb rm).length ≤ ls.length + 1 := by
  unfold outF
  split
  · exact next_len _ _ _ _ _ _
  · omega
theorem out_st (ls : List F) (wh : Int) (nm to_ : ByteArray) (l : List UInt8) (N : Int) (hb : Bool) (rm : Int) (steps : Nat) : outS ls wh nm to_ l N hb rm steps ≤ steps + 1 := by
  unfold outS
  split <;> omega
/-- What the reference's step answers, beside the program's. -/
def RDo2 (ls : List F) (wh : Int) (nm to_ : ByteArray) (l : List UInt8) (N : Int) (hb : Bool) (rm : Int) (steps : Nat) (A : Option Addr) (lf : Int) (w : World) (e : Ending) (w' : World) : Prop :=
  ∃ A' n' c' lf', e = .returned (.tuple #[.agg #[.slice A' n' c', .int .i64 (outS ls wh nm to_ l N hb rm steps : Nat), .int .i64 lf'], .int .i64 (errS ls wh nm to_ l N hb rm)]) ∧ RelL hb (outR ls wh nm to_ l N hb rm) lf' ∧ -1 ≤ lf' ∧ lf' ≤ lf ∧
    (outF ls wh nm to_ l N hb rm).length = n' ∧ n' ≤ c' ∧ (A' = none → c' = 0) ∧ RdF w' A' (outF ls wh nm to_ l N hb rm) ∧ ((A' = A ∧ outF ls wh nm to_ l N hb rm = ls) ∨ ∀ ad, A' = some ad → w.heap.size ≤ ad.block) ∧ Below w.heap.size w w'
theorem rdo_rel (A : Option Addr) (n c : Nat) (ls : List F) (steps : Nat) (hb : Bool) (rm lf : Int) (wh N : Int) (nm to_ : ByteArray) (Ab : Option Addr) (nb cb : Nat) (l : List UInt8) (w : World) (hn : ls.length = n) (bn : n ≤ 90000) (hcc : n ≤ c) (hAn : A = none → c = 0) (ha : RdF w A ls) (hnm : nm.size ≤ 140737488351232) (hto : to_.size ≤ 140737488351232)
    (hs : fineL ls) (hl : l.length = nb) (hnb : nb ≤ 1000) (hcb : nb ≤ cb) (hob : Ab = none → cb = 0) (hrb : Rd w Ab l) (hst1 : steps ≤ 1000000) (hlf0 : -1 ≤ lf) (hlf1 : lf ≤ 9223372036854775807) (hrel : RelL hb rm lf) :
    Calls Try.prog 23 #[.agg #[.slice A n c, .int .i64 steps, .int .i64 lf], .agg #[.int .i64 wh, .string nm, .string to_, .slice Ab nb cb, .int .i64 N]] w (RDo2 ls wh nm to_ l N hb rm steps A lf w) := by
  refine (rdo_any A n c ls steps lf wh N nm to_ Ab nb cb l w hn bn hcc hAn ha hnm hto (fun f hf => ⟨(hs.2 f hf).2.2.2, (hs.2 f hf).2.1, (hs.2 f hf).2.2.1⟩) hl hnb hcb hob hrb (by omega) (by omega) hlf0 hlf1).mono ?_
  rintro e w' ⟨A', n', c', he, h1, h2, h3, h4, h5, h6⟩
  rw [errS_rel hrel] at he h1 h4 h5
  refine ⟨A', n', c', _, ?_, hrel.next (ls := ls) (wh := wh) (nm := nm) (to_ := to_) (l := l) (N := N), ?_, ?_, h1, h2, h3, h4, ?_, h6⟩
  · rw [he]
    unfold outS
    split <;> simp_all
  · split <;> omega
  · split <;> omega
  · rcases h5 with ⟨h5, h7⟩ | h5
    · exact .inl ⟨h5, by unfold outF; rw [if_neg h7]⟩
    · exact .inr h5
/-- What the program's step does. -/
def Do2 (B : Nat) (T : Nat → Prop) (D M : Nat) (ls : List F) (wh : Int) (nm to_ : ByteArray) (l : List UInt8) (N : Int) (hb : Bool) (rm : Int) (steps : Nat) (w : World) (e : Ending) (w' : World) : Prop :=
  e = .returned (.int .i64 (errS ls wh nm to_ l N hb rm)) ∧ ∃ T', On B T' D M (outF ls wh nm to_ l N hb rm) (outS ls wh nm to_ l N hb rm steps) hb (outR ls wh nm to_ l N hb rm) w' ∧ KeepT T w w' ∧ ∀ b, T' b → T b ∨ w.heap.size ≤ b
theorem do_rel {T : Nat → Prop} {B D M steps : Nat} {fs : List F} {hb : Bool} {rm : Int} (w : World) (h : On B T D M fs steps hb rm w) (hB : B ≤ w.heap.size) (wh N : Int) (nm to_ : ByteArray) (hn : nm.size ≤ maxLen) (hn2 : to_.size ≤ maxLen) (A : Option Addr) (n c : Nat) (l : List UInt8) (hl : l.length = n) (hA : A = none → c = 0) (hc : n ≤ c) (hr : Rd w A l) (hlow : ∀ ad, A = some ad → 0 < l.length → ad.block < B)
    (m0 : -9223372036854775808 ≤ N) (m1 : N ≤ 9223372036854775807) (hst : steps ≤ 1000000) (hgl : fs.length ≤ 100000) :
    Calls Try.prog 25 #[.pointer (some ⟨D, 0, none⟩), .agg #[.int .i64 wh, .string nm, .string to_, .slice A n c, .int .i64 N]] w (Do2 B T D M fs wh nm to_ l N hb rm steps w) := by
  refine (do_any w h hB wh N nm to_ hn hn2 A n c l hl hA hc hr (fun h0 ad e hT => by have h1 := h.low _ hT; have h2 := hlow ad e h0; omega) m0 m1 hst hgl).mono ?_
  rintro e w' ⟨rfl, T', h1, h2, h3⟩
  exact ⟨rfl, T', h1, h2, h3⟩
abbrev Z46 : Obj := .cells #[.slice none 0 0, .int .i64 0, .int .i64 0] 46
theorem drew_size (w : World) : w.drew.heap.size = w.heap.size := rfl
theorem drew_new (w : World) (o : Obj) : (w.alloc o).drew.heap.size = w.heap.size + 1 := by rw [drew_size]; simp
/-- A box of noughts. -/
structure K1 (V W : World) (G : Nat) : Prop where
  bel : Below V.heap.size V W
  z : W.heap[G]? = some (.cells #[.slice none 0 0, .int .i64 0, .int .i64 0] 46 (0, 0))
  ge : V.heap.size ≤ G
theorem K1.next {V W W' : World} {G : Nat} (h : K1 V W G) (hb : Below W.heap.size W W') : K1 V W' G := ⟨h.bel.trans (hb.mono h.bel.size), (hb.block _ (lt_of_block h.z)).trans h.z, h.ge⟩
theorem K1.new {V W : World} (h : Below V.heap.size V W) : K1 V (W.alloc Z46) W.heap.size := ⟨h.alloc h.size _, heap_alloc_new W _, h.size⟩
/-- The box of the reference's disk. -/
structure Box (V W : World) (G : Nat) (A : Option Addr) (n c : Nat) (st lf : Int) : Prop where
  bel : Below V.heap.size V W
  z : W.heap[G]? = some (.cells #[.slice A n c, .int .i64 st, .int .i64 lf] 46 (0, 0))
  ge : V.heap.size ≤ G
theorem Box.next {V W W' : World} {G : Nat} {A : Option Addr} {n c : Nat} {st lf : Int} (h : Box V W G A n c st lf) (hb : Below W.heap.size W W') : Box V W' G A n c st lf := ⟨h.bel.trans (hb.mono h.bel.size), (hb.block _ (lt_of_block h.z)).trans h.z, h.ge⟩
theorem Box.new {V W : World} {A : Option Addr} {n c : Nat} {st lf : Int} (h : Below V.heap.size V W) : Box V (W.alloc (.cells #[.slice A n c, .int .i64 st, .int .i64 lf] 46)) W.heap.size A n c st lf := ⟨h.alloc h.size _, heap_alloc_new W _, h.size⟩
theorem K1.box {V W : World} {G : Nat} (h : K1 V W G) (a b c : Value) : (((W.setCell ⟨G, 0, none⟩ a).setCell ⟨G, 1, none⟩ b).setCell ⟨G, 2, none⟩ c).heap[G]? = some (.cells #[a, b, c] 46 (0, 0)) := set_row (set_row (set_row h.z))
theorem K1.stored {V W : World} {G : Nat} {A : Option Addr} {n c : Nat} {st lf : Int} (h : K1 V W G) : Box V (((W.setCell ⟨G, 0, none⟩ (.slice A n c)).setCell ⟨G, 1, none⟩ (.int .i64 st)).setCell ⟨G, 2, none⟩ (.int .i64 lf)) G A n c st lf :=
  ⟨((h.bel.setCell (p := ⟨G, 0, none⟩) h.ge _).setCell (p := ⟨G, 1, none⟩) h.ge _).setCell (p := ⟨G, 2, none⟩) h.ge _, h.box _ _ _, h.ge⟩
theorem rnew_0 (A : Option Addr) (n c : Nat) (V W : World) (h : Below V.heap.size V W) : Calls Try.prog 24 #[.slice A n c] W fun e w' => e = .returned (.agg #[.slice A n c, .int .i64 0, .int .i64 (-1)]) ∧ Below V.heap.size V w' :=
  (rnew_any A n c W).mono fun _ _ ⟨he, hb⟩ => ⟨he, h.trans (hb.mono h.size)⟩
theorem rnew_1 (A : Option Addr) (n c : Nat) (V W : World) (G : Nat) (h : K1 V W G) : Calls Try.prog 24 #[.slice A n c] W fun e w' => e = .returned (.agg #[.slice A n c, .int .i64 0, .int .i64 (-1)]) ∧ K1 V w' G :=
  (rnew_any A n c W).mono fun _ _ ⟨he, hb⟩ => ⟨he, h.next hb⟩
/-- The files that the reference's step answers. -/
structure Told (V W w' : World) (ls : List F) (A : Option Addr) (fs : List F) (A' : Option Addr) (n' c' : Nat) : Prop where
  len : fs.length = n'
  cap : n' ≤ c'
  nil : A' = none → c' = 0
  rd : RdF w' A' fs
  apart : (A' = A ∧ fs = ls) ∨ ∀ ad, A' = some ad → W.heap.size ≤ ad.block
theorem Told.stored {V W wm : World} {ls fs : List F} {A A' : Option Addr} {n' c' G : Nat} (h : Told V W wm ls A fs A' n' c') (ha : RdF V A ls) (hG : V.heap.size ≤ G) (hG2 : G < W.heap.size) (a b c : Value) : RdF (((wm.setCell ⟨G, 0, none⟩ a).setCell ⟨G, 1, none⟩ b).setCell ⟨G, 2, none⟩ c) A' fs := by
  by_cases h0 : 0 < fs.length
  · refine h.rd.keep (by simp [World.setCell]) (fun b off e _ => ?_)
    have hne : b ≠ G := by
      rcases h.apart with ⟨h1, h2⟩ | h1
      · rw [h2] at h0
        obtain ⟨b2, off2, e2, hlt, _⟩ := ha h0
        rw [h1, e2] at e
        cases e
        omega
      · have := h1 _ e; simp only at this; omega
    exact (set_other hne).trans ((set_other hne).trans (set_other hne))
  · exact fun h1 => absurd h1 h0
theorem Told.alloc {V W wm : World} {ls fs : List F} {A A' : Option Addr} {n' c' : Nat} (h : Told V W wm ls A fs A' n' c') (o : Obj) : RdF (wm.alloc o) A' fs := h.rd.below (below_new wm o)
/-- It lies apart from the disk. -/
theorem Told.na {T : Nat → Prop} {V W wm : World} {ls fs : List F} {A A' : Option Addr} {n' c' : Nat} (h : Told V W wm ls A fs A' n' c') (hA : 0 < ls.length → ∀ ad, A = some ad → ¬ T ad.block) (hT : ∀ b, T b → b < W.heap.size) : 0 < fs.length → ∀ ad, A' = some ad → ¬ T ad.block := fun h0 ad e => by
  rcases h.apart with ⟨h1, h2⟩ | h1
  · rw [h2] at h0
    rw [h1] at e
    exact hA h0 ad e
  · intro h2
    have := hT _ h2
    have := h1 ad e
    omega
abbrev RP (ls : List F) (wh : Int) (nm to_ : ByteArray) (l : List UInt8) (N : Int) (hb : Bool) (rm : Int) (steps : Nat) (A : Option Addr) (lf : Int) (V W : World) (K : World → Prop) (e : Ending) (w' : World) : Prop :=
  ∃ A' n' c' lf', e = .returned (.tuple #[.agg #[.slice A' n' c', .int .i64 (outS ls wh nm to_ l N hb rm steps : Nat), .int .i64 lf'], .int .i64 (errS ls wh nm to_ l N hb rm)]) ∧ (RelL hb (outR ls wh nm to_ l N hb rm) lf' ∧ -1 ≤ lf' ∧ lf' ≤ lf) ∧ Told V W w' ls A (outF ls wh nm to_ l N hb rm) A' n' c' ∧ K w'
theorem RP.of {ls : List F} {wh : Int} {nm to_ : ByteArray} {l : List UInt8} {N : Int} {hb : Bool} {rm : Int} {steps : Nat} {A : Option Addr} {lf : Int} {V W : World} {K : World → Prop} {e : Ending} {w' : World} (hk : ∀ w', Below W.heap.size W w' → K w') (h : RDo2 ls wh nm to_ l N hb rm steps A lf W e w') : RP ls wh nm to_ l N hb rm steps A lf V W K e w' := by
  obtain ⟨A', n', c', lf', he, h1, h2, h3, h4, h5, h6, h7, h8, h9⟩ := h
  exact ⟨A', n', c', lf', he, ⟨h1, h2, h3⟩, ⟨h4, h5, h6, h7, h8⟩, hk w' h9⟩
/-- The reference's disk, apart from the program's. -/
structure Side (T : Nat → Prop) (Y : World) (G : Nat) (A : Option Addr) (n c : Nat) (fs : List F) (st : Nat) (lf : Int) : Prop where
  z : Y.heap[G]? = some (.cells #[.slice A n c, .int .i64 st, .int .i64 lf] 46 (0, 0))
  rd : RdF Y A fs
  ng : ¬ T G
  na : 0 < fs.length → ∀ ad, A = some ad → ¬ T ad.block
  len : fs.length = n
  cap : n ≤ c
  nil : A = none → c = 0
section
variable {T T' : Nat → Prop} {V X Y : World} {B D M G n c stD st : Nat} {A : Option Addr} {fs fsD : List F} {hb : Bool} {rm lf : Int}
theorem Side.keep (h : Side T X G A n c fs st lf) (hk : KeepT T X Y) (ht : ∀ b, T' b → T b ∨ X.heap.size ≤ b) : Side T' Y G A n c fs st lf := by
  have hG := lt_of_block h.z
  refine ⟨(hk.block G hG h.ng).trans h.z, ?_, fun hT => ?_, fun h0 ad e hT => ?_, h.len, h.cap, h.nil⟩
  · by_cases h0 : 0 < fs.length
    · exact h.rd.keep hk.size (fun b off e hlt => hk.block b hlt (h.na h0 _ e))
    · exact fun h1 => absurd h1 h0
  · rcases ht _ hT with h1 | h1
    · exact h.ng h1
    · omega
  · rcases ht _ hT with h1 | h1
    · exact h.na h0 ad e h1
    · obtain ⟨b, off, e2, hlt, _⟩ := h.rd h0
      rw [e2] at e
      cases e
      simp only at h1
      omega
theorem Side.below (h : Side T X G A n c fs st lf) (hb : Below X.heap.size X Y) : Side T Y G A n c fs st lf := h.keep (.of_below hb) (fun _ h => .inl h)
/-- Both disks. -/
structure Both (V : World) (B : Nat) (T : Nat → Prop) (D M : Nat) (fsD : List F) (stD : Nat) (hb : Bool) (rm : Int) (G : Nat) (A : Option Addr) (n c : Nat) (fs : List F) (st : Nat) (lf : Int) (Y : World) : Prop where
  on : On B T D M fsD stD hb rm Y
  side : Side T Y G A n c fs st lf
  bel : Below B V Y
  size : B ≤ V.heap.size
theorem Both.below (h : Both V B T D M fsD stD hb rm G A n c fs st lf X) (hbl : Below X.heap.size X Y) : Both V B T D M fsD stD hb rm G A n c fs st lf Y :=
  ⟨h.on.below hbl, h.side.below hbl, h.bel.trans (hbl.mono (Nat.le_trans h.size h.bel.size)), h.size⟩
theorem do_both (h : Both V B T D M fsD stD hb rm G A n c fs st lf X) (wh N : Int) (nm to_ : ByteArray) (hn : nm.size ≤ maxLen) (hn2 : to_.size ≤ maxLen) (Ab : Option Addr) (nb cb : Nat) (l : List UInt8) (hl : l.length = nb) (hA : Ab = none → cb = 0) (hc : nb ≤ cb) (hr : Rd X Ab l) (hlow : ∀ ad, Ab = some ad → 0 < l.length → ad.block < B)
    (m0 : -9223372036854775808 ≤ N) (m1 : N ≤ 9223372036854775807) (hst : stD ≤ 1000000) (hgl : fsD.length ≤ 100000) :
    Calls Try.prog 25 #[.pointer (some ⟨D, 0, none⟩), .agg #[.int .i64 wh, .string nm, .string to_, .slice Ab nb cb, .int .i64 N]] X fun e Y => e = .returned (.int .i64 (errS fsD wh nm to_ l N hb rm)) ∧ ∃ T', Both V B T' D M (outF fsD wh nm to_ l N hb rm) (outS fsD wh nm to_ l N hb rm stD) hb (outR fsD wh nm to_ l N hb rm) G A n c fs st lf Y ∧ KeepT T X Y := by
  have hB : B ≤ X.heap.size := Nat.le_trans h.size h.bel.size
  refine (do_rel X h.on hB wh N nm to_ hn hn2 Ab nb cb l hl hA hc hr hlow m0 m1 hst hgl).mono ?_
  rintro e Y ⟨rfl, T', h1, h2, h3⟩
  exact ⟨rfl, T', ⟨h1, h.side.keep h2 h3, h.bel.trans (h2.below h.on.low hB), h.size⟩, h2⟩
theorem files_both (h : Both V B T D M fsD stD hb rm G A n c fs st lf X) (hgl : fsD.length ≤ 100000) :
    Calls Try.prog 20 #[.pointer (some ⟨D, 0, none⟩)] X fun e Y => ∃ Af cf, e = .returned (.slice Af fsD.length cf) ∧ Both V B T D M fsD stD hb rm G A n c fs st lf Y ∧ RdF Y Af fsD ∧ Below X.heap.size X Y := by
  refine (files_on X h.on hgl).mono ?_
  rintro e Y ⟨v, rfl, ho, hb2⟩
  obtain ⟨Af, cf, rfl, _, _, _, hr, _⟩ := own_rdF ho rfl
  exact ⟨Af, cf, rfl, h.below hb2, hr, hb2⟩
theorem Both.other {T2 : Nat → Prop} {U : World} {C : Nat} (h : Both V B T D M fsD stD hb rm G A n c fs st lf X) (hk : KeepT T2 X Y) (hd : ∀ b, T2 b → C ≤ b) (hC : ∀ b, T b → b < C) (hG : G < C) (hA : RdF U A fs) (hU : U.heap.size ≤ C) (hB : B ≤ C) : Both V B T D M fsD stD hb rm G A n c fs st lf Y := by
  refine ⟨h.on.other hk (fun b hT h2 => by have := hd b h2; have := hC b hT; omega), ⟨(hk.block G (lt_of_block h.side.z) (fun h2 => by have := hd _ h2; omega)).trans h.side.z, ?_, h.side.ng, h.side.na, h.side.len, h.side.cap, h.side.nil⟩, h.bel.trans (hk.below (fun b h2 => Nat.le_trans hB (hd b h2)) (Nat.le_trans h.size h.bel.size)), h.size⟩
  by_cases h0 : 0 < fs.length
  · obtain ⟨b2, off2, e2, hlt2, _⟩ := hA h0
    refine h.side.rd.keep hk.size (fun b off e hlt => hk.block b hlt (fun h2 => ?_))
    rw [e2] at e
    cases e
    have := hd _ h2
    omega
  · exact fun h1 => absurd h1 h0
theorem halt_both (h : Both V B T D M fsD stD hb rm G A n c fs st lf X) (m : Int) (m0 : -9223372036854775808 ≤ m) (m1 : m ≤ 9223372036854775807) : Calls Try.prog 26 #[.pointer (some ⟨D, 0, none⟩), .int .i64 m] X fun e Y => e = .returned (.tuple #[]) ∧ Both V B T D M fsD stD true (max m 0) G A n c fs st lf Y := by
  have hB : B ≤ X.heap.size := Nat.le_trans h.size h.bel.size
  refine (halt_on X h.on hB m m0 m1).mono ?_
  rintro e Y ⟨rfl, h1, h2⟩
  exact ⟨rfl, h1, h.side.keep h2 (fun _ h => .inl h), h.bel.trans (h2.below h.on.low hB), h.size⟩
theorem Both.copy {G8 n' c' st' : Nat} {A' : Option Addr} {fs' : List F} {lf' : Int} (h : Both V B T D M fsD stD hb rm G A n c fs st lf X) (hs : Side T X G8 A' n' c' fs' st' lf') (hne : 0 < fs'.length → ∀ ad, A' = some ad → ad.block ≠ G) (hG : B ≤ G) :
    Both V B T D M fsD stD hb rm G A' n' c' fs' st' lf' (((X.setCell ⟨G, 0, none⟩ (.slice A' n' c')).setCell ⟨G, 1, none⟩ (.int .i64 st')).setCell ⟨G, 2, none⟩ (.int .i64 lf')) := by
  have hk : KeepT (fun b => b = G) X (((X.setCell ⟨G, 0, none⟩ (.slice A' n' c')).setCell ⟨G, 1, none⟩ (.int .i64 st')).setCell ⟨G, 2, none⟩ (.int .i64 lf')) := (((KeepT.refl (fun b => b = G) X).setCell ⟨G, 0, none⟩ _ rfl).setCell ⟨G, 1, none⟩ _ rfl).setCell ⟨G, 2, none⟩ _ rfl
  refine ⟨h.on.other hk (fun b hT e => h.side.ng (by rw [← e]; exact hT)), ⟨set_row (set_row (set_row h.side.z)), ?_, h.side.ng, hs.na, hs.len, hs.cap, hs.nil⟩, ((h.bel.setCell (p := ⟨G, 0, none⟩) hG _).setCell (p := ⟨G, 1, none⟩) hG _).setCell (p := ⟨G, 2, none⟩) hG _, h.size⟩
  by_cases h0 : 0 < fs'.length
  · exact hs.rd.keep hk.size (fun b off e hlt => hk.block b hlt (hne h0 _ e))
  · exact fun h1 => absurd h1 h0
theorem steps_both (h : Both V B T D M fsD stD hb rm G A n c fs st lf X) : Calls Try.prog 21 #[.pointer (some ⟨D, 0, none⟩)] X fun e Y => e = .returned (.int .i64 stD) ∧ X = Y := steps_on X h.on
end
end Go.Proofs.Ytcfglgejjmapdaa
