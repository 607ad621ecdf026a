/- The words of a text, one after another: the iterator's contract. -/
import Derived.Test.YtejicjcdbfjajaaDoorSig
import Derived.Test.YtejicjcdbfjajaaDoorRng
import Derived.OwnWalkIn
import Derived.Deep.RegionHeld3
namespace Go.Proofs.YtejicjcdbfjajaaDoor
open Go Go.RowKit
open Go.Shelf
attribute [local go_sem] Oper.semAt_some
/-- What the iterator tells: a place, and the word there, or that there is none. -/
structure Itm where
  at_ : Nat
  o : Option Wd
def wdV (a : Nat) : Option Wd → Array Value
  | none => #[.int .i64 0, .string ⟨#[]⟩, .int .i64 0, .int .i64 a]
  | some (k, t, n, _) => #[.int .i64 k, .string (ofL t), .int .i64 n, .int .i64 a]
def endV : Option Wd → Nat
  | none => 0
  | some (_, _, _, e) => e
theorem wordV_eq (a : Nat) (o : Option Wd) : wordV a o = .tuple #[.agg (wdV a o), .int .i64 (endV o)] := by
  rcases o with _ | ⟨k, t, n, e⟩ <;> rfl
def bkL (l : List UInt8) (a : Nat) : Nat := a + blk false (l.drop a)
def lexB (l : List UInt8) : Nat → Nat → List Itm
  | 0, _ => []
  | f + 1, b => if b < l.length then
      match wordR l b with
      | none => [⟨b, none⟩]
      | some (k, t, n, e) => ⟨b, some (k, t, n, e)⟩ :: lexB l f (bkL l e)
    else []
/-- The words of a text. -/
def lexT (l : List UInt8) : List Itm := lexB l (l.length + 1) (bkL l 0)
theorem bkL_le {l : List UInt8} {a : Nat} (h : a ≤ l.length) : a ≤ bkL l a ∧ bkL l a ≤ l.length := by
  have := blk_le false (l.drop a)
  rw [List.length_drop] at this
  unfold bkL
  omega
theorem lexB_end {l : List UInt8} {f b : Nat} (h : ¬ b < l.length) : lexB l f b = [] := by
  cases f with
  | zero => rfl
  | succ f => rw [lexB, if_neg h]
theorem lexB_none {l : List UInt8} {f b : Nat} (h : b < l.length) (hw : wordR l b = none) : lexB l (f + 1) b = [⟨b, none⟩] := by
  rw [lexB, if_pos h, hw]
theorem lexB_some {l : List UInt8} {f b : Nat} {k : Int} {t : List UInt8} {n : Int} {e : Nat} (h : b < l.length) (hw : wordR l b = some (k, t, n, e)) : lexB l (f + 1) b = ⟨b, some (k, t, n, e)⟩ :: lexB l f (bkL l e) := by
  rw [lexB, if_pos h, hw]
/-- What the iterator wants kept: maps, sources, texts' boxes. -/
def Keep9 (W W' : World) : Prop := W.heap.size ≤ W'.heap.size ∧ (∀ (k : Nat) (es : Array MapEntry) (c : Nat), W.heap[k]? = some (Obj.map es c) → W'.heap[k]? = some (Obj.map es c)) ∧ ∀ (k : Nat) (cs : Array Value) (t : TypeId) (fr : Nat × Nat), t = 74 ∨ t = 9 → W.heap[k]? = some (Obj.cells cs t fr) → W'.heap[k]? = some (Obj.cells cs t fr)
theorem Keep9.trans {A B C : World} (h : Keep9 A B) (k : Keep9 B C) : Keep9 A C := ⟨Nat.le_trans h.1 k.1, fun i es c e => k.2.1 i es c (h.2.1 i es c e), fun i cs t fr ht e => k.2.2 i cs t fr ht (h.2.2 i cs t fr ht e)⟩
theorem Keep9.below {A B : World} (h : Below A.heap.size A B) : Keep9 A B := ⟨h.size, fun i es c e => (h.block i (Array.getElem?_eq_some_iff.1 e).1).trans e, fun i cs t fr _ e => (h.block i (Array.getElem?_eq_some_iff.1 e).1).trans e⟩
theorem Keep9.put {W : World} {l : Nat} {r : Loop} {o : Obj} (h : W.heap[l]? = some (.loop r)) : Keep9 W (W.putObj l o) := by
  refine ⟨by simp, fun i es c e => ?_, fun i cs t fr _ e => ?_⟩ <;>
  · refine (World.putObj_heap_other (fun q => ?_)).trans e
    subst q
    rw [h] at e
    cases e
theorem Sou.keep {W W' : World} {S m : Nat} {s : ByteArray} (h : Sou W S s m) (k : Keep9 W W') : Sou W' S s m := by
  obtain ⟨es, clock, h1, h2⟩ := h.ks
  exact ⟨k.2.2 _ _ _ _ (Or.inl rfl) h.z, ⟨es, clock, k.2.1 _ _ _ h1, h2⟩, h.max⟩
theorem sou_store {W V : World} {g m : Nat} {s : ByteArray} {ZC : Array Value} (hz : V.heap[g]? = some (.cells ZC 74 (0, 0))) (hk : KeysAt V m kws) (hs : s.size ≤ 1000000000) (hge : W.heap.size ≤ g) (hb : Below W.heap.size W V) :
    Sou (V.setRow g (#[.string s, .map (some m)] ++ (cellsS sgs25).toArray)) g s m ∧ Below W.heap.size W (V.setRow g (#[.string s, .map (some m)] ++ (cellsS sgs25).toArray)) := by
  refine ⟨⟨setRow_heap _ _ _ _ _ _ hz, ?_, hs⟩, hb.trans ⟨rfl, rfl, rfl, by simp [World.setRow], fun k hk => setRow_other _ _ _ _ (by omega)⟩⟩
  obtain ⟨es, clock, h1, h2⟩ := hk
  refine ⟨es, clock, (setRow_other _ _ _ _ (fun e => ?_)).trans h1, h2⟩
  rw [e, hz] at h1
  cases h1
set_option maxRecDepth 100000 in
set_option maxHeartbeats 4000000 in
theorem src_region (f E : Nat) (s : ByteArray) (W : World) (Q : Exit → Act → World → Prop) (hE : W.heap[E]? = some (.cells #[.string s] 9 (0, 0))) (hg : SPC W) (hs : s.size ≤ 1000000000)
    (hpan : ∀ c a w d v, Q (.panic c) (a.put d v) w → Q (.panic c) a w)
    (hQ : ∀ S m V x9 x10, Sou V S s m → Below W.heap.size W V → Q .normal { tmps := #[.func (.yield f) #[] #[], .pointer (some ⟨E, 0, none⟩), undef, SP S, undef, undef, undef, .string s, .map (some m), x9, x10, undef, undef, undef, undef, undef, undef, undef, undef, undef, undef, undef, undef, undef, undef, undef, undef, undef, undef, undef, undef, undef, undef, undef], defers := [] } V) :
    (Code.region 0 #[{ dst := some 7, op := Go.Op.load 9 (Go.Operand.tmp 1), type := 9, pos := "words.go:193", after := #[], guard := none }, { dst := some 8, op := Go.Op.call { callee := Go.Callee.value (Go.Operand.func 24), args := #[], argTypes := #[] }, type := 46, pos := "words.go:193", after := #[], guard := none }, { dst := some 9, op := Go.Op.call { callee := Go.Callee.value (Go.Operand.func 42), args := #[], argTypes := #[] }, type := 71, pos := "words.go:193", after := #[{ on := 1, ground := Go.Ground.chain }], guard := none }, { dst := some 10, op := Go.Op.build 74 #[(0, Go.Operand.tmp 7), (1, Go.Operand.tmp 8), (2, Go.Operand.tmp 9)], type := 74, pos := "words.go:193", after := #[{ on := 0, ground := Go.Ground.data }, { on := 1, ground := Go.Ground.data }, { on := 2, ground := Go.Ground.data }], guard := none }, { dst := some 3, op := Go.Op.alloc 74, type := 0, pos := "words.go:193", after := #[], guard := none }, { dst := none, op := Go.Op.store 74 (Go.Operand.tmp 3) (Go.Operand.tmp 10), type := 0, pos := "words.go:193", after := #[{ on := 4, ground := Go.Ground.data }, { on := 3, ground := Go.Ground.data }, { on := 2, ground := Go.Ground.chain }, { on := 0, ground := Go.Ground.phase }, { on := 1, ground := Go.Ground.phase }, { on := 2, ground := Go.Ground.phase }, { on := 3, ground := Go.Ground.phase }, { on := 4, ground := Go.Ground.phase }], guard := none }] true).wp Tryd.prog Q { tmps := #[.func (.yield f) #[] #[], .pointer (some ⟨E, 0, none⟩), undef, undef, undef, undef, undef, undef, undef, undef, undef, undef, undef, undef, undef, undef, undef, undef, undef, undef, undef, undef, undef, undef, undef, undef, undef, undef, undef, undef, undef, undef, undef, undef], defers := [] } W := by
  have hlt := (Array.getElem?_eq_some_iff.1 hE).1
  have HCE : Hid (∀ V, Below W.heap.size W V → V.cell? ⟨E, 0, none⟩ = some (.string s)) := Lib.hid (fun V hb => cell_of_one ((hb.block E hlt).trans hE))
  have HKY : Hid (∀ V, Below W.heap.size W V → Calls Tryd.prog 24 #[] V fun e w' => ∃ m, e = .returned (.map (some m)) ∧ KeysAt w' m kws ∧ Below W.heap.size W w' ∧ Below V.heap.size V w') := Lib.hid (fun V hb => (keys_any V (spc_below hg hb)).mono fun e w' ⟨h1, h2, h3⟩ => ⟨_, h1, h2, hb.trans (h3.mono hb.size), h3⟩)
  have HSG : Hid (∀ V, Below W.heap.size W V → Calls Tryd.prog 42 #[] V fun e w' => e = .returned (.agg (cellsS sgs25).toArray) ∧ Below W.heap.size W w' ∧ Below V.heap.size V w') := Lib.hid (fun V hb => (signs_any V).mono fun e w' ⟨h1, h3⟩ => ⟨h1, hb.trans (h3.mono hb.size), h3⟩)
  have HQ := Lib.hid hQ
  have HPAN := Lib.hid hpan
  have HS := Lib.hid hs
  obtain ⟨SG, hSG⟩ : ∃ SG, (cellsS sgs25).toArray = SG := ⟨_, rfl⟩
  have HSGV := Lib.hid hSG
  rw [hSG] at HSG
  clear hQ hE hg hs hSG hpan
  refine wp_region_held_drew (S := fun V => V.cell? ⟨E, 0, none⟩ = some (.string s) ∧ Below W.heap.size W V) (by kernel_rfl) ⟨HCE.out _ (below_any 1 (Below.refl _ _)), below_any 1 (Below.refl _ _)⟩ (fun hS0 => ?_)
  refine wpAnyH_take (i := 0) (oi := { dst := some 7, op := Go.Op.load 9 (Go.Operand.tmp 1), type := 9, pos := "words.go:193", after := #[], guard := none }) (v := .string s) rfl (by kernel_rfl) (by kernel_rfl) (by kernel_rfl) (fun c a w h => HPAN.out c a w _ _ h) (Or.inl ⟨by rfl, by intro V hV; obtain ⟨hc, -⟩ := hV; go_simp⟩) (by assumption) ?_
  try simp only [Act.put, List.setIfInBounds_toArray, List.set_cons_zero, List.set_cons_succ]
  refine wpAnyH_ready (rs := [1, 4]) (by kernel_rfl) (by simp) ?_
  refine AllReadyH.cons (o := { dst := some 8, op := Go.Op.call { callee := Go.Callee.value (Go.Operand.func 24), args := #[], argTypes := #[] }, type := 46, pos := "words.go:193", after := #[], guard := none }) rfl (fun K1 hK1 => ?b1_1) (AllReadyH.cons (o := { dst := some 3, op := Go.Op.alloc 74, type := 0, pos := "words.go:193", after := #[], guard := none }) rfl (fun K1 hK1 => ?b4_1) (AllReadyH.nil))
  case b1_1 =>
    rw [if_pos (by rfl)]
    go_simp
    refine (HKY.out _ hS0.2).mono ?_
    rintro e V1 ⟨m, rfl, hk, hbb, hb⟩
    have HKS := Lib.hid hk
    have HB1 := Lib.hid hb
    have HBW1 := Lib.hid hbb
    clear hk hb hbb
    go_wp2_with fail
    refine hK1.out _ _ ⟨HCE.out _ HBW1.out, HBW1.out⟩ (fun hS1 => ?_)
    clear hK1 K1
    try simp only [Act.put, List.setIfInBounds_toArray, List.set_cons_zero, List.set_cons_succ]
    refine wpAnyH_ready (rs := [2, 4]) (by kernel_rfl) (by simp) ?_
    refine AllReadyH.cons (o := { dst := some 9, op := Go.Op.call { callee := Go.Callee.value (Go.Operand.func 42), args := #[], argTypes := #[] }, type := 71, pos := "words.go:193", after := #[{ on := 1, ground := Go.Ground.chain }], guard := none }) rfl (fun K1 hK1 => ?b2_2) (AllReadyH.cons (o := { dst := some 3, op := Go.Op.alloc 74, type := 0, pos := "words.go:193", after := #[], guard := none }) rfl (fun K1 hK1 => ?b4_2) (AllReadyH.nil))
    case b2_2 =>
      rw [if_pos (by rfl)]
      go_simp
      refine (HSG.out _ hS1.2).mono ?_
      rintro e V2 ⟨rfl, hbb, hb⟩
      have HB2 := Lib.hid hb
      have HBW2 := Lib.hid hbb
      clear hb hbb
      go_wp2_with fail
      refine hK1.out _ _ ⟨HCE.out _ HBW2.out, HBW2.out⟩ (fun hS2 => ?_)
      clear hK1 K1
      try simp only [Act.put, List.setIfInBounds_toArray, List.set_cons_zero, List.set_cons_succ]
      refine wpAnyH_take (i := 3) (oi := { dst := some 10, op := Go.Op.build 74 #[(0, Go.Operand.tmp 7), (1, Go.Operand.tmp 8), (2, Go.Operand.tmp 9)], type := 74, pos := "words.go:193", after := #[{ on := 0, ground := Go.Ground.data }, { on := 1, ground := Go.Ground.data }, { on := 2, ground := Go.Ground.data }], guard := none }) (v := (.agg (#[.string s, .map (some m)] ++ SG))) rfl (by kernel_rfl) (by kernel_rfl) (by kernel_rfl) (fun c a w h => HPAN.out c a w _ _ h) (Or.inl ⟨by rfl, by intro V hV; rw [← HSGV.out]; kernel_rfl⟩) (by assumption) ?_
      try simp only [Act.put, List.setIfInBounds_toArray, List.set_cons_zero, List.set_cons_succ]
      refine wpAnyH_ready (rs := [4]) (by kernel_rfl) (by simp) ?_
      refine AllReadyH.cons (o := { dst := some 3, op := Go.Op.alloc 74, type := 0, pos := "words.go:193", after := #[], guard := none }) rfl (fun K1 hK1 => ?b4_3) (AllReadyH.nil)
      rw [if_pos (by rfl)]
      go_simp
      generalize hZ0 : (#[Value.string { data := #[] }, Value.map none, Value.string { data := #[] }, Value.string { data := #[] }, Value.string { data := #[] }, Value.string { data := #[] }, Value.string { data := #[] }, Value.string { data := #[] }, Value.string { data := #[] }, Value.string { data := #[] }, Value.string { data := #[] }, Value.string { data := #[] }, Value.string { data := #[] }, Value.string { data := #[] }, Value.string { data := #[] }, Value.string { data := #[] }, Value.string { data := #[] }, Value.string { data := #[] }, Value.string { data := #[] }, Value.string { data := #[] }, Value.string { data := #[] }, Value.string { data := #[] }, Value.string { data := #[] }, Value.string { data := #[] }, Value.string { data := #[] }, Value.string { data := #[] }, Value.string { data := #[] }] : Array Value) = ZC
      have HZS : Hid (ZC.size = 27) := Lib.hid (by rw [← hZ0]; rfl)
      clear hZ0
      have HBWA : Hid (Below W.heap.size W (V2.alloc (.cells ZC 74))) := Lib.hid (HBW2.out.trans ((below_new V2 _).mono HBW2.out.size))
      have HZA : Hid ((V2.alloc (.cells ZC 74)).heap[V2.heap.size]? = some (.cells ZC 74 (0, 0))) := Lib.hid (heap_alloc_new V2 _)
      have HBA : Hid (Below V2.heap.size V2 (V2.alloc (.cells ZC 74))) := Lib.hid (below_new V2 _)
      have HGE : Hid (W.heap.size ≤ V2.heap.size) := Lib.hid (HBW2.out.size)
      generalize (V2.alloc (.cells ZC 74)) = VA at *
      refine hK1.out _ _ ⟨HCE.out _ HBWA.out, HBWA.out⟩ (fun hSA => ?_)
      clear hK1 K1
      try simp only [Act.put, List.setIfInBounds_toArray, List.set_cons_zero, List.set_cons_succ]
      refine wpAnyH_ready (rs := [5]) (by kernel_rfl) (by simp) ?_
      refine AllReadyH.cons (o := { dst := none, op := Go.Op.store 74 (Go.Operand.tmp 3) (Go.Operand.tmp 10), type := 0, pos := "words.go:193", after := #[{ on := 4, ground := Go.Ground.data }, { on := 3, ground := Go.Ground.data }, { on := 2, ground := Go.Ground.chain }, { on := 0, ground := Go.Ground.phase }, { on := 1, ground := Go.Ground.phase }, { on := 2, ground := Go.Ground.phase }, { on := 3, ground := Go.Ground.phase }, { on := 4, ground := Go.Ground.phase }], guard := none }) rfl (fun K1 hK1 => ?b5_4) (AllReadyH.nil)
      rw [if_pos (by rfl)]
      have HSS := Lib.hid (sou_store (HZA.out) ((HKS.out.below HB2.out).below HBA.out) HS.out HGE.out HBWA.out)
      rw [HSGV.out] at HSS
      refine wp_store_row 74 (.tmp 3) (.tmp 10) rfl V2.heap.size (#[.string s, .map (some m)] ++ SG) rfl rfl 74 ZC (HZA.out) ?hi ?hold ?h1 ?_
      case hi => rw [← HSGV.out]; kernel_rfl
      case hold => rw [HZS.out, ← HSGV.out]; kernel_rfl
      case h1 => rw [← HSGV.out]; kernel_rfl
      refine hK1.out _ _ ⟨HCE.out _ HSS.out.2, HSS.out.2⟩ (fun hSZ => ?_)
      refine wpAnyH_done (by kernel_rfl) ?_ _
      try simp only [Act.put, List.setIfInBounds_toArray, List.set_cons_zero, List.set_cons_succ]
      exact HQ.out _ _ _ _ _ HSS.out.1 HSS.out.2
    case b4_2 =>
      rw [if_pos (by rfl)]
      go_simp
      generalize hZ0 : (#[Value.string { data := #[] }, Value.map none, Value.string { data := #[] }, Value.string { data := #[] }, Value.string { data := #[] }, Value.string { data := #[] }, Value.string { data := #[] }, Value.string { data := #[] }, Value.string { data := #[] }, Value.string { data := #[] }, Value.string { data := #[] }, Value.string { data := #[] }, Value.string { data := #[] }, Value.string { data := #[] }, Value.string { data := #[] }, Value.string { data := #[] }, Value.string { data := #[] }, Value.string { data := #[] }, Value.string { data := #[] }, Value.string { data := #[] }, Value.string { data := #[] }, Value.string { data := #[] }, Value.string { data := #[] }, Value.string { data := #[] }, Value.string { data := #[] }, Value.string { data := #[] }, Value.string { data := #[] }] : Array Value) = ZC
      have HZS : Hid (ZC.size = 27) := Lib.hid (by rw [← hZ0]; rfl)
      clear hZ0
      have HBWA : Hid (Below W.heap.size W (V1.alloc (.cells ZC 74))) := Lib.hid (HBW1.out.trans ((below_new V1 _).mono HBW1.out.size))
      have HZA : Hid ((V1.alloc (.cells ZC 74)).heap[V1.heap.size]? = some (.cells ZC 74 (0, 0))) := Lib.hid (heap_alloc_new V1 _)
      have HBA : Hid (Below V1.heap.size V1 (V1.alloc (.cells ZC 74))) := Lib.hid (below_new V1 _)
      have HGE : Hid (W.heap.size ≤ V1.heap.size) := Lib.hid (HBW1.out.size)
      generalize (V1.alloc (.cells ZC 74)) = VA at *
      refine hK1.out _ _ ⟨HCE.out _ HBWA.out, HBWA.out⟩ (fun hSA => ?_)
      clear hK1 K1
      try simp only [Act.put, List.setIfInBounds_toArray, List.set_cons_zero, List.set_cons_succ]
      refine wpAnyH_ready (rs := [2]) (by kernel_rfl) (by simp) ?_
      refine AllReadyH.cons (o := { dst := some 9, op := Go.Op.call { callee := Go.Callee.value (Go.Operand.func 42), args := #[], argTypes := #[] }, type := 71, pos := "words.go:193", after := #[{ on := 1, ground := Go.Ground.chain }], guard := none }) rfl (fun K1 hK1 => ?b2_5) (AllReadyH.nil)
      rw [if_pos (by rfl)]
      go_simp
      refine (HSG.out _ hSA.2).mono ?_
      rintro e V2 ⟨rfl, hbb, hb⟩
      have HB2 := Lib.hid hb
      have HBW2 := Lib.hid hbb
      clear hb hbb
      go_wp2_with fail
      refine hK1.out _ _ ⟨HCE.out _ HBW2.out, HBW2.out⟩ (fun hS2 => ?_)
      clear hK1 K1
      try simp only [Act.put, List.setIfInBounds_toArray, List.set_cons_zero, List.set_cons_succ]
      refine wpAnyH_take (i := 3) (oi := { dst := some 10, op := Go.Op.build 74 #[(0, Go.Operand.tmp 7), (1, Go.Operand.tmp 8), (2, Go.Operand.tmp 9)], type := 74, pos := "words.go:193", after := #[{ on := 0, ground := Go.Ground.data }, { on := 1, ground := Go.Ground.data }, { on := 2, ground := Go.Ground.data }], guard := none }) (v := (.agg (#[.string s, .map (some m)] ++ SG))) rfl (by kernel_rfl) (by kernel_rfl) (by kernel_rfl) (fun c a w h => HPAN.out c a w _ _ h) (Or.inl ⟨by rfl, by intro V hV; rw [← HSGV.out]; kernel_rfl⟩) (by assumption) ?_
      try simp only [Act.put, List.setIfInBounds_toArray, List.set_cons_zero, List.set_cons_succ]
      refine wpAnyH_ready (rs := [5]) (by kernel_rfl) (by simp) ?_
      refine AllReadyH.cons (o := { dst := none, op := Go.Op.store 74 (Go.Operand.tmp 3) (Go.Operand.tmp 10), type := 0, pos := "words.go:193", after := #[{ on := 4, ground := Go.Ground.data }, { on := 3, ground := Go.Ground.data }, { on := 2, ground := Go.Ground.chain }, { on := 0, ground := Go.Ground.phase }, { on := 1, ground := Go.Ground.phase }, { on := 2, ground := Go.Ground.phase }, { on := 3, ground := Go.Ground.phase }, { on := 4, ground := Go.Ground.phase }], guard := none }) rfl (fun K1 hK1 => ?b5_6) (AllReadyH.nil)
      rw [if_pos (by rfl)]
      have HSS := Lib.hid (sou_store ((HB2.out.block _ (Array.getElem?_eq_some_iff.1 HZA.out).1).trans HZA.out) ((HKS.out.below HBA.out).below HB2.out) HS.out HGE.out HBW2.out)
      rw [HSGV.out] at HSS
      refine wp_store_row 74 (.tmp 3) (.tmp 10) rfl V1.heap.size (#[.string s, .map (some m)] ++ SG) rfl rfl 74 ZC ((HB2.out.block _ (Array.getElem?_eq_some_iff.1 HZA.out).1).trans HZA.out) ?hi ?hold ?h1 ?_
      case hi => rw [← HSGV.out]; kernel_rfl
      case hold => rw [HZS.out, ← HSGV.out]; kernel_rfl
      case h1 => rw [← HSGV.out]; kernel_rfl
      refine hK1.out _ _ ⟨HCE.out _ HSS.out.2, HSS.out.2⟩ (fun hSZ => ?_)
      refine wpAnyH_done (by kernel_rfl) ?_ _
      try simp only [Act.put, List.setIfInBounds_toArray, List.set_cons_zero, List.set_cons_succ]
      exact HQ.out _ _ _ _ _ HSS.out.1 HSS.out.2
  case b4_1 =>
    rw [if_pos (by rfl)]
    go_simp
    generalize hZ0 : (#[Value.string { data := #[] }, Value.map none, Value.string { data := #[] }, Value.string { data := #[] }, Value.string { data := #[] }, Value.string { data := #[] }, Value.string { data := #[] }, Value.string { data := #[] }, Value.string { data := #[] }, Value.string { data := #[] }, Value.string { data := #[] }, Value.string { data := #[] }, Value.string { data := #[] }, Value.string { data := #[] }, Value.string { data := #[] }, Value.string { data := #[] }, Value.string { data := #[] }, Value.string { data := #[] }, Value.string { data := #[] }, Value.string { data := #[] }, Value.string { data := #[] }, Value.string { data := #[] }, Value.string { data := #[] }, Value.string { data := #[] }, Value.string { data := #[] }, Value.string { data := #[] }, Value.string { data := #[] }] : Array Value) = ZC
    have HZS : Hid (ZC.size = 27) := Lib.hid (by rw [← hZ0]; rfl)
    clear hZ0
    have HBWA : Hid (Below W.heap.size W (W.alloc (.cells ZC 74)).drew) := Lib.hid (below_any 1 (below_new W _))
    have HZA : Hid ((W.alloc (.cells ZC 74)).drew.heap[W.heap.size]? = some (.cells ZC 74 (0, 0))) := Lib.hid (heap_alloc_new W _)
    have HBA : Hid (Below W.heap.size W (W.alloc (.cells ZC 74)).drew) := Lib.hid (below_any 1 (below_new W _))
    have HGE : Hid (W.heap.size ≤ W.heap.size) := Lib.hid (Nat.le_refl _)
    generalize (W.alloc (.cells ZC 74)).drew = VA at *
    refine hK1.out _ _ ⟨HCE.out _ HBWA.out, HBWA.out⟩ (fun hSA => ?_)
    clear hK1 K1
    try simp only [Act.put, List.setIfInBounds_toArray, List.set_cons_zero, List.set_cons_succ]
    refine wpAnyH_ready (rs := [1]) (by kernel_rfl) (by simp) ?_
    refine AllReadyH.cons (o := { dst := some 8, op := Go.Op.call { callee := Go.Callee.value (Go.Operand.func 24), args := #[], argTypes := #[] }, type := 46, pos := "words.go:193", after := #[], guard := none }) rfl (fun K1 hK1 => ?b1_7) (AllReadyH.nil)
    rw [if_pos (by rfl)]
    go_simp
    refine (HKY.out _ hSA.2).mono ?_
    rintro e V1 ⟨m, rfl, hk, hbb, hb⟩
    have HKS := Lib.hid hk
    have HB1 := Lib.hid hb
    have HBW1 := Lib.hid hbb
    clear hk hb hbb
    go_wp2_with fail
    refine hK1.out _ _ ⟨HCE.out _ HBW1.out, HBW1.out⟩ (fun hS1 => ?_)
    clear hK1 K1
    try simp only [Act.put, List.setIfInBounds_toArray, List.set_cons_zero, List.set_cons_succ]
    refine wpAnyH_ready (rs := [2]) (by kernel_rfl) (by simp) ?_
    refine AllReadyH.cons (o := { dst := some 9, op := Go.Op.call { callee := Go.Callee.value (Go.Operand.func 42), args := #[], argTypes := #[] }, type := 71, pos := "words.go:193", after := #[{ on := 1, ground := Go.Ground.chain }], guard := none }) rfl (fun K1 hK1 => ?b2_8) (AllReadyH.nil)
    rw [if_pos (by rfl)]
    go_simp
    refine (HSG.out _ hS1.2).mono ?_
    rintro e V2 ⟨rfl, hbb, hb⟩
    have HB2 := Lib.hid hb
    have HBW2 := Lib.hid hbb
    clear hb hbb
    go_wp2_with fail
    refine hK1.out _ _ ⟨HCE.out _ HBW2.out, HBW2.out⟩ (fun hS2 => ?_)
    clear hK1 K1
    try simp only [Act.put, List.setIfInBounds_toArray, List.set_cons_zero, List.set_cons_succ]
    refine wpAnyH_take (i := 3) (oi := { dst := some 10, op := Go.Op.build 74 #[(0, Go.Operand.tmp 7), (1, Go.Operand.tmp 8), (2, Go.Operand.tmp 9)], type := 74, pos := "words.go:193", after := #[{ on := 0, ground := Go.Ground.data }, { on := 1, ground := Go.Ground.data }, { on := 2, ground := Go.Ground.data }], guard := none }) (v := (.agg (#[.string s, .map (some m)] ++ SG))) rfl (by kernel_rfl) (by kernel_rfl) (by kernel_rfl) (fun c a w h => HPAN.out c a w _ _ h) (Or.inl ⟨by rfl, by intro V hV; rw [← HSGV.out]; kernel_rfl⟩) (by assumption) ?_
    try simp only [Act.put, List.setIfInBounds_toArray, List.set_cons_zero, List.set_cons_succ]
    refine wpAnyH_ready (rs := [5]) (by kernel_rfl) (by simp) ?_
    refine AllReadyH.cons (o := { dst := none, op := Go.Op.store 74 (Go.Operand.tmp 3) (Go.Operand.tmp 10), type := 0, pos := "words.go:193", after := #[{ on := 4, ground := Go.Ground.data }, { on := 3, ground := Go.Ground.data }, { on := 2, ground := Go.Ground.chain }, { on := 0, ground := Go.Ground.phase }, { on := 1, ground := Go.Ground.phase }, { on := 2, ground := Go.Ground.phase }, { on := 3, ground := Go.Ground.phase }, { on := 4, ground := Go.Ground.phase }], guard := none }) rfl (fun K1 hK1 => ?b5_9) (AllReadyH.nil)
    rw [if_pos (by rfl)]
    have HZ1 := Lib.hid ((HB1.out.block _ (Array.getElem?_eq_some_iff.1 HZA.out).1).trans HZA.out)
    have HSS := Lib.hid (sou_store ((HB2.out.block _ (Array.getElem?_eq_some_iff.1 HZ1.out).1).trans HZ1.out) (HKS.out.below HB2.out) HS.out HGE.out HBW2.out)
    rw [HSGV.out] at HSS
    refine wp_store_row 74 (.tmp 3) (.tmp 10) rfl W.heap.size (#[.string s, .map (some m)] ++ SG) rfl rfl 74 ZC ((HB2.out.block _ (Array.getElem?_eq_some_iff.1 HZ1.out).1).trans HZ1.out) ?hi ?hold ?h1 ?_
    case hi => rw [← HSGV.out]; kernel_rfl
    case hold => rw [HZS.out, ← HSGV.out]; kernel_rfl
    case h1 => rw [← HSGV.out]; kernel_rfl
    refine hK1.out _ _ ⟨HCE.out _ HSS.out.2, HSS.out.2⟩ (fun hSZ => ?_)
    refine wpAnyH_done (by kernel_rfl) ?_ _
    try simp only [Act.put, List.setIfInBounds_toArray, List.set_cons_zero, List.set_cons_succ]
    exact HQ.out _ _ _ _ _ HSS.out.1 HSS.out.2
end Go.Proofs.YtejicjcdbfjajaaDoor
