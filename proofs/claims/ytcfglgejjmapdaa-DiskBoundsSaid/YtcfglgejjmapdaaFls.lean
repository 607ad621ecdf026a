/- The files of a disk, told. -/
import Derived.Test.YtcfglgejjmapdaaFil
import Derived.Deep.AppendLies
import Derived.Test.YtcfglgejjmapdaaRound
import Derived.Deep.RegionHeld3
namespace Go.Proofs.Ytcfglgejjmapdaa
open Go Go.RowKit Go.Shelf
attribute [local go_sem] Oper.semAt_some
/-- A disk, from a base world: all its blocks are newer. -/
def TellQ (w : World) (l : List F) (e : Ending) (w' : World) : Prop := ∃ v, e = .returned v ∧ w'.ownsRow w.heap.size 27 3 v l.length (cellsF l) ∧ Below w.heap.size w w'
/-- What holds between two rounds of Files. -/
structure FiI (T : Nat → Prop) (D M : Nat) (gs : List G) (steps : Nat) (hb : Bool) (rm : Int) (w : World) (B : Nat) (pre : List G) (W : World) : Prop where
  dk : DK T D M gs steps hb rm W
  box : W.heap[w.heap.size]? = some (.cells #[.pointer (some ⟨D, 0, none⟩)] 28 (0, 0))
  pfx : pre <+: gs
  out : ∃ v, W.heap[w.heap.size + 1]? = some (.cells #[v] 24 (0, 0)) ∧ W.ownsRow B 27 3 v pre.length (cellsF (pre.map G.f))
  below : Below w.heap.size w W
  size : B ≤ W.heap.size
theorem cells_keepc {A A' : World} {k : Nat} {c : Array Value} {t : TypeId} {row : Option Nat} (h : A.heap[k]? = some (.cells c t (0, 0))) (hg : A.grownBy A' row) (ht : ∀ r, row = some r → ∃ o : Obj, A.heap[r]? = some o ∧ o.isCells = false) : A'.heap[k]? = some (.cells c t (0, 0)) := by
  refine (hg.block k (Array.getElem?_eq_some_iff.1 h).1 fun e => ?_).trans h
  obtain ⟨o, ho, hc⟩ := ht k e.symm
  rw [h] at ho
  cases ho
  cases hc
theorem own_keepc {A A' : World} {B n s : Nat} {e : TypeId} {v : Value} {xs : List Value} {row : Option Nat} (h : A.ownsRow B e s v n xs) (hg : A.grownBy A' row) (ht : ∀ r, row = some r → ∃ o : Obj, A.heap[r]? = some o ∧ o.isCells = false) : A'.ownsRow B e s v n xs := by
  refine h.kept hg ?_
  rcases h.2 with ⟨rfl, _⟩ | ⟨g, cap, cur, rfl, hb, hgg, rest⟩
  · exact .inl rfl
  · right
    intro e
    obtain ⟨o, ho, hc⟩ := ht g e.symm
    rw [hgg] at ho
    cases ho
    cases hc
theorem own_downs {w : World} {base base' n s : Nat} {e : TypeId} {v : Value} {xs : List Value} (h : w.ownsRow base e s v n xs) (hb : base' ≤ base) : w.ownsRow base' e s v n xs := by
  refine ⟨h.1, ?_⟩
  rcases h.2 with h2 | ⟨g, cap, cur, rfl, hg, r⟩
  · exact .inl h2
  · exact .inr ⟨g, cap, cur, rfl, by omega, r⟩
theorem own_belows {w w' : World} {base n s : Nat} {e : TypeId} {v : Value} {xs : List Value} (h : w.ownsRow base e s v n xs) (hb : Below w.heap.size w w') : w'.ownsRow base e s v n xs :=
  h.kept (row := none) ⟨hb.os, hb.tape, hb.output, hb.size, fun k hk _ => hb.block k hk⟩ (by cases v.ownBlock <;> simp)
theorem DK.grown {T : Nat → Prop} {D M steps : Nat} {gs : List G} {hb : Bool} {rm : Int} {A A' : World} {row : Option Nat} (h : DK T D M gs steps hb rm A) (hg : A.grownBy A' row) (hr : ∀ r, row = some r → ¬ T r) : DK T D M gs steps hb rm A' :=
  h.keep (fun b hb => hg.block b (h.lt b hb) (fun e => hr b e.symm hb)) hg.size
theorem FiI.keep {T : Nat → Prop} {D M steps : Nat} {gs : List G} {hb : Bool} {rm : Int} {w : World} {B : Nat} (hT : ∀ b, T b → b < B) (hB : w.heap.size ≤ B) {pre : List G} {A A' : World} {row : Option Nat} (h : FiI T D M gs steps hb rm w B pre A) (hg : A.grownBy A' row) (ht : ∀ r, row = some r → B ≤ r ∧ ∃ o : Obj, A.heap[r]? = some o ∧ o.isCells = false) : FiI T D M gs steps hb rm w B pre A' := by
  have ht' : ∀ r, row = some r → ∃ o : Obj, A.heap[r]? = some o ∧ o.isCells = false := fun r e => (ht r e).2
  obtain ⟨h1, h2, h3, ⟨v, h4, h5⟩, h6, h7⟩ := h
  exact ⟨h1.grown hg (fun r e hr => by have := hT r hr; have := (ht r e).1; omega), cells_keepc h2 hg ht', h3, ⟨v, cells_keepc h4 hg ht', own_keepc h5 hg ht'⟩, h6.grown hg h6.size (fun k e => by have := (ht k e).1; omega), Nat.le_trans h7 hg.size⟩
/-- A file's bytes as a text. -/
theorem conv_file {T : Nat → Prop} {W : World} {g : G} (h : FileIn T W g) : (convert 35 9 g.v).run Try.prog W = .ok (.string g.f.bytes) W := by
  obtain ⟨A, c, hv, hn, hA, _, hr⟩ := h.own.rdV
  rw [hv]
  have hs : (bl g.f.bytes).length = g.f.bytes.size := by rw [Array.length_toList]; rfl
  have h2 := conv_rd (w := W) (A := A) (c := c) (l := bl g.f.bytes) hA (by rw [hs]; exact hn) hr.rd
  rw [hs] at h2
  rw [h2]
theorem prefix_mem {α : Type} {l m : List α} {x : α} (h : l ++ [x] <+: m) : x ∈ m := h.subset (by simp)
theorem fl_step {T : Nat → Prop} {D M steps : Nat} {gs : List G} {hb : Bool} {rm : Int} {w W w1 : World} {B : Nat} {pre : List G} {g : G} {v v' : Value} {x : Array Value} (hT : ∀ b, T b → b < w.heap.size) (hB : w.heap.size + 2 ≤ B)
    (h : FiI T D M gs steps hb rm w B pre W) (hpx : pre ++ [g] <+: gs) (hv : W.heap[w.heap.size + 1]? = some (.cells #[v] 24 (0, 0))) (ho : W.ownsRow B 27 3 v pre.length (cellsF (pre.map G.f)))
    (ho3 : w1.ownsRow B 27 3 v' (pre.length + 1) (cellsF (pre.map G.f ++ [g.f]))) (hg3 : (W.alloc (.cells x 27)).drew.grownBy w1 v.ownBlock) :
    Hid (w1.heap[w.heap.size + 1]? = some (.cells #[v] 24 (0, 0))) ∧ Hid (KeepsFrom B W (w1.setCell ⟨w.heap.size + 1, 0, none⟩ v')) ∧ Hid (KS W (w1.setCell ⟨w.heap.size + 1, 0, none⟩ v')) ∧
    Hid (FiI T D M gs steps hb rm w B (pre ++ [g]) (w1.setCell ⟨w.heap.size + 1, 0, none⟩ v')) ∧
    Hid (∀ b, b < w.heap.size → (W.alloc (.cells x 27)).drew.heap[b]? = W.heap[b]? ∧ w1.heap[b]? = W.heap[b]? ∧ (w1.setCell ⟨w.heap.size + 1, 0, none⟩ v').heap[b]? = W.heap[b]?) := by
  obtain ⟨h1, h2, h3, _, h6, h7⟩ := h
  have bB : Below B W w1 := (below_any 1 ((Below.refl B W).alloc h7 (.cells x 27))).grown hg3 (by show B ≤ (W.alloc (.cells x 27)).heap.size; simp; omega) (fun k hk => (ho.lt k hk).1)
  have c3 : w1.heap[w.heap.size + 1]? = some (.cells #[v] 24 (0, 0)) := (bB.block _ (by omega)).trans hv
  have hrow : ∀ r, v.ownBlock = some r → ∃ y, (W.alloc (.cells x 27)).drew.heap[r]? = some (.cells y 27 (0, 0)) := by
    intro r e
    rcases ho.2 with ⟨e2, _⟩ | ⟨g2, cap2, cur2, e2, hb2, hgg2, _⟩
    · rw [e2] at e; cases e
    · rw [e2] at e
      cases e
      exact ⟨cur2, (Below.heap_alloc W _ g2 (Array.getElem?_eq_some_iff.1 hgg2).1).trans hgg2⟩
  have ko : KeepsOthers W w1 := ((KeepsOthers.alloc W _).trans (KeepsOthers.drew _)).trans (KeepsOthers.of_grownBy hg3 (fun j o e he => by
    obtain ⟨y, hy⟩ := hrow j e
    rw [hy] at he
    cases he
    rfl))
  have ks : KS W w1 := (KS.below (below_any 1 (below_new W (.cells x 27)))).trans ((KS.refl (W.alloc (.cells x 27)).drew).grown hg3 (fun r y p e he => by
    obtain ⟨y2, hy⟩ := hrow r e
    rw [hy] at he
    cases he))
  have blk : ∀ b, b < B → b ≠ w.heap.size + 1 → (w1.setCell ⟨w.heap.size + 1, 0, none⟩ v').heap[b]? = W.heap[b]? := fun b hb hn => (Below.heap_setCell _ ⟨w.heap.size + 1, 0, none⟩ _ b hn).trans (bB.block b hb)
  have hsz : (w1.setCell ⟨w.heap.size + 1, 0, none⟩ v').heap.size = w1.heap.size := by simp [World.setCell]
  refine ⟨c3, (ko.trans (KeepsOthers.setCell _ _ _)).from _, ks.setCell (a := ⟨w.heap.size + 1, 0, none⟩) c3 (by decide) _, ?_, fun b hb => ⟨Below.heap_alloc W _ b (by have := h6.size; omega), bB.block b (by omega), blk b (by omega) (by omega)⟩⟩
  refine ⟨h1.keep (fun b hb => blk b (by have := hT b hb; omega) (by have := hT b hb; omega)) (by rw [hsz]; exact bB.size), (blk _ (by omega) (by omega)).trans h2, hpx, ⟨v', one_setCell c3, ?_⟩, (h6.trans (bB.mono (by omega))).setCell (p := ⟨w.heap.size + 1, 0, none⟩) (by show w.heap.size ≤ w.heap.size + 1; omega) _, by rw [hsz]; exact Nat.le_trans h7 bB.size⟩
  rw [List.length_append, List.map_append]
  refine ownsRow_setCell_other ho3 (a := ⟨w.heap.size + 1, 0, none⟩) (fun e2 => ?_) v'
  have := (ho3.lt _ e2).1
  simp at this
  omega
/-- What a round's region reads. -/
def FS (W : World) (k : Nat) (v : Value) (W' : World) : Prop := W'.heap[k]? = W.heap[k]? ∧ ∀ r, v.ownBlock = some r → W'.heap[r]? = W.heap[r]?
theorem FS.out {T : Nat → Prop} {W W' : World} {n b : ByteArray} {s : Int} {k : Nat} {v : Value} (h : FileIn T W ⟨⟨n, b, s⟩, k, v⟩) (hs : FS W k v W') : W'.cell? ⟨k, 0, none⟩ = some v ∧ W'.cell? ⟨k, 1, none⟩ = some (.int .i64 s) ∧ (convert 35 9 v).run Try.prog W' = .ok (.string b) W' := by
  have h2 : FileIn T W' ⟨⟨n, b, s⟩, k, v⟩ := h.keep hs.1 hs.2 (fun _ x => x)
  have h3 := conv_file h2
  dsimp only at h3
  exact ⟨h2.cellsF.1, h2.cellsF.2, h3⟩
theorem FS.of {T : Nat → Prop} {W W' : World} {g : G} {N : Nat} (h : FileIn T W g) (hT : ∀ b, T b → b < N) (hb : ∀ b, b < N → W'.heap[b]? = W.heap[b]?) : FS W g.k g.v W' := ⟨hb _ (hT _ h.tk), fun r e => hb r (hT r (h.tr r e))⟩
section
variable {w : World} {ops : Array Oper} {o : Oper} {a : Act} {K : Act → World → Prop} {Q : Exit → Act → World → Prop} {E : Prop}
set_option maxRecDepth 100000 in
/-- An append at a step of a region that draws, by its run. -/
theorem step_app (hg : o.guard = none) (s x : Operand) (ts : Array TypeId) (ho : o.op = .call { callee := .builtin .append, args := #[s, x], argTypes := ts })
    (v u v' : Value) (w' : World) (hs : a.eval s = v) (hx : a.eval x = u) (hrun : (Builtin.append_ ts o.type #[v, u]).run Try.prog w = .ok v' w')
    (hK : K (a.put o.dst v') w') : if Region.wanted o (yielded ops a.tmps) = true then Oper.wp Try.prog o a w K Q else E := by
  have hw : Region.wanted o (yielded ops a.tmps) = true := by simp [Region.wanted, hg]
  rw [if_pos hw]
  unfold Oper.wp
  simp [execOp, ho, resolve, invoke, builtin, hs, hx, hrun, Result.andThen]
  exact hK
end
def tmpsL (D C E : Nat) (y n : Value) : Array Value := #[.pointer (some ⟨D, 0, none⟩), .pointer (some ⟨C, 0, none⟩), .slice none 0 0, .pointer (some ⟨C + 1, 0, none⟩), n, undef, .pointer (some ⟨D, 0, none⟩), .bool false, .pointer (some ⟨D, 0, none⟩), .func (.func 53) #[] #[.pointer (some ⟨E, 0, none⟩)], y, undef, undef, undef, undef, undef, undef, undef, undef, undef, undef, undef, undef, undef, undef, undef, undef, undef, undef, undef, undef, undef]
set_option maxRecDepth 100000 in
set_option maxHeartbeats 8000000 in
theorem files_any {T : Nat → Prop} {D M steps : Nat} {gs : List G} {hb : Bool} {rm : Int} (w : World) (h : DK T D M gs steps hb rm w) (hmax : gs.length ≤ 100000) :
    Calls Try.prog 20 #[.pointer (some ⟨D, 0, none⟩)] w (TellQ w (gs.map G.f)) := by
  have HD := Lib.hid h
  clear h
  refine (callsIn_wide (n := 4)).1 ?_
  refine callsIn_of_wp_marks Try.func20 rfl trivial ?_ rfl
  simp only [Try.ntmps20, List.size_toArray, List.length_cons, List.length_nil, Nat.reduceAdd, Nat.reduceSub, Array.replicate_succ, Array.replicate_zero, List.push_toArray, List.append_toArray, List.nil_append, List.cons_append]
  gi_wp2_with fail
  refine ⟨trivial, (callsIn_wide.2 (none_any _ (HD.out.below (below_new w _)))).mono ?_⟩
  rintro e w2 ⟨rfl, rfl⟩
  gi_wp2_with fail
  refine ⟨trivial, (callsIn_wide.2 (rising_any D _)).mono ?_⟩
  rintro e w3 ⟨rfl, rfl⟩
  gi_wp2_with fail
  have b1 : Below w.heap.size w (((w.alloc (.cells #[.pointer (some ⟨D, 0, none⟩)] 28)).alloc (.cells #[.slice none 0 0] 24)).alloc (.cells #[.pointer (some ⟨D, 0, none⟩)] 28)) := (((Below.refl _ w).alloc (Nat.le_refl _) _).alloc (by simp) _).alloc (by simp; omega) _
  have e0 : (((w.alloc (.cells #[.pointer (some ⟨D, 0, none⟩)] 28)).alloc (.cells #[.slice none 0 0] 24)).alloc (.cells #[.pointer (some ⟨D, 0, none⟩)] 28)).heap[w.heap.size]? = some (.cells #[.pointer (some ⟨D, 0, none⟩)] 28 (0, 0)) :=
    (Below.heap_alloc _ _ w.heap.size (by simp; omega)).trans ((Below.heap_alloc _ _ w.heap.size (by simp)).trans (heap_alloc_new w _))
  have e1 : (((w.alloc (.cells #[.pointer (some ⟨D, 0, none⟩)] 28)).alloc (.cells #[.slice none 0 0] 24)).alloc (.cells #[.pointer (some ⟨D, 0, none⟩)] 28)).heap[w.heap.size + 1]? = some (.cells #[.slice none 0 0] 24 (0, 0)) := by
    refine (Below.heap_alloc _ _ (w.heap.size + 1) (by simp)).trans ?_
    have h := heap_alloc_new (w.alloc (.cells #[.pointer (some ⟨D, 0, none⟩)] 28)) (.cells #[.slice none 0 0] 24)
    rwa [show (w.alloc (.cells #[.pointer (some ⟨D, 0, none⟩)] 28)).heap.size = w.heap.size + 1 by simp] at h
  have e2 : (((w.alloc (.cells #[.pointer (some ⟨D, 0, none⟩)] 28)).alloc (.cells #[.slice none 0 0] 24)).alloc (.cells #[.pointer (some ⟨D, 0, none⟩)] 28)).heap[w.heap.size + 2]? = some (.cells #[.pointer (some ⟨D, 0, none⟩)] 28 (0, 0)) := by
    have h := heap_alloc_new ((w.alloc (.cells #[.pointer (some ⟨D, 0, none⟩)] 28)).alloc (.cells #[.slice none 0 0] 24)) (.cells #[.pointer (some ⟨D, 0, none⟩)] 28)
    rwa [show ((w.alloc (.cells #[.pointer (some ⟨D, 0, none⟩)] 28)).alloc (.cells #[.slice none 0 0] 24)).heap.size = w.heap.size + 2 by simp] at h
  have hsz : (((w.alloc (.cells #[.pointer (some ⟨D, 0, none⟩)] 28)).alloc (.cells #[.slice none 0 0] 24)).alloc (.cells #[.pointer (some ⟨D, 0, none⟩)] 28)).heap.size = w.heap.size + 3 := by simp
  generalize ((w.alloc (.cells #[.pointer (some ⟨D, 0, none⟩)] 28)).alloc (.cells #[.slice none 0 0] 24)).alloc (.cells #[.pointer (some ⟨D, 0, none⟩)] 28) = wl at *
  have hD2 := HD.out.below b1
  have hT : ∀ b, T b → b < w.heap.size := HD.out.lt
  refine rangeG (n := 4) (by omega) (gf := 53) (lb := #[.pointer (some ⟨w.heap.size + 1 + 1, 0, none⟩)]) rfl (enters_of Try.func53 (by kernel_rfl) rfl)
    (rising_seq 3 (w.heap.size + 2) wl (by omega) hD2 e2 (by omega)) KS.trans (fun W k o o' hk ho => KS.putObj hk ho) (fun _ => rfl)
    (FiI T D M gs steps hb rm w (w.heap.size + 3)) (fun pre A1 A2 row h hg ht => h.keep (fun b hb => by have := hT b hb; omega) (by omega) hg (fun r e => ⟨by have := (ht r e).1; omega, (ht r e).2⟩))
    ⟨hD2, e0, List.nil_prefix, ⟨_, e1, World.ownsRow_nil _ _ _ _⟩, b1, by omega⟩
    (fun x => { tmps := tmpsL D w.heap.size (w.heap.size + 1 + 1) (.string (gn x)) (.string (gn x)), defers := [] })
    ?assign ?body ?done
  case assign =>
    intro l' x W K hK
    unfold tmpsL at hK
    gi_wp2
    exact hK
  case body =>
    rintro l' pre g W hl hpx hI hlen
    have hg := prefix_mem hpx
    have hlook := hI.dk.look (gn g) (hI.dk.files g hg).nsz
    rw [fnd_eq hI.dk.rise hg] at hlook
    have hf := hI.dk.files g hg
    have HF := Lib.hid hf
    have hcd := hI.dk.cellsD.1
    obtain ⟨hf0, hf1⟩ := hf.cellsF
    obtain ⟨vo, hv, ho⟩ := hI.out
    obtain ⟨Ao, co, hvo, _, _, _, _, _⟩ := own_rdF ho (by simp)
    have hcell := cell_of_one hv
    have hbox := cell_of_one hI.box
    have hple : pre.length ≤ 100000 := by omega
    have HI := Lib.hid hI
    have HV := Lib.hid hv
    have HO := Lib.hid ho
    have HPX := Lib.hid hpx
    have hBs := hI.size
    have HT := Lib.hid hT
    have HSZ := Lib.hid hsz
    obtain ⟨⟨n, b, s⟩, k, v⟩ := g
    have hrd : RdF (W.alloc (.cells #[.string n, .string b, .int .i64 s] 27)).drew (some ⟨W.heap.size, 0, none⟩) [⟨n, b, s⟩] := new_rdF W [⟨n, b, s⟩]
    obtain ⟨v', w1, hrun, ho3, hg3, _⟩ := run_files (w := (W.alloc (.cells #[.string n, .string b, .int .i64 s] 27)).drew) 24 (w.heap.size + 3) vo (pre.map G.f) pre.length (by simp) (own_belows (w := W) (w' := (W.alloc (.cells #[.string n, .string b, .int .i64 s] 27)).drew) HO.out (below_any 1 (below_new W _))) _ 1 1 [⟨n, b, s⟩] rfl hrd (by simp) (by omega) (by omega) (by show _ ≤ (W.alloc _).heap.size; simp; omega) (by simp)
    obtain ⟨Hcd, HK, HKS, HIn, HBB⟩ := fl_step (g := ⟨⟨n, b, s⟩, k, v⟩) HT.out (by omega) HI.out HPX.out HV.out HO.out ho3 hg3
    obtain ⟨A3, c3, hv3, _⟩ := own_rdF ho3 (by simp)
    subst hv3
    have hc3 := cell_of_one Hcd.out
    have hcellA : (W.alloc (.cells #[.string n, .string b, .int .i64 s] 27)).drew.cell? ⟨w.heap.size + 1, 0, none⟩ = some vo := cell_of_one ((Below.heap_alloc W _ _ (Array.getElem?_eq_some_iff.1 HV.out).1).trans HV.out)
    have hf3 := free_of_one Hcd.out
    subst hvo
    have hmo : Try.prog.follows .mixedOrders = true := by kernel_rfl
    clear hI hv ho hpx hT b1 e0 e1 e2 hsz hD2 hf hg hrd ho3 hg3
    unfold tmpsL
    dsimp only [gn] at hlook hf0 hf1 ⊢
    gi_wp2_with fail
    refine held_in_round (S := FS W k v) (by kernel_rfl) (hd_of (by kernel_rfl)) (fun ⟨_, _, h⟩ => h) ⟨rfl, fun _ _ => rfl⟩ (fun hHeld => ?_)
    refine wpAnyH_take (i := 1) (v := ?_) rfl (by kernel_rfl) (by kernel_rfl) (by kernel_rfl) (fun _ _ _ h => h) (Or.inl ⟨by rfl, ?_⟩) (by assumption) ?_
    rotate_left
    · intro w hSw
      obtain ⟨c0, c1, cv⟩ := FS.out HF.out hSw
      go_simp
      try with_reducible rfl
    simp only [Act.put, List.setIfInBounds_toArray, List.set_cons_zero, List.set_cons_succ]
    refine wpAnyH_take (i := 2) (v := ?_) rfl (by kernel_rfl) (by kernel_rfl) (by kernel_rfl) (fun _ _ _ h => h) (Or.inl ⟨by rfl, ?_⟩) (by assumption) ?_
    rotate_left
    · intro w hSw
      obtain ⟨c0, c1, cv⟩ := FS.out HF.out hSw
      go_simp
      try with_reducible rfl
    simp only [Act.put, List.setIfInBounds_toArray, List.set_cons_zero, List.set_cons_succ]
    refine wpAnyH_take (i := 3) (v := ?_) rfl (by kernel_rfl) (by kernel_rfl) (by kernel_rfl) (fun _ _ _ h => h) (Or.inl ⟨by rfl, ?_⟩) (by assumption) ?_
    rotate_left
    · intro w hSw
      obtain ⟨c0, c1, cv⟩ := FS.out HF.out hSw
      go_simp
      try with_reducible rfl
    simp only [Act.put, List.setIfInBounds_toArray, List.set_cons_zero, List.set_cons_succ]
    refine wpAnyH_take (i := 4) (v := ?_) rfl (by kernel_rfl) (by kernel_rfl) (by kernel_rfl) (fun _ _ _ h => h) (Or.inl ⟨by rfl, ?_⟩) (by assumption) ?_
    rotate_left
    · intro w hSw
      obtain ⟨c0, c1, cv⟩ := FS.out HF.out hSw
      go_simp
      try with_reducible rfl
    simp only [Act.put, List.setIfInBounds_toArray, List.set_cons_zero, List.set_cons_succ]
    refine wpAnyH_take (i := 5) (v := ?_) rfl (by kernel_rfl) (by kernel_rfl) (by kernel_rfl) (fun _ _ _ h => h) (Or.inl ⟨by rfl, ?_⟩) (by assumption) ?_
    rotate_left
    · intro w hSw
      obtain ⟨c0, c1, cv⟩ := FS.out HF.out hSw
      go_simp
      try with_reducible rfl
    simp only [Act.put, List.setIfInBounds_toArray, List.set_cons_zero, List.set_cons_succ]
    refine wpAnyH_take (i := 6) (v := ?_) rfl (by kernel_rfl) (by kernel_rfl) (by kernel_rfl) (fun _ _ _ h => h) (Or.inl ⟨by rfl, ?_⟩) (by assumption) ?_
    rotate_left
    · intro w hSw
      obtain ⟨c0, c1, cv⟩ := FS.out HF.out hSw
      go_simp
      try with_reducible rfl
    simp only [Act.put, List.setIfInBounds_toArray, List.set_cons_zero, List.set_cons_succ]
    refine wpAnyH_take (i := 7) (v := ?_) rfl (by kernel_rfl) (by kernel_rfl) (by kernel_rfl) (fun _ _ _ h => h) (Or.inl ⟨by rfl, ?_⟩) (by assumption) ?_
    rotate_left
    · intro w hSw
      obtain ⟨c0, c1, cv⟩ := FS.out HF.out hSw
      go_simp
      try with_reducible rfl
    simp only [Act.put, List.setIfInBounds_toArray, List.set_cons_zero, List.set_cons_succ]
    refine wpAnyH_take (i := 8) (v := ?_) rfl (by kernel_rfl) (by kernel_rfl) (by kernel_rfl) (fun _ _ _ h => h) (Or.inl ⟨by rfl, ?_⟩) (by assumption) ?_
    rotate_left
    · intro w hSw
      obtain ⟨c0, c1, cv⟩ := FS.out HF.out hSw
      go_simp
      try with_reducible rfl
    simp only [Act.put, List.setIfInBounds_toArray, List.set_cons_zero, List.set_cons_succ]
    refine wpAnyH_take (i := 9) (v := ?_) rfl (by kernel_rfl) (by kernel_rfl) (by kernel_rfl) (fun _ _ _ h => h) (Or.inl ⟨by rfl, ?_⟩) (by assumption) ?_
    rotate_left
    · intro w hSw
      obtain ⟨c0, c1, cv⟩ := FS.out HF.out hSw
      go_simp
      try with_reducible rfl
    simp only [Act.put, List.setIfInBounds_toArray, List.set_cons_zero, List.set_cons_succ]
    refine wpAnyH_take (i := 10) (v := ?_) rfl (by kernel_rfl) (by kernel_rfl) (by kernel_rfl) (fun _ _ _ h => h) (Or.inl ⟨by rfl, ?_⟩) (by assumption) ?_
    rotate_left
    · intro w hSw
      obtain ⟨c0, c1, cv⟩ := FS.out HF.out hSw
      go_simp
      try with_reducible rfl
    simp only [Act.put, List.setIfInBounds_toArray, List.set_cons_zero, List.set_cons_succ]
    refine wpAnyH_take (i := 11) (v := ?_) rfl (by kernel_rfl) (by kernel_rfl) (by kernel_rfl) (fun _ _ _ h => h) (Or.inl ⟨by rfl, ?_⟩) (by assumption) ?_
    rotate_left
    · intro w hSw
      obtain ⟨c0, c1, cv⟩ := FS.out HF.out hSw
      go_simp
      try with_reducible rfl
    simp only [Act.put, List.setIfInBounds_toArray, List.set_cons_zero, List.set_cons_succ]
    refine wpAnyH_ready (rs := [0, 12]) (by kernel_rfl) (by simp) ?_
    refine AllReadyH.cons rfl (fun K hK => ?_) (AllReadyH.cons rfl (fun K hK => ?_) AllReadyH.nil)
    · go_simp
      refine hK.out _ _ (by assumption) (fun hHeld => ?_)
      clear hK K
      try simp only [Act.put, List.setIfInBounds_toArray, List.set_cons_zero, List.set_cons_succ]
      refine wpAnyH_ready (rs := [12]) (by kernel_rfl) (by simp) ?_
      refine AllReadyH.cons rfl (fun K hK => ?_) AllReadyH.nil
      go_simp
      refine hK.out _ _ (FS.of HF.out HT.out (fun b hb => (HBB.out b hb).1)) (fun hHeld => ?_)
      clear hK K
      try simp only [Act.put, List.setIfInBounds_toArray, List.set_cons_zero, List.set_cons_succ]
      refine wpAnyH_ready (rs := [13]) (by kernel_rfl) (by simp) ?_
      refine AllReadyH.cons rfl (fun K hK => ?_) AllReadyH.nil
      refine step_app rfl _ _ _ rfl _ _ _ _ rfl rfl hrun ?_
      refine hK.out _ _ (FS.of HF.out HT.out (fun b hb => (HBB.out b hb).2.1)) (fun hHeld => ?_)
      clear hK K
      try simp only [Act.put, List.setIfInBounds_toArray, List.set_cons_zero, List.set_cons_succ]
      refine wpAnyH_ready (rs := [14]) (by kernel_rfl) (by simp) ?_
      refine AllReadyH.cons rfl (fun K hK => ?_) AllReadyH.nil
      go_simp
      refine hK.out _ _ (FS.of HF.out HT.out (fun b hb => (HBB.out b hb).2.2)) (fun hHeld => ?_)
      clear hK K
      refine wpAnyH_done (by kernel_rfl) ?_ _
      exact ⟨by rw [HSZ.out]; exact HK.out, HKS.out, HIn.out⟩
    · go_simp
      refine hK.out _ _ (FS.of HF.out HT.out (fun b hb => (HBB.out b hb).1)) (fun hHeld => ?_)
      clear hK K
      try simp only [Act.put, List.setIfInBounds_toArray, List.set_cons_zero, List.set_cons_succ]
      refine wpAnyH_ready (rs := [0]) (by kernel_rfl) (by simp) ?_
      refine AllReadyH.cons rfl (fun K hK => ?_) AllReadyH.nil
      go_simp
      refine hK.out _ _ (by assumption) (fun hHeld => ?_)
      clear hK K
      try simp only [Act.put, List.setIfInBounds_toArray, List.set_cons_zero, List.set_cons_succ]
      refine wpAnyH_ready (rs := [13]) (by kernel_rfl) (by simp) ?_
      refine AllReadyH.cons rfl (fun K hK => ?_) AllReadyH.nil
      refine step_app rfl _ _ _ rfl _ _ _ _ rfl rfl hrun ?_
      refine hK.out _ _ (FS.of HF.out HT.out (fun b hb => (HBB.out b hb).2.1)) (fun hHeld => ?_)
      clear hK K
      try simp only [Act.put, List.setIfInBounds_toArray, List.set_cons_zero, List.set_cons_succ]
      refine wpAnyH_ready (rs := [14]) (by kernel_rfl) (by simp) ?_
      refine AllReadyH.cons rfl (fun K hK => ?_) AllReadyH.nil
      go_simp
      refine hK.out _ _ (FS.of HF.out HT.out (fun b hb => (HBB.out b hb).2.2)) (fun hHeld => ?_)
      clear hK K
      refine wpAnyH_done (by kernel_rfl) ?_ _
      exact ⟨by rw [HSZ.out]; exact HK.out, HKS.out, HIn.out⟩
  case done =>
    rintro Dd xs W hDd hS hI hdef
    obtain ⟨vo, hv, ho⟩ := hI.out
    have hcell := cell_of_one hv
    have HI := Lib.hid hI
    have HO := Lib.hid ho
    have HDF := Lib.hid hdef
    have hDd2 : w.heap.size ≤ Dd := by omega
    subst hS
    clear hI hv ho hdef b1 e0 e1 e2 hsz hD2
    gi_wp2_with fail
    have hrow : W.grownBy (W.putObj Dd (.deferred none)) (some Dd) := grownBy_putObj' _ _ _
    have htd : ∀ r, some Dd = some r → ∃ o : Obj, W.heap[r]? = some o ∧ o.isCells = false := fun r e => by cases e; exact ⟨_, HDF.out, rfl⟩
    refine ⟨by simp, .inl ⟨_, _, rfl, run_takeDeferred (w := W) HDF.out, ?_⟩⟩
    have hle : (xs.map G.f).length = xs.length := by simp
    have ho5 := own_keepc HO.out hrow htd
    refine ⟨_, results_tmp Try.results20 _ _ _, vo, rfl, ?_, HI.out.below.grown hrow HI.out.below.size (fun k e => by cases e; omega)⟩
    rw [hle]
    exact own_downs ho5 (by omega)
end Go.Proofs.Ytcfglgejjmapdaa
