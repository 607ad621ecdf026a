/- What the laws of a disk say about its files. -/
import Derived.Test.YtcfglgejjmapdaaLaw
namespace Go.Proofs.Ytcfglgejjmapdaa
open Go Go.RowKit Go.Shelf
/-- Files as a disk has them. -/
def fineL (fs : List F) : Prop := Rising F.name fs ∧ ∀ f ∈ fs, nameB f.name = true ∧ 0 ≤ f.sync ∧ f.sync ≤ f.bytes.size ∧ f.bytes.size ≤ 1048576
theorem On.fine {T : Nat → Prop} {B D M steps : Nat} {fs : List F} {hb : Bool} {rm : Int} {w : World} (h : On B T D M fs steps hb rm w) : fineL fs := by
  obtain ⟨gs, h1, rfl, _⟩ := h
  refine ⟨?_, fun f hf => ?_⟩
  · have := h1.rise
    unfold Rising at this ⊢
    rw [List.pairwise_map]
    exact this
  · obtain ⟨g, hg, rfl⟩ := List.mem_map.1 hf
    have h2 := h1.files g hg
    exact ⟨h2.nmv, h2.s0, h2.s1, h2.mx⟩
theorem fnd_wth {l : List F} {x : F} (h : Rising F.name l) : fnd F.name (wth F.name l x) x.name = some x :=
  fnd_eq (h.wth x) (mem_wth.2 (.inl rfl))
theorem wth_len (l : List F) (x : F) : (wth F.name l x).length ≤ l.length + 1 := by
  unfold wth
  rw [List.length_append, List.length_cons]
  have h1 := List.takeWhile_append_dropWhile (p := fun g => ltB (F.name g) (F.name x)) (l := drp F.name l x.name)
  have h2 := congrArg List.length h1
  rw [List.length_append] at h2
  have h3 := drp_len l x.name
  omega
theorem append_len (fs : List F) (nm : ByteArray) (b : List UInt8) : (appendF fs nm b).length ≤ fs.length + 1 := by
  unfold appendF
  split <;> exact wth_len _ _
theorem sync_len (fs : List F) (nm : ByteArray) : (syncF fs nm).length ≤ fs.length + 1 := by
  unfold syncF
  split
  · exact wth_len _ _
  · omega
theorem wth_len_in {l : List F} {x f : F} (h : fnd F.name l x.name = some f) : (wth F.name l x).length ≤ l.length := by
  unfold wth
  rw [List.length_append, List.length_cons]
  have h1 := List.takeWhile_append_dropWhile (p := fun g => ltB (F.name g) (F.name x)) (l := drp F.name l x.name)
  have h2 := congrArg List.length h1
  rw [List.length_append] at h2
  have h3 : (drp F.name l x.name).length < l.length := by
    obtain ⟨h4, h5⟩ := fnd_mem h
    unfold drp
    exact List.length_filter_lt_length_iff_exists.2 ⟨f, h4, by simp [h5]⟩
  omega
theorem sync_len_in {fs : List F} {nm : ByteArray} {f : F} (h : fnd F.name fs nm = some f) : (syncF fs nm).length ≤ fs.length := by
  unfold syncF
  rw [h]
  exact wth_len_in (x := ⟨nm, f.bytes, f.bytes.size⟩) h
theorem append_len_in {fs : List F} {nm : ByteArray} {f : F} {b : List UInt8} (h : fnd F.name fs nm = some f) : (appendF fs nm b).length ≤ fs.length := by
  unfold appendF
  rw [h]
  exact wth_len_in (x := ⟨nm, ⟨(bl f.bytes ++ b).toArray⟩, f.sync⟩) h
theorem rise_crash {keep : List Int} {fs : List F} (h : Rising F.name fs) : Rising F.name (crashL keep fs) := by
  have h1 : ((crashL keep fs).map F.name).Pairwise fun a b => ltB a b = true := by
    rw [crashL_name, List.pairwise_map]
    exact h
  rw [List.pairwise_map] at h1
  exact h1
theorem fnd_crash {keep : List Int} {fs : List F} {nm : ByteArray} {x : F} (h : Rising F.name fs) (hx : fnd F.name fs nm = some x) : ∃ i, fnd F.name (crashL keep fs) nm = some (crashAt keep i x) := by
  obtain ⟨h1, h2⟩ := fnd_mem hx
  obtain ⟨i, hi, rfl⟩ := List.getElem_of_mem h1
  have hi2 : i < (crashL keep fs).length := by rw [crashL_len]; exact hi
  have h3 : (crashL keep fs)[i] = crashAt keep i fs[i] := by simp [crashL]
  have h4 := fnd_eq (rise_crash (keep := keep) h) (List.getElem_mem hi2)
  rw [h3] at h4
  have h5 : (crashAt keep i fs[i]).name = nm := h2
  rw [h5] at h4
  exact ⟨i, h4⟩
/-- What is there once it was synced: before and behind a crash. -/
theorem lasts {fs : List F} {nm : ByteArray} {f : F} (hf : fineL fs) (h : fnd F.name fs nm = some f) : fnd F.name (syncF fs nm) nm = some ⟨nm, f.bytes, f.bytes.size⟩ := by
  have h1 := fnd_wth (x := ⟨nm, f.bytes, f.bytes.size⟩) hf.1
  unfold syncF
  rw [h]
  exact h1
theorem lasts2 {fs : List F} {nm : ByteArray} {f : F} (hf : fineL (syncF fs nm)) (h : fnd F.name (syncF fs nm) nm = some ⟨nm, f.bytes, f.bytes.size⟩) (b : List UInt8) (keep : List Int) (hf2 : fineL (appendF (syncF fs nm) nm b)) :
    ∃ m : Nat, fnd F.name (crashL keep (appendF (syncF fs nm) nm b)) nm = some ⟨nm, ⟨((bl f.bytes ++ b).take m).toArray⟩, m⟩ ∧ f.bytes.size ≤ m ∧ m ≤ f.bytes.size + b.length := by
  have h1 : fnd F.name (appendF (syncF fs nm) nm b) nm = some ⟨nm, ⟨(bl f.bytes ++ b).toArray⟩, f.bytes.size⟩ := by
    have h2 := fnd_wth (x := ⟨nm, ⟨(bl f.bytes ++ b).toArray⟩, f.bytes.size⟩) hf.1
    unfold appendF
    rw [h]
    exact h2
  obtain ⟨i, h3⟩ := fnd_crash (keep := keep) hf2.1 h1
  have hz : (⟨(bl f.bytes ++ b).toArray⟩ : ByteArray).size = f.bytes.size + b.length := by
    show (bl f.bytes ++ b).toArray.size = _
    simp [bl]
  have hle := moreAt_le (keep := keep) (i := i) (f := ⟨nm, ⟨(bl f.bytes ++ b).toArray⟩, f.bytes.size⟩) (by simp) (by simp only [hz]; omega)
  simp only [hz] at hle
  refine ⟨(f.bytes.size : Int).toNat + moreAt keep i ⟨nm, ⟨(bl f.bytes ++ b).toArray⟩, f.bytes.size⟩, ?_, by simp, hle⟩
  rw [h3]
  rfl
theorem synced_err {fs : List F} {nm : ByteArray} {f : F} (hn : nameB nm = true) (h : fnd F.name fs nm = some f) : stepErr [nm] (thereF fs nm) false 0 = 0 := by
  simp [stepErr, thereF, h, hn]
theorem appended_err {fs : List F} {nm : ByteArray} {f : F} {b : List UInt8} (hn : nameB nm = true) (h : fnd F.name fs nm = some f) (hb : f.bytes.size + b.length ≤ 1048576) : stepErr [nm] (longF fs nm b.length) false 0 = 0 := by
  have h1 : longF fs nm b.length = 0 := by
    unfold longF hadF
    rw [h]
    dsimp only
    rw [if_neg (by omega)]
  simp [stepErr, h1, hn]
theorem crash_twice {keep : List Int} {fs : List F} (h : fineL fs) : crashL [] (crashL keep fs) = crashL keep fs := by
  apply List.ext_getElem (by simp [crashL])
  intro i h1 h2
  have hi : i < fs.length := by simpa [crashL] using h1
  have hm := h.2 _ (List.getElem_mem hi)
  have hle := moreAt_le (keep := keep) (i := i) (f := fs[i]) hm.2.1 hm.2.2.1
  simp only [crashL, List.getElem_mapIdx]
  have h0 : moreAt [] i (crashAt keep i fs[i]) = 0 := moreAt_none (by simp)
  unfold crashAt at h0 ⊢
  rw [h0]
  simp only [cutF, Int.toNat_natCast, Nat.add_zero]
  congr 2
  simp [bl, List.take_take]
def mostI : Int := 9223372036854775807
theorem crash_most {fs : List F} {k : Nat} (h : fineL fs) (hk : fs.length ≤ k) (i : Nat) (hi : i < fs.length) : (crashL (List.replicate k mostI) fs)[i]'(by rw [crashL_len]; exact hi) = ⟨fs[i].name, fs[i].bytes, fs[i].bytes.size⟩ := by
  have hm := h.2 _ (List.getElem_mem hi)
  have hik : i < (List.replicate k mostI).length := by simp; omega
  have h1 := moreAt_all (keep := List.replicate k mostI) (i := i) (f := fs[i]) hik hm.2.2.1 (by simp [mostI]) (by simp only [List.getElem_replicate, mostI]; omega)
  simp only [crashL, List.getElem_mapIdx]
  unfold crashAt
  have h2 : fs[i].sync.toNat + moreAt (List.replicate k mostI) i fs[i] = fs[i].bytes.size := by omega
  rw [h2]
  unfold cutF
  have h3 : (bl fs[i].bytes).take fs[i].bytes.size = bl fs[i].bytes := List.take_of_length_le (by simp [bl])
  rw [h3]
section
variable {T : Nat → Prop} {B D M steps : Nat} {fs fs' : List F} {rm : Int}
theorem Went.no {hb : Bool} {r : Int} {w w' : World} (h : Went B T D M fs fs' steps hb rm r w w') (hr : r ≠ 0) : ∃ T', On B T' D M fs steps hb rm w' ∧ KeepT T w w' ∧ ∀ b, T' b → T b ∨ w.heap.size ≤ b := by
  unfold Went at h
  simpa [hr] using h
theorem Went.free {r : Int} {w w' : World} (h : Went B T D M fs fs' steps false rm r w w') : ∃ T' fs2 st2, On B T' D M fs2 st2 false rm w' ∧ (fs2 = fs ∨ fs2 = fs') ∧ st2 ≤ steps + 1 ∧ KeepT T w w' ∧ ∀ b, T' b → T b ∨ w.heap.size ≤ b := by
  by_cases hr : r = 0
  · subst hr
    obtain ⟨T', h1, h2, h3⟩ := h.zero
    exact ⟨T', _, _, h1, .inr rfl, Nat.le_refl _, h2, h3⟩
  · obtain ⟨T', h1, h2, h3⟩ := h.no hr
    exact ⟨T', _, _, h1, .inl rfl, Nat.le_succ _, h2, h3⟩
end
theorem keep_below {B0 : Nat} {T : Nat → Prop} {w W W' : World} (h : Below B0 w W) (hk : KeepT T W W') (ht : ∀ b, T b → B0 ≤ b) (hb : B0 ≤ W.heap.size) : Below B0 w W' := h.trans (hk.below ht hb)
theorem int_info : (Try.prog.info? 3).map (fun i => (i.zero, i.size, i.bytes)) = some (some (.int .i64 0), 1, 8) := by kernel_rfl
theorem intsV_app (a b : List Int) : intsV (a ++ b) = intsV a ++ intsV b := by simp [intsV]
theorem intsV_len (a : List Int) : (intsV a).length = a.length := by simp [intsV]
theorem intsV_one (a : List Int) : ∀ u ∈ intsV a, u.oneCell' = true := by
  intro u hu
  obtain ⟨z, _, rfl⟩ := List.mem_map.1 hu
  rfl
section
variable {w : World} {ops : Array Oper} {rest : List Oper} {o : Oper} {a : Act} {Q : Exit → Act → World → Prop}
theorem wpList_ints (hg : o.guard = none) (s x : Operand) (ho : o.op = .call { callee := .builtin .append, args := #[s, x], argTypes := #[55, 55] })
    (base : Nat) (v : Value) (l : List Int) (N : Nat) (hs : a.eval s = v) (hown : w.ownsRow base 3 1 v N (intsV l)) (A : Option Addr) (n c : Nat) (m : List Int) (hm : m.length = n) (hx : a.eval x = .slice A n c)
    (hr : RdV w A (intsV m)) (hn : A = none → c = 0) (hc : n ≤ c) (b1 : N + n ≤ 1000000) (hb : base ≤ w.heap.size)
    (hK : ∀ v' w', w'.ownsRow base 3 1 v' (N + n) (intsV (l ++ m)) → Below base w w' → wpList Try.prog ops Q rest (a.put o.dst v') w') : wpList Try.prog ops Q (o :: rest) a w := by
  obtain ⟨i0, hi, hz0, hz1, hz2⟩ := info_parts int_info
  have hml : (intsV m).length = n := by rw [intsV_len, hm]
  refine wpList_append_src (P := Try.prog) hg s x 55 ho base 3 i0 (.int .i64 0) 8 Try.underlying55 hi hz0 hz1 hz2 rfl v N (intsV l) hs hown A c (intsV m) (by rw [hx, hml]) hr hn (by rw [hml]; exact hc) (intsV_one m) (by rw [hml]; simp only [maxLen]; omega) (by rw [hml]; omega) hb ?_
  intro v' w' h1 h2
  rw [hml, ← intsV_app] at h1
  exact hK v' w' h1 ((Below.refl base w).grown h2 hb (fun k hk => (hown.lt k hk).1))
end
theorem rd_int (w : World) (z : Int) : RdV (w.alloc (.cells #[.int .i64 z] 3)) (some ⟨w.heap.size, 0, none⟩) (intsV [z]) := fun _ => by
  have := heap_alloc_new w (.cells #[.int .i64 z] 3)
  refine ⟨w.heap.size, 0, rfl, (Array.getElem?_eq_some_iff.1 this).1, fun j hj => ?_⟩
  have hj0 : j = 0 := by simp [intsV] at hj; omega
  subst hj0
  simp only [World.cell?, this]
  rfl
theorem quiet_S {P : Program} {f : FuncId} {args : Array Value} {w : World} {n : Nat} {v : Value} (h : Calls P f args (w.drewN n) fun e w' => e = .returned v ∧ w.drewN n = w') :
    Calls P f args (w.drewN n) fun e w'' => e = .returned v ∧ ∃ m, w'' = w.drewN m := h.mono fun _ _ ⟨he, hm⟩ => ⟨he, n, hm.symm⟩
theorem check_zero {ls : List F} (h : checkF ls = 0) : fineF ⟨#[]⟩ ls = true ∧ longL ls = false := by
  unfold checkF at h
  split at h
  · omega
  · rename_i h1
    split at h
    · omega
    · rename_i h2
      exact ⟨by simpa using h1, by simpa using h2⟩
end Go.Proofs.Ytcfglgejjmapdaa
