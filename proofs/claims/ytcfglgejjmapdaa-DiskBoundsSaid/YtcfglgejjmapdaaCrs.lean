/- What a crash leaves, by the program: the walk. -/
import Derived.Test.YtcfglgejjmapdaaCrsA
namespace Go.Proofs.Ytcfglgejjmapdaa
open Go Go.RowKit Go.Shelf
attribute [local go_sem] Oper.semAt_some
theorem cell_heap {W W' : World} {a : Addr} {v : Value} (h : W'.heap = W.heap) (hc : W.cell? a = some v) : W'.cell? a = some v := by
  unfold World.cell? at *
  rw [h]
  exact hc
/-- A slice made shorter, within its room: what it yields. -/
theorem yields_hi {P : Program} {ops : Array Oper} {S : World → Prop} {o : Oper} {a : Act} (hw : Region.wanted o (yielded ops a.tmps) = true) (x y : Operand) (t e : TypeId) (ho : o.op = .slice t x none (some y) none) (ht : P.underlying t = some (.slice e)) (hs : ∀ w, (sizeOf e).run P w = .ok 1 w)
    (A : Option Addr) (n c : Nat) (hx : a.eval x = .slice A n c) (k : IntKind) (H : Nat) (hy : a.eval y = .int k (H : Int)) (hH : H ≤ c) : YieldsIf P ops S o (.slice A H c) a := by
  refine .inl ⟨hw, fun w _ => ?_⟩
  have he : P.elem t = e := by simp [Program.elem, ht]
  have hrun := run_slice_h (P := P) w t A n c (by rw [he]; exact ht) k (H : Int) (by omega) (by omega)
  rw [he, hs w] at hrun
  have hz : (if c = 0 then A else Option.map (fun x => x.add 0) A) = A := by
    split
    · rfl
    · cases A <;> simp [add_zero]
  simp only [execOp, ho, Sem.run_bind, Sem.run_pure, Result.andThen_ok, hx, Option.map_none, Option.map_some, hy]
  rw [run_sliceAt_slice (h := by rw [he]; exact ht)]
  rw [hrun]
  simp only [Result.andThen_ok, sliced, Nat.zero_mul, hz, Nat.sub_zero, Int.toNat_natCast]

theorem rdI_at {w : World} {A : Option Addr} {l : List Int} (h : RdV w A (intsV l)) {k : Nat} (hk : k < l.length) : ∃ b off, A = some ⟨b, off, none⟩ ∧ b < w.heap.size ∧ w.cell? ⟨b, off + k, none⟩ = some (.int .i64 l[k]) := by
  obtain ⟨b, off, rfl, hlt, hc⟩ := h (by simp [intsV]; omega)
  exact ⟨b, off, rfl, hlt, by rw [hc k (by simpa [intsV] using hk)]; simp [intsV]⟩
theorem rd_file {T : Nat → Prop} {W : World} {n b : ByteArray} {s : Int} {k m c : Nat} {A : Option Addr} (h : FileIn T W ⟨⟨n, b, s⟩, k, .slice A m c⟩) : Rd W A (bl b) := by
  obtain ⟨A', c', hv, _, _, _, hr⟩ := h.own.rdV
  simp only [Value.slice.injEq] at hv
  obtain ⟨rfl, hm, rfl⟩ := hv
  exact hr.rd
theorem own_spot {w : World} {base n m c : Nat} {e : TypeId} {v : Value} {A : Option Addr} {xs : List Value} (h : w.ownsRow base e 1 v n xs) (hv : v = .slice A m c) : ∀ ad, A = some ad → ad.spot = none := by
  intro ad had
  subst had
  rcases h.2 with ⟨h2, _⟩ | ⟨g, cap, cur, h2, _⟩
  · rw [hv] at h2; cases h2
  · rw [hv] at h2; cases h2; rfl
def tmpsC (D C Bo D2 E : Nat) (v1 y n : Value) : Array Value := #[.pointer (some ⟨D, 0, none⟩), v1, .pointer (some ⟨C, 0, none⟩), .pointer (some ⟨C + 1, 0, none⟩), .pointer none, .pointer (some ⟨Bo, 0, none⟩), .pointer (some ⟨Bo + 1, 0, none⟩), n, undef, undef, undef, .pointer (some ⟨D, 0, none⟩), .bool false, .pointer (some ⟨D2, 0, none⟩), .pointer (some ⟨D, 0, none⟩), .func (.func 53) #[] #[.pointer (some ⟨E, 0, none⟩)], y, undef, undef, undef, undef, undef, undef, undef, undef, undef, undef, undef, undef, undef, undef, undef, undef, undef, undef, undef, undef, undef, undef, undef, undef, undef, undef, undef, undef, undef, undef, undef, undef, undef, undef, undef, undef, undef, undef, undef, undef, undef, undef, undef, undef, undef, undef, undef, undef, undef, undef, undef]
set_option maxRecDepth 100000 in
set_option maxHeartbeats 8000000 in
theorem crash_any {T : Nat → Prop} {D M steps : Nat} {gs : List G} {hb : Bool} {rm : Int} (w : World) (A : Option Addr) (n c : Nat) (keep : List Int) (h : DK T D M gs steps hb rm w) (hmax : gs.length ≤ 100000) (hk : keep.length = n) (hr : RdV w A (intsV keep)) (hn : n ≤ 9223372036854775807) :
    Calls Try.prog 27 #[.pointer (some ⟨D, 0, none⟩), .slice A n c] w fun e w' => ∃ gs2, Made w gs2 0 false 0 e w' ∧ gs2.map G.f = crashL keep (gs.map G.f) := by
  have HD := Lib.hid h
  clear h
  refine (callsIn_wide (n := 4)).1 ?_
  refine callsIn_of_wp_marks Try.func27 rfl trivial ?_ rfl
  simp only [Try.ntmps27, List.size_toArray, List.length_cons, List.length_nil, Nat.reduceAdd, Nat.reduceSub, Array.replicate_succ, Array.replicate_zero, List.push_toArray, List.append_toArray, List.nil_append, List.cons_append]
  gi_wp2_with fail
  refine ⟨trivial, (callsIn_wide.2 (none_any _ ((HD.out.below (below_new w _)).below (below_new _ _)))).mono ?_⟩
  rintro e w2 ⟨rfl, rfl⟩
  gi_wp2_with fail
  refine ⟨trivial, (callsIn_wide.2 (new_any _)).mono ?_⟩
  rintro e wn ⟨T2, D2, M2, rfl, hd2, hbn, hT2⟩
  have z2 : ((w.alloc (.cells #[.pointer (some ⟨D, 0, none⟩)] 28)).alloc (.cells #[.slice A n c] 55)).heap.size = w.heap.size + 2 := by simp
  have a0 : wn.heap[w.heap.size]? = some (.cells #[.pointer (some ⟨D, 0, none⟩)] 28 (0, 0)) :=
    (hbn.block _ (by omega)).trans ((Below.heap_alloc _ _ w.heap.size (by simp)).trans (heap_alloc_new w _))
  have a1 : wn.heap[w.heap.size + 1]? = some (.cells #[.slice A n c] 55 (0, 0)) := by
    refine (hbn.block _ (by omega)).trans ?_
    have h := heap_alloc_new (w.alloc (.cells #[.pointer (some ⟨D, 0, none⟩)] 28)) (.cells #[.slice A n c] 55)
    rwa [show (w.alloc (.cells #[.pointer (some ⟨D, 0, none⟩)] 28)).heap.size = w.heap.size + 1 by simp] at h
  have bn : Below w.heap.size w wn := (((Below.refl _ w).alloc (Nat.le_refl _) _).alloc (by simp) _).trans (hbn.mono (by omega))
  rw [z2] at hT2
  have zn : w.heap.size + 2 ≤ wn.heap.size := by have := hbn.size; omega
  have c0 := cell_of_one a0
  have hz0 : w.heap.size < wn.heap.size := by omega
  clear hbn z2
  gi_wp2_with fail
  refine ⟨trivial, (callsIn_wide.2 (rising_any D _)).mono ?_⟩
  rintro e w3 ⟨rfl, rfl⟩
  gi_wp2_with fail
  have hT : ∀ b, T b → b < w.heap.size := HD.out.lt
  have e0 : (((wn.alloc (.cells #[.pointer (some ⟨D2, 0, none⟩)] 28)).alloc (.cells #[.int .i64 0] 3)).alloc (.cells #[.pointer (some ⟨D, 0, none⟩)] 28)).heap[wn.heap.size]? = some (.cells #[.pointer (some ⟨D2, 0, none⟩)] 28 (0, 0)) :=
    (Below.heap_alloc _ _ wn.heap.size (by simp; omega)).trans ((Below.heap_alloc _ _ wn.heap.size (by simp)).trans (heap_alloc_new wn _))
  have e1 : (((wn.alloc (.cells #[.pointer (some ⟨D2, 0, none⟩)] 28)).alloc (.cells #[.int .i64 0] 3)).alloc (.cells #[.pointer (some ⟨D, 0, none⟩)] 28)).heap[wn.heap.size + 1]? = some (.cells #[.int .i64 0] 3 (0, 0)) := by
    refine (Below.heap_alloc _ _ (wn.heap.size + 1) (by simp)).trans ?_
    have h := heap_alloc_new (wn.alloc (.cells #[.pointer (some ⟨D2, 0, none⟩)] 28)) (.cells #[.int .i64 0] 3)
    rwa [show (wn.alloc (.cells #[.pointer (some ⟨D2, 0, none⟩)] 28)).heap.size = wn.heap.size + 1 by simp] at h
  have e2 : (((wn.alloc (.cells #[.pointer (some ⟨D2, 0, none⟩)] 28)).alloc (.cells #[.int .i64 0] 3)).alloc (.cells #[.pointer (some ⟨D, 0, none⟩)] 28)).heap[wn.heap.size + 2]? = some (.cells #[.pointer (some ⟨D, 0, none⟩)] 28 (0, 0)) := by
    have h := heap_alloc_new ((wn.alloc (.cells #[.pointer (some ⟨D2, 0, none⟩)] 28)).alloc (.cells #[.int .i64 0] 3)) (.cells #[.pointer (some ⟨D, 0, none⟩)] 28)
    rwa [show ((wn.alloc (.cells #[.pointer (some ⟨D2, 0, none⟩)] 28)).alloc (.cells #[.int .i64 0] 3)).heap.size = wn.heap.size + 2 by simp] at h
  have hbl : Below wn.heap.size wn (((wn.alloc (.cells #[.pointer (some ⟨D2, 0, none⟩)] 28)).alloc (.cells #[.int .i64 0] 3)).alloc (.cells #[.pointer (some ⟨D, 0, none⟩)] 28)) := (((Below.refl _ wn).alloc (Nat.le_refl _) _).alloc (by simp) _).alloc (by simp; omega) _
  have hsz : (((wn.alloc (.cells #[.pointer (some ⟨D2, 0, none⟩)] 28)).alloc (.cells #[.int .i64 0] 3)).alloc (.cells #[.pointer (some ⟨D, 0, none⟩)] 28)).heap.size = wn.heap.size + 3 := by simp
  generalize ((wn.alloc (.cells #[.pointer (some ⟨D2, 0, none⟩)] 28)).alloc (.cells #[.int .i64 0] 3)).alloc (.cells #[.pointer (some ⟨D, 0, none⟩)] 28) = wl at *
  have hDl := (HD.out.below bn).below hbl
  have hD2l := hd2.below hbl
  have hM2n : M2 < wn.heap.size := hd2.lt M2 hd2.tM
  have bl0 : Below w.heap.size w wl := bn.trans (hbl.mono (by omega))
  have hMw : M < w.heap.size := hT M HD.out.tM
  have hkm := hk
  refine rangeG (n := 4) (by omega) (gf := 53) (lb := #[.pointer (some ⟨wn.heap.size + 1 + 1, 0, none⟩)]) rfl (enters_of Try.func53 (by kernel_rfl) rfl)
    (rising_seq 3 (wn.heap.size + 2) wl (by omega) hDl e2 (by omega)) KS.trans (fun W k o o' hk ho => KS.putObj hk ho) (fun _ => rfl)
    (CrI T D M gs steps hb rm w D2 M2 wn.heap.size (wn.heap.size + 1) (.slice A n c) keep wl.heap.size) (fun pre A1 A2 row h hg ht => h.keep (by omega) (by omega) (by omega) hg ht)
    ⟨hDl, (hbl.block _ (by omega)).trans a0, (hbl.block _ (by omega)).trans a1, e0, e1, List.nil_prefix, ⟨T2, [], hD2l, rfl, fun b hb => ⟨hT2 b hb, (by have := hd2.lt b hb; omega), (by have := hd2.lt b hb; omega)⟩⟩, bl0, Nat.le_refl _⟩
    (fun x => { tmps := tmpsC D w.heap.size wn.heap.size D2 (wn.heap.size + 1 + 1) (.slice A n c) (.string (gn x)) (.string (gn x)), defers := [] })
    ?assign ?body ?done
  case assign =>
    intro l' x W K hK
    unfold tmpsC at hK
    gi_wp2
    exact hK
  case body =>
    rintro l' pre g W hl hpx hI hlen
    have hg := prefix_mem hpx
    have hlook := hI.dk.look (gn g) (hI.dk.files g hg).nsz
    rw [fnd_eq hI.dk.rise hg] at hlook
    have hf := hI.dk.files g hg
    have hcd := hI.dk.cellsD.1
    have q0 := cell_of_one hI.b1
    have q1 := cell_of_one hI.bp
    obtain ⟨q2, q3⟩ := hf.cellsF
    have hbox := cell_of_one hI.b0
    have hstep := fun (q m : Nat) (W7 : World) (v' : Value) hm hb7 ho => cr_step (keep := keep) (B := wl.heap.size) (g := g) (W7 := W7) (v' := v') q m hI hT (by omega) zn rfl (by omega) hpx hmax hm hb7 ho
    obtain ⟨Af, cf, hvf, hnf, hAf, hcm, hrf⟩ := hf.own.rdV
    have hrow := hf.own.spot hvf
    have hms : g.f.sync.toNat + moreAt keep pre.length g.f ≤ g.f.bytes.size := moreAt_le hf.s0 hf.s1
    have s0 := hf.s0
    have s1 := hf.s1
    have smx := hf.mx
    have hple : pre.length ≤ 100000 := by omega
    have hT' := hT
    have HK := Lib.hid hk
    have HR := Lib.hid (hr.below (Below.mono hI.below (Nat.le_refl _)))
    have HI := Lib.hid hI
    have HF := Lib.hid hf
    have HST := Lib.hid hstep
    have HRF := Lib.hid hrf.rd
    have HA := Lib.hid hAf
    have HRW := Lib.hid hrow
    obtain ⟨⟨nm, bs, s⟩, k, v⟩ := g
    have hmo : Try.prog.follows .mixedOrders = true := by kernel_rfl
    clear hI hpx hT e0 e1 e2 hsz hf hg hstep hrf hAf hrow hDl hD2l bl0 hbl hd2 hkm
    dsimp only [gn] at hlook q2 q3 hms s0 s1 smx hvf hnf ⊢
    subst hvf
    unfold tmpsC
    gi_upto_if 26 with fail
    obtain ⟨mo, hmo2⟩ : ∃ mo, moreAt keep pre.length ⟨nm, bs, s⟩ = mo := ⟨_, rfl⟩
    gi_cut [9] from 10 (fun t9 W' => t9 = .int .i64 (mo : Int) ∧ ∃ q, W' = W.drewN q)
    case first =>
      have HMO := Lib.hid hmo2
      clear hmo2 HST
      by_cases hp : pre.length < n
      · obtain ⟨b, off, rfl, _, q4⟩ := rdI_at HR.out (k := pre.length) (by rw [HK.out]; exact hp)
        obtain ⟨x, hx⟩ : ∃ x, keep[pre.length]'(by rw [HK.out]; exact hp) = x := ⟨_, rfl⟩
        rw [hx] at q4
        have HX := Lib.hid hx
        have hk0 : (0 : Int) ≤ (pre.length : Int) := by omega
        have hk1 : (pre.length : Int) < (n : Int) := by omega
        clear hx
        gi_wp2_with fail
        refine quiet_in_round (by kernel_rfl) (by kernel_rfl) (hd_of (by kernel_rfl)) (fun ⟨_, _, h⟩ => h) ?_
        repeat (any_goals (first | go_big_quiet_step (fail) | quiet_step (fail)))
        refine wpQuiet_nil ?_
        rintro _ ⟨nq, rfl⟩
        gi_wp2_with fail
        gi_meet
        case rel =>
          have h1 := HMO.out
          unfold moreAt at h1
          rw [dif_pos (by rw [HK.out]; exact hp)] at h1
          rw [show keep[pre.length]'(by rw [HK.out]; exact hp) = x from HX.out] at h1
          have h2 : 0 ≤ (min (max x 0) ((bs.size : Int) - s)) := by omega
          exact ⟨by rw [← h1]; exact congrArg (Value.int .i64) (Int.toNat_of_nonneg h2).symm, nq, rfl⟩
      · gi_wp2_with fail
        gi_meet
        case rel =>
          have h1 := HMO.out
          rw [moreAt_none (by rw [HK.out]; omega)] at h1
          subst h1
          exact ⟨rfl, 0, rfl⟩
    case rest =>
      obtain ⟨rfl, q, rfl⟩ := hcut
      obtain ⟨sn, rfl⟩ : ∃ sn : Nat, s = (sn : Int) := ⟨s.toNat, by omega⟩
      obtain ⟨m, hmm⟩ : ∃ m, m = sn + mo := ⟨_, rfl⟩
      have hmle : m ≤ bs.size := by rw [hmm, ← hmo2]; simpa using hms
      have HMM := Lib.hid hmm
      have HMO := Lib.hid hmo2
      have p1 : (W.drewN q).cell? ⟨wn.heap.size + 1, 0, none⟩ = some (.int .i64 pre.length) := q1
      have p2 : (W.drewN q).frozen? ⟨wn.heap.size + 1, 0, none⟩ = false := free_of_one HI.out.bp
      have hsm : (sn : Int) + (mo : Int) ≤ 1048576 := by omega
      clear hmm hmo2 hlook hbox hcd q0 q1 q2 q3 c0 a0 a1
      gi_wp2_with fail
      obtain ⟨W6, hW6⟩ : ∃ W6, W6 = (W.drewN q).setCell ⟨wn.heap.size + 1, 0, none⟩ (.int .i64 ((pre.length : Int) + 1)) := ⟨_, rfl⟩
      rw [← hW6]
      have s6 : W6.heap.size = W.heap.size := by rw [hW6]; simp [World.setCell, World.drewN]
      have same6 : ∀ b, b ≠ wn.heap.size + 1 → W6.heap[b]? = W.heap[b]? := fun b hne => by rw [hW6]; exact Below.heap_setCell _ ⟨wn.heap.size + 1, 0, none⟩ _ b hne
      have hf6 : FileIn T W6 ⟨⟨nm, bs, (sn : Int)⟩, k, .slice Af bs.size cf⟩ := HF.out.keep (same6 _ (by have h1 := hT' _ HF.out.tk; simp at h1; show k ≠ _; omega)) (fun r e => same6 r (by have h1 := hT' _ (HF.out.tr r e); omega)) (fun _ x => x)
      have HF6 := Lib.hid hf6
      have HW6 := Lib.hid hW6
      have HS6 := Lib.hid s6
      have hr6 : Rd W6 Af ((bl bs).take m) := (rd_file hf6).take m
      have HR6 := Lib.hid hr6
      clear hW6 s6 same6 hf6 hr6
      have hwrap : IntKind.i64.wrap ((sn : Int) + (mo : Int)) = (m : Int) := by rw [IntWalk.i64_in _ (by omega)]; have := HMM.out; omega
      refine held_in_round (S := FS W6 k (.slice Af bs.size cf)) (by kernel_rfl) (hd_of (by kernel_rfl)) (fun ⟨_, _, h⟩ => h) ⟨rfl, fun _ _ => rfl⟩ (fun hHeld => ?_)
      refine wpAnyH_take (i := 0) (v := ?_) rfl (by kernel_rfl) (by kernel_rfl) (by kernel_rfl) (fun _ _ _ h => h) (Or.inl ⟨by rfl, ?_⟩) (by assumption) ?_
      rotate_left
      · intro w hSw
        obtain ⟨c0, c1, cv⟩ := FS.out HF6.out hSw
        go_simp
        try with_reducible rfl
      simp only [Act.put, List.setIfInBounds_toArray, List.set_cons_zero, List.set_cons_succ]
      refine wpAnyH_take (i := 1) (v := ?_) rfl (by kernel_rfl) (by kernel_rfl) (by kernel_rfl) (fun _ _ _ h => h) (Or.inl ⟨by rfl, ?_⟩) (by assumption) ?_
      rotate_left
      · intro w hSw
        obtain ⟨c0, c1, cv⟩ := FS.out HF6.out hSw
        go_simp
        try with_reducible rfl
      simp only [Act.put, List.setIfInBounds_toArray, List.set_cons_zero, List.set_cons_succ]
      refine wpAnyH_take (i := 2) (v := ?_) rfl (by kernel_rfl) (by kernel_rfl) (by kernel_rfl) (fun _ _ _ h => h) (Or.inl ⟨by rfl, ?_⟩) (by assumption) ?_
      rotate_left
      · intro w hSw
        obtain ⟨c0, c1, cv⟩ := FS.out HF6.out hSw
        go_simp
        try with_reducible rfl
      simp only [Act.put, List.setIfInBounds_toArray, List.set_cons_zero, List.set_cons_succ]
      refine wpAnyH_take (i := 3) (v := ?_) rfl (by kernel_rfl) (by kernel_rfl) (by kernel_rfl) (fun _ _ _ h => h) (Or.inl ⟨by rfl, ?_⟩) (by assumption) ?_
      rotate_left
      · intro w hSw
        obtain ⟨c0, c1, cv⟩ := FS.out HF6.out hSw
        go_simp
        try with_reducible rfl
      simp only [Act.put, List.setIfInBounds_toArray, List.set_cons_zero, List.set_cons_succ]
      refine wpAnyH_take (i := 4) (v := ?_) rfl (by kernel_rfl) (by kernel_rfl) (by kernel_rfl) (fun _ _ _ h => h) (Or.inl ⟨by rfl, ?_⟩) (by assumption) ?_
      rotate_left
      · intro w hSw
        obtain ⟨c0, c1, cv⟩ := FS.out HF6.out hSw
        go_simp
        try with_reducible rfl
      simp only [Act.put, List.setIfInBounds_toArray, List.set_cons_zero, List.set_cons_succ]
      refine wpAnyH_take (i := 5) (v := ?_) rfl (by kernel_rfl) (by kernel_rfl) (by kernel_rfl) (fun _ _ _ h => h) (Or.inl ⟨by rfl, ?_⟩) (by assumption) ?_
      rotate_left
      · intro w hSw
        obtain ⟨c0, c1, cv⟩ := FS.out HF6.out hSw
        go_simp
        try with_reducible rfl
      simp only [Act.put, List.setIfInBounds_toArray, List.set_cons_zero, List.set_cons_succ]
      refine wpAnyH_take (i := 6) (v := ?_) rfl (by kernel_rfl) (by kernel_rfl) (by kernel_rfl) (fun _ _ _ h => h) (Or.inl ⟨by rfl, ?_⟩) (by assumption) ?_
      rotate_left
      · intro w hSw
        obtain ⟨c0, c1, cv⟩ := FS.out HF6.out hSw
        go_simp
        try with_reducible rfl
      simp only [Act.put, List.setIfInBounds_toArray, List.set_cons_zero, List.set_cons_succ]
      refine wpAnyH_take (i := 7) (v := ?_) rfl (by kernel_rfl) (by kernel_rfl) (by kernel_rfl) (fun _ _ _ h => h) (Or.inl ⟨by rfl, ?_⟩) (by assumption) ?_
      rotate_left
      · intro w hSw
        obtain ⟨c0, c1, cv⟩ := FS.out HF6.out hSw
        go_simp
        try with_reducible rfl
      simp only [Act.put, List.setIfInBounds_toArray, List.set_cons_zero, List.set_cons_succ]
      refine wpAnyH_take (i := 8) (v := ?_) rfl (by kernel_rfl) (by kernel_rfl) (by kernel_rfl) (fun _ _ _ h => h) (Or.inl ⟨by rfl, ?_⟩) (by assumption) ?_
      rotate_left
      · intro w hSw
        obtain ⟨c0, c1, cv⟩ := FS.out HF6.out hSw
        go_simp
        try with_reducible rfl
      simp only [Act.put, List.setIfInBounds_toArray, List.set_cons_zero, List.set_cons_succ]
      refine wpAnyH_take (i := 9) (v := ?_) rfl (by kernel_rfl) (by kernel_rfl) (by kernel_rfl) (fun _ _ _ h => h) (Or.inl ⟨by rfl, ?_⟩) (by assumption) ?_
      rotate_left
      · intro w hSw
        obtain ⟨c0, c1, cv⟩ := FS.out HF6.out hSw
        go_simp
        try with_reducible rfl
      simp only [Act.put, List.setIfInBounds_toArray, List.set_cons_zero, List.set_cons_succ]
      have hmle2 : m ≤ cf := by omega
      refine wpAnyH_take (i := 10) (v := .slice Af m cf) rfl (by kernel_rfl) (by kernel_rfl) (by kernel_rfl) (fun _ _ _ h => h) ?_ (by assumption) ?_
      · refine yields_hi ?_ (.tmp 48) (.tmp 54) 35 5 ?_ Try.underlying35 sz5 Af bs.size cf ?_ .i64 m ?_ hmle2
        · rfl
        · rfl
        · go_simp
        · go_simp
      simp only [Act.put, List.setIfInBounds_toArray, List.set_cons_zero, List.set_cons_succ]
      refine wpAnyH_ready (rs := [11]) (by kernel_rfl) (by simp) ?_
      refine AllReadyH.cons rfl (fun K hK => ?_) AllReadyH.nil
      go_simp
      refine (clone_any Af m cf ((bl bs).take m) W6.drew (by rw [List.length_take]; have h9 : (bl bs).length = bs.size := (by rw [Array.length_toList]; rfl); omega) HA.out (by omega) (show Rd W6.drew Af _ from HR6.out) (by omega) HRW.out).mono ?_
      rintro e W7 ⟨v', rfl, ho, hb7⟩
      have hb6 : Below W6.heap.size W6 W7 := ⟨hb7.os, hb7.tape, hb7.output, hb7.size, hb7.block⟩
      have hfs : FS W6 k (.slice Af bs.size cf) W7 := ⟨hb6.block _ (Array.getElem?_eq_some_iff.1 HF6.out.cells).1, fun r e => hb6.block r (by obtain ⟨x, p, h9⟩ := own_type HF6.out r e; exact (Array.getElem?_eq_some_iff.1 h9).1)⟩
      refine hK.out _ _ hfs (fun hHeld => ?_)
      clear hK K
      try simp only [Act.put, List.setIfInBounds_toArray, List.set_cons_zero, List.set_cons_succ]
      refine wpAnyH_ready (rs := [12]) (by kernel_rfl) (by simp) ?_
      refine AllReadyH.cons rfl (fun K hK => ?_) AllReadyH.nil
      go_simp
      refine hK.out _ _ hfs (fun hHeld => ?_)
      clear hK K
      try simp only [Act.put, List.setIfInBounds_toArray, List.set_cons_zero, List.set_cons_succ]
      refine wpAnyH_done (by kernel_rfl) ?_ _
      have ho2 : W7.ownsRow W.heap.size 5 1 v' m (cellsB ((bl bs).take m)) := by have h9 : W6.drew.heap.size = W.heap.size := HS6.out; rw [h9] at ho; exact ho
      have hb8 : Below W.heap.size ((W.drewN q).setCell ⟨wn.heap.size + 1, 0, none⟩ (.int .i64 ((pre.length : Int) + 1))) W7 := by have h9 := hb6; rw [HS6.out] at h9; rw [← HW6.out]; exact h9
      obtain ⟨k1, k2, W9, hrun, hkf, hks, hcr⟩ := HST.out q m W7 v' (by have h9 := HMM.out; rw [← HMO.out] at h9; simpa using h9) hb8 ho2
      obtain ⟨Av, cv, hv', _⟩ := own_rdV ho2
      subst hv'
      have HKF := Lib.hid hkf
      have HKS := Lib.hid hks
      have HCR := Lib.hid hcr
      clear hkf hks hcr ho ho2 hb7 hb6 hb8 hfs hHeld p1 p2
      gi_wp2_with fail
      exact ⟨HKF.out, HKS.out, HCR.out⟩
  case done =>
    rintro Dd xs W hDd hS hI hdef
    have hcell := cell_of_one hI.bo
    have HI := Lib.hid hI
    have HDF := Lib.hid hdef
    have hDd2 : w.heap.size ≤ Dd := by have := bl0.size; omega
    have hDd3 : M2 < Dd := by have := hbl.size; omega
    subst hS
    clear hI hdef e0 e1 e2 hsz hDl hD2l bl0 hbl hd2 hkm c0 a0 a1
    gi_wp2_with fail
    have hrow : W.grownBy (W.putObj Dd (.deferred none)) (some Dd) := grownBy_putObj' _ _ _
    have htd : ∀ r, some Dd = some r → ∃ o : Obj, W.heap[r]? = some o ∧ o.isCells = false := fun r e => by cases e; exact ⟨_, HDF.out, rfl⟩
    refine ⟨by simp, .inl ⟨_, _, rfl, run_takeDeferred (w := W) HDF.out, ?_⟩⟩
    obtain ⟨T3, gs3, h7, h8, h9⟩ := HI.out.out
    refine ⟨_, results_tmp Try.results27 _ _ _, gs3, ⟨T3, D2, M2, rfl, h7.grownc hrow (fun r e => by cases e; exact ⟨by omega, _, HDF.out, rfl⟩), HI.out.below.grown hrow HI.out.below.size (fun k e => by cases e; omega), fun b hb => by have := (h9 b hb).1; omega⟩, h8⟩
end Go.Proofs.Ytcfglgejjmapdaa
