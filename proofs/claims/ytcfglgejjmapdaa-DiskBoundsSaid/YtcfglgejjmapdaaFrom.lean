/- A disk from files. -/
import Derived.Test.YtcfglgejjmapdaaChk
import Derived.WalkMore
import Derived.OrdersHeld
import Derived.Test.YtcfglgejjmapdaaSpec
namespace Go.Proofs.Ytcfglgejjmapdaa
open Go Go.RowKit Go.Shelf Go.ChangeMaps
/-- What From answers. -/
def FromQ (ls : List F) (w : World) (e : Ending) (w' : World) : Prop :=
  Below w.heap.size w w' ∧ ((checkF ls ≠ 0 ∧ e = .returned (.tuple #[.pointer none, .int .i64 (checkF ls)])) ∨ (checkF ls = 0 ∧ ∃ T D M, e = .returned (.tuple #[.pointer (some ⟨D, 0, none⟩), .int .i64 0]) ∧ On w.heap.size T D M ls 0 false 0 w'))
theorem FromQ.two {ls : List F} {w w' : World} (h : fineF ⟨#[]⟩ ls = false) (hb : Below w.heap.size w w') : FromQ ls w (.returned (.tuple #[.pointer none, .int .i64 2])) w' := by
  have hc : checkF ls = 2 := by unfold checkF; rw [if_pos h]
  exact ⟨hb, .inl ⟨by rw [hc]; decide, by rw [hc]⟩⟩
theorem FromQ.three {ls : List F} {w w' : World} (h : fineF ⟨#[]⟩ ls = true) (h2 : longL ls = true) (hb : Below w.heap.size w w') : FromQ ls w (.returned (.tuple #[.pointer none, .int .i64 3])) w' := by
  have hc : checkF ls = 3 := by unfold checkF; rw [h, h2]; rfl
  exact ⟨hb, .inl ⟨by rw [hc]; decide, by rw [hc]⟩⟩
theorem long_next {ls : List F} {k : Nat} {x : F} (hxt : ls.take (k + 1) = ls.take k ++ [x]) : longL (ls.take (k + 1)) = (longL (ls.take k) || decide (1048576 < x.bytes.size)) := by
  rw [hxt]; unfold longL; rw [List.any_append]; simp

theorem conv_newM (s : ByteArray) (hs : s.size ≤ maxLen) : ∃ (f : World → Nat) (g : World → World), (∀ W, (convert 9 35 (.string s)).run Try.prog W = .ok (.slice (some ⟨W.heap.size, 0, none⟩) s.size (f W)) (g W)) ∧ ∀ W, OwnsM (g W) (.slice (some ⟨W.heap.size, 0, none⟩) s.size (f W)) s.size (cellsB s.data.toList) ∧ Below W.heap.size W (g W) ∧ (g W).heap.size = W.heap.size + 1 := by
  refine ⟨fun W => grownCap W s.size 0 5, fun W => Go.Lib.bytesWorld W 5 s, fun W => Go.Lib.run_convert_string_bytes W 9 35 5 s Try.underlying9 Try.underlying35 Try.underlying5, fun W => ?_⟩
  obtain ⟨c, h1, h2, h3, h4⟩ := conv_own W s hs
  have h5 := Go.Lib.run_convert_string_bytes (P := Try.prog) W 9 35 5 s Try.underlying9 Try.underlying35 Try.underlying5
  rw [h1] at h5
  simp only [Result.ok.injEq, Value.slice.injEq, true_and, and_true] at h5
  subst h5
  exact ⟨h2, h3, h4⟩
def Two (V : World) (D E : Nat) (W : World) : Prop := W.heap[D]? = V.heap[D]? ∧ W.heap[E]? = V.heap[E]?
theorem two_cells {V W : World} {D E M : Nat} {a1 a2 a3 : Value} {nm by_ : ByteArray} {sy : Int} (h1 : V.heap[D]? = some (.cells #[.map (some M), a1, a2, a3] 70 (0, 0))) (h2 : V.heap[E]? = some (.cells #[.string nm, .string by_, .int .i64 sy] 27 (0, 0))) (h : Two V D E W) :
    W.cell? ⟨D, 0, none⟩ = some (.map (some M)) ∧ W.cell? ⟨E, 0, none⟩ = some (.string nm) ∧ W.cell? ⟨E, 1, none⟩ = some (.string by_) ∧ W.cell? ⟨E, 2, none⟩ = some (.int .i64 sy) := by
  have e1 := h.1.trans h1
  have e2 := h.2.trans h2
  refine ⟨?_, ?_, ?_, ?_⟩
  · simp only [World.cell?, e1]; rfl
  · simp only [World.cell?, e2]; rfl
  · simp only [World.cell?, e2]; rfl
  · simp only [World.cell?, e2]; rfl
section
variable {T : Nat → Prop} {D M steps : Nat} {gs : List G} {hb : Bool} {rm : Int}
theorem DK.put_row {X X' : World} {g : G} (h : DK T D M gs steps hb rm X) (hm : X'.ownsMap Try.prog 9 ptrR M (gs.length + 1) ((dMap gn G.k gs).put (.string (bl (gn g))) (.lit (.int .i64 g.k)))) (ht : X.mapTurned X' M) (N : Nat) (hlt : ∀ b, T b → b < N) (hgn : N ≤ g.k) (hgk : g.k < X.heap.size) (hv : ∀ r, g.v.ownBlock = some r → N ≤ r ∧ r < X.heap.size)
    (hf : FileIn (addT T g) X g) : DK (addT T g) D M (wth gn gs g) steps hb rm X' ∧ KeepT T X X' ∧ X'.heap.size = X.heap.size ∧ ∀ b, b ≠ M → X'.heap[b]? = X.heap[b]? := by
  obtain ⟨es, clock, es', clock', hb2, rfl⟩ := ht
  have hsz : (setBlock X M (.map es' clock')).heap.size = X.heap.size := by simp [setBlock]
  have ho : ∀ b, b ≠ M → (setBlock X M (.map es' clock')).heap[b]? = X.heap[b]? := fun b hne => heap_setBlock_other hb2 _ hne
  have hM := hlt M h.tM
  refine ⟨h.put (ho D h.ne_map.symm) (by rw [← put_ent g h.rise]; exact hm) (hf.keep (ho _ (by omega)) (fun r e => ho r (by have := (hv r e).1; omega)) (fun _ x => x)) (fun a ha _ => ?_) (fun a ha _ => ?_) (fun b hb => .inl hb) (fun b hb => ?_), ?_, hsz, ho⟩
  · have hne := h.ne_file ha
    exact ⟨ho _ hne.2.1, fun r e => ho r (hne.2.2.2 r e).2.1⟩
  · have := hlt _ (h.files a ha).tk
    exact ⟨by omega, fun r e e2 => by have := hlt r ((h.files a ha).tr r e); have := (hv r e2).1; omega⟩
  · rw [hsz]
    rcases hb with hb | hb | hb
    · exact h.lt b hb
    · omega
    · exact (hv b hb).2
  · exact ⟨rfl, rfl, rfl, by rw [hsz]; exact Nat.le_refl _, fun b hb hn => ho b (fun e => hn (by rw [e]; exact h.tM))⟩
end
theorem long_mem {l : List F} {x : F} (h : longL l = false) (hx : x ∈ l) : x.bytes.size ≤ 1048576 := by
  unfold longL at h
  have := List.any_eq_false.1 h x hx
  simpa using this
theorem take_rise {l : List F} {m : Nat} {x : F} (h : Rising F.name l) (hxt : l.take (m + 1) = l.take m ++ [x]) : ∀ f ∈ l.take m, ltB f.name x.name = true := by
  have h2 : Rising F.name (l.take (m + 1)) := List.Pairwise.sublist (List.take_sublist _ _) h
  rw [hxt] at h2
  intro f hf
  exact (List.pairwise_append.1 h2).2.2 f hf x (by simp)

set_option maxRecDepth 100000 in
set_option maxHeartbeats 16000000 in
theorem from_any (A : Option Addr) (n c : Nat) (ls : List F) (w : World) (hn : ls.length = n) (bn : n ≤ 100000) (hs : ∀ f ∈ ls, f.name.size ≤ 140737488351232 ∧ f.bytes.size ≤ 140737488351232) (ha : RdF w A ls) :
    Calls Try.prog 14 #[.slice A n c] w (FromQ ls w) := by
  have HN := Lib.hid hn
  have HA := Lib.hid ha
  have HS := Lib.hid hs
  clear hn ha hs
  go_enter Try.func14, Try.ntmps14
  go_wp2_with fail
  go_step3
  go_wp2_with fail
  go_step3
  go_wp2_with fail
  go_loopw [4, 5, 6, 14] (fun lg la fi i W => ∃ k : Nat, k ≤ n ∧ i = .int .i64 k ∧ fi = .bool true ∧ la = .string (lastAt ls k) ∧ lg = .bool (longL (ls.take k)) ∧ Hid (fineF ⟨#[]⟩ ls = fineF (lastAt ls k) (ls.drop k)) ∧ Hid (Below w.heap.size w W)) (fun _ _ _ i _ => n - (intOf i).toNat)
  case atStart => exact ⟨0, Nat.zero_le _, rfl, rfl, rfl, rfl, Lib.hid rfl, Lib.hid (Below.refl _ _)⟩
  case round =>
    obtain ⟨k, hk, rfl, rfl, rfl, rfl, HT, HB⟩ := hrel
    by_cases hlt : k < n
    · have hkn : k < ls.length := by have := HN.out; omega
      obtain ⟨b, off, rfl, hbb, k0, k1, k2⟩ := (HA.out.below HB.out).at hkn
      obtain ⟨x, hx, hxt⟩ := fil_at hkn
      have hxs := HS.out x (by rw [← hx]; exact List.getElem_mem _)
      obtain ⟨hx1, hx2⟩ := hxs
      have HKN := Lib.hid hkn
      have HXE : Hid (ls[k]'HKN.out = x) := Lib.hid hx
      have HXT := Lib.hid hxt
      rw [hx] at k0 k1 k2
      clear hx hxt
      have HB2 := Lib.hid (HB.out.alloc HB.out.size (.cells #[.string x.name, .string x.bytes, .int .i64 x.sync] 27))
      have HLA : Hid (lastAt ls (k + 1) = x.name) := Lib.hid (by rw [lastAt_succ HKN.out, HXE.out])
      have HNM := Lib.hid (name_any x.name (wr.alloc (.cells #[.string x.name, .string x.bytes, .int .i64 x.sync] 27)) (by omega))
      go_wp2_with fail
      cases hnm : nameB x.name with
      | false =>
        have HG := Lib.hid (fine_bad HT.out HKN.out HXE.out (bad_name1 hnm))
        rw [hnm] at HNM
        clear HT HXE
        refine Calls.mono HNM.out ?_
        rintro e w' ⟨rfl, rfl⟩
        go_wp2_with fail
        go_ret2
        exact FromQ.two HG.out HB2.out
      | true =>
        rw [hnm] at HNM
        refine Calls.mono HNM.out ?_
        rintro e w' ⟨rfl, rfl⟩
        rcases order_three x.name (lastAt ls k) with ⟨hord, e1, e2⟩ | ⟨hord, e1⟩ | ⟨hord, e1, e2⟩
        · by_cases h3 : x.sync < 0
          · have HG := Lib.hid (fine_bad HT.out HKN.out HXE.out (bad_low h3))
            have d3 : decide (x.sync < 0) = true := decide_eq_true h3
            clear HT HXE hord hnm
            go_wp2_with fail
            go_ret2
            exact FromQ.two HG.out HB2.out
          · have d3 : decide (x.sync < 0) = false := decide_eq_false h3
            by_cases h4 : (x.bytes.size : Int) < x.sync
            · have HG := Lib.hid (fine_bad HT.out HKN.out HXE.out (bad_high h4))
              have d4 : decide ((x.bytes.size : Int) < x.sync) = true := decide_eq_true h4
              clear HT HXE hord hnm
              go_wp2_with fail
              go_ret2
              exact FromQ.two HG.out HB2.out
            · have d4 : decide ((x.bytes.size : Int) < x.sync) = false := decide_eq_false h4
              have HG := Lib.hid (fine_next HT.out HKN.out HXE.out (good_all hnm hord (by omega) (by omega)))
              clear HT HXE hord hnm
              have HLN := Lib.hid (long_next HXT.out)
              cases hlg : longL (ls.take k) with
              | true =>
                rw [hlg] at HLN
                go_wp2_with fail
                go_round
                case rel => exact ⟨k + 1, by omega, by go_num, rfl, by rw [HLA.out], by rw [HLN.out]; simp <;> omega, HG.out, HB2.out⟩
                case measure => simp [intOf]; omega
              | false =>
                rw [hlg] at HLN
                go_wp2_with fail
                go_round
                case rel => exact ⟨k + 1, by omega, by go_num, rfl, by rw [HLA.out], by rw [HLN.out]; simp <;> omega, HG.out, HB2.out⟩
                case measure => simp [intOf]; omega
        · have HG := Lib.hid (fine_bad HT.out HKN.out HXE.out (bad_order hord))
          clear HT HXE hord hnm
          go_wp2_with fail
          go_ret2
          exact FromQ.two HG.out HB2.out
        · have HG := Lib.hid (fine_bad HT.out HKN.out HXE.out (bad_order hord))
          clear HT HXE hord hnm
          go_wp2_with fail
          go_ret2
          exact FromQ.two HG.out HB2.out
    · obtain rfl : k = n := by omega
      have HF := Lib.hid (fine_all HT.out (by have := HN.out; omega))
      have HTK : Hid (ls.take k = ls) := Lib.hid (List.take_of_length_le (by have := HN.out; omega))
      rw [HTK.out]
      cases hlg : longL ls with
      | true =>
        have HLG := Lib.hid hlg
        clear HT hlg HTK
        go_wp2_with fail
        go_ret2
        exact FromQ.three HF.out HLG.out HB.out
      | false =>
        have HLG := Lib.hid hlg
        clear HT hlg HTK
        go_wp2_with fail
        refine Calls.mono (new_any wr) ?_
        rintro e w2 ⟨T0, D, M, rfl, hd0, hb0, hT0⟩
        have HD0 := Lib.hid hd0
        have HB0 := Lib.hid (HB.out.trans (hb0.mono HB.out.size))
        have HT0 := Lib.hid (fun b (hb : T0 b) => Nat.le_trans HB.out.size (hT0 b hb))
        clear hd0 hb0 hT0 HB
        go_wp2_with fail
        go_loopw [52] (fun i W => ∃ (m : Nat) (T : Nat → Prop) (gs : List G), m ≤ k ∧ i = .int .i64 m ∧ Hid (DK T D M gs 0 false 0 W) ∧ Hid (gs.map G.f = ls.take m) ∧ Hid (∀ b, T b → w.heap.size ≤ b) ∧ Hid (Below w.heap.size w W)) (fun i _ => k - (intOf i).toNat)
        case atStart => exact ⟨0, T0, [], Nat.zero_le _, rfl, HD0, Lib.hid rfl, HT0, HB0⟩
        case round =>
          obtain ⟨m, T, gs, hm, rfl, HD, HM, HT, HB⟩ := hrel
          by_cases hlt2 : m < k
          · have hmn : m < ls.length := by have := HN.out; omega
            obtain ⟨b, off, rfl, hbb, k0, k1, k2⟩ := (HA.out.below HB.out).at hmn
            obtain ⟨x, hx, hxt⟩ := fil_at hmn
            have hxm : x ∈ ls := by rw [← hx]; exact List.getElem_mem _
            obtain ⟨hx1, hx2⟩ := HS.out x hxm
            have HXM := Lib.hid hxm
            have HXT := Lib.hid hxt
            rw [hx] at k0 k1 k2
            clear hx hxt hxm
            go_wp2_with fail
            obtain ⟨hnmx, hsx0, hsx1⟩ := (fine_rise HF.out).2.2 x HXM.out
            have hlx := long_mem HLG.out HXM.out
            have hnz := nameB_le hnmx
            obtain ⟨fc, gw, hcv, hcw⟩ := conv_newM x.bytes (by simp only [maxLen]; omega)
            obtain ⟨V, hV⟩ : ∃ V, V = (wr.alloc (.cells #[.string x.name, .string x.bytes, .int .i64 x.sync] 27)).drew := ⟨_, rfl⟩
            have vE : V.heap[wr.heap.size]? = some (.cells #[.string x.name, .string x.bytes, .int .i64 x.sync] 27 (0, 0)) := by rw [hV]; exact heap_alloc_new wr _
            have vs : V.heap.size = wr.heap.size + 1 := by rw [hV]; show (wr.alloc _).heap.size = _; simp
            have hbV : Below wr.heap.size wr V := by rw [hV]; exact (below_new wr _).drew
            have hdV := HD.out.below hbV
            obtain ⟨ho1, hb1, hs1⟩ := hcw V
            have hb2 := hb1.trans ((below_new (gw V) (.cells #[.slice (some ⟨V.heap.size, 0, none⟩) x.bytes.size (fc V), .int .i64 x.sync] 67)).mono (by rw [hs1]; omega))
            have hd2 := hdV.below hb2
            have hgl : gs.length = m := by have h9 := congrArg List.length HM.out; rw [List.length_map, List.length_take] at h9; omega
            obtain ⟨X3, hrun, hm3, ht3⟩ := hd2.run_put x.name (by simp only [maxLen]; omega) (by simp only [maxLen]; omega) (gw V).heap.size
            have hsz2 : ((gw V).alloc (.cells #[.slice (some ⟨V.heap.size, 0, none⟩) x.bytes.size (fc V), .int .i64 x.sync] 67)).heap.size = wr.heap.size + 3 := by simp [hs1, vs]
            obtain ⟨hd3, hk3, hs3, ho3⟩ := hd2.put_row (g := ⟨x, (gw V).heap.size, .slice (some ⟨V.heap.size, 0, none⟩) x.bytes.size (fc V)⟩) hm3 ht3 wr.heap.size HD.out.lt (by show wr.heap.size ≤ (gw V).heap.size; omega) (by show (gw V).heap.size < _; rw [hsz2]; omega) (fun r e => by cases e; rw [hsz2]; show wr.heap.size ≤ V.heap.size ∧ V.heap.size < _; omega)
              ⟨heap_alloc_new (gw V) _, ho1.keep (fun r e => by cases e; exact heap_alloc_old (gw V) _ _ (by show V.heap.size < _; omega)), .inr (.inl rfl), fun r e => .inr (.inr e), hsx0, hsx1, hlx, hnmx⟩
            have hMlt := HD.out.lt M HD.out.tM
            have hDlt := HD.out.lt D HD.out.tD
            have HVD := Lib.hid hdV.disk
            have HVE := Lib.hid vE
            have S0 : Two V D wr.heap.size V := ⟨rfl, rfl⟩
            have S1 : Two V D wr.heap.size (gw V) := ⟨hb1.block D (by omega), hb1.block _ (by omega)⟩
            have S2 : Two V D wr.heap.size ((gw V).alloc (.cells #[.slice (some ⟨V.heap.size, 0, none⟩) x.bytes.size (fc V), .int .i64 x.sync] 67)) := ⟨hb2.block D (by omega), hb2.block _ (by omega)⟩
            have S3 : Two V D wr.heap.size X3 := ⟨(ho3 D hdV.ne_map.symm).trans S2.1, (ho3 _ (by omega)).trans S2.2⟩
            have HD3 := Lib.hid hd3
            have HB3 := Lib.hid ((HB.out.trans (hbV.mono HB.out.size)).trans ((hb2.mono (by have := HB.out.size; omega)).trans (hk3.below HT.out (by have := HB.out.size; rw [hsz2]; omega))))
            have HT3 : Hid (∀ b, addT T ⟨x, (gw V).heap.size, .slice (some ⟨V.heap.size, 0, none⟩) x.bytes.size (fc V)⟩ b → w.heap.size ≤ b) := Lib.hid (fun b hb => by
              have := HB.out.size
              rcases hb with hb | hb | hb
              · exact HT.out b hb
              · rw [hb]; show _ ≤ (gw V).heap.size; omega
              · cases hb; show _ ≤ V.heap.size; omega)
            have HM3 : Hid ((wth gn gs ⟨x, (gw V).heap.size, .slice (some ⟨V.heap.size, 0, none⟩) x.bytes.size (fc V)⟩).map G.f = ls.take (m + 1)) := Lib.hid (by
              rw [wth_map (nm := F.name) G.f gs _, HM.out, wth_last (take_rise (fine_rise HF.out).1 HXT.out), HXT.out])
            have HCV := Lib.hid hcv
            have hcx : (convert 9 35 (.string x.bytes)).run Try.prog V = .ok (.slice (some ⟨V.heap.size, 0, none⟩) x.bytes.size (fc V)) (gw V) := hcv V
            clear hcw hcv hd3 hk3 hs3 ho3 hm3 ht3 hd2 hb2 hdV hbV ho1 hb1 hs1 vs vE hsz2 hgl hMlt hDlt hnmx hsx0 hsx1 hlx HD HT HM
            refine wp_region_held_drew (S := Two V D wr.heap.size) (by kernel_rfl) (by rw [← hV]; exact S0) (fun hHeld => ?_)
            rw [← hV] at hHeld ⊢
            clear hV
            refine wpAnyH_take (i := 0) (v := ?_) rfl (by kernel_rfl) (by kernel_rfl) (by kernel_rfl) (fun _ _ _ h => h) (Or.inl ⟨by rfl, ?_⟩) (by assumption) ?_
            rotate_left
            · intro w hSw
              obtain ⟨c0, c1, c2, c3⟩ := two_cells HVD.out HVE.out hSw
              go_simp
              try with_reducible rfl
            simp only [Act.put, List.setIfInBounds_toArray, List.set_cons_zero, List.set_cons_succ]
            refine wpAnyH_take (i := 1) (v := ?_) rfl (by kernel_rfl) (by kernel_rfl) (by kernel_rfl) (fun _ _ _ h => h) (Or.inl ⟨by rfl, ?_⟩) (by assumption) ?_
            rotate_left
            · intro w hSw
              obtain ⟨c0, c1, c2, c3⟩ := two_cells HVD.out HVE.out hSw
              go_simp
              try with_reducible rfl
            simp only [Act.put, List.setIfInBounds_toArray, List.set_cons_zero, List.set_cons_succ]
            refine wpAnyH_take (i := 2) (v := ?_) rfl (by kernel_rfl) (by kernel_rfl) (by kernel_rfl) (fun _ _ _ h => h) (Or.inl ⟨by rfl, ?_⟩) (by assumption) ?_
            rotate_left
            · intro w hSw
              obtain ⟨c0, c1, c2, c3⟩ := two_cells HVD.out HVE.out hSw
              go_simp
              try with_reducible rfl
            simp only [Act.put, List.setIfInBounds_toArray, List.set_cons_zero, List.set_cons_succ]
            refine wpAnyH_take (i := 3) (v := ?_) rfl (by kernel_rfl) (by kernel_rfl) (by kernel_rfl) (fun _ _ _ h => h) (Or.inl ⟨by rfl, ?_⟩) (by assumption) ?_
            rotate_left
            · intro w hSw
              obtain ⟨c0, c1, c2, c3⟩ := two_cells HVD.out HVE.out hSw
              go_simp
              try with_reducible rfl
            simp only [Act.put, List.setIfInBounds_toArray, List.set_cons_zero, List.set_cons_succ]
            refine wpAnyH_take (i := 4) (v := ?_) rfl (by kernel_rfl) (by kernel_rfl) (by kernel_rfl) (fun _ _ _ h => h) (Or.inl ⟨by rfl, ?_⟩) (by assumption) ?_
            rotate_left
            · intro w hSw
              obtain ⟨c0, c1, c2, c3⟩ := two_cells HVD.out HVE.out hSw
              go_simp
              try with_reducible rfl
            simp only [Act.put, List.setIfInBounds_toArray, List.set_cons_zero, List.set_cons_succ]
            refine wpAnyH_take (i := 5) (v := ?_) rfl (by kernel_rfl) (by kernel_rfl) (by kernel_rfl) (fun _ _ _ h => h) (Or.inl ⟨by rfl, ?_⟩) (by assumption) ?_
            rotate_left
            · intro w hSw
              obtain ⟨c0, c1, c2, c3⟩ := two_cells HVD.out HVE.out hSw
              go_simp
              try with_reducible rfl
            simp only [Act.put, List.setIfInBounds_toArray, List.set_cons_zero, List.set_cons_succ]
            refine wpAnyH_take (i := 6) (v := ?_) rfl (by kernel_rfl) (by kernel_rfl) (by kernel_rfl) (fun _ _ _ h => h) (Or.inl ⟨by rfl, ?_⟩) (by assumption) ?_
            rotate_left
            · intro w hSw
              obtain ⟨c0, c1, c2, c3⟩ := two_cells HVD.out HVE.out hSw
              go_simp
              try with_reducible rfl
            simp only [Act.put, List.setIfInBounds_toArray, List.set_cons_zero, List.set_cons_succ]
            refine wpAnyH_take (i := 7) (v := ?_) rfl (by kernel_rfl) (by kernel_rfl) (by kernel_rfl) (fun _ _ _ h => h) (Or.inl ⟨by rfl, ?_⟩) (by assumption) ?_
            rotate_left
            · intro w hSw
              obtain ⟨c0, c1, c2, c3⟩ := two_cells HVD.out HVE.out hSw
              go_simp
              try with_reducible rfl
            simp only [Act.put, List.setIfInBounds_toArray, List.set_cons_zero, List.set_cons_succ]
            refine wpAnyH_take (i := 9) (v := ?_) rfl (by kernel_rfl) (by kernel_rfl) (by kernel_rfl) (fun _ _ _ h => h) (Or.inl ⟨by rfl, ?_⟩) (by assumption) ?_
            rotate_left
            · intro w hSw
              obtain ⟨c0, c1, c2, c3⟩ := two_cells HVD.out HVE.out hSw
              go_simp
              try with_reducible rfl
            simp only [Act.put, List.setIfInBounds_toArray, List.set_cons_zero, List.set_cons_succ]
            refine wpAnyH_take (i := 10) (v := ?_) rfl (by kernel_rfl) (by kernel_rfl) (by kernel_rfl) (fun _ _ _ h => h) (Or.inl ⟨by rfl, ?_⟩) (by assumption) ?_
            rotate_left
            · intro w hSw
              obtain ⟨c0, c1, c2, c3⟩ := two_cells HVD.out HVE.out hSw
              go_simp
              try with_reducible rfl
            simp only [Act.put, List.setIfInBounds_toArray, List.set_cons_zero, List.set_cons_succ]
            refine wpAnyH_ready (rs := [8]) (by kernel_rfl) (by simp) ?_
            refine AllReadyH.cons rfl (fun K hK => ?_) AllReadyH.nil
            go_simp
            refine hK.out _ _ S1 (fun hHeld => ?_)
            clear hK K
            try simp only [Act.put, List.setIfInBounds_toArray, List.set_cons_zero, List.set_cons_succ]
            refine wpAnyH_take (i := 11) (v := ?_) rfl (by kernel_rfl) (by kernel_rfl) (by kernel_rfl) (fun _ _ _ h => h) (Or.inl ⟨by rfl, ?_⟩) (by assumption) ?_
            rotate_left
            · intro w hSw
              skip
              go_simp
              try with_reducible rfl
            simp only [Act.put, List.setIfInBounds_toArray, List.set_cons_zero, List.set_cons_succ]
            refine wpAnyH_ready (rs := [12]) (by kernel_rfl) (by simp) ?_
            refine AllReadyH.cons rfl (fun K hK => ?_) AllReadyH.nil
            go_simp
            refine hK.out _ _ S2 (fun hHeld => ?_)
            clear hK K
            try simp only [Act.put, List.setIfInBounds_toArray, List.set_cons_zero, List.set_cons_succ]
            refine wpAnyH_ready (rs := [13]) (by kernel_rfl) (by simp) ?_
            refine AllReadyH.cons rfl (fun K hK => ?_) AllReadyH.nil
            go_simp
            refine hK.out _ _ S3 (fun hHeld => ?_)
            clear hK K
            try simp only [Act.put, List.setIfInBounds_toArray, List.set_cons_zero, List.set_cons_succ]
            refine wpAnyH_done (by kernel_rfl) ?_ _
            go_wp2_with fail
            go_round
            case rel => exact ⟨m + 1, _, _, by omega, by go_num, HD3, HM3, HT3, HB3⟩
            case measure => simp [intOf]; omega
          · obtain rfl : m = k := by omega
            go_wp2_with fail
            go_ret2
            refine ⟨HB.out, .inr ⟨by unfold checkF; rw [HF.out, HLG.out]; rfl, T, D, M, rfl, gs, HD.out, ?_, HT.out⟩⟩
            rw [HM.out]; exact List.take_of_length_le (by have := HN.out; omega)
end Go.Proofs.Ytcfglgejjmapdaa
