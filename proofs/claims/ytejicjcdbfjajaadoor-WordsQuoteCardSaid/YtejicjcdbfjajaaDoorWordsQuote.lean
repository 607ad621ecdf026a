/- Proved here: 'taborlaw11.WordsQuote' returns true for every text. Conditions: those of the given card (the two listed tables hold what the program's text lays; nothing else). -/
import Derived.Test.YtejicjcdbfjajaaDoorFrame
import Derived.Test.YtejicjcdbfjajaaDoorKnown
import Derived.Test.YtejicjcdbfjajaaDoorRqo
namespace Go.Proofs.YtejicjcdbfjajaaDoor.wordsQuote
open Go Go.RowKit Go.ChangeShapes Go.WideShapes Go.ChangeAt
open Go.ChangeMaps (open_string shut_string)

theorem block_ltq {W : World} {b off : Nat} {v : Value} (h : W.cell? ⟨b, off, none⟩ = some v) : b < W.heap.size := by
  rcases Nat.lt_or_ge b W.heap.size with h1 | h1
  · exact h1
  · simp [World.cell?, Array.getElem?_eq_none h1] at h
theorem one_word (w : World) (l : List UInt8) (v : Value) (e : Nat) (h : w.ownsRow 0 31 4 v 1 (wdsC [⟨0, some (3, l, 0, e)⟩])) : ∃ g cap, v = .slice (some ⟨g, 0, none⟩) 1 cap ∧ 1 ≤ cap ∧ w.cell? ⟨g, 0, none⟩ = some (.int .i64 3) ∧ w.cell? ⟨g, 1, none⟩ = some (.string (ofL l)) := by
  obtain ⟨-, ⟨-, h0⟩ | ⟨g, cap, cur, rfl, -, hblk, hcap, -, hcs, hcut⟩⟩ := h
  · cases h0
  have hcut' : cur.toList.take 4 = [.int .i64 3, .string (ofL l), .int .i64 0, .int .i64 0] := hcut
  have hcell : ∀ k u, k < 4 → ([.int .i64 3, .string (ofL l), .int .i64 0, .int .i64 0] : List Value)[k]? = some u → w.cell? ⟨g, k, none⟩ = some u := by
    intro k u hk hv
    rw [← hcut', List.getElem?_take_of_lt hk] at hv
    rw [Lib.cell_of_heap hblk]
    simpa using hv
  exact ⟨g, cap, rfl, hcap, hcell 0 _ (by omega) rfl, hcell 1 _ (by omega) rfl⟩
set_option maxHeartbeats 4000000 in
set_option maxRecDepth 100000 in
theorem walk (s : ByteArray) (w : World) (hs : s.size ≤ 9223372036854775807) (hg : SPC w) :
    Calls Tryd.prog 6 #[.string s] w fun e w' => e = .returned (.bool true) ∧ Below w.heap.size w w' := by
  have HG := Lib.hid hg
  by_cases h3 : 2000 < s.size
  · have hd : decide (2000 < s.size) = true := decide_eq_true h3
    have HK := Lib.hid (known_any w hg)
    clear hg
    go_enter Tryd.func6, Tryd.ntmps6
    go_wp2_with fail
    refine HK.out.mono ?_
    rintro e w1 ⟨rfl, hb1⟩
    go_wp2_with fail
    go_ret
    exact ⟨rfl, hb1⟩
  · have hd : decide (2000 < s.size) = false := decide_eq_false h3
    have HQ := Lib.hid (quote_any s w (by omega))
    have hql := qtL_len (bl s)
    rw [bl_len] at hql
    have hqs : (ofL (quoL (bl s))).size ≤ 8002 := by
      have : (ofL (quoL (bl s))).size = (quoL (bl s)).length := by rw [← bl_len, bl_ofL]
      rw [this, quoL]
      simp
      omega
    have HX : Hid (lexT (bl (ofL (quoL (bl s)))) = [⟨0, some (3, bl s, 0, (quoL (bl s)).length)⟩]) := Lib.hid (by rw [bl_ofL]; exact lex_quoL _)
    clear hg hql
    obtain ⟨E, hE⟩ : ∃ E, (quoL (bl s)).length = E := ⟨_, rfl⟩
    rw [hE] at HX
    clear hE
    obtain ⟨q, hq⟩ : ∃ q, ofL (quoL (bl s)) = q := ⟨_, rfl⟩
    have HRQ : Hid (∀ W, Calls Tryd.prog 18 #[.string s] W fun e w' => e = .returned (.string q) ∧ Below W.heap.size W w') := Lib.hid (fun W => by rw [← hq]; exact rquote_any s W (by omega))
    rw [hq] at HQ HX hqs
    clear hq
    go_enter Tryd.func6, Tryd.ntmps6
    go_wp2_with fail
    refine HQ.out.mono ?_
    rintro e w1 ⟨rfl, hb1⟩
    have HB1 := Lib.hid hb1
    have HL := Lib.hid (lex_any q w1 (spc_below HG.out hb1) (by omega))
    clear hb1 HQ
    go_wp2_with fail
    refine HL.out.mono ?_
    rintro e w2 ⟨hb2, ⟨h1, -⟩ | ⟨-, -, v, rfl, hrow⟩ | ⟨-, pre, b, h1, -⟩⟩
    · omega
    rotate_left
    · rw [HX.out] at h1
      have h2 := congrArg (fun l => l.getLast?.map (·.o)) h1
      simp at h2
    rw [HX.out] at hrow
    obtain ⟨g, cap, rfl, hcap, c0, c1⟩ := one_word w2 (bl s) v E (own4_down hrow (Nat.zero_le _))
    rw [ofL_bl] at c1
    have HB2 := Lib.hid (HB1.out.trans (hb2.mono HB1.out.size))
    have HR := Lib.hid (HRQ.out w2)
    have HC0 := Lib.hid c0
    have HC1 := Lib.hid c1
    have hglt : g < w2.heap.size := block_ltq c0
    clear hrow hb2 c0 c1 HL
    go_wp2_with fail
    refine HR.out.mono ?_
    rintro e w3 ⟨rfl, hb3⟩
    have HB3 := Lib.hid (HB2.out.trans (hb3.mono HB2.out.size))
    have c0 := (hb3.cell (p := ⟨g, 0, none⟩) hglt).trans HC0.out
    have c1 := (hb3.cell (p := ⟨g, 1, none⟩) hglt).trans HC1.out
    have HK := Lib.hid (known_any w3 (spc_below HG.out HB3.out))
    have e1 := bytes_eq q
    have e2 := bytes_eq s
    clear hb3 HR
    go_wp2_with fail
    refine HK.out.mono ?_
    rintro e w4 ⟨rfl, hb4⟩
    have HB4 := Lib.hid (HB3.out.trans (hb4.mono HB3.out.size))
    clear hb4
    go_wp2_with fail
    go_ret
    exact ⟨rfl, HB4.out⟩


set_option maxRecDepth 20000 in
theorem contract (H : Type) (enc : TypeId × Value → H) (W : World) (base : Nat) (args : Array Value) (ds gs : List (DataW H)) (before : List MemPlace)
    (hval : ∀ (j : Nat) t v, Tryd.f6.params[j]? = some t → args[j]? = some v → Value.okWide Tryd.prog W .any base t v)
    (hW : DataW.Whole enc Tryd.prog Tryd.f6.params.toList Rows.wordsQuoteSpec.vars false W args.toList ds gs before) 
    (hZ : (DataW.weightsEach Tryd.prog (Tryd.f6.params.toList ++ (OpenSpec.ofChange Rows.wordsQuoteSpec).bare.plain.varTypes Tryd.prog) (ds ++ gs)).all (· ≤ reachBytes) = true) (hL : laidMetH Tryd.prog Rows.wordsQuoteRow.laid W) :
    Calls Tryd.prog 6 args W fun e W' => ∃ v, e = .returned v ∧ Rows.wordsQuoteSpec.post enc Tryd.prog Tryd.f6 false true false false W args v W' := by
  have hW' := hW
  obtain ⟨p, q, hA0, hV, rfl, hfz, hnd⟩ := hW
  have hA : DataW.TrodAll enc Tryd.prog W 0 (fun _ => true) true Tryd.f6.params.toList args.toList ds p := hA0
  rw [Tryd.params6] at hA hval hZ
  obtain ⟨v0, vs0, d0, ds0, p0, q0, hargs, rfl, rfl, h0, r0⟩ := trodAll_cons hA
  obtain ⟨rfl, rfl, rfl⟩ := trodAll_nil r0
  obtain rfl : args = #[v0] := by cases args; simp_all
  obtain ⟨rfl, rfl⟩ := trodVars_none hV
  obtain ⟨s0, rfl, rfl, rfl, hs0⟩ := open_string Tryd.underlying9 (hval 0 9 v0 rfl rfl) h0
  clear hA0
  refine (walk s0 W (by have := hs0; simp only [maxLen] at this; omega) (laid_spc hL)).mono fun e W' ⟨he, bel⟩ => ?_
  subst he
  exact ⟨_, rfl, _, _, _, [], _, [], hW', trodAll_mk1 (shut_bool Tryd.underlying4 _), (trodAll_cons_mk (shut_string Tryd.underlying9 hs0) trodAll_mk0), rfl, bel.frame _, fun h => by cases h⟩

theorem reads (os : Os) {H : Type} (enc : TypeId × Value → H) : ∃ places, DataW.whole enc Tryd.prog ((laidWorld os).forCall (fun _ _ => 0) ⟨#[], #[.string ⟨#[]⟩], []⟩).memory Tryd.f6.params.toList Rows.wordsQuoteSpec.vars false (#[.string ⟨#[]⟩] : Array Value).toList 8 = some ([.lit (.string [])], [], places) :=
  ⟨[], by kernel_rfl⟩

set_option maxRecDepth 100000 in
theorem lifted (os : Os) (started : os.Started) (H : Type) (enc : TypeId × Value → H) (F : Stop.Interp) :
    ReturnsInHanded {} Tryd.checked os 6 .any ((OpenSpec.ofChange Rows.wordsQuoteSpec).preRow enc Tryd.prog Tryd.f6 Rows.wordsQuoteRow.domain false Rows.wordsQuoteRow.laid) (((OpenSpec.ofChange Rows.wordsQuoteSpec).at F).post enc Tryd.prog Tryd.f6 false true false false) := by
  obtain ⟨places, hx⟩ := reads os enc
  refine returnsInHanded_of_row (C := Tryd.checked) (s := OpenSpec.ofChange Rows.wordsQuoteSpec) own started (by kernel_rfl) Tryd.func6
    (witness_row_atRef (enc := enc) (C := Tryd.checked) false (laidWorld os) #[.string ⟨#[]⟩] rfl (by kernel_rfl) (by kernel_rfl) (by kernel_rfl)
      (OpenSpec.preRow_of_cond 8 hx (by kernel_rfl) (fun k hk => by cases hk) (by kernel_rfl) (laid_met os _))) ?_
  intro W base args ds gs before hval hW _ _ hZ hL _ _
  exact contract H enc W base args ds gs before hval hW hZ hL

theorem said : Rows.WordsQuoteSaid :=
  OpenClaim.holds_of_cond 6 Tryd.f6 rfl rfl rfl rfl rfl rfl rfl ⟨rfl, rfl, rfl, rfl, rfl⟩ rfl rfl rfl rfl rfl (by kernel_rfl) Tryd.func6 (by kernel_rfl)
    (of_decide_eq_true (by kernel_rfl)) (by unfold Func.isWrapper; first | (rw [if_pos (by decide +kernel)]; kernel_rfl) | (rw [if_neg (by decide +kernel)]; exact ⟨rfl, rfl⟩))
    (fun os started H enc _ F => by rw [OpenClaim.pre_eq_preRow]; exact lifted os started H enc F)

theorem plain (f : FuncId) (fn : Func) (hf : Tryd.pinned.checked.prog.funcNamed "tabor/taborlaw11.WordsQuote" = some f) (hfn : Tryd.pinned.checked.prog.funcs[f]? = some fn) :
    false = Tryd.pinned.checked.prog.looks [] ∧ ∀ (j : Nat) t, fn.params[j]? = some t → Tryd.pinned.checked.prog.wantsStandIn t = false := by
  obtain rfl : f = 6 := Option.some.inj ((show Tryd.prog.funcNamed "tabor/taborlaw11.WordsQuote" = some 6 by kernel_rfl).symm.trans hf) |>.symm
  obtain rfl : fn = Tryd.f6 := (Option.some.inj (Tryd.func6.symm.trans hfn)).symm
  refine ⟨by kernel_rfl, fun j t ht => ?_⟩
  rw [Tryd.params6] at ht
  obtain rfl : t = 9 := by simpa using Array.mem_of_getElem? ht
  exact (show Tryd.prog.wantsStandIn 9 = false by kernel_rfl)

/-- The card. -/
theorem card : Rows.WordsQuoteCardSaid :=
  Claim7.holds_tied_plain_at .later [] _ _ _ _ said (fun _ h => by cases h) (by kernel_rfl) (fun _ h => by cases h) wordsQuote_row_tie rfl ⟨rfl, rfl⟩ (by kernel_rfl) rfl plain (by kernel_rfl)
#print axioms card
end Go.Proofs.YtejicjcdbfjajaaDoor.wordsQuote
