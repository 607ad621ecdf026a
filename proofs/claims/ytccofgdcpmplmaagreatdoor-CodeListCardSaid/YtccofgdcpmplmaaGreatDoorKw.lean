/- The words of the language, as a map: the program's; as a list: the reference's. -/
import Derived.Test.YtccofgdcpmplmaaGreatDoorHds
import Derived.Test.YtccofgdcpmplmaaGreatDoorShelf
import Derived.Maps.Own
import Derived.MapKept
import Derived.Laws.StructEq
import Derived.Lib.LaidTab
import Derived.Lib.SmallJoins
namespace Go.Proofs.YtccofgdcpmplmaaGreatDoor
open Go Go.RowKit
def kws : List ByteArray := [{ data := #[99, 97, 108, 108] }, { data := #[116, 114, 121] }, { data := #[101, 114, 114, 111, 114] }, { data := #[116, 121, 112, 101] }, { data := #[116, 111, 115, 116, 114, 105, 110, 103] }, { data := #[116, 111, 110, 117, 109, 98, 101, 114] }, { data := #[108, 101, 110] }, { data := #[115, 117, 98] }, { data := #[114, 101, 112] }, { data := #[102, 105, 110, 100] }, { data := #[98, 121, 116, 101] }, { data := #[99, 104, 97, 114] }, { data := #[99, 111, 110, 99, 97, 116] }, { data := #[105, 110, 115, 101, 114, 116] }, { data := #[114, 101, 109, 111, 118, 101] }, { data := #[107, 101, 121, 115] }]
abbrev kwText : ByteArray := { data := ([99, 97, 108, 108, 32, 116, 114, 121, 32, 101, 114, 114, 111, 114, 32, 116, 121, 112, 101, 32, 116, 111, 115, 116, 114, 105, 110, 103, 32, 116, 111, 110, 117, 109, 98, 101, 114, 32, 108, 101, 110, 32, 115, 117, 98].append [32, 114, 101, 112, 32, 102, 105, 110, 100, 32, 98, 121, 116, 101, 32, 99, 104, 97, 114, 32, 99, 111, 110, 99, 97, 116, 32, 105, 110, 115, 101, 114, 116, 32, 114, 101, 109, 111, 118, 101, 32, 107, 101, 121, 115]).toArray }
theorem fields_kw : (Lib.fields kwText.data.toList).map (fun l => Value.string ⟨l.toArray⟩) = cellsS kws := by kernel_rfl
theorem fields_len : (Lib.fields kwText.data.toList).length = 16 := by kernel_rfl
theorem kws_len : kws.length = 16 := rfl
theorem kw_small : kwText.size < 4294967281 := by decide +kernel
theorem kw_ascii : ∀ (j : Nat) b, kwText.data.toList[j]? = some b → b.toNat < 128 := by
  have h : kwText.data.toList.all (fun b => decide (b.toNat < 128)) = true := by decide +kernel
  intro j b hb
  exact of_decide_eq_true (List.all_eq_true.1 h b (List.mem_of_getElem? hb))
theorem ba_beq (a b : ByteArray) : (a == b) = (a.data == b.data) := rfl
theorem ba_self (a : ByteArray) : (a == a) = true := by rw [ba_beq]; simp
theorem ba_ne {a b : ByteArray} (h : a ≠ b) : (a == b) = false := by
  rw [ba_beq]
  simpa using fun e => h (ByteArray.ext e)
instance lawfulBA : LawfulBEq ByteArray where
  rfl := ba_self _
  eq_of_beq := fun {a b} h => by
    by_cases e : a = b
    · exact e
    · rw [ba_ne e] at h; cases h
theorem kw_fin : ∀ k : Fin 16, kws.getD k.val ⟨#[]⟩ ∉ kws.take k.val := by decide +kernel
theorem kw_new (k : Nat) (h : k < kws.length) : kws[k] ∉ kws.take k := by
  have h1 := kw_fin ⟨k, h⟩
  simpa [List.getD, h] using h1
/-- Is a text a word of the language? -/
def keyB (s : ByteArray) : Bool := decide (s ∈ kws)
/-- A map that has just these keys. -/
def KeysAt (W : World) (g : Nat) (l : List ByteArray) : Prop := ∃ es clock, W.heap[g]? = some (.map es clock) ∧ es.toList.map (fun e => (e.key, e.val)) = l.map fun s => (.string s, .agg #[])
theorem find_keys (k : ByteArray) : ∀ (es : List MapEntry) (l : List ByteArray) (i : Nat), es.map (fun e => (e.key, e.val)) = l.map (fun s => (.string s, .agg #[])) →
    (k ∉ l → Instr.findNow .string (.string k) es i = some none) ∧ (k ∈ l → ∃ j, Instr.findNow .string (.string k) es i = some (some (j, .agg #[])))
  | [], [], i, _ => ⟨fun _ => rfl, fun h => by cases h⟩
  | [], _ :: _, _, h => by cases h
  | _ :: _, [], _, h => by cases h
  | e :: es, s :: l, i, h => by
    simp only [List.map_cons, List.cons.injEq, Prod.mk.injEq] at h
    obtain ⟨⟨h1, h2⟩, h3⟩ := h
    have ih := find_keys k es l (i + 1) h3
    by_cases hk : k = s
    · subst hk
      refine ⟨fun hn => absurd (List.mem_cons_self) hn, fun _ => ⟨i, ?_⟩⟩
      simp [Instr.findNow, h1, Instr.sameNow, h2, ba_self]
    · have hb := ba_ne hk
      refine ⟨fun hn => ?_, fun hm => ?_⟩
      · have := ih.1 (fun h => hn (List.mem_cons_of_mem _ h))
        simp [Instr.findNow, h1, Instr.sameNow, hb, this]
      · obtain ⟨j, hj⟩ := ih.2 ((List.mem_cons.1 hm).resolve_left hk)
        exact ⟨j, by simp [Instr.findNow, h1, Instr.sameNow, hb, hj]⟩
theorem key_str (e : Bool) (k : ByteArray) (w : World) : (Instr.checkKey e 10000 9 (.string k)).run Tryz.prog w = .ok () w := by
  have h : ∀ n, (Instr.checkKey e (n + 1) 9 (.string k)).run Tryz.prog w = .ok () w := fun n => by
    unfold Instr.checkKey
    simp [run_underlying Tryz.underlying9, Result.andThen]
  exact h 9999
theorem find_run {k : ByteArray} {r : Option (Nat × Value)} (l : List MapEntry) (hf : Instr.findNow .string (.string k) l 0 = some r) (w : World) : (Instr.findKey 9 (.string k) l).run Tryz.prog w = .ok r w := by
  simp [Instr.findKey, run_underlying Tryz.underlying9, hf, Result.andThen]
theorem zero105 (w : World) : (zeroValue 138).run Tryz.prog w = .ok (.agg #[]) w := by kernel_rfl
/-- Is a text among the keys? -/
theorem look_keys {W : World} {g : Nat} {l : List ByteArray} (h : KeysAt W g l) (k : ByteArray) : (Instr.lookup 140 (.map (some g)) (.string k) true).run Tryz.prog W = .ok (.tuple #[.agg #[], .bool (decide (k ∈ l))]) W := by
  obtain ⟨es, clock, hb, he⟩ := h
  have hf := find_keys k es.toList l 0 he
  by_cases hk : k ∈ l
  · obtain ⟨j, hj⟩ := hf.2 hk
    simp [Instr.lookup, run_underlying Tryz.underlying140, MapKept.run_getObj_map hb, key_str, find_run _ hj, Result.andThen, hk]
  · have hj := hf.1 hk
    simp [Instr.lookup, run_underlying Tryz.underlying140, MapKept.run_getObj_map hb, key_str, find_run _ hj, Result.andThen, hk, zero105]
/-- A map's block with other entries. -/
def putMap (w : World) (b : Nat) (o : Obj) : World := { w with heap := w.heap.setIfInBounds b o }
theorem putMap_below {w : World} {g B : Nat} {o : Obj} (h : B ≤ g) : Below B w (putMap w g o) :=
  ⟨rfl, rfl, rfl, by simp [putMap], fun k hk => by simp only [putMap]; rw [Array.getElem?_setIfInBounds, if_neg (by omega)]⟩
theorem rdV_put {w : World} {g b off : Nat} {o : Obj} {xs : List Value} (h : RdV w (some ⟨b, off, none⟩) xs) (hne : b ≠ g) : RdV (putMap w g o) (some ⟨b, off, none⟩) xs := fun h0 => by
  obtain ⟨b', off', e, hlt, hc⟩ := h h0
  cases e
  refine ⟨b, off, rfl, by simpa [putMap] using hlt, fun j hj => (World.cell?_of_block (a := ⟨b, off + j, none⟩) ?_).trans (hc j hj)⟩
  simp only [putMap]
  rw [Array.getElem?_setIfInBounds, if_neg (fun e => hne e.symm)]
/-- A key more. -/
theorem put_keys {W : World} {g : Nat} {l : List ByteArray} (h : KeysAt W g l) (k : ByteArray) (hk : k ∉ l) : ∃ o, (Instr.mapUpdate 140 (.map (some g)) (.string k) (.agg #[])).run Tryz.prog W = .ok () (putMap W g o) ∧ KeysAt (putMap W g o) g (l ++ [k]) := by
  obtain ⟨es, clock, hb, he⟩ := h
  have hj := (find_keys k es.toList l 0 he).1 hk
  have hg := (Array.getElem?_eq_some_iff.1 hb).1
  refine ⟨.map (es.push { key := .string k, val := .agg #[], born := clock }) (clock + 1), ?_, es.push { key := .string k, val := .agg #[], born := clock }, clock + 1, ?_, ?_⟩
  · simp [Instr.mapUpdate, run_underlying Tryz.underlying140, MapKept.run_getObj_map hb, key_str, find_run _ hj, MapKept.run_setObj_map _ hb, Result.andThen, putMap]
  · simp only [putMap]
    rw [Array.getElem?_setIfInBounds, if_pos rfl, if_pos hg]
  · simp [he]
theorem KeysAt.below {W W' : World} {g : Nat} {l : List ByteArray} (h : KeysAt W g l) (hb : Below W.heap.size W W') : KeysAt W' g l := by
  obtain ⟨es, clock, h1, h2⟩ := h
  exact ⟨es, clock, (hb.block g (Array.getElem?_eq_some_iff.1 h1).1).trans h1, h2⟩
theorem KeysAt.lt {W : World} {g : Nat} {l : List ByteArray} (h : KeysAt W g l) : g < W.heap.size := by
  obtain ⟨es, clock, h1, h2⟩ := h
  exact (Array.getElem?_eq_some_iff.1 h1).1
/-- The table of blanks is as it was laid. -/
abbrev SPC (w : World) : Prop := Lib.TabIs Tryz.prog w "strings.asciiSpace" .u8 Lib.asciiSpaceTab
theorem make107 (w : World) : (Instr.makeMap 140 none).run Tryz.prog w = .ok (.map (some w.heap.size)) (w.alloc (.map #[] 0)) := by
  simp [Instr.makeMap, run_underlying Tryz.underlying140, Result.andThen]
theorem gSpc : Tryz.prog.globalNamed "strings.asciiSpace" = some 8 := by kernel_rfl
theorem spc_below {w w' : World} (h : SPC w) (hb : Below w.heap.size w w') : SPC w' := Go.Joins.tab_stays gSpc h hb (Nat.le_refl _)
set_option maxRecDepth 100000 in
set_option maxHeartbeats 4000000 in
theorem keys_any (w : World) (ht : SPC w) : Calls Tryz.prog 100 #[] w fun e w' => e = .returned (.map (some w.heap.size)) ∧ KeysAt w' w.heap.size kws ∧ Below w.heap.size w w' := by
  have HT := Lib.hid ht
  have hk0 : KeysAt (w.alloc (.map #[] 0)) w.heap.size [] := ⟨#[], 0, heap_alloc_new w _, rfl⟩
  have HK0 := Lib.hid hk0
  have HB0 := Lib.hid (below_new w (.map #[] 0))
  have HF : Hid (∀ W, SPC W → Calls Tryz.prog 104 #[.string kwText] W fun e w' => e = .returned (.slice (some ⟨W.heap.size, 0, none⟩) 16 16) ∧ w' = W.alloc (.cells (cellsS kws).toArray 9)) := Lib.hid (fun W h => by
    have h1 := Tryz.strings_Fields kwText W kw_small kw_ascii h
    rw [fields_len, fields_kw] at h1
    exact h1)
  have hmk := make107 w
  clear ht hk0
  go_enter Tryz.func100, Tryz.ntmps100
  go_wp2_with fail
  refine (HF.out _ (spc_below HT.out HB0.out)).mono ?_
  rintro e w1 ⟨rfl, rfl⟩
  have HK1 : Hid (KeysAt ((w.alloc (.map #[] 0)).alloc (.cells (cellsS kws).toArray 9)) w.heap.size []) := Lib.hid (HK0.out.below (below_new _ _))
  have HB1 : Hid (Below w.heap.size w ((w.alloc (.map #[] 0)).alloc (.cells (cellsS kws).toArray 9))) := Lib.hid (HB0.out.alloc (by simp) _)
  have HR1 : Hid (RdV ((w.alloc (.map #[] 0)).alloc (.cells (cellsS kws).toArray 9)) (some ⟨(w.alloc (.map #[] 0)).heap.size, 0, none⟩) (cellsS kws)) := Lib.hid (fun _ => ⟨_, 0, rfl, by simp, fun j hj => by
    rw [Nat.zero_add]
    have := World.cell?_alloc_new (w.alloc (.map #[] 0)) (cellsS kws).toArray 9 j
    rw [this]
    simp [hj]⟩)
  have HG1 : Hid (w.heap.size < (w.alloc (.map #[] 0)).heap.size) := Lib.hid (by simp)
  generalize (w.alloc (.map #[] 0)).heap.size = g1 at *
  generalize (w.alloc (.map #[] 0)).alloc (.cells (cellsS kws).toArray 9) = w1 at *
  go_wp2_with fail
  go_loopw [7] (fun i wr => ∃ k : Nat, k ≤ 16 ∧ i = .int .i64 k ∧ Hid (KeysAt wr w.heap.size (kws.take k)) ∧ Hid (RdV wr (some ⟨g1, 0, none⟩) (cellsS kws)) ∧ Hid (Below w.heap.size w wr) ∧ Hid (w.heap.size < g1)) (fun i _ => 16 - (intOf i).toNat)
  case atStart => exact ⟨0, Nat.zero_le _, rfl, HK1, HR1, HB1, HG1⟩
  case round =>
    clear HK1 HR1 HB1
    obtain ⟨k, hk, rfl, HK, HR, HB, HG⟩ := hrel
    by_cases hlt : k < 16
    · have hl : k < kws.length := hlt
      obtain ⟨b, off, hA, hbb, hca⟩ := rdS_at HR.out (k := k) hl
      obtain ⟨o, hup, hku⟩ := put_keys HK.out kws[k] (kw_new k hl)
      have HKU := Lib.hid hku
      have HT2 := Lib.hid (List.take_succ_eq_append_getElem hl)
      have HPB : Hid (Below w.heap.size wr (putMap wr w.heap.size o)) := Lib.hid (putMap_below (Nat.le_refl _))
      clear hku
      generalize kws[k] = s at *
      cases hA
      rw [Nat.zero_add] at hca
      go_wp2_with fail
      go_roundw
      case rel => exact ⟨k + 1, by omega, by go_num, by rw [HT2.out]; exact HKU, Lib.hid (rdV_put HR.out (by have := HG.out; omega)), Lib.hid (HB.out.trans HPB.out), HG⟩
      case measure => simp [intOf]; omega
    · obtain rfl : k = 16 := by omega
      go_wp2_with fail
      go_ret
      exact ⟨rfl, HK.out, HB.out⟩
set_option maxRecDepth 100000 in
theorem builtin_any (s : ByteArray) (w : World) (ht : SPC w) : Calls Tryz.prog 85 #[.string s] w fun e w' => e = .returned (.bool (keyB s)) ∧ Below w.heap.size w w' := by
  have HK := Lib.hid (keys_any w ht)
  have HN : Hid (keyB s = decide (s ∈ kws)) := Lib.hid rfl
  clear ht
  go_enter Tryz.func85, Tryz.ntmps85
  go_wp2_with fail
  refine HK.out.mono ?_
  rintro e w1 ⟨rfl, hk, hb⟩
  have hl := look_keys hk s
  have HB := Lib.hid hb
  clear hk hb
  go_wp2_with fail
  go_ret
  exact ⟨ret_bool HN.out.symm, HB.out.trans ((below_new w1 _).mono HB.out.size)⟩
theorem take_has {s : ByteArray} {k : Nat} (hk : k < kws.length) (h : s ∉ kws.take k) (hn : kws[k] ≠ s) : s ∉ kws.take (k + 1) := by
  rw [List.take_succ_eq_append_getElem hk]
  simp only [List.mem_append, List.mem_singleton]
  rintro (h1 | h1)
  · exact h h1
  · exact hn h1.symm
theorem rdV_new (w : World) (xs : List Value) (t : TypeId) : RdV (w.alloc (.cells xs.toArray t)) (some ⟨w.heap.size, 0, none⟩) xs := fun _ => ⟨_, 0, rfl, by simp, fun j hj => by
  rw [Nat.zero_add]
  have := World.cell?_alloc_new w xs.toArray t j
  rw [this]
  simp [hj]⟩
set_option maxRecDepth 100000 in
set_option maxHeartbeats 4000000 in
theorem rbuiltin_any (s : ByteArray) (w : World) : Calls Tryz.prog 35 #[.string s] w fun e w' => e = .returned (.bool (keyB s)) ∧ Below w.heap.size w w' := by
  obtain ⟨w1, hw1⟩ : ∃ w1, w.alloc (.cells #[.string { data := #[99, 97, 108, 108] }, .string { data := #[116, 114, 121] }, .string { data := #[101, 114, 114, 111, 114] }, .string { data := #[116, 121, 112, 101] }, .string { data := #[116, 111, 115, 116, 114, 105, 110, 103] }, .string { data := #[116, 111, 110, 117, 109, 98, 101, 114] }, .string { data := #[108, 101, 110] }, .string { data := #[115, 117, 98] }, .string { data := #[114, 101, 112] }, .string { data := #[102, 105, 110, 100] }, .string { data := #[98, 121, 116, 101] }, .string { data := #[99, 104, 97, 114] }, .string { data := #[99, 111, 110, 99, 97, 116] }, .string { data := #[105, 110, 115, 101, 114, 116] }, .string { data := #[114, 101, 109, 111, 118, 101] }, .string { data := #[107, 101, 121, 115] }] 9) = w1 := ⟨_, rfl⟩
  have HR : Hid (RdV w1 (some ⟨w.heap.size, 0, none⟩) (cellsS kws)) := Lib.hid (by rw [← hw1]; exact rdV_new w (cellsS kws) 9)
  have HB : Hid (Below w.heap.size w w1) := Lib.hid (by rw [← hw1]; exact below_new _ _)
  go_enter Tryz.func35, Tryz.ntmps35
  go_wp2_with fail
  clear hw1
  go_loop [4] (fun i => ∃ k : Nat, k ≤ 16 ∧ i = .int .i64 k ∧ Hid (s ∉ kws.take k)) (fun i => 16 - (intOf i).toNat)
  case atStart => exact ⟨0, Nat.zero_le _, rfl, by simp [Hid]⟩
  case round =>
    obtain ⟨k, hk, rfl, HN⟩ := hrel
    by_cases hlt : k < 16
    · have hl : k < kws.length := hlt
      obtain ⟨b, off, hA, hbb, hca⟩ := rdS_at HR.out (k := k) hl
      cases hA
      rw [Nat.zero_add] at hca
      by_cases hs : kws[k] = s
      · have HY : Hid (keyB s = true) := Lib.hid (by unfold keyB; rw [← hs]; simp)
        rw [hs] at hca
        have he := bytes_eq s
        clear hs
        go_wp2_with fail
        go_ret
        exact ⟨ret_bool HY.out.symm, HB.out⟩
      · have he := bytes_ne hs
        have HY := Lib.hid (take_has hl HN.out hs)
        generalize kws[k] = t at *
        clear hs
        go_wp2_with fail
        go_round
        case rel => exact ⟨k + 1, by omega, by go_num, HY⟩
        case measure => simp [intOf]; omega
    · obtain rfl : k = 16 := by omega
      go_wp2_with fail
      go_ret
      exact ⟨ret_bool (by have h1 : s ∉ kws := HN.out; unfold keyB; simp [h1]), HB.out⟩
end Go.Proofs.YtccofgdcpmplmaaGreatDoor
