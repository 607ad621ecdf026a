/- The words of the language, as a map: the program's; as a list: the reference's. -/
import Derived.Test.YtejicjcdbfjajaaDoorNam
import Derived.Test.YtejicjcdbfjajaaDoorShelf
import Derived.Maps.Own
import Derived.MapKept
import Derived.Laws.StructEq
import Derived.Lib.LaidTab
import Derived.Lib.SmallJoins
namespace Go.Proofs.YtejicjcdbfjajaaDoor
open Go Go.RowKit
def kws : List ByteArray := [{ data := #[97, 110, 100] }, { data := #[98, 114, 101, 97, 107] }, { data := #[100, 111] }, { data := #[101, 108, 115, 101] }, { data := #[101, 108, 115, 101, 105, 102] }, { data := #[101, 110, 100] }, { data := #[102, 97, 108, 115, 101] }, { data := #[102, 111, 114] }, { data := #[102, 117, 110, 99, 116, 105, 111, 110] }, { data := #[105, 102] }, { data := #[105, 110] }, { data := #[108, 111, 99, 97, 108] }, { data := #[110, 105, 108] }, { data := #[110, 111, 116] }, { data := #[111, 114] }, { data := #[114, 101, 116, 117, 114, 110] }, { data := #[116, 104, 101, 110] }, { data := #[116, 114, 117, 101] }, { data := #[119, 104, 105, 108, 101] }]
abbrev kwText : ByteArray := { data := ([97, 110, 100, 32, 98, 114, 101, 97, 107, 32, 100, 111, 32, 101, 108, 115, 101, 32, 101, 108, 115, 101, 105, 102, 32, 101, 110, 100, 32, 102, 97, 108, 115, 101, 32, 102, 111, 114, 32, 102, 117, 110, 99, 116, 105, 111].append [110, 32, 105, 102, 32, 105, 110, 32, 108, 111, 99, 97, 108, 32, 110, 105, 108, 32, 110, 111, 116, 32, 111, 114, 32, 114, 101, 116, 117, 114, 110, 32, 116, 104, 101, 110, 32, 116, 114, 117, 101, 32, 119, 104, 105, 108, 101]).toArray }
theorem fields_kw : (Lib.fields kwText.data.toList).map (fun l => Value.string ⟨l.toArray⟩) = cellsS kws := by kernel_rfl
theorem fields_len : (Lib.fields kwText.data.toList).length = 19 := by kernel_rfl
theorem kws_len : kws.length = 19 := rfl
theorem kw_small : kwText.size < 4294967281 := by decide +kernel
theorem kw_ascii : ∀ (j : Nat) b, kwText.data.toList[j]? = some b → b.toNat < 128 := by
  have h : kwText.data.toList.all (fun b => decide (b.toNat < 128)) = true := by decide +kernel
  intro j b hb
  exact of_decide_eq_true (List.all_eq_true.1 h b (List.mem_of_getElem? hb))
theorem ba_beq (a b : ByteArray) : (a == b) = (a.data == b.data) := rfl
theorem ba_self (a : ByteArray) : (a == a) = true := by rw [ba_beq]; simp
theorem ba_ne {a b : ByteArray} (h : a ≠ b) : (a == b) = false := by
  rw [ba_beq]
  simpa using fun e => h (ByteArray.ext e)
instance lawfulBA : LawfulBEq ByteArray where
  rfl := ba_self _
  eq_of_beq := fun {a b} h => by
    by_cases e : a = b
    · exact e
    · rw [ba_ne e] at h; cases h
theorem kw_fin : ∀ k : Fin 19, kws.getD k.val ⟨#[]⟩ ∉ kws.take k.val := by decide +kernel
theorem kw_new (k : Nat) (h : k < kws.length) : kws[k] ∉ kws.take k := by
  have h1 := kw_fin ⟨k, h⟩
  simpa [List.getD, h] using h1
/-- Is a text a word of the language? -/
def keyB (s : ByteArray) : Bool := decide (s ∈ kws)
/-- A map that has just these keys. -/
def KeysAt (W : World) (g : Nat) (l : List ByteArray) : Prop := ∃ es clock, W.heap[g]? = some (.map es clock) ∧ es.toList.map (fun e => (e.key, e.val)) = l.map fun s => (.string s, .agg #[])
theorem find_keys (k : ByteArray) : ∀ (es : List MapEntry) (l : List ByteArray) (i : Nat), es.map (fun e => (e.key, e.val)) = l.map (fun s => (.string s, .agg #[])) →
    (k ∉ l → Instr.findNow .string (.string k) es i = some none) ∧ (k ∈ l → ∃ j, Instr.findNow .string (.string k) es i = some (some (j, .agg #[])))
  | [], [], i, _ => ⟨fun _ => rfl, fun h => by cases h⟩
  | [], _ :: _, _, h => by cases h
  | _ :: _, [], _, h => by cases h
  | e :: es, s :: l, i, h => by
    simp only [List.map_cons, List.cons.injEq, Prod.mk.injEq] at h
    obtain ⟨⟨h1, h2⟩, h3⟩ := h
    have ih := find_keys k es l (i + 1) h3
    by_cases hk : k = s
    · subst hk
      refine ⟨fun hn => absurd (List.mem_cons_self) hn, fun _ => ⟨i, ?_⟩⟩
      simp [Instr.findNow, h1, Instr.sameNow, h2, ba_self]
    · have hb := ba_ne hk
      refine ⟨fun hn => ?_, fun hm => ?_⟩
      · have := ih.1 (fun h => hn (List.mem_cons_of_mem _ h))
        simp [Instr.findNow, h1, Instr.sameNow, hb, this]
      · obtain ⟨j, hj⟩ := ih.2 ((List.mem_cons.1 hm).resolve_left hk)
        exact ⟨j, by simp [Instr.findNow, h1, Instr.sameNow, hb, hj]⟩
theorem key_str (e : Bool) (k : ByteArray) (w : World) : (Instr.checkKey e 10000 9 (.string k)).run Tryd.prog w = .ok () w := by
  have h : ∀ n, (Instr.checkKey e (n + 1) 9 (.string k)).run Tryd.prog w = .ok () w := fun n => by
    unfold Instr.checkKey
    simp [run_underlying Tryd.underlying9, Result.andThen]
  exact h 9999
theorem find_run {k : ByteArray} {r : Option (Nat × Value)} (l : List MapEntry) (hf : Instr.findNow .string (.string k) l 0 = some r) (w : World) : (Instr.findKey 9 (.string k) l).run Tryd.prog w = .ok r w := by
  simp [Instr.findKey, run_underlying Tryd.underlying9, hf, Result.andThen]
theorem zero67 (w : World) : (zeroValue 67).run Tryd.prog w = .ok (.agg #[]) w := by kernel_rfl
/-- Is a text among the keys? -/
theorem look_keys {W : World} {g : Nat} {l : List ByteArray} (h : KeysAt W g l) (k : ByteArray) : (Instr.lookup 46 (.map (some g)) (.string k) true).run Tryd.prog W = .ok (.tuple #[.agg #[], .bool (decide (k ∈ l))]) W := by
  obtain ⟨es, clock, hb, he⟩ := h
  have hf := find_keys k es.toList l 0 he
  by_cases hk : k ∈ l
  · obtain ⟨j, hj⟩ := hf.2 hk
    simp [Instr.lookup, run_underlying Tryd.underlying46, MapKept.run_getObj_map hb, key_str, find_run _ hj, Result.andThen, hk]
  · have hj := hf.1 hk
    simp [Instr.lookup, run_underlying Tryd.underlying46, MapKept.run_getObj_map hb, key_str, find_run _ hj, Result.andThen, hk, zero67]
/-- A map's block with other entries. -/
def putMap (w : World) (b : Nat) (o : Obj) : World := { w with heap := w.heap.setIfInBounds b o }
theorem putMap_below {w : World} {g B : Nat} {o : Obj} (h : B ≤ g) : Below B w (putMap w g o) :=
  ⟨rfl, rfl, rfl, by simp [putMap], fun k hk => by simp only [putMap]; rw [Array.getElem?_setIfInBounds, if_neg (by omega)]⟩
theorem rdV_put {w : World} {g b off : Nat} {o : Obj} {xs : List Value} (h : RdV w (some ⟨b, off, none⟩) xs) (hne : b ≠ g) : RdV (putMap w g o) (some ⟨b, off, none⟩) xs := fun h0 => by
  obtain ⟨b', off', e, hlt, hc⟩ := h h0
  cases e
  refine ⟨b, off, rfl, by simpa [putMap] using hlt, fun j hj => (World.cell?_of_block (a := ⟨b, off + j, none⟩) ?_).trans (hc j hj)⟩
  simp only [putMap]
  rw [Array.getElem?_setIfInBounds, if_neg (fun e => hne e.symm)]
/-- A key more. -/
theorem put_keys {W : World} {g : Nat} {l : List ByteArray} (h : KeysAt W g l) (k : ByteArray) (hk : k ∉ l) : ∃ o, (Instr.mapUpdate 46 (.map (some g)) (.string k) (.agg #[])).run Tryd.prog W = .ok () (putMap W g o) ∧ KeysAt (putMap W g o) g (l ++ [k]) := by
  obtain ⟨es, clock, hb, he⟩ := h
  have hj := (find_keys k es.toList l 0 he).1 hk
  have hg := (Array.getElem?_eq_some_iff.1 hb).1
  refine ⟨.map (es.push { key := .string k, val := .agg #[], born := clock }) (clock + 1), ?_, es.push { key := .string k, val := .agg #[], born := clock }, clock + 1, ?_, ?_⟩
  · simp [Instr.mapUpdate, run_underlying Tryd.underlying46, MapKept.run_getObj_map hb, key_str, find_run _ hj, MapKept.run_setObj_map _ hb, Result.andThen, putMap]
  · simp only [putMap]
    rw [Array.getElem?_setIfInBounds, if_pos rfl, if_pos hg]
  · simp [he]
theorem KeysAt.below {W W' : World} {g : Nat} {l : List ByteArray} (h : KeysAt W g l) (hb : Below W.heap.size W W') : KeysAt W' g l := by
  obtain ⟨es, clock, h1, h2⟩ := h
  exact ⟨es, clock, (hb.block g (Array.getElem?_eq_some_iff.1 h1).1).trans h1, h2⟩
theorem KeysAt.lt {W : World} {g : Nat} {l : List ByteArray} (h : KeysAt W g l) : g < W.heap.size := by
  obtain ⟨es, clock, h1, h2⟩ := h
  exact (Array.getElem?_eq_some_iff.1 h1).1
/-- The table of blanks is as it was laid. -/
abbrev SPC (w : World) : Prop := Lib.TabIs Tryd.prog w "strings.asciiSpace" .u8 Lib.asciiSpaceTab
theorem make46 (w : World) : (Instr.makeMap 46 none).run Tryd.prog w = .ok (.map (some w.heap.size)) (w.alloc (.map #[] 0)) := by
  simp [Instr.makeMap, run_underlying Tryd.underlying46, Result.andThen]
theorem gSpc : Tryd.prog.globalNamed "strings.asciiSpace" = some 0 := by kernel_rfl
theorem spc_below {w w' : World} (h : SPC w) (hb : Below w.heap.size w w') : SPC w' := Go.Joins.tab_stays gSpc h hb (Nat.le_refl _)
set_option maxRecDepth 100000 in
set_option maxHeartbeats 4000000 in
theorem keys_any (w : World) (ht : SPC w) : Calls Tryd.prog 24 #[] w fun e w' => e = .returned (.map (some w.heap.size)) ∧ KeysAt w' w.heap.size kws ∧ Below w.heap.size w w' := by
  have HT := Lib.hid ht
  have hk0 : KeysAt (w.alloc (.map #[] 0)) w.heap.size [] := ⟨#[], 0, heap_alloc_new w _, rfl⟩
  have HK0 := Lib.hid hk0
  have HB0 := Lib.hid (below_new w (.map #[] 0))
  have HF : Hid (∀ W, SPC W → Calls Tryd.prog 48 #[.string kwText] W fun e w' => e = .returned (.slice (some ⟨W.heap.size, 0, none⟩) 19 19) ∧ w' = W.alloc (.cells (cellsS kws).toArray 9)) := Lib.hid (fun W h => by
    have h1 := Tryd.strings_Fields kwText W kw_small kw_ascii h
    rw [fields_len, fields_kw] at h1
    exact h1)
  have hmk := make46 w
  clear ht hk0
  go_enter Tryd.func24, Tryd.ntmps24
  go_wp2_with fail
  refine (HF.out _ (spc_below HT.out HB0.out)).mono ?_
  rintro e w1 ⟨rfl, rfl⟩
  have HK1 : Hid (KeysAt ((w.alloc (.map #[] 0)).alloc (.cells (cellsS kws).toArray 9)) w.heap.size []) := Lib.hid (HK0.out.below (below_new _ _))
  have HB1 : Hid (Below w.heap.size w ((w.alloc (.map #[] 0)).alloc (.cells (cellsS kws).toArray 9))) := Lib.hid (HB0.out.alloc (by simp) _)
  have HR1 : Hid (RdV ((w.alloc (.map #[] 0)).alloc (.cells (cellsS kws).toArray 9)) (some ⟨(w.alloc (.map #[] 0)).heap.size, 0, none⟩) (cellsS kws)) := Lib.hid (fun _ => ⟨_, 0, rfl, by simp, fun j hj => by
    rw [Nat.zero_add]
    have := World.cell?_alloc_new (w.alloc (.map #[] 0)) (cellsS kws).toArray 9 j
    rw [this]
    simp [hj]⟩)
  have HG1 : Hid (w.heap.size < (w.alloc (.map #[] 0)).heap.size) := Lib.hid (by simp)
  generalize (w.alloc (.map #[] 0)).heap.size = g1 at *
  generalize (w.alloc (.map #[] 0)).alloc (.cells (cellsS kws).toArray 9) = w1 at *
  go_wp2_with fail
  go_loopw [7] (fun i wr => ∃ k : Nat, k ≤ 19 ∧ i = .int .i64 k ∧ Hid (KeysAt wr w.heap.size (kws.take k)) ∧ Hid (RdV wr (some ⟨g1, 0, none⟩) (cellsS kws)) ∧ Hid (Below w.heap.size w wr) ∧ Hid (w.heap.size < g1)) (fun i _ => 19 - (intOf i).toNat)
  case atStart => exact ⟨0, Nat.zero_le _, rfl, HK1, HR1, HB1, HG1⟩
  case round =>
    clear HK1 HR1 HB1
    obtain ⟨k, hk, rfl, HK, HR, HB, HG⟩ := hrel
    by_cases hlt : k < 19
    · have hl : k < kws.length := hlt
      obtain ⟨b, off, hA, hbb, hca⟩ := rdS_at HR.out (k := k) hl
      obtain ⟨o, hup, hku⟩ := put_keys HK.out kws[k] (kw_new k hl)
      have HKU := Lib.hid hku
      have HT2 := Lib.hid (List.take_succ_eq_append_getElem hl)
      have HPB : Hid (Below w.heap.size wr (putMap wr w.heap.size o)) := Lib.hid (putMap_below (Nat.le_refl _))
      clear hku
      generalize kws[k] = s at *
      cases hA
      rw [Nat.zero_add] at hca
      go_wp2_with fail
      go_roundw
      case rel => exact ⟨k + 1, by omega, by go_num, by rw [HT2.out]; exact HKU, Lib.hid (rdV_put HR.out (by have := HG.out; omega)), Lib.hid (HB.out.trans HPB.out), HG⟩
      case measure => simp [intOf]; omega
    · obtain rfl : k = 19 := by omega
      go_wp2_with fail
      go_ret
      exact ⟨rfl, HK.out, HB.out⟩
/-- Is a text a name? -/
def nameB (s : ByteArray) : Bool := formB s && !keyB s
set_option maxRecDepth 100000 in
set_option maxHeartbeats 4000000 in
theorem name_any (s : ByteArray) (w : World) (ht : SPC w) (hm : s.size ≤ 9223372036854775807) : Calls Tryd.prog 19 #[.string s] w fun e w' => e = .returned (.bool (nameB s)) ∧ Below w.heap.size w w' := by
  have HF := Lib.hid (formed_any s w hm)
  have HK := Lib.hid (keys_any w ht)
  cases hf : formB s with
  | false =>
    have HN : Hid (nameB s = false) := Lib.hid (by unfold nameB; rw [hf]; rfl)
    rw [hf] at HF
    clear hf ht
    go_enter Tryd.func19, Tryd.ntmps19
    go_wp2_with fail
    refine HF.out.mono ?_
    rintro e w' ⟨rfl, rfl⟩
    go_wp2_with fail
    go_ret
    exact ⟨ret_bool HN.out.symm, Below.refl _ _⟩
  | true =>
    have HN : Hid (nameB s = !keyB s) := Lib.hid (by unfold nameB; rw [hf]; rfl)
    rw [hf] at HF
    clear hf ht
    go_enter Tryd.func19, Tryd.ntmps19
    go_wp2_with fail
    refine HF.out.mono ?_
    rintro e w' ⟨rfl, rfl⟩
    go_wp2_with fail
    refine HK.out.mono ?_
    rintro e w1 ⟨rfl, hk, hb⟩
    have hl := look_keys hk s
    have HB := Lib.hid hb
    clear hk hb
    go_wp2_with fail
    go_ret
    exact ⟨ret_bool HN.out.symm, HB.out.trans ((below_new w1 _).mono HB.out.size)⟩
end Go.Proofs.YtejicjcdbfjajaaDoor
