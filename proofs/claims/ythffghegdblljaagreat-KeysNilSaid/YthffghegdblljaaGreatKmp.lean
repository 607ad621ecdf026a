/- Maps whose entries are known: a look, and a new entry. -/
import Derived.Test.YthffghegdblljaaGreatBase
import Derived.Maps.Own
import Derived.MapKept
import Derived.Laws.StructEq
namespace Go.Proofs.YthffghegdblljaaGreat
open Go Go.RowKit
/-- A map's block with other entries. -/
def putMap (w : World) (b : Nat) (o : Obj) : World := { w with heap := w.heap.setIfInBounds b o }
variable {P : Program} {t kt et : TypeId} {b : Nat} {es : Array MapEntry} {clock : Nat} {k : ByteArray} {w : World}
theorem check_str (hk : P.underlying kt = some .string) (e : Bool) (w : World) : (Instr.checkKey e 10000 kt (.string k)).run P w = .ok () w := by
  have h : ∀ n, (Instr.checkKey e (n + 1) kt (.string k)).run P w = .ok () w := fun n => by
    unfold Instr.checkKey
    simp [run_underlying hk, Result.andThen]
  exact h 9999
theorem find_str (hk : P.underlying kt = some .string) {r : Option (Nat × Value)} (l : List MapEntry) (hf : Instr.findNow .string (.string k) l 0 = some r) (w : World) : (Instr.findKey kt (.string k) l).run P w = .ok r w := by
  simp [Instr.findKey, run_underlying hk, hf, Result.andThen]
theorem look_there (ht : P.underlying t = some (.map kt et)) (hk : P.underlying kt = some .string) (hb : w.heap[b]? = some (.map es clock)) {i : Nat} {v : Value} (hf : Instr.findNow .string (.string k) es.toList 0 = some (some (i, v))) :
    (Instr.lookup t (.map (some b)) (.string k) false).run P w = .ok v w := by
  simp [Instr.lookup, run_underlying ht, MapKept.run_getObj_map hb, check_str hk, find_str hk _ hf, Result.andThen]
theorem look_not (ht : P.underlying t = some (.map kt et)) (hk : P.underlying kt = some .string) (hb : w.heap[b]? = some (.map es clock)) {z : Value} (hz : (zeroValue et).run P w = .ok z w) (hf : Instr.findNow .string (.string k) es.toList 0 = some none) :
    (Instr.lookup t (.map (some b)) (.string k) false).run P w = .ok z w := by
  simp [Instr.lookup, run_underlying ht, MapKept.run_getObj_map hb, check_str hk, find_str hk _ hf, hz, Result.andThen]
theorem put_new (ht : P.underlying t = some (.map kt et)) (hk : P.underlying kt = some .string) (hb : w.heap[b]? = some (.map es clock)) (v : Value) (hf : Instr.findNow .string (.string k) es.toList 0 = some none) :
    (Instr.mapUpdate t (.map (some b)) (.string k) v).run P w = .ok () (putMap w b (.map (es.push { key := .string k, val := v, born := clock }) (clock + 1))) := by
  simp [Instr.mapUpdate, run_underlying ht, MapKept.run_getObj_map hb, check_str hk, find_str hk _ hf, MapKept.run_setObj_map _ hb, Result.andThen, putMap]
theorem find_push (l : List MapEntry) (e : MapEntry) (i : Nat) (h : Instr.findNow .string (.string k) l i = some none) (kk : ByteArray) (he : e.key = .string kk) (hne : (k == kk) = false) : Instr.findNow .string (.string k) (l ++ [e]) i = some none := by
  induction l generalizing i with
  | nil => simp [Instr.findNow, he, Instr.sameNow, hne]
  | cons a r ih =>
    simp only [List.cons_append, Instr.findNow] at h ⊢
    split at h <;> simp_all
theorem look_there2 (ht : P.underlying t = some (.map kt et)) (hk : P.underlying kt = some .string) (hb : w.heap[b]? = some (.map es clock)) {i : Nat} {v : Value} (hf : Instr.findNow .string (.string k) es.toList 0 = some (some (i, v))) :
    (Instr.lookup t (.map (some b)) (.string k) true).run P w = .ok (.tuple #[v, .bool true]) w := by
  simp [Instr.lookup, run_underlying ht, MapKept.run_getObj_map hb, check_str hk, find_str hk _ hf, Result.andThen]
section
variable {n : Int}
theorem check_int (hk : P.underlying kt = some (.int .i64)) (e : Bool) (w : World) : (Instr.checkKey e 10000 kt (.int .i64 n)).run P w = .ok () w := by
  have h : ∀ m, (Instr.checkKey e (m + 1) kt (.int .i64 n)).run P w = .ok () w := fun m => by
    unfold Instr.checkKey
    simp [run_underlying hk, Result.andThen]
  exact h 9999
theorem find_int (hk : P.underlying kt = some (.int .i64)) {r : Option (Nat × Value)} (l : List MapEntry) (hf : Instr.findNow (.int .i64) (.int .i64 n) l 0 = some r) (w : World) : (Instr.findKey kt (.int .i64 n) l).run P w = .ok r w := by
  simp [Instr.findKey, run_underlying hk, hf, Result.andThen]
theorem look_int (ht : P.underlying t = some (.map kt et)) (hk : P.underlying kt = some (.int .i64)) (hb : w.heap[b]? = some (.map es clock)) {i : Nat} {v : Value} (hf : Instr.findNow (.int .i64) (.int .i64 n) es.toList 0 = some (some (i, v))) :
    (Instr.lookup t (.map (some b)) (.int .i64 n) true).run P w = .ok (.tuple #[v, .bool true]) w := by
  simp [Instr.lookup, run_underlying ht, MapKept.run_getObj_map hb, check_int hk, find_int hk _ hf, Result.andThen]
theorem put_int (ht : P.underlying t = some (.map kt et)) (hk : P.underlying kt = some (.int .i64)) (hb : w.heap[b]? = some (.map es clock)) (v : Value) (hf : Instr.findNow (.int .i64) (.int .i64 n) es.toList 0 = some none) :
    (Instr.mapUpdate t (.map (some b)) (.int .i64 n) v).run P w = .ok () (putMap w b (.map (es.push { key := .int .i64 n, val := v, born := clock }) (clock + 1))) := by
  simp [Instr.mapUpdate, run_underlying ht, MapKept.run_getObj_map hb, check_int hk, find_int hk _ hf, MapKept.run_setObj_map _ hb, Result.andThen, putMap]
end
theorem putMap_new (w : World) (o o' : Obj) : putMap (w.alloc o) w.heap.size o' = w.alloc o' := by
  simp only [putMap, World.alloc]
  congr 1
  apply Array.ext_getElem?
  intro i
  by_cases h : i = w.heap.size
  · subst h
    simp
  · rw [Array.getElem?_setIfInBounds_ne (by omega)]
    simp only [Array.getElem?_push, if_neg h]
theorem new_at (w : World) (o : Obj) : (w.alloc o).heap[w.heap.size]? = some o := by
  show (w.heap.push o)[w.heap.size]? = some o
  simp
theorem hlt {w : World} {k : Nat} {o : Obj} (h : w.heap[k]? = some o) : k < w.heap.size := (Array.getElem?_eq_some_iff.1 h).1
theorem putMap_same {w : World} {b : Nat} {o o' : Obj} (h : w.heap[b]? = some o) : (putMap w b o').heap[b]? = some o' := by
  simp [putMap, hlt h]
theorem putMap_other {w : World} {b k : Nat} {o' : Obj} (h : k ≠ b) : (putMap w b o').heap[k]? = w.heap[k]? := by
  simp only [putMap]
  rw [Array.getElem?_setIfInBounds_ne (Ne.symm h)]
theorem putMap_size (w : World) (b : Nat) (o' : Obj) : (putMap w b o').heap.size = w.heap.size := by simp [putMap]
theorem putMap_below {B : Nat} {a w : World} {b : Nat} {o' : Obj} (h : Below B a w) (hb : B ≤ b) : Below B a (putMap w b o') :=
  h.trans ⟨rfl, rfl, rfl, by simp [putMap], fun k hk => putMap_other (by omega)⟩
end Go.Proofs.YthffghegdblljaaGreat
