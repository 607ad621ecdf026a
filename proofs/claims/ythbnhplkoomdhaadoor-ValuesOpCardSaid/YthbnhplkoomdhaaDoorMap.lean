/- Maps whose entries are known: a look, and a new entry. -/
import Derived.Test.YthbnhplkoomdhaaDoorProg
import Derived.Maps.Own
import Derived.MapKept
import Derived.Laws.StructEq
namespace Go.Proofs.YthbnhplkoomdhaaDoor
open Go Go.RowKit
/-- A map's block with other entries. -/
def putMap (w : World) (b : Nat) (o : Obj) : World := { w with heap := w.heap.setIfInBounds b o }
variable {P : Program} {t kt et : TypeId} {b : Nat} {es : Array MapEntry} {clock : Nat} {k : ByteArray} {w : World}
theorem check_str (hk : P.underlying kt = some .string) (e : Bool) (w : World) : (Instr.checkKey e 10000 kt (.string k)).run P w = .ok () w := by
  have h : ∀ n, (Instr.checkKey e (n + 1) kt (.string k)).run P w = .ok () w := fun n => by
    unfold Instr.checkKey
    simp [run_underlying hk, Result.andThen]
  exact h 9999
theorem find_str (hk : P.underlying kt = some .string) {r : Option (Nat × Value)} (l : List MapEntry) (hf : Instr.findNow .string (.string k) l 0 = some r) (w : World) : (Instr.findKey kt (.string k) l).run P w = .ok r w := by
  simp [Instr.findKey, run_underlying hk, hf, Result.andThen]
theorem look_there (ht : P.underlying t = some (.map kt et)) (hk : P.underlying kt = some .string) (hb : w.heap[b]? = some (.map es clock)) {i : Nat} {v : Value} (hf : Instr.findNow .string (.string k) es.toList 0 = some (some (i, v))) :
    (Instr.lookup t (.map (some b)) (.string k) false).run P w = .ok v w := by
  simp [Instr.lookup, run_underlying ht, MapKept.run_getObj_map hb, check_str hk, find_str hk _ hf, Result.andThen]
theorem look_not (ht : P.underlying t = some (.map kt et)) (hk : P.underlying kt = some .string) (hb : w.heap[b]? = some (.map es clock)) {z : Value} (hz : (zeroValue et).run P w = .ok z w) (hf : Instr.findNow .string (.string k) es.toList 0 = some none) :
    (Instr.lookup t (.map (some b)) (.string k) false).run P w = .ok z w := by
  simp [Instr.lookup, run_underlying ht, MapKept.run_getObj_map hb, check_str hk, find_str hk _ hf, hz, Result.andThen]
theorem put_new (ht : P.underlying t = some (.map kt et)) (hk : P.underlying kt = some .string) (hb : w.heap[b]? = some (.map es clock)) (v : Value) (hf : Instr.findNow .string (.string k) es.toList 0 = some none) :
    (Instr.mapUpdate t (.map (some b)) (.string k) v).run P w = .ok () (putMap w b (.map (es.push { key := .string k, val := v, born := clock }) (clock + 1))) := by
  simp [Instr.mapUpdate, run_underlying ht, MapKept.run_getObj_map hb, check_str hk, find_str hk _ hf, MapKept.run_setObj_map _ hb, Result.andThen, putMap]
theorem find_push (l : List MapEntry) (e : MapEntry) (i : Nat) (h : Instr.findNow .string (.string k) l i = some none) (kk : ByteArray) (he : e.key = .string kk) (hne : (k == kk) = false) : Instr.findNow .string (.string k) (l ++ [e]) i = some none := by
  induction l generalizing i with
  | nil => simp [Instr.findNow, he, Instr.sameNow, hne]
  | cons a r ih =>
    simp only [List.cons_append, Instr.findNow] at h ⊢
    split at h <;> simp_all
end Go.Proofs.YthbnhplkoomdhaaDoor
