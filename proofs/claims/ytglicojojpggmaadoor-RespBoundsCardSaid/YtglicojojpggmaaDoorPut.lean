/- A reply that is put behind bytes; a reply's bytes. -/
import Derived.Test.YtglicojojpggmaaDoorEncC
namespace Go.Proofs.YtglicojojpggmaaDoor
open Go Go.RowKit
section
variable {P : Program} {t kt et : TypeId} {b : Nat} {es : Array MapEntry} {clock : Nat} {kd : IntKind} {k : Int} {w : World}
theorem check_num (hk : P.underlying kt = some (.int kd)) (e : Bool) (w : World) : (Instr.checkKey e 10000 kt (.int kd k)).run P w = .ok () w := by
  have h : ∀ n, (Instr.checkKey e (n + 1) kt (.int kd k)).run P w = .ok () w := fun n => by
    unfold Instr.checkKey
    simp [run_underlying hk, Result.andThen]
  exact h 9999
theorem find_num (hk : P.underlying kt = some (.int kd)) {r : Option (Nat × Value)} (l : List MapEntry) (hf : Instr.findNow (.int kd) (.int kd k) l 0 = some r) (w : World) : (Instr.findKey kt (.int kd k) l).run P w = .ok r w := by
  simp [Instr.findKey, run_underlying hk, hf, Result.andThen]
theorem look_num (ht : P.underlying t = some (.map kt et)) (hk : P.underlying kt = some (.int kd)) (hb : w.heap[b]? = some (.map es clock)) {i : Nat} {v : Value} (hf : Instr.findNow (.int kd) (.int kd k) es.toList 0 = some (some (i, v))) :
    (Instr.lookup t (.map (some b)) (.int kd k) false).run P w = .ok v w := by
  simp [Instr.lookup, run_underlying ht, MapKept.run_getObj_map hb, check_num hk, find_num hk _ hf, Result.andThen]
/-- A map's block with other entries. -/
def putMap (w : World) (b : Nat) (o : Obj) : World := { w with heap := w.heap.setIfInBounds b o }
theorem put_num (ht : P.underlying t = some (.map kt et)) (hk : P.underlying kt = some (.int kd)) (hb : w.heap[b]? = some (.map es clock)) (v : Value) (hf : Instr.findNow (.int kd) (.int kd k) es.toList 0 = some none) :
    (Instr.mapUpdate t (.map (some b)) (.int kd k) v).run P w = .ok () (putMap w b (.map (es.push { key := .int kd k, val := v, born := clock }) (clock + 1))) := by
  simp [Instr.mapUpdate, run_underlying ht, MapKept.run_getObj_map hb, check_num hk, find_num hk _ hf, MapKept.run_setObj_map _ hb, Result.andThen, putMap]
end
theorem look97 {W : World} {O Pv M : Nat} (h : W.heap[M]? = some (.map #[kindE O Pv 0 47, kindE O Pv 1 48, kindE O Pv 2 49, kindE O Pv 3 50, kindE O Pv 4 52, kindE O Pv 5 53] 6)) (k f : Nat) (hk : k = 0 ∧ f = 47 ∨ k = 1 ∧ f = 48 ∨ k = 2 ∧ f = 49 ∨ k = 3 ∧ f = 50 ∨ k = 4 ∧ f = 52 ∨ k = 5 ∧ f = 53) :
    (Instr.lookup 97 (.map (some M)) (.int .i64 k) false).run Tryd.prog W = .ok (.func (.func f) #[] (if k = 5 then #[.pointer (some ⟨O, 0, none⟩), .pointer (some ⟨Pv, 0, none⟩)] else #[.pointer (some ⟨O, 0, none⟩)])) W := by
  rcases hk with ⟨rfl, rfl⟩ | ⟨rfl, rfl⟩ | ⟨rfl, rfl⟩ | ⟨rfl, rfl⟩ | ⟨rfl, rfl⟩ | ⟨rfl, rfl⟩
  all_goals exact look_num Tryd.underlying97 Tryd.underlying38 h (i := _) rfl
section
variable {w W W' : World} {O B Pv Kv M n : Nat} {A : Option Addr} {c : Nat} {l l' : List UInt8} {v : Value}
set_option maxRecDepth 100000 in
set_option maxHeartbeats 4000000 in
theorem put_by0 (r : Rp) (A' : Option Addr) (c' : Nat) (w : World) (hkk : r.kind = 0) (h : EV w O B A c l) (he : EE w O B Pv Kv M)
    (HC : ∀ W, EV W O B A c l → EE W O B Pv Kv M → Apart O B w W → Calls Tryd.prog 47 #[.agg (rpV r A' c'), .pointer (some ⟨O, 0, none⟩)] W (EncQ W O B l')) :
    Calls Tryd.prog 54 #[.agg (rpV r A' c'), .pointer (some ⟨Kv, 0, none⟩)] w (EncQ w O B l') := by
  have hbx := below_new w (.cells (rpV r A' c') 41)
  have hap : Apart O B w (w.alloc (.cells (rpV r A' c') 41)) := Apart.of (hbx.mono h.bh)
  have e1 := he.apart hap
  have hl := look97 e1.mp 0 47 (by decide)
  rw [show ((0 : Nat) : Int) = r.kind from hkk.symm, if_neg (by decide)] at hl
  have HCC := Lib.hid (HC _ (h.below hbx) e1 hap)
  have HAP := Lib.hid hap
  have k0 := cell_one e1.kv
  have hn := heap_alloc_new w (.cells (rpV r A' c') 41)
  have z0 : (w.alloc (.cells (rpV r A' c') 41)).cell? ⟨w.heap.size, 0, none⟩ = some (.int .i64 r.kind) := by simp only [World.cell?, hn]; rfl
  clear hbx hap e1 h he HC hkk hn
  go_enter Tryd.func54, Tryd.ntmps54
  go_wp2_with fail
  refine HCC.out.mono ?_
  rintro e w1 ⟨rfl, h1, h2⟩
  have H1 := Lib.hid h1
  have H2 := Lib.hid (HAP.out.trans h2)
  clear h1 h2 HCC hl k0 z0
  go_wp2_with fail
  go_end0
  exact ⟨rfl, H1.out, H2.out⟩
set_option maxRecDepth 100000 in
set_option maxHeartbeats 4000000 in
theorem put_by1 (r : Rp) (A' : Option Addr) (c' : Nat) (w : World) (hkk : r.kind = 1) (h : EV w O B A c l) (he : EE w O B Pv Kv M)
    (HC : ∀ W, EV W O B A c l → EE W O B Pv Kv M → Apart O B w W → Calls Tryd.prog 48 #[.agg (rpV r A' c'), .pointer (some ⟨O, 0, none⟩)] W (EncQ W O B l')) :
    Calls Tryd.prog 54 #[.agg (rpV r A' c'), .pointer (some ⟨Kv, 0, none⟩)] w (EncQ w O B l') := by
  have hbx := below_new w (.cells (rpV r A' c') 41)
  have hap : Apart O B w (w.alloc (.cells (rpV r A' c') 41)) := Apart.of (hbx.mono h.bh)
  have e1 := he.apart hap
  have hl := look97 e1.mp 1 48 (by decide)
  rw [show ((1 : Nat) : Int) = r.kind from hkk.symm, if_neg (by decide)] at hl
  have HCC := Lib.hid (HC _ (h.below hbx) e1 hap)
  have HAP := Lib.hid hap
  have k0 := cell_one e1.kv
  have hn := heap_alloc_new w (.cells (rpV r A' c') 41)
  have z0 : (w.alloc (.cells (rpV r A' c') 41)).cell? ⟨w.heap.size, 0, none⟩ = some (.int .i64 r.kind) := by simp only [World.cell?, hn]; rfl
  clear hbx hap e1 h he HC hkk hn
  go_enter Tryd.func54, Tryd.ntmps54
  go_wp2_with fail
  refine HCC.out.mono ?_
  rintro e w1 ⟨rfl, h1, h2⟩
  have H1 := Lib.hid h1
  have H2 := Lib.hid (HAP.out.trans h2)
  clear h1 h2 HCC hl k0 z0
  go_wp2_with fail
  go_end0
  exact ⟨rfl, H1.out, H2.out⟩
set_option maxRecDepth 100000 in
set_option maxHeartbeats 4000000 in
theorem put_by2 (r : Rp) (A' : Option Addr) (c' : Nat) (w : World) (hkk : r.kind = 2) (h : EV w O B A c l) (he : EE w O B Pv Kv M)
    (HC : ∀ W, EV W O B A c l → EE W O B Pv Kv M → Apart O B w W → Calls Tryd.prog 49 #[.agg (rpV r A' c'), .pointer (some ⟨O, 0, none⟩)] W (EncQ W O B l')) :
    Calls Tryd.prog 54 #[.agg (rpV r A' c'), .pointer (some ⟨Kv, 0, none⟩)] w (EncQ w O B l') := by
  have hbx := below_new w (.cells (rpV r A' c') 41)
  have hap : Apart O B w (w.alloc (.cells (rpV r A' c') 41)) := Apart.of (hbx.mono h.bh)
  have e1 := he.apart hap
  have hl := look97 e1.mp 2 49 (by decide)
  rw [show ((2 : Nat) : Int) = r.kind from hkk.symm, if_neg (by decide)] at hl
  have HCC := Lib.hid (HC _ (h.below hbx) e1 hap)
  have HAP := Lib.hid hap
  have k0 := cell_one e1.kv
  have hn := heap_alloc_new w (.cells (rpV r A' c') 41)
  have z0 : (w.alloc (.cells (rpV r A' c') 41)).cell? ⟨w.heap.size, 0, none⟩ = some (.int .i64 r.kind) := by simp only [World.cell?, hn]; rfl
  clear hbx hap e1 h he HC hkk hn
  go_enter Tryd.func54, Tryd.ntmps54
  go_wp2_with fail
  refine HCC.out.mono ?_
  rintro e w1 ⟨rfl, h1, h2⟩
  have H1 := Lib.hid h1
  have H2 := Lib.hid (HAP.out.trans h2)
  clear h1 h2 HCC hl k0 z0
  go_wp2_with fail
  go_end0
  exact ⟨rfl, H1.out, H2.out⟩
set_option maxRecDepth 100000 in
set_option maxHeartbeats 4000000 in
theorem put_by3 (r : Rp) (A' : Option Addr) (c' : Nat) (w : World) (hkk : r.kind = 3) (h : EV w O B A c l) (he : EE w O B Pv Kv M)
    (HC : ∀ W, EV W O B A c l → EE W O B Pv Kv M → Apart O B w W → Calls Tryd.prog 50 #[.agg (rpV r A' c'), .pointer (some ⟨O, 0, none⟩)] W (EncQ W O B l')) :
    Calls Tryd.prog 54 #[.agg (rpV r A' c'), .pointer (some ⟨Kv, 0, none⟩)] w (EncQ w O B l') := by
  have hbx := below_new w (.cells (rpV r A' c') 41)
  have hap : Apart O B w (w.alloc (.cells (rpV r A' c') 41)) := Apart.of (hbx.mono h.bh)
  have e1 := he.apart hap
  have hl := look97 e1.mp 3 50 (by decide)
  rw [show ((3 : Nat) : Int) = r.kind from hkk.symm, if_neg (by decide)] at hl
  have HCC := Lib.hid (HC _ (h.below hbx) e1 hap)
  have HAP := Lib.hid hap
  have k0 := cell_one e1.kv
  have hn := heap_alloc_new w (.cells (rpV r A' c') 41)
  have z0 : (w.alloc (.cells (rpV r A' c') 41)).cell? ⟨w.heap.size, 0, none⟩ = some (.int .i64 r.kind) := by simp only [World.cell?, hn]; rfl
  clear hbx hap e1 h he HC hkk hn
  go_enter Tryd.func54, Tryd.ntmps54
  go_wp2_with fail
  refine HCC.out.mono ?_
  rintro e w1 ⟨rfl, h1, h2⟩
  have H1 := Lib.hid h1
  have H2 := Lib.hid (HAP.out.trans h2)
  clear h1 h2 HCC hl k0 z0
  go_wp2_with fail
  go_end0
  exact ⟨rfl, H1.out, H2.out⟩
set_option maxRecDepth 100000 in
set_option maxHeartbeats 4000000 in
theorem put_by4 (r : Rp) (A' : Option Addr) (c' : Nat) (w : World) (hkk : r.kind = 4) (h : EV w O B A c l) (he : EE w O B Pv Kv M)
    (HC : ∀ W, EV W O B A c l → EE W O B Pv Kv M → Apart O B w W → Calls Tryd.prog 52 #[.agg (rpV r A' c'), .pointer (some ⟨O, 0, none⟩)] W (EncQ W O B l')) :
    Calls Tryd.prog 54 #[.agg (rpV r A' c'), .pointer (some ⟨Kv, 0, none⟩)] w (EncQ w O B l') := by
  have hbx := below_new w (.cells (rpV r A' c') 41)
  have hap : Apart O B w (w.alloc (.cells (rpV r A' c') 41)) := Apart.of (hbx.mono h.bh)
  have e1 := he.apart hap
  have hl := look97 e1.mp 4 52 (by decide)
  rw [show ((4 : Nat) : Int) = r.kind from hkk.symm, if_neg (by decide)] at hl
  have HCC := Lib.hid (HC _ (h.below hbx) e1 hap)
  have HAP := Lib.hid hap
  have k0 := cell_one e1.kv
  have hn := heap_alloc_new w (.cells (rpV r A' c') 41)
  have z0 : (w.alloc (.cells (rpV r A' c') 41)).cell? ⟨w.heap.size, 0, none⟩ = some (.int .i64 r.kind) := by simp only [World.cell?, hn]; rfl
  clear hbx hap e1 h he HC hkk hn
  go_enter Tryd.func54, Tryd.ntmps54
  go_wp2_with fail
  refine HCC.out.mono ?_
  rintro e w1 ⟨rfl, h1, h2⟩
  have H1 := Lib.hid h1
  have H2 := Lib.hid (HAP.out.trans h2)
  clear h1 h2 HCC hl k0 z0
  go_wp2_with fail
  go_end0
  exact ⟨rfl, H1.out, H2.out⟩
set_option maxRecDepth 100000 in
set_option maxHeartbeats 4000000 in
theorem put_by5 (r : Rp) (A' : Option Addr) (c' : Nat) (w : World) (hkk : r.kind = 5) (h : EV w O B A c l) (he : EE w O B Pv Kv M)
    (HC : ∀ W, EV W O B A c l → EE W O B Pv Kv M → Apart O B w W → Calls Tryd.prog 53 #[.agg (rpV r A' c'), .pointer (some ⟨O, 0, none⟩), .pointer (some ⟨Pv, 0, none⟩)] W (EncQ W O B l')) :
    Calls Tryd.prog 54 #[.agg (rpV r A' c'), .pointer (some ⟨Kv, 0, none⟩)] w (EncQ w O B l') := by
  have hbx := below_new w (.cells (rpV r A' c') 41)
  have hap : Apart O B w (w.alloc (.cells (rpV r A' c') 41)) := Apart.of (hbx.mono h.bh)
  have e1 := he.apart hap
  have hl := look97 e1.mp 5 53 (by decide)
  rw [show ((5 : Nat) : Int) = r.kind from hkk.symm, if_pos rfl] at hl
  have HCC := Lib.hid (HC _ (h.below hbx) e1 hap)
  have HAP := Lib.hid hap
  have k0 := cell_one e1.kv
  have hn := heap_alloc_new w (.cells (rpV r A' c') 41)
  have z0 : (w.alloc (.cells (rpV r A' c') 41)).cell? ⟨w.heap.size, 0, none⟩ = some (.int .i64 r.kind) := by simp only [World.cell?, hn]; rfl
  clear hbx hap e1 h he HC hkk hn
  go_enter Tryd.func54, Tryd.ntmps54
  go_wp2_with fail
  refine HCC.out.mono ?_
  rintro e w1 ⟨rfl, h1, h2⟩
  have H1 := Lib.hid h1
  have H2 := Lib.hid (HAP.out.trans h2)
  clear h1 h2 HCC hl k0 z0
  go_wp2_with fail
  go_end0
  exact ⟨rfl, H1.out, H2.out⟩
theorem encR_text {r : Rp} (h : r.kind = 1 ∨ r.kind = 2 ∨ r.kind = 4) : r.text.size ≤ (encR r).length := by
  have hb := bl_len r.text
  rw [encR_eq]
  have h1 := layL_len 43 (bl r.text)
  have h2 := layL_len 45 (bl r.text)
  rcases h with h | h | h
  · rw [if_pos h]
    omega
  · rw [if_neg (by omega), if_pos h]
    omega
  · rw [if_neg (by omega), if_neg (by omega), if_neg (by omega), if_pos h, List.length_append, List.length_append]
    omega
theorem put_all : ∀ n, PutC n
  | 0 => fun r A' c' w l A c O B Pv Kv M hh => by
    cases r
    rw [hgt] at hh
    omega
  | n + 1 => fun r A' c' w l A c O B Pv Kv M hh hok h he hk hl => by
    obtain ⟨h0, h5, hkids⟩ := okR_kids hok
    obtain ⟨f1, f2, f3, f4, f5, f6⟩ := hk.1
    have hq := encR_eq r
    by_cases k0 : r.kind = 0
    · rw [if_neg (by omega), if_neg (by omega), if_neg (by omega), if_neg (by omega), if_neg (by omega)] at hq
      rw [hq]
      exact put_by0 r A' c' w k0 h he (fun W h1 _ _ => enc47_any r A' c' W h1 (by omega))
    by_cases k1 : r.kind = 1
    · have ht := encR_text (r := r) (.inl k1)
      rw [if_pos k1] at hq
      rw [hq]
      exact put_by1 r A' c' w k1 h he (fun W h1 _ _ => enc48_any r A' c' W h1 (by omega) (by omega))
    by_cases k2 : r.kind = 2
    · have ht := encR_text (r := r) (.inr (.inl k2))
      rw [if_neg k1, if_pos k2] at hq
      rw [hq]
      exact put_by2 r A' c' w k2 h he (fun W h1 _ _ => enc49_any r A' c' W h1 (by omega) (by omega))
    by_cases k3 : r.kind = 3
    · rw [if_neg k1, if_neg k2, if_pos k3] at hq
      rw [hq]
      exact put_by3 r A' c' w k3 h he (fun W h1 _ _ => enc50_any r A' c' W h1 (by omega) f1 f2)
    by_cases k4 : r.kind = 4
    · have ht := encR_text (r := r) (.inr (.inr k4))
      rw [if_neg k1, if_neg k2, if_neg k3, if_pos k4] at hq
      rw [hq]
      exact put_by4 r A' c' w k4 h he (fun W h1 _ _ => enc52_any r A' c' W h1 (by omega) (by omega))
    have k5 : r.kind = 5 := by omega
    have hhk : hgtL r.kids ≤ n := by
      cases r
      rw [hgt] at hh
      exact Nat.le_of_succ_le_succ hh
    rw [if_neg k1, if_neg k2, if_neg k3, if_neg k4, if_pos k5] at hq
    rw [hq] at hl ⊢
    exact put_by5 r A' c' w k5 h he (fun W h1 e1 ha => enc53_any (put_all n) r A' c' W hhk hkids h1 e1 (ha.kids hk) hl)
end
end Go.Proofs.YtglicojojpggmaaDoor
