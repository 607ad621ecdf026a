/- A block of SHA-1, as the program works it out: one plain function of the state and of the block. -/
import Derived.Test.YtpomaabkgbaikaaDoorD1Spread
import Derived.Deep.WholeRow
import Derived.Laws.EntriesVeiled
namespace Go.Proofs.YtpomaabkgbaikaaDoor.Dg
open Go Go.RowKit
def mixOf (i : Nat) (b c d : Nat) : Nat := match i with | 0 => mixA b c d | 1 => mixB b c d | 2 => mixC b c d | _ => mixB b c d
def addOf (i : Nat) : Nat := match i with | 0 => 1518500249 | 1 => 1859775393 | 2 => 2400959708 | _ => 3395469782
def stepS (W : Nat → Nat) (t : Nat) (s : St) : St :=
  ⟨(rot 5 s.a + mixOf (t / 20) s.b s.c s.d + s.e + addOf (t / 20) + W t) % 4294967296, s.a, rot 30 s.b, s.c, s.d⟩
def roundsS (W : Nat → Nat) : Nat → St → St
  | 0, s => s
  | n + 1, s => stepS W n (roundsS W n s)
def addS (s t : St) : St := ⟨(s.a + t.a) % 4294967296, (s.b + t.b) % 4294967296, (s.c + t.c) % 4294967296, (s.d + t.d) % 4294967296, (s.e + t.e) % 4294967296⟩
def wAt (l : List UInt8) (t : Nat) : Nat := (sch l 80).getD t 0
def blockS (l : List UInt8) (s : St) : St := addS (roundsS (wAt l) 80 s) s
set_option maxRecDepth 100000 in
theorem stepS_ok (W : Nat → Nat) (t : Nat) (s : St) (h : s.ok) : (stepS W t s).ok := by
  obtain ⟨ha, hb, hc, hd, he⟩ := h
  exact ⟨Nat.mod_lt _ (by omega), ha, rot_lt _ _ hb, hc, hd⟩
set_option maxRecDepth 100000 in
theorem roundsS_ok (W : Nat → Nat) (n : Nat) (s : St) (h : s.ok) : (roundsS W n s).ok := by
  induction n with
  | zero => exact h
  | succ n ih => exact stepS_ok W n _ ih

set_option maxRecDepth 100000 in
theorem Rd.below {w w' : World} {A : Option Addr} {l : List UInt8} (h : Rd w A l) (hb : Below w.heap.size w w') : Rd w' A l := by
  intro hl
  obtain ⟨b, off, rfl, hlt, hc⟩ := h hl
  exact ⟨b, off, rfl, Nat.lt_of_lt_of_le hlt hb.size, fun j hj => (hb.cell (p := ⟨b, off + j, none⟩) hlt).trans (hc j hj)⟩
set_option maxRecDepth 100000 in
theorem row36 (w : World) (g : Nat) (s : St) (h : w.heap[g]? = some (.cells s.row 90 (0, 0))) : w.cell? ⟨g, 0, none⟩ = some (.int .u32 s.a) ∧ w.cell? ⟨g, 1, none⟩ = some (.int .u32 s.b) ∧ w.cell? ⟨g, 2, none⟩ = some (.int .u32 s.c) ∧ w.cell? ⟨g, 3, none⟩ = some (.int .u32 s.d) ∧ w.cell? ⟨g, 4, none⟩ = some (.int .u32 s.e) := by
  refine ⟨?_, ?_, ?_, ?_, ?_⟩ <;> (rw [cell_of_row w g _ _ 90 (0, 0) h]; rfl)
set_option maxRecDepth 100000 in
theorem Below.two (w : World) (o o' : Obj) : Below w.heap.size w ((w.alloc o).alloc o') := ((Below.refl w.heap.size w).alloc (Nat.le_refl _) o).alloc (by simp) o'
set_option maxRecDepth 100000 in
theorem size36 : (Tryd.prog.info? 90).map (·.size) = some 5 := by kernel_rfl
def wRow (l : List UInt8) : Array Value := ((sch l 80).map u32v).toArray
set_option maxRecDepth 100000 in
theorem wRow_size (l : List UInt8) : (wRow l).size = 80 := by simp [wRow, sch_len]
set_option maxRecDepth 100000 in
theorem wRow_one (l : List UInt8) : (wRow l).all (·.oneCell') = true := by simp [wRow, u32v, Value.oneCell']
set_option maxRecDepth 100000 in
theorem wRow_at (l : List UInt8) (t : Nat) (h : t < 80) : (wRow l)[t]? = some (.int .u32 (wAt l t)) := by
  simp [wRow, wAt, u32v, List.getD_eq_getElem?_getD, List.getElem?_eq_getElem (show t < (sch l 80).length by rw [sch_len]; exact h)]

/-- What stands in memory while a block is worked out: the eighty numbers, the state, the rules, the argument's box, the result's cell. -/
structure Inv (w w1 : World) (s0 : St) (cs : Array Value) (s : St) (wr : World) : Prop where
  c : wr.heap[w1.heap.size]? = some (.cells cs 110 (0, 0))
  s : wr.heap[w1.heap.size + 1]? = some (.cells s.row 90 (0, 0))
  r : wr.heap[w1.heap.size + 1 + 1]? = some (.cells rulesRow 116 (0, 0))
  b : wr.heap[w.heap.size]? = some (.cells s0.row 90 (0, 0))
  e : wr.heap[w.heap.size + 1]? = some (.cells (St.row ⟨0, 0, 0, 0, 0⟩) 90 (0, 0))
  bel : Below w.heap.size w wr
  big : w1.heap.size + 1 + 1 < wr.heap.size
section
variable {w w1 wr : World} {s0 s : St} {cs : Array Value}
set_option maxRecDepth 100000 in
theorem Inv.drewN (h : Inv w w1 s0 cs s wr) (n : Nat) : Inv w w1 s0 cs s (wr.drewN n) := ⟨h.c, h.s, h.r, h.b, h.e, Below.drewN' h.bel n, h.big⟩
set_option maxRecDepth 100000 in
theorem Inv.alloc (h : Inv w w1 s0 cs s wr) (hw : w.heap.size + 2 ≤ w1.heap.size) (o : Obj) : Inv w w1 s0 cs s (wr.alloc o) := by
  have hb := h.big
  have hs := h.bel.size
  exact ⟨(heap_alloc_old wr o (by omega)).trans h.c, (heap_alloc_old wr o (by omega)).trans h.s, (heap_alloc_old wr o (by omega)).trans h.r, (heap_alloc_old wr o (by omega)).trans h.b, (heap_alloc_old wr o (by omega)).trans h.e, h.bel.alloc hs o, by simp; omega⟩
set_option maxRecDepth 100000 in
theorem heap_setRow_other (w : World) (g k : Nat) (cs : Array Value) (h : g ≠ k) : (w.setRow g cs).heap[k]? = w.heap[k]? := by
  simp [World.setRow, Array.getElem?_modify, h]
set_option maxRecDepth 100000 in
theorem below_setRow {B g : Nat} {a w : World} (h : Below B a w) (hg : B ≤ g) (cs : Array Value) : Below B a (w.setRow g cs) :=
  h.trans ⟨rfl, rfl, rfl, by simp [World.setRow], fun k hk => heap_setRow_other w g k cs (by omega)⟩
set_option maxRecDepth 100000 in
theorem Inv.put (h : Inv w w1 s0 cs s wr) (hw : w.heap.size + 2 ≤ w1.heap.size) (s' : St) : Inv w w1 s0 cs s' (wr.setRow (w1.heap.size + 1) s'.row) :=
  ⟨(heap_setRow_other _ _ _ _ (by omega)).trans h.c, setRow_heap wr _ _ _ 90 (0, 0) h.s, (heap_setRow_other _ _ _ _ (by omega)).trans h.r, (heap_setRow_other _ _ _ _ (by omega)).trans h.b,
    (heap_setRow_other _ _ _ _ (by omega)).trans h.e, below_setRow h.bel (by omega) _, by have := h.big; simpa [World.setRow] using this⟩
end
set_option maxRecDepth 100000 in
theorem Inv.start {w w1 : World} {s0 : St} {cs : Array Value} (hw : w.heap.size + 2 ≤ w1.heap.size) (hb : w1.heap[w.heap.size]? = some (.cells s0.row 90 (0, 0)))
    (he : w1.heap[w.heap.size + 1]? = some (.cells (St.row ⟨0, 0, 0, 0, 0⟩) 90 (0, 0))) (hbel : Below w.heap.size w w1) :
    Inv w w1 s0 cs s0 (((w1.alloc (.cells cs 110)).alloc (.cells s0.row 90)).alloc (.cells rulesRow 116)) := by
  have a1 : ∀ k, k < w1.heap.size → (((w1.alloc (.cells cs 110)).alloc (.cells s0.row 90)).alloc (.cells rulesRow 116)).heap[k]? = w1.heap[k]? := fun k hk =>
    (heap_alloc_old _ _ (by simp; omega)).trans ((heap_alloc_old _ _ (by simp; omega)).trans (heap_alloc_old _ _ hk))
  refine ⟨(heap_alloc_old _ _ (by simp; omega)).trans (heap_alloc2_old _ _ _), (heap_alloc_old _ _ (by simp)).trans (heap_alloc2_new _ _ _), ?_, (a1 _ (by omega)).trans hb, (a1 _ (by omega)).trans he,
    ((hbel.alloc (by omega) _).alloc (by simp; omega) _).alloc (by simp; omega) _, by simp⟩
  have := heap_alloc_new ((w1.alloc (.cells cs 110)).alloc (.cells s0.row 90)) (.cells rulesRow 116)
  simpa using this
def fnOf (i : Nat) : Nat := match i with | 0 => 83 | 1 => 82 | 2 => 84 | _ => 82
set_option maxRecDepth 100000 in
theorem mix_any (i b c d : Nat) (w : World) (hb : b < 4294967296) (hc : c < 4294967296) (hd : d < 4294967296) :
    Calls Tryd.prog (fnOf i) #[.int .u32 b, .int .u32 c, .int .u32 d] w fun e w' => e = .returned (.int .u32 (mixOf i b c d)) ∧ w' = w := by
  match i with
  | 0 => exact (mixA_any b c d w hb hc hd).mono fun _ _ ⟨a, b⟩ => ⟨a, b.symm⟩
  | 1 => exact (mixB_any b c d w hb hc hd).mono fun _ _ ⟨a, b⟩ => ⟨a, b.symm⟩
  | 2 => exact (mixC_any b c d w hb hc hd).mono fun _ _ ⟨a, b⟩ => ⟨a, b.symm⟩
  | _ + 3 => exact (mixB_any b c d w hb hc hd).mono fun _ _ ⟨a, b⟩ => ⟨a, b.symm⟩
set_option maxRecDepth 100000 in
theorem call_fn (i : Nat) (args : Array Value) (W : World) : (callFunc (fnOf i) args).run Tryd.prog W = .ok (.enter (fnOf i) args) W := by
  match i with
  | 0 => rfl
  | 1 => rfl
  | 2 => rfl
  | _ + 3 => rfl
set_option maxRecDepth 100000 in
theorem stepA (W : Nat → Nat) (n k : Nat) (s : St) (h : n / 20 = k) :
    (((rot 5 s.a : Int) + (mixOf k s.b s.c s.d : Int) + (s.e : Int) + (addOf k : Int)) % 4294967296 + (W n : Int)) % 4294967296 = ((stepS W n s).a : Int) := by
  simp only [stepS, h]
  omega
set_option maxRecDepth 100000 in
theorem size36r (s : St) : (Tryd.prog.info? 90).map (·.size) = some s.row.size := by rw [size36]; rfl
set_option maxRecDepth 100000 in
theorem row_sizes (s t : St) : s.row.size = t.row.size := rfl
set_option maxRecDepth 100000 in
theorem row_one (s : St) : s.row.all (·.oneCell') = true := by simp [St.row, Value.oneCell']
set_option maxRecDepth 100000 in
theorem rule_cells (w : World) (g i : Nat) (hi : i < 4) (h : w.heap[g]? = some (.cells rulesRow 116 (0, 0))) :
    w.cell? ⟨g, i * 3, none⟩ = some (.int .i64 (20 * i + 20 : Nat)) ∧ w.cell? ⟨g, i * 3 + 1, none⟩ = some (.int .u32 (addOf i)) ∧ w.cell? ⟨g, i * 3 + 2, none⟩ = some (.func (.func (fnOf i)) #[] #[]) := by
  refine ⟨?_, ?_, ?_⟩ <;> rw [cell_of_row w g _ _ 116 (0, 0) h] <;> (match i, hi with | 0, _ => rfl | 1, _ => rfl | 2, _ => rfl | 3, _ => rfl)

def comp (m : Nat) (s : St) : Nat := match m with | 0 => s.a | 1 => s.b | 2 => s.c | 3 => s.d | _ => s.e
def setc (m v : Nat) (s : St) : St := match m with | 0 => { s with a := v } | 1 => { s with b := v } | 2 => { s with c := v } | 3 => { s with d := v } | _ => { s with e := v }
def part (s t : St) : Nat → St
  | 0 => s
  | m + 1 => setc m ((comp m (part s t m) + comp m t) % 4294967296) (part s t m)
set_option maxRecDepth 100000 in
theorem part_5 (s t : St) : part s t 5 = addS s t := rfl
set_option maxRecDepth 100000 in
theorem comp_lt (m : Nat) (s : St) (h : s.ok) : comp m s < 4294967296 := by
  obtain ⟨ha, hb, hc, hd, he⟩ := h
  match m with
  | 0 => exact ha
  | 1 => exact hb
  | 2 => exact hc
  | 3 => exact hd
  | _ + 4 => exact he
set_option maxRecDepth 100000 in
theorem setc_ok (m v : Nat) (s : St) (h : s.ok) (hv : v < 4294967296) : (setc m v s).ok := by
  obtain ⟨ha, hb, hc, hd, he⟩ := h
  match m with
  | 0 => exact ⟨hv, hb, hc, hd, he⟩
  | 1 => exact ⟨ha, hv, hc, hd, he⟩
  | 2 => exact ⟨ha, hb, hv, hd, he⟩
  | 3 => exact ⟨ha, hb, hc, hv, he⟩
  | _ + 4 => exact ⟨ha, hb, hc, hd, hv⟩
set_option maxRecDepth 100000 in
theorem part_ok (s t : St) (h : s.ok) (m : Nat) : (part s t m).ok := by
  induction m with
  | zero => exact h
  | succ m ih => exact setc_ok _ _ _ ih (Nat.mod_lt _ (by omega))
set_option maxRecDepth 100000 in
theorem setc_row (m v : Nat) (s : St) (hm : m < 5) : s.row.setIfInBounds m (.int .u32 v) = (setc m v s).row := by
  match m, hm with
  | 0, _ => rfl
  | 1, _ => rfl
  | 2, _ => rfl
  | 3, _ => rfl
  | 4, _ => rfl
set_option maxRecDepth 100000 in
theorem row_comp (w : World) (g m : Nat) (s : St) (hm : m < 5) (h : w.heap[g]? = some (.cells s.row 90 (0, 0))) : w.cell? ⟨g, m, none⟩ = some (.int .u32 (comp m s)) := by
  rw [cell_of_row w g _ _ 90 (0, 0) h]
  match m, hm with
  | 0, _ => rfl
  | 1, _ => rfl
  | 2, _ => rfl
  | 3, _ => rfl
  | 4, _ => rfl
set_option maxRecDepth 100000 in
theorem Inv.cell {w w1 wr : World} {s0 s : St} {cs : Array Value} (h : Inv w w1 s0 cs s wr) (hw : w.heap.size + 2 ≤ w1.heap.size) (m v : Nat) (hm : m < 5) :
    Inv w w1 s0 cs (setc m v s) (wr.setCell ⟨w1.heap.size + 1, m, none⟩ (.int .u32 v)) :=
  ⟨(heap_setCell_other _ _ _ _ (by simp)).trans h.c, by rw [heap_setCell_same wr _ m s.row 90 _ h.s, setc_row m v s hm], (heap_setCell_other _ _ _ _ (by simp)).trans h.r, (heap_setCell_other _ _ _ _ (by simp; omega)).trans h.b,
    (heap_setCell_other _ _ _ _ (by simp; omega)).trans h.e, h.bel.setCell (by simp; omega) _, by have := h.big; simpa [World.setCell] using this⟩
set_option maxRecDepth 100000 in
theorem sum_int (a b : Nat) : (((a : Int) + (b : Int)) % 4294967296) = (((a + b) % 4294967296 : Nat) : Int) := by omega
set_option maxRecDepth 100000 in
theorem res26 (tmps : Array Value) (w : World) (g : Nat) (s : St) (hp : tmps.getD 4 undef = .pointer (some ⟨g, 0, none⟩)) (hg : w.heap[g]? = some (.cells s.row 90 (0, 0))) :
    (results Tryd.f59 tmps).run Tryd.prog w = .ok (.tuple #[.agg s.row, tmps.getD 5 undef]) w := by
  rw [results_cell_tmp Tryd.results59, hp]
  simp only [asAddr, Sem.run_pure, Result.andThen_ok]
  rw [run_loadVar_row (P := Tryd.prog) w g 90 90 s.row (0, 0) _ hg Tryd.underlying90 rfl (size36r s)]
  rfl

set_option maxHeartbeats 2000000 in
set_option maxRecDepth 100000 in
theorem block_any (s0 : St) (A : Option Addr) (c : Nat) (l : List UInt8) (w : World) (hs : s0.ok) (hl : l.length = 64) (hr : Rd w A l) :
    Calls Tryd.prog 59 #[.agg s0.row, .slice A 64 c] w fun e w' => e = .returned (.tuple #[.agg (blockS l s0).row, .int .i64 0]) ∧ Below w.heap.size w w' := by
  have HS := Lib.hid hs
  have HL := Lib.hid hl
  have HR := Lib.hid hr
  clear hs hl hr
  unfold St.row
  go_enter Tryd.func59, Tryd.ntmps59
  go_wp2_with fail
  refine (spread_any A c l _ HL.out (HR.out.below (Below.two w _ _))).mono ?_
  rintro e w1 ⟨rfl, hb1⟩
  have hb0 : Below w.heap.size w w1 := (Below.two w _ _).trans (hb1.mono (by simp; omega))
  have hbox : w1.heap[w.heap.size]? = some (.cells s0.row 90 (0, 0)) := (hb1.block w.heap.size (by simp; omega)).trans (heap_alloc2_old _ _ _)
  have hres : w1.heap[w.heap.size + 1]? = some (.cells (St.row ⟨0, 0, 0, 0, 0⟩) 90 (0, 0)) := (hb1.block (w.heap.size + 1) (by simp)).trans (heap_alloc2_new _ _ _)
  have hsz1 : w.heap.size + 2 ≤ w1.heap.size := by have := hb1.size; simp at this; omega
  obtain ⟨x0, x1, x2, x3, x4⟩ := row36 w1 _ s0 hbox
  have HB := Lib.hid hbox
  have HE := Lib.hid hres
  clear hbox hres hb1
  have k1 := wRow_size l
  have k2 := wRow_one l
  have k3 := wRow_at l
  have e0 : ((sch l 80).map u32v).toArray = wRow l := rfl
  rw [e0]
  clear e0
  generalize wRow l = cs at *
  have K3 := Lib.hid k3
  clear k3
  have hz : Tryd.zeroCells110.size = cs.size := by rw [k1, zero49]; simp
  have hi : (Tryd.prog.info? 110).map (·.size) = some cs.size := by rw [size49, k1]
  have KZ := Lib.hid hz
  have KI := Lib.hid hi
  have K1 := Lib.hid k1
  have K2 := Lib.hid k2
  clear hz hi k1 k2
  go_wp2_with (first
    | (refine wpList_store_row rfl 110 (.tmp 6) (.tmp 18) rfl w1.heap.size cs rfl rfl 110 _ (heap_alloc_new w1 _) KI.out KZ.out K2.out ?_; rw [World.setRow_alloc_new])
    | (refine wpList_load_row rfl 90 (.tmp 2) rfl w.heap.size rfl 90 #[.int .u32 s0.a, .int .u32 s0.b, .int .u32 s0.c, .int .u32 s0.d, .int .u32 s0.e] (0, 0) _ ((heap_alloc_old w1 _ (by omega)).trans HB.out) Tryd.underlying90 rfl (by rw [size36]; rfl) ?_)
    | (go_at_call 68; refine (rules_any _).mono ?_; rintro e w2 ⟨rfl, rfl⟩))
  go_loopw [8, 22] (fun t i wr => ∃ (k : Nat) (s : St), k ≤ 4 ∧ i = .int .i64 k ∧ t = .int .i64 (20 * k : Nat) ∧ Hid (s = roundsS (wAt l) (20 * k) s0) ∧ s.ok ∧ Inv w w1 s0 cs s wr) (fun _ i _ => 4 - (intOf i).toNat)
  case atStart => exact ⟨0, s0, by omega, rfl, rfl, rfl, HS.out, Inv.start hsz1 HB.out HE.out hb0⟩
  case round =>
    obtain ⟨k, s, hk, rfl, rfl, HN, hok, hinv⟩ := hrel
    by_cases hlt : k < 4
    · obtain ⟨r0, r1, r2⟩ := rule_cells wr _ k hlt hinv.r
      have hbig := hinv.big
      have HI := Lib.hid hinv
      clear hinv
      have hd : decide ((k : Int) < 4) = true := by simp; omega
      go_wp2
      obtain ⟨wo, rfl⟩ : ∃ wo : World, wo = wr := ⟨_, rfl⟩
      go_loopw [8] (fun t wq => ∃ (n : Nat) (s : St), 20 * k ≤ n ∧ n ≤ 20 * k + 20 ∧ t = .int .i64 n ∧ Hid (s = roundsS (wAt l) n s0) ∧ s.ok ∧ Inv w w1 s0 cs s wq ∧ wq.heap[wo.heap.size]? = some (.cells #[.int .i64 (20 * k + 20), .int .u32 (addOf k), .func (.func (fnOf k)) #[] #[]] 116 (0, 0))) (fun t _ => 20 * k + 20 - (intOf t).toNat)
      case atStart => exact ⟨20 * k, s, by omega, by omega, rfl, HN, hok, HI.out.alloc hsz1 _, heap_alloc_new _ _⟩
      case round =>
        clear HI HN hok r0 r1 r2
        obtain ⟨n, s, hn, hn', rfl, HN, hok, hinv, hrule⟩ := hrel
        have q0 : wr.cell? ⟨wo.heap.size, 0, none⟩ = some (.int .i64 (20 * k + 20)) := by rw [cell_of_row wr _ _ _ 116 (0, 0) hrule]; rfl
        have q1 : wr.cell? ⟨wo.heap.size, 1, none⟩ = some (.int .u32 (addOf k)) := by rw [cell_of_row wr _ _ _ 116 (0, 0) hrule]; rfl
        have q2 : wr.cell? ⟨wo.heap.size, 2, none⟩ = some (.func (.func (fnOf k)) #[] #[]) := by rw [cell_of_row wr _ _ _ 116 (0, 0) hrule]; rfl
        by_cases hlt2 : n < 20 * k + 20
        · obtain ⟨y0, y1, y2, y3, y4⟩ := row36 wr _ s hinv.s
          have hn80 : n < 80 := by omega
          have hw : wr.cell? ⟨w1.heap.size, n, none⟩ = some (.int .u32 (wAt l n)) := (cell_of_row wr _ n _ 110 (0, 0) hinv.c).trans (K3.out n hn80)
          have HI := Lib.hid hinv
          have HU := Lib.hid hrule
          clear hinv hrule
          obtain ⟨oa, ob, oc, od, oe⟩ := hok
          have hcf := call_fn k
          go_wp2
          go_quiet ((first | (go_at_call 69; exact Calls.quiet_of_same ((rot5_any s.a _ oa).mono fun _ _ ⟨a, b⟩ => ⟨a, b.symm⟩)) | exact Calls.quiet_of_same (mix_any k s.b s.c s.d _ ob oc od)))
          have hq : n / 20 = k := by omega
          rw [stepA (wAt l) n k s hq]
          have HQ := Lib.hid hq
          clear hq hcf
          go_wp2
          have z0 : (wr.drewN nq).cell? ⟨w1.heap.size + 1, 0, none⟩ = some (.int .u32 s.a) := y0
          have z1 : (wr.drewN nq).cell? ⟨w1.heap.size + 1, 1, none⟩ = some (.int .u32 s.b) := y1
          have z2 : (wr.drewN nq).cell? ⟨w1.heap.size + 1, 2, none⟩ = some (.int .u32 s.c) := y2
          have z3 : (wr.drewN nq).cell? ⟨w1.heap.size + 1, 3, none⟩ = some (.int .u32 s.d) := y3
          have HIx := Lib.hid (HI.out.drewN nq)
          have HUx : Hid ((wr.drewN nq).heap[wo.heap.size]? = some (.cells #[.int .i64 (20 * k + 20), .int .u32 (addOf k), .func (.func (fnOf k)) #[] #[]] 116 (0, 0))) := HU
          clear y0 y1 y2 y3 y4 q0 q1 q2 hw HI HU
          generalize wr.drewN nq = wx at *
          go_still_tail 11, (by kernel_rfl)
          still_call ((rot30_any s.b _ ob).mono fun _ _ ⟨a, b⟩ => ⟨a, b.symm⟩)
          repeat still_step
          refine wpStill_nil ?_
          change wpList _ _ _ _ _ wx.drew
          refine wpList_store_row rfl 90 (.tmp 7) (.tmp 65) rfl (w1.heap.size + 1) (stepS (wAt l) n s).row rfl rfl 90 s.row HIx.out.s (size36r _) (row_sizes _ _) (row_one _) ?_
          go_wp2
          go_roundw
          case rel =>
            refine ⟨n + 1, stepS (wAt l) n s, by omega, by omega, by go_num, ?_, stepS_ok _ _ _ ⟨oa, ob, oc, od, oe⟩, (HIx.out.drewN 1).put hsz1 _, (heap_setRow_other _ _ _ _ ?_).trans HUx.out⟩
            · show _ = roundsS _ (n + 1) _
              rw [roundsS, ← HN.out]
            · omega
          case measure => simp [intOf]; omega
        · have HI := Lib.hid hinv
          clear hinv
          go_wp2
          go_roundw
          case rel =>
            obtain rfl : n = 20 * k + 20 := by omega
            exact ⟨k + 1, s, by omega, by go_num, by go_num, HN, hok, HI.out⟩
          case measure => simp [intOf]; omega
    · have HN4 : Hid (s = roundsS (wAt l) 80 s0) := by
        obtain rfl : k = 4 := by omega
        exact HN
      have HI := Lib.hid hinv
      clear hinv HN
      have hd : decide ((k : Int) < 4) = false := by simp; omega
      go_wp2
      obtain ⟨wo, rfl⟩ : ∃ wo : World, wo = wr := ⟨_, rfl⟩
      go_loopw [67] (fun i wr => ∃ m : Nat, m ≤ 5 ∧ i = .int .i64 m ∧ Inv w w1 s0 cs (part s s0 m) wr) (fun i _ => 5 - (intOf i).toNat)
      case atStart => exact ⟨0, by omega, rfl, HI.out⟩
      case round =>
        clear HI
        obtain ⟨m, hm, rfl, hinv⟩ := hrel
        by_cases hlt5 : m < 5
        · have g1 := row_comp wr _ m _ hlt5 hinv.s
          have g2 := row_comp wr _ m _ hlt5 hinv.b
          have b1 := comp_lt m _ (part_ok s s0 hok m)
          have b2 := comp_lt m s0 HS.out
          have f1 : wr.frozen? ⟨w1.heap.size + 1, m, none⟩ = false := frozen_of_row wr _ m _ 90 hinv.s
          have HI := Lib.hid hinv
          have HV := Lib.hid (sum_int (comp m (part s s0 m)) (comp m s0))
          clear hinv
          go_wp2
          go_region
          go_wp2
          go_roundw
          case rel =>
            rw [HV.out]
            exact ⟨m + 1, by omega, by go_num, (HI.out.cell hsz1 m _ hlt5).drewN 1⟩
          case measure => simp [intOf]; omega
        · have hs5 : (part s s0 m) = addS s s0 := by
            obtain rfl : m = 5 := by omega
            exact part_5 s s0
          rw [hs5] at hinv
          have HA : Hid (blockS l s0 = addS s s0) := by rw [HN4.out]; rfl
          clear hs5
          have hrow : (wr.setRow (w.heap.size + 1) (addS s s0).row).heap[w.heap.size + 1]? = some (.cells (addS s s0).row 90 (0, 0)) := setRow_heap wr _ _ _ 90 (0, 0) hinv.e
          have hbelow : Below w.heap.size w (wr.setRow (w.heap.size + 1) (addS s s0).row) := below_setRow hinv.bel (by omega) _
          have hI1 := hinv.s
          have hI2 := hinv.e
          have HI1 := Lib.hid hI1
          have HI2 := Lib.hid hI2
          have HR1 := Lib.hid hrow
          clear hinv hI1 hI2 hrow
          go_wp2_with (first
            | (refine wpList_load_row rfl 90 (.tmp 7) rfl (w1.heap.size + 1) rfl 90 (addS s s0).row (0, 0) _ HI1.out Tryd.underlying90 rfl (size36r _) ?_)
            | (refine wpList_store_row rfl 90 (.tmp 4) (.tmp 79) rfl (w.heap.size + 1) (addS s s0).row rfl rfl 90 _ HI2.out (size36r _) (row_sizes _ _) (row_one _) ?_))
          refine bodyPost_ret (v := .tuple #[.agg (addS s s0).row, .int .i64 0]) (res26 _ _ (w.heap.size + 1) (addS s s0) rfl HR1.out) rfl ⟨?_, hbelow⟩
          rw [HA.out]; rfl
end Go.Proofs.YtpomaabkgbaikaaDoor.Dg
