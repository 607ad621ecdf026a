/- Proved here: 'taborlaw04.RespReads' returns true for any list of pieces. Conditions: those of the given card (the three listed tables hold what the program's text lays; nothing else). -/
import Derived.Test.YtglicojojpggmaaDoorMaA
import Derived.Test.YtglicojojpggmaaDoorRParse
import Derived.Test.YtglicojojpggmaaDoorCopy
import Derived.Test.YtglicojojpggmaaDoorRdr
import Derived.Deep.Upon
import Derived.Test.YtglicojojpggmaaDoorFrame
import Derived.Test.YtglicojojpggmaaDoorStrs
import Derived.Deep.Slices
import Derived.Test.YtglicojojpggmaaDoorWorks
namespace Go.Proofs.YtglicojojpggmaaDoor
open Go Go.RowKit
/-- The requests that bytes begin with, what is left behind them, and how that ends. -/
def toldF : Nat → List UInt8 → List (List ByteArray) × List UInt8 × Int
  | 0, l => ([], l, 130)
  | f + 1, l => if (parseR l).1 = 0 then ((parseR l).2.1 :: (toldF f (l.drop (parseR l).2.2)).1, (toldF f (l.drop (parseR l).2.2)).2) else ([], l, (parseR l).1)
theorem parse_fit {l : List UInt8} (h : (parseR l).1 = 0) : 1 ≤ (parseR l).2.2 ∧ (parseR l).2.2 ≤ l.length := by
  have h2 := parse_laid (Prod.ext h rfl : parseR l = (0, (parseR l).2.1, (parseR l).2.2))
  exact ⟨h2.2.1, h2.2.2.1⟩
theorem drop_less {l : List UInt8} (h : (parseR l).1 = 0) : (l.drop (parseR l).2.2).length < l.length := by
  have h2 := parse_fit h
  rw [List.length_drop]
  omega
theorem toldF_fuel : ∀ (f g : Nat) (l : List UInt8), l.length < f → l.length < g → toldF f l = toldF g l
  | 0, _, l, h, _ => absurd h (by omega)
  | _ + 1, 0, l, _, h => absurd h (by omega)
  | f + 1, g + 1, l, hf, hg => by
    rw [toldF, toldF]
    by_cases h : (parseR l).1 = 0
    · have hl := drop_less h
      rw [if_pos h, if_pos h, toldF_fuel f g _ (by omega) (by omega)]
    · rw [if_neg h, if_neg h]
def toldR (l : List UInt8) : List (List ByteArray) × List UInt8 × Int := toldF (l.length + 1) l
theorem toldR_zero {l : List UInt8} (h : (parseR l).1 = 0) : toldR l = ((parseR l).2.1 :: (toldR (l.drop (parseR l).2.2)).1, (toldR (l.drop (parseR l).2.2)).2) := by
  have hl := drop_less h
  unfold toldR
  rw [toldF, if_pos h, toldF_fuel l.length ((l.drop (parseR l).2.2).length + 1) _ hl (by omega)]
theorem toldR_end {l : List UInt8} (h : (parseR l).1 ≠ 0) : toldR l = ([], l, (parseR l).1) := by
  unfold toldR
  rw [toldF, if_neg h]
/-- How it ends. -/
theorem toldR_bad : ∀ (k : Nat) (l : List UInt8), l.length < k → ((toldR l).2.2 = 130 ∨ (toldR l).2.2 = 131) ∧ (parseR (toldR l).2.1).1 = (toldR l).2.2 ∧ (toldR l).2.1.length ≤ l.length
  | 0, l, h => absurd h (by omega)
  | k + 1, l, h => by
    by_cases h1 : (parseR l).1 = 0
    · have hl := drop_less h1
      rw [toldR_zero h1]
      have h2 := toldR_bad k (l.drop (parseR l).2.2) (by omega)
      exact ⟨h2.1, h2.2.1, by have := h2.2.2; show (toldR (l.drop (parseR l).2.2)).2.1.length ≤ _; omega⟩
    · rw [toldR_end h1]
      exact ⟨(parse_only h1).1, rfl, Nat.le_refl _⟩
/-- What more bytes tell: what was read stays read. -/
theorem toldR_more (m : List UInt8) : ∀ (k : Nat) (l : List UInt8), l.length < k → toldR (l ++ m) = if (toldR l).2.2 = 130 then ((toldR l).1 ++ (toldR ((toldR l).2.1 ++ m)).1, (toldR ((toldR l).2.1 ++ m)).2) else ((toldR l).1, (toldR l).2.1 ++ m, (toldR l).2.2)
  | 0, l, h => absurd h (by omega)
  | k + 1, l, h => by
    by_cases h1 : (parseR l).1 = 0
    · have hl := drop_less h1
      have h0 := parse_fit h1
      have hm := parseR_mono (l := l) m (by rw [h1]; decide)
      have h3 : (parseR (l ++ m)).1 = 0 := by rw [hm]; exact h1
      have h2 := toldR_more m k (l.drop (parseR l).2.2) (by omega)
      rw [toldR_zero h3, toldR_zero h1, hm, List.drop_append_of_le_length h0.2, h2]
      by_cases h4 : (toldR (l.drop (parseR l).2.2)).2.2 = 130
      · rw [if_pos h4, if_pos h4]
        rfl
      · rw [if_neg h4, if_neg h4]
    · rw [toldR_end h1]
      by_cases h4 : (parseR l).1 = 130
      · rw [if_pos h4]
        rfl
      · rw [if_neg h4]
        have hm := parseR_mono (l := l) m h4
        rw [toldR_end (by rw [hm]; exact h1), hm]
end Go.Proofs.YtglicojojpggmaaDoor
namespace Go.Proofs.YtglicojojpggmaaDoor
open Go Go.RowKit
/-- A request that was read: the slice, its texts. -/
structure TItem where
  v : Value
  ls : List ByteArray
def tOk (B : Nat) (x : TItem) (W : World) : Prop := W.ownsRow B 9 1 x.v x.ls.length (cellsS x.ls)
/-- What holds between two rounds. -/
structure TRows (w : World) (pre : List TItem) (v : Value) (W : World) : Prop where
  own : W.ownsRow w.heap.size 22 1 v pre.length (pre.map TItem.v)
  items : ∀ x ∈ pre, tOk w.heap.size x W
  below : Below w.heap.size w W
theorem slice_info : (Tryd.prog.info? 22).map (fun i => (i.zero, i.size, i.bytes)) = some (some (.slice none 0 0), 1, 24) := by kernel_rfl
theorem trows_step {w W W3 W4 : World} {pre : List TItem} {x : TItem} {v v' : Value} (h : TRows w pre v W) (hb : Below W.heap.size W W3) (hx : W3.ownsRow W.heap.size 9 1 x.v x.ls.length (cellsS x.ls))
    (ho4 : W4.ownsRow w.heap.size 22 1 v' (pre.length + 1) (pre.map TItem.v ++ [x.v])) (hg4 : (W3.alloc (.cells #[x.v] 22)).grownBy W4 v.ownBlock) : TRows w (pre ++ [x]) v' W4 := by
  obtain ⟨h1, h2, h3⟩ := h
  have hs := h3.size
  have o3 := own_below h1 hb
  have ne : ∀ y : TItem, tOk w.heap.size y W3 → y.v.ownBlock = none ∨ y.v.ownBlock ≠ v.ownBlock := by
    intro y hy
    rcases hy.2 with ⟨e, _⟩ | ⟨g, cap, cur, e, hb, hgg, _⟩
    · left; rw [e]; rfl
    · right
      rw [e]
      rcases o3.2 with ⟨e2, _⟩ | ⟨g2, cap2, cur2, e2, hb2, hgg2, _⟩
      · rw [e2]; simp [Value.ownBlock]
      · rw [e2]
        simp only [Value.ownBlock, ne_eq, Option.some.injEq]
        rintro rfl
        rw [hgg] at hgg2
        cases hgg2
  refine ⟨?_, fun y hy => ?_, ?_⟩
  · rw [List.length_append, List.map_append]; exact ho4
  · have key : ∀ y : TItem, tOk w.heap.size y W3 → tOk w.heap.size y W4 := fun y hy => World.ownsRow.kept (w := W3.alloc (.cells #[x.v] 22)) (hy.alloc _) hg4 (ne y hy)
    rcases List.mem_append.1 hy with hy | hy
    · exact key y (own_below (h2 y hy) hb)
    · obtain rfl : y = x := by simpa using hy
      exact key y (own_down hx hs)
  · exact ((h3.trans (hb.mono hs)).alloc (Nat.le_trans hs hb.size) (.cells #[x.v] 22)).grown hg4 (by simp; have := hb.size; omega) (fun k hk => (o3.lt k hk).1)
/-- What is told. -/
def ToldQ (w : World) (R : List (List ByteArray) × List UInt8 × Int) (e : Ending) (w' : World) : Prop :=
  ∃ (V : Value) (xs : List TItem), e = .returned (.tuple #[V, .int .i64 R.2.2]) ∧ xs.map TItem.ls = R.1 ∧ w'.ownsRow w.heap.size 22 1 V xs.length (xs.map TItem.v) ∧ (∀ x ∈ xs, tOk w.heap.size x w') ∧ Below w.heap.size w w'
theorem toldR_count : ∀ (k : Nat) (l : List UInt8), l.length < k → (toldR l).1.length ≤ l.length
  | 0, l, h => absurd h (by omega)
  | k + 1, l, h => by
    by_cases h1 : (parseR l).1 = 0
    · have hl := drop_less h1
      rw [toldR_zero h1]
      have h2 := toldR_count k (l.drop (parseR l).2.2) (by omega)
      rw [List.length_cons]
      omega
    · rw [toldR_end h1]
      exact Nat.zero_le _
theorem bl_extract (b : ByteArray) (p : Nat) : bl (b.extract p b.size) = (bl b).drop p := by
  rw [bl, ByteArray.data_extract, Array.toList_extract, List.extract_eq_take_drop, List.take_of_length_le]
  rw [List.length_drop, Array.length_toList]
  exact Nat.le_refl _
set_option maxRecDepth 100000 in
set_option maxHeartbeats 4000000 in
theorem told_any (b : ByteArray) (w : World) (hm : b.size ≤ 1000000) : Calls Tryd.prog 31 #[.string b] w (ToldQ w (toldR (bl b))) := by
  obtain ⟨i0, hi, hz0, hz1, hz2⟩ := info_parts slice_info
  go_enter Tryd.func31, Tryd.ntmps31
  go_wp2_with fail
  go_loopw [0, 4] (fun t v wr => ∃ (u : ByteArray) (xs : List TItem), t = .string u ∧ u.size + xs.length ≤ b.size ∧ Hid (toldR (bl b) = (xs.map TItem.ls ++ (toldR (bl u)).1, (toldR (bl u)).2)) ∧ Hid (TRows w xs v wr)) (fun t _ _ => match t with | .string u => u.size | _ => 0)
  case atStart => exact ⟨b, [], rfl, by simp, by simp [Hid], Lib.hid ⟨World.ownsRow_nil _ _ _ _, (fun x hx => by cases hx), Below.refl _ _⟩⟩
  case round =>
    obtain ⟨u, xs, rfl, hsz, HT, HI⟩ := hrel
    have HP := Lib.hid (rparse_any u wr (by omega))
    obtain ⟨R, hR⟩ : ∃ R, parseR (bl u) = R := ⟨_, rfl⟩
    rw [hR] at HP
    have HR := Lib.hid hR
    obtain ⟨e1, ls, p⟩ := R
    clear hR
    by_cases he : e1 = 0
    · subst he
      have hf := parse_fit (l := bl u) (by rw [HR.out])
      have hs := toldR_zero (l := bl u) (by rw [HR.out])
      rw [HR.out] at hf hs
      simp only at hf hs
      have hp2 : p ≤ u.size := by rw [← bl_len]; exact hf.2
      have hp1 : 1 ≤ p := hf.1
      have HS := Lib.hid hs
      clear hf hs
      go_wp2_with fail
      refine HP.out.mono ?_
      rintro e w2 ⟨v2, rfl, hown, hbel⟩
      obtain ⟨A2, c2, rfl, _⟩ := own_rdV hown
      have HO := Lib.hid hown
      have HB := Lib.hid hbel
      have hs2 := hbel.size
      clear hown hbel HP
      go_wp2_with (at_builtin; refine wpList_append_own _ rfl (.tmp 18) (.tmp 20) 57 rfl w.heap.size 22 i0 _ 1 24 Tryd.underlying57 hi hz0 hz1 hz2 rfl (by omega) u4 xs.length (xs.map TItem.v) rfl ((own_below HI.out.own HB.out).alloc _) ⟨w2.heap.size, 0, none⟩ 1 1 [.slice A2 ls.length c2] rfl rfl (World.news_of_block (cs := #[.slice A2 ls.length c2]) (t := 22) (fr := (0, 0)) (heap_alloc_new w2 _)) (by simp [Value.oneCell']) (by simp only [maxLen]; omega) (by omega) (by simp; have := HI.out.below.size; omega) ?_; intro v7 w7 ho7 hg7 _)
      have H7 := Lib.hid (trows_step (x := ⟨.slice A2 ls.length c2, ls⟩) HI.out HB.out HO.out ho7 hg7)
      clear ho7 hg7
      go_roundw
      case rel =>
        refine ⟨u.extract p u.size, xs ++ [⟨.slice A2 ls.length c2, ls⟩], rfl, ?_, ?_, H7⟩
        · rw [ByteArray.size_extract, List.length_append]
          simp
          omega
        · show _ = _
          rw [HT.out, HS.out, bl_extract]
          simp
      case measure => simp [ByteArray.size_extract]; omega
    · have hs := toldR_end (l := bl u) (by rw [HR.out]; exact he)
      rw [HR.out] at hs
      simp only at hs
      have hE1 : ((e1 : Int) != 0) = true := by simpa using he
      have HE : Hid (toldR (bl b) = (xs.map TItem.ls, bl u, _)) := Lib.hid (by rw [HT.out, hs, List.append_nil])
      clear hs he
      go_wp2_with fail
      refine HP.out.mono ?_
      rintro e w2 ⟨v2, rfl, hown, hbel⟩
      have HB := Lib.hid hbel
      clear hown hbel HP
      go_wp2_with fail
      go_ret2
      exact ⟨_, xs, by rw [HE.out]; rfl, by rw [HE.out], own_below HI.out.own HB.out, fun x hx => own_below (HI.out.items x hx) HB.out, HI.out.below.trans (HB.out.mono HI.out.below.size)⟩
end Go.Proofs.YtglicojojpggmaaDoor
namespace Go.Proofs.YtglicojojpggmaaDoor
open Go Go.RowKit
/-- A reader whose array is its own: none of its blocks lies below the base. -/
structure BR (base : Nat) (W : World) (G : Nat) (A : Option Addr) (n c : Nat) (l : List UInt8) : Prop where
  nr : NR W G false A n c l
  bg : base ≤ G
  own : ∃ b off, Came W 1 A b off n c (cellsB l) ∧ (0 < c → base ≤ b ∧ b ≠ G)
/-- Blocks below the base are as they were. -/
theorem nr_cells {W : World} {G : Nat} {bad : Bool} {A : Option Addr} {n c : Nat} {l : List UInt8} (h : NR W G bad A n c l) : G < W.heap.size := lt_of_block h.z
theorem BR.first (base : Nat) (w : World) (hb : base ≤ w.heap.size) : BR base (w.alloc (.cells #[.bool true, .bool false, .slice none 0 0] 105)) w.heap.size none 0 0 [] :=
  ⟨newR_nr w, hb, 0, 0, ⟨Nat.le_refl _, fun h => absurd h (by omega), fun h => absurd h (by omega), by simp [cellsB], fun j u h => by simp [cellsB] at h, fun j h => by omega⟩, fun h => absurd h (by omega)⟩
section
variable {base : Nat} {W W' : World} {G : Nat} {A : Option Addr} {n c : Nat} {l : List UInt8}
theorem came_below {size : Nat} {ao : Option Addr} {b off len cap : Nat} {olds : List Value} (h : Came W size ao b off len cap olds) (hl : olds.length ≤ cap * size) (hb : 0 < cap → W.heap.size ≤ W'.heap.size ∧ W'.heap[b]? = W.heap[b]?) : Came W' size ao b off len cap olds := by
  refine ⟨h.le, h.addr, fun h0 => Nat.lt_of_lt_of_le (h.lt h0) (hb h0).1, h.oldsLen, fun j u hu => ?_, fun j hj => ?_⟩
  · have h0 : 0 < cap := by
      have := (List.getElem?_eq_some_iff.1 hu).1
      rcases Nat.eq_zero_or_pos cap with h0 | h0
      · subst h0; simp at hl; subst hl; simp at hu
      · exact h0
    exact (World.cell?_of_block (a := ⟨b, off + j, none⟩) (hb h0).2).trans (h.olds j u hu)
  · have h0 : 0 < cap := by
      rcases Nat.eq_zero_or_pos cap with h0 | h0
      · subst h0; simp at hj
      · exact h0
    have e := (hb h0).2
    exact ⟨by rw [World.cell?_of_block (a := ⟨b, off + len * size + j, none⟩) e]; exact (h.spare j hj).1, by rw [World.frozen?_of_block (a := ⟨b, off + len * size + j, none⟩) e]; exact (h.spare j hj).2⟩
/-- What else is turned does not matter. -/
theorem BR.stay (h : BR base W G A n c l) (hs : W.heap.size ≤ W'.heap.size) (hk : ∀ k, base ≤ k → (k = G ∨ ∃ ad, A = some ad ∧ ad.block = k) → W'.heap[k]? = W.heap[k]?) : BR base W' G A n c l := by
  obtain ⟨b, off, hc, hb⟩ := h.own
  have hadr : 0 < c → ∃ ad, A = some ad ∧ ad.block = b := fun h0 => ⟨_, hc.addr h0, rfl⟩
  have hlen := h.nr.len
  have hcap := h.nr.cap
  refine ⟨⟨(hk G h.bg (.inl rfl)).trans h.nr.z, fun h0 => ?_, h.nr.len, h.nr.cap, h.nr.nil, fun ad e => ⟨(h.nr.ne ad e).1, Nat.lt_of_lt_of_le (h.nr.ne ad e).2 hs⟩⟩, h.bg, b, off, came_below hc (by rw [cellsB_len]; omega) (fun h0 => ⟨hs, hk b (hb h0).1 (.inr (hadr h0))⟩), hb⟩
  obtain ⟨g, o, e, hlt, hcell⟩ := h.nr.rd h0
  have h00 : 0 < c := by omega
  obtain ⟨ad, e2, e3⟩ := hadr h00
  have hg : g = b := by rw [e] at e2; cases e2; exact e3
  subst hg
  exact ⟨g, o, e, Nat.lt_of_lt_of_le hlt hs, fun j hj => (World.cell?_of_block (a := ⟨g, o + j, none⟩) (hk g (hb h00).1 (.inr ⟨ad, e2, e3⟩))).trans (hcell j hj)⟩
theorem BR.below (h : BR base W G A n c l) (hb : Below W.heap.size W W') : BR base W' G A n c l := by
  obtain ⟨b, off, hc, hn⟩ := h.own
  refine h.stay hb.size (fun k hk hx => hb.block k ?_)
  rcases hx with rfl | ⟨ad, e, rfl⟩
  · exact nr_cells h.nr
  · exact (h.nr.ne ad e).2
theorem came_sub {w : World} {b off : Nat} {olds : List Value} (h : Came w 1 A b off n c olds) (k : Nat) (hk : k ≤ n) : Came w 1 (subA A k c) b (off + k) (n - k) (c - k) (olds.drop k) := by
  have hle := h.le
  refine ⟨by omega, fun h0 => ?_, fun h0 => h.lt (by omega), by rw [List.length_drop, h.oldsLen]; omega, fun j u hu => ?_, fun j hj => ?_⟩
  · rw [h.addr (by omega)]
    unfold subA
    rw [if_neg (by omega)]
    simp [addoff]
  · rw [List.getElem?_drop] at hu
    have := h.olds (k + j) u hu
    rwa [← Nat.add_assoc] at this
  · have := h.spare j (by omega)
    rwa [show off + n * 1 + j = off + k + (n - k) * 1 + j by omega] at this
theorem came_set {w : World} {b off : Nat} {olds : List Value} (h : Came w 1 A b off n c olds) (hl : olds.length ≤ c) (p : Addr) (u : Value) (hp : 0 < c → p.block ≠ b) : Came (w.setCell p u) 1 A b off n c olds :=
  came_below h (by omega) (fun h0 => ⟨by simp [World.setCell], Below.heap_setCell w p u b (fun e => hp h0 e.symm)⟩)
/-- The bytes from a place on. -/
theorem BR.sub {W : World} (h : BR base W G A n c l) (k : Nat) (hk : k ≤ n) : BR base (W.setCell ⟨G, 2, none⟩ (.slice (subA A k c) (n - k) (c - k))) G (subA A k c) (n - k) (c - k) (l.drop k) := by
  obtain ⟨b, off, hc, hb⟩ := h.own
  have hlen := h.nr.len
  have hcap := h.nr.cap
  refine ⟨h.nr.sub k hk, h.bg, b, off + k, ?_, fun h0 => hb (by omega)⟩
  have h2 := came_set (came_sub hc k hk) (by rw [List.length_drop, cellsB_len]; omega) ⟨G, 2, none⟩ (.slice (subA A k c) (n - k) (c - k)) (fun h0 e => (hb (by omega)).2 e.symm)
  rwa [cellsB, ← List.map_drop] at h2
/-- Where a reader's array lies. -/
def Lies (A A' : Option Addr) (B : Nat) : Prop := ∀ ad, A' = some ad → (∃ ad0, A = some ad0 ∧ ad0.block = ad.block) ∨ B ≤ ad.block
/-- Some blocks were turned. -/
structure Turn (S : Nat → Prop) (w w' : World) : Prop where
  os : w'.os = w.os
  tape : w'.tape = w.tape
  output : w'.output = w.output
  size : w.heap.size ≤ w'.heap.size
  block : ∀ k, k < w.heap.size → ¬ S k → w'.heap[k]? = w.heap[k]?
theorem Turn.trans {S : Nat → Prop} {a b c : World} (h : Turn S a b) (k : Turn S b c) : Turn S a c :=
  ⟨k.os.trans h.os, k.tape.trans h.tape, k.output.trans h.output, Nat.le_trans h.size k.size, fun j hj hn => (k.block j (Nat.lt_of_lt_of_le hj h.size) hn).trans (h.block j hj hn)⟩
theorem Turn.below {S : Nat → Prop} {B : Nat} {w w' : World} (h : Turn S w w') (hS : ∀ k, k < B → ¬ S k) (hB : B ≤ w.heap.size) : Below B w w' :=
  ⟨h.os, h.tape, h.output, h.size, fun k hk => h.block k (by omega) (hS k hk)⟩
theorem newer (w : World) (o : Obj) : w.heap.size < (w.drew.alloc o).heap.size := by
  show w.drew.heap.size < _
  simp
theorem tape_setCells (g : Nat) : ∀ (vs : List Value) (o : Nat) (w : World), (w.setCells g o vs).tape = w.tape
  | [], _, _ => rfl
  | v :: r, o, w => by rw [World.setCells, tape_setCells g r]; rfl
theorem size_setCells (g : Nat) : ∀ (vs : List Value) (o : Nat) (w : World), (w.setCells g o vs).heap.size = w.heap.size
  | [], _, _ => rfl
  | v :: r, o, w => by rw [World.setCells, size_setCells g r]; simp [World.setCell]
/-- Bytes that are put behind those of an array of one's own. -/
theorem run_feed (ty : TypeId) {w : World} {b off : Nat} (hc : Came w 1 A b off n c (cellsB l)) (hl : l.length = n) (hA0 : A = none → c = 0) (B : Option Addr) (m d : Nat) (bs : List UInt8) (hb : bs.length = m) (hr : Rd w B bs) (hn : B = none → d = 0) (hd : m ≤ d) (hm : n + m ≤ 100000000) :
    ∃ A' c' w' b' off', (Builtin.append_ #[25, 25] ty #[.slice A n c, .slice B m d]).run Tryd.prog w = .ok (.slice A' (n + m) c') w' ∧ Came w' 1 A' b' off' (n + m) c' (cellsB (l ++ bs)) ∧ (A' = none → c' = 0) ∧ (0 < c' → (0 < c ∧ b' = b) ∨ w.heap.size ≤ b') ∧ (∀ ad, A' = some ad → (∃ ad0, A = some ad0 ∧ ad0.block = ad.block) ∨ (w.heap.size ≤ ad.block ∧ ad.block < w'.heap.size)) ∧ Turn (fun k => 0 < c ∧ k = b) w w' := by
  obtain ⟨i0, hi, hz0, hz1, hz2⟩ := info_parts u8_info
  have hol := hc.oldsLen
  have hle := hc.le
  have hs : Src Tryd.prog i0.size 25 (.slice B m d) m (cellsB bs) w := by
    rw [hz1]
    cases B with
    | none =>
      have hd0 := hn rfl
      obtain rfl : m = 0 := by omega
      obtain rfl : bs = [] := List.eq_nil_of_length_eq_zero hb
      exact Src.ofNil w Tryd.underlying25 d
    | some ad => exact Src.ofSlice w Tryd.underlying25 ad m d (cellsB bs) (by rw [cellsB_len, hb, Nat.mul_one]) hr.rdV.news (cellsB_one bs)
  have hbl : (cellsB bs).length = m := by rw [cellsB_len, hb]
  by_cases hfit : n + m ≤ c
  · rcases Nat.eq_zero_or_pos c with h0 | hcp
    · subst h0
      obtain rfl : n = 0 := by omega
      obtain rfl : m = 0 := by omega
      obtain rfl : bs = [] := List.eq_nil_of_length_eq_zero hb
      refine ⟨A, 0, w, b, off, run_append_nothing w 25 25 ty 5 i0 Tryd.underlying25 hi A 0 0 (Nat.le_refl _) _ hs, by simpa using hc, hA0, fun h => absurd h (by omega), fun ad e => .inl ⟨ad, e, rfl⟩, ⟨rfl, rfl, rfl, Nat.le_refl _, fun _ _ _ => rfl⟩⟩
    · have hao := hc.addr hcp
      subst hao
      have hsome : ∀ j, j < (cellsB bs).length → (w.cell? ⟨b, off + n * i0.size + j, none⟩).isSome = true := fun j hj => by
        rw [hz1]; exact (hc.spare j (by omega)).1
      have hfr : ∀ j, j < (cellsB bs).length → w.frozen? ⟨b, off + n * i0.size + j, none⟩ = false := fun j hj => by
        rw [hz1]; exact (hc.spare j (by omega)).2
      have hrun := run_append_room_src (P := Tryd.prog) w 25 25 ty 5 i0 Tryd.underlying25 hi b off n c (.slice B m d) m (cellsB bs) hs hfit hsome hfr
      rw [hz1] at hrun hsome
      refine ⟨_, c, _, b, off, hrun, ⟨by omega, fun _ => rfl, fun h0 => by rw [size_setCells]; exact hc.lt h0, by rw [cellsB_len, List.length_append, hl, hb, Nat.mul_one], fun j u hu => ?_, fun j hj => ?_⟩, (fun h => by cases h), fun _ => .inl ⟨hcp, rfl⟩, fun ad e => .inl ⟨ad, e, rfl⟩, ⟨World.os_setCells _ _ _ _, tape_setCells _ _ _ _, World.output_setCells _ _ _ _, by rw [size_setCells]; exact Nat.le_refl _, fun k hk hne => World.heap_setCells_other w b _ _ hk (fun e => hne ⟨hcp, e⟩)⟩⟩
      · rw [cellsB_app] at hu
        rw [cellsB_len, hl] at hol
        by_cases hjo : j < n
        · rw [List.getElem?_append_left (by rw [cellsB_len, hl]; exact hjo)] at hu
          rw [World.cell?_setCells_out b _ _ _ _ (fun _ _ => Or.inl (by show off + j < off + n * 1; omega))]
          exact hc.olds j u hu
        · rw [List.getElem?_append_right (by rw [cellsB_len, hl]; omega), cellsB_len, hl] at hu
          obtain ⟨hj2, hu2⟩ := List.getElem?_eq_some_iff.1 hu
          have := World.cell?_setCells_in b (cellsB bs) (off + n * 1) w hsome (j - n) hj2
          rw [show off + n * 1 + (j - n) = off + j by omega] at this
          rw [this, hu2]
      · have h1 := hc.spare (m + j) (by omega)
        rw [show off + n * 1 + (m + j) = off + (n + m) * 1 + j by omega] at h1
        rw [World.cell?_setCells_out b _ _ _ _ (fun _ _ => Or.inr (by show off + n * 1 + (cellsB bs).length ≤ off + (n + m) * 1 + j; omega)), World.frozen?_setCells]
        exact h1
  · have hold : (Builtin.firstCells i0.size n (.slice A n c)).run Tryd.prog w.drew = .ok (cellsB l).toArray w.drew := by
      rw [hz1]
      rcases Nat.eq_zero_or_pos c with h0 | hcp
      · subst h0
        obtain rfl : n = 0 := by omega
        obtain rfl : l = [] := List.eq_nil_of_length_eq_zero hl
        cases A with
        | none => exact run_firstCells_none w.drew 1 0 0 0
        | some a' => exact run_firstCells_some w.drew 1 0 a' 0 0 [] (by simp) (by intro _ _ h'; simp at h')
      · rw [hc.addr hcp]
        refine run_firstCells_some w.drew 1 n ⟨b, off, none⟩ n c (cellsB l) (by rw [cellsB_len, hl, Nat.mul_one]) (fun j u hu => ?_)
        rw [addoff]
        exact hc.olds j u hu
    have hrun := run_append_grow_src (P := Tryd.prog) w 25 25 ty 5 i0 _ Tryd.underlying25 hi hz0 A n c (cellsB l) hold (.slice B m d) m (cellsB bs) hs (by omega) (by omega) (growslice_fits (by omega) (by rw [hz2]; omega))
    have hge := grownCap_ge w (n + m) c 5
    have hL : (cellsB l ++ cellsB bs).length = n + m := by rw [List.length_append, cellsB_len, hl, hbl]
    refine ⟨_, _, _, w.heap.size, 0, hrun, ⟨hge, fun _ => rfl, fun _ => newer w _, by rw [cellsB_len, List.length_append, hl, hb, Nat.mul_one], fun j u hu => ?_, fun j hj => ?_⟩, (fun h => by cases h), fun _ => .inr (Nat.le_refl _), fun ad e => by cases e; exact .inr ⟨Nat.le_refl _, newer w _⟩, ⟨rfl, rfl, rfl, Nat.le_of_lt (newer w _), fun k hk _ => Below.heap_alloc w.drew _ k hk⟩⟩
    · have e1 : (w.drew.alloc (.cells ((cellsB l ++ cellsB bs).toArray ++ Builtin.zeroCells (Value.int .u8 0).cells (grownCap w (n + m) c 5 - (n + m))) 5)).cell? ⟨w.heap.size, j, none⟩ = _ := World.cell?_alloc_new w.drew _ _ j
      rw [Nat.zero_add, e1]
      rw [cellsB_app] at hu
      have hj := (List.getElem?_eq_some_iff.1 hu).1
      rw [Array.getElem?_append_left (by simp only [List.size_toArray]; exact hj), List.getElem?_toArray]
      exact hu
    · have e1 : (w.drew.alloc (.cells ((cellsB l ++ cellsB bs).toArray ++ Builtin.zeroCells (Value.int .u8 0).cells (grownCap w (n + m) c 5 - (n + m))) 5)).cell? ⟨w.heap.size, 0 + (n + m) * 1 + j, none⟩ = _ := World.cell?_alloc_new w.drew _ _ _
      refine ⟨?_, World.frozen?_alloc_new w.drew _ _ _⟩
      rw [e1]
      have hsz : ((cellsB l ++ cellsB bs).toArray ++ Builtin.zeroCells (Value.int .u8 0).cells (grownCap w (n + m) c 5 - (n + m))).size = grownCap w (n + m) c 5 := by
        rw [Array.size_append, List.size_toArray, hL, size_zeroCells]
        have : (Value.int .u8 0).cells.size = 1 := rfl
        rw [this]
        omega
      rw [Array.getElem?_eq_getElem (by rw [hsz]; omega)]
      rfl
theorem wpList_feed {w : World} {ops : Array Oper} {rest : List Oper} {o : Oper} {a : Act} {Q : Exit → Act → World → Prop} (hg : o.guard = none) (s x : Operand) (ho : o.op = .call { callee := .builtin .append, args := #[s, x], argTypes := #[25, 25] })
    {b off : Nat} (hc : Came w 1 A b off n c (cellsB l)) (hl : l.length = n) (hA0 : A = none → c = 0) (B : Option Addr) (m d : Nat) (bs : List UInt8) (hb : bs.length = m) (hr : Rd w B bs) (hn : B = none → d = 0) (hd : m ≤ d) (hm : n + m ≤ 100000000)
    (hs : a.eval s = .slice A n c) (hx : a.eval x = .slice B m d)
    (hK : ∀ A' c' w' b' off', Came w' 1 A' b' off' (n + m) c' (cellsB (l ++ bs)) → (A' = none → c' = 0) → (0 < c' → (0 < c ∧ b' = b) ∨ w.heap.size ≤ b') → (∀ ad, A' = some ad → (∃ ad0, A = some ad0 ∧ ad0.block = ad.block) ∨ (w.heap.size ≤ ad.block ∧ ad.block < w'.heap.size)) → Turn (fun k => 0 < c ∧ k = b) w w' → wpList Tryd.prog ops Q rest (a.put o.dst (.slice A' (n + m) c')) w') : wpList Tryd.prog ops Q (o :: rest) a w := by
  refine wpList_plain hg fun K hK' => ?_
  obtain ⟨A', c', w', b', off', hrun, h1, h2, h3, h5, h4⟩ := run_feed o.type hc hl hA0 B m d bs hb hr hn hd hm
  unfold Oper.wp
  simp [execOp, ho, resolve, invoke, builtin, hs, hx, hrun, Result.andThen]
  exact hK' _ _ (hK A' c' w' b' off' h1 h2 h3 h5 h4)
/-- What a reader is behind a Feed. -/
def FeedQ (base : Nat) (w : World) (G : Nat) (A : Option Addr) (c k : Nat) (l : List UInt8) (e : Ending) (w' : World) : Prop :=
  e = .returned (.int .i64 0) ∧ (∃ A' c', BR base w' G A' k c' l ∧ Lies A A' w.heap.size) ∧ Turn (fun k => k = G ∨ (0 < c ∧ ∃ ad, A = some ad ∧ ad.block = k)) w w'
set_option maxRecDepth 100000 in
set_option maxHeartbeats 4000000 in
theorem feed_any (w : World) (B : Option Addr) (m d : Nat) (bs : List UInt8) (h : BR base w G A n c l) (hbase : base ≤ w.heap.size) (hb : bs.length = m) (hr : Rd w B bs) (hn : B = none → d = 0) (hd : m ≤ d) (hm : n + m ≤ 1000000) :
    Calls Tryd.prog 30 #[.pointer (some ⟨G, 0, none⟩), .slice B m d] w (FeedQ base w G A c (n + m) (l ++ bs)) := by
  obtain ⟨z0, z1, z2, zf⟩ := h.nr.rows
  obtain ⟨b, off, hc, hbo⟩ := h.own
  have H := Lib.hid h
  have HC := Lib.hid hc
  have HBO := Lib.hid hbo
  have HR := Lib.hid hr
  have HB := Lib.hid hb
  have HBA := Lib.hid hbase
  clear h hr hb hc hbo hbase
  go_enter Tryd.func30, Tryd.ntmps30
  go_wp2_with (at_builtin; refine wpList_feed rfl (.tmp 23) (.tmp 24) rfl HC.out H.out.nr.len H.out.nr.nil B m d bs HB.out HR.out hn hd (by omega) rfl rfl ?_; intro A1 c1 w1 b1 off1 h1 h2 h3 h5 h4; have H5 := Lib.hid h5; have H1 := Lib.hid h1; have H2 := Lib.hid h2; have H3 := Lib.hid h3; have H4 := Lib.hid h4; have HZ : Hid (w1.heap[G]? = some (.cells #[.bool true, .bool false, .slice A n c] 105 (0, 0))) := Lib.hid ((h4.block G (nr_cells H.out.nr) (fun e => (HBO.out e.1).2 e.2.symm)).trans H.out.nr.z); have y2 : w1.cell? ⟨G, 2, none⟩ = some (.slice A n c) := (by simp only [World.cell?, HZ.out]; rfl); have yf : ∀ j, w1.frozen? ⟨G, j, none⟩ = false := (fun j => free_row HZ.out j); clear h1 h2 h3 h4 h5)
  go_ret
  have hgw := nr_cells H.out.nr
  have hs1 := H4.out.size
  have hle1 := H1.out.le
  have hb1 : 0 < c1 → base ≤ b1 ∧ b1 ≠ G := fun h0 => by
    rcases H3.out h0 with ⟨h5, h6⟩ | h6
    · rw [h6]; exact HBO.out h5
    · have := HBA.out
      exact ⟨by omega, by omega⟩
  have hll : (l ++ bs).length = n + m := by rw [List.length_append, H.out.nr.len, HB.out]
  have hA1 : ∀ ad, A1 = some ad → 0 < c1 → ad.block = b1 := fun ad e h0 => by have := H1.out.addr h0; rw [e] at this; cases this; rfl
  have hne1 : ∀ ad, A1 = some ad → ad.block ≠ G ∧ ad.block < w1.heap.size := fun ad e => by
    rcases H5.out ad e with ⟨ad0, e0, e1⟩ | ⟨h6, h7⟩
    · have := H.out.nr.ne ad0 e0
      exact ⟨by rw [← e1]; exact this.1, by rw [← e1]; omega⟩
    · exact ⟨by omega, h7⟩
  have hcs : Came (w1.setCell ⟨G, 2, none⟩ (.slice A1 (n + m) c1)) 1 A1 b1 off1 (n + m) c1 (cellsB (l ++ bs)) := came_set H1.out (by rw [cellsB_len, hll]; exact hle1) _ _ (fun h0 e => (hb1 h0).2 e.symm)
  refine ⟨rfl, ⟨A1, c1, ⟨⟨row_set HZ.out, fun h0 => ?_, hll, hle1, H2.out, fun ad e => ⟨(hne1 ad e).1, by simpa [World.setCell] using (hne1 ad e).2⟩⟩, H.out.bg, b1, off1, hcs, hb1⟩, fun ad e => ?_⟩, ⟨H4.out.os, H4.out.tape, H4.out.output, by simpa [World.setCell] using hs1, fun k hk hne => ?_⟩⟩
  · have h00 : 0 < c1 := by omega
    refine ⟨b1, off1, hcs.addr h00, hcs.lt h00, fun j hj => ?_⟩
    exact hcs.olds j _ (by rw [cellsB, List.getElem?_map, List.getElem?_eq_getElem hj]; rfl)
  · rcases H5.out ad e with h6 | ⟨h6, _⟩
    · exact .inl h6
    · exact .inr h6
  · have hkG : k ≠ G := fun e => hne (.inl e)
    refine (Below.heap_setCell w1 ⟨G, 2, none⟩ _ k hkG).trans (H4.out.block k hk (fun e => hne (.inr ?_)))
    exact ⟨e.1, _, HC.out.addr e.1, e.2.symm⟩
/-- A broken reader takes no bytes. -/
theorem feed_bad (w : World) (B : Option Addr) (m d : Nat) (h : NR w G true A n c l) :
    Calls Tryd.prog 30 #[.pointer (some ⟨G, 0, none⟩), .slice B m d] w fun e w' => e = .returned (.int .i64 0) ∧ w' = w := by
  obtain ⟨z0, z1, z2, zf⟩ := h.rows
  clear h
  go_enter Tryd.func30, Tryd.ntmps30
  go_wp2_with fail
  go_ret
  exact ⟨rfl, rfl⟩
/-- What a reader's next request is. -/
def NextB (base : Nat) (w : World) (G : Nat) (A : Option Addr) (n c : Nat) (l : List UInt8) (R : Int × List ByteArray × Nat) (e : Ending) (w' : World) : Prop :=
  (∃ v, e = .returned (.tuple #[v, .int .i64 R.1]) ∧ w'.ownsRow w.heap.size 9 1 v R.2.1.length (cellsS R.2.1)) ∧ (if R.1 = 131 then NR w' G true none 0 0 [] else BR base w' G (subA A R.2.2 c) (n - R.2.2) (c - R.2.2) (l.drop R.2.2)) ∧ Only G w w'
set_option maxRecDepth 100000 in
set_option maxHeartbeats 8000000 in
theorem nextB_any (w : World) (h : BR base w G A n c l) (hn : n ≤ 1000000000) (hk : (parseR l).2.2 ≤ n) :
    Calls Tryd.prog 32 #[.pointer (some ⟨G, 0, none⟩)] w (NextB base w G A n c l (parseR l)) := by
  obtain ⟨z0, z1, z2, zf⟩ := h.nr.rows
  have H := Lib.hid h
  have HG := Lib.hid (nr_cells h.nr)
  have HP := Lib.hid (parse_any A n c l w h.nr.len h.nr.cap h.nr.nil h.nr.rd (fun ad e => (h.nr.ne ad e).2) hn)
  generalize parseR l = R at *
  obtain ⟨e0, ls, k⟩ := R
  simp only at hk
  have HQ : Hid (∀ (v : Value) (w' : World), w'.ownsRow w.heap.size 9 1 v ls.length (cellsS ls) → (if e0 = 131 then NR w' G true none 0 0 [] else BR base w' G (subA A k c) (n - k) (c - k) (l.drop k)) → Only G w w' → NextB base w G A n c l (e0, ls, k) (.returned (.tuple #[v, .int .i64 e0])) w') := Lib.hid (fun v w' h1 h2 h3 => ⟨⟨v, rfl, h1⟩, h2, h3⟩)
  obtain ⟨Q, hQ⟩ : ∃ Q, NextB base w G A n c l (e0, ls, k) = Q := ⟨_, rfl⟩
  rw [hQ] at HQ ⊢
  unfold ParseEnd at HP
  simp only at HP
  have hcp := h.nr.cap
  clear h hQ
  by_cases hz : e0 = 131
  · have t1 : (e0 == 131) = true := by simpa using hz
    have t2 : decide (e0 = 131) = true := decide_eq_true hz
    have HZ := Lib.hid hz
    clear hz
    go_enter Tryd.func32, Tryd.ntmps32
    go_wp2_with fail
    refine HP.out.mono ?_
    rintro e w1 ⟨v, rfl, ho, hb⟩
    have H1 := Lib.hid (H.out.below hb)
    have HO1 := Lib.hid ho
    have HB1 := Lib.hid hb
    obtain ⟨y0, y1, y2, yf⟩ := H1.out.nr.rows
    have H2 := Lib.hid (H1.out.sub k hk)
    clear ho hb HP
    go_wp2_with (refine wpList_slice_lo rfl (.tmp 33) (.tmp 34) 25 5 rfl Tryd.underlying25 (sz5 _) A n c rfl .i64 k rfl hk ?_)
    have hg := HG.out
    have own3 : ∀ (W : World) (a b c : Nat) (x y z : Value), W.ownsRow w.heap.size 9 1 v ls.length (cellsS ls) → (((W.setCell ⟨G, a, none⟩ x).setCell ⟨G, b, none⟩ y).setCell ⟨G, c, none⟩ z).ownsRow w.heap.size 9 1 v ls.length (cellsS ls) := fun W a b c x y z h => by
      have h1 := ownsRow_setCell_other h (a := ⟨G, a, none⟩) (fun e => absurd (h.lt G e).1 (by omega)) x
      have h2 := ownsRow_setCell_other h1 (a := ⟨G, b, none⟩) (fun e => absurd (h1.lt G e).1 (by omega)) y
      exact ownsRow_setCell_other h2 (a := ⟨G, c, none⟩) (fun e => absurd (h2.lt G e).1 (by omega)) z
    refine HQ.out v _ (own3 _ _ _ _ _ _ _ HO1.out) ?_ (only_trans (only_trans (only_trans (only_below2 HB1.out) (only_set G 2 _ _)) (only_set G 1 _ _)) (only_set G 2 _ _))
    rw [if_pos HZ.out]
    exact ⟨row_set (row_set H2.out.nr.z), Rd.nil _ _, rfl, Nat.le_refl _, fun _ => rfl, fun ad e => by cases e⟩
  · have t1 : (e0 == 131) = false := by simpa using hz
    have t2 : decide (e0 = 131) = false := decide_eq_false hz
    have HZ := Lib.hid hz
    clear hz
    go_enter Tryd.func32, Tryd.ntmps32
    go_wp2_with fail
    refine HP.out.mono ?_
    rintro e w1 ⟨v, rfl, ho, hb⟩
    have H1 := Lib.hid (H.out.below hb)
    have HO1 := Lib.hid ho
    have HB1 := Lib.hid hb
    obtain ⟨y0, y1, y2, yf⟩ := H1.out.nr.rows
    have H2 := Lib.hid (H1.out.sub k hk)
    clear ho hb HP
    go_wp2_with (refine wpList_slice_lo rfl (.tmp 33) (.tmp 34) 25 5 rfl Tryd.underlying25 (sz5 _) A n c rfl .i64 k rfl hk ?_)
    have hg := HG.out
    refine HQ.out v _ (ownsRow_setCell_other HO1.out (a := ⟨G, 2, none⟩) (fun e => absurd (HO1.out.lt G e).1 (by omega)) _) ?_ (only_trans (only_below2 HB1.out) (only_set G 2 _ _))
    rw [if_neg HZ.out]
    exact H2.out
end
end Go.Proofs.YtglicojojpggmaaDoor
namespace Go.Proofs.YtglicojojpggmaaDoor
open Go Go.RowKit
open Go.ChangeShapes Go.WideShapes Go.ChangeAt Go.Deep
structure Piece where
  A : Option Addr
  c : Nat
  l : List UInt8
def Piece.v (p : Piece) : Value := .slice p.A p.l.length p.c
def psL (ps : List Piece) : List UInt8 := ps.flatMap Piece.l
theorem psL_snoc (ps : List Piece) (p : Piece) : psL (ps ++ [p]) = psL ps ++ p.l := by simp [psL]
/-- How many bytes there are, each piece with five ahead. -/
def szP : List Piece → Nat
  | [] => 0
  | p :: r => 5 + p.l.length + szP r
theorem szP_snoc (l : List Piece) (s : Piece) : szP (l ++ [s]) = szP l + (5 + s.l.length) := by
  induction l with
  | nil => simp [szP]
  | cons x l ih => simp [szP, ih]; omega
theorem szP_app (l m : List Piece) : szP (l ++ m) = szP l + szP m := by
  induction l with
  | nil => simp [szP]
  | cons x l ih => simp [szP, ih]; omega
theorem szP_take (l : List Piece) (k : Nat) : szP (l.take k) ≤ szP l := by
  have := szP_app (l.take k) (l.drop k)
  rw [List.take_append_drop] at this
  omega
theorem szP_next {ls : List Piece} {k m : Nat} {x : Piece} (ht : ls.take (k + 1) = ls.take k ++ [x]) (hm : m = szP (ls.take k)) : m + 5 + x.l.length = szP (ls.take (k + 1)) := by rw [ht, szP_snoc, ← hm]; omega
theorem psL_size (l : List Piece) : (psL l).length ≤ szP l := by
  induction l with
  | nil => simp [psL, szP]
  | cons x l ih =>
    have : psL (x :: l) = x.l ++ psL l := rfl
    rw [this, List.length_append, szP]
    omega
/-- A piece as it is read. -/
structure PieceOk (w : World) (p : Piece) : Prop where
  rd : Rd w p.A p.l
  le : p.l.length ≤ p.c
  nil : p.A = none → p.c = 0
  max : p.c ≤ 140737488351232
def RdP (w : World) (A : Option Addr) (ps : List Piece) : Prop := RdV w A (ps.map Piece.v) ∧ ∀ p ∈ ps, PieceOk w p
theorem PieceOk.below {w w' : World} {p : Piece} (h : PieceOk w p) (hb : Below w.heap.size w w') : PieceOk w' p := ⟨h.rd.below hb, h.le, h.nil, h.max⟩
theorem RdP.below {w w' : World} {A : Option Addr} {ps : List Piece} (h : RdP w A ps) (hb : Below w.heap.size w w') : RdP w' A ps := ⟨h.1.below hb, fun r hr => (h.2 r hr).below hb⟩
theorem RdP.at {w : World} {A : Option Addr} {ps : List Piece} (h : RdP w A ps) {k : Nat} (hk : k < ps.length) :
    ∃ b off p, A = some ⟨b, off, none⟩ ∧ b < w.heap.size ∧ w.cell? ⟨b, off + k, none⟩ = some (.slice p.A p.l.length p.c) ∧ PieceOk w p ∧ ps.take (k + 1) = ps.take k ++ [p] := by
  obtain ⟨b, off, rfl, hlt, hc⟩ := h.1.at (k := k) (by simpa using hk)
  exact ⟨b, off, ps[k], rfl, hlt, by rw [hc]; simp [Piece.v], h.2 _ (List.getElem_mem _), List.take_succ_eq_append_getElem hk⟩
theorem cells25 : Tryd.prog.cellsOf 25 = 1 := by kernel_rfl
theorem bytes5 : Tryd.prog.bytesOf 5 = 1 := by kernel_rfl
section
variable {H : Type} {enc : TypeId × Value → H} {W : World}
/-- An argument of bytes that are no more than a machine has. -/
theorem piece_of {fuel : Nat} {v : Value} {x : DataW H × List MemPlace} (h : DataW.trod enc Tryd.prog W 0 (fun _ => true) true fuel 25 [v] = some x) (hw : ∀ m ∈ x.1.weights Tryd.prog 25, m ≤ reachBytes) :
    ∃ p : Piece, v = p.v ∧ PieceOk W p := by
  obtain ⟨A, n, c, l, hv, hl, hnc, hcm, hA, hr⟩ := bytes_of h
  refine ⟨⟨A, c, l⟩, by rw [hv, ← hl]; rfl, hr, by show l.length ≤ c; omega, hA, ?_⟩
  show c ≤ _
  rcases open_ints Tryd.underlying25 Tryd.underlying5 cells5 h with ⟨hcs, _⟩ | ⟨a, l', c', zs, hcs, _, hl', hm, hz, hx, _, _⟩
  · rw [hv] at hcs
    simp at hcs
    omega
  · rw [hv] at hcs
    simp at hcs
    have hz' : zs.length = c' := by simpa using hz
    have h1 : zs.length ≤ reachBytes := by
      refine hw _ ?_
      subst hx
      rw [DataW.weights, Tryd.underlying25]
      simp only
      rw [bytes5]
      refine List.mem_cons.2 (.inl ?_)
      simp [lits]
      omega
    have : reachBytes = 140737488351232 := rfl
    omega
/-- An argument of pieces. -/
theorem pieces_of {fuel : Nat} {v : Value} {x : DataW H × List MemPlace} (h : DataW.trod enc Tryd.prog W 0 (fun _ => true) true fuel 53 [v] = some x) (hw : ∀ m ∈ x.1.weights Tryd.prog 53, m ≤ reachBytes) :
    ∃ A n c ps, v = .slice A n c ∧ List.length ps = n ∧ n ≤ c ∧ c ≤ maxLen ∧ (A = none → c = 0) ∧ RdP W A ps := by
  rcases open_slice1 Tryd.underlying53 cells25 h with ⟨hcs, _⟩ | ⟨a, l, c, m, n, V, D, Pl, hcs, _, hl, hm, hmm, hx, hcell⟩
  · simp at hcs
    exact ⟨none, 0, 0, [], hcs, rfl, Nat.le_refl _, by simp [maxLen], fun _ => rfl, ⟨RdV.nil _ _, fun s hs => by cases hs⟩⟩
  · simp at hcs hmm
    subst hmm
    have each : ∀ i, i < l → ∃ r : Piece, V i = r.v ∧ PieceOk W r := fun i hi =>
      piece_of (hcell i (by omega)).2 (fun q hq => by
        subst hx
        refine hw _ ?_
        rw [DataW.weights, Tryd.underlying53]
        simp only
        exact List.mem_cons_of_mem _ (List.mem_append_left _ (weights_all (List.mem_map.2 ⟨i, List.mem_range.2 hi, rfl⟩) _ hq)))
    haveI : Inhabited Piece := ⟨⟨none, 0, []⟩⟩
    obtain ⟨R, hR⟩ := choose_lt each
    have hlen : ((List.range l).map R).length = l := by simp
    refine ⟨some a, l, m, (List.range l).map R, hcs, hlen, hl, hm, (fun h => by cases h), ⟨fun h0 => ?_, fun r hr => ?_⟩⟩
    · rw [List.length_map, hlen] at h0
      obtain ⟨b, off, spot⟩ := a
      have hc0 := (hcell 0 (by omega)).1
      have hspot : spot = none := by simpa [Addr.add] using World.cell?_spot hc0
      subst hspot
      rw [addoff] at hc0
      refine ⟨b, off, rfl, block_lt hc0, fun j hj => ?_⟩
      rw [List.length_map, hlen] at hj
      have h1 := (hcell j (by omega)).1
      rw [addoff, (hR j hj).1] at h1
      rw [h1]
      simp
    · obtain ⟨i, hi, rfl⟩ := List.mem_map.1 hr
      exact (hR i (List.mem_range.1 hi)).2
end
end Go.Proofs.YtglicojojpggmaaDoor
namespace Go.Proofs.YtglicojojpggmaaDoor
open Go Go.RowKit
/-- A reader in block G: the bytes that it has, or none when it is broken; its array is none of these blocks. -/
def RS (base : Nat) (W : World) (G : Nat) (N : Nat → Prop) : Option (List UInt8) → Prop
  | none => NR W G true none 0 0 [] ∧ base ≤ G
  | some l => ∃ A c, BR base W G A l.length c l ∧ ∀ ad, A = some ad → ¬ N ad.block
/-- What is left behind all requests, or none when it ends broken. -/
def stR (T : List (List ByteArray) × List UInt8 × Int) : Option (List UInt8) := if T.2.2 = 131 then none else some T.2.1
/-- The requests that a reader will tell, and how that ends. -/
def tlR : Option (List UInt8) → List (List ByteArray) × List UInt8 × Int
  | none => ([], [], 131)
  | some l => toldR l
/-- The next one. -/
def nxR : Option (List UInt8) → Int × List ByteArray × Option (List UInt8)
  | none => (131, [], none)
  | some l => ((parseR l).1, (parseR l).2.1, if (parseR l).1 = 131 then none else some (l.drop (parseR l).2.2))
theorem told_feed (l p : List UInt8) : (toldR (l ++ p)).1 = (toldR l).1 ++ (tlR ((stR (toldR l)).map (· ++ p))).1 ∧ (toldR (l ++ p)).2.2 = (tlR ((stR (toldR l)).map (· ++ p))).2.2 ∧ stR (toldR (l ++ p)) = stR (tlR ((stR (toldR l)).map (· ++ p))) := by
  have h := toldR_more p (l.length + 1) l (by omega)
  have h2 := (toldR_bad (l.length + 1) l (by omega)).1
  generalize toldR l = T at *
  by_cases h3 : T.2.2 = 130
  · rw [if_pos h3] at h
    have e : stR T = some T.2.1 := by unfold stR; rw [if_neg (by omega)]
    rw [h, e]
    exact ⟨rfl, rfl, rfl⟩
  · rw [if_neg h3] at h
    have e1 : T.2.2 = 131 := by omega
    have e : stR T = none := by unfold stR; rw [if_pos e1]
    rw [h, e]
    refine ⟨by simp [tlR], by simp [tlR, e1], ?_⟩
    unfold stR
    simp [tlR, e1]
theorem tl_cons {x : Option (List UInt8)} {y : List ByteArray} {ys : List (List ByteArray)} (h : (tlR x).1 = y :: ys) : (nxR x).1 = 0 ∧ (nxR x).2.1 = y ∧ (tlR (nxR x).2.2).1 = ys ∧ (tlR (nxR x).2.2).2 = (tlR x).2 := by
  cases x with
  | none => cases h
  | some l =>
    change (toldR l).1 = _ at h
    by_cases h1 : (parseR l).1 = 0
    · rw [toldR_zero h1] at h
      injection h with h2 h3
      have e : (nxR (some l)).2.2 = some (l.drop (parseR l).2.2) := by
        show (if (parseR l).1 = 131 then none else _) = _
        rw [if_neg (by omega)]
      rw [e]
      refine ⟨h1, h2, h3, ?_⟩
      show (toldR _).2 = (toldR l).2
      rw [toldR_zero (l := l) h1]
    · rw [toldR_end h1] at h
      cases h
theorem tl_nil {x : Option (List UInt8)} (h : (tlR x).1 = []) : (nxR x).1 = (tlR x).2.2 ∧ (nxR x).2.1 = [] ∧ (nxR x).2.2 = stR (tlR x) := by
  cases x with
  | none => exact ⟨rfl, rfl, by simp [nxR, stR, tlR]⟩
  | some l =>
    change (toldR l).1 = _ at h
    by_cases h1 : (parseR l).1 = 0
    · rw [toldR_zero h1] at h
      cases h
    · have h2 := parse_only h1
      have h3 : (parseR l).2.1 = [] := congrArg Prod.fst h2.2
      have h4 : (parseR l).2.2 = 0 := congrArg Prod.snd h2.2
      have e : tlR (some l) = ([], l, (parseR l).1) := toldR_end h1
      rw [e]
      refine ⟨rfl, h3, ?_⟩
      show (if (parseR l).1 = 131 then none else some (l.drop (parseR l).2.2)) = _
      unfold stR
      rw [h4, List.drop_zero]
section
variable {base : Nat} {W W' : World} {G : Nat} {N : Nat → Prop} {x : Option (List UInt8)}
theorem RS.turn (h : RS base W G N x) (ht : Turn N W W') (hG : ¬ N G) : RS base W' G N x := by
  cases x with
  | none =>
    have h1 := h.1
    exact ⟨⟨(ht.block G (nr_cells h1) hG).trans h1.z, Rd.nil _ _, rfl, Nat.le_refl _, fun _ => rfl, fun ad e => by cases e⟩, h.2⟩
  | some l =>
    obtain ⟨A, c, h1, h2⟩ := h
    refine ⟨A, c, h1.stay ht.size (fun k hk hx => ht.block k ?_ ?_), h2⟩
    · rcases hx with rfl | ⟨ad, e, rfl⟩
      · exact nr_cells h1.nr
      · exact (h1.nr.ne ad e).2
    · rcases hx with rfl | ⟨ad, e, rfl⟩
      · exact hG
      · exact h2 ad e
theorem RS.below (h : RS base W G N x) (hb : Below W.heap.size W W') : RS base W' G N x := by
  cases x with
  | none =>
    have h1 := h.1
    exact ⟨⟨(hb.block G (nr_cells h1)).trans h1.z, Rd.nil _ _, rfl, Nat.le_refl _, fun _ => rfl, fun ad e => by cases e⟩, h.2⟩
  | some l =>
    obtain ⟨A, c, h1, h2⟩ := h
    exact ⟨A, c, h1.below hb, h2⟩
theorem RS.free (h : RS base W G N x) : RS base W G (fun _ => False) x := by
  cases x with
  | none => exact h
  | some l =>
    obtain ⟨A, c, h1, h2⟩ := h
    exact ⟨A, c, h1, fun _ _ h => h⟩
/-- Blocks that were not there yet. -/
theorem RS.new (h : RS base W G (fun _ => False) x) : RS base W G (fun k => W.heap.size ≤ k) x := by
  cases x with
  | none => exact h
  | some l =>
    obtain ⟨A, c, h1, h2⟩ := h
    exact ⟨A, c, h1, fun ad e h => by have := (h1.nr.ne ad e).2; omega⟩
theorem RS.imp {M : Nat → Prop} (h : RS base W G N x) (hm : ∀ k, M k → N k) : RS base W G M x := by
  cases x with
  | none => exact h
  | some l =>
    obtain ⟨A, c, h1, h2⟩ := h
    exact ⟨A, c, h1, fun ad e h => h2 ad e (hm _ h)⟩
theorem RS.at (h : RS base W G N x) : G < W.heap.size ∧ base ≤ G := by
  cases x with
  | none => exact ⟨nr_cells h.1, h.2⟩
  | some l =>
    obtain ⟨A, c, h1, h2⟩ := h
    exact ⟨nr_cells h1.nr, h1.bg⟩
end
section
variable {base : Nat} {G : Nat} {N : Nat → Prop} {x : Option (List UInt8)}
theorem feedS_any (w : World) (B : Option Addr) (m d : Nat) (bs : List UInt8) (h : RS base w G N x) (hN : ∀ k, N k → k < w.heap.size ∧ k ≠ G) (hbase : base ≤ w.heap.size) (hb : bs.length = m) (hr : Rd w B bs) (hn : B = none → d = 0) (hd : m ≤ d) (hm : ∀ l, x = some l → l.length + m ≤ 1000000) :
    Calls Tryd.prog 30 #[.pointer (some ⟨G, 0, none⟩), .slice B m d] w fun e w' => e = .returned (.int .i64 0) ∧ RS base w' G N (x.map (· ++ bs)) ∧ Turn (fun k => base ≤ k ∧ ¬ N k) w w' := by
  cases x with
  | none =>
    refine (feed_bad w B m d h.1).mono ?_
    rintro e w' ⟨rfl, rfl⟩
    exact ⟨rfl, h, ⟨rfl, rfl, rfl, Nat.le_refl _, fun _ _ _ => rfl⟩⟩
  | some l =>
    obtain ⟨A, c, h1, h2⟩ := h
    obtain ⟨b, off, hc, hbo⟩ := h1.own
    refine (feed_any w B m d bs h1 hbase hb hr hn hd (hm l rfl)).mono ?_
    rintro e w' ⟨rfl, ⟨A', c', h3, h4⟩, h5⟩
    refine ⟨rfl, ⟨A', c', ?_, fun ad e hk => ?_⟩, ⟨h5.os, h5.tape, h5.output, h5.size, fun k hk hne => h5.block k hk (fun hx => ?_)⟩⟩
    · rw [List.length_append, hb]
      exact h3
    · rcases h4 ad e with ⟨ad0, e0, e1⟩ | h6
      · exact h2 ad0 e0 (by rw [e1]; exact hk)
      · have := (hN _ hk).1
        omega
    · rcases hx with rfl | ⟨h0, ad, e, rfl⟩
      · exact hne ⟨h1.bg, fun hk => (hN _ hk).2 rfl⟩
      · refine hne ⟨?_, h2 ad e⟩
        have := hc.addr h0
        rw [e] at this
        cases this
        exact (hbo h0).1
/-- What a reader tells next. -/
def NextS (base : Nat) (w : World) (G : Nat) (R : Int × List ByteArray × Option (List UInt8)) (e : Ending) (w' : World) : Prop :=
  (∃ A k c, e = .returned (.tuple #[.slice A k c, .int .i64 R.1]) ∧ R.2.1.length = k ∧ k ≤ 9223372036854775807 ∧ RdV w' A (cellsS R.2.1)) ∧ RS base w' G (fun _ => False) R.2.2 ∧ Only G w w'
theorem nextS_any (w : World) (h : RS base w G N x) (hm : ∀ l, x = some l → l.length ≤ 1000000) : Calls Tryd.prog 32 #[.pointer (some ⟨G, 0, none⟩)] w (NextS base w G (nxR x)) := by
  cases x with
  | none =>
    refine (next_bad w h.1).mono ?_
    rintro e w' ⟨rfl, rfl⟩
    exact ⟨⟨none, 0, 0, rfl, rfl, by omega, RdV.nil _ _⟩, h, ⟨rfl, rfl, rfl, Nat.le_refl _, fun _ _ _ => rfl⟩⟩
  | some l =>
    obtain ⟨A, c, h1, h2⟩ := h
    have hk : (parseR l).2.2 ≤ l.length := by
      by_cases h3 : (parseR l).1 = 0
      · exact (parse_fit h3).2
      · have : (parseR l).2.2 = 0 := congrArg Prod.snd (parse_only h3).2
        omega
    refine (nextB_any w h1 (by have := hm l rfl; omega) hk).mono ?_
    rintro e w' ⟨⟨v, rfl, ho⟩, h4, h5⟩
    obtain ⟨A', c', rfl, _, _, h6, h7⟩ := own_rdV ho
    refine ⟨⟨A', _, c', rfl, rfl, own_max ho, h7⟩, ?_, h5⟩
    show RS base w' G _ (if (parseR l).1 = 131 then none else some (l.drop (parseR l).2.2))
    by_cases h8 : (parseR l).1 = 131
    · rw [if_pos h8] at h4 ⊢
      exact ⟨h4, h1.bg⟩
    · rw [if_neg h8] at h4 ⊢
      refine ⟨subA A (parseR l).2.2 c, c - (parseR l).2.2, ?_, fun _ _ h => h⟩
      rw [List.length_drop]
      exact h4
end
/-- The requests that were told, where they lie. -/
def WantOk (W : World) (G : Nat) (A : Option Addr) (ls : List (List ByteArray)) : Prop :=
  ∀ k (h : k < ls.length), ∃ b off B c, A = some ⟨b, off, none⟩ ∧ b < W.heap.size ∧ b ≠ G ∧ W.cell? ⟨b, off + k, none⟩ = some (.slice B ls[k].length c) ∧ RdV W B (cellsS ls[k]) ∧ (∀ ad, B = some ad → ad.block ≠ G)
theorem WantOk.only {W W' : World} {G : Nat} {A : Option Addr} {ls : List (List ByteArray)} (h : WantOk W G A ls) (ho : Only G W W') : WantOk W' G A ls := fun k hk => by
  obtain ⟨b, off, B, c, rfl, hb, hbG, hc, hr, hBG⟩ := h k hk
  refine ⟨b, off, B, c, rfl, Nat.lt_of_lt_of_le hb ho.size, hbG, (World.cell?_of_block (a := ⟨b, off + k, none⟩) (ho.block b hb (fun e => hbG (by injection e)))).trans hc, fun h0 => ?_, hBG⟩
  obtain ⟨g, o, rfl, hg, hcell⟩ := hr h0
  have hgG : g ≠ G := hBG _ rfl
  exact ⟨g, o, rfl, Nat.lt_of_lt_of_le hg ho.size, fun j hj => (World.cell?_of_block (a := ⟨g, o + j, none⟩) (ho.block g hg (fun e => hgG (by injection e)))).trans (hcell j hj)⟩
theorem want_of {w W : World} {G : Nat} {V : Value} {xs : List TItem} {ls : List (List ByteArray)} (hG : G < w.heap.size) (hx : xs.map TItem.ls = ls) (ho : W.ownsRow w.heap.size 22 1 V xs.length (xs.map TItem.v)) (hi : ∀ x ∈ xs, tOk w.heap.size x W) :
    ∃ A n c, V = .slice A n c ∧ ls.length = n ∧ n ≤ 9223372036854775807 ∧ WantOk W G A ls := by
  subst hx
  have hlt := ho.lt
  obtain ⟨A, c, rfl, _, _, hm, hr⟩ := own_rdV ho
  refine ⟨A, _, c, rfl, by simp, own_max ho, fun k hk => ?_⟩
  rw [List.length_map] at hk
  obtain ⟨b, off, rfl, hb, hc⟩ := hr.at (k := k) (by simpa using hk)
  have hxk : xs[k] ∈ xs := List.getElem_mem _
  have h1 := hi _ hxk
  have h2 := h1.lt
  obtain ⟨B, c', hv, _, _, _, hr'⟩ := own_rdV h1
  refine ⟨b, off, B, c', rfl, hb, ?_, ?_, by simpa using hr', fun ad e => ?_⟩
  · have := (hlt b rfl).1
    omega
  · rw [hc]
    simp [hv]
  · subst e
    have := (h2 ad.block (by rw [hv]; rfl)).1
    omega
end Go.Proofs.YtglicojojpggmaaDoor
namespace Go.Proofs.YtglicojojpggmaaDoor
open Go Go.RowKit
/-- Numbers of bytes that stand in a block. -/
def CR (W : World) (g n : Nat) : Prop := ∀ j, j < n → ∃ z, W.cell? ⟨g, j, none⟩ = some (.int .u8 z) ∧ W.frozen? ⟨g, j, none⟩ = false
theorem CR.of_block {W W' : World} {g n : Nat} (h : CR W g n) (hb : W'.heap[g]? = W.heap[g]?) : CR W' g n := fun j hj => by
  obtain ⟨z, h1, h2⟩ := h j hj
  exact ⟨z, (World.cell?_of_block (a := ⟨g, j, none⟩) hb).trans h1, (World.frozen?_of_block (a := ⟨g, j, none⟩) hb).trans h2⟩
theorem CR.set {W : World} {g n k : Nat} (h : CR W g n) (z : Int) : CR (W.setCell ⟨g, k, none⟩ (.int .u8 z)) g n := fun j hj => by
  obtain ⟨y, h1, h2⟩ := h j hj
  by_cases e : j = k
  · subst e
    exact ⟨z, World.cell?_setCell_same _ _ _ h1, by rw [World.frozen?_setCell]; exact h2⟩
  · exact ⟨y, (World.cell?_setCell_other W ⟨g, k, none⟩ ⟨g, j, none⟩ _ (fun h => by injection h; omega)).trans h1, by rw [World.frozen?_setCell]; exact h2⟩
theorem CR.own {W : World} {B n c : Nat} {A : Option Addr} {l : List UInt8} (h : OwnB W B (.slice A n c) l) (hl : l.length = n) (h0 : 0 < n) : ∃ g, A = some ⟨g, 0, none⟩ ∧ CR W g n := by
  have h' : W.ownsRow B 5 1 (.slice A n c) l.length (cellsB l) := h
  rcases h'.2 with ⟨e, _⟩ | ⟨g, cap, cur, e, hb, hgg, _⟩
  · cases e
    omega
  · cases e
    refine ⟨g, rfl, fun j hj => ?_⟩
    have hc := h'.cells (g := g) rfl j (cellB (l[j]'(by omega))) (by rw [cellsB, List.getElem?_map, List.getElem?_eq_getElem (by omega)]; rfl)
    rw [add0] at hc
    exact ⟨_, hc, h'.frozenAt j⟩
theorem told_nil : toldR [] = ([], [], 130) := by
  rw [toldR_end (by rw [parse0]; decide), parse0]
theorem turn_set (g k : Nat) (W : World) (v : Value) : Turn (fun j => j = g) W (W.setCell ⟨g, k, none⟩ v) :=
  ⟨rfl, rfl, rfl, by simp [World.setCell], fun j _ hj => Below.heap_setCell W ⟨g, k, none⟩ v j hj⟩
theorem Turn.imp {S T : Nat → Prop} {w w' : World} (h : Turn S w w') (hs : ∀ k, S k → T k) : Turn T w w' :=
  ⟨h.os, h.tape, h.output, h.size, fun k hk hn => h.block k hk (fun e => hn (hs k e))⟩
theorem Turn.refl (S : Nat → Prop) (w : World) : Turn S w w := ⟨rfl, rfl, rfl, Nat.le_refl _, fun _ _ _ => rfl⟩
/-- The blocks of an array. -/
def InA (A : Option Addr) (k : Nat) : Prop := ∃ ad, A = some ad ∧ ad.block = k
theorem nxR_less {x : Option (List UInt8)} {m : Nat} (h : ∀ l, x = some l → l.length ≤ m) : ∀ l, (nxR x).2.2 = some l → l.length ≤ m := by
  cases x with
  | none => intro l e; cases e
  | some l0 =>
    intro l e
    have h0 := h l0 rfl
    change (if (parseR l0).1 = 131 then none else some (l0.drop (parseR l0).2.2)) = _ at e
    split at e
    · cases e
    · injection e with e
      rw [← e, List.length_drop]
      omega
theorem stR_less (l : List UInt8) : ∀ r, stR (toldR l) = some r → r.length ≤ l.length := by
  intro r e
  have h := (toldR_bad (l.length + 1) l (by omega)).2.2
  unfold stR at e
  split at e
  · cases e
  · injection e with e
    rw [← e]
    exact h
theorem bl_appL (u : ByteArray) (l : List UInt8) : bl (u ++ ⟨l.toArray⟩) = bl u ++ l := by
  simp [bl]
end Go.Proofs.YtglicojojpggmaaDoor
namespace Go.Proofs.YtglicojojpggmaaDoor.respReads
open Go Go.RowKit Go.ChangeShapes Go.WideShapes Go.ChangeAt
open Go.ChangeMaps (open_string shut_string)


set_option maxHeartbeats 8000000 in
set_option maxRecDepth 100000 in
theorem walk (A : Option Addr) (n c : Nat) (ps : List Piece) (w : World) (hn : ps.length = n) (bn : n ≤ 9223372036854775807) (hr : RdP w A ps) (hg : TAB w) :
    Calls Tryd.prog 8 #[.slice A n c] w fun e w' => e = .returned (.bool true) ∧ Below w.heap.size w w' := by
  have HN := Lib.hid hn
  have HR := Lib.hid hr
  have HG := Lib.hid hg
  have HW := Lib.hid (works_any w hg)
  clear hn hr hg
  go_enter Tryd.func8, Tryd.ntmps8
  go_wp2_with fail
  go_loop [3, 4] (fun x i => ∃ k m : Nat, k ≤ n ∧ i = .int .i64 k ∧ x = .int .i64 m ∧ Hid (m = szP (ps.take k)) ∧ m ≤ 140737488370000) (fun _ i => n - (intOf i).toNat)
  case atStart => exact ⟨0, 0, Nat.zero_le _, rfl, rfl, by simp [Hid, szP], by omega⟩
  case round =>
    obtain ⟨k, m, hk, rfl, rfl, HT, hm⟩ := hrel
    by_cases hm3 : m ≤ 3000
    · by_cases hlt : k < n
      · obtain ⟨b, off, p, rfl, hbb, hca, hp, hpt⟩ := HR.out.at (k := k) (by have := HN.out; omega)
        have hpl : p.l.length ≤ 140737488351232 := Nat.le_trans hp.le hp.max
        have HX := Lib.hid (szP_next hpt HT.out)
        clear hp hpt
        go_wp2_with fail
        go_round
        case rel => exact ⟨k + 1, m + 5 + p.l.length, by omega, by go_num, by go_num, HX.out, by omega⟩
        case measure => simp [intOf]; omega
      · obtain rfl : n = k := by omega
        have h1 := HT.out
        rw [List.take_of_length_le (by have := HN.out; omega)] at h1
        have HSZ := Lib.hid (show szP ps ≤ 3000 by omega)
        clear h1 HT HW
        go_wp2_with fail
        refine (newR_any w).mono ?_
        rintro e w1 ⟨rfl, rfl⟩
        have HS1 : Hid (RS w.heap.size (w.alloc (.cells #[.bool true, .bool false, .slice none 0 0] 105)) w.heap.size (fun _ => False) (some [])) := Lib.hid ⟨none, 0, BR.first w.heap.size w (Nat.le_refl _), fun _ e => by cases e⟩
        have HB1 := Lib.hid (below_new w (.cells #[.bool true, .bool false, .slice none 0 0] 105))
        generalize w.alloc (.cells #[.bool true, .bool false, .slice none 0 0] 105) = w1 at *
        go_wp2_with fail
        go_loopw [6, 7, 8] (fun a t i wr => ∃ (u : ByteArray) (k : Nat), k ≤ n ∧ a = .string u ∧ i = .int .i64 k ∧ t = .int .i64 ((toldR (bl u)).1.length : Nat) ∧ Hid (bl u = psL (ps.take k)) ∧ Hid (RS w.heap.size wr w.heap.size (fun _ => False) (stR (toldR (bl u)))) ∧ Hid (Below w.heap.size w wr)) (fun _ _ i _ => n - (intOf i).toNat)
        case atStart =>
          refine ⟨⟨#[]⟩, 0, Nat.zero_le _, rfl, rfl, ?_, rfl, ?_, HB1⟩
          · rw [show bl ⟨#[]⟩ = [] from rfl, told_nil]
            rfl
          · rw [show bl ⟨#[]⟩ = [] from rfl, told_nil]
            exact HS1
        case round =>
          clear HS1 HB1
          obtain ⟨u, k, hk, rfl, rfl, rfl, HU, HS, HB⟩ := hrel
          by_cases hlt : k < n
          · obtain ⟨b, off, p, rfl, hbb, hca, hp, hpt⟩ := (HR.out.below HB.out).at (k := k) (by have := HN.out; omega)
            have HP := Lib.hid hp
            have HPT := Lib.hid hpt
            have hszk : szP (ps.take (k + 1)) ≤ 3000 := Nat.le_trans (szP_take ps (k + 1)) HSZ.out
            rw [hpt, szP_snoc] at hszk
            have hul : (bl u).length ≤ szP (ps.take k) := by rw [HU.out]; exact psL_size _
            have hus : u.size ≤ 3000 := by rw [← bl_len]; omega
            obtain ⟨m, hm⟩ : ∃ m, p.l.length = m := ⟨_, rfl⟩
            rw [hm] at hca hszk
            have hm3 : m ≤ 3000 := by omega
            have HML := Lib.hid hm
            have hmc : m ≤ p.c := by rw [← hm]; exact hp.le
            have hum : u.size + m ≤ 3000 := by rw [← bl_len]; omega
            clear hp hpt hm hszk hul
            go_wp2_with (first
              | (at_builtin; refine wpList_bytes rfl (.tmp 46) (.tmp 50) rfl wr.heap.size _ [] rfl (own_empty wr 5 wr.heap.size (Nat.le_refl _)) p.A m p.c p.l HML.out rfl (HP.out.rd.below (below_new wr _)) HP.out.nil hmc (by simp; omega) (by simp) ?_; intro v5 w5 ho5 hb5 hs5; rw [List.nil_append] at ho5; have HB5 := Lib.hid ((below_new wr (.cells #[] 5)).trans hb5); obtain ⟨A5, c5, rfl, hc5, hn5, hr5, hA5⟩ := ho5.form HML.out; have HO5 := Lib.hid ho5; have HR5 := Lib.hid hr5; have HA5 := Lib.hid hA5; clear ho5 hb5 hs5 hr5 hA5))
            have HS5 : Hid (RS w.heap.size w5 w.heap.size (InA A5) (stR (toldR (bl u)))) := Lib.hid ((HS.out.new.below HB5.out).imp (fun j hj => by obtain ⟨ad, e, rfl⟩ := hj; exact (HA5.out ad e).1))
            have hgr := HS.out.at.1
            have HW0 : Hid (w.heap.size ≤ wr.heap.size) := Lib.hid HB.out.size
            have HIA : Hid (∀ j, InA A5 j → j < w5.heap.size ∧ j ≠ w.heap.size) := Lib.hid (fun j hj => by obtain ⟨ad, e, rfl⟩ := hj; have := HA5.out ad e; exact ⟨this.2, by omega⟩)
            have HB5' : Hid (Below w.heap.size w w5) := Lib.hid (HB.out.trans (HB5.out.mono HB.out.size))
            refine (feedS_any w5 A5 m c5 p.l HS5.out HIA.out HB5'.out.size HML.out HR5.out hn5 hc5 (fun l e => by have := stR_less (bl u) l e; rw [bl_len] at this; omega)).mono ?_
            rintro e w6 ⟨rfl, h61, h62⟩
            have HS6 := Lib.hid h61
            have HT6 := Lib.hid h62
            have HB6 : Hid (Below w.heap.size w w6) := Lib.hid (HB5'.out.trans (h62.below (fun j hj h => by have := h.1; omega) HB5'.out.size))
            have HC6 : Hid (0 < m → ∃ g, A5 = some ⟨g, 0, none⟩ ∧ CR w6 g m) := Lib.hid (fun h0 => by
              obtain ⟨g, e, hc⟩ := CR.own HO5.out HML.out h0
              exact ⟨g, e, hc.of_block (h62.block g ((HA5.out _ e).2) (fun h => h.2 ⟨_, e, rfl⟩))⟩)
            obtain ⟨x', hx'⟩ : ∃ x', (stR (toldR (bl u))).map (· ++ p.l) = x' := ⟨_, rfl⟩
            rw [hx'] at HS6
            have htf := told_feed (bl u) p.l
            rw [hx', ← bl_appL] at htf
            have HTF := Lib.hid htf
            have HX' : Hid (∀ l, x' = some l → l.length ≤ 3000) := Lib.hid (fun l e => by
              rw [← hx'] at e
              obtain ⟨r, e1, e2⟩ := Option.map_eq_some_iff.1 e
              have := stR_less (bl u) r e1
              rw [bl_len] at this
              rw [← e2, List.length_append, HML.out]
              omega)
            clear h61 h62 hx' htf hgr HS5 HS HR5 HB5 HB5' HO5 hn5 hc5 HB hca hbb
            go_wp2_with fail
            go_loopw [11] (fun q wq => ∃ j : Nat, j ≤ m ∧ q = .int .i64 j ∧ Hid (0 < m → ∃ g, A5 = some ⟨g, 0, none⟩ ∧ CR wq g m) ∧ Hid (Turn (InA A5) w6 wq)) (fun q _ => m - (intOf q).toNat)
            case atStart => exact ⟨0, Nat.zero_le _, rfl, HC6, Lib.hid (Turn.refl _ _)⟩
            case round =>
              obtain ⟨j, hj, rfl, HCQ, HTQ⟩ := hrel
              by_cases hjm : j < m
              · obtain ⟨g, rfl, hcr⟩ := HCQ.out (by omega)
                obtain ⟨z, hz1, hz2⟩ := hcr j hjm
                have HCR := Lib.hid hcr
                clear hcr
                go_wp2_with fail
                go_roundw
                case rel => exact ⟨j + 1, by omega, by go_num, Lib.hid (fun _ => ⟨g, rfl, HCR.out.set _⟩), Lib.hid (HTQ.out.trans ((turn_set g j _ _).imp (fun k e => ⟨_, rfl, e.symm⟩)))⟩
                case measure => simp [intOf]; omega
              · obtain rfl : m = j := by omega
                have HQ : Hid (Below w.heap.size w wr) := Lib.hid (HB6.out.trans (HTQ.out.below (fun i hi h => by obtain ⟨ad, e, rfl⟩ := h; have := (HA5.out ad e).1; have := HW0.out; omega) HB6.out.size))
                have HSQ := Lib.hid (HS6.out.turn HTQ.out (fun h => (HIA.out _ h).2 rfl)).free
                obtain ⟨b, off, p', hA, hbb, hca, hp, hpt⟩ := (HR.out.below HQ.out).at (k := k) (by have := HN.out; omega)
                cases hA
                obtain rfl : p = p' := by
                  have h1 := HPT.out
                  rw [hpt] at h1
                  simpa using h1.symm
                rw [HML.out] at hca
                have hconv := conv_n HML.out hp.nil hmc hp.rd
                have hsz : ¬ 9223372036854775807 < u.size + (⟨p.l.toArray⟩ : ByteArray).size := by
                  have : (⟨p.l.toArray⟩ : ByteArray).size = p.l.length := rfl
                  rw [this, HML.out]
                  omega
                have HU2 : Hid ((u ++ (⟨p.l.toArray⟩ : ByteArray)).size ≤ 3000) := Lib.hid (by
                  rw [← bl_len, bl_appL, List.length_append, bl_len, HML.out]
                  exact hum)
                have HU3 : Hid (bl (u ++ (⟨p.l.toArray⟩ : ByteArray)) = psL (ps.take (k + 1))) := Lib.hid (by
                  rw [bl_appL, HPT.out, psL_snoc, HU.out])
                clear HCQ HTQ HS6 HT6 HB6 HC6 hp hpt
                go_wp2_with fail
                generalize hue : u ++ (⟨p.l.toArray⟩ : ByteArray) = uu at *
                have HT7 := Lib.hid (told_any uu wr (by have := HU2.out; omega))
                generalize hTe : toldR (bl uu) = T2 at *
                obtain ⟨L, rs, z⟩ := T2
                refine HT7.out.mono ?_
                rintro e w7 ⟨V, xs, rfl, hxs, ho, hi, hb⟩
                obtain ⟨A7, n7, c7, rfl, hn7, hm7, hw7⟩ := want_of (G := w.heap.size) HSQ.out.at.1 hxs ho hi
                have HB7 : Hid (Below w.heap.size w w7) := Lib.hid (HQ.out.trans (hb.mono HQ.out.size))
                have HS7 := Lib.hid (HSQ.out.below hb)
                have HW7 := Lib.hid hw7
                have HN7 := Lib.hid hn7
                clear hxs ho hi hb hw7 hn7 HT7 HSQ HQ hconv hsz hca
                obtain ⟨tf1, tf2, tf3⟩ := HTF.out

                simp only at tf1 tf2 tf3
                have hz0 : (z != z) = false := by simp
                have HTE := Lib.hid hTe
                have HF1 := Lib.hid tf1
                have HF2 := Lib.hid tf2
                have HF3 := Lib.hid tf3
                clear tf1 tf2 tf3 hTe HTF hue
                go_wp2_with fail
                go_loopw [7] (fun t wq => ∃ (d : Nat) (y : Option (List UInt8)), d ≤ n7 ∧ t = .int .i64 d ∧ Hid (L.drop d = (tlR y).1) ∧ Hid ((tlR y).2 = (tlR x').2) ∧ Hid (∀ l, y = some l → l.length ≤ 3000) ∧ Hid (RS w.heap.size wq w.heap.size (fun _ => False) y) ∧ Hid (WantOk wq w.heap.size A7 L) ∧ Hid (Below w.heap.size w wq)) (fun t _ => n7 - (intOf t).toNat)
                case atStart =>
                  refine ⟨(toldR (bl u)).1.length, x', ?_, rfl, ?_, rfl, HX', HS7, HW7, HB7⟩
                  · have h1 := HN7.out
                    rw [HF1.out, List.length_append] at h1
                    omega
                  · show _ = _
                    rw [HF1.out, List.drop_left]
                case round =>
                  clear HS7 HW7 HB7
                  obtain ⟨d, y, hd, rfl, HD, HY, HL, HSy, HWy, HBy⟩ := hrel
                  have HNX := Lib.hid (nextS_any wr HSy.out (fun l e => by have := HL.out l e; omega))
                  by_cases hdn : d < n7
                  · obtain ⟨l1, hl1, hl2⟩ : ∃ l1, L[d]? = some l1 ∧ L.drop d = l1 :: L.drop (d + 1) := by
                      have h1 : d < L.length := by have := HN7.out; omega
                      exact ⟨L[d], List.getElem?_eq_getElem h1, List.drop_eq_getElem_cons h1⟩
                    have htl := tl_cons (x := y) (y := l1) (ys := L.drop (d + 1)) (by rw [← HD.out]; exact hl2)
                    have HLL := Lib.hid (nxR_less HL.out)
                    obtain ⟨R, hR⟩ : ∃ R, nxR y = R := ⟨_, rfl⟩
                    rw [hR] at htl HNX HLL
                    obtain ⟨e1, r1, y1⟩ := R
                    obtain ⟨t1, t2, t3, t4⟩ := htl
                    simp only at t1 t2 t3 t4
                    subst t1
                    subst t2
                    have H3 := Lib.hid t3
                    have H4 := Lib.hid t4
                    have HL1 := Lib.hid hl1
                    clear t3 t4 hR hl1 hl2
                    go_wp2_with fail
                    refine HNX.out.mono ?_
                    rintro e w8 ⟨⟨A8, k8, c8, rfl, hk8, hm8, hr8⟩, hs8, ho8⟩
                    have HK8 := Lib.hid hk8
                    have HR8 := Lib.hid hr8
                    have HS8 := Lib.hid hs8
                    have HWn := Lib.hid (HWy.out.only ho8)
                    have HBn : Hid (Below w.heap.size w w8) := Lib.hid (HBy.out.trans (only_below ho8 (Nat.le_refl _) HBy.out.size))
                    have HM1 := Lib.hid (num_any2 0 w8)
                    obtain ⟨bw, ow, B9, c9, hA7, hbw, _, hcw, hrw, _⟩ := HWn.out d (by have := HN7.out; omega)
                    subst hA7
                    have hLd : L[d]'(by have := HN7.out; omega) = r1 := by
                      have h1 := HL1.out
                      rw [List.getElem?_eq_getElem (by have := HN7.out; omega)] at h1
                      injection h1
                    rw [hLd] at hcw hrw
                    simp only at hk8
                    rw [hk8] at hcw
                    have HO9 := Lib.hid (one_any A8 B9 k8 k8 c8 c9 r1 r1 w8 hk8 hk8 hm8 hm8 hr8 hrw)
                    clear hk8 hr8 hs8 ho8 hrw hLd HWy HBy HSy HL HD HNX
                    go_wp2_with fail
                    refine HM1.out.mono ?_
                    rintro e w' ⟨rfl, rfl⟩
                    go_wp2_with fail
                    refine HO9.out.mono ?_
                    rintro e w9 ⟨he, q, rfl⟩
                    rw [eqS_refl] at he
                    subst he
                    have hbq := below_any q (Below.refl w8.heap.size w8)
                    go_wp2_with fail
                    go_roundw
                    case rel => exact ⟨d + 1, y1, by omega, by go_num, Lib.hid H3.out.symm, Lib.hid (H4.out.trans HY.out), HLL, Lib.hid (HS8.out.below hbq), Lib.hid (HWn.out.only (only_drew _ _ _)), Lib.hid (HBn.out.trans (hbq.mono HBn.out.size))⟩
                    case measure => simp [intOf]; omega
                  · obtain rfl : n7 = d := by omega
                    have htl := tl_nil (x := y) (by rw [← HD.out, ← HN7.out, List.drop_length])
                    obtain ⟨R, hR⟩ : ∃ R, nxR y = R := ⟨_, rfl⟩
                    rw [hR] at htl HNX
                    obtain ⟨e1, r1, y1⟩ := R
                    obtain ⟨t1, t2, t3⟩ := htl
                    simp only at t1 t2 t3
                    rw [HY.out, ← HF2.out] at t1
                    subst t1
                    subst t2
                    have H3 : Hid (y1 = stR (L, rs, e1)) := Lib.hid (by rw [t3, HF3.out]; unfold stR; rw [HY.out])
                    clear t3 hR
                    have HBY := HBy
                    go_wp2_with fail
                    refine HNX.out.mono ?_
                    rintro e w8 ⟨⟨A8, k8, c8, rfl, hk8, hm8, hr8⟩, hs8, ho8⟩
                    have hk0 : k8 = 0 := by simpa using hk8.symm
                    subst hk0
                    have HS8 := Lib.hid hs8
                    have HBn : Hid (Below w.heap.size w w8) := Lib.hid (HBy.out.trans (only_below ho8 (Nat.le_refl _) HBy.out.size))
                    have HM0 := Lib.hid (num_any2 0 w8)
                    have HM1 := Lib.hid (num_any2 e1 w8)
                    clear hk8 hm8 hr8 hs8 ho8 HNX HSy HWy HBy
                    go_wp2_with fail
                    refine HM0.out.mono ?_
                    rintro e w' ⟨rfl, rfl⟩
                    go_wp2_with fail
                    refine HM1.out.mono ?_
                    rintro e w' ⟨rfl, rfl⟩
                    go_wp2_with fail
                    go_roundw
                    case rel =>
                      refine ⟨uu, k + 1, by omega, rfl, by go_num, ?_, HU3, ?_, HBn⟩
                      · rw [HTE.out]
                        show _ = Value.int .i64 (L.length : Nat)
                        rw [HN7.out]
                      · rw [HTE.out, ← H3.out]
                        exact HS8
                    case measure => simp [intOf]; omega
          · obtain rfl : n = k := by omega
            have HB' := Lib.hid (tab_below HG.out HB.out)
            go_wp2_with fail
            refine (works_any _ HB'.out).mono ?_
            rintro e w2 ⟨rfl, hb2⟩
            go_wp2
            go_ret
            exact ⟨rfl, HB.out.trans (hb2.mono HB.out.size)⟩
    · have d3 : decide ((m : Int) ≤ 3000) = false := by simp; omega
      by_cases hlt : k < n
      all_goals (
        go_wp2_with fail
        refine HW.out.mono ?_
        rintro e w2 ⟨rfl, hb2⟩
        go_wp2
        go_ret
        exact ⟨rfl, hb2⟩)


set_option maxRecDepth 20000 in
theorem contract (H : Type) (enc : TypeId × Value → H) (W : World) (base : Nat) (args : Array Value) (ds gs : List (DataW H)) (before : List MemPlace)
    (hval : ∀ (j : Nat) t v, Tryd.f8.params[j]? = some t → args[j]? = some v → Value.okWide Tryd.prog W .any base t v)
    (hW : DataW.Whole enc Tryd.prog Tryd.f8.params.toList Rows.respReadsSpec.vars false W args.toList ds gs before) 
    (hZ : (DataW.weightsEach Tryd.prog (Tryd.f8.params.toList ++ (OpenSpec.ofChange Rows.respReadsSpec).bare.plain.varTypes Tryd.prog) (ds ++ gs)).all (· ≤ reachBytes) = true) (hL : laidMetH Tryd.prog Rows.respReadsRow.laid W) :
    Calls Tryd.prog 8 args W fun e W' => ∃ v, e = .returned v ∧ Rows.respReadsSpec.post enc Tryd.prog Tryd.f8 false true false false W args v W' := by
  have hW' := hW
  obtain ⟨p, q, hA0, hV, rfl, hfz, hnd⟩ := hW
  have hA : DataW.TrodAll enc Tryd.prog W 0 (fun _ => true) true Tryd.f8.params.toList args.toList ds p := hA0
  rw [Tryd.params8] at hA hval hZ
  obtain ⟨v0, vs0, d0, ds0, p0, q0, hargs, rfl, rfl, h0, r0⟩ := trodAll_cons hA
  obtain ⟨rfl, rfl, rfl⟩ := trodAll_nil r0
  obtain rfl : args = #[v0] := by cases args; simp_all
  obtain ⟨rfl, rfl⟩ := trodVars_none hV
  have k0 := h0
  have lt0 : ∀ x ∈ p0, x.block < W.heap.size := by obtain ⟨m, hm⟩ := k0; exact DataW.trod_lt m _ _ _ hm
  obtain ⟨ca0, na0, ea0, rfl⟩ := okWide_slice Tryd.underlying53 (hval 0 53 v0 rfl rfl)
  obtain ⟨fu0, hf0⟩ := h0
  obtain ⟨A0, n0, c0, l0, hv0, hn0, hnc0, hcm0, hO0, hr0⟩ := pieces_of hf0 (weight_at hZ (j := 0) rfl rfl)
  cases hv0
  simp only [maxLen] at hcm0
  clear hA0
  refine (walk _ _ _ l0 W hn0 (by omega) hr0 (laid_pow hL)).mono fun e W' ⟨he, bel⟩ => ?_
  subst he
  exact ⟨_, rfl, _, _, _, [], _, [], hW', trodAll_mk1 (shut_bool Tryd.underlying4 _), (trodAll_cons_mk (Below.trod laidOut (by kernel_rfl) (of_decide_eq_true (by kernel_rfl)) k0 bel lt0) trodAll_mk0), rfl, bel.frame _, fun h => by cases h⟩

theorem reads (os : Os) {H : Type} (enc : TypeId × Value → H) : ∃ places, DataW.whole enc Tryd.prog ((laidWorld os).forCall (fun _ _ => 0) ⟨#[], #[.slice none 0 0], []⟩).memory Tryd.f8.params.toList Rows.respReadsSpec.vars false (#[.slice none 0 0] : Array Value).toList 8 = some ([.nil], [], places) :=
  ⟨[], by kernel_rfl⟩

set_option maxRecDepth 100000 in
theorem lifted (os : Os) (started : os.Started) (H : Type) (enc : TypeId × Value → H) (F : Stop.Interp) :
    ReturnsInHanded {} Tryd.checked os 8 .any ((OpenSpec.ofChange Rows.respReadsSpec).preRow enc Tryd.prog Tryd.f8 Rows.respReadsRow.domain false Rows.respReadsRow.laid) (((OpenSpec.ofChange Rows.respReadsSpec).at F).post enc Tryd.prog Tryd.f8 false true false false) := by
  obtain ⟨places, hx⟩ := reads os enc
  refine returnsInHanded_of_row (C := Tryd.checked) (s := OpenSpec.ofChange Rows.respReadsSpec) own started (by kernel_rfl) Tryd.func8
    (witness_row_at (enc := enc) (C := Tryd.checked) false (laidWorld os) #[.slice none 0 0] rfl (by kernel_rfl) (by kernel_rfl) (by kernel_rfl)
      (OpenSpec.preRow_of_cond 8 hx (by kernel_rfl) (fun k hk => by cases hk) (by kernel_rfl) (laid_met os _))) ?_
  intro W base args ds gs before hval hW _ _ hZ hL _ _
  exact contract H enc W base args ds gs before hval hW hZ hL

theorem said : Rows.RespReadsSaid :=
  OpenClaim.holds_of_cond 8 Tryd.f8 rfl rfl rfl rfl rfl rfl rfl ⟨rfl, rfl, rfl, rfl, rfl⟩ rfl rfl rfl rfl rfl (by kernel_rfl) Tryd.func8 (by kernel_rfl)
    (of_decide_eq_true (by kernel_rfl)) (by unfold Func.isWrapper; first | (rw [if_pos (by decide +kernel)]; kernel_rfl) | (rw [if_neg (by decide +kernel)]; exact ⟨rfl, rfl⟩))
    (fun os started H enc _ F => by rw [OpenClaim.pre_eq_preRow]; exact lifted os started H enc F)

theorem plain (f : FuncId) (fn : Func) (hf : Tryd.pinned.checked.prog.funcNamed "tabor/taborlaw04.RespReads" = some f) (hfn : Tryd.pinned.checked.prog.funcs[f]? = some fn) :
    true = Tryd.pinned.checked.prog.looks [] ∧ ∀ (j : Nat) t, fn.params[j]? = some t → Tryd.pinned.checked.prog.wantsStandIn t = false := by
  obtain rfl : f = 8 := Option.some.inj ((show Tryd.prog.funcNamed "tabor/taborlaw04.RespReads" = some 8 by kernel_rfl).symm.trans hf) |>.symm
  obtain rfl : fn = Tryd.f8 := (Option.some.inj (Tryd.func8.symm.trans hfn)).symm
  refine ⟨by kernel_rfl, fun j t ht => ?_⟩
  rw [Tryd.params8] at ht
  obtain rfl : t = 53 := by simpa using Array.mem_of_getElem? ht
  exact (show Tryd.prog.wantsStandIn 53 = false by kernel_rfl)

/-- The card. -/
theorem card : Rows.RespReadsCardSaid :=
  Claim7.holds_tied_plain_at .later [] _ _ _ _ said (fun _ h => by cases h) (by kernel_rfl) (fun _ h => by cases h) respReads_row_tie rfl ⟨rfl, rfl⟩ (by kernel_rfl) rfl plain (by kernel_rfl)
#print axioms card
end Go.Proofs.YtglicojojpggmaaDoor.respReads
