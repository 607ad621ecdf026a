/- What is put, loaded, unloaded, flushed. -/
import Derived.Test.YtpomaabkgbaikaaDoorFb
import Derived.Test.YtpomaabkgbaikaaDoorNm
import Derived.Test.YtpomaabkgbaikaaDoorD1Digest
namespace Go.Proofs.YtpomaabkgbaikaaDoor
open Go Go.RowKit Go.Maps
attribute [local go_sem] Oper.semAt_some
/-- The table that spelling in sixteen digits asks for. -/
def DG (w : World) : Prop := w.cell? ⟨2, 15, none⟩ = some (.int .u8 4) ∧ 2 < w.heap.size
theorem DG.below {w w' : World} (h : DG w) (hb : Below w.heap.size w w') : DG w' := ⟨(hb.cell (p := ⟨2, 15, none⟩) h.2).trans h.1, Nat.lt_of_lt_of_le h.2 hb.size⟩
theorem DG.keep {T : Nat → Prop} {w w' : World} (h : DG w) (hk : KeepT T w w') (ht : ¬ T 2) : DG w' := ⟨(World.cell?_of_block (w := w) (w' := w') (a := ⟨2, 15, none⟩) (hk.block 2 h.2 ht)).trans h.1, Nat.lt_of_lt_of_le h.2 hk.size⟩
/-- A text's digest. -/
def digP (s : ByteArray) : ByteArray := ⟨(Dg.digS (bl s)).toArray⟩
theorem digP_size (s : ByteArray) : (digP s).size = 40 := by
  show (Dg.digS (bl s)).toArray.size = 40
  rw [List.size_toArray, Dg.digS, Dg.hexS_len]
theorem dig_any (A : Option Addr) (n c : Nat) (s : ByteArray) (w : World) (hn : s.size = n) (hl : n ≤ 1000000) (hr : Rd w A (bl s)) (h : DG w) : Calls Tryd.prog 43 #[.slice A n c] w fun e w' => e = .returned (.string (digP s)) ∧ Below w.heap.size w w' := by
  subst hn
  have hl2 : (bl s).length = s.size := bl_len s
  have := Dg.digest_any A c (bl s) w (by omega) hr h.1
  rwa [hl2] at this
section
variable {C D M : Nat} {ds ns : List En}
set_option maxRecDepth 100000 in
theorem named_any (name : ByteArray) (w : World) (h : CA C D M ds ns w) (hk : name.size ≤ maxLen) : Calls Tryd.prog 45 #[.pointer (some ⟨C, 0, none⟩), .string name, .func (.func 7) #[] #[]] w fun e w' => e = .returned (.int .i64 (if nmB name then 0 else 2)) ∧ w' = w := by
  have HN := Lib.hid (none_any w h)
  have HM := Lib.hid (nm_any name w (by simp only [maxLen] at hk; omega))
  have en : ∀ args w, (callFunc 7 args).run Tryd.prog w = .ok (.enter 7 args) w := enters_of Tryd.func7 (by kernel_rfl) rfl
  clear h
  cases hb : nmB name with
  | true =>
    rw [hb] at HM
    clear hb
    go_enter Tryd.func45, Tryd.ntmps45
    go_wp2_with fail
    refine HN.out.mono ?_
    rintro e w1 ⟨rfl, rfl⟩
    go_wp2_with fail
    refine HM.out.mono ?_
    rintro e w2 ⟨rfl, rfl⟩
    go_wp2_with fail
    go_ret
    exact ⟨rfl, rfl⟩
  | false =>
    rw [hb] at HM
    clear hb
    go_enter Tryd.func45, Tryd.ntmps45
    go_wp2_with fail
    refine HN.out.mono ?_
    rintro e w1 ⟨rfl, rfl⟩
    go_wp2_with fail
    refine HM.out.mono ?_
    rintro e w2 ⟨rfl, rfl⟩
    go_wp2_with fail
    go_ret
    exact ⟨rfl, rfl⟩
/-- What stands there behind something is put under a key. -/
def putL (l : List En) (total : Nat) (key s : ByteArray) : List En := if putOk l total key s then wth En.key l ⟨key, s⟩ else l
def putE (l : List En) (total : Nat) (key s : ByteArray) : Int := if putOk l total key s then 0 else 3
theorem TC2 {w : World} (h : CA C D M ds ns w) (b : Nat) (hb : b = M) : TC C D M b := .inr (.inr hb)
theorem CA.putM {W W' : World} {l : List En} (h : CA C D M ds ns W) (hm : MP M l W') (hk : KeepT (fun b => b = M) W W') : CA C D M ds l W' :=
  ⟨(hk.block C (h.lt C (.inl rfl)) h.apart.2).trans h.box, h.dig.keep (hk.block D h.dig.lt h.ne), hm, h.ne⟩
theorem CA.putD {W W' : World} {l : List En} (h : CA C D M ds ns W) (hm : MP D l W') (hk : KeepT (fun b => b = D) W W') : CA C D M l ns W' :=
  ⟨(hk.block C (h.lt C (.inl rfl)) h.apart.1).trans h.box, hm, h.nam.keep (hk.block M h.nam.lt (fun e => h.ne e.symm)), h.ne⟩
theorem put_caM (key s : ByteArray) (w : World) (h : CA C D M ds ns w) (hk : key.size ≤ maxLen) (hd : ds.length ≤ 100000000) (hn : ns.length ≤ 100000000) (hs : s.size ≤ 9223372036854775807) :
    Calls Tryd.prog 44 #[.pointer (some ⟨C, 0, none⟩), .map (some M), .string key, .string s] w fun e w' => e = .returned (.int .i64 (putE ns (ds.length + ns.length) key s)) ∧ CA C D M ds (putL ns (ds.length + ns.length) key s) w' ∧ KeepT (TC C D M) w w' := by
  refine (put_any M ns key s w h h.nam hk hd hn hn hs).mono fun e w' hp => ?_
  unfold putE putL
  rcases hp with ⟨he, hp, hb⟩ | ⟨he, hp, hm, hkt⟩
  · rw [hp]
    exact ⟨he, h.below hb, KeepT.of_below hb⟩
  · rw [hp]
    exact ⟨he, h.putM hm hkt, hkt.mono fun b e => .inr (.inr e)⟩
theorem put_caD (key s : ByteArray) (w : World) (h : CA C D M ds ns w) (hk : key.size ≤ maxLen) (hd : ds.length ≤ 100000000) (hn : ns.length ≤ 100000000) (hs : s.size ≤ 9223372036854775807) :
    Calls Tryd.prog 44 #[.pointer (some ⟨C, 0, none⟩), .map (some D), .string key, .string s] w fun e w' => e = .returned (.int .i64 (putE ds (ds.length + ns.length) key s)) ∧ CA C D M (putL ds (ds.length + ns.length) key s) ns w' ∧ KeepT (TC C D M) w w' := by
  refine (put_any D ds key s w h h.dig hk hd hn hd hs).mono fun e w' hp => ?_
  unfold putE putL
  rcases hp with ⟨he, hp, hb⟩ | ⟨he, hp, hm, hkt⟩
  · rw [hp]
    exact ⟨he, h.below hb, KeepT.of_below hb⟩
  · rw [hp]
    exact ⟨he, h.putD hm hkt, hkt.mono fun b e => .inr (.inl e)⟩
/-- What loading tells. -/
def loadE (ns : List En) (total : Nat) (key s : ByteArray) : Int := if nmB key then putE ns total key s else 2
def loadL (ns : List En) (total : Nat) (key s : ByteArray) : List En := if nmB key then putL ns total key s else ns
set_option maxRecDepth 100000 in
theorem load_any (key s : ByteArray) (w : World) (h : CA C D M ds ns w) (hk : key.size ≤ maxLen) (hd : ds.length ≤ 100000000) (hn : ns.length ≤ 100000000) (hs : s.size ≤ 9223372036854775807) :
    Calls Tryd.prog 24 #[.pointer (some ⟨C, 0, none⟩), .string key, .string s] w fun e w' => e = .returned (.int .i64 (loadE ns (ds.length + ns.length) key s)) ∧ CA C D M ds (loadL ns (ds.length + ns.length) key s) w' ∧ KeepT (TC C D M) w w' := by
  have HN := Lib.hid (named_any key w h hk)
  have HCA := Lib.hid h
  unfold loadE loadL
  cases hb : nmB key with
  | false =>
    rw [hb] at HN
    clear hb h
    go_enter Tryd.func24, Tryd.ntmps24
    go_wp2_with fail
    refine HN.out.mono ?_
    rintro e w1 ⟨rfl, rfl⟩
    go_wp2_with fail
    go_ret
    exact ⟨rfl, HCA.out, KeepT.refl _ _⟩
  | true =>
    rw [hb] at HN
    have h1 := h.cells.2
    have HP := Lib.hid (put_caM key s w.drew (h.keep (W' := w.drew) (fun _ _ => rfl)) hk hd hn hs)
    simp only [if_true]
    generalize putE ns (ds.length + ns.length) key s = E at *
    generalize putL ns (ds.length + ns.length) key s = L at *
    clear hb h
    go_enter Tryd.func24, Tryd.ntmps24
    go_wp2_with fail
    refine HN.out.mono ?_
    rintro e w1 ⟨rfl, rfl⟩
    go_wp2_with fail
    go_region_held3 (fun W => W.cell? ⟨C, 1, none⟩ = some (.map (some M)))
      (first | assumption | go_keep | fail)
      (first
        | (go_at_call 44; with_reducible (refine HP.out.mono ?_); rintro e w5 ⟨rfl, hca, hkt⟩; have HC5 := Lib.hid hca; have HK5 := Lib.hid hkt; have hc5 := hca.cells.2; clear hca hkt))
    go_wp2_with fail
    go_ret
    exact ⟨rfl, HC5.out, HK5.out.os, HK5.out.tape, HK5.out.output, HK5.out.size, HK5.out.block⟩
end
end Go.Proofs.YtpomaabkgbaikaaDoor
