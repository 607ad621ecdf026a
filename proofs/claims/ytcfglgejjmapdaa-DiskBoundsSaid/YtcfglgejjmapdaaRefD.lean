/- The reference's lists: without a file. -/
import Derived.Test.YtcfglgejjmapdaaTell
namespace Go.Proofs.Ytcfglgejjmapdaa
open Go Go.RowKit Go.Shelf
section
variable {w : World} {ops : Array Oper} {rest : List Oper} {o : Oper} {a : Act} {Q : Exit → Act → World → Prop}
theorem wpList_files (hg : o.guard = none) (s x : Operand) (ho : o.op = .call { callee := .builtin .append, args := #[s, x], argTypes := #[24, 24] })
    (base : Nat) (v : Value) (l : List F) (N : Nat) (hN : l.length = N) (hs : a.eval s = v) (hown : w.ownsRow base 27 3 v N (cellsF l)) (A : Option Addr) (n c : Nat) (m : List F) (hm : m.length = n) (hx : a.eval x = .slice A n c)
    (hr : RdF w A m) (hn : A = none → c = 0) (hc : n ≤ c) (b1 : N + n ≤ 1000000) (hb : base ≤ w.heap.size) (hA : ∀ ad, A = some ad → ad.spot = none)
    (hK : ∀ v' w', w'.ownsRow base 27 3 v' (N + n) (cellsF (l ++ m)) → Below base w w' → w.heap.size ≤ w'.heap.size → wpList Try.prog ops Q rest (a.put o.dst v') w') : wpList Try.prog ops Q (o :: rest) a w := by
  obtain ⟨v', w', h1, h2, h3, _⟩ := run_files (w := w) o.type base v l N hN hown A n c m hm hr hn hc b1 hb hA
  exact wpList_app hg s x #[24, 24] ho v _ v' w' hs hx h1 (hK v' w' h2 ((Below.refl base w).grown h3 hb (fun k hk => (hown.lt k hk).1)) h3.size)
end
theorem drp_next {l : List F} {k : Nat} {x : F} (hxt : l.take (k + 1) = l.take k ++ [x]) (nm : ByteArray) : drp F.name (l.take (k + 1)) nm = drp F.name (l.take k) nm ++ (if x.name = nm then [] else [x]) := by
  rw [hxt]
  unfold drp
  rw [List.filter_append, List.filter_cons, List.filter_nil]
  by_cases h : x.name = nm
  · subst h; simp
  · have : (bl x.name == bl nm) = false := by simpa using fun e => h (bl_inj e)
    rw [this, if_neg h]; rfl
theorem drp_len (l : List F) (nm : ByteArray) : (drp F.name l nm).length ≤ l.length := List.length_filter_le _ _
theorem file_new (w : World) (x : F) : RdF (w.alloc (.cells #[.string x.name, .string x.bytes, .int .i64 x.sync] 27)) (some ⟨w.heap.size, 0, none⟩) [x] := new_rdF w [x]
set_option maxRecDepth 100000 in
set_option maxHeartbeats 8000000 in
theorem drop_any (A : Option Addr) (n c : Nat) (ls : List F) (nm : ByteArray) (w : World) (hn : ls.length = n) (bn : n ≤ 100000) (ha : RdF w A ls) :
    Calls Try.prog 39 #[.slice A n c, .string nm] w (TellQ w (drp F.name ls nm)) := by
  have HN := Lib.hid hn
  have HA := Lib.hid ha
  clear hn ha
  go_enter Try.func39, Try.ntmps39
  go_wp2_with fail
  go_loopw [5, 6] (fun v i W => ∃ k : Nat, k ≤ n ∧ i = .int .i64 k ∧ Hid (W.ownsRow w.heap.size 27 3 v (drp F.name (ls.take k) nm).length (cellsF (drp F.name (ls.take k) nm))) ∧ Hid (Below w.heap.size w W)) (fun _ i _ => n - (intOf i).toNat)
  case atStart => exact ⟨0, Nat.zero_le _, rfl, Lib.hid (World.ownsRow_nil _ _ _ _), Lib.hid (Below.refl _ _)⟩
  case round =>
    obtain ⟨k, hk, rfl, HO, HB⟩ := hrel
    by_cases hlt : k < n
    · have hkn : k < ls.length := by have := HN.out; omega
      obtain ⟨b, off, rfl, hbb, k0, k1, k2⟩ := (HA.out.below HB.out).at hkn
      obtain ⟨x, hx, hxt⟩ := fil_at hkn
      rw [hx] at k0 k1 k2
      have hdl := drp_len (ls.take k) nm
      have htl : (ls.take k).length ≤ n := by rw [List.length_take]; omega
      by_cases he : x.name = nm
      · have HD : Hid (drp F.name (ls.take (k + 1)) nm = drp F.name (ls.take k) nm) := Lib.hid (by rw [drp_next hxt nm, if_pos he, List.append_nil])
        have hb : (x.name.toList == nm.toList) = true := by rw [he]; exact bytes_eq _
        clear hx hxt HA k1 k2 he
        go_wp2_with fail
        go_roundw
        case rel => exact ⟨k + 1, by omega, by go_num, by rw [HD.out]; exact HO, HB⟩
        case measure => simp [intOf]; omega
      · have HD : Hid (drp F.name (ls.take (k + 1)) nm = drp F.name (ls.take k) nm ++ [x]) := Lib.hid (by rw [drp_next hxt nm, if_neg he])
        have hb : (x.name.toList == nm.toList) = false := bytes_ne he
        have hW := below_new wr (.cells #[.string x.name, .string x.bytes, .int .i64 x.sync] 27)
        have HO2 := Lib.hid (own_belows HO.out hW)
        have HR := Lib.hid (file_new wr x)
        have HB2 := Lib.hid (HB.out.alloc HB.out.size (.cells #[.string x.name, .string x.bytes, .int .i64 x.sync] 27))
        clear hx hxt HA he hW
        go_wp2_with (at_builtin; refine wpList_files rfl (.tmp 20) (.tmp 25) rfl w.heap.size _ _ _ rfl rfl HO2.out (some ⟨wr.heap.size, 0, none⟩) 1 1 [x] rfl rfl HR.out (fun e => by cases e) (Nat.le_refl _) (by omega) HB2.out.size (fun ad e => by cases e; rfl) ?_; intro v7 w7 ho7 hb7 hs7; have HO7 := Lib.hid ho7; have HB7 := Lib.hid (HB2.out.trans hb7); clear ho7 hb7 hs7)
        go_roundw
        case rel => exact ⟨k + 1, by omega, by go_num, by rw [HD.out, List.length_append]; exact HO7, HB7⟩
        case measure => simp [intOf]; omega
    · obtain rfl : k = n := by omega
      have HTK : Hid (ls.take k = ls) := Lib.hid (List.take_of_length_le (by have := HN.out; omega))
      rw [HTK.out] at HO
      clear HA
      go_wp2_with fail
      go_ret
      exact ⟨_, rfl, HO.out, HB.out⟩
end Go.Proofs.Ytcfglgejjmapdaa
