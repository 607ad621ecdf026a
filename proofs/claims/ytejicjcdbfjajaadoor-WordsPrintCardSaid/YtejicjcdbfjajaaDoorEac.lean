/- The words of a text, one after another: the iterator's contract. -/
import Derived.Test.YtejicjcdbfjajaaDoorEch
import Derived.Test.YtejicjcdbfjajaaDoorRng
import Derived.OwnWalkIn
import Derived.Deep.RegionHeld3
namespace Go.Proofs.YtejicjcdbfjajaaDoor
open Go Go.RowKit
open Go.Shelf
attribute [local go_sem] Oper.semAt_some
theorem agg_none (b : Nat) : wordV b none = .tuple #[.agg #[.int .i64 0, .string ⟨#[]⟩, .int .i64 0, .int .i64 b], .int .i64 0] := rfl
theorem agg_some (b : Nat) (k : Int) (t : List UInt8) (n : Int) (e : Nat) : wordV b (some (k, t, n, e)) = .tuple #[.agg #[.int .i64 k, .string (ofL t), .int .i64 n, .int .i64 b], .int .i64 e] := rfl
set_option maxRecDepth 100000 in
set_option maxHeartbeats 4000000 in
theorem each_seq (n E : Nat) (s : ByteArray) (w : World) (hn : 1 ≤ n) (hE : w.heap[E]? = some (.cells #[.string s] 9 (0, 0))) (hs : s.size ≤ 1000000000) (hg : SPC w) :
    SeqD n Tryd.prog 41 #[.pointer (some ⟨E, 0, none⟩)] (fun x : Itm => #[.agg (wdV x.at_ x.o), .bool x.o.isSome]) Keep9 (fun _ _ => True) (fun x => x.o = none) (fun xs => xs = lexT (bl s)) (s.size + 1) w := by
  intro f J J1 W hb hJ hY hY1 h0
  have HJ0 := Lib.hid h0
  have hbx := (hb.block E (Array.getElem?_eq_some_iff.1 hE).1).trans hE
  have hgW := spc_below hg hb
  have HBX := Lib.hid hbx
  have HG := Lib.hid hgW
  have HJ : Hid (∀ xs A B, J xs A → Below A.heap.size A B → J xs B) := Lib.hid (fun xs A B h hb => hJ xs A B none h ⟨hb.os, hb.tape, hb.output, hb.size, fun k hk _ => hb.block k hk⟩ (fun r h => by cases h))
  have HY : Hid (∀ (xs : List Itm) (b : Nat) (k : Int) (t : List UInt8) (n' : Int) (e : Nat) (A : World), J xs A → xs.length < s.size + 1 → YieldAt Fence.wide (n - 1) Tryd.prog f #[.agg #[.int .i64 k, .string (ofL t), .int .i64 n', .int .i64 b], .bool true] A fun r A' => r = .returned (.bool true) ∧ J (xs ++ [⟨b, some (k, t, n', e)⟩]) A' ∧ Keep9 A A') :=
    Lib.hid (fun xs b k t n' e A h1 h2 => hY xs ⟨b, some (k, t, n', e)⟩ A trivial h1 h2 (by simp))
  have HY1 : Hid (∀ (xs : List Itm) (b : Nat) (A : World), J xs A → xs.length < s.size + 1 → YieldAt Fence.wide (n - 1) Tryd.prog f #[.agg #[.int .i64 0, .string ⟨#[]⟩, .int .i64 0, .int .i64 b], .bool false] A fun r A' => r = .returned (.bool false) ∧ J1 (xs ++ [⟨b, none⟩]) A' ∧ Keep9 A A') :=
    Lib.hid (fun xs b A h1 h2 => hY1 xs ⟨b, none⟩ A trivial h1 h2 rfl)
  have hcell := cell_of_one hbx
  have HBL : Hid (∀ S m A, Sou A S s m → Calls Tryd.prog 43 #[SP S, .int .i64 0] A fun e w' => e = .returned (.int .i64 ((bkL (bl s) 0 : Nat) : Int)) ∧ w' = A) := Lib.hid (fun S m A h => blanks_any S s m 0 A h (Nat.zero_le _))
  have HBK : Hid (∀ S m A a, Sou A S s m → a ≤ s.size → Calls Tryd.prog 43 #[SP S, .int .i64 a] A fun e w' => e = .returned (.int .i64 ((bkL (bl s) a : Nat) : Int)) ∧ w' = A) := Lib.hid (fun S m A a h ha => blanks_any S s m a A h ha)
  have HLN : (bl s).length = s.size := bl_len s
  have hb0 := bkL_le (l := bl s) (a := 0) (Nat.zero_le _)
  rw [HLN] at hb0
  clear h0 hE hg hJ hY hY1 hb hgW hbx
  refine callsIn_of_wp Tryd.func41 rfl trivial ?_
  simp only [Tryd.ntmps41, List.size_toArray, List.length_cons, List.length_nil, Nat.reduceAdd, Nat.reduceSub, Array.replicate_succ, Array.replicate_zero, List.push_toArray, List.append_toArray, List.nil_append, List.cons_append]
  gi_wp2_with fail
  rename_i K hK
  refine wpIn_wide.2 (src_region f E s W _ HBX.out HG.out hs (by intro c a w d v h; cases d <;> exact h) ?_)
  intro S m V x9 x10 hS hV
  refine hK _ _ ?_
  clear hK K
  have HS0 := Lib.hid hS
  have HV := Lib.hid hV
  have HE0 : Hid (V.heap[E]? = some (.cells #[.string s] 9 (0, 0))) := Lib.hid ((hV.block E (Array.getElem?_eq_some_iff.1 HBX.out).1).trans HBX.out)
  have HJ1 : Hid (J [] V) := Lib.hid (HJ.out _ _ _ HJ0.out hV)
  clear hS hV hcell
  gi_wp2_with fail
  refine ⟨trivial, (callsIn_wide.2 (HBL.out S m V HS0.out)).mono ?_⟩
  rintro e w2 ⟨rfl, rfl⟩
  gi_wp2_with fail
  gi_loopw [4] (fun z wr => ∃ (xs : List Itm) (b : Nat), z = .int .i64 b ∧ b ≤ s.size ∧ Hid (lexT (bl s) = xs ++ lexB (bl s) (s.size + 1 - xs.length) b) ∧ xs.length ≤ b ∧ Hid (∀ x ∈ xs, ¬ x.o = none) ∧ Hid (J xs wr) ∧ Hid (Sou wr S s m) ∧ Hid (wr.heap[E]? = some (.cells #[.string s] 9 (0, 0)))) (fun z _ => s.size + 1 - (intOf z).toNat)
  case atStart => exact ⟨[], bkL (bl s) 0, rfl, hb0.2, Lib.hid (by rw [← HLN]; rfl), Nat.zero_le _, Lib.hid (by intro x hx; cases hx), HJ1, HS0, HE0⟩
  case round =>
    clear HJ1 HS0 HE0 HJ0 HV
    obtain ⟨xs, b, rfl, hbs, HLX, hxb, HNX, HJS, HSO, HEB⟩ := hrel
    have hcell := cell_of_one HEB.out
    by_cases hlt : b < s.size
    · have hdl : decide (b < s.size) = true := decide_eq_true hlt
      have HW := word_any S s m b wr HSO.out hlt
      obtain ⟨F, hF⟩ : ∃ F, s.size + 1 - xs.length = F + 1 := ⟨s.size - xs.length, by omega⟩
      rw [hF] at HLX
      have hxl : xs.length < s.size + 1 := by omega
      rcases hwr : wordR (bl s) b with _ | ⟨k, t, n', e⟩
      · rw [hwr] at HW
        have HLN2 : Hid (lexT (bl s) = xs ++ [⟨b, none⟩]) := Lib.hid (by rw [HLX.out, lexB_none (by rw [HLN]; exact hlt) hwr])
        have HWH : Hid (Calls Tryd.prog 44 #[SP S, .int .i64 b] wr fun e w' => e = .returned (.tuple #[.agg #[.int .i64 0, .string ⟨#[]⟩, .int .i64 0, .int .i64 b], .int .i64 0]) ∧ Below wr.heap.size wr w') := Lib.hid HW
        clear HW hwr HLX hF hlt
        gi_wp2_with fail
        refine ⟨trivial, (callsIn_wide.2 HWH.out).mono ?_⟩
        rintro e w3 ⟨rfl, hb3⟩
        have HJ3 := HJ.out _ _ _ HJS.out (hb3.trans ((below_new w3 (.cells #[.int .i64 0, .string ⟨#[]⟩, .int .i64 0, .int .i64 b] 31)).mono hb3.size))
        obtain ⟨fn, tmps, assign, body, hy, hR⟩ := HY1.out xs b (w3.alloc (.cells #[.int .i64 0, .string ⟨#[]⟩, .int .i64 0, .int .i64 b] 31)) HJ3 hxl
        clear HWH HJ3 hcell hb3
        gi_wp2_with fail
        refine hR.mono ?_
        rintro e W4 ⟨rfl, hJ4, hk4⟩
        have HJ4 := Lib.hid hJ4
        clear hJ4 hk4 hR hy
        gi_wp2_with fail
        refine bodyPost_ret (results_none rfl _ _ _) rfl ?_
        exact ⟨⟨_, rfl⟩, Or.inr ⟨xs, ⟨b, none⟩, HLN2.out.symm, HNX.out, rfl, HJ4.out⟩⟩
      · rw [hwr] at HW
        obtain ⟨hbe, hes⟩ := wordR_end hwr (by rw [HLN]; exact hbs)
        rw [HLN] at hes
        have HLN2 : Hid (lexT (bl s) = (xs ++ [⟨b, some (k, t, n', e)⟩]) ++ lexB (bl s) F (bkL (bl s) e)) := Lib.hid (by rw [HLX.out, lexB_some (by rw [HLN]; exact hlt) hwr, List.append_assoc]; rfl)
        have HWH : Hid (Calls Tryd.prog 44 #[SP S, .int .i64 b] wr fun r w' => r = .returned (.tuple #[.agg #[.int .i64 k, .string (ofL t), .int .i64 n', .int .i64 b], .int .i64 e]) ∧ Below wr.heap.size wr w') := Lib.hid HW
        have HBE := bkL_le (l := bl s) (a := e) (by rw [HLN]; exact hes)
        rw [HLN] at HBE
        have hd0 : decide (0 < e) = true := decide_eq_true (by omega)
        have hd1 : (e == 0) = false := by simp; omega
        have hd2 : ((e : Int) == 0) = false := by simp; omega
        have hd3 : decide ((0 : Int) < (e : Int)) = true := decide_eq_true (by omega)
        have HF := Lib.hid hF
        have HES := Lib.hid hes
        clear HW hwr HLX hF hlt
        gi_wp2_with fail
        refine ⟨trivial, (callsIn_wide.2 HWH.out).mono ?_⟩
        rintro r w3 ⟨rfl, hb3⟩
        have HB3 : Hid (Below wr.heap.size wr (w3.alloc (.cells #[.int .i64 k, .string (ofL t), .int .i64 n', .int .i64 b] 31))) := Lib.hid (hb3.trans ((below_new w3 _).mono hb3.size))
        have HJ3 := HJ.out _ _ _ HJS.out HB3.out
        obtain ⟨fn, tmps, assign, body, hy, hR⟩ := HY.out xs b k t n' e (w3.alloc (.cells #[.int .i64 k, .string (ofL t), .int .i64 n', .int .i64 b] 31)) HJ3 hxl
        clear HWH HJ3 hcell hb3
        gi_wp2_with fail
        refine hR.mono ?_
        rintro r W4 ⟨rfl, hJ4, hk4⟩
        have HJ4 := Lib.hid hJ4
        have HS4 := Lib.hid ((HSO.out.below HB3.out).keep hk4)
        have HE4 := Lib.hid (hk4.2.2 _ _ _ _ (Or.inr rfl) ((HB3.out.block _ (Array.getElem?_eq_some_iff.1 HEB.out).1).trans HEB.out))
        clear hJ4 hk4 hR hy
        gi_wp2_with fail
        refine ⟨trivial, (callsIn_wide.2 (HBK.out S m W4 e HS4.out HES.out)).mono ?_⟩
        rintro r w5 ⟨rfl, rfl⟩
        gi_wp2_with fail
        refine ⟨⟨xs ++ [⟨b, some (k, t, n', e)⟩], bkL (bl s) e, by go_num, HBE.2, ?_, by rw [List.length_append, List.length_singleton]; omega, ?_, HJ4, HS4, HE4⟩, ?_⟩
        · refine Lib.hid ?_
          rw [HLN2.out, List.length_append, List.length_singleton]
          have : s.size + 1 - (xs.length + 1) = F := by have := HF.out; omega
          rw [this]
        · refine Lib.hid ?_
          intro x hx
          rcases List.mem_append.1 hx with hx | hx
          · exact HNX.out x hx
          · rw [List.mem_singleton.1 hx]; simp
        · simp [intOf]; omega
    · have hdl : decide (b < s.size) = false := decide_eq_false hlt
      have HLN2 : Hid (lexT (bl s) = xs) := Lib.hid (by rw [HLX.out, lexB_end (by rw [HLN]; exact hlt), List.append_nil])
      clear hlt HLX
      gi_wp2_with fail
      exact ⟨rfl, _, results_none rfl _ _ _, ⟨_, rfl⟩, Or.inl ⟨xs, HLN2.out.symm, HNX.out, HJS.out⟩⟩
end Go.Proofs.YtejicjcdbfjajaaDoor
