/- Both tell the same of two that are put one behind the other. -/
import Derived.Test.YthbnhplkoomdhaaDoorOpAsmB
import Derived.Test.YthbnhplkoomdhaaDoorRefS
namespace Go.Proofs.YthbnhplkoomdhaaDoor
open Go Go.RowKit
theorem tl_size (k n : Int) (t : Array UInt8) (hn : Fits n) (hs : t.size ≤ 500) : (tl k n t).size ≤ 500 := by
  unfold tl
  split
  · have := itT_len n hn; omega
  · exact hs
theorem two_size (a b : Array UInt8) : (ByteArray.mk a ++ ByteArray.mk b).data.size = a.size + b.size := by
  have := ByteArray.size_append (a := ByteArray.mk a) (b := ByteArray.mk b)
  exact this
set_option maxRecDepth 10000 in
theorem both_join22 (n n' c : Int) (t t' : Array UInt8) (hn : Fits n) (hn' : Fits n') (hc0 : 0 ≤ c) (hc : c ≤ 1000) (hs : t.size ≤ 500) (hs' : t'.size ≤ 500) (hx : chk 2 n t = true) (hy : chk 2 n' t' = true) : Both #[46, 46] t t' 2 n 2 n' c := by
  have HCX := hcx_of t 2 n hs hx
  have HCY := hcx_of t' 2 n' hs' hy
  have z1 := tl_size 2 n t hn hs
  have z2 := tl_size 2 n' t' hn' hs'
  have hl : ((tl 2 n t).size : Int) + ((tl 2 n' t').size : Int) ≤ 2000 := by omega
  have hz := two_size (tl 2 n t) (tl 2 n' t')
  obtain ⟨T, hTe⟩ : ∃ T, T = (ByteArray.mk (tl 2 n t) ++ ByteArray.mk (tl 2 n' t')).data := ⟨_, rfl⟩
  have hT : T.size ≤ 2000 := by rw [hTe]; omega
  have hE : (ByteArray.mk (tl 2 n t) ++ ByteArray.mk (tl 2 n' t')) = ByteArray.mk T := by rw [hTe]
  have hk0 : 0 < kk T := by unfold kk; omega
  by_cases hf : 0 + kk T ≤ c
  · refine ⟨(0 + kk T), 3, 0, T, #[], fun W H ob hH ht => ?_, fun W G hg ht => ?_⟩
    · obtain ⟨hH, p, q, hTA⟩ := hH
      exact op_join W H ob _ c 0 2 n 2 n' (0 + kk T) #[46, 46] t t' 3 0 T #[] hx hy hH (fun w hw => look47 (hTA.below hw) #[46, 46] 5 _ (by rfl))
        (fun w hw => join_22 H ob _ c 0 n n' t t' w hn hn' (tab_below ht hw) ((hw.block _ (hlt hH)).trans hH) 3 0 T #[] (0 + kk T) hl (fun W hG => by rw [hE]; exact mkp_yes W H ob _ c 0 T hG hT (by omega) hf (by omega)))
    · exact ro_join22 n n' t t' W HCX HCY G c 0 (0 + kk T) (tl 2 n t) (tl 2 n' t') hl 3 0 T #[] ht hg (fun W hW => by have h := joined_any 2 n t W hn hW; rw [show decide ((2 : Int) = 2 ∨ (2 : Int) = 3) = true from by decide] at h; exact h) (fun W hW => by have h := joined_any 2 n' t' W hn' hW; rw [show decide ((2 : Int) = 2 ∨ (2 : Int) = 3) = true from by decide] at h; exact h) (fun W hG => by rw [hE]; exact mkr_yes W G c 0 T hG hT (by omega) hf (by omega))
  · refine ⟨0, 0, 0, #[], #[109, 101, 109, 111, 114, 121], fun W H ob hH ht => ?_, fun W G hg ht => ?_⟩
    · obtain ⟨hH, p, q, hTA⟩ := hH
      exact op_join W H ob _ c 0 2 n 2 n' 0 #[46, 46] t t' 0 0 #[] #[109, 101, 109, 111, 114, 121] hx hy hH (fun w hw => look47 (hTA.below hw) #[46, 46] 5 _ (by rfl))
        (fun w hw => join_22 H ob _ c 0 n n' t t' w hn hn' (tab_below ht hw) ((hw.block _ (hlt hH)).trans hH) 0 0 #[] #[109, 101, 109, 111, 114, 121] 0 hl (fun W hG => by rw [hE]; exact mkp_no W H ob _ c 0 T hG hT (by omega) (by omega) hc0 hc0 (by omega)))
    · exact ro_join22 n n' t t' W HCX HCY G c 0 0 (tl 2 n t) (tl 2 n' t') hl 0 0 #[] #[109, 101, 109, 111, 114, 121] ht hg (fun W hW => by have h := joined_any 2 n t W hn hW; rw [show decide ((2 : Int) = 2 ∨ (2 : Int) = 3) = true from by decide] at h; exact h) (fun W hW => by have h := joined_any 2 n' t' W hn' hW; rw [show decide ((2 : Int) = 2 ∨ (2 : Int) = 3) = true from by decide] at h; exact h) (fun W hG => by rw [hE]; exact mkr_no W G c 0 T hG hT (by omega) (by omega) hc0 hc0 (by omega))
set_option maxRecDepth 10000 in
theorem both_join23 (n n' c : Int) (t t' : Array UInt8) (hn : Fits n) (hn' : Fits n') (hc0 : 0 ≤ c) (hc : c ≤ 1000) (hs : t.size ≤ 500) (hs' : t'.size ≤ 500) (hx : chk 2 n t = true) (hy : chk 3 n' t' = true) : Both #[46, 46] t t' 2 n 3 n' c := by
  have HCX := hcx_of t 2 n hs hx
  have HCY := hcx_of t' 3 n' hs' hy
  have z1 := tl_size 2 n t hn hs
  have z2 := tl_size 3 n' t' hn' hs'
  have hl : ((tl 2 n t).size : Int) + ((tl 3 n' t').size : Int) ≤ 2000 := by omega
  have hz := two_size (tl 2 n t) (tl 3 n' t')
  obtain ⟨T, hTe⟩ : ∃ T, T = (ByteArray.mk (tl 2 n t) ++ ByteArray.mk (tl 3 n' t')).data := ⟨_, rfl⟩
  have hT : T.size ≤ 2000 := by rw [hTe]; omega
  have hE : (ByteArray.mk (tl 2 n t) ++ ByteArray.mk (tl 3 n' t')) = ByteArray.mk T := by rw [hTe]
  have hk0 : 0 < kk T := by unfold kk; omega
  by_cases hf : 0 + kk T ≤ c
  · refine ⟨(0 + kk T), 3, 0, T, #[], fun W H ob hH ht => ?_, fun W G hg ht => ?_⟩
    · obtain ⟨hH, p, q, hTA⟩ := hH
      exact op_join W H ob _ c 0 2 n 3 n' (0 + kk T) #[46, 46] t t' 3 0 T #[] hx hy hH (fun w hw => look47 (hTA.below hw) #[46, 46] 5 _ (by rfl))
        (fun w hw => join_23 H ob _ c 0 n n' t t' w hn hn' (tab_below ht hw) ((hw.block _ (hlt hH)).trans hH) 3 0 T #[] (0 + kk T) hl (fun W hG => by rw [hE]; exact mkp_yes W H ob _ c 0 T hG hT (by omega) hf (by omega)))
    · exact ro_join23 n n' t t' W HCX HCY G c 0 (0 + kk T) (tl 2 n t) (tl 3 n' t') hl 3 0 T #[] ht hg (fun W hW => by have h := joined_any 2 n t W hn hW; rw [show decide ((2 : Int) = 2 ∨ (2 : Int) = 3) = true from by decide] at h; exact h) (fun W hW => by have h := joined_any 3 n' t' W hn' hW; rw [show decide ((3 : Int) = 2 ∨ (3 : Int) = 3) = true from by decide] at h; exact h) (fun W hG => by rw [hE]; exact mkr_yes W G c 0 T hG hT (by omega) hf (by omega))
  · refine ⟨0, 0, 0, #[], #[109, 101, 109, 111, 114, 121], fun W H ob hH ht => ?_, fun W G hg ht => ?_⟩
    · obtain ⟨hH, p, q, hTA⟩ := hH
      exact op_join W H ob _ c 0 2 n 3 n' 0 #[46, 46] t t' 0 0 #[] #[109, 101, 109, 111, 114, 121] hx hy hH (fun w hw => look47 (hTA.below hw) #[46, 46] 5 _ (by rfl))
        (fun w hw => join_23 H ob _ c 0 n n' t t' w hn hn' (tab_below ht hw) ((hw.block _ (hlt hH)).trans hH) 0 0 #[] #[109, 101, 109, 111, 114, 121] 0 hl (fun W hG => by rw [hE]; exact mkp_no W H ob _ c 0 T hG hT (by omega) (by omega) hc0 hc0 (by omega)))
    · exact ro_join23 n n' t t' W HCX HCY G c 0 0 (tl 2 n t) (tl 3 n' t') hl 0 0 #[] #[109, 101, 109, 111, 114, 121] ht hg (fun W hW => by have h := joined_any 2 n t W hn hW; rw [show decide ((2 : Int) = 2 ∨ (2 : Int) = 3) = true from by decide] at h; exact h) (fun W hW => by have h := joined_any 3 n' t' W hn' hW; rw [show decide ((3 : Int) = 2 ∨ (3 : Int) = 3) = true from by decide] at h; exact h) (fun W hG => by rw [hE]; exact mkr_no W G c 0 T hG hT (by omega) (by omega) hc0 hc0 (by omega))
set_option maxRecDepth 10000 in
theorem both_join32 (n n' c : Int) (t t' : Array UInt8) (hn : Fits n) (hn' : Fits n') (hc0 : 0 ≤ c) (hc : c ≤ 1000) (hs : t.size ≤ 500) (hs' : t'.size ≤ 500) (hx : chk 3 n t = true) (hy : chk 2 n' t' = true) : Both #[46, 46] t t' 3 n 2 n' c := by
  have HCX := hcx_of t 3 n hs hx
  have HCY := hcx_of t' 2 n' hs' hy
  have z1 := tl_size 3 n t hn hs
  have z2 := tl_size 2 n' t' hn' hs'
  have hl : ((tl 3 n t).size : Int) + ((tl 2 n' t').size : Int) ≤ 2000 := by omega
  have hz := two_size (tl 3 n t) (tl 2 n' t')
  obtain ⟨T, hTe⟩ : ∃ T, T = (ByteArray.mk (tl 3 n t) ++ ByteArray.mk (tl 2 n' t')).data := ⟨_, rfl⟩
  have hT : T.size ≤ 2000 := by rw [hTe]; omega
  have hE : (ByteArray.mk (tl 3 n t) ++ ByteArray.mk (tl 2 n' t')) = ByteArray.mk T := by rw [hTe]
  have hk0 : 0 < kk T := by unfold kk; omega
  by_cases hf : 0 + kk T ≤ c
  · refine ⟨(0 + kk T), 3, 0, T, #[], fun W H ob hH ht => ?_, fun W G hg ht => ?_⟩
    · obtain ⟨hH, p, q, hTA⟩ := hH
      exact op_join W H ob _ c 0 3 n 2 n' (0 + kk T) #[46, 46] t t' 3 0 T #[] hx hy hH (fun w hw => look47 (hTA.below hw) #[46, 46] 5 _ (by rfl))
        (fun w hw => join_32 H ob _ c 0 n n' t t' w hn hn' (tab_below ht hw) ((hw.block _ (hlt hH)).trans hH) 3 0 T #[] (0 + kk T) hl (fun W hG => by rw [hE]; exact mkp_yes W H ob _ c 0 T hG hT (by omega) hf (by omega)))
    · exact ro_join32 n n' t t' W HCX HCY G c 0 (0 + kk T) (tl 3 n t) (tl 2 n' t') hl 3 0 T #[] ht hg (fun W hW => by have h := joined_any 3 n t W hn hW; rw [show decide ((3 : Int) = 2 ∨ (3 : Int) = 3) = true from by decide] at h; exact h) (fun W hW => by have h := joined_any 2 n' t' W hn' hW; rw [show decide ((2 : Int) = 2 ∨ (2 : Int) = 3) = true from by decide] at h; exact h) (fun W hG => by rw [hE]; exact mkr_yes W G c 0 T hG hT (by omega) hf (by omega))
  · refine ⟨0, 0, 0, #[], #[109, 101, 109, 111, 114, 121], fun W H ob hH ht => ?_, fun W G hg ht => ?_⟩
    · obtain ⟨hH, p, q, hTA⟩ := hH
      exact op_join W H ob _ c 0 3 n 2 n' 0 #[46, 46] t t' 0 0 #[] #[109, 101, 109, 111, 114, 121] hx hy hH (fun w hw => look47 (hTA.below hw) #[46, 46] 5 _ (by rfl))
        (fun w hw => join_32 H ob _ c 0 n n' t t' w hn hn' (tab_below ht hw) ((hw.block _ (hlt hH)).trans hH) 0 0 #[] #[109, 101, 109, 111, 114, 121] 0 hl (fun W hG => by rw [hE]; exact mkp_no W H ob _ c 0 T hG hT (by omega) (by omega) hc0 hc0 (by omega)))
    · exact ro_join32 n n' t t' W HCX HCY G c 0 0 (tl 3 n t) (tl 2 n' t') hl 0 0 #[] #[109, 101, 109, 111, 114, 121] ht hg (fun W hW => by have h := joined_any 3 n t W hn hW; rw [show decide ((3 : Int) = 2 ∨ (3 : Int) = 3) = true from by decide] at h; exact h) (fun W hW => by have h := joined_any 2 n' t' W hn' hW; rw [show decide ((2 : Int) = 2 ∨ (2 : Int) = 3) = true from by decide] at h; exact h) (fun W hG => by rw [hE]; exact mkr_no W G c 0 T hG hT (by omega) (by omega) hc0 hc0 (by omega))
set_option maxRecDepth 10000 in
theorem both_join33 (n n' c : Int) (t t' : Array UInt8) (hn : Fits n) (hn' : Fits n') (hc0 : 0 ≤ c) (hc : c ≤ 1000) (hs : t.size ≤ 500) (hs' : t'.size ≤ 500) (hx : chk 3 n t = true) (hy : chk 3 n' t' = true) : Both #[46, 46] t t' 3 n 3 n' c := by
  have HCX := hcx_of t 3 n hs hx
  have HCY := hcx_of t' 3 n' hs' hy
  have z1 := tl_size 3 n t hn hs
  have z2 := tl_size 3 n' t' hn' hs'
  have hl : ((tl 3 n t).size : Int) + ((tl 3 n' t').size : Int) ≤ 2000 := by omega
  have hz := two_size (tl 3 n t) (tl 3 n' t')
  obtain ⟨T, hTe⟩ : ∃ T, T = (ByteArray.mk (tl 3 n t) ++ ByteArray.mk (tl 3 n' t')).data := ⟨_, rfl⟩
  have hT : T.size ≤ 2000 := by rw [hTe]; omega
  have hE : (ByteArray.mk (tl 3 n t) ++ ByteArray.mk (tl 3 n' t')) = ByteArray.mk T := by rw [hTe]
  have hk0 : 0 < kk T := by unfold kk; omega
  by_cases hf : 0 + kk T ≤ c
  · refine ⟨(0 + kk T), 3, 0, T, #[], fun W H ob hH ht => ?_, fun W G hg ht => ?_⟩
    · obtain ⟨hH, p, q, hTA⟩ := hH
      exact op_join W H ob _ c 0 3 n 3 n' (0 + kk T) #[46, 46] t t' 3 0 T #[] hx hy hH (fun w hw => look47 (hTA.below hw) #[46, 46] 5 _ (by rfl))
        (fun w hw => join_33 H ob _ c 0 n n' t t' w hn hn' (tab_below ht hw) ((hw.block _ (hlt hH)).trans hH) 3 0 T #[] (0 + kk T) hl (fun W hG => by rw [hE]; exact mkp_yes W H ob _ c 0 T hG hT (by omega) hf (by omega)))
    · exact ro_join33 n n' t t' W HCX HCY G c 0 (0 + kk T) (tl 3 n t) (tl 3 n' t') hl 3 0 T #[] ht hg (fun W hW => by have h := joined_any 3 n t W hn hW; rw [show decide ((3 : Int) = 2 ∨ (3 : Int) = 3) = true from by decide] at h; exact h) (fun W hW => by have h := joined_any 3 n' t' W hn' hW; rw [show decide ((3 : Int) = 2 ∨ (3 : Int) = 3) = true from by decide] at h; exact h) (fun W hG => by rw [hE]; exact mkr_yes W G c 0 T hG hT (by omega) hf (by omega))
  · refine ⟨0, 0, 0, #[], #[109, 101, 109, 111, 114, 121], fun W H ob hH ht => ?_, fun W G hg ht => ?_⟩
    · obtain ⟨hH, p, q, hTA⟩ := hH
      exact op_join W H ob _ c 0 3 n 3 n' 0 #[46, 46] t t' 0 0 #[] #[109, 101, 109, 111, 114, 121] hx hy hH (fun w hw => look47 (hTA.below hw) #[46, 46] 5 _ (by rfl))
        (fun w hw => join_33 H ob _ c 0 n n' t t' w hn hn' (tab_below ht hw) ((hw.block _ (hlt hH)).trans hH) 0 0 #[] #[109, 101, 109, 111, 114, 121] 0 hl (fun W hG => by rw [hE]; exact mkp_no W H ob _ c 0 T hG hT (by omega) (by omega) hc0 hc0 (by omega)))
    · exact ro_join33 n n' t t' W HCX HCY G c 0 0 (tl 3 n t) (tl 3 n' t') hl 0 0 #[] #[109, 101, 109, 111, 114, 121] ht hg (fun W hW => by have h := joined_any 3 n t W hn hW; rw [show decide ((3 : Int) = 2 ∨ (3 : Int) = 3) = true from by decide] at h; exact h) (fun W hW => by have h := joined_any 3 n' t' W hn' hW; rw [show decide ((3 : Int) = 2 ∨ (3 : Int) = 3) = true from by decide] at h; exact h) (fun W hG => by rw [hE]; exact mkr_no W G c 0 T hG hT (by omega) (by omega) hc0 hc0 (by omega))
theorem both_jointype (t t' : Array UInt8) (k n k' n' c : Int) (hn : Fits n) (hn' : Fits n') (hs : t.size ≤ 500) (hs' : t'.size ≤ 500) (hx : chk k n t = true) (hy : chk k' n' t' = true) (hb : ¬ ((k = 2 ∨ k = 3) ∧ (k' = 2 ∨ k' = 3))) : Both #[46, 46] t t' k n k' n' c := by
  have HCX := hcx_of t k n hs hx
  have HCY := hcx_of t' k' n' hs' hy
  have HP : ∀ (h : Value) (w : World), Calls Tryd.prog 33 #[h, .agg #[.int .i64 k, .int .i64 n, .string { data := t }], .agg #[.int .i64 k', .int .i64 n', .string { data := t' }]] w fun e w' => e = .returned (.tuple #[valNo, .string { data := #[116, 121, 112, 101] }]) ∧ Below w.heap.size w w' := fun h w => by
    by_cases h2 : k = 2
    · have : ¬ (k' = 2 ∨ k' = 3) := fun h => hb ⟨.inl h2, h⟩
      exact join_bad2 h k n k' n' t t' w h2 (by simp; omega) (by simp; omega)
    · by_cases h3 : k = 3
      · have : ¬ (k' = 2 ∨ k' = 3) := fun h => hb ⟨.inr h3, h⟩
        exact join_bad3 h k n k' n' t t' w h3 (by simp; omega) (by simp; omega)
      · exact join_bad1 h k n k' n' t t' w (by simp; omega) (by simp; omega)
  refine ⟨0, 0, 0, #[], #[116, 121, 112, 101], fun W H ob hH _ => opc_join_type k n k' n' t t' hx hy HP W H ob _ c 0 hH, fun W G hg ht => ?_⟩
  have fin : ∀ (e : Ending) (w' : World), (e = .returned (.tuple #[valNo, .string { data := #[116, 121, 112, 101] }]) ∧ Below W.heap.size W w') → (e = .returned (.tuple #[valNo, .string { data := #[116, 121, 112, 101] }]) ∧ w'.heap[G]? = some (.cells #[.slice none 0 0, .int .i64 c, .int .i64 0] 38 (0, 0)) ∧ KB G W w') := fun e w' ⟨a, b⟩ => ⟨a, (b.block _ (hlt hg)).trans hg, KB.of_below G b (hlt hg)⟩
  rcases kinds k k' with ⟨rfl, e⟩ | ⟨rfl, e⟩ | ⟨rfl, e⟩ | ⟨rfl, e⟩ | ⟨e, e3⟩
  · exact absurd ⟨.inl rfl, .inl (by simpa using e)⟩ hb
  · have hd : decide (k' = 2 ∨ k' = 3) = false := by simp only [decide_eq_false_iff_not]; exact fun h => hb ⟨by omega, h⟩
    exact (ro_joinbadB (.pointer (some ⟨G, 0, none⟩)) n k' n' t t' W e HCX HCY (tl 2 n t) (tl k' n' t') ht (fun W hW => by have h := joined_any 2 n t W hn hW; rw [show decide ((2 : Int) = 2 ∨ (2 : Int) = 3) = true from by decide] at h; exact h) (fun W hW => by have h := joined_any k' n' t' W hn' hW; rw [hd] at h; exact h)).mono fin
  · exact absurd ⟨.inr rfl, .inr (by simpa using e)⟩ hb
  · have hd : decide (k' = 2 ∨ k' = 3) = false := by simp only [decide_eq_false_iff_not]; exact fun h => hb ⟨by omega, h⟩
    exact (ro_joinbadD (.pointer (some ⟨G, 0, none⟩)) n k' n' t t' W e HCX HCY (tl 3 n t) (tl k' n' t') ht (fun W hW => by have h := joined_any 3 n t W hn hW; rw [show decide ((3 : Int) = 2 ∨ (3 : Int) = 3) = true from by decide] at h; exact h) (fun W hW => by have h := joined_any k' n' t' W hn' hW; rw [hd] at h; exact h)).mono fin
  · have hd : decide (k = 2 ∨ k = 3) = false := by simp only [decide_eq_false_iff_not]; simp at e e3; omega
    exact (ro_joinbadE (.pointer (some ⟨G, 0, none⟩)) k n k' n' t t' W e e3 HCX HCY _ (tl k n t) (tl k' n' t') ht (fun W hW => by have h := joined_any k n t W hn hW; rw [hd] at h; exact h) (fun W hW => joined_any k' n' t' W hn' hW)).mono fin
end Go.Proofs.YthbnhplkoomdhaaDoor
