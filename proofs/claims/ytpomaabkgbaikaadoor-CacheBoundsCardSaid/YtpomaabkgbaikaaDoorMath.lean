/- Files in order, plainly: what is found, put, dropped; a map of their blocks. -/
import Derived.Test.YtpomaabkgbaikaaDoorBase
import Derived.Maps.Ext
import Derived.Maps.Views
import Derived.Sort.KeysCollected
import Derived.Sort.Walk0
namespace Go.Proofs.YtpomaabkgbaikaaDoor
open Go

/-- Is a text below another one? -/
def ltB (a b : ByteArray) : Bool := decide (bl a < bl b)
theorem ltB_irrefl (a : ByteArray) : ltB a a = false := by simp [ltB, List.lt_irrefl]
theorem ltB_trans {a b c : ByteArray} (h : ltB a b = true) (k : ltB b c = true) : ltB a c = true := by
  simp only [ltB, decide_eq_true_eq] at *; exact List.lt_trans h k
theorem ltB_total {a b : ByteArray} (h : a ≠ b) : ltB a b = true ∨ ltB b a = true := by
  simp only [ltB, decide_eq_true_eq]
  rcases Classical.em (bl a < bl b) with h1 | h1
  · exact .inl h1
  · right
    rcases Classical.em (bl b < bl a) with h2 | h2
    · exact h2
    · exact absurd (bl_inj (List.le_antisymm (List.not_lt.1 h2) (List.not_lt.1 h1))) h
theorem ltB_ne {a b : ByteArray} (h : ltB a b = true) : a ≠ b := by
  rintro rfl; rw [ltB_irrefl] at h; cases h
theorem ltB_asymm {a b : ByteArray} (h : ltB a b = true) : ltB b a = false := by
  cases h2 : ltB b a
  · rfl
  · have := ltB_trans h h2; rw [ltB_irrefl] at this; cases this
theorem before_eq : ∀ (a b : List UInt8), bytesBefore a b = decide (a < b)
  | [], [] => by simp [bytesBefore, List.lt_irrefl]
  | [], b :: s => by simp [bytesBefore]
  | a :: r, [] => by simp [bytesBefore]
  | a :: r, b :: s => by
    rw [bytesBefore, before_eq r s, Bool.eq_iff_iff]
    simp [List.cons_lt_cons_iff]
theorem less_eq (a b : ByteArray) : Op.bytesLess a.toList b.toList = ltB a b := by
  rw [bytesLess_eq, Lib.toList_data, Lib.toList_data]; rfl

section
variable {α : Type} (nm : α → ByteArray)
/-- Rising names. -/
def Rising (l : List α) : Prop := l.Pairwise fun f g => ltB (nm f) (nm g) = true
/-- Without a name. -/
def drp (l : List α) (n : ByteArray) : List α := l.filter fun f => !(bl (nm f) == bl n)
/-- What bears a name. -/
def fnd (l : List α) (n : ByteArray) : Option α := l.find? fun f => bl (nm f) == bl n
/-- With something, by its name. -/
def wth (l : List α) (x : α) : List α := (drp nm l (nm x)).takeWhile (fun g => ltB (nm g) (nm x)) ++ x :: (drp nm l (nm x)).dropWhile (fun g => ltB (nm g) (nm x))
variable {nm}
theorem Rising.drp {l : List α} (h : Rising nm l) (n : ByteArray) : Rising nm (drp nm l n) := List.Pairwise.filter _ h
theorem drp_ne {l : List α} {n : ByteArray} {f : α} (h : f ∈ drp nm l n) : nm f ≠ n := by
  have := (List.mem_filter.1 h).2
  simp at this
  exact fun e => this (by rw [e])
theorem takeWhile_lt {x : α} : ∀ {l : List α} (_ : Rising nm l), ∀ f ∈ l.takeWhile (fun g => ltB (nm g) (nm x)), ltB (nm f) (nm x) = true
  | [], _, f, hf => by simp at hf
  | a :: r, h, f, hf => by
    rw [List.takeWhile_cons] at hf
    split at hf
    · rename_i ha
      rcases List.mem_cons.1 hf with rfl | hf
      · exact ha
      · exact takeWhile_lt (List.pairwise_cons.1 h).2 f hf
    · simp at hf
theorem dropWhile_gt : ∀ {l : List α} {x : α}, Rising nm l → (∀ f ∈ l, nm f ≠ nm x) → ∀ f ∈ l.dropWhile (fun g => ltB (nm g) (nm x)), ltB (nm x) (nm f) = true
  | [], _, _, _ => by simp
  | a :: r, x, h, hn => by
    obtain ⟨h1, h2⟩ := List.pairwise_cons.1 h
    intro f hf
    rw [List.dropWhile_cons] at hf
    split at hf
    · exact dropWhile_gt h2 (fun g hg => hn g (by simp [hg])) f hf
    · rename_i hax
      have hxa : ltB (nm x) (nm a) = true := by
        rcases ltB_total (hn a (by simp)) with h3 | h3
        · exact absurd h3 hax
        · exact h3
      rcases List.mem_cons.1 hf with rfl | hf
      · exact hxa
      · exact ltB_trans hxa (h1 f hf)
theorem Rising.wth {l : List α} (h : Rising nm l) (x : α) : Rising nm (wth nm l x) := by
  have hd := h.drp (nm x)
  unfold Go.Proofs.YtpomaabkgbaikaaDoor.wth Rising
  refine List.pairwise_append.2 ⟨hd.sublist (List.takeWhile_sublist _), List.pairwise_cons.2 ⟨dropWhile_gt hd (fun f hf => drp_ne hf), hd.sublist (List.dropWhile_sublist _)⟩, ?_⟩
  intro a ha b hb
  have h1 := takeWhile_lt (x := x) hd a ha
  rcases List.mem_cons.1 hb with rfl | hb
  · exact h1
  · exact ltB_trans h1 (dropWhile_gt hd (fun f hf => drp_ne hf) b hb)
theorem mem_wth {l : List α} {x f : α} : f ∈ wth nm l x ↔ f = x ∨ (f ∈ l ∧ nm f ≠ nm x) := by
  unfold wth
  rw [List.mem_append, List.mem_cons]
  have h : f ∈ drp nm l (nm x) ↔ f ∈ l ∧ nm f ≠ nm x := by
    unfold drp
    rw [List.mem_filter]
    simp only [Bool.not_eq_true', beq_eq_false_iff_ne, ne_eq]
    exact ⟨fun ⟨a, b⟩ => ⟨a, fun e => b (by rw [e])⟩, fun ⟨a, b⟩ => ⟨a, fun e => b (bl_inj e)⟩⟩
  rw [← h]
  have h2 := List.takeWhile_append_dropWhile (p := fun g => ltB (nm g) (nm x)) (l := drp nm l (nm x))
  constructor
  · rintro (h3 | h3 | h3)
    · exact .inr (by rw [← h2]; exact List.mem_append_left _ h3)
    · exact .inl h3
    · exact .inr (by rw [← h2]; exact List.mem_append_right _ h3)
  · rintro (h3 | h3)
    · exact .inr (.inl h3)
    · rw [← h2] at h3
      rcases List.mem_append.1 h3 with h4 | h4
      · exact .inl h4
      · exact .inr (.inr h4)
theorem wth_map {β : Type} (f : β → α) (l : List β) (x : β) : (wth (fun b => nm (f b)) l x).map f = wth nm (l.map f) (f x) := by
  unfold wth drp
  rw [List.map_append, List.map_cons, List.filter_map, List.takeWhile_map, List.dropWhile_map]
  rfl
theorem drp_map {β : Type} (f : β → α) (l : List β) (n : ByteArray) : (drp (fun b => nm (f b)) l n).map f = drp nm (l.map f) n := by
  unfold drp
  rw [List.filter_map]
  rfl
theorem fnd_map {β : Type} (f : β → α) (l : List β) (n : ByteArray) : (fnd (fun b => nm (f b)) l n).map f = fnd nm (l.map f) n := by
  unfold fnd
  rw [List.find?_map]
  rfl
theorem fnd_mem {l : List α} {n : ByteArray} {f : α} (h : fnd nm l n = some f) : f ∈ l ∧ nm f = n := by
  refine ⟨List.mem_of_find?_eq_some h, bl_inj ?_⟩
  have := List.find?_some h
  simpa using this
theorem fnd_none {l : List α} {n : ByteArray} : fnd nm l n = none ↔ ∀ f ∈ l, nm f ≠ n := by
  unfold fnd
  rw [List.find?_eq_none]
  simp only [beq_iff_eq]
  exact ⟨fun h f hf e => h f hf (by rw [e]), fun h f hf e => h f hf (bl_inj e)⟩
theorem fnd_eq {l : List α} (h : Rising nm l) {f : α} (hf : f ∈ l) : fnd nm l (nm f) = some f := by
  cases hq : fnd nm l (nm f) with
  | none => exact absurd rfl (fnd_none.1 hq f hf)
  | some g =>
    obtain ⟨hg, e⟩ := fnd_mem hq
    by_cases hfg : f = g
    · rw [hfg]
    · exfalso
      have key : ∀ {l : List α}, Rising nm l → ∀ {a b : α}, a ∈ l → b ∈ l → a ≠ b → nm a ≠ nm b := by
        intro l
        induction l with
        | nil => intro _ a b ha; simp at ha
        | cons c r ih =>
          intro h a b ha hb hab
          obtain ⟨h1, h2⟩ := List.pairwise_cons.1 h
          rcases List.mem_cons.1 ha with ea | ha2
          · rcases List.mem_cons.1 hb with eb | hb2
            · exact absurd (ea.trans eb.symm) hab
            · rw [ea]; exact ltB_ne (h1 b hb2)
          · rcases List.mem_cons.1 hb with eb | hb2
            · rw [eb]; exact (ltB_ne (h1 a ha2)).symm
            · exact ih h2 ha2 hb2 hab
      exact key h hf hg hfg e.symm
end

/-- A map's entry: a name, a block. -/
def ent {α : Type} (nm : α → ByteArray) (kk : α → ByteArray) (g : α) : Lit × DataW Unit := (.string (bl (nm g)), .lit (.string (bl (kk g))))
section
variable {α : Type} {nm : α → ByteArray} {kk : α → ByteArray}
/-- What reads as a pointer. -/
def dMap (nm : α → ByteArray) (kk : α → ByteArray) (l : List α) : DataW Unit := .map (l.map (ent nm kk))
theorem at_ent (l : List α) (n : ByteArray) (z : DataW Unit) : (dMap nm kk l).atKey (.string (bl n)) z = match fnd nm l n with | some g => .lit (.string (bl (kk g))) | none => z := by
  unfold dMap fnd
  simp only [DataW.atKey, List.find?_map]
  have : ((fun p : Lit × DataW Unit => p.1.sameKey (.string (bl n))) ∘ ent nm kk) = fun f => bl (nm f) == bl n := rfl
  rw [this]
  cases List.find? (fun f => bl (nm f) == bl n) l <;> rfl
theorem del_ent (l : List α) (n : ByteArray) : (dMap nm kk l).del (.string (bl n)) = dMap nm kk (drp nm l n) := by
  unfold dMap drp
  show DataW.map ((l.map (ent nm kk)).filter fun p => !p.1.sameKey (.string (bl n))) = _
  rw [List.filter_map]
  rfl
theorem insert_ent : ∀ {l : List α} (x : α), Rising nm l → (∀ f ∈ l, nm f ≠ nm x) →
    DataW.insert (ent nm kk x) (l.map (ent nm kk)) = (l.takeWhile (fun g => ltB (nm g) (nm x)) ++ x :: l.dropWhile (fun g => ltB (nm g) (nm x))).map (ent nm kk)
  | [], x, _, _ => rfl
  | a :: r, x, h, hn => by
    obtain ⟨h1, h2⟩ := List.pairwise_cons.1 h
    have hb : (ent nm kk x).1.before (ent nm kk a).1 = ltB (nm x) (nm a) := before_eq _ _
    rw [List.map_cons, DataW.insert, hb]
    rcases ltB_total (hn a (by simp)) with h3 | h3
    · rw [ltB_asymm h3, if_neg (by simp), insert_ent x h2 (fun g hg => hn g (by simp [hg]))]
      rw [List.takeWhile_cons_of_pos (p := fun g => ltB (nm g) (nm x)) h3, List.dropWhile_cons_of_pos (p := fun g => ltB (nm g) (nm x)) h3]
      rfl
    · rw [h3, if_pos rfl]
      rw [List.takeWhile_cons_of_neg (p := fun g => ltB (nm g) (nm x)) (by rw [ltB_asymm h3]; simp), List.dropWhile_cons_of_neg (p := fun g => ltB (nm g) (nm x)) (by rw [ltB_asymm h3]; simp)]
      rfl
theorem put_ent {l : List α} (x : α) (h : Rising nm l) : (dMap nm kk l).put (.string (bl (nm x))) (.lit (.string (bl (kk x)))) = dMap nm kk (wth nm l x) := by
  unfold dMap wth
  show DataW.map (DataW.insert (ent nm kk x) ((l.map (ent nm kk)).filter fun p => !p.1.sameKey (.string (bl (nm x))))) = _
  rw [List.filter_map]
  congr 1
  exact insert_ent x (h.drp (nm x)) (fun f hf => drp_ne hf)
theorem keys_ent (l : List α) : strKeys (dMap nm kk l) = l.map fun g => bl (nm g) := by
  show (l.map (ent nm kk)).map (fun p => strOf p.1) = _
  rw [List.map_map]
  rfl
theorem size_ent (l : List α) : Maps.size (dMap nm kk l) = l.length := by simp [Maps.size, dMap]
theorem sorted_ent {l : List α} (h : Rising nm l) {ss : List (List UInt8)} (hp : ss.Perm (strKeys (dMap nm kk l))) : ss.mergeSort (fun x y => decide (x ≤ y)) = l.map fun g => bl (nm g) := by
  rw [keys_ent] at hp
  rw [show ss.mergeSort (fun x y => decide (x ≤ y)) = _ from mergeSort_of_perm hp]
  refine List.mergeSort_of_pairwise ?_
  refine List.pairwise_map.2 (List.Pairwise.imp ?_ h)
  intro a b hab
  simp only [ltB, decide_eq_true_eq] at hab
  simpa [leB] using List.le_of_lt hab
end
end Go.Proofs.YtpomaabkgbaikaaDoor
