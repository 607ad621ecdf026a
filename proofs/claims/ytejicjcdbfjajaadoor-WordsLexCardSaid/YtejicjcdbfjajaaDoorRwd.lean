/- The document's word that begins at a place: any. -/
import Derived.Test.YtejicjcdbfjajaaDoorRwD
import Derived.Test.YtejicjcdbfjajaaDoorRwL
import Derived.Test.YtejicjcdbfjajaaDoorRwQ
import Derived.Test.YtejicjcdbfjajaaDoorRwP
import Derived.Test.YtejicjcdbfjajaaDoorRwS
namespace Go.Proofs.YtejicjcdbfjajaaDoor
open Go Go.RowKit
theorem isD_l {n : Nat} (h : isL n = true) : isD n = false := by
  simp only [isL, Bool.or_eq_true, decide_eq_true_eq] at h
  simp only [isD, decide_eq_false_iff_not]
  omega
theorem rword_any (s : ByteArray) (a : Nat) (w : World) (hs : s.size ≤ 1048576) (ha : a < s.size) : Calls Tryd.prog 23 #[.string s, .int .i64 a] w (RWQ w a (wordR (bl s) a)) := by
  cases h1 : isL s[a].toNat with
  | true => exact rword_L s a w hs ha h1 (isD_l h1)
  | false =>
    cases h2 : isD s[a].toNat with
    | true => exact rword_D s a w hs ha h1 h2
    | false =>
      by_cases h3 : s[a].toNat = 39
      · exact rword_Q s a w hs ha h3
      · by_cases h4 : s[a].toNat = 34
        · exact rword_P s a w hs ha h4
        · exact rword_S s a w hs ha h1 h2 (fun h => h.elim h3 h4)
end Go.Proofs.YtejicjcdbfjajaaDoor
