/- The closed run with which every law ends. -/
import Derived.Test.YtejicjcdbfjajaaDoorLex
namespace Go.Proofs.YtejicjcdbfjajaaDoor
open Go Go.RowKit
open Go.Shelf
theorem lexK : lexT (bl ⟨#[97, 32, 49]⟩) = [⟨0, some (0, [97], 0, 1)⟩, ⟨2, some (2, [], 1, 3)⟩] := by kernel_rfl
set_option maxRecDepth 100000 in
set_option maxHeartbeats 4000000 in
theorem known_any (w : World) (hg : SPC w) : Calls Tryd.prog 9 #[] w fun e w' => e = .returned (.bool true) ∧ Below w.heap.size w w' := by
  have HL := Lib.hid (lex_any ⟨#[97, 32, 49]⟩ w hg (by decide))
  clear hg
  go_enter Tryd.func9, Tryd.ntmps9
  go_wp2_with fail
  refine HL.out.mono ?_
  rintro e w1 ⟨hb, ⟨h1, -⟩ | ⟨-, -, v, rfl, hrow⟩ | ⟨-, pre, b, h1, -⟩⟩
  · exact absurd h1 (by decide)
  rotate_left
  · rw [lexK] at h1
    have h2 := congrArg (fun l => l.getLast?.map (·.o)) h1
    simp at h2
  rw [lexK] at hrow
  obtain ⟨-, ⟨-, h0⟩ | ⟨g, cap, cur, rfl, hge, hblk, hcap, -, hcs, hcut⟩⟩ := hrow
  · cases h0
  have HB := Lib.hid hb
  have hcut' : cur.toList.take 8 = [.int .i64 0, .string ⟨#[97]⟩, .int .i64 0, .int .i64 0, .int .i64 2, .string ⟨#[]⟩, .int .i64 1, .int .i64 2] := hcut
  have hcell : ∀ k v, k < 8 → ([.int .i64 0, .string ⟨#[97]⟩, .int .i64 0, .int .i64 0, .int .i64 2, .string ⟨#[]⟩, .int .i64 1, .int .i64 2] : List Value)[k]? = some v → w1.cell? ⟨g, k, none⟩ = some v := by
    intro k v hk hv
    rw [← hcut', List.getElem?_take_of_lt hk] at hv
    rw [Lib.cell_of_heap hblk]
    simpa using hv
  have c1 := hcell 1 _ (by omega) rfl
  have c6 := hcell 6 _ (by omega) rfl
  have c7 := hcell 7 _ (by omega) rfl
  have hcap2 : (2 : Nat) ≤ cap := hcap
  clear hb hge hblk hcap hcs hcut hcut' hcell HL
  go_wp2_with fail
  go_ret
  exact ⟨rfl, HB.out⟩
end Go.Proofs.YtejicjcdbfjajaaDoor
