/-
  The walks of the reference of place: rounding down, spots, indexes, places of spots and indexes.
-/
import Derived.Test.YtcmndfjoaoinjaaDoorPlaceWalks2
namespace Go.Proofs.YtcmndfjoaoinjaaDoor
open Go.RowKit
set_option linter.unusedSimpArgs false
set_option linter.unusedVariables false
namespace PlaceW
open BitsP

theorem tq {n : Int} (h : n < 0) : n.tdiv 16 = -((-n) / 16) ∧ n.tmod 16 = -((-n) % 16) := by
  obtain ⟨m, rfl⟩ : ∃ m, n = -m := ⟨-n, by omega⟩
  rw [Int.neg_tdiv, Int.neg_tmod, Int.tdiv_eq_ediv_of_nonneg (by omega), Int.tmod_eq_emod_of_nonneg (by omega)]
  simp
end PlaceW
end Go.Proofs.YtcmndfjoaoinjaaDoor
