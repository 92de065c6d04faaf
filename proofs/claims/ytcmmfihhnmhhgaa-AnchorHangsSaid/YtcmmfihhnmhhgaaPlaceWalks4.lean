/-
  The walks of steps and distances: moved, Step, apart, Far, and the reference's own.
-/
import Derived.Test.YtcmmfihhnmhhgaaPlaceWalks2
import Derived.Deep.Draws
namespace Go.Proofs.Ytcmmfihhnmhhgaa
open Go.RowKit
set_option linter.unusedSimpArgs false
set_option linter.unusedVariables false
namespace PlaceW
open BitsP

/-- Where a step leads, of any numbers. -/
def mv (d x y z : Int) : Int × Int × Int × Bool :=
  if d = 0 then (wrap64 (x + 1), y, z, true) else if d = 1 then (wrap64 (x - 1), y, z, true) else if d = 2 then (x, y, wrap64 (z + 1), true) else if d = 3 then (x, y, wrap64 (z - 1), true)
  else if d = 4 then (x, wrap64 (y + 1), z, true) else if d = 5 then (x, wrap64 (y - 1), z, true) else (x, y, z, false)

/-- How far two numbers are apart. -/
def gapI (a b : Int) : Int := if a < b then b - a else a - b

def farOf (x y z u v t : Int) : Int × Bool := if (mayB x y z && mayB u v t) = true then (gapI x u + gapI y v + gapI z t, true) else (0, false)
theorem gapI_le {a b c : Int} (h1 : -c ≤ a) (h2 : a ≤ c) (h3 : -c ≤ b) (h4 : b ≤ c) : 0 ≤ gapI a b ∧ gapI a b ≤ 2 * c := by
  unfold gapI
  split <;> omega

end PlaceW
end Go.Proofs.Ytcmmfihhnmhhgaa
