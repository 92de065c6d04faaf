/-
  Lamps: package kind's and the reference's.
-/
import Derived.Test.YtlahkmkipciiiaaDoorKindWalks
namespace Go.Proofs.YtlahkmkipciiiaaDoor
open Go.RowKit
namespace KindW
open KindP

theorem k_may_b {k l : Nat} {b : Bool} (h : may k l = b) (w : World) (hT : Tab w) :
    Calls Tryd.prog 24 #[.agg #[.int .u8 k, .int .u8 l]] w fun e w' => e = .returned (.bool b) ∧ Below w.heap.size w w' := by
  have := k_may k l w hT
  rw [h] at this
  exact this
theorem r_may_b {k l : Nat} {b : Bool} (h : may k l = b) (w : World) :
    Calls Tryd.prog 25 #[.agg #[.int .u8 k, .int .u8 l]] w fun e w' => e = .returned (.bool b) ∧ Below w.heap.size w w' := by
  have := r_may k l w
  rw [h] at this
  exact this

end KindW
end Go.Proofs.YtlahkmkipciiiaaDoor
