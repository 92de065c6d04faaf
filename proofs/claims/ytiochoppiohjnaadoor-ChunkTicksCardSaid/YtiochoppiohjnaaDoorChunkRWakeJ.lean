/-
  The reference's Wake, whatever is asked of it.
-/
import Derived.Test.YtiochoppiohjnaaDoorChunkRWakeN
import Derived.Test.YtiochoppiohjnaaDoorChunkOrdP
namespace Go.Proofs.YtiochoppiohjnaaDoor
open Go.RowKit
set_option linter.unusedVariables false
namespace ChunkW
open BytesW PackW
theorem rwake_c {w : World} {A : Option Addr} {ts : List Tick} {n c : Nat} {x d : Int} (hA : PairC tkv w A ts) (hn : n = ts.length) (hl : n ≤ 900000) :
    Calls Tryd.prog 26 #[.slice A n c, .int .i64 x, .int .i64 d] w (GivesT w (wakeT ts x d)) := by
  by_cases h1 : x < 0
  · rw [wake_no (.inl (isIx_false (.inl h1)))]
    exact rwake_lo hA hn (by omega) h1
  · by_cases h2 : 4095 < x
    · rw [wake_no (.inl (isIx_false (.inr (by omega))))]
      exact rwake_hi hA hn (by omega) h2
    · by_cases h3 : d < 1
      · rw [wake_no (.inr h3)]
        exact rwake_no hA hn (by omega) (by omega) (by omega) h3
      · cases hk : findT ts x with
        | none => exact rwake_new hA hn hl (by omega) (by omega) h3 hk
        | some k => exact rwake_old hA hn (by omega) (by omega) (by omega) h3 hk
end ChunkW
end Go.Proofs.YtiochoppiohjnaaDoor
