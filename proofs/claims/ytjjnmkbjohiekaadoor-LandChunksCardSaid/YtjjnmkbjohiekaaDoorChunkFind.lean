/-
  Where in a list of ticks one stands: closures, slices.IndexFunc, find, behind.
-/
import Derived.Shelf.Abstract
import Derived.Test.YtjjnmkbjohiekaaDoorChunkWalks1
namespace Go.Proofs.YtjjnmkbjohiekaaDoor
open Go.RowKit
set_option linter.unusedVariables false
set_option linter.unusedSimpArgs false
namespace ChunkW
open BytesW PackW

def tkA (t : Tick) : Value := .agg #[.int .i64 t.1, .int .i64 t.2]
def idxI (p : Tick → Bool) (l : List Tick) : Int := match idx p l with
  | some k => k
  | none => -1
def IdxRel (w : World) (ts : List Tick) (p : Tick → Bool) (i : Value) (wr : World) : Prop := ∃ j : Nat, i = .int .i64 j ∧ j ≤ ts.length ∧ (∀ k, k < j → ∀ t, ts[k]? = some t → p t = false) ∧ Below w.heap.size w wr
def findI (l : List Tick) (i : Int) : Int := match findT l i with
  | some k => k
  | none => -1
end ChunkW
end Go.Proofs.YtjjnmkbjohiekaaDoor
