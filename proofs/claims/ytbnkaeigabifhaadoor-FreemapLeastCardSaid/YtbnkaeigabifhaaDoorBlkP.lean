/-
  Blocks that are known whole: what stores, new blocks, draws and calls do to them.
-/
import Derived.Test.YtbnkaeigabifhaaDoorRows
import Derived.WalkKit
import Derived.Below
import Derived.Deep.Draws
import Derived.Laws.Rows
import Derived.Deep.RegionHeld3
namespace Go.Proofs.YtbnkaeigabifhaaDoor
open Go.RowKit
set_option linter.unusedVariables false
set_option linter.unusedSimpArgs false
namespace BlkP
/-- Block b holds just these cells. -/
def Blk (w : World) (b : Nat) (T : TypeId) (vs : List Value) : Prop := w.heap[b]? = some (.cells vs.toArray T (0, 0))
section
variable {w w' : World} {b : Nat} {T : TypeId} {vs : List Value} {B : Nat}
theorem Blk.lt (h : Blk w b T vs) : b < w.heap.size := (Array.getElem?_eq_some_iff.1 h).1
theorem Blk.cell (h : Blk w b T vs) {i : Nat} {v : Value} (hv : vs[i]? = some v) : w.cell? ⟨b, i, none⟩ = some v := (cell_of_row w b i _ _ _ h).trans (by simpa using hv)
theorem Blk.frozen (h : Blk w b T vs) (i : Nat) : w.frozen? ⟨b, i, none⟩ = false := frozen_of_row w b i _ _ h
theorem Blk.below (h : Blk w b T vs) (hb : Below w.heap.size w w') : Blk w' b T vs := (hb.block b h.lt).trans h
theorem Blk.belowAt (h : Blk w b T vs) (hb : Below B w w') (hl : b < B) : Blk w' b T vs := (hb.block b hl).trans h
theorem Blk.grown (h : Blk w b T vs) {r : Option Nat} (hg : w.grownBy w' r) (hne : some b ≠ r) : Blk w' b T vs := (hg.block b h.lt hne).trans h
theorem Blk.set (h : Blk w b T vs) (i : Nat) (v : Value) : Blk (w.setCell ⟨b, i, none⟩ v) b T (vs.set i v) := by
  have := heap_setCell_same w b i _ T v h
  unfold Blk
  rw [this]
  simp
theorem Blk.other (h : Blk w b T vs) {a : Addr} (hne : b ≠ a.block) (v : Value) : Blk (w.setCell a v) b T vs := (heap_setCell_other w a b v hne).trans h
theorem Blk.alloc (h : Blk w b T vs) (o : Obj) : Blk (w.alloc o) b T vs := (heap_alloc_old w o h.lt).trans h
theorem Blk.drew (h : Blk w b T vs) : Blk w.drew b T vs := h
theorem Blk.drewN (h : Blk w b T vs) (n : Nat) : Blk (w.drewN n) b T vs := h
theorem Blk.new (w : World) (T : TypeId) (vs : List Value) : Blk (w.alloc (.cells vs.toArray T)) w.heap.size T vs := heap_alloc_new w _
theorem Blk.newA (w : World) (T : TypeId) (vs : Array Value) {b : Nat} (hb : b = w.heap.size) : Blk (w.alloc (.cells vs T)) b T vs.toList := by
  subst hb
  exact heap_alloc_new w _
theorem Blk.newA' {c : Array Value} (hb : b = w.heap.size) (hc : c.toList = vs) : Blk (w.alloc (.cells c T)) b T vs := hc ▸ Blk.newA w T c hb
theorem Blk.setTo {us : List Value} {i : Nat} {v : Value} (h : Blk w b T us) (e : us.set i v = vs) : Blk (w.setCell ⟨b, i, none⟩ v) b T vs := e ▸ h.set i v
theorem Blk.setAt {us : List Value} {a : Addr} {v : Value} (hb : b = a.block) (hs : a.spot = none) (h : Blk w b T us) (e : us.set a.off v = vs) : Blk (w.setCell a v) b T vs := by
  obtain ⟨ab, ao, sp⟩ := a
  subst hb
  subst hs
  exact e ▸ h.set ao v
theorem Blk.otherAt {a : Addr} {v : Value} (h : Blk w b T vs) (hne : b ≠ a.block) : Blk (w.setCell a v) b T vs := h.other hne v
end
/-- The world at hand gets a name, within a drawn region. -/
theorem any_named {P : Program} {md : Region.Mode} {ops : Array Oper} {Q : Exit → Act → World → Prop} {S0 : World → Prop} {fuel : Nat} {listed : Array Bool} {a : Act} {W : World} (S : World → Prop) (h : S W) (k : ∀ W', S W' → wpAnyH P md ops Q S0 fuel listed a W') : wpAnyH P md ops Q S0 fuel listed a W := k W h
theorem below_t {w0 w w' : World} (hb : Below w0.heap.size w0 w) (h : Below w.heap.size w w') : Below w0.heap.size w0 w' := hb.trans (h.mono hb.size)
end BlkP
end Go.Proofs.YtbnkaeigabifhaaDoor
