/-
  What a world holds in blocks laid since a call began, as one list: it is kept by whatever turns nothing below the world's own size.
-/
import Derived.Test.YtokkomglbddgcaaRows
import Derived.WalkKit
import Derived.Below
import Derived.Deep.Draws
namespace Go.Proofs.Ytokkomglbddgcaa
open Go.RowKit
set_option linter.unusedVariables false
set_option linter.unusedSimpArgs false
namespace HeldP

/-- W holds these cells, in blocks below its size; and it is as w was below that one's size. -/
def CellsB (w W : World) : List (Nat × Nat × Value) → Prop
  | [] => w.heap.size ≤ W.heap.size ∧ Below w.heap.size w W
  | (b, i, v) :: r => (W.cell? ⟨b, i, none⟩ = some v ∧ b < W.heap.size) ∧ CellsB w W r

theorem CellsB.keep {w W W' : World} (hb : Below W.heap.size W W') : ∀ {l : List (Nat × Nat × Value)}, CellsB w W l → CellsB w W' l
  | [], ⟨hs, h⟩ => ⟨Nat.le_trans hs hb.size, h.trans (hb.mono hs)⟩
  | (b, i, v) :: r, ⟨⟨hc, hl⟩, h⟩ => ⟨⟨(hb.cell (p := ⟨b, i, none⟩) hl).trans hc, Nat.lt_of_lt_of_le hl hb.size⟩, CellsB.keep hb h⟩
theorem CellsB.below {w W : World} : ∀ {l : List (Nat × Nat × Value)}, CellsB w W l → Below w.heap.size w W
  | [], h => h.2
  | _ :: _, h => CellsB.below h.2
theorem CellsB.alloc {w W : World} {l : List (Nat × Nat × Value)} (o : Obj) (h : CellsB w W l) : CellsB w (W.alloc o) l := h.keep ((Below.refl _ _).alloc (Nat.le_refl _) o)
theorem CellsB.drew {w W : World} {l : List (Nat × Nat × Value)} (h : CellsB w W l) : CellsB w W.drew l := h.keep (Below.refl _ _).drew
/-- A new block's cells. -/
theorem CellsB.new {w W : World} {l : List (Nat × Nat × Value)} (vs : Array Value) (T : TypeId) (i : Nat) (v : Value) (hv : vs[i]? = some v) (h : CellsB w (W.alloc (.cells vs T)) l) :
    CellsB w (W.alloc (.cells vs T)) ((W.heap.size, i, v) :: l) :=
  ⟨⟨(World.cell?_alloc_new _ _ _ _).trans hv, by simp⟩, h⟩
theorem CellsB.one {w W : World} {l : List (Nat × Nat × Value)} {b i : Nat} {v : Value} (hc : W.cell? ⟨b, i, none⟩ = some v) (hl : b < W.heap.size) (h : CellsB w W l) : CellsB w W ((b, i, v) :: l) := ⟨⟨hc, hl⟩, h⟩
theorem CellsB.nil {w W : World} (hs : w.heap.size ≤ W.heap.size) (h : Below w.heap.size w W) : CellsB w W [] := ⟨hs, h⟩
end HeldP
end Go.Proofs.Ytokkomglbddgcaa
