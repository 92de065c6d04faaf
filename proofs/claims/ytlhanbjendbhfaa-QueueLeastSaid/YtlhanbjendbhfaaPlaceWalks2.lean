/-
  The walks of package place and of its reference, continued: spots, indexes, places of spots and indexes.
-/
import Derived.Test.YtlhanbjendbhfaaPlaceWalks
import Derived.Test.YtlhanbjendbhfaaBitsP
import Derived.Below
import Derived.Deep.Draws
namespace Go.Proofs.Ytlhanbjendbhfaa
open Go.RowKit
set_option linter.unusedSimpArgs false
set_option linter.unusedVariables false
namespace PlaceW
open BitsP

theorem bcell {W w1 : World} (hb : Below W.heap.size W w1) : (∀ b o, b < W.heap.size → w1.cell? ⟨b, o, none⟩ = W.cell? ⟨b, o, none⟩) ∧ (∀ b o, b < W.heap.size → w1.frozen? ⟨b, o, none⟩ = W.frozen? ⟨b, o, none⟩) :=
  ⟨fun b o h => hb.cell (p := ⟨b, o, none⟩) h, fun b o h => hb.frozen (p := ⟨b, o, none⟩) h⟩

theorem below_drewN {B : Nat} {a w : World} (h : Below B a w) (n : Nat) : Below B a (w.drewN n) := ⟨h.os, h.tape, h.output, h.size, h.block⟩

/-- The spot of a place, and whether it is one. -/
def spotOf (x y z : Int) : Int × Int × Int × Bool := if mayB x y z = true then (x / 16, y / 16, z / 16, true) else (0, 0, 0, false)
def indexOf (x y z : Int) : Int × Bool := if mayB x y z = true then (y % 16 * 256 + z % 16 * 16 + x % 16, true) else (0, false)
def ofB (x y z i : Int) : Bool := spotB x y z && inB i 0 4096
def ofOf (x y z i : Int) : Int × Int × Int × Bool := if ofB x y z i = true then (16 * x + i % 16, 16 * y + i / 256, 16 * z + i / 16 % 16, true) else (0, 0, 0, false)
theorem ofB_true {x y z i : Int} (h : ofB x y z i = true) : spotB x y z = true ∧ 0 ≤ i ∧ i < 4096 := by
  simp [ofB] at h
  exact ⟨h.1, inB_true h.2⟩

/-- A part of a pair. -/
theorem p4 {a b c a' b' c' : Int} {r r' : Bool} (h : (a, b, c, r) = (a', b', c', r')) : a = a' ∧ b = b' ∧ c = c' ∧ r = r' := by simpa using h
theorem p2 {α β : Type} {a a' : α} {b b' : β} (h : (a, b) = (a', b')) : a = a' ∧ b = b' := by simpa using h

end PlaceW
end Go.Proofs.Ytlhanbjendbhfaa
