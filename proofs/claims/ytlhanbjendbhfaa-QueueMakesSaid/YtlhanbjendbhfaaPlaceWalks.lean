/-
  The walks of package place and of its reference: what each function answers, said by plain functions.
-/
import Derived.Test.YtlhanbjendbhfaaRows
import Derived.WalkKit
import Derived.WalkSpells
import Derived.WalkLawsBesides
import Derived.Deep.QuietTactic
import Derived.BigQuiet
import Derived.Outline
import Derived.Lib.Hide
namespace Go.Proofs.Ytlhanbjendbhfaa
open Go.RowKit
namespace PlaceW

def inB (n a b : Int) : Bool := decide (a ≤ n) && decide (n < b)
theorem inB_true {n a b : Int} (h : inB n a b = true) : a ≤ n ∧ n < b := by simpa [inB] using h
theorem inB_false {n a b : Int} (h : inB n a b = false) : ¬ (a ≤ n ∧ n < b) := by simpa [inB] using h
theorem inB_mk {n a b : Int} (h : a ≤ n) (h' : n < b) : inB n a b = true := by simp [inB, h, h']
/-- Is it a place? -/
def mayB (x y z : Int) : Bool := inB x (-1048576) 1048576 && (inB y 0 64 && inB z (-1048576) 1048576)
/-- Is it a spot? -/
def spotB (x y z : Int) : Bool := inB x (-65536) 65536 && (inB y 0 4 && inB z (-65536) 65536)
theorem mayB_true {x y z : Int} (h : mayB x y z = true) : -1048576 ≤ x ∧ x < 1048576 ∧ 0 ≤ y ∧ y < 64 ∧ -1048576 ≤ z ∧ z < 1048576 := by
  simp [mayB, inB] at h
  omega
theorem spotB_true {x y z : Int} (h : spotB x y z = true) : -65536 ≤ x ∧ x < 65536 ∧ 0 ≤ y ∧ y < 4 ∧ -65536 ≤ z ∧ z < 65536 := by
  simp [spotB, inB] at h
  omega

end PlaceW
end Go.Proofs.Ytlhanbjendbhfaa
