/-
  The walks of package place and of its reference: what each function answers, said by plain functions.
-/
import Derived.Test.YtcmmfihhnmhhgaaRows
import Derived.WalkKit
import Derived.WalkSpells
import Derived.WalkLawsBesides
import Derived.Deep.QuietTactic
import Derived.BigQuiet
import Derived.Outline
import Derived.Lib.Hide
namespace Go.Proofs.Ytcmmfihhnmhhgaa
open Go.RowKit
namespace PlaceW

def inB (n a b : Int) : Bool := decide (a ≤ n) && decide (n < b)
theorem inB_true {n a b : Int} (h : inB n a b = true) : a ≤ n ∧ n < b := by simpa [inB] using h
theorem inB_false {n a b : Int} (h : inB n a b = false) : ¬ (a ≤ n ∧ n < b) := by simpa [inB] using h
theorem inB_mk {n a b : Int} (h : a ≤ n) (h' : n < b) : inB n a b = true := by simp [inB, h, h']
/-- Is it a place? -/
def mayB (x y z : Int) : Bool := inB x (-1048576) 1048576 && (inB y 0 64 && inB z (-1048576) 1048576)
/-- Is it a spot? -/
def spotB (x y z : Int) : Bool := inB x (-65536) 65536 && (inB y 0 4 && inB z (-65536) 65536)
theorem mayB_true {x y z : Int} (h : mayB x y z = true) : -1048576 ≤ x ∧ x < 1048576 ∧ 0 ≤ y ∧ y < 64 ∧ -1048576 ≤ z ∧ z < 1048576 := by
  simp [mayB, inB] at h
  omega
theorem spotB_true {x y z : Int} (h : spotB x y z = true) : -65536 ≤ x ∧ x < 65536 ∧ 0 ≤ y ∧ y < 4 ∧ -65536 ≤ z ∧ z < 65536 := by
  simp [spotB, inB] at h
  omega

theorem within_b {n a b : Int} {r : Bool} (h : inB n a b = r) (w : World) :
    Calls Try.prog 31 #[.int .i64 n, .int .i64 a, .int .i64 b] w fun e w' => e = .returned (.bool r) ∧ w = w' := by
  subst h
  by_cases h1 : a ≤ n
  · by_cases h2 : n < b
    · have e : Hid (inB n a b = true) := Lib.hid (inB_mk h1 h2)
      go_enter Try.func31, Try.ntmps31
      go_wp2
      go_ret
      exact ⟨by rw [e.out]; rfl, rfl⟩
    · have e : Hid (inB n a b = false) := Lib.hid (by simp [inB]; omega)
      go_enter Try.func31, Try.ntmps31
      go_wp2
      go_ret
      exact ⟨by rw [e.out]; rfl, rfl⟩
  · have e : Hid (inB n a b = false) := Lib.hid (by simp [inB]; omega)
    go_enter Try.func31, Try.ntmps31
    go_wp2
    go_ret
    exact ⟨by rw [e.out]; rfl, rfl⟩

theorem may_b {x y z : Int} {r : Bool} (h : mayB x y z = r) (w : World) :
    Calls Try.prog 33 #[.agg #[.int .i64 x, .int .i64 y, .int .i64 z]] w fun e w' => e = .returned (.bool r) ∧ Below w.heap.size w w' := by
  subst h
  unfold mayB
  cases hx : inB x (-1048576) 1048576 with
  | false =>
    have HX := Lib.hid hx
    clear hx
    go_enter Try.func33, Try.ntmps33
    go_wp2_with (go_at_call 31; (with_reducible refine (within_b HX.out _).mono ?_); rintro e w' ⟨rfl, rfl⟩)
    go_ret
    exact ⟨rfl, (Below.refl _ _).alloc (Nat.le_refl _) _⟩
  | true =>
    have HX := Lib.hid hx
    clear hx
    cases hy : inB y 0 64 with
    | false =>
      have HY := Lib.hid hy
      clear hy
      go_enter Try.func33, Try.ntmps33
      go_wp2_with (go_at_call 31; (first | (with_reducible refine (within_b HX.out _).mono ?_) | (with_reducible refine (within_b HY.out _).mono ?_)); rintro e w' ⟨rfl, rfl⟩)
      go_ret
      exact ⟨rfl, (Below.refl _ _).alloc (Nat.le_refl _) _⟩
    | true =>
      have HY := Lib.hid hy
      clear hy
      cases hz : inB z (-1048576) 1048576 <;>
      · have HZ := Lib.hid hz
        clear hz
        go_enter Try.func33, Try.ntmps33
        go_wp2_with (go_at_call 31; (first | (with_reducible refine (within_b HX.out _).mono ?_) | (with_reducible refine (within_b HY.out _).mono ?_) | (with_reducible refine (within_b HZ.out _).mono ?_)); rintro e w' ⟨rfl, rfl⟩)
        go_ret
        exact ⟨rfl, (Below.refl _ _).alloc (Nat.le_refl _) _⟩
end PlaceW
end Go.Proofs.Ytcmmfihhnmhhgaa
