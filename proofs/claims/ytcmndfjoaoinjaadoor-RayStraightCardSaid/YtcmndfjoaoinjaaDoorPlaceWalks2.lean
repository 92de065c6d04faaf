/-
  The walks of package place and of its reference, continued: spots, indexes, places of spots and indexes.
-/
import Derived.Test.YtcmndfjoaoinjaaDoorPlaceWalks
import Derived.Test.YtcmndfjoaoinjaaDoorBitsP
import Derived.Below
import Derived.Deep.Draws
namespace Go.Proofs.YtcmndfjoaoinjaaDoor
open Go.RowKit
set_option linter.unusedSimpArgs false
set_option linter.unusedVariables false
namespace PlaceW
open BitsP

theorem bcell {W w1 : World} (hb : Below W.heap.size W w1) : (∀ b o, b < W.heap.size → w1.cell? ⟨b, o, none⟩ = W.cell? ⟨b, o, none⟩) ∧ (∀ b o, b < W.heap.size → w1.frozen? ⟨b, o, none⟩ = W.frozen? ⟨b, o, none⟩) :=
  ⟨fun b o h => hb.cell (p := ⟨b, o, none⟩) h, fun b o h => hb.frozen (p := ⟨b, o, none⟩) h⟩

theorem below_drewN {B : Nat} {a w : World} (h : Below B a w) (n : Nat) : Below B a (w.drewN n) := ⟨h.os, h.tape, h.output, h.size, h.block⟩

/-- The spot of a place, and whether it is one. -/
def spotOf (x y z : Int) : Int × Int × Int × Bool := if mayB x y z = true then (x / 16, y / 16, z / 16, true) else (0, 0, 0, false)
def indexOf (x y z : Int) : Int × Bool := if mayB x y z = true then (y % 16 * 256 + z % 16 * 16 + x % 16, true) else (0, false)
def ofB (x y z i : Int) : Bool := spotB x y z && inB i 0 4096
def ofOf (x y z i : Int) : Int × Int × Int × Bool := if ofB x y z i = true then (16 * x + i % 16, 16 * y + i / 256, 16 * z + i / 16 % 16, true) else (0, 0, 0, false)
theorem ofB_true {x y z i : Int} (h : ofB x y z i = true) : spotB x y z = true ∧ 0 ≤ i ∧ i < 4096 := by
  simp [ofB] at h
  exact ⟨h.1, inB_true h.2⟩

/-- A part of a pair. -/
theorem p4 {a b c a' b' c' : Int} {r r' : Bool} (h : (a, b, c, r) = (a', b', c', r')) : a = a' ∧ b = b' ∧ c = c' ∧ r = r' := by simpa using h
theorem p2 {α β : Type} {a a' : α} {b b' : β} (h : (a, b) = (a', b')) : a = a' ∧ b = b' := by simpa using h

theorem r_within_b {n a b : Int} {r : Bool} (h : inB n a b = r) (w : World) :
    Calls Tryd.prog 26 #[.int .i64 n, .int .i64 a, .int .i64 b] w fun e w' => e = .returned (.bool r) ∧ w = w' := by
  subst h
  by_cases h1 : a ≤ n
  · by_cases h2 : n < b
    · have e : Hid (inB n a b = true) := Lib.hid (inB_mk h1 h2)
      go_enter Tryd.func26, Tryd.ntmps26
      go_wp2
      go_ret
      exact ⟨by rw [e.out]; rfl, rfl⟩
    · have e : Hid (inB n a b = false) := Lib.hid (by simp [inB]; omega)
      go_enter Tryd.func26, Tryd.ntmps26
      go_wp2
      go_ret
      exact ⟨by rw [e.out]; rfl, rfl⟩
  · have e : Hid (inB n a b = false) := Lib.hid (by simp [inB]; omega)
    go_enter Tryd.func26, Tryd.ntmps26
    go_wp2
    go_ret
    exact ⟨by rw [e.out]; rfl, rfl⟩

theorem r_may_b {x y z : Int} {r : Bool} (h : mayB x y z = r) (w : World) :
    Calls Tryd.prog 21 #[.agg #[.int .i64 x, .int .i64 y, .int .i64 z]] w fun e w' => e = .returned (.bool r) ∧ Below w.heap.size w w' := by
  subst h
  cases hx : inB x (-1048576) 1048576 with
  | false =>
    have HX := Lib.hid hx
    clear hx
    go_enter Tryd.func21, Tryd.ntmps21
    go_wp2_with (go_at_call 26; (first | (with_reducible refine (r_within_b HX.out _).mono ?_)); rintro e w' ⟨rfl, rfl⟩)
    go_ret
    exact ⟨by simp [mayB, HX.out], (Below.refl _ _).alloc (Nat.le_refl _) _⟩
  | true =>
    have HX := Lib.hid hx
    clear hx
    cases hz : inB z (-1048576) 1048576 with
    | false =>
      have HZ := Lib.hid hz
      clear hz
      go_enter Tryd.func21, Tryd.ntmps21
      go_wp2_with (go_at_call 26; (first | (with_reducible refine (r_within_b HX.out _).mono ?_) | (with_reducible refine (r_within_b HZ.out _).mono ?_)); rintro e w' ⟨rfl, rfl⟩)
      go_ret
      exact ⟨by simp [mayB, HX.out, HZ.out], (Below.refl _ _).alloc (Nat.le_refl _) _⟩
    | true =>
      have HZ := Lib.hid hz
      clear hz
      cases hy : inB y 0 64 <;>
      · have HY := Lib.hid hy
        clear hy
        go_enter Tryd.func21, Tryd.ntmps21
        go_wp2_with (go_at_call 26; (first | (with_reducible refine (r_within_b HX.out _).mono ?_) | (with_reducible refine (r_within_b HZ.out _).mono ?_) | (with_reducible refine (r_within_b HY.out _).mono ?_)); rintro e w' ⟨rfl, rfl⟩)
        go_ret
        exact ⟨by simp [mayB, HX.out, HZ.out, HY.out], (Below.refl _ _).alloc (Nat.le_refl _) _⟩

end PlaceW
end Go.Proofs.YtcmndfjoaoinjaaDoor
