/-
  The walks of package place and of its reference, continued: spots, indexes, places of spots and indexes.
-/
import Derived.Test.YtcmmfihhnmhhgaaPlaceWalks
import Derived.Test.YtcmmfihhnmhhgaaBitsP
import Derived.Below
import Derived.Deep.Draws
namespace Go.Proofs.Ytcmmfihhnmhhgaa
open Go.RowKit
set_option linter.unusedSimpArgs false
set_option linter.unusedVariables false
namespace PlaceW
open BitsP

theorem bcell {W w1 : World} (hb : Below W.heap.size W w1) : (∀ b o, b < W.heap.size → w1.cell? ⟨b, o, none⟩ = W.cell? ⟨b, o, none⟩) ∧ (∀ b o, b < W.heap.size → w1.frozen? ⟨b, o, none⟩ = W.frozen? ⟨b, o, none⟩) :=
  ⟨fun b o h => hb.cell (p := ⟨b, o, none⟩) h, fun b o h => hb.frozen (p := ⟨b, o, none⟩) h⟩

theorem below_drewN {B : Nat} {a w : World} (h : Below B a w) (n : Nat) : Below B a (w.drewN n) := ⟨h.os, h.tape, h.output, h.size, h.block⟩

/-- The spot of a place, and whether it is one. -/
def spotOf (x y z : Int) : Int × Int × Int × Bool := if mayB x y z = true then (x / 16, y / 16, z / 16, true) else (0, 0, 0, false)
def indexOf (x y z : Int) : Int × Bool := if mayB x y z = true then (y % 16 * 256 + z % 16 * 16 + x % 16, true) else (0, false)
def ofB (x y z i : Int) : Bool := spotB x y z && inB i 0 4096
def ofOf (x y z i : Int) : Int × Int × Int × Bool := if ofB x y z i = true then (16 * x + i % 16, 16 * y + i / 256, 16 * z + i / 16 % 16, true) else (0, 0, 0, false)
theorem ofB_true {x y z i : Int} (h : ofB x y z i = true) : spotB x y z = true ∧ 0 ≤ i ∧ i < 4096 := by
  simp [ofB] at h
  exact ⟨h.1, inB_true h.2⟩

/-- A part of a pair. -/
theorem p4 {a b c a' b' c' : Int} {r r' : Bool} (h : (a, b, c, r) = (a', b', c', r')) : a = a' ∧ b = b' ∧ c = c' ∧ r = r' := by simpa using h
theorem p2 {α β : Type} {a a' : α} {b b' : β} (h : (a, b) = (a', b')) : a = a' ∧ b = b' := by simpa using h

theorem maySpot_b {x y z : Int} {r : Bool} (h : spotB x y z = r) (w : World) :
    Calls Try.prog 18 #[.agg #[.int .i64 x, .int .i64 y, .int .i64 z]] w fun e w' => e = .returned (.bool r) ∧ Below w.heap.size w w' := by
  subst h
  cases hx : inB x (-65536) 65536 with
  | false =>
    have HX := Lib.hid hx
    clear hx
    go_enter Try.func18, Try.ntmps18
    go_wp2_with (go_at_call 31; (first | (with_reducible refine (within_b HX.out _).mono ?_)); rintro e w' ⟨rfl, rfl⟩)
    go_ret
    exact ⟨by simp [spotB, HX.out], (Below.refl _ _).alloc (Nat.le_refl _) _⟩
  | true =>
    have HX := Lib.hid hx
    clear hx
    cases hy : inB y 0 4 with
    | false =>
      have HY := Lib.hid hy
      clear hy
      go_enter Try.func18, Try.ntmps18
      go_wp2_with (go_at_call 31; (first | (with_reducible refine (within_b HX.out _).mono ?_) | (with_reducible refine (within_b HY.out _).mono ?_)); rintro e w' ⟨rfl, rfl⟩)
      go_ret
      exact ⟨by simp [spotB, HX.out, HY.out], (Below.refl _ _).alloc (Nat.le_refl _) _⟩
    | true =>
      have HY := Lib.hid hy
      clear hy
      cases hz : inB z (-65536) 65536 <;>
      · have HZ := Lib.hid hz
        clear hz
        go_enter Try.func18, Try.ntmps18
        go_wp2_with (go_at_call 31; (first | (with_reducible refine (within_b HX.out _).mono ?_) | (with_reducible refine (within_b HY.out _).mono ?_) | (with_reducible refine (within_b HZ.out _).mono ?_)); rintro e w' ⟨rfl, rfl⟩)
        go_ret
        exact ⟨by simp [spotB, HX.out, HY.out, HZ.out], (Below.refl _ _).alloc (Nat.le_refl _) _⟩

theorem r_within_b {n a b : Int} {r : Bool} (h : inB n a b = r) (w : World) :
    Calls Try.prog 40 #[.int .i64 n, .int .i64 a, .int .i64 b] w fun e w' => e = .returned (.bool r) ∧ w = w' := by
  subst h
  by_cases h1 : a ≤ n
  · by_cases h2 : n < b
    · have e : Hid (inB n a b = true) := Lib.hid (inB_mk h1 h2)
      go_enter Try.func40, Try.ntmps40
      go_wp2
      go_ret
      exact ⟨by rw [e.out]; rfl, rfl⟩
    · have e : Hid (inB n a b = false) := Lib.hid (by simp [inB]; omega)
      go_enter Try.func40, Try.ntmps40
      go_wp2
      go_ret
      exact ⟨by rw [e.out]; rfl, rfl⟩
  · have e : Hid (inB n a b = false) := Lib.hid (by simp [inB]; omega)
    go_enter Try.func40, Try.ntmps40
    go_wp2
    go_ret
    exact ⟨by rw [e.out]; rfl, rfl⟩

theorem r_may_b {x y z : Int} {r : Bool} (h : mayB x y z = r) (w : World) :
    Calls Try.prog 34 #[.agg #[.int .i64 x, .int .i64 y, .int .i64 z]] w fun e w' => e = .returned (.bool r) ∧ Below w.heap.size w w' := by
  subst h
  cases hx : inB x (-1048576) 1048576 with
  | false =>
    have HX := Lib.hid hx
    clear hx
    go_enter Try.func34, Try.ntmps34
    go_wp2_with (go_at_call 40; (first | (with_reducible refine (r_within_b HX.out _).mono ?_)); rintro e w' ⟨rfl, rfl⟩)
    go_ret
    exact ⟨by simp [mayB, HX.out], (Below.refl _ _).alloc (Nat.le_refl _) _⟩
  | true =>
    have HX := Lib.hid hx
    clear hx
    cases hz : inB z (-1048576) 1048576 with
    | false =>
      have HZ := Lib.hid hz
      clear hz
      go_enter Try.func34, Try.ntmps34
      go_wp2_with (go_at_call 40; (first | (with_reducible refine (r_within_b HX.out _).mono ?_) | (with_reducible refine (r_within_b HZ.out _).mono ?_)); rintro e w' ⟨rfl, rfl⟩)
      go_ret
      exact ⟨by simp [mayB, HX.out, HZ.out], (Below.refl _ _).alloc (Nat.le_refl _) _⟩
    | true =>
      have HZ := Lib.hid hz
      clear hz
      cases hy : inB y 0 64 <;>
      · have HY := Lib.hid hy
        clear hy
        go_enter Try.func34, Try.ntmps34
        go_wp2_with (go_at_call 40; (first | (with_reducible refine (r_within_b HX.out _).mono ?_) | (with_reducible refine (r_within_b HZ.out _).mono ?_) | (with_reducible refine (r_within_b HY.out _).mono ?_)); rintro e w' ⟨rfl, rfl⟩)
        go_ret
        exact ⟨by simp [mayB, HX.out, HZ.out, HY.out], (Below.refl _ _).alloc (Nat.le_refl _) _⟩

theorem r_maySpot_b {x y z : Int} {r : Bool} (h : spotB x y z = r) (w : World) :
    Calls Try.prog 29 #[.agg #[.int .i64 x, .int .i64 y, .int .i64 z]] w fun e w' => e = .returned (.bool r) ∧ Below w.heap.size w w' := by
  subst h
  cases hx : inB x (-65536) 65536 with
  | false =>
    have HX := Lib.hid hx
    clear hx
    go_enter Try.func29, Try.ntmps29
    go_wp2_with (go_at_call 40; (first | (with_reducible refine (r_within_b HX.out _).mono ?_)); rintro e w' ⟨rfl, rfl⟩)
    go_ret
    exact ⟨by simp [spotB, HX.out], (Below.refl _ _).alloc (Nat.le_refl _) _⟩
  | true =>
    have HX := Lib.hid hx
    clear hx
    cases hz : inB z (-65536) 65536 with
    | false =>
      have HZ := Lib.hid hz
      clear hz
      go_enter Try.func29, Try.ntmps29
      go_wp2_with (go_at_call 40; (first | (with_reducible refine (r_within_b HX.out _).mono ?_) | (with_reducible refine (r_within_b HZ.out _).mono ?_)); rintro e w' ⟨rfl, rfl⟩)
      go_ret
      exact ⟨by simp [spotB, HX.out, HZ.out], (Below.refl _ _).alloc (Nat.le_refl _) _⟩
    | true =>
      have HZ := Lib.hid hz
      clear hz
      cases hy : inB y 0 4 <;>
      · have HY := Lib.hid hy
        clear hy
        go_enter Try.func29, Try.ntmps29
        go_wp2_with (go_at_call 40; (first | (with_reducible refine (r_within_b HX.out _).mono ?_) | (with_reducible refine (r_within_b HZ.out _).mono ?_) | (with_reducible refine (r_within_b HY.out _).mono ?_)); rintro e w' ⟨rfl, rfl⟩)
        go_ret
        exact ⟨by simp [spotB, HX.out, HZ.out, HY.out], (Below.refl _ _).alloc (Nat.le_refl _) _⟩

theorem spot_c {x y z X Y Z : Int} {r : Bool} (h : spotOf x y z = (X, Y, Z, r)) (w : World) :
    Calls Try.prog 20 #[.agg #[.int .i64 x, .int .i64 y, .int .i64 z]] w fun e w' => e = .returned (.tuple #[.agg #[.int .i64 X, .int .i64 Y, .int .i64 Z], .bool r]) ∧ Below w.heap.size w w' := by
  unfold spotOf at h
  by_cases hm : mayB x y z = true
  · rw [if_pos hm] at h
    obtain ⟨rfl, rfl, rfl, rfl⟩ := p4 h
    obtain ⟨h1, h2, h3, h4, h5, h6⟩ := mayB_true hm
    have H := Lib.hid hm
    clear hm h
    go_enter Try.func20, Try.ntmps20
    go_wp2_with (go_at_call 33; refine (may_b H.out _).mono ?_; rintro e w1 ⟨rfl, hb⟩; obtain ⟨hc, hf⟩ := bcell hb; have hz : w.heap.size + 1 < w1.heap.size := (by have := hb.size; (try simp at this); omega); have hl_0 : w.heap.size < w1.heap.size := (by omega); have hn_0 : w.heap.size ≠ w1.heap.size := (by omega); have hn_1 : w.heap.size + 1 ≠ w1.heap.size := (by omega))
    refine bodyPost_ret (v := .tuple #[.agg #[.int .i64 (x / 16), .int .i64 (y / 16), .int .i64 (z / 16)], .bool true]) (by simp [results, Try.results20, go_sem, hc, hf, hz]) rfl ?_
    refine ⟨rfl, ?_⟩
    (repeat' (first | (with_reducible exact Below.refl _ _) | (with_reducible refine Below.setCell ?_ (by (first | omega | (simp; done) | (simp; omega))) _) | (with_reducible refine Below.alloc ?_ (by (first | omega | (simp; done) | (simp; omega))) _) | (with_reducible refine Below.drew ?_) | (with_reducible refine below_drewN ?_ _) | (with_reducible refine Below.trans ?_ (Below.mono hb (by (first | omega | (simp; done) | (simp; omega)))))))
  · rw [if_neg hm] at h
    obtain ⟨rfl, rfl, rfl, rfl⟩ := p4 h
    have H := Lib.hid (Bool.eq_false_iff.2 hm)
    clear hm h
    go_enter Try.func20, Try.ntmps20
    go_wp2_with (go_at_call 33; refine (may_b H.out _).mono ?_; rintro e w1 ⟨rfl, hb⟩; obtain ⟨hc, hf⟩ := bcell hb; have hz : w.heap.size + 1 < w1.heap.size := (by have := hb.size; (try simp at this); omega); have hl_0 : w.heap.size < w1.heap.size := (by omega); have hn_0 : w.heap.size ≠ w1.heap.size := (by omega); have hn_1 : w.heap.size + 1 ≠ w1.heap.size := (by omega))
    refine bodyPost_ret (v := .tuple #[.agg #[.int .i64 0, .int .i64 0, .int .i64 0], .bool false]) (by simp [results, Try.results20, go_sem, hc, hf, hz]) rfl ?_
    refine ⟨rfl, ?_⟩
    (repeat' (first | (with_reducible exact Below.refl _ _) | (with_reducible refine Below.setCell ?_ (by (first | omega | (simp; done) | (simp; omega))) _) | (with_reducible refine Below.alloc ?_ (by (first | omega | (simp; done) | (simp; omega))) _) | (with_reducible refine Below.drew ?_) | (with_reducible refine below_drewN ?_ _) | (with_reducible refine Below.trans ?_ (Below.mono hb (by (first | omega | (simp; done) | (simp; omega)))))))

end PlaceW
end Go.Proofs.Ytcmmfihhnmhhgaa
