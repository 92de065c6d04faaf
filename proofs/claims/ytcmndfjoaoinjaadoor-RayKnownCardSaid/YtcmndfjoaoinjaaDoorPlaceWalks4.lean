/-
  The walks of steps and distances: moved, Step, apart, Far, and the reference's own.
-/
import Derived.Test.YtcmndfjoaoinjaaDoorPlaceWalks2
import Derived.Deep.Draws
namespace Go.Proofs.YtcmndfjoaoinjaaDoor
open Go.RowKit
set_option linter.unusedSimpArgs false
set_option linter.unusedVariables false
namespace PlaceW
open BitsP

/-- Where a step leads, of any numbers. -/
def mv (d x y z : Int) : Int × Int × Int × Bool :=
  if d = 0 then (wrap64 (x + 1), y, z, true) else if d = 1 then (wrap64 (x - 1), y, z, true) else if d = 2 then (x, y, wrap64 (z + 1), true) else if d = 3 then (x, y, wrap64 (z - 1), true)
  else if d = 4 then (x, wrap64 (y + 1), z, true) else if d = 5 then (x, wrap64 (y - 1), z, true) else (x, y, z, false)

theorem moved_c {d x y z X Y Z : Int} {r : Bool} (h : mv d x y z = (X, Y, Z, r)) (w : World) :
    Calls Tryd.prog 25 #[.agg #[.int .i64 x, .int .i64 y, .int .i64 z], .int .i64 d] w fun e w' => e = .returned (.tuple #[.agg #[.int .i64 X, .int .i64 Y, .int .i64 Z], .bool r]) ∧ Below w.heap.size w w' := by
  unfold mv at h
  by_cases h0 : d = 0
  · subst h0
    rw [if_pos rfl] at h
    obtain ⟨rfl, rfl, rfl, rfl⟩ := p4 h
    clear h
    go_enter Tryd.func25, Tryd.ntmps25
    go_wp2
    refine bodyPost_ret (v := .tuple #[.agg #[.int .i64 (wrap64 (x + 1)), .int .i64 y, .int .i64 z], .bool true]) (by simp [results, Tryd.results25, go_sem]) rfl ?_
    refine ⟨rfl, ?_⟩
    (repeat' (first | (with_reducible exact Below.refl _ _) | (with_reducible refine Below.setCell ?_ (by (first | omega | (simp; done) | (simp; omega))) _) | (with_reducible refine Below.alloc ?_ (by (first | omega | (simp; done) | (simp; omega))) _) | (with_reducible refine Below.drew ?_) | (with_reducible refine below_drewN ?_ _)))
  rw [if_neg h0] at h
  by_cases h1 : d = 1
  · subst h1
    rw [if_pos rfl] at h
    obtain ⟨rfl, rfl, rfl, rfl⟩ := p4 h
    clear h h0
    go_enter Tryd.func25, Tryd.ntmps25
    go_wp2
    refine bodyPost_ret (v := .tuple #[.agg #[.int .i64 (wrap64 (x - 1)), .int .i64 y, .int .i64 z], .bool true]) (by simp [results, Tryd.results25, go_sem]) rfl ?_
    refine ⟨rfl, ?_⟩
    (repeat' (first | (with_reducible exact Below.refl _ _) | (with_reducible refine Below.setCell ?_ (by (first | omega | (simp; done) | (simp; omega))) _) | (with_reducible refine Below.alloc ?_ (by (first | omega | (simp; done) | (simp; omega))) _) | (with_reducible refine Below.drew ?_) | (with_reducible refine below_drewN ?_ _)))
  rw [if_neg h1] at h
  by_cases h2 : d = 2
  · subst h2
    rw [if_pos rfl] at h
    obtain ⟨rfl, rfl, rfl, rfl⟩ := p4 h
    clear h h0 h1
    go_enter Tryd.func25, Tryd.ntmps25
    go_wp2
    refine bodyPost_ret (v := .tuple #[.agg #[.int .i64 x, .int .i64 y, .int .i64 (wrap64 (z + 1))], .bool true]) (by simp [results, Tryd.results25, go_sem]) rfl ?_
    refine ⟨rfl, ?_⟩
    (repeat' (first | (with_reducible exact Below.refl _ _) | (with_reducible refine Below.setCell ?_ (by (first | omega | (simp; done) | (simp; omega))) _) | (with_reducible refine Below.alloc ?_ (by (first | omega | (simp; done) | (simp; omega))) _) | (with_reducible refine Below.drew ?_) | (with_reducible refine below_drewN ?_ _)))
  rw [if_neg h2] at h
  by_cases h3 : d = 3
  · subst h3
    rw [if_pos rfl] at h
    obtain ⟨rfl, rfl, rfl, rfl⟩ := p4 h
    clear h h0 h1 h2
    go_enter Tryd.func25, Tryd.ntmps25
    go_wp2
    refine bodyPost_ret (v := .tuple #[.agg #[.int .i64 x, .int .i64 y, .int .i64 (wrap64 (z - 1))], .bool true]) (by simp [results, Tryd.results25, go_sem]) rfl ?_
    refine ⟨rfl, ?_⟩
    (repeat' (first | (with_reducible exact Below.refl _ _) | (with_reducible refine Below.setCell ?_ (by (first | omega | (simp; done) | (simp; omega))) _) | (with_reducible refine Below.alloc ?_ (by (first | omega | (simp; done) | (simp; omega))) _) | (with_reducible refine Below.drew ?_) | (with_reducible refine below_drewN ?_ _)))
  rw [if_neg h3] at h
  by_cases h4 : d = 4
  · subst h4
    rw [if_pos rfl] at h
    obtain ⟨rfl, rfl, rfl, rfl⟩ := p4 h
    clear h h0 h1 h2 h3
    go_enter Tryd.func25, Tryd.ntmps25
    go_wp2
    refine bodyPost_ret (v := .tuple #[.agg #[.int .i64 x, .int .i64 (wrap64 (y + 1)), .int .i64 z], .bool true]) (by simp [results, Tryd.results25, go_sem]) rfl ?_
    refine ⟨rfl, ?_⟩
    (repeat' (first | (with_reducible exact Below.refl _ _) | (with_reducible refine Below.setCell ?_ (by (first | omega | (simp; done) | (simp; omega))) _) | (with_reducible refine Below.alloc ?_ (by (first | omega | (simp; done) | (simp; omega))) _) | (with_reducible refine Below.drew ?_) | (with_reducible refine below_drewN ?_ _)))
  rw [if_neg h4] at h
  by_cases h5 : d = 5
  · subst h5
    rw [if_pos rfl] at h
    obtain ⟨rfl, rfl, rfl, rfl⟩ := p4 h
    clear h h0 h1 h2 h3 h4
    go_enter Tryd.func25, Tryd.ntmps25
    go_wp2
    refine bodyPost_ret (v := .tuple #[.agg #[.int .i64 x, .int .i64 (wrap64 (y - 1)), .int .i64 z], .bool true]) (by simp [results, Tryd.results25, go_sem]) rfl ?_
    refine ⟨rfl, ?_⟩
    (repeat' (first | (with_reducible exact Below.refl _ _) | (with_reducible refine Below.setCell ?_ (by (first | omega | (simp; done) | (simp; omega))) _) | (with_reducible refine Below.alloc ?_ (by (first | omega | (simp; done) | (simp; omega))) _) | (with_reducible refine Below.drew ?_) | (with_reducible refine below_drewN ?_ _)))
  rw [if_neg h5] at h
  obtain ⟨rfl, rfl, rfl, rfl⟩ := p4 h
  have e0 : (d == 0) = false := by simpa using h0
  have e1 : (d == 1) = false := by simpa using h1
  have e2 : (d == 2) = false := by simpa using h2
  have e3 : (d == 3) = false := by simpa using h3
  have e4 : (d == 4) = false := by simpa using h4
  have e5 : (d == 5) = false := by simpa using h5
  clear h h0 h1 h2 h3 h4 h5
  go_enter Tryd.func25, Tryd.ntmps25
  go_wp2
  refine bodyPost_ret (v := .tuple #[.agg #[.int .i64 x, .int .i64 y, .int .i64 z], .bool false]) (by simp [results, Tryd.results25, go_sem]) rfl ?_
  refine ⟨rfl, ?_⟩
  (repeat' (first | (with_reducible exact Below.refl _ _) | (with_reducible refine Below.setCell ?_ (by (first | omega | (simp; done) | (simp; omega))) _) | (with_reducible refine Below.alloc ?_ (by (first | omega | (simp; done) | (simp; omega))) _) | (with_reducible refine Below.drew ?_) | (with_reducible refine below_drewN ?_ _)))

/-- How far two numbers are apart. -/
def gapI (a b : Int) : Int := if a < b then b - a else a - b

def farOf (x y z u v t : Int) : Int × Bool := if (mayB x y z && mayB u v t) = true then (gapI x u + gapI y v + gapI z t, true) else (0, false)
theorem gapI_le {a b c : Int} (h1 : -c ≤ a) (h2 : a ≤ c) (h3 : -c ≤ b) (h4 : b ≤ c) : 0 ≤ gapI a b ∧ gapI a b ≤ 2 * c := by
  unfold gapI
  split <;> omega

end PlaceW
end Go.Proofs.YtcmndfjoaoinjaaDoor
