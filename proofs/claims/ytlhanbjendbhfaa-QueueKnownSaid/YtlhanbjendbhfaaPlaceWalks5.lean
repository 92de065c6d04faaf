/-
  The walks of the order of places, and of the reference's: Compare, Or, Cmp.
-/
import Derived.Test.YtlhanbjendbhfaaPlaceWalks2
import Derived.Deep.RegionHeld3
import Derived.LoopTactic
namespace Go.Proofs.Ytlhanbjendbhfaa
open Go.RowKit
set_option linter.unusedSimpArgs false
set_option linter.unusedVariables false
namespace PlaceW
open BitsP

def cmpI (a b : Int) : Int := if a < b then -1 else if b < a then 1 else 0
def firstNZ (l : List Int) : Int := (l.find? fun x => x != 0).getD 0
def cmpOf (x y z u v t : Int) : Int := firstNZ [cmpI x u, cmpI z t, cmpI y v]

theorem isNaN_c {a : Int} (w : World) :
    Calls Try.prog 52 #[.int .i64 a] w fun e w' => e = .returned (.bool false) ∧ w = w' := by
  go_enter Try.func52, Try.ntmps52
  go_wp2
  go_ret
  exact ⟨by simp, rfl⟩
theorem compare_c {a b c : Int} (h : cmpI a b = c) (w : World) :
    Calls Try.prog 46 #[.int .i64 a, .int .i64 b] w fun e w' => e = .returned (.int .i64 c) ∧ w = w' := by
  subst h
  unfold cmpI
  by_cases h1 : a < b
  · rw [if_pos h1]
    go_enter Try.func46, Try.ntmps46
    go_wp2_with (go_at_call 52; refine (isNaN_c _).mono ?_; rintro e w' ⟨rfl, rfl⟩)
    go_ret
    exact ⟨rfl, rfl⟩
  · rw [if_neg h1]
    by_cases h2 : b < a
    · rw [if_pos h2]
      go_enter Try.func46, Try.ntmps46
      go_wp2_with (go_at_call 52; refine (isNaN_c _).mono ?_; rintro e w' ⟨rfl, rfl⟩)
      go_ret
      exact ⟨rfl, rfl⟩
    · rw [if_neg h2]
      go_enter Try.func46, Try.ntmps46
      go_wp2_with (go_at_call 52; refine (isNaN_c _).mono ?_; rintro e w' ⟨rfl, rfl⟩)
      go_ret
      exact ⟨rfl, rfl⟩
theorem firstNZ_at {l : List Int} {j : Nat} (hj : j < l.length) (hb : ∀ x ∈ l.take j, x = 0) (h : l[j] ≠ 0) : firstNZ l = l[j] := by
  have e : l.find? (fun x => x != 0) = some l[j] := by
    rw [List.find?_eq_some_iff_getElem]
    refine ⟨by simpa using h, j, hj, rfl, fun i hi => ?_⟩
    have := hb l[i] (by rw [List.mem_take_iff_getElem]; exact ⟨i, by omega, rfl⟩)
    simp [this]
  simp [firstNZ, e]
theorem firstNZ_none {l : List Int} (hb : ∀ x ∈ l, x = 0) : firstNZ l = 0 := by
  have e : l.find? (fun x => x != 0) = none := by
    rw [List.find?_eq_none]
    intro x hx
    simp [hb x hx]
  simp [firstNZ, e]

theorem cells3 {a b c : Int} {B : Nat} {w : World} (h0 : w.cell? ⟨B, 0, none⟩ = some (.int .i64 a)) (h1 : w.cell? ⟨B, 1, none⟩ = some (.int .i64 b)) (h2 : w.cell? ⟨B, 2, none⟩ = some (.int .i64 c)) :
    ∀ i (hi : i < [a, b, c].length), w.cell? ⟨B, i, none⟩ = some (.int .i64 [a, b, c][i]) := by
  intro i hi
  match i, hi with
  | 0, _ => exact h0
  | 1, _ => exact h1
  | 2, _ => exact h2
theorem cells3_new {a b c : Int} {B : Nat} (W : World) (T : TypeId) (hB : B = W.heap.size) :
    ∀ i (hi : i < [a, b, c].length), (W.alloc (.cells #[.int .i64 a, .int .i64 b, .int .i64 c] T)).drew.cell? ⟨B, i, none⟩ = some (.int .i64 [a, b, c][i]) := by
  subst hB
  have h : ∀ i, (W.alloc (.cells #[.int .i64 a, .int .i64 b, .int .i64 c] T)).drew.cell? ⟨W.heap.size, i, none⟩ = #[.int .i64 a, .int .i64 b, .int .i64 c][i]? := fun i => World.cell?_alloc_new _ _ _ _
  exact cells3 (h 0) (h 1) (h 2)
theorem keep2 {x y z u v t : Int} {w W W' : World} (b : Below W.heap.size W W')
    (h : (W.cell? ⟨w.heap.size, 0, none⟩ = some (.int .i64 x) ∧ W.cell? ⟨w.heap.size, 1, none⟩ = some (.int .i64 y) ∧ W.cell? ⟨w.heap.size, 2, none⟩ = some (.int .i64 z) ∧ W.cell? ⟨w.heap.size + 1, 0, none⟩ = some (.int .i64 u) ∧ W.cell? ⟨w.heap.size + 1, 1, none⟩ = some (.int .i64 v) ∧ W.cell? ⟨w.heap.size + 1, 2, none⟩ = some (.int .i64 t) ∧ w.heap.size + 1 < W.heap.size ∧ Below w.heap.size w W)) :
    (W'.cell? ⟨w.heap.size, 0, none⟩ = some (.int .i64 x) ∧ W'.cell? ⟨w.heap.size, 1, none⟩ = some (.int .i64 y) ∧ W'.cell? ⟨w.heap.size, 2, none⟩ = some (.int .i64 z) ∧ W'.cell? ⟨w.heap.size + 1, 0, none⟩ = some (.int .i64 u) ∧ W'.cell? ⟨w.heap.size + 1, 1, none⟩ = some (.int .i64 v) ∧ W'.cell? ⟨w.heap.size + 1, 2, none⟩ = some (.int .i64 t) ∧ w.heap.size + 1 < W'.heap.size ∧ Below w.heap.size w W') := by
  obtain ⟨h0, h1, h2, h3, h4, h5, hs, hb⟩ := h
  exact ⟨(b.cell (p := ⟨w.heap.size, 0, none⟩) (by (show w.heap.size < _); omega)).trans h0, (b.cell (p := ⟨w.heap.size, 1, none⟩) (by (show w.heap.size < _); omega)).trans h1, (b.cell (p := ⟨w.heap.size, 2, none⟩) (by (show w.heap.size < _); omega)).trans h2, (b.cell hs).trans h3, (b.cell hs).trans h4, (b.cell hs).trans h5, Nat.lt_of_lt_of_le hs b.size, hb.trans (b.mono hb.size)⟩

end PlaceW
end Go.Proofs.Ytlhanbjendbhfaa
