/-
  The walks of the order of places, and of the reference's: Compare, Or, Cmp.
-/
import Derived.Test.YtcmmfihhnmhhgaaPlaceWalks2
import Derived.Deep.RegionHeld3
import Derived.LoopTactic
namespace Go.Proofs.Ytcmmfihhnmhhgaa
open Go.RowKit
set_option linter.unusedSimpArgs false
set_option linter.unusedVariables false
namespace PlaceW
open BitsP

def cmpI (a b : Int) : Int := if a < b then -1 else if b < a then 1 else 0
def firstNZ (l : List Int) : Int := (l.find? fun x => x != 0).getD 0
def cmpOf (x y z u v t : Int) : Int := firstNZ [cmpI x u, cmpI z t, cmpI y v]

theorem isNaN_c {a : Int} (w : World) :
    Calls Try.prog 54 #[.int .i64 a] w fun e w' => e = .returned (.bool false) ∧ w = w' := by
  go_enter Try.func54, Try.ntmps54
  go_wp2
  go_ret
  exact ⟨by simp, rfl⟩
theorem compare_c {a b c : Int} (h : cmpI a b = c) (w : World) :
    Calls Try.prog 42 #[.int .i64 a, .int .i64 b] w fun e w' => e = .returned (.int .i64 c) ∧ w = w' := by
  subst h
  unfold cmpI
  by_cases h1 : a < b
  · rw [if_pos h1]
    go_enter Try.func42, Try.ntmps42
    go_wp2_with (go_at_call 54; refine (isNaN_c _).mono ?_; rintro e w' ⟨rfl, rfl⟩)
    go_ret
    exact ⟨rfl, rfl⟩
  · rw [if_neg h1]
    by_cases h2 : b < a
    · rw [if_pos h2]
      go_enter Try.func42, Try.ntmps42
      go_wp2_with (go_at_call 54; refine (isNaN_c _).mono ?_; rintro e w' ⟨rfl, rfl⟩)
      go_ret
      exact ⟨rfl, rfl⟩
    · rw [if_neg h2]
      go_enter Try.func42, Try.ntmps42
      go_wp2_with (go_at_call 54; refine (isNaN_c _).mono ?_; rintro e w' ⟨rfl, rfl⟩)
      go_ret
      exact ⟨rfl, rfl⟩
theorem order_c {a b c : Int} (h : cmpI a b = c) (w : World) :
    Calls Try.prog 53 #[.int .i64 a, .int .i64 b] w fun e w' => e = .returned (.int .i64 c) ∧ w = w' := by
  subst h
  unfold cmpI
  by_cases h1 : a < b
  · rw [if_pos h1]
    go_enter Try.func53, Try.ntmps53
    go_wp2
    go_ret
    exact ⟨rfl, rfl⟩
  · rw [if_neg h1]
    by_cases h2 : b < a
    · rw [if_pos h2]
      go_enter Try.func53, Try.ntmps53
      go_wp2
      go_ret
      exact ⟨rfl, rfl⟩
    · rw [if_neg h2]
      go_enter Try.func53, Try.ntmps53
      go_wp2
      go_ret
      exact ⟨rfl, rfl⟩

theorem firstNZ_at {l : List Int} {j : Nat} (hj : j < l.length) (hb : ∀ x ∈ l.take j, x = 0) (h : l[j] ≠ 0) : firstNZ l = l[j] := by
  have e : l.find? (fun x => x != 0) = some l[j] := by
    rw [List.find?_eq_some_iff_getElem]
    refine ⟨by simpa using h, j, hj, rfl, fun i hi => ?_⟩
    have := hb l[i] (by rw [List.mem_take_iff_getElem]; exact ⟨i, by omega, rfl⟩)
    simp [this]
  simp [firstNZ, e]
theorem firstNZ_none {l : List Int} (hb : ∀ x ∈ l, x = 0) : firstNZ l = 0 := by
  have e : l.find? (fun x => x != 0) = none := by
    rw [List.find?_eq_none]
    intro x hx
    simp [hb x hx]
  simp [firstNZ, e]

set_option maxHeartbeats 400000 in
theorem or_c {b n c : Nat} {l : List Int} {r : Int} (w : World) (hn : n = l.length) (hl : l.length < 1000) (hc : ∀ i (hi : i < l.length), w.cell? ⟨b, i, none⟩ = some (.int .i64 l[i])) (hr : firstNZ l = r) :
    Calls Try.prog 41 #[.slice (some ⟨b, 0, none⟩) n c] w fun e w' => e = .returned (.int .i64 r) ∧ w = w' := by
  subst hn
  have HR := Lib.hid hr
  clear hr
  go_enter Try.func41, Try.ntmps41
  go_wp2
  go_loop [8] (fun i => ∃ j : Nat, j ≤ l.length ∧ i = .int .i64 j ∧ ∀ x ∈ l.take j, x = 0) (fun i => l.length - (intOf i).toNat)
  case atStart => exact ⟨0, by omega, rfl, by simp⟩
  case round =>
    obtain ⟨j, hj, rfl, hne⟩ := hrel
    by_cases hlt : j < l.length
    · have h1 := hc j hlt
      by_cases he : l[j] = 0
      · rw [he] at h1
        have hne2 : Hid (∀ x ∈ l.take (j + 1), x = 0) := Lib.hid (by
          intro x hx
          rw [List.take_succ_eq_append_getElem hlt, List.mem_append] at hx
          rcases hx with hx | hx
          · exact hne x hx
          · simp at hx
            rw [hx, he])
        clear he hc hne
        go_wp2
        go_round
        case rel => exact ⟨j + 1, by omega, by go_num, hne2.out⟩
        case measure => simp [intOf]; omega
      · have hin : Hid (r = l[j]) := Lib.hid (by rw [← HR.out]; exact firstNZ_at hlt hne he)
        obtain ⟨y, hy⟩ : ∃ y, l[j] = y := ⟨_, rfl⟩
        have hx2 : (y != 0) = true := by simpa [← hy] using he
        rw [hy] at h1
        have HY := Lib.hid hy
        clear he hc hne hy
        go_wp2
        go_ret
        exact ⟨by rw [hin.out, HY.out]; rfl, rfl⟩
    · have hin : Hid (r = 0) := Lib.hid (by
        rw [← HR.out]
        rw [List.take_of_length_le (by omega)] at hne
        exact firstNZ_none hne)
      clear hc hne
      go_wp2
      go_ret
      exact ⟨by rw [hin.out]; rfl, rfl⟩

theorem cells3 {a b c : Int} {B : Nat} {w : World} (h0 : w.cell? ⟨B, 0, none⟩ = some (.int .i64 a)) (h1 : w.cell? ⟨B, 1, none⟩ = some (.int .i64 b)) (h2 : w.cell? ⟨B, 2, none⟩ = some (.int .i64 c)) :
    ∀ i (hi : i < [a, b, c].length), w.cell? ⟨B, i, none⟩ = some (.int .i64 [a, b, c][i]) := by
  intro i hi
  match i, hi with
  | 0, _ => exact h0
  | 1, _ => exact h1
  | 2, _ => exact h2
theorem cells3_new {a b c : Int} {B : Nat} (W : World) (T : TypeId) (hB : B = W.heap.size) :
    ∀ i (hi : i < [a, b, c].length), (W.alloc (.cells #[.int .i64 a, .int .i64 b, .int .i64 c] T)).drew.cell? ⟨B, i, none⟩ = some (.int .i64 [a, b, c][i]) := by
  subst hB
  have h : ∀ i, (W.alloc (.cells #[.int .i64 a, .int .i64 b, .int .i64 c] T)).drew.cell? ⟨W.heap.size, i, none⟩ = #[.int .i64 a, .int .i64 b, .int .i64 c][i]? := fun i => World.cell?_alloc_new _ _ _ _
  exact cells3 (h 0) (h 1) (h 2)
theorem keep2 {x y z u v t : Int} {w W W' : World} (b : Below W.heap.size W W')
    (h : (W.cell? ⟨w.heap.size, 0, none⟩ = some (.int .i64 x) ∧ W.cell? ⟨w.heap.size, 1, none⟩ = some (.int .i64 y) ∧ W.cell? ⟨w.heap.size, 2, none⟩ = some (.int .i64 z) ∧ W.cell? ⟨w.heap.size + 1, 0, none⟩ = some (.int .i64 u) ∧ W.cell? ⟨w.heap.size + 1, 1, none⟩ = some (.int .i64 v) ∧ W.cell? ⟨w.heap.size + 1, 2, none⟩ = some (.int .i64 t) ∧ w.heap.size + 1 < W.heap.size ∧ Below w.heap.size w W)) :
    (W'.cell? ⟨w.heap.size, 0, none⟩ = some (.int .i64 x) ∧ W'.cell? ⟨w.heap.size, 1, none⟩ = some (.int .i64 y) ∧ W'.cell? ⟨w.heap.size, 2, none⟩ = some (.int .i64 z) ∧ W'.cell? ⟨w.heap.size + 1, 0, none⟩ = some (.int .i64 u) ∧ W'.cell? ⟨w.heap.size + 1, 1, none⟩ = some (.int .i64 v) ∧ W'.cell? ⟨w.heap.size + 1, 2, none⟩ = some (.int .i64 t) ∧ w.heap.size + 1 < W'.heap.size ∧ Below w.heap.size w W') := by
  obtain ⟨h0, h1, h2, h3, h4, h5, hs, hb⟩ := h
  exact ⟨(b.cell (p := ⟨w.heap.size, 0, none⟩) (by (show w.heap.size < _); omega)).trans h0, (b.cell (p := ⟨w.heap.size, 1, none⟩) (by (show w.heap.size < _); omega)).trans h1, (b.cell (p := ⟨w.heap.size, 2, none⟩) (by (show w.heap.size < _); omega)).trans h2, (b.cell hs).trans h3, (b.cell hs).trans h4, (b.cell hs).trans h5, Nat.lt_of_lt_of_le hs b.size, hb.trans (b.mono hb.size)⟩

set_option maxHeartbeats 1000000 in
theorem cmp_c {x y z u v t n : Int} (h : cmpOf x y z u v t = n) (w : World) :
    Calls Try.prog 32 #[.agg #[.int .i64 x, .int .i64 y, .int .i64 z], .agg #[.int .i64 u, .int .i64 v, .int .i64 t]] w fun e w' => e = .returned (.int .i64 n) ∧ Below w.heap.size w w' := by
  obtain ⟨a, ha⟩ : ∃ a, cmpI x u = a := ⟨_, rfl⟩
  obtain ⟨b, hb⟩ : ∃ b, cmpI z t = b := ⟨_, rfl⟩
  obtain ⟨c, hc⟩ : ∃ c, cmpI y v = c := ⟨_, rfl⟩
  have H : Hid (firstNZ [a, b, c] = n) := Lib.hid (by rw [← h, cmpOf, ha, hb, hc])
  have HA := Lib.hid ha
  have HB := Lib.hid hb
  have HC := Lib.hid hc
  clear h ha hb hc
  go_enter Try.func32, Try.ntmps32
  go_wp2_with fail
  go_region_held3 (fun w' => (w'.cell? ⟨w.heap.size, 0, none⟩ = some (.int .i64 x) ∧ w'.cell? ⟨w.heap.size, 1, none⟩ = some (.int .i64 y) ∧ w'.cell? ⟨w.heap.size, 2, none⟩ = some (.int .i64 z) ∧ w'.cell? ⟨w.heap.size + 1, 0, none⟩ = some (.int .i64 u) ∧ w'.cell? ⟨w.heap.size + 1, 1, none⟩ = some (.int .i64 v) ∧ w'.cell? ⟨w.heap.size + 1, 2, none⟩ = some (.int .i64 t) ∧ w.heap.size + 1 < w'.heap.size ∧ Below w.heap.size w w'))
    (first | assumption | (exact ⟨by simp, by simp, by simp, by simp, by simp, by simp, by simp, (((Below.refl _ _).alloc (Nat.le_refl _) _).alloc (by simp) _).drew⟩) | (exact keep2 ((Below.refl _ _).alloc (Nat.le_refl _) _) (by assumption)))
    (first | (go_at_call 42; (first | (with_reducible refine (compare_c HA.out _).mono ?_) | (with_reducible refine (compare_c HB.out _).mono ?_) | (with_reducible refine (compare_c HC.out _).mono ?_)); rintro e w' ⟨rfl, rfl⟩) | (go_at_call 41; refine (or_c (l := [a, b, c]) _ rfl (by simp) (cells3_new _ _ (by simp)) H.out).mono ?_; rintro e w' ⟨rfl, rfl⟩))
  go_wp2
  go_ret
  refine ⟨rfl, ?_⟩
  (repeat' (first | (with_reducible exact Below.refl _ _) | (with_reducible refine Below.setCell ?_ (by (first | omega | (simp; done) | (simp; omega))) _) | (with_reducible refine Below.alloc ?_ (by (first | omega | (simp; done) | (simp; omega))) _) | (with_reducible refine Below.drew ?_) | (with_reducible refine below_drewN ?_ _)))
end PlaceW
end Go.Proofs.Ytcmmfihhnmhhgaa
