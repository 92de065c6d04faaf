/-
  The walks of Step and Far, of place and of its reference; of the reference's Cmp.
-/
import Derived.Test.YtcmmfihhnmhhgaaPlaceWalks3
import Derived.Test.YtcmmfihhnmhhgaaPlaceWalks4
import Derived.Test.YtcmmfihhnmhhgaaPlaceWalks5
namespace Go.Proofs.Ytcmmfihhnmhhgaa
open Go.RowKit
set_option linter.unusedSimpArgs false
set_option linter.unusedVariables false
namespace PlaceW
open BitsP

theorem cmpSpot_c {x y z u v t n : Int} (h : cmpOf x y z u v t = n) (w : World) :
    Calls Try.prog 19 #[.agg #[.int .i64 x, .int .i64 y, .int .i64 z], .agg #[.int .i64 u, .int .i64 v, .int .i64 t]] w fun e w' => e = .returned (.int .i64 n) ∧ Below w.heap.size w w' := by
  have H := Lib.hid h
  clear h
  go_enter Try.func19, Try.ntmps19
  go_wp2_with (go_at_call 32; refine (cmp_c H.out _).mono ?_; rintro e w1 ⟨rfl, hb⟩)
  go_ret
  refine ⟨rfl, ?_⟩
  (repeat' (first | (with_reducible exact Below.refl _ _) | (with_reducible refine Below.setCell ?_ (by (first | omega | (simp; done) | (simp; omega))) _) | (with_reducible refine Below.alloc ?_ (by (first | omega | (simp; done) | (simp; omega))) _) | (with_reducible refine Below.drew ?_) | (with_reducible refine below_drewN ?_ _) | (with_reducible refine Below.trans ?_ (Below.mono hb (by (first | omega | (simp; done) | (simp; omega)))))))
theorem cmpI_zero {a b : Int} : cmpI a b = 0 ↔ a = b := by
  unfold cmpI
  constructor
  · intro h
    split at h
    · omega
    · split at h <;> omega
  · intro h
    rw [if_neg (by omega), if_neg (by omega)]
theorem firstNZ_cons {a : Int} {l : List Int} : firstNZ (a :: l) = if a = 0 then firstNZ l else a := by
  unfold firstNZ
  by_cases h : a = 0
  · simp [h]
  · simp [h]
theorem cmpOf_eq (x y z u v t : Int) : cmpOf x y z u v t = if x = u then (if z = t then cmpI y v else cmpI z t) else cmpI x u := by
  unfold cmpOf
  simp only [firstNZ_cons, cmpI_zero]
  split
  · split
    · split
      · rename_i h
        rw [cmpI_zero.2 h]
        rfl
      · rfl
    · rfl
  · rfl
set_option maxHeartbeats 400000 in
theorem r_cmp_c {x y z u v t n : Int} (h : cmpOf x y z u v t = n) (w : World) :
    Calls Try.prog 38 #[.agg #[.int .i64 x, .int .i64 y, .int .i64 z], .agg #[.int .i64 u, .int .i64 v, .int .i64 t]] w fun e w' => e = .returned (.int .i64 n) ∧ Below w.heap.size w w' := by
  subst h
  rw [cmpOf_eq]
  by_cases hx : x = u
  · by_cases hz : z = t
    · rw [if_pos hx, if_pos hz]
      have e1 : (x != u) = false := by simpa using hx
      have e2 : (z != t) = false := by simpa using hz
      clear hx hz
      go_enter Try.func38, Try.ntmps38
      go_wp2_with (go_at_call 53; refine (order_c rfl _).mono ?_; rintro e w' ⟨rfl, rfl⟩)
      go_ret
      refine ⟨rfl, ?_⟩
      (repeat' (first | (with_reducible exact Below.refl _ _) | (with_reducible refine Below.setCell ?_ (by (first | omega | (simp; done) | (simp; omega))) _) | (with_reducible refine Below.alloc ?_ (by (first | omega | (simp; done) | (simp; omega))) _) | (with_reducible refine Below.drew ?_) | (with_reducible refine below_drewN ?_ _)))
    · rw [if_pos hx, if_neg hz]
      have e1 : (x != u) = false := by simpa using hx
      have e2 : (z != t) = true := by simpa using hz
      clear hx hz
      go_enter Try.func38, Try.ntmps38
      go_wp2_with (go_at_call 53; refine (order_c rfl _).mono ?_; rintro e w' ⟨rfl, rfl⟩)
      go_ret
      refine ⟨rfl, ?_⟩
      (repeat' (first | (with_reducible exact Below.refl _ _) | (with_reducible refine Below.setCell ?_ (by (first | omega | (simp; done) | (simp; omega))) _) | (with_reducible refine Below.alloc ?_ (by (first | omega | (simp; done) | (simp; omega))) _) | (with_reducible refine Below.drew ?_) | (with_reducible refine below_drewN ?_ _)))
  · rw [if_neg hx]
    have e1 : (x != u) = true := by simpa using hx
    clear hx
    go_enter Try.func38, Try.ntmps38
    go_wp2_with (go_at_call 53; refine (order_c rfl _).mono ?_; rintro e w' ⟨rfl, rfl⟩)
    go_ret
    refine ⟨rfl, ?_⟩
    (repeat' (first | (with_reducible exact Below.refl _ _) | (with_reducible refine Below.setCell ?_ (by (first | omega | (simp; done) | (simp; omega))) _) | (with_reducible refine Below.alloc ?_ (by (first | omega | (simp; done) | (simp; omega))) _) | (with_reducible refine Below.drew ?_) | (with_reducible refine below_drewN ?_ _)))

theorem r_cmpSpot_c {x y z u v t n : Int} (h : cmpOf x y z u v t = n) (w : World) :
    Calls Try.prog 25 #[.agg #[.int .i64 x, .int .i64 y, .int .i64 z], .agg #[.int .i64 u, .int .i64 v, .int .i64 t]] w fun e w' => e = .returned (.int .i64 n) ∧ Below w.heap.size w w' := by
  have H := Lib.hid h
  clear h
  go_enter Try.func25, Try.ntmps25
  go_wp2_with (go_at_call 38; refine (r_cmp_c H.out _).mono ?_; rintro e w1 ⟨rfl, hb⟩)
  go_ret
  refine ⟨rfl, ?_⟩
  (repeat' (first | (with_reducible exact Below.refl _ _) | (with_reducible refine Below.setCell ?_ (by (first | omega | (simp; done) | (simp; omega))) _) | (with_reducible refine Below.alloc ?_ (by (first | omega | (simp; done) | (simp; omega))) _) | (with_reducible refine Below.drew ?_) | (with_reducible refine below_drewN ?_ _) | (with_reducible refine Below.trans ?_ (Below.mono hb (by (first | omega | (simp; done) | (simp; omega)))))))
/-- The side of a place, and whether there is one. -/
def stepOf (x y z d : Int) : Int × Int × Int × Bool :=
  if mayB x y z = true then (if (mv d x y z).2.2.2 = true ∧ mayB (mv d x y z).1 (mv d x y z).2.1 (mv d x y z).2.2.1 = true then mv d x y z else (0, 0, 0, false)) else (0, 0, 0, false)

end PlaceW
end Go.Proofs.Ytcmmfihhnmhhgaa
