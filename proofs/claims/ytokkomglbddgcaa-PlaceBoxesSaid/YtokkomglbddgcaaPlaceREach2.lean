/-
  Each of the reference, whatever the box.
-/
import Derived.Test.YtokkomglbddgcaaPlaceREach
import Derived.Test.YtokkomglbddgcaaPlaceLaws10
namespace Go.Proofs.Ytokkomglbddgcaa
open Go.RowKit
set_option linter.unusedSimpArgs false
set_option linter.unusedVariables false
namespace PlaceW
open BitsP

set_option maxRecDepth 100000 in
set_option maxHeartbeats 2000000 in
theorem r_each_err {x y z u v t be : Int} (h : boxOf x y z u v t = ⟨0, 0, 0, 0, 0, 0, 0, be⟩) (he : (be != 0) = true) (w : World) :
    Calls Try.prog 34 #[.agg #[.int .i64 x, .int .i64 y, .int .i64 z], .agg #[.int .i64 u, .int .i64 v, .int .i64 t]] w (REachPost [] w) := by
  have H := Lib.hid h
  clear h
  go_enter Try.func34, Try.ntmps34
  go_wp2_with fail
  go_at_call 33
  refine (r_box_c H.out _).mono ?_
  rintro e w1 ⟨rfl, hb⟩
  have hs := hb.size
  simp at hs
  go_wp2_with fail
  go_ret
  exact ⟨_, _, rfl, Nat.le_refl _, World.ownsRow_nil _ _ _ _, by (repeat' (first | (with_reducible exact Below.refl _ _) | (with_reducible refine Below.setCell ?_ (by (first | omega | (simp; done) | (simp; omega))) _) | (with_reducible refine Below.alloc ?_ (by (first | omega | (simp; done) | (simp; omega))) _) | (with_reducible refine Below.drew ?_) | (with_reducible refine below_drewN ?_ _) | (with_reducible refine Below.trans ?_ (Below.mono hb (by (first | omega | (simp; done) | (simp; omega)))))))⟩
theorem r_each_c {x y z u v t : Int} {b : BoxR} (h : boxOf x y z u v t = b) (w : World) :
    Calls Try.prog 34 #[.agg #[.int .i64 x, .int .i64 y, .int .i64 z], .agg #[.int .i64 u, .int .i64 v, .int .i64 t]] w (REachPost (boxPlaces b) w) := by
  have hok := box_ok_of h
  rcases box_cases h with ⟨be, rfl, he⟩ | ⟨l1, l2, l3, h1, h2, h3, bn, rfl, a1, a2, a3, hL, hb⟩
  · have hp : boxPlaces ⟨0, 0, 0, 0, 0, 0, 0, be⟩ = [] := by
      rw [boxPlaces, if_neg]
      simpa using he
    rw [hp]
    exact r_each_err h he w
  · obtain ⟨b1, b2, b3, _, _, _, c1, c2, c3⟩ := hok rfl
    have hm := List.length_pos_of_mem ((mem_box (bn := bn) a1 a2 a3).2 ⟨⟨Int.le_refl l1, a1⟩, ⟨Int.le_refl l2, a2⟩, ⟨Int.le_refl l3, a3⟩⟩)
    have hp : boxPlaces ⟨l1, l2, l3, h1, h2, h3, bn, 0⟩ = boxL l1 l2 l3 (h1 - l1 + 1).toNat (h3 - l3 + 1).toNat (h2 - l2 + 1).toNat := by rw [boxPlaces, if_pos rfl]
    rw [hp] at hL hm ⊢
    refine r_each_ok h _ _ _ (by omega) (by omega) (by omega) b1 b2 b3 c1 c2 c3 ?_ ?_ w
    · simp
      omega
    · rw [boxL_length] at hL
      omega

/-- The cells of a row's place. -/
theorem cellsL_at : ∀ (xs : List (Int × Int × Int)) (i : Nat) (hi : i < xs.length), (cellsL xs)[i * 3]? = some (.int .i64 (xs[i].1)) ∧ (cellsL xs)[i * 3 + 1]? = some (.int .i64 (xs[i].2.1)) ∧ (cellsL xs)[i * 3 + 2]? = some (.int .i64 (xs[i].2.2))
  | [], _, hi => by simp at hi
  | x :: xs, 0, _ => ⟨rfl, rfl, rfl⟩
  | x :: xs, i + 1, hi => by
    have ih := cellsL_at xs i (by simpa using hi)
    have e : cellsL (x :: xs) = cellsP x ++ cellsL xs := rfl
    have l3 : (cellsP x).length = 3 := rfl
    rw [e, List.getElem?_append_right (by omega), List.getElem?_append_right (by omega), List.getElem?_append_right (by omega), l3, show (i + 1) * 3 - 3 = i * 3 by omega, show (i + 1) * 3 + 1 - 3 = i * 3 + 1 by omega, show (i + 1) * 3 + 2 - 3 = i * 3 + 2 by omega]
    simpa using ih
/-- Each of the reference, where the box has places: a slice in a block of its own. -/
def REachSome (xs : List (Int × Int × Int)) (w : World) (e : Ending) (w' : World) : Prop := ∃ (g cap : Nat), e = .returned (.slice (some ⟨g, 0, none⟩) xs.length cap) ∧ w.heap.size ≤ g ∧ g < w'.heap.size ∧
  (∀ i (hi : i < xs.length), w'.cell? ⟨g, i * 3, none⟩ = some (.int .i64 (xs[i].1)) ∧ w'.cell? ⟨g, i * 3 + 1, none⟩ = some (.int .i64 (xs[i].2.1)) ∧ w'.cell? ⟨g, i * 3 + 2, none⟩ = some (.int .i64 (xs[i].2.2))) ∧ Below w.heap.size w w'
theorem r_each_some {x y z u v t : Int} {b : BoxR} (h : boxOf x y z u v t = b) (hn : 0 < (boxPlaces b).length) (w : World) :
    Calls Try.prog 34 #[.agg #[.int .i64 x, .int .i64 y, .int .i64 z], .agg #[.int .i64 u, .int .i64 v, .int .i64 t]] w (REachSome (boxPlaces b) w) := by
  refine (r_each_c h w).mono ?_
  rintro e w' ⟨v, base, rfl, hbase, hO, hB⟩
  obtain ⟨k, hk⟩ : ∃ k, (boxPlaces b).length = k + 1 := ⟨_, (Nat.succ_pred_eq_of_pos hn).symm⟩
  rcases hO.2 with ⟨_, h0⟩ | ⟨g, cap, cur, rfl, hg, hh, hrest⟩
  · omega
  · refine ⟨g, cap, rfl, Nat.le_trans hbase hg, (Array.getElem?_eq_some_iff.1 hh).1, fun i hi => ?_, hB⟩
    have hc := cellsL_at (boxPlaces b) i hi
    rw [hO.cellAt _ (by omega), hO.cellAt _ (by omega), hO.cellAt _ (by omega)]
    exact hc
theorem r_each_none {x y z u v t be : Int} (h : boxOf x y z u v t = ⟨0, 0, 0, 0, 0, 0, 0, be⟩) (he : (be != 0) = true) (w : World) :
    Calls Try.prog 34 #[.agg #[.int .i64 x, .int .i64 y, .int .i64 z], .agg #[.int .i64 u, .int .i64 v, .int .i64 t]] w fun e w' => e = .returned (.slice none 0 0) ∧ Below w.heap.size w w' := by
  have H := Lib.hid h
  clear h
  go_enter Try.func34, Try.ntmps34
  go_wp2_with fail
  go_at_call 33
  refine (r_box_c H.out _).mono ?_
  rintro e w1 ⟨rfl, hb⟩
  have hs := hb.size
  simp at hs
  go_wp2_with fail
  go_ret
  exact ⟨rfl, by (repeat' (first | (with_reducible exact Below.refl _ _) | (with_reducible refine Below.setCell ?_ (by (first | omega | (simp; done) | (simp; omega))) _) | (with_reducible refine Below.alloc ?_ (by (first | omega | (simp; done) | (simp; omega))) _) | (with_reducible refine Below.drew ?_) | (with_reducible refine below_drewN ?_ _) | (with_reducible refine Below.trans ?_ (Below.mono hb (by (first | omega | (simp; done) | (simp; omega)))))))⟩
end PlaceW
end Go.Proofs.Ytokkomglbddgcaa
