/-
  The laws of place, first part: the chapter's place, PlaceSteps, PlaceThere.
-/
import Derived.Test.YtokkomglbddgcaaPlaceWalks7
namespace Go.Proofs.Ytokkomglbddgcaa
open Go.RowKit
set_option linter.unusedSimpArgs false
set_option linter.unusedVariables false
namespace PlaceW
open BitsP

set_option maxHeartbeats 400000 in
theorem works_c (w : World) :
    Calls Try.prog 23 #[] w fun e w' => e = .returned (.bool true) ∧ Below w.heap.size w w' := by
  go_enter Try.func23, Try.ntmps23
  go_wp2_with fail
  go_at_call 13
  refine (spot_c (X := -1) (Y := 1) (Z := 1) (r := true) (by decide) _).mono ?_
  rintro e w1 ⟨rfl, hb1⟩
  have hs1 := hb1.size
  try simp at hs1
  have z1 : w.heap.size ≤ w1.heap.size := (by omega)
  have HB1 := Lib.hid (show Below w.heap.size w w1 by (repeat' (first | (with_reducible exact Below.refl _ _) | (with_reducible refine Below.setCell ?_ (by (first | omega | (simp; done) | (simp; omega))) _) | (with_reducible refine Below.alloc ?_ (by (first | omega | (simp; done) | (simp; omega))) _) | (with_reducible refine Below.drew ?_) | (with_reducible refine below_drewN ?_ _) | (with_reducible refine Below.trans ?_ (Below.mono hb1 (by (first | omega | (simp; done) | (simp; omega))))))))
  clear hb1 hs1
  go_wp2_with fail
  go_at_call 15
  refine (index_c (n := 271) (r := true) (by decide) _).mono ?_
  rintro e w2 ⟨rfl, hb2⟩
  have HBo := HB1.out
  have hs2 := hb2.size
  try simp at hs2
  have c2_0_0 : w2.cell? ⟨w1.heap.size, 0, none⟩ = some (.int .i64 (-1)) := (by rw [hb2.cell (p := ⟨w1.heap.size, 0, none⟩) (by first | omega | (simp; done) | (simp; omega))] <;> first | assumption | (simp; done) | (simp [go_sem, *]; done))
  have c2_0_1 : w2.cell? ⟨w1.heap.size, 1, none⟩ = some (.int .i64 1) := (by rw [hb2.cell (p := ⟨w1.heap.size, 1, none⟩) (by first | omega | (simp; done) | (simp; omega))] <;> first | assumption | (simp; done) | (simp [go_sem, *]; done))
  have c2_0_2 : w2.cell? ⟨w1.heap.size, 2, none⟩ = some (.int .i64 1) := (by rw [hb2.cell (p := ⟨w1.heap.size, 2, none⟩) (by first | omega | (simp; done) | (simp; omega))] <;> first | assumption | (simp; done) | (simp [go_sem, *]; done))
  have l2_0 : w1.heap.size < w2.heap.size := (by omega)
  have n2_0 : w1.heap.size ≠ w2.heap.size := (by omega)
  have z2 : w.heap.size ≤ w2.heap.size := (by omega)
  have HB2 := Lib.hid (show Below w.heap.size w w2 by (repeat' (first | (with_reducible exact Below.refl _ _) | (with_reducible refine Below.setCell ?_ (by (first | omega | (simp; done) | (simp; omega))) _) | (with_reducible refine Below.alloc ?_ (by (first | omega | (simp; done) | (simp; omega))) _) | (with_reducible refine Below.drew ?_) | (with_reducible refine below_drewN ?_ _) | (with_reducible refine Below.trans ?_ (Below.mono HBo (by (first | omega | (simp; done) | (simp; omega))))) | (with_reducible refine Below.trans ?_ (Below.mono hb2 (by (first | omega | (simp; done) | (simp; omega))))))))
  clear HBo hb2 hs2 z1 HB1
  go_wp2_with fail
  go_ret
  have HBo := HB2.out
  refine ⟨rfl, ?_⟩
  (repeat' (first | (with_reducible exact Below.refl _ _) | (with_reducible refine Below.setCell ?_ (by (first | omega | (simp; done) | (simp; omega))) _) | (with_reducible refine Below.alloc ?_ (by (first | omega | (simp; done) | (simp; omega))) _) | (with_reducible refine Below.drew ?_) | (with_reducible refine below_drewN ?_ _) | (with_reducible refine Below.trans ?_ (Below.mono HBo (by (first | omega | (simp; done) | (simp; omega)))))))

set_option maxHeartbeats 400000 in
theorem law_steps (x y z d : Int) (w : World) :
    Calls Try.prog 4 #[.agg #[.int .i64 x, .int .i64 y, .int .i64 z], .int .i64 d] w fun e w' => e = .returned (.bool true) ∧ Below w.heap.size w w' := by
  obtain ⟨X, Y, Z, r, h⟩ : ∃ X Y Z r, stepOf x y z d = (X, Y, Z, r) := ⟨_, _, _, _, rfl⟩
  have H := Lib.hid h
  clear h
  go_enter Try.func4, Try.ntmps4
  go_wp2_with fail
  go_at_call 24
  refine (step_c H.out _).mono ?_
  rintro e w1 ⟨rfl, hb1⟩
  have hs1 := hb1.size
  try simp at hs1
  have c1_0_0 : w1.cell? ⟨w.heap.size, 0, none⟩ = some (.int .i64 x) := (by rw [hb1.cell (p := ⟨w.heap.size, 0, none⟩) (by first | omega | (simp; done) | (simp; omega))] <;> first | assumption | (simp; done) | (simp [go_sem, *]; done))
  have c1_0_1 : w1.cell? ⟨w.heap.size, 1, none⟩ = some (.int .i64 y) := (by rw [hb1.cell (p := ⟨w.heap.size, 1, none⟩) (by first | omega | (simp; done) | (simp; omega))] <;> first | assumption | (simp; done) | (simp [go_sem, *]; done))
  have c1_0_2 : w1.cell? ⟨w.heap.size, 2, none⟩ = some (.int .i64 z) := (by rw [hb1.cell (p := ⟨w.heap.size, 2, none⟩) (by first | omega | (simp; done) | (simp; omega))] <;> first | assumption | (simp; done) | (simp [go_sem, *]; done))
  have l1_0 : w.heap.size < w1.heap.size := (by omega)
  have n1_0 : w.heap.size ≠ w1.heap.size := (by omega)
  have z1 : w.heap.size ≤ w1.heap.size := (by omega)
  have HB1 := Lib.hid (show Below w.heap.size w w1 by (repeat' (first | (with_reducible exact Below.refl _ _) | (with_reducible refine Below.setCell ?_ (by (first | omega | (simp; done) | (simp; omega))) _) | (with_reducible refine Below.alloc ?_ (by (first | omega | (simp; done) | (simp; omega))) _) | (with_reducible refine Below.drew ?_) | (with_reducible refine below_drewN ?_ _) | (with_reducible refine Below.trans ?_ (Below.mono hb1 (by (first | omega | (simp; done) | (simp; omega))))))))
  clear hb1 hs1
  go_wp2_with fail
  go_at_call 25
  refine (r_step_c H.out _).mono ?_
  rintro e w2 ⟨rfl, hb2⟩
  have HBo := HB1.out
  have hs2 := hb2.size
  try simp at hs2
  have c2_0_0 : w2.cell? ⟨w.heap.size, 0, none⟩ = some (.int .i64 x) := (by rw [hb2.cell (p := ⟨w.heap.size, 0, none⟩) (by first | omega | (simp; done) | (simp; omega))] <;> first | assumption | (simp; done) | (simp [go_sem, *]; done))
  have c2_0_1 : w2.cell? ⟨w.heap.size, 1, none⟩ = some (.int .i64 y) := (by rw [hb2.cell (p := ⟨w.heap.size, 1, none⟩) (by first | omega | (simp; done) | (simp; omega))] <;> first | assumption | (simp; done) | (simp [go_sem, *]; done))
  have c2_0_2 : w2.cell? ⟨w.heap.size, 2, none⟩ = some (.int .i64 z) := (by rw [hb2.cell (p := ⟨w.heap.size, 2, none⟩) (by first | omega | (simp; done) | (simp; omega))] <;> first | assumption | (simp; done) | (simp [go_sem, *]; done))
  have c2_1_0 : w2.cell? ⟨w1.heap.size, 0, none⟩ = some (.int .i64 X) := (by rw [hb2.cell (p := ⟨w1.heap.size, 0, none⟩) (by first | omega | (simp; done) | (simp; omega))] <;> first | assumption | (simp; done) | (simp [go_sem, *]; done))
  have c2_1_1 : w2.cell? ⟨w1.heap.size, 1, none⟩ = some (.int .i64 Y) := (by rw [hb2.cell (p := ⟨w1.heap.size, 1, none⟩) (by first | omega | (simp; done) | (simp; omega))] <;> first | assumption | (simp; done) | (simp [go_sem, *]; done))
  have c2_1_2 : w2.cell? ⟨w1.heap.size, 2, none⟩ = some (.int .i64 Z) := (by rw [hb2.cell (p := ⟨w1.heap.size, 2, none⟩) (by first | omega | (simp; done) | (simp; omega))] <;> first | assumption | (simp; done) | (simp [go_sem, *]; done))
  have l2_0 : w.heap.size < w2.heap.size := (by omega)
  have n2_0 : w.heap.size ≠ w2.heap.size := (by omega)
  have l2_1 : w1.heap.size < w2.heap.size := (by omega)
  have n2_1 : w1.heap.size ≠ w2.heap.size := (by omega)
  have z2 : w.heap.size ≤ w2.heap.size := (by omega)
  have HB2 := Lib.hid (show Below w.heap.size w w2 by (repeat' (first | (with_reducible exact Below.refl _ _) | (with_reducible refine Below.setCell ?_ (by (first | omega | (simp; done) | (simp; omega))) _) | (with_reducible refine Below.alloc ?_ (by (first | omega | (simp; done) | (simp; omega))) _) | (with_reducible refine Below.drew ?_) | (with_reducible refine below_drewN ?_ _) | (with_reducible refine Below.trans ?_ (Below.mono HBo (by (first | omega | (simp; done) | (simp; omega))))) | (with_reducible refine Below.trans ?_ (Below.mono hb2 (by (first | omega | (simp; done) | (simp; omega))))))))
  clear HBo hb2 hs2 c1_0_0 c1_0_1 c1_0_2 l1_0 n1_0 z1 HB1
  go_wp2_with fail
  go_at_call 23
  refine (works_c _).mono ?_
  rintro e w3 ⟨rfl, hb3⟩
  have HBo := HB2.out
  have hs3 := hb3.size
  try simp at hs3
  have c3_0_0 : w3.cell? ⟨w.heap.size, 0, none⟩ = some (.int .i64 x) := (by rw [hb3.cell (p := ⟨w.heap.size, 0, none⟩) (by first | omega | (simp; done) | (simp; omega))] <;> first | assumption | (simp; done) | (simp [go_sem, *]; done))
  have c3_0_1 : w3.cell? ⟨w.heap.size, 1, none⟩ = some (.int .i64 y) := (by rw [hb3.cell (p := ⟨w.heap.size, 1, none⟩) (by first | omega | (simp; done) | (simp; omega))] <;> first | assumption | (simp; done) | (simp [go_sem, *]; done))
  have c3_0_2 : w3.cell? ⟨w.heap.size, 2, none⟩ = some (.int .i64 z) := (by rw [hb3.cell (p := ⟨w.heap.size, 2, none⟩) (by first | omega | (simp; done) | (simp; omega))] <;> first | assumption | (simp; done) | (simp [go_sem, *]; done))
  have c3_1_0 : w3.cell? ⟨w1.heap.size, 0, none⟩ = some (.int .i64 X) := (by rw [hb3.cell (p := ⟨w1.heap.size, 0, none⟩) (by first | omega | (simp; done) | (simp; omega))] <;> first | assumption | (simp; done) | (simp [go_sem, *]; done))
  have c3_1_1 : w3.cell? ⟨w1.heap.size, 1, none⟩ = some (.int .i64 Y) := (by rw [hb3.cell (p := ⟨w1.heap.size, 1, none⟩) (by first | omega | (simp; done) | (simp; omega))] <;> first | assumption | (simp; done) | (simp [go_sem, *]; done))
  have c3_1_2 : w3.cell? ⟨w1.heap.size, 2, none⟩ = some (.int .i64 Z) := (by rw [hb3.cell (p := ⟨w1.heap.size, 2, none⟩) (by first | omega | (simp; done) | (simp; omega))] <;> first | assumption | (simp; done) | (simp [go_sem, *]; done))
  have c3_2_0 : w3.cell? ⟨w2.heap.size, 0, none⟩ = some (.int .i64 X) := (by rw [hb3.cell (p := ⟨w2.heap.size, 0, none⟩) (by first | omega | (simp; done) | (simp; omega))] <;> first | assumption | (simp; done) | (simp [go_sem, *]; done))
  have c3_2_1 : w3.cell? ⟨w2.heap.size, 1, none⟩ = some (.int .i64 Y) := (by rw [hb3.cell (p := ⟨w2.heap.size, 1, none⟩) (by first | omega | (simp; done) | (simp; omega))] <;> first | assumption | (simp; done) | (simp [go_sem, *]; done))
  have c3_2_2 : w3.cell? ⟨w2.heap.size, 2, none⟩ = some (.int .i64 Z) := (by rw [hb3.cell (p := ⟨w2.heap.size, 2, none⟩) (by first | omega | (simp; done) | (simp; omega))] <;> first | assumption | (simp; done) | (simp [go_sem, *]; done))
  have l3_0 : w.heap.size < w3.heap.size := (by omega)
  have n3_0 : w.heap.size ≠ w3.heap.size := (by omega)
  have l3_1 : w1.heap.size < w3.heap.size := (by omega)
  have n3_1 : w1.heap.size ≠ w3.heap.size := (by omega)
  have l3_2 : w2.heap.size < w3.heap.size := (by omega)
  have n3_2 : w2.heap.size ≠ w3.heap.size := (by omega)
  have z3 : w.heap.size ≤ w3.heap.size := (by omega)
  have HB3 := Lib.hid (show Below w.heap.size w w3 by (repeat' (first | (with_reducible exact Below.refl _ _) | (with_reducible refine Below.setCell ?_ (by (first | omega | (simp; done) | (simp; omega))) _) | (with_reducible refine Below.alloc ?_ (by (first | omega | (simp; done) | (simp; omega))) _) | (with_reducible refine Below.drew ?_) | (with_reducible refine below_drewN ?_ _) | (with_reducible refine Below.trans ?_ (Below.mono HBo (by (first | omega | (simp; done) | (simp; omega))))) | (with_reducible refine Below.trans ?_ (Below.mono hb3 (by (first | omega | (simp; done) | (simp; omega))))))))
  clear HBo hb3 hs3 c2_0_0 c2_0_1 c2_0_2 c2_1_0 c2_1_1 c2_1_2 l2_0 n2_0 l2_1 n2_1 z2 HB2
  go_wp2_with fail
  go_ret
  have HBo := HB3.out
  refine ⟨rfl, ?_⟩
  (repeat' (first | (with_reducible exact Below.refl _ _) | (with_reducible refine Below.setCell ?_ (by (first | omega | (simp; done) | (simp; omega))) _) | (with_reducible refine Below.alloc ?_ (by (first | omega | (simp; done) | (simp; omega))) _) | (with_reducible refine Below.drew ?_) | (with_reducible refine below_drewN ?_ _) | (with_reducible refine Below.trans ?_ (Below.mono HBo (by (first | omega | (simp; done) | (simp; omega)))))))
end PlaceW
end Go.Proofs.Ytokkomglbddgcaa
