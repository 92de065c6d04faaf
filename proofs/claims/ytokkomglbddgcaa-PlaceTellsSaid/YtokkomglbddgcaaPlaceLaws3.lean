/-
  The laws of place, third part: PlaceTells, PlaceCompares.
-/
import Derived.Test.YtokkomglbddgcaaPlaceLaws1
import Derived.Test.YtokkomglbddgcaaHeldP
import Derived.Deep.RegionHeld3
namespace Go.Proofs.Ytokkomglbddgcaa
open Go.RowKit
set_option linter.unusedSimpArgs false
set_option linter.unusedVariables false
namespace PlaceW
open BitsP

set_option maxRecDepth 100000 in
set_option maxHeartbeats 2000000 in
theorem law_tells (x y z u v t i : Int) (w : World) :
    Calls Try.prog 3 #[.agg #[.int .i64 x, .int .i64 y, .int .i64 z], .agg #[.int .i64 u, .int .i64 v, .int .i64 t], .int .i64 i] w fun e w' => e = .returned (.bool true) ∧ Below w.heap.size w w' := by
  obtain ⟨a1, a2, a3, r, h1⟩ : ∃ X Y Z r, spotOf x y z = (X, Y, Z, r) := ⟨_, _, _, _, rfl⟩
  obtain ⟨n, s, h2⟩ : ∃ n s, indexOf x y z = (n, s) := ⟨_, _, rfl⟩
  obtain ⟨b1, b2, b3, q, h3⟩ : ∃ X Y Z r, ofOf u v t i = (X, Y, Z, r) := ⟨_, _, _, _, rfl⟩
  obtain ⟨m1, h4⟩ : ∃ r, mayB x y z = r := ⟨_, rfl⟩
  obtain ⟨m2, h5⟩ : ∃ r, spotB u v t = r := ⟨_, rfl⟩
  have H1 := Lib.hid h1
  have H2 := Lib.hid h2
  have H3 := Lib.hid h3
  have H4 := Lib.hid h4
  have H5 := Lib.hid h5
  clear h1 h2 h3 h4 h5
  go_enter Try.func3, Try.ntmps3
  go_wp2_with fail
  go_at_call 13
  refine (spot_c H1.out _).mono ?_
  rintro e w1 ⟨rfl, hb1⟩
  have hs1 := hb1.size
  try simp at hs1
  have c1_0_0 : w1.cell? ⟨w.heap.size, 0, none⟩ = some (.int .i64 x) := (by rw [hb1.cell (p := ⟨w.heap.size, 0, none⟩) (by first | omega | (simp; done) | (simp; omega))] <;> first | assumption | (simp; done) | (simp [go_sem, *]; done))
  have c1_0_1 : w1.cell? ⟨w.heap.size, 1, none⟩ = some (.int .i64 y) := (by rw [hb1.cell (p := ⟨w.heap.size, 1, none⟩) (by first | omega | (simp; done) | (simp; omega))] <;> first | assumption | (simp; done) | (simp [go_sem, *]; done))
  have c1_0_2 : w1.cell? ⟨w.heap.size, 2, none⟩ = some (.int .i64 z) := (by rw [hb1.cell (p := ⟨w.heap.size, 2, none⟩) (by first | omega | (simp; done) | (simp; omega))] <;> first | assumption | (simp; done) | (simp [go_sem, *]; done))
  have c1_1_0 : w1.cell? ⟨w.heap.size + 1, 0, none⟩ = some (.int .i64 u) := (by rw [hb1.cell (p := ⟨w.heap.size + 1, 0, none⟩) (by first | omega | (simp; done) | (simp; omega))] <;> first | assumption | (simp; done) | (simp [go_sem, *]; done))
  have c1_1_1 : w1.cell? ⟨w.heap.size + 1, 1, none⟩ = some (.int .i64 v) := (by rw [hb1.cell (p := ⟨w.heap.size + 1, 1, none⟩) (by first | omega | (simp; done) | (simp; omega))] <;> first | assumption | (simp; done) | (simp [go_sem, *]; done))
  have c1_1_2 : w1.cell? ⟨w.heap.size + 1, 2, none⟩ = some (.int .i64 t) := (by rw [hb1.cell (p := ⟨w.heap.size + 1, 2, none⟩) (by first | omega | (simp; done) | (simp; omega))] <;> first | assumption | (simp; done) | (simp [go_sem, *]; done))
  have l1_0 : w.heap.size < w1.heap.size := (by omega)
  have n1_0 : w.heap.size ≠ w1.heap.size := (by omega)
  have l1_1 : w.heap.size + 1 < w1.heap.size := (by omega)
  have n1_1 : w.heap.size + 1 ≠ w1.heap.size := (by omega)
  have z1 : w.heap.size ≤ w1.heap.size := (by omega)
  have HB1 := Lib.hid (show Below w.heap.size w w1 by (repeat' (first | exact Below.refl _ _ | (refine Below.setCell ?_ (by (first | omega | (simp; done) | (simp; omega))) _) | (refine Below.alloc ?_ (by (first | omega | (simp; done) | (simp; omega))) _) | (refine Below.drew ?_) | (refine below_drewN ?_ _) | (refine Below.trans ?_ (Below.mono hb1 (by (first | omega | (simp; done) | (simp; omega))))))))
  clear hb1 hs1
  go_wp2_with fail
  go_at_call 14
  refine (r_spot_c H1.out _).mono ?_
  rintro e w2 ⟨rfl, hb2⟩
  have HBo := HB1.out
  have hs2 := hb2.size
  try simp at hs2
  have c2_0_0 : w2.cell? ⟨w.heap.size, 0, none⟩ = some (.int .i64 x) := (by rw [hb2.cell (p := ⟨w.heap.size, 0, none⟩) (by first | omega | (simp; done) | (simp; omega))] <;> first | assumption | (simp; done) | (simp [go_sem, *]; done))
  have c2_0_1 : w2.cell? ⟨w.heap.size, 1, none⟩ = some (.int .i64 y) := (by rw [hb2.cell (p := ⟨w.heap.size, 1, none⟩) (by first | omega | (simp; done) | (simp; omega))] <;> first | assumption | (simp; done) | (simp [go_sem, *]; done))
  have c2_0_2 : w2.cell? ⟨w.heap.size, 2, none⟩ = some (.int .i64 z) := (by rw [hb2.cell (p := ⟨w.heap.size, 2, none⟩) (by first | omega | (simp; done) | (simp; omega))] <;> first | assumption | (simp; done) | (simp [go_sem, *]; done))
  have c2_1_0 : w2.cell? ⟨w.heap.size + 1, 0, none⟩ = some (.int .i64 u) := (by rw [hb2.cell (p := ⟨w.heap.size + 1, 0, none⟩) (by first | omega | (simp; done) | (simp; omega))] <;> first | assumption | (simp; done) | (simp [go_sem, *]; done))
  have c2_1_1 : w2.cell? ⟨w.heap.size + 1, 1, none⟩ = some (.int .i64 v) := (by rw [hb2.cell (p := ⟨w.heap.size + 1, 1, none⟩) (by first | omega | (simp; done) | (simp; omega))] <;> first | assumption | (simp; done) | (simp [go_sem, *]; done))
  have c2_1_2 : w2.cell? ⟨w.heap.size + 1, 2, none⟩ = some (.int .i64 t) := (by rw [hb2.cell (p := ⟨w.heap.size + 1, 2, none⟩) (by first | omega | (simp; done) | (simp; omega))] <;> first | assumption | (simp; done) | (simp [go_sem, *]; done))
  have c2_2_0 : w2.cell? ⟨w1.heap.size, 0, none⟩ = some (.int .i64 a1) := (by rw [hb2.cell (p := ⟨w1.heap.size, 0, none⟩) (by first | omega | (simp; done) | (simp; omega))] <;> first | assumption | (simp; done) | (simp [go_sem, *]; done))
  have c2_2_1 : w2.cell? ⟨w1.heap.size, 1, none⟩ = some (.int .i64 a2) := (by rw [hb2.cell (p := ⟨w1.heap.size, 1, none⟩) (by first | omega | (simp; done) | (simp; omega))] <;> first | assumption | (simp; done) | (simp [go_sem, *]; done))
  have c2_2_2 : w2.cell? ⟨w1.heap.size, 2, none⟩ = some (.int .i64 a3) := (by rw [hb2.cell (p := ⟨w1.heap.size, 2, none⟩) (by first | omega | (simp; done) | (simp; omega))] <;> first | assumption | (simp; done) | (simp [go_sem, *]; done))
  have l2_0 : w.heap.size < w2.heap.size := (by omega)
  have n2_0 : w.heap.size ≠ w2.heap.size := (by omega)
  have l2_1 : w.heap.size + 1 < w2.heap.size := (by omega)
  have n2_1 : w.heap.size + 1 ≠ w2.heap.size := (by omega)
  have l2_2 : w1.heap.size < w2.heap.size := (by omega)
  have n2_2 : w1.heap.size ≠ w2.heap.size := (by omega)
  have z2 : w.heap.size ≤ w2.heap.size := (by omega)
  have HB2 := Lib.hid (show Below w.heap.size w w2 by (repeat' (first | exact Below.refl _ _ | (refine Below.setCell ?_ (by (first | omega | (simp; done) | (simp; omega))) _) | (refine Below.alloc ?_ (by (first | omega | (simp; done) | (simp; omega))) _) | (refine Below.drew ?_) | (refine below_drewN ?_ _) | (refine Below.trans ?_ (Below.mono HBo (by (first | omega | (simp; done) | (simp; omega))))) | (refine Below.trans ?_ (Below.mono hb2 (by (first | omega | (simp; done) | (simp; omega))))))))
  clear HBo hb2 hs2 c1_0_0 c1_0_1 c1_0_2 c1_1_0 c1_1_1 c1_1_2 l1_0 n1_0 l1_1 n1_1 z1 HB1
  go_wp2_with fail
  go_at_call 15
  refine (index_c H2.out _).mono ?_
  rintro e w3 ⟨rfl, hb3⟩
  have HBo := HB2.out
  have hs3 := hb3.size
  try simp at hs3
  have c3_0_0 : w3.cell? ⟨w.heap.size, 0, none⟩ = some (.int .i64 x) := (by rw [hb3.cell (p := ⟨w.heap.size, 0, none⟩) (by first | omega | (simp; done) | (simp; omega))] <;> first | assumption | (simp; done) | (simp [go_sem, *]; done))
  have c3_0_1 : w3.cell? ⟨w.heap.size, 1, none⟩ = some (.int .i64 y) := (by rw [hb3.cell (p := ⟨w.heap.size, 1, none⟩) (by first | omega | (simp; done) | (simp; omega))] <;> first | assumption | (simp; done) | (simp [go_sem, *]; done))
  have c3_0_2 : w3.cell? ⟨w.heap.size, 2, none⟩ = some (.int .i64 z) := (by rw [hb3.cell (p := ⟨w.heap.size, 2, none⟩) (by first | omega | (simp; done) | (simp; omega))] <;> first | assumption | (simp; done) | (simp [go_sem, *]; done))
  have c3_1_0 : w3.cell? ⟨w.heap.size + 1, 0, none⟩ = some (.int .i64 u) := (by rw [hb3.cell (p := ⟨w.heap.size + 1, 0, none⟩) (by first | omega | (simp; done) | (simp; omega))] <;> first | assumption | (simp; done) | (simp [go_sem, *]; done))
  have c3_1_1 : w3.cell? ⟨w.heap.size + 1, 1, none⟩ = some (.int .i64 v) := (by rw [hb3.cell (p := ⟨w.heap.size + 1, 1, none⟩) (by first | omega | (simp; done) | (simp; omega))] <;> first | assumption | (simp; done) | (simp [go_sem, *]; done))
  have c3_1_2 : w3.cell? ⟨w.heap.size + 1, 2, none⟩ = some (.int .i64 t) := (by rw [hb3.cell (p := ⟨w.heap.size + 1, 2, none⟩) (by first | omega | (simp; done) | (simp; omega))] <;> first | assumption | (simp; done) | (simp [go_sem, *]; done))
  have c3_2_0 : w3.cell? ⟨w1.heap.size, 0, none⟩ = some (.int .i64 a1) := (by rw [hb3.cell (p := ⟨w1.heap.size, 0, none⟩) (by first | omega | (simp; done) | (simp; omega))] <;> first | assumption | (simp; done) | (simp [go_sem, *]; done))
  have c3_2_1 : w3.cell? ⟨w1.heap.size, 1, none⟩ = some (.int .i64 a2) := (by rw [hb3.cell (p := ⟨w1.heap.size, 1, none⟩) (by first | omega | (simp; done) | (simp; omega))] <;> first | assumption | (simp; done) | (simp [go_sem, *]; done))
  have c3_2_2 : w3.cell? ⟨w1.heap.size, 2, none⟩ = some (.int .i64 a3) := (by rw [hb3.cell (p := ⟨w1.heap.size, 2, none⟩) (by first | omega | (simp; done) | (simp; omega))] <;> first | assumption | (simp; done) | (simp [go_sem, *]; done))
  have c3_3_0 : w3.cell? ⟨w2.heap.size, 0, none⟩ = some (.int .i64 a1) := (by rw [hb3.cell (p := ⟨w2.heap.size, 0, none⟩) (by first | omega | (simp; done) | (simp; omega))] <;> first | assumption | (simp; done) | (simp [go_sem, *]; done))
  have c3_3_1 : w3.cell? ⟨w2.heap.size, 1, none⟩ = some (.int .i64 a2) := (by rw [hb3.cell (p := ⟨w2.heap.size, 1, none⟩) (by first | omega | (simp; done) | (simp; omega))] <;> first | assumption | (simp; done) | (simp [go_sem, *]; done))
  have c3_3_2 : w3.cell? ⟨w2.heap.size, 2, none⟩ = some (.int .i64 a3) := (by rw [hb3.cell (p := ⟨w2.heap.size, 2, none⟩) (by first | omega | (simp; done) | (simp; omega))] <;> first | assumption | (simp; done) | (simp [go_sem, *]; done))
  have l3_0 : w.heap.size < w3.heap.size := (by omega)
  have n3_0 : w.heap.size ≠ w3.heap.size := (by omega)
  have l3_1 : w.heap.size + 1 < w3.heap.size := (by omega)
  have n3_1 : w.heap.size + 1 ≠ w3.heap.size := (by omega)
  have l3_2 : w1.heap.size < w3.heap.size := (by omega)
  have n3_2 : w1.heap.size ≠ w3.heap.size := (by omega)
  have l3_3 : w2.heap.size < w3.heap.size := (by omega)
  have n3_3 : w2.heap.size ≠ w3.heap.size := (by omega)
  have z3 : w.heap.size ≤ w3.heap.size := (by omega)
  have HB3 := Lib.hid (show Below w.heap.size w w3 by (repeat' (first | exact Below.refl _ _ | (refine Below.setCell ?_ (by (first | omega | (simp; done) | (simp; omega))) _) | (refine Below.alloc ?_ (by (first | omega | (simp; done) | (simp; omega))) _) | (refine Below.drew ?_) | (refine below_drewN ?_ _) | (refine Below.trans ?_ (Below.mono HBo (by (first | omega | (simp; done) | (simp; omega))))) | (refine Below.trans ?_ (Below.mono hb3 (by (first | omega | (simp; done) | (simp; omega))))))))
  clear HBo hb3 hs3 c2_0_0 c2_0_1 c2_0_2 c2_1_0 c2_1_1 c2_1_2 c2_2_0 c2_2_1 c2_2_2 l2_0 n2_0 l2_1 n2_1 l2_2 n2_2 z2 HB2
  go_wp2_with fail
  go_at_call 16
  refine (r_index_c H2.out _).mono ?_
  rintro e w4 ⟨rfl, hb4⟩
  have HBo := HB3.out
  have hs4 := hb4.size
  try simp at hs4
  have c4_0_0 : w4.cell? ⟨w.heap.size, 0, none⟩ = some (.int .i64 x) := (by rw [hb4.cell (p := ⟨w.heap.size, 0, none⟩) (by first | omega | (simp; done) | (simp; omega))] <;> first | assumption | (simp; done) | (simp [go_sem, *]; done))
  have c4_0_1 : w4.cell? ⟨w.heap.size, 1, none⟩ = some (.int .i64 y) := (by rw [hb4.cell (p := ⟨w.heap.size, 1, none⟩) (by first | omega | (simp; done) | (simp; omega))] <;> first | assumption | (simp; done) | (simp [go_sem, *]; done))
  have c4_0_2 : w4.cell? ⟨w.heap.size, 2, none⟩ = some (.int .i64 z) := (by rw [hb4.cell (p := ⟨w.heap.size, 2, none⟩) (by first | omega | (simp; done) | (simp; omega))] <;> first | assumption | (simp; done) | (simp [go_sem, *]; done))
  have c4_1_0 : w4.cell? ⟨w.heap.size + 1, 0, none⟩ = some (.int .i64 u) := (by rw [hb4.cell (p := ⟨w.heap.size + 1, 0, none⟩) (by first | omega | (simp; done) | (simp; omega))] <;> first | assumption | (simp; done) | (simp [go_sem, *]; done))
  have c4_1_1 : w4.cell? ⟨w.heap.size + 1, 1, none⟩ = some (.int .i64 v) := (by rw [hb4.cell (p := ⟨w.heap.size + 1, 1, none⟩) (by first | omega | (simp; done) | (simp; omega))] <;> first | assumption | (simp; done) | (simp [go_sem, *]; done))
  have c4_1_2 : w4.cell? ⟨w.heap.size + 1, 2, none⟩ = some (.int .i64 t) := (by rw [hb4.cell (p := ⟨w.heap.size + 1, 2, none⟩) (by first | omega | (simp; done) | (simp; omega))] <;> first | assumption | (simp; done) | (simp [go_sem, *]; done))
  have c4_2_0 : w4.cell? ⟨w1.heap.size, 0, none⟩ = some (.int .i64 a1) := (by rw [hb4.cell (p := ⟨w1.heap.size, 0, none⟩) (by first | omega | (simp; done) | (simp; omega))] <;> first | assumption | (simp; done) | (simp [go_sem, *]; done))
  have c4_2_1 : w4.cell? ⟨w1.heap.size, 1, none⟩ = some (.int .i64 a2) := (by rw [hb4.cell (p := ⟨w1.heap.size, 1, none⟩) (by first | omega | (simp; done) | (simp; omega))] <;> first | assumption | (simp; done) | (simp [go_sem, *]; done))
  have c4_2_2 : w4.cell? ⟨w1.heap.size, 2, none⟩ = some (.int .i64 a3) := (by rw [hb4.cell (p := ⟨w1.heap.size, 2, none⟩) (by first | omega | (simp; done) | (simp; omega))] <;> first | assumption | (simp; done) | (simp [go_sem, *]; done))
  have c4_3_0 : w4.cell? ⟨w2.heap.size, 0, none⟩ = some (.int .i64 a1) := (by rw [hb4.cell (p := ⟨w2.heap.size, 0, none⟩) (by first | omega | (simp; done) | (simp; omega))] <;> first | assumption | (simp; done) | (simp [go_sem, *]; done))
  have c4_3_1 : w4.cell? ⟨w2.heap.size, 1, none⟩ = some (.int .i64 a2) := (by rw [hb4.cell (p := ⟨w2.heap.size, 1, none⟩) (by first | omega | (simp; done) | (simp; omega))] <;> first | assumption | (simp; done) | (simp [go_sem, *]; done))
  have c4_3_2 : w4.cell? ⟨w2.heap.size, 2, none⟩ = some (.int .i64 a3) := (by rw [hb4.cell (p := ⟨w2.heap.size, 2, none⟩) (by first | omega | (simp; done) | (simp; omega))] <;> first | assumption | (simp; done) | (simp [go_sem, *]; done))
  have l4_0 : w.heap.size < w4.heap.size := (by omega)
  have n4_0 : w.heap.size ≠ w4.heap.size := (by omega)
  have l4_1 : w.heap.size + 1 < w4.heap.size := (by omega)
  have n4_1 : w.heap.size + 1 ≠ w4.heap.size := (by omega)
  have l4_2 : w1.heap.size < w4.heap.size := (by omega)
  have n4_2 : w1.heap.size ≠ w4.heap.size := (by omega)
  have l4_3 : w2.heap.size < w4.heap.size := (by omega)
  have n4_3 : w2.heap.size ≠ w4.heap.size := (by omega)
  have z4 : w.heap.size ≤ w4.heap.size := (by omega)
  have HB4 := Lib.hid (show Below w.heap.size w w4 by (repeat' (first | exact Below.refl _ _ | (refine Below.setCell ?_ (by (first | omega | (simp; done) | (simp; omega))) _) | (refine Below.alloc ?_ (by (first | omega | (simp; done) | (simp; omega))) _) | (refine Below.drew ?_) | (refine below_drewN ?_ _) | (refine Below.trans ?_ (Below.mono HBo (by (first | omega | (simp; done) | (simp; omega))))) | (refine Below.trans ?_ (Below.mono hb4 (by (first | omega | (simp; done) | (simp; omega))))))))
  clear HBo hb4 hs4 c3_0_0 c3_0_1 c3_0_2 c3_1_0 c3_1_1 c3_1_2 c3_2_0 c3_2_1 c3_2_2 c3_3_0 c3_3_1 c3_3_2 l3_0 n3_0 l3_1 n3_1 l3_2 n3_2 l3_3 n3_3 z3 HB3
  go_wp2_with fail
  go_at_call 17
  refine (of_c H3.out _).mono ?_
  rintro e w5 ⟨rfl, hb5⟩
  have HBo := HB4.out
  have hs5 := hb5.size
  try simp at hs5
  have c5_0_0 : w5.cell? ⟨w.heap.size, 0, none⟩ = some (.int .i64 x) := (by rw [hb5.cell (p := ⟨w.heap.size, 0, none⟩) (by first | omega | (simp; done) | (simp; omega))] <;> first | assumption | (simp; done) | (simp [go_sem, *]; done))
  have c5_0_1 : w5.cell? ⟨w.heap.size, 1, none⟩ = some (.int .i64 y) := (by rw [hb5.cell (p := ⟨w.heap.size, 1, none⟩) (by first | omega | (simp; done) | (simp; omega))] <;> first | assumption | (simp; done) | (simp [go_sem, *]; done))
  have c5_0_2 : w5.cell? ⟨w.heap.size, 2, none⟩ = some (.int .i64 z) := (by rw [hb5.cell (p := ⟨w.heap.size, 2, none⟩) (by first | omega | (simp; done) | (simp; omega))] <;> first | assumption | (simp; done) | (simp [go_sem, *]; done))
  have c5_1_0 : w5.cell? ⟨w.heap.size + 1, 0, none⟩ = some (.int .i64 u) := (by rw [hb5.cell (p := ⟨w.heap.size + 1, 0, none⟩) (by first | omega | (simp; done) | (simp; omega))] <;> first | assumption | (simp; done) | (simp [go_sem, *]; done))
  have c5_1_1 : w5.cell? ⟨w.heap.size + 1, 1, none⟩ = some (.int .i64 v) := (by rw [hb5.cell (p := ⟨w.heap.size + 1, 1, none⟩) (by first | omega | (simp; done) | (simp; omega))] <;> first | assumption | (simp; done) | (simp [go_sem, *]; done))
  have c5_1_2 : w5.cell? ⟨w.heap.size + 1, 2, none⟩ = some (.int .i64 t) := (by rw [hb5.cell (p := ⟨w.heap.size + 1, 2, none⟩) (by first | omega | (simp; done) | (simp; omega))] <;> first | assumption | (simp; done) | (simp [go_sem, *]; done))
  have c5_2_0 : w5.cell? ⟨w1.heap.size, 0, none⟩ = some (.int .i64 a1) := (by rw [hb5.cell (p := ⟨w1.heap.size, 0, none⟩) (by first | omega | (simp; done) | (simp; omega))] <;> first | assumption | (simp; done) | (simp [go_sem, *]; done))
  have c5_2_1 : w5.cell? ⟨w1.heap.size, 1, none⟩ = some (.int .i64 a2) := (by rw [hb5.cell (p := ⟨w1.heap.size, 1, none⟩) (by first | omega | (simp; done) | (simp; omega))] <;> first | assumption | (simp; done) | (simp [go_sem, *]; done))
  have c5_2_2 : w5.cell? ⟨w1.heap.size, 2, none⟩ = some (.int .i64 a3) := (by rw [hb5.cell (p := ⟨w1.heap.size, 2, none⟩) (by first | omega | (simp; done) | (simp; omega))] <;> first | assumption | (simp; done) | (simp [go_sem, *]; done))
  have c5_3_0 : w5.cell? ⟨w2.heap.size, 0, none⟩ = some (.int .i64 a1) := (by rw [hb5.cell (p := ⟨w2.heap.size, 0, none⟩) (by first | omega | (simp; done) | (simp; omega))] <;> first | assumption | (simp; done) | (simp [go_sem, *]; done))
  have c5_3_1 : w5.cell? ⟨w2.heap.size, 1, none⟩ = some (.int .i64 a2) := (by rw [hb5.cell (p := ⟨w2.heap.size, 1, none⟩) (by first | omega | (simp; done) | (simp; omega))] <;> first | assumption | (simp; done) | (simp [go_sem, *]; done))
  have c5_3_2 : w5.cell? ⟨w2.heap.size, 2, none⟩ = some (.int .i64 a3) := (by rw [hb5.cell (p := ⟨w2.heap.size, 2, none⟩) (by first | omega | (simp; done) | (simp; omega))] <;> first | assumption | (simp; done) | (simp [go_sem, *]; done))
  have l5_0 : w.heap.size < w5.heap.size := (by omega)
  have n5_0 : w.heap.size ≠ w5.heap.size := (by omega)
  have l5_1 : w.heap.size + 1 < w5.heap.size := (by omega)
  have n5_1 : w.heap.size + 1 ≠ w5.heap.size := (by omega)
  have l5_2 : w1.heap.size < w5.heap.size := (by omega)
  have n5_2 : w1.heap.size ≠ w5.heap.size := (by omega)
  have l5_3 : w2.heap.size < w5.heap.size := (by omega)
  have n5_3 : w2.heap.size ≠ w5.heap.size := (by omega)
  have z5 : w.heap.size ≤ w5.heap.size := (by omega)
  have HB5 := Lib.hid (show Below w.heap.size w w5 by (repeat' (first | exact Below.refl _ _ | (refine Below.setCell ?_ (by (first | omega | (simp; done) | (simp; omega))) _) | (refine Below.alloc ?_ (by (first | omega | (simp; done) | (simp; omega))) _) | (refine Below.drew ?_) | (refine below_drewN ?_ _) | (refine Below.trans ?_ (Below.mono HBo (by (first | omega | (simp; done) | (simp; omega))))) | (refine Below.trans ?_ (Below.mono hb5 (by (first | omega | (simp; done) | (simp; omega))))))))
  clear HBo hb5 hs5 c4_0_0 c4_0_1 c4_0_2 c4_1_0 c4_1_1 c4_1_2 c4_2_0 c4_2_1 c4_2_2 c4_3_0 c4_3_1 c4_3_2 l4_0 n4_0 l4_1 n4_1 l4_2 n4_2 l4_3 n4_3 z4 HB4
  go_wp2_with fail
  go_at_call 18
  refine (r_of_c H3.out _).mono ?_
  rintro e w6 ⟨rfl, hb6⟩
  have HBo := HB5.out
  have hs6 := hb6.size
  try simp at hs6
  have c6_0_0 : w6.cell? ⟨w.heap.size, 0, none⟩ = some (.int .i64 x) := (by rw [hb6.cell (p := ⟨w.heap.size, 0, none⟩) (by first | omega | (simp; done) | (simp; omega))] <;> first | assumption | (simp; done) | (simp [go_sem, *]; done))
  have c6_0_1 : w6.cell? ⟨w.heap.size, 1, none⟩ = some (.int .i64 y) := (by rw [hb6.cell (p := ⟨w.heap.size, 1, none⟩) (by first | omega | (simp; done) | (simp; omega))] <;> first | assumption | (simp; done) | (simp [go_sem, *]; done))
  have c6_0_2 : w6.cell? ⟨w.heap.size, 2, none⟩ = some (.int .i64 z) := (by rw [hb6.cell (p := ⟨w.heap.size, 2, none⟩) (by first | omega | (simp; done) | (simp; omega))] <;> first | assumption | (simp; done) | (simp [go_sem, *]; done))
  have c6_1_0 : w6.cell? ⟨w.heap.size + 1, 0, none⟩ = some (.int .i64 u) := (by rw [hb6.cell (p := ⟨w.heap.size + 1, 0, none⟩) (by first | omega | (simp; done) | (simp; omega))] <;> first | assumption | (simp; done) | (simp [go_sem, *]; done))
  have c6_1_1 : w6.cell? ⟨w.heap.size + 1, 1, none⟩ = some (.int .i64 v) := (by rw [hb6.cell (p := ⟨w.heap.size + 1, 1, none⟩) (by first | omega | (simp; done) | (simp; omega))] <;> first | assumption | (simp; done) | (simp [go_sem, *]; done))
  have c6_1_2 : w6.cell? ⟨w.heap.size + 1, 2, none⟩ = some (.int .i64 t) := (by rw [hb6.cell (p := ⟨w.heap.size + 1, 2, none⟩) (by first | omega | (simp; done) | (simp; omega))] <;> first | assumption | (simp; done) | (simp [go_sem, *]; done))
  have c6_2_0 : w6.cell? ⟨w1.heap.size, 0, none⟩ = some (.int .i64 a1) := (by rw [hb6.cell (p := ⟨w1.heap.size, 0, none⟩) (by first | omega | (simp; done) | (simp; omega))] <;> first | assumption | (simp; done) | (simp [go_sem, *]; done))
  have c6_2_1 : w6.cell? ⟨w1.heap.size, 1, none⟩ = some (.int .i64 a2) := (by rw [hb6.cell (p := ⟨w1.heap.size, 1, none⟩) (by first | omega | (simp; done) | (simp; omega))] <;> first | assumption | (simp; done) | (simp [go_sem, *]; done))
  have c6_2_2 : w6.cell? ⟨w1.heap.size, 2, none⟩ = some (.int .i64 a3) := (by rw [hb6.cell (p := ⟨w1.heap.size, 2, none⟩) (by first | omega | (simp; done) | (simp; omega))] <;> first | assumption | (simp; done) | (simp [go_sem, *]; done))
  have c6_3_0 : w6.cell? ⟨w2.heap.size, 0, none⟩ = some (.int .i64 a1) := (by rw [hb6.cell (p := ⟨w2.heap.size, 0, none⟩) (by first | omega | (simp; done) | (simp; omega))] <;> first | assumption | (simp; done) | (simp [go_sem, *]; done))
  have c6_3_1 : w6.cell? ⟨w2.heap.size, 1, none⟩ = some (.int .i64 a2) := (by rw [hb6.cell (p := ⟨w2.heap.size, 1, none⟩) (by first | omega | (simp; done) | (simp; omega))] <;> first | assumption | (simp; done) | (simp [go_sem, *]; done))
  have c6_3_2 : w6.cell? ⟨w2.heap.size, 2, none⟩ = some (.int .i64 a3) := (by rw [hb6.cell (p := ⟨w2.heap.size, 2, none⟩) (by first | omega | (simp; done) | (simp; omega))] <;> first | assumption | (simp; done) | (simp [go_sem, *]; done))
  have c6_4_0 : w6.cell? ⟨w5.heap.size, 0, none⟩ = some (.int .i64 b1) := (by rw [hb6.cell (p := ⟨w5.heap.size, 0, none⟩) (by first | omega | (simp; done) | (simp; omega))] <;> first | assumption | (simp; done) | (simp [go_sem, *]; done))
  have c6_4_1 : w6.cell? ⟨w5.heap.size, 1, none⟩ = some (.int .i64 b2) := (by rw [hb6.cell (p := ⟨w5.heap.size, 1, none⟩) (by first | omega | (simp; done) | (simp; omega))] <;> first | assumption | (simp; done) | (simp [go_sem, *]; done))
  have c6_4_2 : w6.cell? ⟨w5.heap.size, 2, none⟩ = some (.int .i64 b3) := (by rw [hb6.cell (p := ⟨w5.heap.size, 2, none⟩) (by first | omega | (simp; done) | (simp; omega))] <;> first | assumption | (simp; done) | (simp [go_sem, *]; done))
  have l6_0 : w.heap.size < w6.heap.size := (by omega)
  have n6_0 : w.heap.size ≠ w6.heap.size := (by omega)
  have l6_1 : w.heap.size + 1 < w6.heap.size := (by omega)
  have n6_1 : w.heap.size + 1 ≠ w6.heap.size := (by omega)
  have l6_2 : w1.heap.size < w6.heap.size := (by omega)
  have n6_2 : w1.heap.size ≠ w6.heap.size := (by omega)
  have l6_3 : w2.heap.size < w6.heap.size := (by omega)
  have n6_3 : w2.heap.size ≠ w6.heap.size := (by omega)
  have l6_4 : w5.heap.size < w6.heap.size := (by omega)
  have n6_4 : w5.heap.size ≠ w6.heap.size := (by omega)
  have z6 : w.heap.size ≤ w6.heap.size := (by omega)
  have HB6 := Lib.hid (show Below w.heap.size w w6 by (repeat' (first | exact Below.refl _ _ | (refine Below.setCell ?_ (by (first | omega | (simp; done) | (simp; omega))) _) | (refine Below.alloc ?_ (by (first | omega | (simp; done) | (simp; omega))) _) | (refine Below.drew ?_) | (refine below_drewN ?_ _) | (refine Below.trans ?_ (Below.mono HBo (by (first | omega | (simp; done) | (simp; omega))))) | (refine Below.trans ?_ (Below.mono hb6 (by (first | omega | (simp; done) | (simp; omega))))))))
  clear HBo hb6 hs6 c5_0_0 c5_0_1 c5_0_2 c5_1_0 c5_1_1 c5_1_2 c5_2_0 c5_2_1 c5_2_2 c5_3_0 c5_3_1 c5_3_2 l5_0 n5_0 l5_1 n5_1 l5_2 n5_2 l5_3 n5_3 z5 HB5
  go_wp2_with fail
  have HBo := HB6.out
  have hS0 : HeldP.CellsB w (w6.alloc (.cells #[.int .i64 b1, .int .i64 b2, .int .i64 b3] 23)) ([(w.heap.size, 0, .int .i64 x), (w.heap.size, 1, .int .i64 y), (w.heap.size, 2, .int .i64 z), (w.heap.size + 1, 0, .int .i64 u), (w.heap.size + 1, 1, .int .i64 v), (w.heap.size + 1, 2, .int .i64 t), (w1.heap.size, 0, .int .i64 a1), (w1.heap.size, 1, .int .i64 a2), (w1.heap.size, 2, .int .i64 a3), (w2.heap.size, 0, .int .i64 a1), (w2.heap.size, 1, .int .i64 a2), (w2.heap.size, 2, .int .i64 a3), (w5.heap.size, 0, .int .i64 b1), (w5.heap.size, 1, .int .i64 b2), (w5.heap.size, 2, .int .i64 b3), (w6.heap.size, 0, .int .i64 b1), (w6.heap.size, 1, .int .i64 b2), (w6.heap.size, 2, .int .i64 b3)] : List (Nat × Nat × Value)) := by
    refine HeldP.CellsB.one (by first | assumption | (simp; done) | (simp [go_sem, *]; done)) (by first | omega | (simp; done) | (simp; omega)) ?_
    refine HeldP.CellsB.one (by first | assumption | (simp; done) | (simp [go_sem, *]; done)) (by first | omega | (simp; done) | (simp; omega)) ?_
    refine HeldP.CellsB.one (by first | assumption | (simp; done) | (simp [go_sem, *]; done)) (by first | omega | (simp; done) | (simp; omega)) ?_
    refine HeldP.CellsB.one (by first | assumption | (simp; done) | (simp [go_sem, *]; done)) (by first | omega | (simp; done) | (simp; omega)) ?_
    refine HeldP.CellsB.one (by first | assumption | (simp; done) | (simp [go_sem, *]; done)) (by first | omega | (simp; done) | (simp; omega)) ?_
    refine HeldP.CellsB.one (by first | assumption | (simp; done) | (simp [go_sem, *]; done)) (by first | omega | (simp; done) | (simp; omega)) ?_
    refine HeldP.CellsB.one (by first | assumption | (simp; done) | (simp [go_sem, *]; done)) (by first | omega | (simp; done) | (simp; omega)) ?_
    refine HeldP.CellsB.one (by first | assumption | (simp; done) | (simp [go_sem, *]; done)) (by first | omega | (simp; done) | (simp; omega)) ?_
    refine HeldP.CellsB.one (by first | assumption | (simp; done) | (simp [go_sem, *]; done)) (by first | omega | (simp; done) | (simp; omega)) ?_
    refine HeldP.CellsB.one (by first | assumption | (simp; done) | (simp [go_sem, *]; done)) (by first | omega | (simp; done) | (simp; omega)) ?_
    refine HeldP.CellsB.one (by first | assumption | (simp; done) | (simp [go_sem, *]; done)) (by first | omega | (simp; done) | (simp; omega)) ?_
    refine HeldP.CellsB.one (by first | assumption | (simp; done) | (simp [go_sem, *]; done)) (by first | omega | (simp; done) | (simp; omega)) ?_
    refine HeldP.CellsB.one (by first | assumption | (simp; done) | (simp [go_sem, *]; done)) (by first | omega | (simp; done) | (simp; omega)) ?_
    refine HeldP.CellsB.one (by first | assumption | (simp; done) | (simp [go_sem, *]; done)) (by first | omega | (simp; done) | (simp; omega)) ?_
    refine HeldP.CellsB.one (by first | assumption | (simp; done) | (simp [go_sem, *]; done)) (by first | omega | (simp; done) | (simp; omega)) ?_
    refine HeldP.CellsB.one (by first | assumption | (simp; done) | (simp [go_sem, *]; done)) (by first | omega | (simp; done) | (simp; omega)) ?_
    refine HeldP.CellsB.one (by first | assumption | (simp; done) | (simp [go_sem, *]; done)) (by first | omega | (simp; done) | (simp; omega)) ?_
    refine HeldP.CellsB.one (by first | assumption | (simp; done) | (simp [go_sem, *]; done)) (by first | omega | (simp; done) | (simp; omega)) ?_
    exact HeldP.CellsB.nil (by first | omega | (simp; done) | (simp; omega)) (by (repeat' (first | exact Below.refl _ _ | (refine Below.setCell ?_ (by (first | omega | (simp; done) | (simp; omega))) _) | (refine Below.alloc ?_ (by (first | omega | (simp; done) | (simp; omega))) _) | (refine Below.drew ?_) | (refine below_drewN ?_ _) | (refine Below.trans ?_ (Below.mono HBo (by (first | omega | (simp; done) | (simp; omega))))))))
  clear HBo
  go_region_held3 (fun w' => (w'.cell? ⟨w.heap.size, 0, none⟩ = some (.int .i64 x) ∧ w.heap.size < w'.heap.size) ∧ (w'.cell? ⟨w.heap.size, 1, none⟩ = some (.int .i64 y) ∧ w.heap.size < w'.heap.size) ∧ (w'.cell? ⟨w.heap.size, 2, none⟩ = some (.int .i64 z) ∧ w.heap.size < w'.heap.size) ∧ (w'.cell? ⟨w.heap.size + 1, 0, none⟩ = some (.int .i64 u) ∧ w.heap.size + 1 < w'.heap.size) ∧ (w'.cell? ⟨w.heap.size + 1, 1, none⟩ = some (.int .i64 v) ∧ w.heap.size + 1 < w'.heap.size) ∧ (w'.cell? ⟨w.heap.size + 1, 2, none⟩ = some (.int .i64 t) ∧ w.heap.size + 1 < w'.heap.size) ∧ (w'.cell? ⟨w1.heap.size, 0, none⟩ = some (.int .i64 a1) ∧ w1.heap.size < w'.heap.size) ∧ (w'.cell? ⟨w1.heap.size, 1, none⟩ = some (.int .i64 a2) ∧ w1.heap.size < w'.heap.size) ∧ (w'.cell? ⟨w1.heap.size, 2, none⟩ = some (.int .i64 a3) ∧ w1.heap.size < w'.heap.size) ∧ (w'.cell? ⟨w2.heap.size, 0, none⟩ = some (.int .i64 a1) ∧ w2.heap.size < w'.heap.size) ∧ (w'.cell? ⟨w2.heap.size, 1, none⟩ = some (.int .i64 a2) ∧ w2.heap.size < w'.heap.size) ∧ (w'.cell? ⟨w2.heap.size, 2, none⟩ = some (.int .i64 a3) ∧ w2.heap.size < w'.heap.size) ∧ (w'.cell? ⟨w5.heap.size, 0, none⟩ = some (.int .i64 b1) ∧ w5.heap.size < w'.heap.size) ∧ (w'.cell? ⟨w5.heap.size, 1, none⟩ = some (.int .i64 b2) ∧ w5.heap.size < w'.heap.size) ∧ (w'.cell? ⟨w5.heap.size, 2, none⟩ = some (.int .i64 b3) ∧ w5.heap.size < w'.heap.size) ∧ (w'.cell? ⟨w6.heap.size, 0, none⟩ = some (.int .i64 b1) ∧ w6.heap.size < w'.heap.size) ∧ (w'.cell? ⟨w6.heap.size, 1, none⟩ = some (.int .i64 b2) ∧ w6.heap.size < w'.heap.size) ∧ (w'.cell? ⟨w6.heap.size, 2, none⟩ = some (.int .i64 b3) ∧ w6.heap.size < w'.heap.size) ∧ w.heap.size ≤ w'.heap.size ∧ Below w.heap.size w w')
    (first | assumption | (exact hS0.drew) | (exact HeldP.CellsB.keep (l := [(w.heap.size, 0, .int .i64 x), (w.heap.size, 1, .int .i64 y), (w.heap.size, 2, .int .i64 z), (w.heap.size + 1, 0, .int .i64 u), (w.heap.size + 1, 1, .int .i64 v), (w.heap.size + 1, 2, .int .i64 t), (w1.heap.size, 0, .int .i64 a1), (w1.heap.size, 1, .int .i64 a2), (w1.heap.size, 2, .int .i64 a3), (w2.heap.size, 0, .int .i64 a1), (w2.heap.size, 1, .int .i64 a2), (w2.heap.size, 2, .int .i64 a3), (w5.heap.size, 0, .int .i64 b1), (w5.heap.size, 1, .int .i64 b2), (w5.heap.size, 2, .int .i64 b3), (w6.heap.size, 0, .int .i64 b1), (w6.heap.size, 1, .int .i64 b2), (w6.heap.size, 2, .int .i64 b3)]) (by assumption) (by assumption)) | (exact HeldP.CellsB.drew (l := [(w.heap.size, 0, .int .i64 x), (w.heap.size, 1, .int .i64 y), (w.heap.size, 2, .int .i64 z), (w.heap.size + 1, 0, .int .i64 u), (w.heap.size + 1, 1, .int .i64 v), (w.heap.size + 1, 2, .int .i64 t), (w1.heap.size, 0, .int .i64 a1), (w1.heap.size, 1, .int .i64 a2), (w1.heap.size, 2, .int .i64 a3), (w2.heap.size, 0, .int .i64 a1), (w2.heap.size, 1, .int .i64 a2), (w2.heap.size, 2, .int .i64 a3), (w5.heap.size, 0, .int .i64 b1), (w5.heap.size, 1, .int .i64 b2), (w5.heap.size, 2, .int .i64 b3), (w6.heap.size, 0, .int .i64 b1), (w6.heap.size, 1, .int .i64 b2), (w6.heap.size, 2, .int .i64 b3)]) (by assumption)))
    (first | (go_at_call 19; (with_reducible refine (may_b H4.out _).mono ?_); rintro e w' ⟨rfl, hb⟩) | (go_at_call 20; (with_reducible refine (r_may_b H4.out _).mono ?_); rintro e w' ⟨rfl, hb⟩) | (go_at_call 21; (with_reducible refine (maySpot_b H5.out _).mono ?_); rintro e w' ⟨rfl, hb⟩) | (go_at_call 22; (with_reducible refine (r_maySpot_b H5.out _).mono ?_); rintro e w' ⟨rfl, hb⟩) | (go_at_call 23; (with_reducible refine (works_c _).mono ?_); rintro e w' ⟨rfl, hb⟩))
  go_wp2
  go_ret
  refine ⟨rfl, ?_⟩
  exact HeldP.CellsB.below (l := [(w.heap.size, 0, .int .i64 x), (w.heap.size, 1, .int .i64 y), (w.heap.size, 2, .int .i64 z), (w.heap.size + 1, 0, .int .i64 u), (w.heap.size + 1, 1, .int .i64 v), (w.heap.size + 1, 2, .int .i64 t), (w1.heap.size, 0, .int .i64 a1), (w1.heap.size, 1, .int .i64 a2), (w1.heap.size, 2, .int .i64 a3), (w2.heap.size, 0, .int .i64 a1), (w2.heap.size, 1, .int .i64 a2), (w2.heap.size, 2, .int .i64 a3), (w5.heap.size, 0, .int .i64 b1), (w5.heap.size, 1, .int .i64 b2), (w5.heap.size, 2, .int .i64 b3), (w6.heap.size, 0, .int .i64 b1), (w6.heap.size, 1, .int .i64 b2), (w6.heap.size, 2, .int .i64 b3)]) (by assumption)
end PlaceW
end Go.Proofs.Ytokkomglbddgcaa
