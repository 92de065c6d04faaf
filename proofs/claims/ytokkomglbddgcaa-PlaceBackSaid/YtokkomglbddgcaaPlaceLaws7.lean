/-
  The laws of place, seventh part: PlaceBack.
-/
import Derived.Test.YtokkomglbddgcaaPlaceLaws1
namespace Go.Proofs.Ytokkomglbddgcaa
open Go.RowKit
set_option linter.unusedSimpArgs false
set_option linter.unusedVariables false
namespace PlaceW
open BitsP

theorem mayB_mk {x y z : Int} (h : -1048576 ≤ x ∧ x < 1048576 ∧ 0 ≤ y ∧ y < 64 ∧ -1048576 ≤ z ∧ z < 1048576) : mayB x y z = true := by
  simp [mayB, inB]
  omega
theorem spotB_mk {x y z : Int} (h : -65536 ≤ x ∧ x < 65536 ∧ 0 ≤ y ∧ y < 4 ∧ -65536 ≤ z ∧ z < 65536) : spotB x y z = true := by
  simp [spotB, inB]
  omega
/-- A place is told by its spot and its index. -/
theorem back_one {x y z : Int} (h : mayB x y z = true) : ∃ a b c n, spotOf x y z = (a, b, c, true) ∧ indexOf x y z = (n, true) ∧ ofOf a b c n = (x, y, z, true) ∧ spotB a b c = true ∧ 0 ≤ n ∧ n < 4096 := by
  obtain ⟨h1, h2, h3, h4, h5, h6⟩ := mayB_true h
  have hs : spotB (x / 16) (y / 16) (z / 16) = true := spotB_mk (by omega)
  have hn : 0 ≤ y % 16 * 256 + z % 16 * 16 + x % 16 ∧ y % 16 * 256 + z % 16 * 16 + x % 16 < 4096 := by omega
  refine ⟨_, _, _, _, by rw [spotOf, if_pos h], by rw [indexOf, if_pos h], ?_, hs, hn.1, hn.2⟩
  rw [ofOf, if_pos (by simp [ofB, hs, inB_mk hn.1 hn.2])]
  simp only [Prod.mk.injEq, and_true]
  omega
/-- And the other way about. -/
theorem back_two {u v t i x y z : Int} (h : ofOf u v t i = (x, y, z, true)) : spotB u v t = true ∧ 0 ≤ i ∧ i < 4096 ∧ mayB x y z = true ∧ spotOf x y z = (u, v, t, true) ∧ indexOf x y z = (i, true) := by
  unfold ofOf at h
  split at h
  · rename_i hn
    obtain ⟨rfl, rfl, rfl, _⟩ := p4 h
    obtain ⟨hs, i0, i1⟩ := ofB_true hn
    obtain ⟨h1, h2, h3, h4, h5, h6⟩ := spotB_true hs
    have hm : mayB (16 * u + i % 16) (16 * v + i / 256) (16 * t + i / 16 % 16) = true := mayB_mk (by omega)
    refine ⟨hs, i0, i1, hm, ?_, ?_⟩
    · rw [spotOf, if_pos hm]
      simp only [Prod.mk.injEq, and_true]
      omega
    · rw [indexOf, if_pos hm]
      simp only [Prod.mk.injEq, and_true]
      omega
  · cases (p4 h).2.2.2
theorem of_false {u v t i x y z : Int} (h : ofOf u v t i = (x, y, z, false)) : x = 0 ∧ y = 0 ∧ z = 0 ∧ (spotB u v t = false ∨ (spotB u v t = true ∧ (i < 0 ∨ (0 ≤ i ∧ 4096 ≤ i)))) := by
  unfold ofOf at h
  split at h
  · cases (p4 h).2.2.2
  · rename_i hn
    obtain ⟨rfl, rfl, rfl, _⟩ := p4 h
    refine ⟨rfl, rfl, rfl, ?_⟩
    cases h1 : spotB u v t with
    | false => exact .inl rfl
    | true =>
      refine .inr ⟨rfl, ?_⟩
      simp [ofB, h1, inB] at hn
      omega
theorem spot_false {x y z : Int} (h : mayB x y z = false) : spotOf x y z = (0, 0, 0, false) ∧ indexOf x y z = (0, false) := by
  simp [spotOf, indexOf, h]

set_option maxRecDepth 100000 in
set_option maxHeartbeats 2000000 in
theorem law_back_tt {x y z u v t i a b c n q1 q2 q3 : Int} (h1 : spotOf x y z = (a, b, c, true)) (h2 : indexOf x y z = (n, true)) (h3 : ofOf a b c n = (x, y, z, true)) (h4 : spotB a b c = true) (n0 : 0 ≤ n) (n1 : n < 4096) (hm : mayB x y z = true) (g1 : ofOf u v t i = (q1, q2, q3, true)) (g2 : spotB u v t = true) (i0 : 0 ≤ i) (i1 : i < 4096) (g3 : mayB q1 q2 q3 = true) (g4 : spotOf q1 q2 q3 = (u, v, t, true)) (g5 : indexOf q1 q2 q3 = (i, true)) (w : World) :
    Calls Try.prog 7 #[.agg #[.int .i64 x, .int .i64 y, .int .i64 z], .agg #[.int .i64 u, .int .i64 v, .int .i64 t], .int .i64 i] w fun e w' => e = .returned (.bool true) ∧ Below w.heap.size w w' := by
  have H1 := Lib.hid h1
  have H2 := Lib.hid h2
  have HM := Lib.hid hm
  have G1 := Lib.hid g1
  have G2 := Lib.hid g2
  have H3 := Lib.hid h3
  have H4 := Lib.hid h4
  have G3 := Lib.hid g3
  have G4 := Lib.hid g4
  have G5 := Lib.hid g5
  clear h1 h2 hm g1 g2 h3 h4 g3 g4 g5
  go_enter Try.func7, Try.ntmps7
  go_wp2_with fail
  go_at_call 13
  refine (spot_c H1.out _).mono ?_
  rintro e w1 ⟨rfl, hb1⟩
  have hs1 := hb1.size
  try simp at hs1
  have c1_0_0 : w1.cell? ⟨w.heap.size, 0, none⟩ = some (.int .i64 x) := (by rw [hb1.cell (p := ⟨w.heap.size, 0, none⟩) (by first | omega | (simp; done) | (simp; omega))] <;> first | assumption | (simp; done) | (simp [go_sem, *]; done))
  have c1_0_1 : w1.cell? ⟨w.heap.size, 1, none⟩ = some (.int .i64 y) := (by rw [hb1.cell (p := ⟨w.heap.size, 1, none⟩) (by first | omega | (simp; done) | (simp; omega))] <;> first | assumption | (simp; done) | (simp [go_sem, *]; done))
  have c1_0_2 : w1.cell? ⟨w.heap.size, 2, none⟩ = some (.int .i64 z) := (by rw [hb1.cell (p := ⟨w.heap.size, 2, none⟩) (by first | omega | (simp; done) | (simp; omega))] <;> first | assumption | (simp; done) | (simp [go_sem, *]; done))
  have c1_1_0 : w1.cell? ⟨w.heap.size + 1, 0, none⟩ = some (.int .i64 u) := (by rw [hb1.cell (p := ⟨w.heap.size + 1, 0, none⟩) (by first | omega | (simp; done) | (simp; omega))] <;> first | assumption | (simp; done) | (simp [go_sem, *]; done))
  have c1_1_1 : w1.cell? ⟨w.heap.size + 1, 1, none⟩ = some (.int .i64 v) := (by rw [hb1.cell (p := ⟨w.heap.size + 1, 1, none⟩) (by first | omega | (simp; done) | (simp; omega))] <;> first | assumption | (simp; done) | (simp [go_sem, *]; done))
  have c1_1_2 : w1.cell? ⟨w.heap.size + 1, 2, none⟩ = some (.int .i64 t) := (by rw [hb1.cell (p := ⟨w.heap.size + 1, 2, none⟩) (by first | omega | (simp; done) | (simp; omega))] <;> first | assumption | (simp; done) | (simp [go_sem, *]; done))
  have l1_0 : w.heap.size < w1.heap.size := (by omega)
  have n1_0 : w.heap.size ≠ w1.heap.size := (by omega)
  have l1_1 : w.heap.size + 1 < w1.heap.size := (by omega)
  have n1_1 : w.heap.size + 1 ≠ w1.heap.size := (by omega)
  have z1 : w.heap.size ≤ w1.heap.size := (by omega)
  have HB1 := Lib.hid (show Below w.heap.size w w1 by (repeat' (first | exact Below.refl _ _ | (refine Below.setCell ?_ (by (first | omega | (simp; done) | (simp; omega))) _) | (refine Below.alloc ?_ (by (first | omega | (simp; done) | (simp; omega))) _) | (refine Below.drew ?_) | (refine below_drewN ?_ _) | (refine Below.trans ?_ (Below.mono hb1 (by (first | omega | (simp; done) | (simp; omega))))))))
  clear hb1 hs1
  go_wp2_with fail
  go_at_call 15
  refine (index_c H2.out _).mono ?_
  rintro e w2 ⟨rfl, hb2⟩
  have HBo := HB1.out
  have hs2 := hb2.size
  try simp at hs2
  have c2_0_0 : w2.cell? ⟨w.heap.size, 0, none⟩ = some (.int .i64 x) := (by rw [hb2.cell (p := ⟨w.heap.size, 0, none⟩) (by first | omega | (simp; done) | (simp; omega))] <;> first | assumption | (simp; done) | (simp [go_sem, *]; done))
  have c2_0_1 : w2.cell? ⟨w.heap.size, 1, none⟩ = some (.int .i64 y) := (by rw [hb2.cell (p := ⟨w.heap.size, 1, none⟩) (by first | omega | (simp; done) | (simp; omega))] <;> first | assumption | (simp; done) | (simp [go_sem, *]; done))
  have c2_0_2 : w2.cell? ⟨w.heap.size, 2, none⟩ = some (.int .i64 z) := (by rw [hb2.cell (p := ⟨w.heap.size, 2, none⟩) (by first | omega | (simp; done) | (simp; omega))] <;> first | assumption | (simp; done) | (simp [go_sem, *]; done))
  have c2_1_0 : w2.cell? ⟨w.heap.size + 1, 0, none⟩ = some (.int .i64 u) := (by rw [hb2.cell (p := ⟨w.heap.size + 1, 0, none⟩) (by first | omega | (simp; done) | (simp; omega))] <;> first | assumption | (simp; done) | (simp [go_sem, *]; done))
  have c2_1_1 : w2.cell? ⟨w.heap.size + 1, 1, none⟩ = some (.int .i64 v) := (by rw [hb2.cell (p := ⟨w.heap.size + 1, 1, none⟩) (by first | omega | (simp; done) | (simp; omega))] <;> first | assumption | (simp; done) | (simp [go_sem, *]; done))
  have c2_1_2 : w2.cell? ⟨w.heap.size + 1, 2, none⟩ = some (.int .i64 t) := (by rw [hb2.cell (p := ⟨w.heap.size + 1, 2, none⟩) (by first | omega | (simp; done) | (simp; omega))] <;> first | assumption | (simp; done) | (simp [go_sem, *]; done))
  have c2_2_0 : w2.cell? ⟨w1.heap.size, 0, none⟩ = some (.int .i64 a) := (by rw [hb2.cell (p := ⟨w1.heap.size, 0, none⟩) (by first | omega | (simp; done) | (simp; omega))] <;> first | assumption | (simp; done) | (simp [go_sem, *]; done))
  have c2_2_1 : w2.cell? ⟨w1.heap.size, 1, none⟩ = some (.int .i64 b) := (by rw [hb2.cell (p := ⟨w1.heap.size, 1, none⟩) (by first | omega | (simp; done) | (simp; omega))] <;> first | assumption | (simp; done) | (simp [go_sem, *]; done))
  have c2_2_2 : w2.cell? ⟨w1.heap.size, 2, none⟩ = some (.int .i64 c) := (by rw [hb2.cell (p := ⟨w1.heap.size, 2, none⟩) (by first | omega | (simp; done) | (simp; omega))] <;> first | assumption | (simp; done) | (simp [go_sem, *]; done))
  have l2_0 : w.heap.size < w2.heap.size := (by omega)
  have n2_0 : w.heap.size ≠ w2.heap.size := (by omega)
  have l2_1 : w.heap.size + 1 < w2.heap.size := (by omega)
  have n2_1 : w.heap.size + 1 ≠ w2.heap.size := (by omega)
  have l2_2 : w1.heap.size < w2.heap.size := (by omega)
  have n2_2 : w1.heap.size ≠ w2.heap.size := (by omega)
  have z2 : w.heap.size ≤ w2.heap.size := (by omega)
  have HB2 := Lib.hid (show Below w.heap.size w w2 by (repeat' (first | exact Below.refl _ _ | (refine Below.setCell ?_ (by (first | omega | (simp; done) | (simp; omega))) _) | (refine Below.alloc ?_ (by (first | omega | (simp; done) | (simp; omega))) _) | (refine Below.drew ?_) | (refine below_drewN ?_ _) | (refine Below.trans ?_ (Below.mono HBo (by (first | omega | (simp; done) | (simp; omega))))) | (refine Below.trans ?_ (Below.mono hb2 (by (first | omega | (simp; done) | (simp; omega))))))))
  clear HBo hb2 hs2 c1_0_0 c1_0_1 c1_0_2 c1_1_0 c1_1_1 c1_1_2 l1_0 n1_0 l1_1 n1_1 z1 HB1
  go_wp2_with fail
  go_at_call 19
  refine (may_b HM.out _).mono ?_
  rintro e w3 ⟨rfl, hb3⟩
  have HBo := HB2.out
  have hs3 := hb3.size
  try simp at hs3
  have c3_0_0 : w3.cell? ⟨w.heap.size, 0, none⟩ = some (.int .i64 x) := (by rw [hb3.cell (p := ⟨w.heap.size, 0, none⟩) (by first | omega | (simp; done) | (simp; omega))] <;> first | assumption | (simp; done) | (simp [go_sem, *]; done))
  have c3_0_1 : w3.cell? ⟨w.heap.size, 1, none⟩ = some (.int .i64 y) := (by rw [hb3.cell (p := ⟨w.heap.size, 1, none⟩) (by first | omega | (simp; done) | (simp; omega))] <;> first | assumption | (simp; done) | (simp [go_sem, *]; done))
  have c3_0_2 : w3.cell? ⟨w.heap.size, 2, none⟩ = some (.int .i64 z) := (by rw [hb3.cell (p := ⟨w.heap.size, 2, none⟩) (by first | omega | (simp; done) | (simp; omega))] <;> first | assumption | (simp; done) | (simp [go_sem, *]; done))
  have c3_1_0 : w3.cell? ⟨w.heap.size + 1, 0, none⟩ = some (.int .i64 u) := (by rw [hb3.cell (p := ⟨w.heap.size + 1, 0, none⟩) (by first | omega | (simp; done) | (simp; omega))] <;> first | assumption | (simp; done) | (simp [go_sem, *]; done))
  have c3_1_1 : w3.cell? ⟨w.heap.size + 1, 1, none⟩ = some (.int .i64 v) := (by rw [hb3.cell (p := ⟨w.heap.size + 1, 1, none⟩) (by first | omega | (simp; done) | (simp; omega))] <;> first | assumption | (simp; done) | (simp [go_sem, *]; done))
  have c3_1_2 : w3.cell? ⟨w.heap.size + 1, 2, none⟩ = some (.int .i64 t) := (by rw [hb3.cell (p := ⟨w.heap.size + 1, 2, none⟩) (by first | omega | (simp; done) | (simp; omega))] <;> first | assumption | (simp; done) | (simp [go_sem, *]; done))
  have c3_2_0 : w3.cell? ⟨w1.heap.size, 0, none⟩ = some (.int .i64 a) := (by rw [hb3.cell (p := ⟨w1.heap.size, 0, none⟩) (by first | omega | (simp; done) | (simp; omega))] <;> first | assumption | (simp; done) | (simp [go_sem, *]; done))
  have c3_2_1 : w3.cell? ⟨w1.heap.size, 1, none⟩ = some (.int .i64 b) := (by rw [hb3.cell (p := ⟨w1.heap.size, 1, none⟩) (by first | omega | (simp; done) | (simp; omega))] <;> first | assumption | (simp; done) | (simp [go_sem, *]; done))
  have c3_2_2 : w3.cell? ⟨w1.heap.size, 2, none⟩ = some (.int .i64 c) := (by rw [hb3.cell (p := ⟨w1.heap.size, 2, none⟩) (by first | omega | (simp; done) | (simp; omega))] <;> first | assumption | (simp; done) | (simp [go_sem, *]; done))
  have l3_0 : w.heap.size < w3.heap.size := (by omega)
  have n3_0 : w.heap.size ≠ w3.heap.size := (by omega)
  have l3_1 : w.heap.size + 1 < w3.heap.size := (by omega)
  have n3_1 : w.heap.size + 1 ≠ w3.heap.size := (by omega)
  have l3_2 : w1.heap.size < w3.heap.size := (by omega)
  have n3_2 : w1.heap.size ≠ w3.heap.size := (by omega)
  have z3 : w.heap.size ≤ w3.heap.size := (by omega)
  have HB3 := Lib.hid (show Below w.heap.size w w3 by (repeat' (first | exact Below.refl _ _ | (refine Below.setCell ?_ (by (first | omega | (simp; done) | (simp; omega))) _) | (refine Below.alloc ?_ (by (first | omega | (simp; done) | (simp; omega))) _) | (refine Below.drew ?_) | (refine below_drewN ?_ _) | (refine Below.trans ?_ (Below.mono HBo (by (first | omega | (simp; done) | (simp; omega))))) | (refine Below.trans ?_ (Below.mono hb3 (by (first | omega | (simp; done) | (simp; omega))))))))
  clear HBo hb3 hs3 c2_0_0 c2_0_1 c2_0_2 c2_1_0 c2_1_1 c2_1_2 c2_2_0 c2_2_1 c2_2_2 l2_0 n2_0 l2_1 n2_1 l2_2 n2_2 z2 HB2
  go_wp2_with fail
  go_at_call 17
  refine (of_c H3.out _).mono ?_
  rintro e w4 ⟨rfl, hb4⟩
  have HBo := HB3.out
  have hs4 := hb4.size
  try simp at hs4
  have c4_0_0 : w4.cell? ⟨w.heap.size, 0, none⟩ = some (.int .i64 x) := (by rw [hb4.cell (p := ⟨w.heap.size, 0, none⟩) (by first | omega | (simp; done) | (simp; omega))] <;> first | assumption | (simp; done) | (simp [go_sem, *]; done))
  have c4_0_1 : w4.cell? ⟨w.heap.size, 1, none⟩ = some (.int .i64 y) := (by rw [hb4.cell (p := ⟨w.heap.size, 1, none⟩) (by first | omega | (simp; done) | (simp; omega))] <;> first | assumption | (simp; done) | (simp [go_sem, *]; done))
  have c4_0_2 : w4.cell? ⟨w.heap.size, 2, none⟩ = some (.int .i64 z) := (by rw [hb4.cell (p := ⟨w.heap.size, 2, none⟩) (by first | omega | (simp; done) | (simp; omega))] <;> first | assumption | (simp; done) | (simp [go_sem, *]; done))
  have c4_1_0 : w4.cell? ⟨w.heap.size + 1, 0, none⟩ = some (.int .i64 u) := (by rw [hb4.cell (p := ⟨w.heap.size + 1, 0, none⟩) (by first | omega | (simp; done) | (simp; omega))] <;> first | assumption | (simp; done) | (simp [go_sem, *]; done))
  have c4_1_1 : w4.cell? ⟨w.heap.size + 1, 1, none⟩ = some (.int .i64 v) := (by rw [hb4.cell (p := ⟨w.heap.size + 1, 1, none⟩) (by first | omega | (simp; done) | (simp; omega))] <;> first | assumption | (simp; done) | (simp [go_sem, *]; done))
  have c4_1_2 : w4.cell? ⟨w.heap.size + 1, 2, none⟩ = some (.int .i64 t) := (by rw [hb4.cell (p := ⟨w.heap.size + 1, 2, none⟩) (by first | omega | (simp; done) | (simp; omega))] <;> first | assumption | (simp; done) | (simp [go_sem, *]; done))
  have c4_2_0 : w4.cell? ⟨w1.heap.size, 0, none⟩ = some (.int .i64 a) := (by rw [hb4.cell (p := ⟨w1.heap.size, 0, none⟩) (by first | omega | (simp; done) | (simp; omega))] <;> first | assumption | (simp; done) | (simp [go_sem, *]; done))
  have c4_2_1 : w4.cell? ⟨w1.heap.size, 1, none⟩ = some (.int .i64 b) := (by rw [hb4.cell (p := ⟨w1.heap.size, 1, none⟩) (by first | omega | (simp; done) | (simp; omega))] <;> first | assumption | (simp; done) | (simp [go_sem, *]; done))
  have c4_2_2 : w4.cell? ⟨w1.heap.size, 2, none⟩ = some (.int .i64 c) := (by rw [hb4.cell (p := ⟨w1.heap.size, 2, none⟩) (by first | omega | (simp; done) | (simp; omega))] <;> first | assumption | (simp; done) | (simp [go_sem, *]; done))
  have l4_0 : w.heap.size < w4.heap.size := (by omega)
  have n4_0 : w.heap.size ≠ w4.heap.size := (by omega)
  have l4_1 : w.heap.size + 1 < w4.heap.size := (by omega)
  have n4_1 : w.heap.size + 1 ≠ w4.heap.size := (by omega)
  have l4_2 : w1.heap.size < w4.heap.size := (by omega)
  have n4_2 : w1.heap.size ≠ w4.heap.size := (by omega)
  have z4 : w.heap.size ≤ w4.heap.size := (by omega)
  have HB4 := Lib.hid (show Below w.heap.size w w4 by (repeat' (first | exact Below.refl _ _ | (refine Below.setCell ?_ (by (first | omega | (simp; done) | (simp; omega))) _) | (refine Below.alloc ?_ (by (first | omega | (simp; done) | (simp; omega))) _) | (refine Below.drew ?_) | (refine below_drewN ?_ _) | (refine Below.trans ?_ (Below.mono HBo (by (first | omega | (simp; done) | (simp; omega))))) | (refine Below.trans ?_ (Below.mono hb4 (by (first | omega | (simp; done) | (simp; omega))))))))
  clear HBo hb4 hs4 c3_0_0 c3_0_1 c3_0_2 c3_1_0 c3_1_1 c3_1_2 c3_2_0 c3_2_1 c3_2_2 l3_0 n3_0 l3_1 n3_1 l3_2 n3_2 z3 HB3
  go_wp2_with fail
  go_at_call 21
  refine (maySpot_b H4.out _).mono ?_
  rintro e w5 ⟨rfl, hb5⟩
  have HBo := HB4.out
  have hs5 := hb5.size
  try simp at hs5
  have c5_0_0 : w5.cell? ⟨w.heap.size, 0, none⟩ = some (.int .i64 x) := (by rw [hb5.cell (p := ⟨w.heap.size, 0, none⟩) (by first | omega | (simp; done) | (simp; omega))] <;> first | assumption | (simp; done) | (simp [go_sem, *]; done))
  have c5_0_1 : w5.cell? ⟨w.heap.size, 1, none⟩ = some (.int .i64 y) := (by rw [hb5.cell (p := ⟨w.heap.size, 1, none⟩) (by first | omega | (simp; done) | (simp; omega))] <;> first | assumption | (simp; done) | (simp [go_sem, *]; done))
  have c5_0_2 : w5.cell? ⟨w.heap.size, 2, none⟩ = some (.int .i64 z) := (by rw [hb5.cell (p := ⟨w.heap.size, 2, none⟩) (by first | omega | (simp; done) | (simp; omega))] <;> first | assumption | (simp; done) | (simp [go_sem, *]; done))
  have c5_1_0 : w5.cell? ⟨w.heap.size + 1, 0, none⟩ = some (.int .i64 u) := (by rw [hb5.cell (p := ⟨w.heap.size + 1, 0, none⟩) (by first | omega | (simp; done) | (simp; omega))] <;> first | assumption | (simp; done) | (simp [go_sem, *]; done))
  have c5_1_1 : w5.cell? ⟨w.heap.size + 1, 1, none⟩ = some (.int .i64 v) := (by rw [hb5.cell (p := ⟨w.heap.size + 1, 1, none⟩) (by first | omega | (simp; done) | (simp; omega))] <;> first | assumption | (simp; done) | (simp [go_sem, *]; done))
  have c5_1_2 : w5.cell? ⟨w.heap.size + 1, 2, none⟩ = some (.int .i64 t) := (by rw [hb5.cell (p := ⟨w.heap.size + 1, 2, none⟩) (by first | omega | (simp; done) | (simp; omega))] <;> first | assumption | (simp; done) | (simp [go_sem, *]; done))
  have c5_2_0 : w5.cell? ⟨w1.heap.size, 0, none⟩ = some (.int .i64 a) := (by rw [hb5.cell (p := ⟨w1.heap.size, 0, none⟩) (by first | omega | (simp; done) | (simp; omega))] <;> first | assumption | (simp; done) | (simp [go_sem, *]; done))
  have c5_2_1 : w5.cell? ⟨w1.heap.size, 1, none⟩ = some (.int .i64 b) := (by rw [hb5.cell (p := ⟨w1.heap.size, 1, none⟩) (by first | omega | (simp; done) | (simp; omega))] <;> first | assumption | (simp; done) | (simp [go_sem, *]; done))
  have c5_2_2 : w5.cell? ⟨w1.heap.size, 2, none⟩ = some (.int .i64 c) := (by rw [hb5.cell (p := ⟨w1.heap.size, 2, none⟩) (by first | omega | (simp; done) | (simp; omega))] <;> first | assumption | (simp; done) | (simp [go_sem, *]; done))
  have c5_3_0 : w5.cell? ⟨w4.heap.size, 0, none⟩ = some (.int .i64 x) := (by rw [hb5.cell (p := ⟨w4.heap.size, 0, none⟩) (by first | omega | (simp; done) | (simp; omega))] <;> first | assumption | (simp; done) | (simp [go_sem, *]; done))
  have c5_3_1 : w5.cell? ⟨w4.heap.size, 1, none⟩ = some (.int .i64 y) := (by rw [hb5.cell (p := ⟨w4.heap.size, 1, none⟩) (by first | omega | (simp; done) | (simp; omega))] <;> first | assumption | (simp; done) | (simp [go_sem, *]; done))
  have c5_3_2 : w5.cell? ⟨w4.heap.size, 2, none⟩ = some (.int .i64 z) := (by rw [hb5.cell (p := ⟨w4.heap.size, 2, none⟩) (by first | omega | (simp; done) | (simp; omega))] <;> first | assumption | (simp; done) | (simp [go_sem, *]; done))
  have l5_0 : w.heap.size < w5.heap.size := (by omega)
  have n5_0 : w.heap.size ≠ w5.heap.size := (by omega)
  have l5_1 : w.heap.size + 1 < w5.heap.size := (by omega)
  have n5_1 : w.heap.size + 1 ≠ w5.heap.size := (by omega)
  have l5_2 : w1.heap.size < w5.heap.size := (by omega)
  have n5_2 : w1.heap.size ≠ w5.heap.size := (by omega)
  have l5_3 : w4.heap.size < w5.heap.size := (by omega)
  have n5_3 : w4.heap.size ≠ w5.heap.size := (by omega)
  have z5 : w.heap.size ≤ w5.heap.size := (by omega)
  have HB5 := Lib.hid (show Below w.heap.size w w5 by (repeat' (first | exact Below.refl _ _ | (refine Below.setCell ?_ (by (first | omega | (simp; done) | (simp; omega))) _) | (refine Below.alloc ?_ (by (first | omega | (simp; done) | (simp; omega))) _) | (refine Below.drew ?_) | (refine below_drewN ?_ _) | (refine Below.trans ?_ (Below.mono HBo (by (first | omega | (simp; done) | (simp; omega))))) | (refine Below.trans ?_ (Below.mono hb5 (by (first | omega | (simp; done) | (simp; omega))))))))
  clear HBo hb5 hs5 c4_0_0 c4_0_1 c4_0_2 c4_1_0 c4_1_1 c4_1_2 c4_2_0 c4_2_1 c4_2_2 l4_0 n4_0 l4_1 n4_1 l4_2 n4_2 z4 HB4
  go_wp2_with fail
  go_at_call 17
  refine (of_c G1.out _).mono ?_
  rintro e w6 ⟨rfl, hb6⟩
  have HBo := HB5.out
  have hs6 := hb6.size
  try simp at hs6
  have c6_0_0 : w6.cell? ⟨w.heap.size, 0, none⟩ = some (.int .i64 x) := (by rw [hb6.cell (p := ⟨w.heap.size, 0, none⟩) (by first | omega | (simp; done) | (simp; omega))] <;> first | assumption | (simp; done) | (simp [go_sem, *]; done))
  have c6_0_1 : w6.cell? ⟨w.heap.size, 1, none⟩ = some (.int .i64 y) := (by rw [hb6.cell (p := ⟨w.heap.size, 1, none⟩) (by first | omega | (simp; done) | (simp; omega))] <;> first | assumption | (simp; done) | (simp [go_sem, *]; done))
  have c6_0_2 : w6.cell? ⟨w.heap.size, 2, none⟩ = some (.int .i64 z) := (by rw [hb6.cell (p := ⟨w.heap.size, 2, none⟩) (by first | omega | (simp; done) | (simp; omega))] <;> first | assumption | (simp; done) | (simp [go_sem, *]; done))
  have c6_1_0 : w6.cell? ⟨w.heap.size + 1, 0, none⟩ = some (.int .i64 u) := (by rw [hb6.cell (p := ⟨w.heap.size + 1, 0, none⟩) (by first | omega | (simp; done) | (simp; omega))] <;> first | assumption | (simp; done) | (simp [go_sem, *]; done))
  have c6_1_1 : w6.cell? ⟨w.heap.size + 1, 1, none⟩ = some (.int .i64 v) := (by rw [hb6.cell (p := ⟨w.heap.size + 1, 1, none⟩) (by first | omega | (simp; done) | (simp; omega))] <;> first | assumption | (simp; done) | (simp [go_sem, *]; done))
  have c6_1_2 : w6.cell? ⟨w.heap.size + 1, 2, none⟩ = some (.int .i64 t) := (by rw [hb6.cell (p := ⟨w.heap.size + 1, 2, none⟩) (by first | omega | (simp; done) | (simp; omega))] <;> first | assumption | (simp; done) | (simp [go_sem, *]; done))
  have c6_2_0 : w6.cell? ⟨w1.heap.size, 0, none⟩ = some (.int .i64 a) := (by rw [hb6.cell (p := ⟨w1.heap.size, 0, none⟩) (by first | omega | (simp; done) | (simp; omega))] <;> first | assumption | (simp; done) | (simp [go_sem, *]; done))
  have c6_2_1 : w6.cell? ⟨w1.heap.size, 1, none⟩ = some (.int .i64 b) := (by rw [hb6.cell (p := ⟨w1.heap.size, 1, none⟩) (by first | omega | (simp; done) | (simp; omega))] <;> first | assumption | (simp; done) | (simp [go_sem, *]; done))
  have c6_2_2 : w6.cell? ⟨w1.heap.size, 2, none⟩ = some (.int .i64 c) := (by rw [hb6.cell (p := ⟨w1.heap.size, 2, none⟩) (by first | omega | (simp; done) | (simp; omega))] <;> first | assumption | (simp; done) | (simp [go_sem, *]; done))
  have c6_3_0 : w6.cell? ⟨w4.heap.size, 0, none⟩ = some (.int .i64 x) := (by rw [hb6.cell (p := ⟨w4.heap.size, 0, none⟩) (by first | omega | (simp; done) | (simp; omega))] <;> first | assumption | (simp; done) | (simp [go_sem, *]; done))
  have c6_3_1 : w6.cell? ⟨w4.heap.size, 1, none⟩ = some (.int .i64 y) := (by rw [hb6.cell (p := ⟨w4.heap.size, 1, none⟩) (by first | omega | (simp; done) | (simp; omega))] <;> first | assumption | (simp; done) | (simp [go_sem, *]; done))
  have c6_3_2 : w6.cell? ⟨w4.heap.size, 2, none⟩ = some (.int .i64 z) := (by rw [hb6.cell (p := ⟨w4.heap.size, 2, none⟩) (by first | omega | (simp; done) | (simp; omega))] <;> first | assumption | (simp; done) | (simp [go_sem, *]; done))
  have l6_0 : w.heap.size < w6.heap.size := (by omega)
  have n6_0 : w.heap.size ≠ w6.heap.size := (by omega)
  have l6_1 : w.heap.size + 1 < w6.heap.size := (by omega)
  have n6_1 : w.heap.size + 1 ≠ w6.heap.size := (by omega)
  have l6_2 : w1.heap.size < w6.heap.size := (by omega)
  have n6_2 : w1.heap.size ≠ w6.heap.size := (by omega)
  have l6_3 : w4.heap.size < w6.heap.size := (by omega)
  have n6_3 : w4.heap.size ≠ w6.heap.size := (by omega)
  have z6 : w.heap.size ≤ w6.heap.size := (by omega)
  have HB6 := Lib.hid (show Below w.heap.size w w6 by (repeat' (first | exact Below.refl _ _ | (refine Below.setCell ?_ (by (first | omega | (simp; done) | (simp; omega))) _) | (refine Below.alloc ?_ (by (first | omega | (simp; done) | (simp; omega))) _) | (refine Below.drew ?_) | (refine below_drewN ?_ _) | (refine Below.trans ?_ (Below.mono HBo (by (first | omega | (simp; done) | (simp; omega))))) | (refine Below.trans ?_ (Below.mono hb6 (by (first | omega | (simp; done) | (simp; omega))))))))
  clear HBo hb6 hs6 c5_0_0 c5_0_1 c5_0_2 c5_1_0 c5_1_1 c5_1_2 c5_2_0 c5_2_1 c5_2_2 c5_3_0 c5_3_1 c5_3_2 l5_0 n5_0 l5_1 n5_1 l5_2 n5_2 l5_3 n5_3 z5 HB5
  go_wp2_with fail
  go_at_call 21
  refine (maySpot_b G2.out _).mono ?_
  rintro e w7 ⟨rfl, hb7⟩
  have HBo := HB6.out
  have hs7 := hb7.size
  try simp at hs7
  have c7_0_0 : w7.cell? ⟨w.heap.size, 0, none⟩ = some (.int .i64 x) := (by rw [hb7.cell (p := ⟨w.heap.size, 0, none⟩) (by first | omega | (simp; done) | (simp; omega))] <;> first | assumption | (simp; done) | (simp [go_sem, *]; done))
  have c7_0_1 : w7.cell? ⟨w.heap.size, 1, none⟩ = some (.int .i64 y) := (by rw [hb7.cell (p := ⟨w.heap.size, 1, none⟩) (by first | omega | (simp; done) | (simp; omega))] <;> first | assumption | (simp; done) | (simp [go_sem, *]; done))
  have c7_0_2 : w7.cell? ⟨w.heap.size, 2, none⟩ = some (.int .i64 z) := (by rw [hb7.cell (p := ⟨w.heap.size, 2, none⟩) (by first | omega | (simp; done) | (simp; omega))] <;> first | assumption | (simp; done) | (simp [go_sem, *]; done))
  have c7_1_0 : w7.cell? ⟨w.heap.size + 1, 0, none⟩ = some (.int .i64 u) := (by rw [hb7.cell (p := ⟨w.heap.size + 1, 0, none⟩) (by first | omega | (simp; done) | (simp; omega))] <;> first | assumption | (simp; done) | (simp [go_sem, *]; done))
  have c7_1_1 : w7.cell? ⟨w.heap.size + 1, 1, none⟩ = some (.int .i64 v) := (by rw [hb7.cell (p := ⟨w.heap.size + 1, 1, none⟩) (by first | omega | (simp; done) | (simp; omega))] <;> first | assumption | (simp; done) | (simp [go_sem, *]; done))
  have c7_1_2 : w7.cell? ⟨w.heap.size + 1, 2, none⟩ = some (.int .i64 t) := (by rw [hb7.cell (p := ⟨w.heap.size + 1, 2, none⟩) (by first | omega | (simp; done) | (simp; omega))] <;> first | assumption | (simp; done) | (simp [go_sem, *]; done))
  have c7_2_0 : w7.cell? ⟨w1.heap.size, 0, none⟩ = some (.int .i64 a) := (by rw [hb7.cell (p := ⟨w1.heap.size, 0, none⟩) (by first | omega | (simp; done) | (simp; omega))] <;> first | assumption | (simp; done) | (simp [go_sem, *]; done))
  have c7_2_1 : w7.cell? ⟨w1.heap.size, 1, none⟩ = some (.int .i64 b) := (by rw [hb7.cell (p := ⟨w1.heap.size, 1, none⟩) (by first | omega | (simp; done) | (simp; omega))] <;> first | assumption | (simp; done) | (simp [go_sem, *]; done))
  have c7_2_2 : w7.cell? ⟨w1.heap.size, 2, none⟩ = some (.int .i64 c) := (by rw [hb7.cell (p := ⟨w1.heap.size, 2, none⟩) (by first | omega | (simp; done) | (simp; omega))] <;> first | assumption | (simp; done) | (simp [go_sem, *]; done))
  have c7_3_0 : w7.cell? ⟨w4.heap.size, 0, none⟩ = some (.int .i64 x) := (by rw [hb7.cell (p := ⟨w4.heap.size, 0, none⟩) (by first | omega | (simp; done) | (simp; omega))] <;> first | assumption | (simp; done) | (simp [go_sem, *]; done))
  have c7_3_1 : w7.cell? ⟨w4.heap.size, 1, none⟩ = some (.int .i64 y) := (by rw [hb7.cell (p := ⟨w4.heap.size, 1, none⟩) (by first | omega | (simp; done) | (simp; omega))] <;> first | assumption | (simp; done) | (simp [go_sem, *]; done))
  have c7_3_2 : w7.cell? ⟨w4.heap.size, 2, none⟩ = some (.int .i64 z) := (by rw [hb7.cell (p := ⟨w4.heap.size, 2, none⟩) (by first | omega | (simp; done) | (simp; omega))] <;> first | assumption | (simp; done) | (simp [go_sem, *]; done))
  have c7_4_0 : w7.cell? ⟨w6.heap.size, 0, none⟩ = some (.int .i64 q1) := (by rw [hb7.cell (p := ⟨w6.heap.size, 0, none⟩) (by first | omega | (simp; done) | (simp; omega))] <;> first | assumption | (simp; done) | (simp [go_sem, *]; done))
  have c7_4_1 : w7.cell? ⟨w6.heap.size, 1, none⟩ = some (.int .i64 q2) := (by rw [hb7.cell (p := ⟨w6.heap.size, 1, none⟩) (by first | omega | (simp; done) | (simp; omega))] <;> first | assumption | (simp; done) | (simp [go_sem, *]; done))
  have c7_4_2 : w7.cell? ⟨w6.heap.size, 2, none⟩ = some (.int .i64 q3) := (by rw [hb7.cell (p := ⟨w6.heap.size, 2, none⟩) (by first | omega | (simp; done) | (simp; omega))] <;> first | assumption | (simp; done) | (simp [go_sem, *]; done))
  have l7_0 : w.heap.size < w7.heap.size := (by omega)
  have n7_0 : w.heap.size ≠ w7.heap.size := (by omega)
  have l7_1 : w.heap.size + 1 < w7.heap.size := (by omega)
  have n7_1 : w.heap.size + 1 ≠ w7.heap.size := (by omega)
  have l7_2 : w1.heap.size < w7.heap.size := (by omega)
  have n7_2 : w1.heap.size ≠ w7.heap.size := (by omega)
  have l7_3 : w4.heap.size < w7.heap.size := (by omega)
  have n7_3 : w4.heap.size ≠ w7.heap.size := (by omega)
  have l7_4 : w6.heap.size < w7.heap.size := (by omega)
  have n7_4 : w6.heap.size ≠ w7.heap.size := (by omega)
  have z7 : w.heap.size ≤ w7.heap.size := (by omega)
  have HB7 := Lib.hid (show Below w.heap.size w w7 by (repeat' (first | exact Below.refl _ _ | (refine Below.setCell ?_ (by (first | omega | (simp; done) | (simp; omega))) _) | (refine Below.alloc ?_ (by (first | omega | (simp; done) | (simp; omega))) _) | (refine Below.drew ?_) | (refine below_drewN ?_ _) | (refine Below.trans ?_ (Below.mono HBo (by (first | omega | (simp; done) | (simp; omega))))) | (refine Below.trans ?_ (Below.mono hb7 (by (first | omega | (simp; done) | (simp; omega))))))))
  clear HBo hb7 hs7 c6_0_0 c6_0_1 c6_0_2 c6_1_0 c6_1_1 c6_1_2 c6_2_0 c6_2_1 c6_2_2 c6_3_0 c6_3_1 c6_3_2 l6_0 n6_0 l6_1 n6_1 l6_2 n6_2 l6_3 n6_3 z6 HB6
  go_wp2_with fail
  go_at_call 13
  refine (spot_c G4.out _).mono ?_
  rintro e w8 ⟨rfl, hb8⟩
  have HBo := HB7.out
  have hs8 := hb8.size
  try simp at hs8
  have c8_0_0 : w8.cell? ⟨w.heap.size, 0, none⟩ = some (.int .i64 x) := (by rw [hb8.cell (p := ⟨w.heap.size, 0, none⟩) (by first | omega | (simp; done) | (simp; omega))] <;> first | assumption | (simp; done) | (simp [go_sem, *]; done))
  have c8_0_1 : w8.cell? ⟨w.heap.size, 1, none⟩ = some (.int .i64 y) := (by rw [hb8.cell (p := ⟨w.heap.size, 1, none⟩) (by first | omega | (simp; done) | (simp; omega))] <;> first | assumption | (simp; done) | (simp [go_sem, *]; done))
  have c8_0_2 : w8.cell? ⟨w.heap.size, 2, none⟩ = some (.int .i64 z) := (by rw [hb8.cell (p := ⟨w.heap.size, 2, none⟩) (by first | omega | (simp; done) | (simp; omega))] <;> first | assumption | (simp; done) | (simp [go_sem, *]; done))
  have c8_1_0 : w8.cell? ⟨w.heap.size + 1, 0, none⟩ = some (.int .i64 u) := (by rw [hb8.cell (p := ⟨w.heap.size + 1, 0, none⟩) (by first | omega | (simp; done) | (simp; omega))] <;> first | assumption | (simp; done) | (simp [go_sem, *]; done))
  have c8_1_1 : w8.cell? ⟨w.heap.size + 1, 1, none⟩ = some (.int .i64 v) := (by rw [hb8.cell (p := ⟨w.heap.size + 1, 1, none⟩) (by first | omega | (simp; done) | (simp; omega))] <;> first | assumption | (simp; done) | (simp [go_sem, *]; done))
  have c8_1_2 : w8.cell? ⟨w.heap.size + 1, 2, none⟩ = some (.int .i64 t) := (by rw [hb8.cell (p := ⟨w.heap.size + 1, 2, none⟩) (by first | omega | (simp; done) | (simp; omega))] <;> first | assumption | (simp; done) | (simp [go_sem, *]; done))
  have c8_2_0 : w8.cell? ⟨w1.heap.size, 0, none⟩ = some (.int .i64 a) := (by rw [hb8.cell (p := ⟨w1.heap.size, 0, none⟩) (by first | omega | (simp; done) | (simp; omega))] <;> first | assumption | (simp; done) | (simp [go_sem, *]; done))
  have c8_2_1 : w8.cell? ⟨w1.heap.size, 1, none⟩ = some (.int .i64 b) := (by rw [hb8.cell (p := ⟨w1.heap.size, 1, none⟩) (by first | omega | (simp; done) | (simp; omega))] <;> first | assumption | (simp; done) | (simp [go_sem, *]; done))
  have c8_2_2 : w8.cell? ⟨w1.heap.size, 2, none⟩ = some (.int .i64 c) := (by rw [hb8.cell (p := ⟨w1.heap.size, 2, none⟩) (by first | omega | (simp; done) | (simp; omega))] <;> first | assumption | (simp; done) | (simp [go_sem, *]; done))
  have c8_3_0 : w8.cell? ⟨w4.heap.size, 0, none⟩ = some (.int .i64 x) := (by rw [hb8.cell (p := ⟨w4.heap.size, 0, none⟩) (by first | omega | (simp; done) | (simp; omega))] <;> first | assumption | (simp; done) | (simp [go_sem, *]; done))
  have c8_3_1 : w8.cell? ⟨w4.heap.size, 1, none⟩ = some (.int .i64 y) := (by rw [hb8.cell (p := ⟨w4.heap.size, 1, none⟩) (by first | omega | (simp; done) | (simp; omega))] <;> first | assumption | (simp; done) | (simp [go_sem, *]; done))
  have c8_3_2 : w8.cell? ⟨w4.heap.size, 2, none⟩ = some (.int .i64 z) := (by rw [hb8.cell (p := ⟨w4.heap.size, 2, none⟩) (by first | omega | (simp; done) | (simp; omega))] <;> first | assumption | (simp; done) | (simp [go_sem, *]; done))
  have c8_4_0 : w8.cell? ⟨w6.heap.size, 0, none⟩ = some (.int .i64 q1) := (by rw [hb8.cell (p := ⟨w6.heap.size, 0, none⟩) (by first | omega | (simp; done) | (simp; omega))] <;> first | assumption | (simp; done) | (simp [go_sem, *]; done))
  have c8_4_1 : w8.cell? ⟨w6.heap.size, 1, none⟩ = some (.int .i64 q2) := (by rw [hb8.cell (p := ⟨w6.heap.size, 1, none⟩) (by first | omega | (simp; done) | (simp; omega))] <;> first | assumption | (simp; done) | (simp [go_sem, *]; done))
  have c8_4_2 : w8.cell? ⟨w6.heap.size, 2, none⟩ = some (.int .i64 q3) := (by rw [hb8.cell (p := ⟨w6.heap.size, 2, none⟩) (by first | omega | (simp; done) | (simp; omega))] <;> first | assumption | (simp; done) | (simp [go_sem, *]; done))
  have l8_0 : w.heap.size < w8.heap.size := (by omega)
  have n8_0 : w.heap.size ≠ w8.heap.size := (by omega)
  have l8_1 : w.heap.size + 1 < w8.heap.size := (by omega)
  have n8_1 : w.heap.size + 1 ≠ w8.heap.size := (by omega)
  have l8_2 : w1.heap.size < w8.heap.size := (by omega)
  have n8_2 : w1.heap.size ≠ w8.heap.size := (by omega)
  have l8_3 : w4.heap.size < w8.heap.size := (by omega)
  have n8_3 : w4.heap.size ≠ w8.heap.size := (by omega)
  have l8_4 : w6.heap.size < w8.heap.size := (by omega)
  have n8_4 : w6.heap.size ≠ w8.heap.size := (by omega)
  have z8 : w.heap.size ≤ w8.heap.size := (by omega)
  have HB8 := Lib.hid (show Below w.heap.size w w8 by (repeat' (first | exact Below.refl _ _ | (refine Below.setCell ?_ (by (first | omega | (simp; done) | (simp; omega))) _) | (refine Below.alloc ?_ (by (first | omega | (simp; done) | (simp; omega))) _) | (refine Below.drew ?_) | (refine below_drewN ?_ _) | (refine Below.trans ?_ (Below.mono HBo (by (first | omega | (simp; done) | (simp; omega))))) | (refine Below.trans ?_ (Below.mono hb8 (by (first | omega | (simp; done) | (simp; omega))))))))
  clear HBo hb8 hs8 c7_0_0 c7_0_1 c7_0_2 c7_1_0 c7_1_1 c7_1_2 c7_2_0 c7_2_1 c7_2_2 c7_3_0 c7_3_1 c7_3_2 c7_4_0 c7_4_1 c7_4_2 l7_0 n7_0 l7_1 n7_1 l7_2 n7_2 l7_3 n7_3 l7_4 n7_4 z7 HB7
  go_wp2_with fail
  go_at_call 15
  refine (index_c G5.out _).mono ?_
  rintro e w9 ⟨rfl, hb9⟩
  have HBo := HB8.out
  have hs9 := hb9.size
  try simp at hs9
  have c9_0_0 : w9.cell? ⟨w.heap.size, 0, none⟩ = some (.int .i64 x) := (by rw [hb9.cell (p := ⟨w.heap.size, 0, none⟩) (by first | omega | (simp; done) | (simp; omega))] <;> first | assumption | (simp; done) | (simp [go_sem, *]; done))
  have c9_0_1 : w9.cell? ⟨w.heap.size, 1, none⟩ = some (.int .i64 y) := (by rw [hb9.cell (p := ⟨w.heap.size, 1, none⟩) (by first | omega | (simp; done) | (simp; omega))] <;> first | assumption | (simp; done) | (simp [go_sem, *]; done))
  have c9_0_2 : w9.cell? ⟨w.heap.size, 2, none⟩ = some (.int .i64 z) := (by rw [hb9.cell (p := ⟨w.heap.size, 2, none⟩) (by first | omega | (simp; done) | (simp; omega))] <;> first | assumption | (simp; done) | (simp [go_sem, *]; done))
  have c9_1_0 : w9.cell? ⟨w.heap.size + 1, 0, none⟩ = some (.int .i64 u) := (by rw [hb9.cell (p := ⟨w.heap.size + 1, 0, none⟩) (by first | omega | (simp; done) | (simp; omega))] <;> first | assumption | (simp; done) | (simp [go_sem, *]; done))
  have c9_1_1 : w9.cell? ⟨w.heap.size + 1, 1, none⟩ = some (.int .i64 v) := (by rw [hb9.cell (p := ⟨w.heap.size + 1, 1, none⟩) (by first | omega | (simp; done) | (simp; omega))] <;> first | assumption | (simp; done) | (simp [go_sem, *]; done))
  have c9_1_2 : w9.cell? ⟨w.heap.size + 1, 2, none⟩ = some (.int .i64 t) := (by rw [hb9.cell (p := ⟨w.heap.size + 1, 2, none⟩) (by first | omega | (simp; done) | (simp; omega))] <;> first | assumption | (simp; done) | (simp [go_sem, *]; done))
  have c9_2_0 : w9.cell? ⟨w1.heap.size, 0, none⟩ = some (.int .i64 a) := (by rw [hb9.cell (p := ⟨w1.heap.size, 0, none⟩) (by first | omega | (simp; done) | (simp; omega))] <;> first | assumption | (simp; done) | (simp [go_sem, *]; done))
  have c9_2_1 : w9.cell? ⟨w1.heap.size, 1, none⟩ = some (.int .i64 b) := (by rw [hb9.cell (p := ⟨w1.heap.size, 1, none⟩) (by first | omega | (simp; done) | (simp; omega))] <;> first | assumption | (simp; done) | (simp [go_sem, *]; done))
  have c9_2_2 : w9.cell? ⟨w1.heap.size, 2, none⟩ = some (.int .i64 c) := (by rw [hb9.cell (p := ⟨w1.heap.size, 2, none⟩) (by first | omega | (simp; done) | (simp; omega))] <;> first | assumption | (simp; done) | (simp [go_sem, *]; done))
  have c9_3_0 : w9.cell? ⟨w4.heap.size, 0, none⟩ = some (.int .i64 x) := (by rw [hb9.cell (p := ⟨w4.heap.size, 0, none⟩) (by first | omega | (simp; done) | (simp; omega))] <;> first | assumption | (simp; done) | (simp [go_sem, *]; done))
  have c9_3_1 : w9.cell? ⟨w4.heap.size, 1, none⟩ = some (.int .i64 y) := (by rw [hb9.cell (p := ⟨w4.heap.size, 1, none⟩) (by first | omega | (simp; done) | (simp; omega))] <;> first | assumption | (simp; done) | (simp [go_sem, *]; done))
  have c9_3_2 : w9.cell? ⟨w4.heap.size, 2, none⟩ = some (.int .i64 z) := (by rw [hb9.cell (p := ⟨w4.heap.size, 2, none⟩) (by first | omega | (simp; done) | (simp; omega))] <;> first | assumption | (simp; done) | (simp [go_sem, *]; done))
  have c9_4_0 : w9.cell? ⟨w6.heap.size, 0, none⟩ = some (.int .i64 q1) := (by rw [hb9.cell (p := ⟨w6.heap.size, 0, none⟩) (by first | omega | (simp; done) | (simp; omega))] <;> first | assumption | (simp; done) | (simp [go_sem, *]; done))
  have c9_4_1 : w9.cell? ⟨w6.heap.size, 1, none⟩ = some (.int .i64 q2) := (by rw [hb9.cell (p := ⟨w6.heap.size, 1, none⟩) (by first | omega | (simp; done) | (simp; omega))] <;> first | assumption | (simp; done) | (simp [go_sem, *]; done))
  have c9_4_2 : w9.cell? ⟨w6.heap.size, 2, none⟩ = some (.int .i64 q3) := (by rw [hb9.cell (p := ⟨w6.heap.size, 2, none⟩) (by first | omega | (simp; done) | (simp; omega))] <;> first | assumption | (simp; done) | (simp [go_sem, *]; done))
  have c9_5_0 : w9.cell? ⟨w8.heap.size, 0, none⟩ = some (.int .i64 u) := (by rw [hb9.cell (p := ⟨w8.heap.size, 0, none⟩) (by first | omega | (simp; done) | (simp; omega))] <;> first | assumption | (simp; done) | (simp [go_sem, *]; done))
  have c9_5_1 : w9.cell? ⟨w8.heap.size, 1, none⟩ = some (.int .i64 v) := (by rw [hb9.cell (p := ⟨w8.heap.size, 1, none⟩) (by first | omega | (simp; done) | (simp; omega))] <;> first | assumption | (simp; done) | (simp [go_sem, *]; done))
  have c9_5_2 : w9.cell? ⟨w8.heap.size, 2, none⟩ = some (.int .i64 t) := (by rw [hb9.cell (p := ⟨w8.heap.size, 2, none⟩) (by first | omega | (simp; done) | (simp; omega))] <;> first | assumption | (simp; done) | (simp [go_sem, *]; done))
  have l9_0 : w.heap.size < w9.heap.size := (by omega)
  have n9_0 : w.heap.size ≠ w9.heap.size := (by omega)
  have l9_1 : w.heap.size + 1 < w9.heap.size := (by omega)
  have n9_1 : w.heap.size + 1 ≠ w9.heap.size := (by omega)
  have l9_2 : w1.heap.size < w9.heap.size := (by omega)
  have n9_2 : w1.heap.size ≠ w9.heap.size := (by omega)
  have l9_3 : w4.heap.size < w9.heap.size := (by omega)
  have n9_3 : w4.heap.size ≠ w9.heap.size := (by omega)
  have l9_4 : w6.heap.size < w9.heap.size := (by omega)
  have n9_4 : w6.heap.size ≠ w9.heap.size := (by omega)
  have l9_5 : w8.heap.size < w9.heap.size := (by omega)
  have n9_5 : w8.heap.size ≠ w9.heap.size := (by omega)
  have z9 : w.heap.size ≤ w9.heap.size := (by omega)
  have HB9 := Lib.hid (show Below w.heap.size w w9 by (repeat' (first | exact Below.refl _ _ | (refine Below.setCell ?_ (by (first | omega | (simp; done) | (simp; omega))) _) | (refine Below.alloc ?_ (by (first | omega | (simp; done) | (simp; omega))) _) | (refine Below.drew ?_) | (refine below_drewN ?_ _) | (refine Below.trans ?_ (Below.mono HBo (by (first | omega | (simp; done) | (simp; omega))))) | (refine Below.trans ?_ (Below.mono hb9 (by (first | omega | (simp; done) | (simp; omega))))))))
  clear HBo hb9 hs9 c8_0_0 c8_0_1 c8_0_2 c8_1_0 c8_1_1 c8_1_2 c8_2_0 c8_2_1 c8_2_2 c8_3_0 c8_3_1 c8_3_2 c8_4_0 c8_4_1 c8_4_2 l8_0 n8_0 l8_1 n8_1 l8_2 n8_2 l8_3 n8_3 l8_4 n8_4 z8 HB8
  go_wp2_with fail
  go_at_call 19
  refine (may_b G3.out _).mono ?_
  rintro e w10 ⟨rfl, hb10⟩
  have HBo := HB9.out
  have hs10 := hb10.size
  try simp at hs10
  have c10_0_0 : w10.cell? ⟨w.heap.size, 0, none⟩ = some (.int .i64 x) := (by rw [hb10.cell (p := ⟨w.heap.size, 0, none⟩) (by first | omega | (simp; done) | (simp; omega))] <;> first | assumption | (simp; done) | (simp [go_sem, *]; done))
  have c10_0_1 : w10.cell? ⟨w.heap.size, 1, none⟩ = some (.int .i64 y) := (by rw [hb10.cell (p := ⟨w.heap.size, 1, none⟩) (by first | omega | (simp; done) | (simp; omega))] <;> first | assumption | (simp; done) | (simp [go_sem, *]; done))
  have c10_0_2 : w10.cell? ⟨w.heap.size, 2, none⟩ = some (.int .i64 z) := (by rw [hb10.cell (p := ⟨w.heap.size, 2, none⟩) (by first | omega | (simp; done) | (simp; omega))] <;> first | assumption | (simp; done) | (simp [go_sem, *]; done))
  have c10_1_0 : w10.cell? ⟨w.heap.size + 1, 0, none⟩ = some (.int .i64 u) := (by rw [hb10.cell (p := ⟨w.heap.size + 1, 0, none⟩) (by first | omega | (simp; done) | (simp; omega))] <;> first | assumption | (simp; done) | (simp [go_sem, *]; done))
  have c10_1_1 : w10.cell? ⟨w.heap.size + 1, 1, none⟩ = some (.int .i64 v) := (by rw [hb10.cell (p := ⟨w.heap.size + 1, 1, none⟩) (by first | omega | (simp; done) | (simp; omega))] <;> first | assumption | (simp; done) | (simp [go_sem, *]; done))
  have c10_1_2 : w10.cell? ⟨w.heap.size + 1, 2, none⟩ = some (.int .i64 t) := (by rw [hb10.cell (p := ⟨w.heap.size + 1, 2, none⟩) (by first | omega | (simp; done) | (simp; omega))] <;> first | assumption | (simp; done) | (simp [go_sem, *]; done))
  have c10_2_0 : w10.cell? ⟨w1.heap.size, 0, none⟩ = some (.int .i64 a) := (by rw [hb10.cell (p := ⟨w1.heap.size, 0, none⟩) (by first | omega | (simp; done) | (simp; omega))] <;> first | assumption | (simp; done) | (simp [go_sem, *]; done))
  have c10_2_1 : w10.cell? ⟨w1.heap.size, 1, none⟩ = some (.int .i64 b) := (by rw [hb10.cell (p := ⟨w1.heap.size, 1, none⟩) (by first | omega | (simp; done) | (simp; omega))] <;> first | assumption | (simp; done) | (simp [go_sem, *]; done))
  have c10_2_2 : w10.cell? ⟨w1.heap.size, 2, none⟩ = some (.int .i64 c) := (by rw [hb10.cell (p := ⟨w1.heap.size, 2, none⟩) (by first | omega | (simp; done) | (simp; omega))] <;> first | assumption | (simp; done) | (simp [go_sem, *]; done))
  have c10_3_0 : w10.cell? ⟨w4.heap.size, 0, none⟩ = some (.int .i64 x) := (by rw [hb10.cell (p := ⟨w4.heap.size, 0, none⟩) (by first | omega | (simp; done) | (simp; omega))] <;> first | assumption | (simp; done) | (simp [go_sem, *]; done))
  have c10_3_1 : w10.cell? ⟨w4.heap.size, 1, none⟩ = some (.int .i64 y) := (by rw [hb10.cell (p := ⟨w4.heap.size, 1, none⟩) (by first | omega | (simp; done) | (simp; omega))] <;> first | assumption | (simp; done) | (simp [go_sem, *]; done))
  have c10_3_2 : w10.cell? ⟨w4.heap.size, 2, none⟩ = some (.int .i64 z) := (by rw [hb10.cell (p := ⟨w4.heap.size, 2, none⟩) (by first | omega | (simp; done) | (simp; omega))] <;> first | assumption | (simp; done) | (simp [go_sem, *]; done))
  have c10_4_0 : w10.cell? ⟨w6.heap.size, 0, none⟩ = some (.int .i64 q1) := (by rw [hb10.cell (p := ⟨w6.heap.size, 0, none⟩) (by first | omega | (simp; done) | (simp; omega))] <;> first | assumption | (simp; done) | (simp [go_sem, *]; done))
  have c10_4_1 : w10.cell? ⟨w6.heap.size, 1, none⟩ = some (.int .i64 q2) := (by rw [hb10.cell (p := ⟨w6.heap.size, 1, none⟩) (by first | omega | (simp; done) | (simp; omega))] <;> first | assumption | (simp; done) | (simp [go_sem, *]; done))
  have c10_4_2 : w10.cell? ⟨w6.heap.size, 2, none⟩ = some (.int .i64 q3) := (by rw [hb10.cell (p := ⟨w6.heap.size, 2, none⟩) (by first | omega | (simp; done) | (simp; omega))] <;> first | assumption | (simp; done) | (simp [go_sem, *]; done))
  have c10_5_0 : w10.cell? ⟨w8.heap.size, 0, none⟩ = some (.int .i64 u) := (by rw [hb10.cell (p := ⟨w8.heap.size, 0, none⟩) (by first | omega | (simp; done) | (simp; omega))] <;> first | assumption | (simp; done) | (simp [go_sem, *]; done))
  have c10_5_1 : w10.cell? ⟨w8.heap.size, 1, none⟩ = some (.int .i64 v) := (by rw [hb10.cell (p := ⟨w8.heap.size, 1, none⟩) (by first | omega | (simp; done) | (simp; omega))] <;> first | assumption | (simp; done) | (simp [go_sem, *]; done))
  have c10_5_2 : w10.cell? ⟨w8.heap.size, 2, none⟩ = some (.int .i64 t) := (by rw [hb10.cell (p := ⟨w8.heap.size, 2, none⟩) (by first | omega | (simp; done) | (simp; omega))] <;> first | assumption | (simp; done) | (simp [go_sem, *]; done))
  have l10_0 : w.heap.size < w10.heap.size := (by omega)
  have n10_0 : w.heap.size ≠ w10.heap.size := (by omega)
  have l10_1 : w.heap.size + 1 < w10.heap.size := (by omega)
  have n10_1 : w.heap.size + 1 ≠ w10.heap.size := (by omega)
  have l10_2 : w1.heap.size < w10.heap.size := (by omega)
  have n10_2 : w1.heap.size ≠ w10.heap.size := (by omega)
  have l10_3 : w4.heap.size < w10.heap.size := (by omega)
  have n10_3 : w4.heap.size ≠ w10.heap.size := (by omega)
  have l10_4 : w6.heap.size < w10.heap.size := (by omega)
  have n10_4 : w6.heap.size ≠ w10.heap.size := (by omega)
  have l10_5 : w8.heap.size < w10.heap.size := (by omega)
  have n10_5 : w8.heap.size ≠ w10.heap.size := (by omega)
  have z10 : w.heap.size ≤ w10.heap.size := (by omega)
  have HB10 := Lib.hid (show Below w.heap.size w w10 by (repeat' (first | exact Below.refl _ _ | (refine Below.setCell ?_ (by (first | omega | (simp; done) | (simp; omega))) _) | (refine Below.alloc ?_ (by (first | omega | (simp; done) | (simp; omega))) _) | (refine Below.drew ?_) | (refine below_drewN ?_ _) | (refine Below.trans ?_ (Below.mono HBo (by (first | omega | (simp; done) | (simp; omega))))) | (refine Below.trans ?_ (Below.mono hb10 (by (first | omega | (simp; done) | (simp; omega))))))))
  clear HBo hb10 hs10 c9_0_0 c9_0_1 c9_0_2 c9_1_0 c9_1_1 c9_1_2 c9_2_0 c9_2_1 c9_2_2 c9_3_0 c9_3_1 c9_3_2 c9_4_0 c9_4_1 c9_4_2 c9_5_0 c9_5_1 c9_5_2 l9_0 n9_0 l9_1 n9_1 l9_2 n9_2 l9_3 n9_3 l9_4 n9_4 l9_5 n9_5 z9 HB9
  go_wp2_with fail
  go_at_call 23
  refine (works_c _).mono ?_
  rintro e w11 ⟨rfl, hb11⟩
  have HBo := HB10.out
  have hs11 := hb11.size
  try simp at hs11
  have c11_0_0 : w11.cell? ⟨w.heap.size, 0, none⟩ = some (.int .i64 x) := (by rw [hb11.cell (p := ⟨w.heap.size, 0, none⟩) (by first | omega | (simp; done) | (simp; omega))] <;> first | assumption | (simp; done) | (simp [go_sem, *]; done))
  have c11_0_1 : w11.cell? ⟨w.heap.size, 1, none⟩ = some (.int .i64 y) := (by rw [hb11.cell (p := ⟨w.heap.size, 1, none⟩) (by first | omega | (simp; done) | (simp; omega))] <;> first | assumption | (simp; done) | (simp [go_sem, *]; done))
  have c11_0_2 : w11.cell? ⟨w.heap.size, 2, none⟩ = some (.int .i64 z) := (by rw [hb11.cell (p := ⟨w.heap.size, 2, none⟩) (by first | omega | (simp; done) | (simp; omega))] <;> first | assumption | (simp; done) | (simp [go_sem, *]; done))
  have c11_1_0 : w11.cell? ⟨w.heap.size + 1, 0, none⟩ = some (.int .i64 u) := (by rw [hb11.cell (p := ⟨w.heap.size + 1, 0, none⟩) (by first | omega | (simp; done) | (simp; omega))] <;> first | assumption | (simp; done) | (simp [go_sem, *]; done))
  have c11_1_1 : w11.cell? ⟨w.heap.size + 1, 1, none⟩ = some (.int .i64 v) := (by rw [hb11.cell (p := ⟨w.heap.size + 1, 1, none⟩) (by first | omega | (simp; done) | (simp; omega))] <;> first | assumption | (simp; done) | (simp [go_sem, *]; done))
  have c11_1_2 : w11.cell? ⟨w.heap.size + 1, 2, none⟩ = some (.int .i64 t) := (by rw [hb11.cell (p := ⟨w.heap.size + 1, 2, none⟩) (by first | omega | (simp; done) | (simp; omega))] <;> first | assumption | (simp; done) | (simp [go_sem, *]; done))
  have c11_2_0 : w11.cell? ⟨w1.heap.size, 0, none⟩ = some (.int .i64 a) := (by rw [hb11.cell (p := ⟨w1.heap.size, 0, none⟩) (by first | omega | (simp; done) | (simp; omega))] <;> first | assumption | (simp; done) | (simp [go_sem, *]; done))
  have c11_2_1 : w11.cell? ⟨w1.heap.size, 1, none⟩ = some (.int .i64 b) := (by rw [hb11.cell (p := ⟨w1.heap.size, 1, none⟩) (by first | omega | (simp; done) | (simp; omega))] <;> first | assumption | (simp; done) | (simp [go_sem, *]; done))
  have c11_2_2 : w11.cell? ⟨w1.heap.size, 2, none⟩ = some (.int .i64 c) := (by rw [hb11.cell (p := ⟨w1.heap.size, 2, none⟩) (by first | omega | (simp; done) | (simp; omega))] <;> first | assumption | (simp; done) | (simp [go_sem, *]; done))
  have c11_3_0 : w11.cell? ⟨w4.heap.size, 0, none⟩ = some (.int .i64 x) := (by rw [hb11.cell (p := ⟨w4.heap.size, 0, none⟩) (by first | omega | (simp; done) | (simp; omega))] <;> first | assumption | (simp; done) | (simp [go_sem, *]; done))
  have c11_3_1 : w11.cell? ⟨w4.heap.size, 1, none⟩ = some (.int .i64 y) := (by rw [hb11.cell (p := ⟨w4.heap.size, 1, none⟩) (by first | omega | (simp; done) | (simp; omega))] <;> first | assumption | (simp; done) | (simp [go_sem, *]; done))
  have c11_3_2 : w11.cell? ⟨w4.heap.size, 2, none⟩ = some (.int .i64 z) := (by rw [hb11.cell (p := ⟨w4.heap.size, 2, none⟩) (by first | omega | (simp; done) | (simp; omega))] <;> first | assumption | (simp; done) | (simp [go_sem, *]; done))
  have c11_4_0 : w11.cell? ⟨w6.heap.size, 0, none⟩ = some (.int .i64 q1) := (by rw [hb11.cell (p := ⟨w6.heap.size, 0, none⟩) (by first | omega | (simp; done) | (simp; omega))] <;> first | assumption | (simp; done) | (simp [go_sem, *]; done))
  have c11_4_1 : w11.cell? ⟨w6.heap.size, 1, none⟩ = some (.int .i64 q2) := (by rw [hb11.cell (p := ⟨w6.heap.size, 1, none⟩) (by first | omega | (simp; done) | (simp; omega))] <;> first | assumption | (simp; done) | (simp [go_sem, *]; done))
  have c11_4_2 : w11.cell? ⟨w6.heap.size, 2, none⟩ = some (.int .i64 q3) := (by rw [hb11.cell (p := ⟨w6.heap.size, 2, none⟩) (by first | omega | (simp; done) | (simp; omega))] <;> first | assumption | (simp; done) | (simp [go_sem, *]; done))
  have c11_5_0 : w11.cell? ⟨w8.heap.size, 0, none⟩ = some (.int .i64 u) := (by rw [hb11.cell (p := ⟨w8.heap.size, 0, none⟩) (by first | omega | (simp; done) | (simp; omega))] <;> first | assumption | (simp; done) | (simp [go_sem, *]; done))
  have c11_5_1 : w11.cell? ⟨w8.heap.size, 1, none⟩ = some (.int .i64 v) := (by rw [hb11.cell (p := ⟨w8.heap.size, 1, none⟩) (by first | omega | (simp; done) | (simp; omega))] <;> first | assumption | (simp; done) | (simp [go_sem, *]; done))
  have c11_5_2 : w11.cell? ⟨w8.heap.size, 2, none⟩ = some (.int .i64 t) := (by rw [hb11.cell (p := ⟨w8.heap.size, 2, none⟩) (by first | omega | (simp; done) | (simp; omega))] <;> first | assumption | (simp; done) | (simp [go_sem, *]; done))
  have l11_0 : w.heap.size < w11.heap.size := (by omega)
  have n11_0 : w.heap.size ≠ w11.heap.size := (by omega)
  have l11_1 : w.heap.size + 1 < w11.heap.size := (by omega)
  have n11_1 : w.heap.size + 1 ≠ w11.heap.size := (by omega)
  have l11_2 : w1.heap.size < w11.heap.size := (by omega)
  have n11_2 : w1.heap.size ≠ w11.heap.size := (by omega)
  have l11_3 : w4.heap.size < w11.heap.size := (by omega)
  have n11_3 : w4.heap.size ≠ w11.heap.size := (by omega)
  have l11_4 : w6.heap.size < w11.heap.size := (by omega)
  have n11_4 : w6.heap.size ≠ w11.heap.size := (by omega)
  have l11_5 : w8.heap.size < w11.heap.size := (by omega)
  have n11_5 : w8.heap.size ≠ w11.heap.size := (by omega)
  have z11 : w.heap.size ≤ w11.heap.size := (by omega)
  have HB11 := Lib.hid (show Below w.heap.size w w11 by (repeat' (first | exact Below.refl _ _ | (refine Below.setCell ?_ (by (first | omega | (simp; done) | (simp; omega))) _) | (refine Below.alloc ?_ (by (first | omega | (simp; done) | (simp; omega))) _) | (refine Below.drew ?_) | (refine below_drewN ?_ _) | (refine Below.trans ?_ (Below.mono HBo (by (first | omega | (simp; done) | (simp; omega))))) | (refine Below.trans ?_ (Below.mono hb11 (by (first | omega | (simp; done) | (simp; omega))))))))
  clear HBo hb11 hs11 c10_0_0 c10_0_1 c10_0_2 c10_1_0 c10_1_1 c10_1_2 c10_2_0 c10_2_1 c10_2_2 c10_3_0 c10_3_1 c10_3_2 c10_4_0 c10_4_1 c10_4_2 c10_5_0 c10_5_1 c10_5_2 l10_0 n10_0 l10_1 n10_1 l10_2 n10_2 l10_3 n10_3 l10_4 n10_4 l10_5 n10_5 z10 HB10
  go_wp2_with fail
  go_ret
  have HBo := HB11.out
  refine ⟨rfl, ?_⟩
  (repeat' (first | exact Below.refl _ _ | (refine Below.setCell ?_ (by (first | omega | (simp; done) | (simp; omega))) _) | (refine Below.alloc ?_ (by (first | omega | (simp; done) | (simp; omega))) _) | (refine Below.drew ?_) | (refine below_drewN ?_ _) | (refine Below.trans ?_ (Below.mono HBo (by (first | omega | (simp; done) | (simp; omega)))))))

set_option maxRecDepth 100000 in
set_option maxHeartbeats 2000000 in
theorem law_back_tf {x y z u v t i a b c n : Int} (h1 : spotOf x y z = (a, b, c, true)) (h2 : indexOf x y z = (n, true)) (h3 : ofOf a b c n = (x, y, z, true)) (h4 : spotB a b c = true) (n0 : 0 ≤ n) (n1 : n < 4096) (hm : mayB x y z = true) (g1 : ofOf u v t i = (0, 0, 0, false)) (g2 : spotB u v t = false) (w : World) :
    Calls Try.prog 7 #[.agg #[.int .i64 x, .int .i64 y, .int .i64 z], .agg #[.int .i64 u, .int .i64 v, .int .i64 t], .int .i64 i] w fun e w' => e = .returned (.bool true) ∧ Below w.heap.size w w' := by
  have H1 := Lib.hid h1
  have H2 := Lib.hid h2
  have HM := Lib.hid hm
  have G1 := Lib.hid g1
  have G2 := Lib.hid g2
  have H3 := Lib.hid h3
  have H4 := Lib.hid h4
  clear h1 h2 hm g1 g2 h3 h4
  go_enter Try.func7, Try.ntmps7
  go_wp2_with fail
  go_at_call 13
  refine (spot_c H1.out _).mono ?_
  rintro e w1 ⟨rfl, hb1⟩
  have hs1 := hb1.size
  try simp at hs1
  have c1_0_0 : w1.cell? ⟨w.heap.size, 0, none⟩ = some (.int .i64 x) := (by rw [hb1.cell (p := ⟨w.heap.size, 0, none⟩) (by first | omega | (simp; done) | (simp; omega))] <;> first | assumption | (simp; done) | (simp [go_sem, *]; done))
  have c1_0_1 : w1.cell? ⟨w.heap.size, 1, none⟩ = some (.int .i64 y) := (by rw [hb1.cell (p := ⟨w.heap.size, 1, none⟩) (by first | omega | (simp; done) | (simp; omega))] <;> first | assumption | (simp; done) | (simp [go_sem, *]; done))
  have c1_0_2 : w1.cell? ⟨w.heap.size, 2, none⟩ = some (.int .i64 z) := (by rw [hb1.cell (p := ⟨w.heap.size, 2, none⟩) (by first | omega | (simp; done) | (simp; omega))] <;> first | assumption | (simp; done) | (simp [go_sem, *]; done))
  have c1_1_0 : w1.cell? ⟨w.heap.size + 1, 0, none⟩ = some (.int .i64 u) := (by rw [hb1.cell (p := ⟨w.heap.size + 1, 0, none⟩) (by first | omega | (simp; done) | (simp; omega))] <;> first | assumption | (simp; done) | (simp [go_sem, *]; done))
  have c1_1_1 : w1.cell? ⟨w.heap.size + 1, 1, none⟩ = some (.int .i64 v) := (by rw [hb1.cell (p := ⟨w.heap.size + 1, 1, none⟩) (by first | omega | (simp; done) | (simp; omega))] <;> first | assumption | (simp; done) | (simp [go_sem, *]; done))
  have c1_1_2 : w1.cell? ⟨w.heap.size + 1, 2, none⟩ = some (.int .i64 t) := (by rw [hb1.cell (p := ⟨w.heap.size + 1, 2, none⟩) (by first | omega | (simp; done) | (simp; omega))] <;> first | assumption | (simp; done) | (simp [go_sem, *]; done))
  have l1_0 : w.heap.size < w1.heap.size := (by omega)
  have n1_0 : w.heap.size ≠ w1.heap.size := (by omega)
  have l1_1 : w.heap.size + 1 < w1.heap.size := (by omega)
  have n1_1 : w.heap.size + 1 ≠ w1.heap.size := (by omega)
  have z1 : w.heap.size ≤ w1.heap.size := (by omega)
  have HB1 := Lib.hid (show Below w.heap.size w w1 by (repeat' (first | exact Below.refl _ _ | (refine Below.setCell ?_ (by (first | omega | (simp; done) | (simp; omega))) _) | (refine Below.alloc ?_ (by (first | omega | (simp; done) | (simp; omega))) _) | (refine Below.drew ?_) | (refine below_drewN ?_ _) | (refine Below.trans ?_ (Below.mono hb1 (by (first | omega | (simp; done) | (simp; omega))))))))
  clear hb1 hs1
  go_wp2_with fail
  go_at_call 15
  refine (index_c H2.out _).mono ?_
  rintro e w2 ⟨rfl, hb2⟩
  have HBo := HB1.out
  have hs2 := hb2.size
  try simp at hs2
  have c2_0_0 : w2.cell? ⟨w.heap.size, 0, none⟩ = some (.int .i64 x) := (by rw [hb2.cell (p := ⟨w.heap.size, 0, none⟩) (by first | omega | (simp; done) | (simp; omega))] <;> first | assumption | (simp; done) | (simp [go_sem, *]; done))
  have c2_0_1 : w2.cell? ⟨w.heap.size, 1, none⟩ = some (.int .i64 y) := (by rw [hb2.cell (p := ⟨w.heap.size, 1, none⟩) (by first | omega | (simp; done) | (simp; omega))] <;> first | assumption | (simp; done) | (simp [go_sem, *]; done))
  have c2_0_2 : w2.cell? ⟨w.heap.size, 2, none⟩ = some (.int .i64 z) := (by rw [hb2.cell (p := ⟨w.heap.size, 2, none⟩) (by first | omega | (simp; done) | (simp; omega))] <;> first | assumption | (simp; done) | (simp [go_sem, *]; done))
  have c2_1_0 : w2.cell? ⟨w.heap.size + 1, 0, none⟩ = some (.int .i64 u) := (by rw [hb2.cell (p := ⟨w.heap.size + 1, 0, none⟩) (by first | omega | (simp; done) | (simp; omega))] <;> first | assumption | (simp; done) | (simp [go_sem, *]; done))
  have c2_1_1 : w2.cell? ⟨w.heap.size + 1, 1, none⟩ = some (.int .i64 v) := (by rw [hb2.cell (p := ⟨w.heap.size + 1, 1, none⟩) (by first | omega | (simp; done) | (simp; omega))] <;> first | assumption | (simp; done) | (simp [go_sem, *]; done))
  have c2_1_2 : w2.cell? ⟨w.heap.size + 1, 2, none⟩ = some (.int .i64 t) := (by rw [hb2.cell (p := ⟨w.heap.size + 1, 2, none⟩) (by first | omega | (simp; done) | (simp; omega))] <;> first | assumption | (simp; done) | (simp [go_sem, *]; done))
  have c2_2_0 : w2.cell? ⟨w1.heap.size, 0, none⟩ = some (.int .i64 a) := (by rw [hb2.cell (p := ⟨w1.heap.size, 0, none⟩) (by first | omega | (simp; done) | (simp; omega))] <;> first | assumption | (simp; done) | (simp [go_sem, *]; done))
  have c2_2_1 : w2.cell? ⟨w1.heap.size, 1, none⟩ = some (.int .i64 b) := (by rw [hb2.cell (p := ⟨w1.heap.size, 1, none⟩) (by first | omega | (simp; done) | (simp; omega))] <;> first | assumption | (simp; done) | (simp [go_sem, *]; done))
  have c2_2_2 : w2.cell? ⟨w1.heap.size, 2, none⟩ = some (.int .i64 c) := (by rw [hb2.cell (p := ⟨w1.heap.size, 2, none⟩) (by first | omega | (simp; done) | (simp; omega))] <;> first | assumption | (simp; done) | (simp [go_sem, *]; done))
  have l2_0 : w.heap.size < w2.heap.size := (by omega)
  have n2_0 : w.heap.size ≠ w2.heap.size := (by omega)
  have l2_1 : w.heap.size + 1 < w2.heap.size := (by omega)
  have n2_1 : w.heap.size + 1 ≠ w2.heap.size := (by omega)
  have l2_2 : w1.heap.size < w2.heap.size := (by omega)
  have n2_2 : w1.heap.size ≠ w2.heap.size := (by omega)
  have z2 : w.heap.size ≤ w2.heap.size := (by omega)
  have HB2 := Lib.hid (show Below w.heap.size w w2 by (repeat' (first | exact Below.refl _ _ | (refine Below.setCell ?_ (by (first | omega | (simp; done) | (simp; omega))) _) | (refine Below.alloc ?_ (by (first | omega | (simp; done) | (simp; omega))) _) | (refine Below.drew ?_) | (refine below_drewN ?_ _) | (refine Below.trans ?_ (Below.mono HBo (by (first | omega | (simp; done) | (simp; omega))))) | (refine Below.trans ?_ (Below.mono hb2 (by (first | omega | (simp; done) | (simp; omega))))))))
  clear HBo hb2 hs2 c1_0_0 c1_0_1 c1_0_2 c1_1_0 c1_1_1 c1_1_2 l1_0 n1_0 l1_1 n1_1 z1 HB1
  go_wp2_with fail
  go_at_call 19
  refine (may_b HM.out _).mono ?_
  rintro e w3 ⟨rfl, hb3⟩
  have HBo := HB2.out
  have hs3 := hb3.size
  try simp at hs3
  have c3_0_0 : w3.cell? ⟨w.heap.size, 0, none⟩ = some (.int .i64 x) := (by rw [hb3.cell (p := ⟨w.heap.size, 0, none⟩) (by first | omega | (simp; done) | (simp; omega))] <;> first | assumption | (simp; done) | (simp [go_sem, *]; done))
  have c3_0_1 : w3.cell? ⟨w.heap.size, 1, none⟩ = some (.int .i64 y) := (by rw [hb3.cell (p := ⟨w.heap.size, 1, none⟩) (by first | omega | (simp; done) | (simp; omega))] <;> first | assumption | (simp; done) | (simp [go_sem, *]; done))
  have c3_0_2 : w3.cell? ⟨w.heap.size, 2, none⟩ = some (.int .i64 z) := (by rw [hb3.cell (p := ⟨w.heap.size, 2, none⟩) (by first | omega | (simp; done) | (simp; omega))] <;> first | assumption | (simp; done) | (simp [go_sem, *]; done))
  have c3_1_0 : w3.cell? ⟨w.heap.size + 1, 0, none⟩ = some (.int .i64 u) := (by rw [hb3.cell (p := ⟨w.heap.size + 1, 0, none⟩) (by first | omega | (simp; done) | (simp; omega))] <;> first | assumption | (simp; done) | (simp [go_sem, *]; done))
  have c3_1_1 : w3.cell? ⟨w.heap.size + 1, 1, none⟩ = some (.int .i64 v) := (by rw [hb3.cell (p := ⟨w.heap.size + 1, 1, none⟩) (by first | omega | (simp; done) | (simp; omega))] <;> first | assumption | (simp; done) | (simp [go_sem, *]; done))
  have c3_1_2 : w3.cell? ⟨w.heap.size + 1, 2, none⟩ = some (.int .i64 t) := (by rw [hb3.cell (p := ⟨w.heap.size + 1, 2, none⟩) (by first | omega | (simp; done) | (simp; omega))] <;> first | assumption | (simp; done) | (simp [go_sem, *]; done))
  have c3_2_0 : w3.cell? ⟨w1.heap.size, 0, none⟩ = some (.int .i64 a) := (by rw [hb3.cell (p := ⟨w1.heap.size, 0, none⟩) (by first | omega | (simp; done) | (simp; omega))] <;> first | assumption | (simp; done) | (simp [go_sem, *]; done))
  have c3_2_1 : w3.cell? ⟨w1.heap.size, 1, none⟩ = some (.int .i64 b) := (by rw [hb3.cell (p := ⟨w1.heap.size, 1, none⟩) (by first | omega | (simp; done) | (simp; omega))] <;> first | assumption | (simp; done) | (simp [go_sem, *]; done))
  have c3_2_2 : w3.cell? ⟨w1.heap.size, 2, none⟩ = some (.int .i64 c) := (by rw [hb3.cell (p := ⟨w1.heap.size, 2, none⟩) (by first | omega | (simp; done) | (simp; omega))] <;> first | assumption | (simp; done) | (simp [go_sem, *]; done))
  have l3_0 : w.heap.size < w3.heap.size := (by omega)
  have n3_0 : w.heap.size ≠ w3.heap.size := (by omega)
  have l3_1 : w.heap.size + 1 < w3.heap.size := (by omega)
  have n3_1 : w.heap.size + 1 ≠ w3.heap.size := (by omega)
  have l3_2 : w1.heap.size < w3.heap.size := (by omega)
  have n3_2 : w1.heap.size ≠ w3.heap.size := (by omega)
  have z3 : w.heap.size ≤ w3.heap.size := (by omega)
  have HB3 := Lib.hid (show Below w.heap.size w w3 by (repeat' (first | exact Below.refl _ _ | (refine Below.setCell ?_ (by (first | omega | (simp; done) | (simp; omega))) _) | (refine Below.alloc ?_ (by (first | omega | (simp; done) | (simp; omega))) _) | (refine Below.drew ?_) | (refine below_drewN ?_ _) | (refine Below.trans ?_ (Below.mono HBo (by (first | omega | (simp; done) | (simp; omega))))) | (refine Below.trans ?_ (Below.mono hb3 (by (first | omega | (simp; done) | (simp; omega))))))))
  clear HBo hb3 hs3 c2_0_0 c2_0_1 c2_0_2 c2_1_0 c2_1_1 c2_1_2 c2_2_0 c2_2_1 c2_2_2 l2_0 n2_0 l2_1 n2_1 l2_2 n2_2 z2 HB2
  go_wp2_with fail
  go_at_call 17
  refine (of_c H3.out _).mono ?_
  rintro e w4 ⟨rfl, hb4⟩
  have HBo := HB3.out
  have hs4 := hb4.size
  try simp at hs4
  have c4_0_0 : w4.cell? ⟨w.heap.size, 0, none⟩ = some (.int .i64 x) := (by rw [hb4.cell (p := ⟨w.heap.size, 0, none⟩) (by first | omega | (simp; done) | (simp; omega))] <;> first | assumption | (simp; done) | (simp [go_sem, *]; done))
  have c4_0_1 : w4.cell? ⟨w.heap.size, 1, none⟩ = some (.int .i64 y) := (by rw [hb4.cell (p := ⟨w.heap.size, 1, none⟩) (by first | omega | (simp; done) | (simp; omega))] <;> first | assumption | (simp; done) | (simp [go_sem, *]; done))
  have c4_0_2 : w4.cell? ⟨w.heap.size, 2, none⟩ = some (.int .i64 z) := (by rw [hb4.cell (p := ⟨w.heap.size, 2, none⟩) (by first | omega | (simp; done) | (simp; omega))] <;> first | assumption | (simp; done) | (simp [go_sem, *]; done))
  have c4_1_0 : w4.cell? ⟨w.heap.size + 1, 0, none⟩ = some (.int .i64 u) := (by rw [hb4.cell (p := ⟨w.heap.size + 1, 0, none⟩) (by first | omega | (simp; done) | (simp; omega))] <;> first | assumption | (simp; done) | (simp [go_sem, *]; done))
  have c4_1_1 : w4.cell? ⟨w.heap.size + 1, 1, none⟩ = some (.int .i64 v) := (by rw [hb4.cell (p := ⟨w.heap.size + 1, 1, none⟩) (by first | omega | (simp; done) | (simp; omega))] <;> first | assumption | (simp; done) | (simp [go_sem, *]; done))
  have c4_1_2 : w4.cell? ⟨w.heap.size + 1, 2, none⟩ = some (.int .i64 t) := (by rw [hb4.cell (p := ⟨w.heap.size + 1, 2, none⟩) (by first | omega | (simp; done) | (simp; omega))] <;> first | assumption | (simp; done) | (simp [go_sem, *]; done))
  have c4_2_0 : w4.cell? ⟨w1.heap.size, 0, none⟩ = some (.int .i64 a) := (by rw [hb4.cell (p := ⟨w1.heap.size, 0, none⟩) (by first | omega | (simp; done) | (simp; omega))] <;> first | assumption | (simp; done) | (simp [go_sem, *]; done))
  have c4_2_1 : w4.cell? ⟨w1.heap.size, 1, none⟩ = some (.int .i64 b) := (by rw [hb4.cell (p := ⟨w1.heap.size, 1, none⟩) (by first | omega | (simp; done) | (simp; omega))] <;> first | assumption | (simp; done) | (simp [go_sem, *]; done))
  have c4_2_2 : w4.cell? ⟨w1.heap.size, 2, none⟩ = some (.int .i64 c) := (by rw [hb4.cell (p := ⟨w1.heap.size, 2, none⟩) (by first | omega | (simp; done) | (simp; omega))] <;> first | assumption | (simp; done) | (simp [go_sem, *]; done))
  have l4_0 : w.heap.size < w4.heap.size := (by omega)
  have n4_0 : w.heap.size ≠ w4.heap.size := (by omega)
  have l4_1 : w.heap.size + 1 < w4.heap.size := (by omega)
  have n4_1 : w.heap.size + 1 ≠ w4.heap.size := (by omega)
  have l4_2 : w1.heap.size < w4.heap.size := (by omega)
  have n4_2 : w1.heap.size ≠ w4.heap.size := (by omega)
  have z4 : w.heap.size ≤ w4.heap.size := (by omega)
  have HB4 := Lib.hid (show Below w.heap.size w w4 by (repeat' (first | exact Below.refl _ _ | (refine Below.setCell ?_ (by (first | omega | (simp; done) | (simp; omega))) _) | (refine Below.alloc ?_ (by (first | omega | (simp; done) | (simp; omega))) _) | (refine Below.drew ?_) | (refine below_drewN ?_ _) | (refine Below.trans ?_ (Below.mono HBo (by (first | omega | (simp; done) | (simp; omega))))) | (refine Below.trans ?_ (Below.mono hb4 (by (first | omega | (simp; done) | (simp; omega))))))))
  clear HBo hb4 hs4 c3_0_0 c3_0_1 c3_0_2 c3_1_0 c3_1_1 c3_1_2 c3_2_0 c3_2_1 c3_2_2 l3_0 n3_0 l3_1 n3_1 l3_2 n3_2 z3 HB3
  go_wp2_with fail
  go_at_call 21
  refine (maySpot_b H4.out _).mono ?_
  rintro e w5 ⟨rfl, hb5⟩
  have HBo := HB4.out
  have hs5 := hb5.size
  try simp at hs5
  have c5_0_0 : w5.cell? ⟨w.heap.size, 0, none⟩ = some (.int .i64 x) := (by rw [hb5.cell (p := ⟨w.heap.size, 0, none⟩) (by first | omega | (simp; done) | (simp; omega))] <;> first | assumption | (simp; done) | (simp [go_sem, *]; done))
  have c5_0_1 : w5.cell? ⟨w.heap.size, 1, none⟩ = some (.int .i64 y) := (by rw [hb5.cell (p := ⟨w.heap.size, 1, none⟩) (by first | omega | (simp; done) | (simp; omega))] <;> first | assumption | (simp; done) | (simp [go_sem, *]; done))
  have c5_0_2 : w5.cell? ⟨w.heap.size, 2, none⟩ = some (.int .i64 z) := (by rw [hb5.cell (p := ⟨w.heap.size, 2, none⟩) (by first | omega | (simp; done) | (simp; omega))] <;> first | assumption | (simp; done) | (simp [go_sem, *]; done))
  have c5_1_0 : w5.cell? ⟨w.heap.size + 1, 0, none⟩ = some (.int .i64 u) := (by rw [hb5.cell (p := ⟨w.heap.size + 1, 0, none⟩) (by first | omega | (simp; done) | (simp; omega))] <;> first | assumption | (simp; done) | (simp [go_sem, *]; done))
  have c5_1_1 : w5.cell? ⟨w.heap.size + 1, 1, none⟩ = some (.int .i64 v) := (by rw [hb5.cell (p := ⟨w.heap.size + 1, 1, none⟩) (by first | omega | (simp; done) | (simp; omega))] <;> first | assumption | (simp; done) | (simp [go_sem, *]; done))
  have c5_1_2 : w5.cell? ⟨w.heap.size + 1, 2, none⟩ = some (.int .i64 t) := (by rw [hb5.cell (p := ⟨w.heap.size + 1, 2, none⟩) (by first | omega | (simp; done) | (simp; omega))] <;> first | assumption | (simp; done) | (simp [go_sem, *]; done))
  have c5_2_0 : w5.cell? ⟨w1.heap.size, 0, none⟩ = some (.int .i64 a) := (by rw [hb5.cell (p := ⟨w1.heap.size, 0, none⟩) (by first | omega | (simp; done) | (simp; omega))] <;> first | assumption | (simp; done) | (simp [go_sem, *]; done))
  have c5_2_1 : w5.cell? ⟨w1.heap.size, 1, none⟩ = some (.int .i64 b) := (by rw [hb5.cell (p := ⟨w1.heap.size, 1, none⟩) (by first | omega | (simp; done) | (simp; omega))] <;> first | assumption | (simp; done) | (simp [go_sem, *]; done))
  have c5_2_2 : w5.cell? ⟨w1.heap.size, 2, none⟩ = some (.int .i64 c) := (by rw [hb5.cell (p := ⟨w1.heap.size, 2, none⟩) (by first | omega | (simp; done) | (simp; omega))] <;> first | assumption | (simp; done) | (simp [go_sem, *]; done))
  have c5_3_0 : w5.cell? ⟨w4.heap.size, 0, none⟩ = some (.int .i64 x) := (by rw [hb5.cell (p := ⟨w4.heap.size, 0, none⟩) (by first | omega | (simp; done) | (simp; omega))] <;> first | assumption | (simp; done) | (simp [go_sem, *]; done))
  have c5_3_1 : w5.cell? ⟨w4.heap.size, 1, none⟩ = some (.int .i64 y) := (by rw [hb5.cell (p := ⟨w4.heap.size, 1, none⟩) (by first | omega | (simp; done) | (simp; omega))] <;> first | assumption | (simp; done) | (simp [go_sem, *]; done))
  have c5_3_2 : w5.cell? ⟨w4.heap.size, 2, none⟩ = some (.int .i64 z) := (by rw [hb5.cell (p := ⟨w4.heap.size, 2, none⟩) (by first | omega | (simp; done) | (simp; omega))] <;> first | assumption | (simp; done) | (simp [go_sem, *]; done))
  have l5_0 : w.heap.size < w5.heap.size := (by omega)
  have n5_0 : w.heap.size ≠ w5.heap.size := (by omega)
  have l5_1 : w.heap.size + 1 < w5.heap.size := (by omega)
  have n5_1 : w.heap.size + 1 ≠ w5.heap.size := (by omega)
  have l5_2 : w1.heap.size < w5.heap.size := (by omega)
  have n5_2 : w1.heap.size ≠ w5.heap.size := (by omega)
  have l5_3 : w4.heap.size < w5.heap.size := (by omega)
  have n5_3 : w4.heap.size ≠ w5.heap.size := (by omega)
  have z5 : w.heap.size ≤ w5.heap.size := (by omega)
  have HB5 := Lib.hid (show Below w.heap.size w w5 by (repeat' (first | exact Below.refl _ _ | (refine Below.setCell ?_ (by (first | omega | (simp; done) | (simp; omega))) _) | (refine Below.alloc ?_ (by (first | omega | (simp; done) | (simp; omega))) _) | (refine Below.drew ?_) | (refine below_drewN ?_ _) | (refine Below.trans ?_ (Below.mono HBo (by (first | omega | (simp; done) | (simp; omega))))) | (refine Below.trans ?_ (Below.mono hb5 (by (first | omega | (simp; done) | (simp; omega))))))))
  clear HBo hb5 hs5 c4_0_0 c4_0_1 c4_0_2 c4_1_0 c4_1_1 c4_1_2 c4_2_0 c4_2_1 c4_2_2 l4_0 n4_0 l4_1 n4_1 l4_2 n4_2 z4 HB4
  go_wp2_with fail
  go_at_call 17
  refine (of_c G1.out _).mono ?_
  rintro e w6 ⟨rfl, hb6⟩
  have HBo := HB5.out
  have hs6 := hb6.size
  try simp at hs6
  have c6_0_0 : w6.cell? ⟨w.heap.size, 0, none⟩ = some (.int .i64 x) := (by rw [hb6.cell (p := ⟨w.heap.size, 0, none⟩) (by first | omega | (simp; done) | (simp; omega))] <;> first | assumption | (simp; done) | (simp [go_sem, *]; done))
  have c6_0_1 : w6.cell? ⟨w.heap.size, 1, none⟩ = some (.int .i64 y) := (by rw [hb6.cell (p := ⟨w.heap.size, 1, none⟩) (by first | omega | (simp; done) | (simp; omega))] <;> first | assumption | (simp; done) | (simp [go_sem, *]; done))
  have c6_0_2 : w6.cell? ⟨w.heap.size, 2, none⟩ = some (.int .i64 z) := (by rw [hb6.cell (p := ⟨w.heap.size, 2, none⟩) (by first | omega | (simp; done) | (simp; omega))] <;> first | assumption | (simp; done) | (simp [go_sem, *]; done))
  have c6_1_0 : w6.cell? ⟨w.heap.size + 1, 0, none⟩ = some (.int .i64 u) := (by rw [hb6.cell (p := ⟨w.heap.size + 1, 0, none⟩) (by first | omega | (simp; done) | (simp; omega))] <;> first | assumption | (simp; done) | (simp [go_sem, *]; done))
  have c6_1_1 : w6.cell? ⟨w.heap.size + 1, 1, none⟩ = some (.int .i64 v) := (by rw [hb6.cell (p := ⟨w.heap.size + 1, 1, none⟩) (by first | omega | (simp; done) | (simp; omega))] <;> first | assumption | (simp; done) | (simp [go_sem, *]; done))
  have c6_1_2 : w6.cell? ⟨w.heap.size + 1, 2, none⟩ = some (.int .i64 t) := (by rw [hb6.cell (p := ⟨w.heap.size + 1, 2, none⟩) (by first | omega | (simp; done) | (simp; omega))] <;> first | assumption | (simp; done) | (simp [go_sem, *]; done))
  have c6_2_0 : w6.cell? ⟨w1.heap.size, 0, none⟩ = some (.int .i64 a) := (by rw [hb6.cell (p := ⟨w1.heap.size, 0, none⟩) (by first | omega | (simp; done) | (simp; omega))] <;> first | assumption | (simp; done) | (simp [go_sem, *]; done))
  have c6_2_1 : w6.cell? ⟨w1.heap.size, 1, none⟩ = some (.int .i64 b) := (by rw [hb6.cell (p := ⟨w1.heap.size, 1, none⟩) (by first | omega | (simp; done) | (simp; omega))] <;> first | assumption | (simp; done) | (simp [go_sem, *]; done))
  have c6_2_2 : w6.cell? ⟨w1.heap.size, 2, none⟩ = some (.int .i64 c) := (by rw [hb6.cell (p := ⟨w1.heap.size, 2, none⟩) (by first | omega | (simp; done) | (simp; omega))] <;> first | assumption | (simp; done) | (simp [go_sem, *]; done))
  have c6_3_0 : w6.cell? ⟨w4.heap.size, 0, none⟩ = some (.int .i64 x) := (by rw [hb6.cell (p := ⟨w4.heap.size, 0, none⟩) (by first | omega | (simp; done) | (simp; omega))] <;> first | assumption | (simp; done) | (simp [go_sem, *]; done))
  have c6_3_1 : w6.cell? ⟨w4.heap.size, 1, none⟩ = some (.int .i64 y) := (by rw [hb6.cell (p := ⟨w4.heap.size, 1, none⟩) (by first | omega | (simp; done) | (simp; omega))] <;> first | assumption | (simp; done) | (simp [go_sem, *]; done))
  have c6_3_2 : w6.cell? ⟨w4.heap.size, 2, none⟩ = some (.int .i64 z) := (by rw [hb6.cell (p := ⟨w4.heap.size, 2, none⟩) (by first | omega | (simp; done) | (simp; omega))] <;> first | assumption | (simp; done) | (simp [go_sem, *]; done))
  have l6_0 : w.heap.size < w6.heap.size := (by omega)
  have n6_0 : w.heap.size ≠ w6.heap.size := (by omega)
  have l6_1 : w.heap.size + 1 < w6.heap.size := (by omega)
  have n6_1 : w.heap.size + 1 ≠ w6.heap.size := (by omega)
  have l6_2 : w1.heap.size < w6.heap.size := (by omega)
  have n6_2 : w1.heap.size ≠ w6.heap.size := (by omega)
  have l6_3 : w4.heap.size < w6.heap.size := (by omega)
  have n6_3 : w4.heap.size ≠ w6.heap.size := (by omega)
  have z6 : w.heap.size ≤ w6.heap.size := (by omega)
  have HB6 := Lib.hid (show Below w.heap.size w w6 by (repeat' (first | exact Below.refl _ _ | (refine Below.setCell ?_ (by (first | omega | (simp; done) | (simp; omega))) _) | (refine Below.alloc ?_ (by (first | omega | (simp; done) | (simp; omega))) _) | (refine Below.drew ?_) | (refine below_drewN ?_ _) | (refine Below.trans ?_ (Below.mono HBo (by (first | omega | (simp; done) | (simp; omega))))) | (refine Below.trans ?_ (Below.mono hb6 (by (first | omega | (simp; done) | (simp; omega))))))))
  clear HBo hb6 hs6 c5_0_0 c5_0_1 c5_0_2 c5_1_0 c5_1_1 c5_1_2 c5_2_0 c5_2_1 c5_2_2 c5_3_0 c5_3_1 c5_3_2 l5_0 n5_0 l5_1 n5_1 l5_2 n5_2 l5_3 n5_3 z5 HB5
  go_wp2_with fail
  go_at_call 21
  refine (maySpot_b G2.out _).mono ?_
  rintro e w7 ⟨rfl, hb7⟩
  have HBo := HB6.out
  have hs7 := hb7.size
  try simp at hs7
  have c7_0_0 : w7.cell? ⟨w.heap.size, 0, none⟩ = some (.int .i64 x) := (by rw [hb7.cell (p := ⟨w.heap.size, 0, none⟩) (by first | omega | (simp; done) | (simp; omega))] <;> first | assumption | (simp; done) | (simp [go_sem, *]; done))
  have c7_0_1 : w7.cell? ⟨w.heap.size, 1, none⟩ = some (.int .i64 y) := (by rw [hb7.cell (p := ⟨w.heap.size, 1, none⟩) (by first | omega | (simp; done) | (simp; omega))] <;> first | assumption | (simp; done) | (simp [go_sem, *]; done))
  have c7_0_2 : w7.cell? ⟨w.heap.size, 2, none⟩ = some (.int .i64 z) := (by rw [hb7.cell (p := ⟨w.heap.size, 2, none⟩) (by first | omega | (simp; done) | (simp; omega))] <;> first | assumption | (simp; done) | (simp [go_sem, *]; done))
  have c7_1_0 : w7.cell? ⟨w.heap.size + 1, 0, none⟩ = some (.int .i64 u) := (by rw [hb7.cell (p := ⟨w.heap.size + 1, 0, none⟩) (by first | omega | (simp; done) | (simp; omega))] <;> first | assumption | (simp; done) | (simp [go_sem, *]; done))
  have c7_1_1 : w7.cell? ⟨w.heap.size + 1, 1, none⟩ = some (.int .i64 v) := (by rw [hb7.cell (p := ⟨w.heap.size + 1, 1, none⟩) (by first | omega | (simp; done) | (simp; omega))] <;> first | assumption | (simp; done) | (simp [go_sem, *]; done))
  have c7_1_2 : w7.cell? ⟨w.heap.size + 1, 2, none⟩ = some (.int .i64 t) := (by rw [hb7.cell (p := ⟨w.heap.size + 1, 2, none⟩) (by first | omega | (simp; done) | (simp; omega))] <;> first | assumption | (simp; done) | (simp [go_sem, *]; done))
  have c7_2_0 : w7.cell? ⟨w1.heap.size, 0, none⟩ = some (.int .i64 a) := (by rw [hb7.cell (p := ⟨w1.heap.size, 0, none⟩) (by first | omega | (simp; done) | (simp; omega))] <;> first | assumption | (simp; done) | (simp [go_sem, *]; done))
  have c7_2_1 : w7.cell? ⟨w1.heap.size, 1, none⟩ = some (.int .i64 b) := (by rw [hb7.cell (p := ⟨w1.heap.size, 1, none⟩) (by first | omega | (simp; done) | (simp; omega))] <;> first | assumption | (simp; done) | (simp [go_sem, *]; done))
  have c7_2_2 : w7.cell? ⟨w1.heap.size, 2, none⟩ = some (.int .i64 c) := (by rw [hb7.cell (p := ⟨w1.heap.size, 2, none⟩) (by first | omega | (simp; done) | (simp; omega))] <;> first | assumption | (simp; done) | (simp [go_sem, *]; done))
  have c7_3_0 : w7.cell? ⟨w4.heap.size, 0, none⟩ = some (.int .i64 x) := (by rw [hb7.cell (p := ⟨w4.heap.size, 0, none⟩) (by first | omega | (simp; done) | (simp; omega))] <;> first | assumption | (simp; done) | (simp [go_sem, *]; done))
  have c7_3_1 : w7.cell? ⟨w4.heap.size, 1, none⟩ = some (.int .i64 y) := (by rw [hb7.cell (p := ⟨w4.heap.size, 1, none⟩) (by first | omega | (simp; done) | (simp; omega))] <;> first | assumption | (simp; done) | (simp [go_sem, *]; done))
  have c7_3_2 : w7.cell? ⟨w4.heap.size, 2, none⟩ = some (.int .i64 z) := (by rw [hb7.cell (p := ⟨w4.heap.size, 2, none⟩) (by first | omega | (simp; done) | (simp; omega))] <;> first | assumption | (simp; done) | (simp [go_sem, *]; done))
  have c7_4_0 : w7.cell? ⟨w6.heap.size, 0, none⟩ = some (.int .i64 0) := (by rw [hb7.cell (p := ⟨w6.heap.size, 0, none⟩) (by first | omega | (simp; done) | (simp; omega))] <;> first | assumption | (simp; done) | (simp [go_sem, *]; done))
  have c7_4_1 : w7.cell? ⟨w6.heap.size, 1, none⟩ = some (.int .i64 0) := (by rw [hb7.cell (p := ⟨w6.heap.size, 1, none⟩) (by first | omega | (simp; done) | (simp; omega))] <;> first | assumption | (simp; done) | (simp [go_sem, *]; done))
  have c7_4_2 : w7.cell? ⟨w6.heap.size, 2, none⟩ = some (.int .i64 0) := (by rw [hb7.cell (p := ⟨w6.heap.size, 2, none⟩) (by first | omega | (simp; done) | (simp; omega))] <;> first | assumption | (simp; done) | (simp [go_sem, *]; done))
  have l7_0 : w.heap.size < w7.heap.size := (by omega)
  have n7_0 : w.heap.size ≠ w7.heap.size := (by omega)
  have l7_1 : w.heap.size + 1 < w7.heap.size := (by omega)
  have n7_1 : w.heap.size + 1 ≠ w7.heap.size := (by omega)
  have l7_2 : w1.heap.size < w7.heap.size := (by omega)
  have n7_2 : w1.heap.size ≠ w7.heap.size := (by omega)
  have l7_3 : w4.heap.size < w7.heap.size := (by omega)
  have n7_3 : w4.heap.size ≠ w7.heap.size := (by omega)
  have l7_4 : w6.heap.size < w7.heap.size := (by omega)
  have n7_4 : w6.heap.size ≠ w7.heap.size := (by omega)
  have z7 : w.heap.size ≤ w7.heap.size := (by omega)
  have HB7 := Lib.hid (show Below w.heap.size w w7 by (repeat' (first | exact Below.refl _ _ | (refine Below.setCell ?_ (by (first | omega | (simp; done) | (simp; omega))) _) | (refine Below.alloc ?_ (by (first | omega | (simp; done) | (simp; omega))) _) | (refine Below.drew ?_) | (refine below_drewN ?_ _) | (refine Below.trans ?_ (Below.mono HBo (by (first | omega | (simp; done) | (simp; omega))))) | (refine Below.trans ?_ (Below.mono hb7 (by (first | omega | (simp; done) | (simp; omega))))))))
  clear HBo hb7 hs7 c6_0_0 c6_0_1 c6_0_2 c6_1_0 c6_1_1 c6_1_2 c6_2_0 c6_2_1 c6_2_2 c6_3_0 c6_3_1 c6_3_2 l6_0 n6_0 l6_1 n6_1 l6_2 n6_2 l6_3 n6_3 z6 HB6
  go_wp2_with fail
  go_at_call 23
  refine (works_c _).mono ?_
  rintro e w8 ⟨rfl, hb8⟩
  have HBo := HB7.out
  have hs8 := hb8.size
  try simp at hs8
  have c8_0_0 : w8.cell? ⟨w.heap.size, 0, none⟩ = some (.int .i64 x) := (by rw [hb8.cell (p := ⟨w.heap.size, 0, none⟩) (by first | omega | (simp; done) | (simp; omega))] <;> first | assumption | (simp; done) | (simp [go_sem, *]; done))
  have c8_0_1 : w8.cell? ⟨w.heap.size, 1, none⟩ = some (.int .i64 y) := (by rw [hb8.cell (p := ⟨w.heap.size, 1, none⟩) (by first | omega | (simp; done) | (simp; omega))] <;> first | assumption | (simp; done) | (simp [go_sem, *]; done))
  have c8_0_2 : w8.cell? ⟨w.heap.size, 2, none⟩ = some (.int .i64 z) := (by rw [hb8.cell (p := ⟨w.heap.size, 2, none⟩) (by first | omega | (simp; done) | (simp; omega))] <;> first | assumption | (simp; done) | (simp [go_sem, *]; done))
  have c8_1_0 : w8.cell? ⟨w.heap.size + 1, 0, none⟩ = some (.int .i64 u) := (by rw [hb8.cell (p := ⟨w.heap.size + 1, 0, none⟩) (by first | omega | (simp; done) | (simp; omega))] <;> first | assumption | (simp; done) | (simp [go_sem, *]; done))
  have c8_1_1 : w8.cell? ⟨w.heap.size + 1, 1, none⟩ = some (.int .i64 v) := (by rw [hb8.cell (p := ⟨w.heap.size + 1, 1, none⟩) (by first | omega | (simp; done) | (simp; omega))] <;> first | assumption | (simp; done) | (simp [go_sem, *]; done))
  have c8_1_2 : w8.cell? ⟨w.heap.size + 1, 2, none⟩ = some (.int .i64 t) := (by rw [hb8.cell (p := ⟨w.heap.size + 1, 2, none⟩) (by first | omega | (simp; done) | (simp; omega))] <;> first | assumption | (simp; done) | (simp [go_sem, *]; done))
  have c8_2_0 : w8.cell? ⟨w1.heap.size, 0, none⟩ = some (.int .i64 a) := (by rw [hb8.cell (p := ⟨w1.heap.size, 0, none⟩) (by first | omega | (simp; done) | (simp; omega))] <;> first | assumption | (simp; done) | (simp [go_sem, *]; done))
  have c8_2_1 : w8.cell? ⟨w1.heap.size, 1, none⟩ = some (.int .i64 b) := (by rw [hb8.cell (p := ⟨w1.heap.size, 1, none⟩) (by first | omega | (simp; done) | (simp; omega))] <;> first | assumption | (simp; done) | (simp [go_sem, *]; done))
  have c8_2_2 : w8.cell? ⟨w1.heap.size, 2, none⟩ = some (.int .i64 c) := (by rw [hb8.cell (p := ⟨w1.heap.size, 2, none⟩) (by first | omega | (simp; done) | (simp; omega))] <;> first | assumption | (simp; done) | (simp [go_sem, *]; done))
  have c8_3_0 : w8.cell? ⟨w4.heap.size, 0, none⟩ = some (.int .i64 x) := (by rw [hb8.cell (p := ⟨w4.heap.size, 0, none⟩) (by first | omega | (simp; done) | (simp; omega))] <;> first | assumption | (simp; done) | (simp [go_sem, *]; done))
  have c8_3_1 : w8.cell? ⟨w4.heap.size, 1, none⟩ = some (.int .i64 y) := (by rw [hb8.cell (p := ⟨w4.heap.size, 1, none⟩) (by first | omega | (simp; done) | (simp; omega))] <;> first | assumption | (simp; done) | (simp [go_sem, *]; done))
  have c8_3_2 : w8.cell? ⟨w4.heap.size, 2, none⟩ = some (.int .i64 z) := (by rw [hb8.cell (p := ⟨w4.heap.size, 2, none⟩) (by first | omega | (simp; done) | (simp; omega))] <;> first | assumption | (simp; done) | (simp [go_sem, *]; done))
  have c8_4_0 : w8.cell? ⟨w6.heap.size, 0, none⟩ = some (.int .i64 0) := (by rw [hb8.cell (p := ⟨w6.heap.size, 0, none⟩) (by first | omega | (simp; done) | (simp; omega))] <;> first | assumption | (simp; done) | (simp [go_sem, *]; done))
  have c8_4_1 : w8.cell? ⟨w6.heap.size, 1, none⟩ = some (.int .i64 0) := (by rw [hb8.cell (p := ⟨w6.heap.size, 1, none⟩) (by first | omega | (simp; done) | (simp; omega))] <;> first | assumption | (simp; done) | (simp [go_sem, *]; done))
  have c8_4_2 : w8.cell? ⟨w6.heap.size, 2, none⟩ = some (.int .i64 0) := (by rw [hb8.cell (p := ⟨w6.heap.size, 2, none⟩) (by first | omega | (simp; done) | (simp; omega))] <;> first | assumption | (simp; done) | (simp [go_sem, *]; done))
  have l8_0 : w.heap.size < w8.heap.size := (by omega)
  have n8_0 : w.heap.size ≠ w8.heap.size := (by omega)
  have l8_1 : w.heap.size + 1 < w8.heap.size := (by omega)
  have n8_1 : w.heap.size + 1 ≠ w8.heap.size := (by omega)
  have l8_2 : w1.heap.size < w8.heap.size := (by omega)
  have n8_2 : w1.heap.size ≠ w8.heap.size := (by omega)
  have l8_3 : w4.heap.size < w8.heap.size := (by omega)
  have n8_3 : w4.heap.size ≠ w8.heap.size := (by omega)
  have l8_4 : w6.heap.size < w8.heap.size := (by omega)
  have n8_4 : w6.heap.size ≠ w8.heap.size := (by omega)
  have z8 : w.heap.size ≤ w8.heap.size := (by omega)
  have HB8 := Lib.hid (show Below w.heap.size w w8 by (repeat' (first | exact Below.refl _ _ | (refine Below.setCell ?_ (by (first | omega | (simp; done) | (simp; omega))) _) | (refine Below.alloc ?_ (by (first | omega | (simp; done) | (simp; omega))) _) | (refine Below.drew ?_) | (refine below_drewN ?_ _) | (refine Below.trans ?_ (Below.mono HBo (by (first | omega | (simp; done) | (simp; omega))))) | (refine Below.trans ?_ (Below.mono hb8 (by (first | omega | (simp; done) | (simp; omega))))))))
  clear HBo hb8 hs8 c7_0_0 c7_0_1 c7_0_2 c7_1_0 c7_1_1 c7_1_2 c7_2_0 c7_2_1 c7_2_2 c7_3_0 c7_3_1 c7_3_2 c7_4_0 c7_4_1 c7_4_2 l7_0 n7_0 l7_1 n7_1 l7_2 n7_2 l7_3 n7_3 l7_4 n7_4 z7 HB7
  go_wp2_with fail
  go_ret
  have HBo := HB8.out
  refine ⟨rfl, ?_⟩
  (repeat' (first | exact Below.refl _ _ | (refine Below.setCell ?_ (by (first | omega | (simp; done) | (simp; omega))) _) | (refine Below.alloc ?_ (by (first | omega | (simp; done) | (simp; omega))) _) | (refine Below.drew ?_) | (refine below_drewN ?_ _) | (refine Below.trans ?_ (Below.mono HBo (by (first | omega | (simp; done) | (simp; omega)))))))

set_option maxRecDepth 100000 in
set_option maxHeartbeats 2000000 in
theorem law_back_tl {x y z u v t i a b c n : Int} (h1 : spotOf x y z = (a, b, c, true)) (h2 : indexOf x y z = (n, true)) (h3 : ofOf a b c n = (x, y, z, true)) (h4 : spotB a b c = true) (n0 : 0 ≤ n) (n1 : n < 4096) (hm : mayB x y z = true) (g1 : ofOf u v t i = (0, 0, 0, false)) (g2 : spotB u v t = true) (i0 : i < 0) (w : World) :
    Calls Try.prog 7 #[.agg #[.int .i64 x, .int .i64 y, .int .i64 z], .agg #[.int .i64 u, .int .i64 v, .int .i64 t], .int .i64 i] w fun e w' => e = .returned (.bool true) ∧ Below w.heap.size w w' := by
  have H1 := Lib.hid h1
  have H2 := Lib.hid h2
  have HM := Lib.hid hm
  have G1 := Lib.hid g1
  have G2 := Lib.hid g2
  have H3 := Lib.hid h3
  have H4 := Lib.hid h4
  clear h1 h2 hm g1 g2 h3 h4
  go_enter Try.func7, Try.ntmps7
  go_wp2_with fail
  go_at_call 13
  refine (spot_c H1.out _).mono ?_
  rintro e w1 ⟨rfl, hb1⟩
  have hs1 := hb1.size
  try simp at hs1
  have c1_0_0 : w1.cell? ⟨w.heap.size, 0, none⟩ = some (.int .i64 x) := (by rw [hb1.cell (p := ⟨w.heap.size, 0, none⟩) (by first | omega | (simp; done) | (simp; omega))] <;> first | assumption | (simp; done) | (simp [go_sem, *]; done))
  have c1_0_1 : w1.cell? ⟨w.heap.size, 1, none⟩ = some (.int .i64 y) := (by rw [hb1.cell (p := ⟨w.heap.size, 1, none⟩) (by first | omega | (simp; done) | (simp; omega))] <;> first | assumption | (simp; done) | (simp [go_sem, *]; done))
  have c1_0_2 : w1.cell? ⟨w.heap.size, 2, none⟩ = some (.int .i64 z) := (by rw [hb1.cell (p := ⟨w.heap.size, 2, none⟩) (by first | omega | (simp; done) | (simp; omega))] <;> first | assumption | (simp; done) | (simp [go_sem, *]; done))
  have c1_1_0 : w1.cell? ⟨w.heap.size + 1, 0, none⟩ = some (.int .i64 u) := (by rw [hb1.cell (p := ⟨w.heap.size + 1, 0, none⟩) (by first | omega | (simp; done) | (simp; omega))] <;> first | assumption | (simp; done) | (simp [go_sem, *]; done))
  have c1_1_1 : w1.cell? ⟨w.heap.size + 1, 1, none⟩ = some (.int .i64 v) := (by rw [hb1.cell (p := ⟨w.heap.size + 1, 1, none⟩) (by first | omega | (simp; done) | (simp; omega))] <;> first | assumption | (simp; done) | (simp [go_sem, *]; done))
  have c1_1_2 : w1.cell? ⟨w.heap.size + 1, 2, none⟩ = some (.int .i64 t) := (by rw [hb1.cell (p := ⟨w.heap.size + 1, 2, none⟩) (by first | omega | (simp; done) | (simp; omega))] <;> first | assumption | (simp; done) | (simp [go_sem, *]; done))
  have l1_0 : w.heap.size < w1.heap.size := (by omega)
  have n1_0 : w.heap.size ≠ w1.heap.size := (by omega)
  have l1_1 : w.heap.size + 1 < w1.heap.size := (by omega)
  have n1_1 : w.heap.size + 1 ≠ w1.heap.size := (by omega)
  have z1 : w.heap.size ≤ w1.heap.size := (by omega)
  have HB1 := Lib.hid (show Below w.heap.size w w1 by (repeat' (first | exact Below.refl _ _ | (refine Below.setCell ?_ (by (first | omega | (simp; done) | (simp; omega))) _) | (refine Below.alloc ?_ (by (first | omega | (simp; done) | (simp; omega))) _) | (refine Below.drew ?_) | (refine below_drewN ?_ _) | (refine Below.trans ?_ (Below.mono hb1 (by (first | omega | (simp; done) | (simp; omega))))))))
  clear hb1 hs1
  go_wp2_with fail
  go_at_call 15
  refine (index_c H2.out _).mono ?_
  rintro e w2 ⟨rfl, hb2⟩
  have HBo := HB1.out
  have hs2 := hb2.size
  try simp at hs2
  have c2_0_0 : w2.cell? ⟨w.heap.size, 0, none⟩ = some (.int .i64 x) := (by rw [hb2.cell (p := ⟨w.heap.size, 0, none⟩) (by first | omega | (simp; done) | (simp; omega))] <;> first | assumption | (simp; done) | (simp [go_sem, *]; done))
  have c2_0_1 : w2.cell? ⟨w.heap.size, 1, none⟩ = some (.int .i64 y) := (by rw [hb2.cell (p := ⟨w.heap.size, 1, none⟩) (by first | omega | (simp; done) | (simp; omega))] <;> first | assumption | (simp; done) | (simp [go_sem, *]; done))
  have c2_0_2 : w2.cell? ⟨w.heap.size, 2, none⟩ = some (.int .i64 z) := (by rw [hb2.cell (p := ⟨w.heap.size, 2, none⟩) (by first | omega | (simp; done) | (simp; omega))] <;> first | assumption | (simp; done) | (simp [go_sem, *]; done))
  have c2_1_0 : w2.cell? ⟨w.heap.size + 1, 0, none⟩ = some (.int .i64 u) := (by rw [hb2.cell (p := ⟨w.heap.size + 1, 0, none⟩) (by first | omega | (simp; done) | (simp; omega))] <;> first | assumption | (simp; done) | (simp [go_sem, *]; done))
  have c2_1_1 : w2.cell? ⟨w.heap.size + 1, 1, none⟩ = some (.int .i64 v) := (by rw [hb2.cell (p := ⟨w.heap.size + 1, 1, none⟩) (by first | omega | (simp; done) | (simp; omega))] <;> first | assumption | (simp; done) | (simp [go_sem, *]; done))
  have c2_1_2 : w2.cell? ⟨w.heap.size + 1, 2, none⟩ = some (.int .i64 t) := (by rw [hb2.cell (p := ⟨w.heap.size + 1, 2, none⟩) (by first | omega | (simp; done) | (simp; omega))] <;> first | assumption | (simp; done) | (simp [go_sem, *]; done))
  have c2_2_0 : w2.cell? ⟨w1.heap.size, 0, none⟩ = some (.int .i64 a) := (by rw [hb2.cell (p := ⟨w1.heap.size, 0, none⟩) (by first | omega | (simp; done) | (simp; omega))] <;> first | assumption | (simp; done) | (simp [go_sem, *]; done))
  have c2_2_1 : w2.cell? ⟨w1.heap.size, 1, none⟩ = some (.int .i64 b) := (by rw [hb2.cell (p := ⟨w1.heap.size, 1, none⟩) (by first | omega | (simp; done) | (simp; omega))] <;> first | assumption | (simp; done) | (simp [go_sem, *]; done))
  have c2_2_2 : w2.cell? ⟨w1.heap.size, 2, none⟩ = some (.int .i64 c) := (by rw [hb2.cell (p := ⟨w1.heap.size, 2, none⟩) (by first | omega | (simp; done) | (simp; omega))] <;> first | assumption | (simp; done) | (simp [go_sem, *]; done))
  have l2_0 : w.heap.size < w2.heap.size := (by omega)
  have n2_0 : w.heap.size ≠ w2.heap.size := (by omega)
  have l2_1 : w.heap.size + 1 < w2.heap.size := (by omega)
  have n2_1 : w.heap.size + 1 ≠ w2.heap.size := (by omega)
  have l2_2 : w1.heap.size < w2.heap.size := (by omega)
  have n2_2 : w1.heap.size ≠ w2.heap.size := (by omega)
  have z2 : w.heap.size ≤ w2.heap.size := (by omega)
  have HB2 := Lib.hid (show Below w.heap.size w w2 by (repeat' (first | exact Below.refl _ _ | (refine Below.setCell ?_ (by (first | omega | (simp; done) | (simp; omega))) _) | (refine Below.alloc ?_ (by (first | omega | (simp; done) | (simp; omega))) _) | (refine Below.drew ?_) | (refine below_drewN ?_ _) | (refine Below.trans ?_ (Below.mono HBo (by (first | omega | (simp; done) | (simp; omega))))) | (refine Below.trans ?_ (Below.mono hb2 (by (first | omega | (simp; done) | (simp; omega))))))))
  clear HBo hb2 hs2 c1_0_0 c1_0_1 c1_0_2 c1_1_0 c1_1_1 c1_1_2 l1_0 n1_0 l1_1 n1_1 z1 HB1
  go_wp2_with fail
  go_at_call 19
  refine (may_b HM.out _).mono ?_
  rintro e w3 ⟨rfl, hb3⟩
  have HBo := HB2.out
  have hs3 := hb3.size
  try simp at hs3
  have c3_0_0 : w3.cell? ⟨w.heap.size, 0, none⟩ = some (.int .i64 x) := (by rw [hb3.cell (p := ⟨w.heap.size, 0, none⟩) (by first | omega | (simp; done) | (simp; omega))] <;> first | assumption | (simp; done) | (simp [go_sem, *]; done))
  have c3_0_1 : w3.cell? ⟨w.heap.size, 1, none⟩ = some (.int .i64 y) := (by rw [hb3.cell (p := ⟨w.heap.size, 1, none⟩) (by first | omega | (simp; done) | (simp; omega))] <;> first | assumption | (simp; done) | (simp [go_sem, *]; done))
  have c3_0_2 : w3.cell? ⟨w.heap.size, 2, none⟩ = some (.int .i64 z) := (by rw [hb3.cell (p := ⟨w.heap.size, 2, none⟩) (by first | omega | (simp; done) | (simp; omega))] <;> first | assumption | (simp; done) | (simp [go_sem, *]; done))
  have c3_1_0 : w3.cell? ⟨w.heap.size + 1, 0, none⟩ = some (.int .i64 u) := (by rw [hb3.cell (p := ⟨w.heap.size + 1, 0, none⟩) (by first | omega | (simp; done) | (simp; omega))] <;> first | assumption | (simp; done) | (simp [go_sem, *]; done))
  have c3_1_1 : w3.cell? ⟨w.heap.size + 1, 1, none⟩ = some (.int .i64 v) := (by rw [hb3.cell (p := ⟨w.heap.size + 1, 1, none⟩) (by first | omega | (simp; done) | (simp; omega))] <;> first | assumption | (simp; done) | (simp [go_sem, *]; done))
  have c3_1_2 : w3.cell? ⟨w.heap.size + 1, 2, none⟩ = some (.int .i64 t) := (by rw [hb3.cell (p := ⟨w.heap.size + 1, 2, none⟩) (by first | omega | (simp; done) | (simp; omega))] <;> first | assumption | (simp; done) | (simp [go_sem, *]; done))
  have c3_2_0 : w3.cell? ⟨w1.heap.size, 0, none⟩ = some (.int .i64 a) := (by rw [hb3.cell (p := ⟨w1.heap.size, 0, none⟩) (by first | omega | (simp; done) | (simp; omega))] <;> first | assumption | (simp; done) | (simp [go_sem, *]; done))
  have c3_2_1 : w3.cell? ⟨w1.heap.size, 1, none⟩ = some (.int .i64 b) := (by rw [hb3.cell (p := ⟨w1.heap.size, 1, none⟩) (by first | omega | (simp; done) | (simp; omega))] <;> first | assumption | (simp; done) | (simp [go_sem, *]; done))
  have c3_2_2 : w3.cell? ⟨w1.heap.size, 2, none⟩ = some (.int .i64 c) := (by rw [hb3.cell (p := ⟨w1.heap.size, 2, none⟩) (by first | omega | (simp; done) | (simp; omega))] <;> first | assumption | (simp; done) | (simp [go_sem, *]; done))
  have l3_0 : w.heap.size < w3.heap.size := (by omega)
  have n3_0 : w.heap.size ≠ w3.heap.size := (by omega)
  have l3_1 : w.heap.size + 1 < w3.heap.size := (by omega)
  have n3_1 : w.heap.size + 1 ≠ w3.heap.size := (by omega)
  have l3_2 : w1.heap.size < w3.heap.size := (by omega)
  have n3_2 : w1.heap.size ≠ w3.heap.size := (by omega)
  have z3 : w.heap.size ≤ w3.heap.size := (by omega)
  have HB3 := Lib.hid (show Below w.heap.size w w3 by (repeat' (first | exact Below.refl _ _ | (refine Below.setCell ?_ (by (first | omega | (simp; done) | (simp; omega))) _) | (refine Below.alloc ?_ (by (first | omega | (simp; done) | (simp; omega))) _) | (refine Below.drew ?_) | (refine below_drewN ?_ _) | (refine Below.trans ?_ (Below.mono HBo (by (first | omega | (simp; done) | (simp; omega))))) | (refine Below.trans ?_ (Below.mono hb3 (by (first | omega | (simp; done) | (simp; omega))))))))
  clear HBo hb3 hs3 c2_0_0 c2_0_1 c2_0_2 c2_1_0 c2_1_1 c2_1_2 c2_2_0 c2_2_1 c2_2_2 l2_0 n2_0 l2_1 n2_1 l2_2 n2_2 z2 HB2
  go_wp2_with fail
  go_at_call 17
  refine (of_c H3.out _).mono ?_
  rintro e w4 ⟨rfl, hb4⟩
  have HBo := HB3.out
  have hs4 := hb4.size
  try simp at hs4
  have c4_0_0 : w4.cell? ⟨w.heap.size, 0, none⟩ = some (.int .i64 x) := (by rw [hb4.cell (p := ⟨w.heap.size, 0, none⟩) (by first | omega | (simp; done) | (simp; omega))] <;> first | assumption | (simp; done) | (simp [go_sem, *]; done))
  have c4_0_1 : w4.cell? ⟨w.heap.size, 1, none⟩ = some (.int .i64 y) := (by rw [hb4.cell (p := ⟨w.heap.size, 1, none⟩) (by first | omega | (simp; done) | (simp; omega))] <;> first | assumption | (simp; done) | (simp [go_sem, *]; done))
  have c4_0_2 : w4.cell? ⟨w.heap.size, 2, none⟩ = some (.int .i64 z) := (by rw [hb4.cell (p := ⟨w.heap.size, 2, none⟩) (by first | omega | (simp; done) | (simp; omega))] <;> first | assumption | (simp; done) | (simp [go_sem, *]; done))
  have c4_1_0 : w4.cell? ⟨w.heap.size + 1, 0, none⟩ = some (.int .i64 u) := (by rw [hb4.cell (p := ⟨w.heap.size + 1, 0, none⟩) (by first | omega | (simp; done) | (simp; omega))] <;> first | assumption | (simp; done) | (simp [go_sem, *]; done))
  have c4_1_1 : w4.cell? ⟨w.heap.size + 1, 1, none⟩ = some (.int .i64 v) := (by rw [hb4.cell (p := ⟨w.heap.size + 1, 1, none⟩) (by first | omega | (simp; done) | (simp; omega))] <;> first | assumption | (simp; done) | (simp [go_sem, *]; done))
  have c4_1_2 : w4.cell? ⟨w.heap.size + 1, 2, none⟩ = some (.int .i64 t) := (by rw [hb4.cell (p := ⟨w.heap.size + 1, 2, none⟩) (by first | omega | (simp; done) | (simp; omega))] <;> first | assumption | (simp; done) | (simp [go_sem, *]; done))
  have c4_2_0 : w4.cell? ⟨w1.heap.size, 0, none⟩ = some (.int .i64 a) := (by rw [hb4.cell (p := ⟨w1.heap.size, 0, none⟩) (by first | omega | (simp; done) | (simp; omega))] <;> first | assumption | (simp; done) | (simp [go_sem, *]; done))
  have c4_2_1 : w4.cell? ⟨w1.heap.size, 1, none⟩ = some (.int .i64 b) := (by rw [hb4.cell (p := ⟨w1.heap.size, 1, none⟩) (by first | omega | (simp; done) | (simp; omega))] <;> first | assumption | (simp; done) | (simp [go_sem, *]; done))
  have c4_2_2 : w4.cell? ⟨w1.heap.size, 2, none⟩ = some (.int .i64 c) := (by rw [hb4.cell (p := ⟨w1.heap.size, 2, none⟩) (by first | omega | (simp; done) | (simp; omega))] <;> first | assumption | (simp; done) | (simp [go_sem, *]; done))
  have l4_0 : w.heap.size < w4.heap.size := (by omega)
  have n4_0 : w.heap.size ≠ w4.heap.size := (by omega)
  have l4_1 : w.heap.size + 1 < w4.heap.size := (by omega)
  have n4_1 : w.heap.size + 1 ≠ w4.heap.size := (by omega)
  have l4_2 : w1.heap.size < w4.heap.size := (by omega)
  have n4_2 : w1.heap.size ≠ w4.heap.size := (by omega)
  have z4 : w.heap.size ≤ w4.heap.size := (by omega)
  have HB4 := Lib.hid (show Below w.heap.size w w4 by (repeat' (first | exact Below.refl _ _ | (refine Below.setCell ?_ (by (first | omega | (simp; done) | (simp; omega))) _) | (refine Below.alloc ?_ (by (first | omega | (simp; done) | (simp; omega))) _) | (refine Below.drew ?_) | (refine below_drewN ?_ _) | (refine Below.trans ?_ (Below.mono HBo (by (first | omega | (simp; done) | (simp; omega))))) | (refine Below.trans ?_ (Below.mono hb4 (by (first | omega | (simp; done) | (simp; omega))))))))
  clear HBo hb4 hs4 c3_0_0 c3_0_1 c3_0_2 c3_1_0 c3_1_1 c3_1_2 c3_2_0 c3_2_1 c3_2_2 l3_0 n3_0 l3_1 n3_1 l3_2 n3_2 z3 HB3
  go_wp2_with fail
  go_at_call 21
  refine (maySpot_b H4.out _).mono ?_
  rintro e w5 ⟨rfl, hb5⟩
  have HBo := HB4.out
  have hs5 := hb5.size
  try simp at hs5
  have c5_0_0 : w5.cell? ⟨w.heap.size, 0, none⟩ = some (.int .i64 x) := (by rw [hb5.cell (p := ⟨w.heap.size, 0, none⟩) (by first | omega | (simp; done) | (simp; omega))] <;> first | assumption | (simp; done) | (simp [go_sem, *]; done))
  have c5_0_1 : w5.cell? ⟨w.heap.size, 1, none⟩ = some (.int .i64 y) := (by rw [hb5.cell (p := ⟨w.heap.size, 1, none⟩) (by first | omega | (simp; done) | (simp; omega))] <;> first | assumption | (simp; done) | (simp [go_sem, *]; done))
  have c5_0_2 : w5.cell? ⟨w.heap.size, 2, none⟩ = some (.int .i64 z) := (by rw [hb5.cell (p := ⟨w.heap.size, 2, none⟩) (by first | omega | (simp; done) | (simp; omega))] <;> first | assumption | (simp; done) | (simp [go_sem, *]; done))
  have c5_1_0 : w5.cell? ⟨w.heap.size + 1, 0, none⟩ = some (.int .i64 u) := (by rw [hb5.cell (p := ⟨w.heap.size + 1, 0, none⟩) (by first | omega | (simp; done) | (simp; omega))] <;> first | assumption | (simp; done) | (simp [go_sem, *]; done))
  have c5_1_1 : w5.cell? ⟨w.heap.size + 1, 1, none⟩ = some (.int .i64 v) := (by rw [hb5.cell (p := ⟨w.heap.size + 1, 1, none⟩) (by first | omega | (simp; done) | (simp; omega))] <;> first | assumption | (simp; done) | (simp [go_sem, *]; done))
  have c5_1_2 : w5.cell? ⟨w.heap.size + 1, 2, none⟩ = some (.int .i64 t) := (by rw [hb5.cell (p := ⟨w.heap.size + 1, 2, none⟩) (by first | omega | (simp; done) | (simp; omega))] <;> first | assumption | (simp; done) | (simp [go_sem, *]; done))
  have c5_2_0 : w5.cell? ⟨w1.heap.size, 0, none⟩ = some (.int .i64 a) := (by rw [hb5.cell (p := ⟨w1.heap.size, 0, none⟩) (by first | omega | (simp; done) | (simp; omega))] <;> first | assumption | (simp; done) | (simp [go_sem, *]; done))
  have c5_2_1 : w5.cell? ⟨w1.heap.size, 1, none⟩ = some (.int .i64 b) := (by rw [hb5.cell (p := ⟨w1.heap.size, 1, none⟩) (by first | omega | (simp; done) | (simp; omega))] <;> first | assumption | (simp; done) | (simp [go_sem, *]; done))
  have c5_2_2 : w5.cell? ⟨w1.heap.size, 2, none⟩ = some (.int .i64 c) := (by rw [hb5.cell (p := ⟨w1.heap.size, 2, none⟩) (by first | omega | (simp; done) | (simp; omega))] <;> first | assumption | (simp; done) | (simp [go_sem, *]; done))
  have c5_3_0 : w5.cell? ⟨w4.heap.size, 0, none⟩ = some (.int .i64 x) := (by rw [hb5.cell (p := ⟨w4.heap.size, 0, none⟩) (by first | omega | (simp; done) | (simp; omega))] <;> first | assumption | (simp; done) | (simp [go_sem, *]; done))
  have c5_3_1 : w5.cell? ⟨w4.heap.size, 1, none⟩ = some (.int .i64 y) := (by rw [hb5.cell (p := ⟨w4.heap.size, 1, none⟩) (by first | omega | (simp; done) | (simp; omega))] <;> first | assumption | (simp; done) | (simp [go_sem, *]; done))
  have c5_3_2 : w5.cell? ⟨w4.heap.size, 2, none⟩ = some (.int .i64 z) := (by rw [hb5.cell (p := ⟨w4.heap.size, 2, none⟩) (by first | omega | (simp; done) | (simp; omega))] <;> first | assumption | (simp; done) | (simp [go_sem, *]; done))
  have l5_0 : w.heap.size < w5.heap.size := (by omega)
  have n5_0 : w.heap.size ≠ w5.heap.size := (by omega)
  have l5_1 : w.heap.size + 1 < w5.heap.size := (by omega)
  have n5_1 : w.heap.size + 1 ≠ w5.heap.size := (by omega)
  have l5_2 : w1.heap.size < w5.heap.size := (by omega)
  have n5_2 : w1.heap.size ≠ w5.heap.size := (by omega)
  have l5_3 : w4.heap.size < w5.heap.size := (by omega)
  have n5_3 : w4.heap.size ≠ w5.heap.size := (by omega)
  have z5 : w.heap.size ≤ w5.heap.size := (by omega)
  have HB5 := Lib.hid (show Below w.heap.size w w5 by (repeat' (first | exact Below.refl _ _ | (refine Below.setCell ?_ (by (first | omega | (simp; done) | (simp; omega))) _) | (refine Below.alloc ?_ (by (first | omega | (simp; done) | (simp; omega))) _) | (refine Below.drew ?_) | (refine below_drewN ?_ _) | (refine Below.trans ?_ (Below.mono HBo (by (first | omega | (simp; done) | (simp; omega))))) | (refine Below.trans ?_ (Below.mono hb5 (by (first | omega | (simp; done) | (simp; omega))))))))
  clear HBo hb5 hs5 c4_0_0 c4_0_1 c4_0_2 c4_1_0 c4_1_1 c4_1_2 c4_2_0 c4_2_1 c4_2_2 l4_0 n4_0 l4_1 n4_1 l4_2 n4_2 z4 HB4
  go_wp2_with fail
  go_at_call 17
  refine (of_c G1.out _).mono ?_
  rintro e w6 ⟨rfl, hb6⟩
  have HBo := HB5.out
  have hs6 := hb6.size
  try simp at hs6
  have c6_0_0 : w6.cell? ⟨w.heap.size, 0, none⟩ = some (.int .i64 x) := (by rw [hb6.cell (p := ⟨w.heap.size, 0, none⟩) (by first | omega | (simp; done) | (simp; omega))] <;> first | assumption | (simp; done) | (simp [go_sem, *]; done))
  have c6_0_1 : w6.cell? ⟨w.heap.size, 1, none⟩ = some (.int .i64 y) := (by rw [hb6.cell (p := ⟨w.heap.size, 1, none⟩) (by first | omega | (simp; done) | (simp; omega))] <;> first | assumption | (simp; done) | (simp [go_sem, *]; done))
  have c6_0_2 : w6.cell? ⟨w.heap.size, 2, none⟩ = some (.int .i64 z) := (by rw [hb6.cell (p := ⟨w.heap.size, 2, none⟩) (by first | omega | (simp; done) | (simp; omega))] <;> first | assumption | (simp; done) | (simp [go_sem, *]; done))
  have c6_1_0 : w6.cell? ⟨w.heap.size + 1, 0, none⟩ = some (.int .i64 u) := (by rw [hb6.cell (p := ⟨w.heap.size + 1, 0, none⟩) (by first | omega | (simp; done) | (simp; omega))] <;> first | assumption | (simp; done) | (simp [go_sem, *]; done))
  have c6_1_1 : w6.cell? ⟨w.heap.size + 1, 1, none⟩ = some (.int .i64 v) := (by rw [hb6.cell (p := ⟨w.heap.size + 1, 1, none⟩) (by first | omega | (simp; done) | (simp; omega))] <;> first | assumption | (simp; done) | (simp [go_sem, *]; done))
  have c6_1_2 : w6.cell? ⟨w.heap.size + 1, 2, none⟩ = some (.int .i64 t) := (by rw [hb6.cell (p := ⟨w.heap.size + 1, 2, none⟩) (by first | omega | (simp; done) | (simp; omega))] <;> first | assumption | (simp; done) | (simp [go_sem, *]; done))
  have c6_2_0 : w6.cell? ⟨w1.heap.size, 0, none⟩ = some (.int .i64 a) := (by rw [hb6.cell (p := ⟨w1.heap.size, 0, none⟩) (by first | omega | (simp; done) | (simp; omega))] <;> first | assumption | (simp; done) | (simp [go_sem, *]; done))
  have c6_2_1 : w6.cell? ⟨w1.heap.size, 1, none⟩ = some (.int .i64 b) := (by rw [hb6.cell (p := ⟨w1.heap.size, 1, none⟩) (by first | omega | (simp; done) | (simp; omega))] <;> first | assumption | (simp; done) | (simp [go_sem, *]; done))
  have c6_2_2 : w6.cell? ⟨w1.heap.size, 2, none⟩ = some (.int .i64 c) := (by rw [hb6.cell (p := ⟨w1.heap.size, 2, none⟩) (by first | omega | (simp; done) | (simp; omega))] <;> first | assumption | (simp; done) | (simp [go_sem, *]; done))
  have c6_3_0 : w6.cell? ⟨w4.heap.size, 0, none⟩ = some (.int .i64 x) := (by rw [hb6.cell (p := ⟨w4.heap.size, 0, none⟩) (by first | omega | (simp; done) | (simp; omega))] <;> first | assumption | (simp; done) | (simp [go_sem, *]; done))
  have c6_3_1 : w6.cell? ⟨w4.heap.size, 1, none⟩ = some (.int .i64 y) := (by rw [hb6.cell (p := ⟨w4.heap.size, 1, none⟩) (by first | omega | (simp; done) | (simp; omega))] <;> first | assumption | (simp; done) | (simp [go_sem, *]; done))
  have c6_3_2 : w6.cell? ⟨w4.heap.size, 2, none⟩ = some (.int .i64 z) := (by rw [hb6.cell (p := ⟨w4.heap.size, 2, none⟩) (by first | omega | (simp; done) | (simp; omega))] <;> first | assumption | (simp; done) | (simp [go_sem, *]; done))
  have l6_0 : w.heap.size < w6.heap.size := (by omega)
  have n6_0 : w.heap.size ≠ w6.heap.size := (by omega)
  have l6_1 : w.heap.size + 1 < w6.heap.size := (by omega)
  have n6_1 : w.heap.size + 1 ≠ w6.heap.size := (by omega)
  have l6_2 : w1.heap.size < w6.heap.size := (by omega)
  have n6_2 : w1.heap.size ≠ w6.heap.size := (by omega)
  have l6_3 : w4.heap.size < w6.heap.size := (by omega)
  have n6_3 : w4.heap.size ≠ w6.heap.size := (by omega)
  have z6 : w.heap.size ≤ w6.heap.size := (by omega)
  have HB6 := Lib.hid (show Below w.heap.size w w6 by (repeat' (first | exact Below.refl _ _ | (refine Below.setCell ?_ (by (first | omega | (simp; done) | (simp; omega))) _) | (refine Below.alloc ?_ (by (first | omega | (simp; done) | (simp; omega))) _) | (refine Below.drew ?_) | (refine below_drewN ?_ _) | (refine Below.trans ?_ (Below.mono HBo (by (first | omega | (simp; done) | (simp; omega))))) | (refine Below.trans ?_ (Below.mono hb6 (by (first | omega | (simp; done) | (simp; omega))))))))
  clear HBo hb6 hs6 c5_0_0 c5_0_1 c5_0_2 c5_1_0 c5_1_1 c5_1_2 c5_2_0 c5_2_1 c5_2_2 c5_3_0 c5_3_1 c5_3_2 l5_0 n5_0 l5_1 n5_1 l5_2 n5_2 l5_3 n5_3 z5 HB5
  go_wp2_with fail
  go_at_call 21
  refine (maySpot_b G2.out _).mono ?_
  rintro e w7 ⟨rfl, hb7⟩
  have HBo := HB6.out
  have hs7 := hb7.size
  try simp at hs7
  have c7_0_0 : w7.cell? ⟨w.heap.size, 0, none⟩ = some (.int .i64 x) := (by rw [hb7.cell (p := ⟨w.heap.size, 0, none⟩) (by first | omega | (simp; done) | (simp; omega))] <;> first | assumption | (simp; done) | (simp [go_sem, *]; done))
  have c7_0_1 : w7.cell? ⟨w.heap.size, 1, none⟩ = some (.int .i64 y) := (by rw [hb7.cell (p := ⟨w.heap.size, 1, none⟩) (by first | omega | (simp; done) | (simp; omega))] <;> first | assumption | (simp; done) | (simp [go_sem, *]; done))
  have c7_0_2 : w7.cell? ⟨w.heap.size, 2, none⟩ = some (.int .i64 z) := (by rw [hb7.cell (p := ⟨w.heap.size, 2, none⟩) (by first | omega | (simp; done) | (simp; omega))] <;> first | assumption | (simp; done) | (simp [go_sem, *]; done))
  have c7_1_0 : w7.cell? ⟨w.heap.size + 1, 0, none⟩ = some (.int .i64 u) := (by rw [hb7.cell (p := ⟨w.heap.size + 1, 0, none⟩) (by first | omega | (simp; done) | (simp; omega))] <;> first | assumption | (simp; done) | (simp [go_sem, *]; done))
  have c7_1_1 : w7.cell? ⟨w.heap.size + 1, 1, none⟩ = some (.int .i64 v) := (by rw [hb7.cell (p := ⟨w.heap.size + 1, 1, none⟩) (by first | omega | (simp; done) | (simp; omega))] <;> first | assumption | (simp; done) | (simp [go_sem, *]; done))
  have c7_1_2 : w7.cell? ⟨w.heap.size + 1, 2, none⟩ = some (.int .i64 t) := (by rw [hb7.cell (p := ⟨w.heap.size + 1, 2, none⟩) (by first | omega | (simp; done) | (simp; omega))] <;> first | assumption | (simp; done) | (simp [go_sem, *]; done))
  have c7_2_0 : w7.cell? ⟨w1.heap.size, 0, none⟩ = some (.int .i64 a) := (by rw [hb7.cell (p := ⟨w1.heap.size, 0, none⟩) (by first | omega | (simp; done) | (simp; omega))] <;> first | assumption | (simp; done) | (simp [go_sem, *]; done))
  have c7_2_1 : w7.cell? ⟨w1.heap.size, 1, none⟩ = some (.int .i64 b) := (by rw [hb7.cell (p := ⟨w1.heap.size, 1, none⟩) (by first | omega | (simp; done) | (simp; omega))] <;> first | assumption | (simp; done) | (simp [go_sem, *]; done))
  have c7_2_2 : w7.cell? ⟨w1.heap.size, 2, none⟩ = some (.int .i64 c) := (by rw [hb7.cell (p := ⟨w1.heap.size, 2, none⟩) (by first | omega | (simp; done) | (simp; omega))] <;> first | assumption | (simp; done) | (simp [go_sem, *]; done))
  have c7_3_0 : w7.cell? ⟨w4.heap.size, 0, none⟩ = some (.int .i64 x) := (by rw [hb7.cell (p := ⟨w4.heap.size, 0, none⟩) (by first | omega | (simp; done) | (simp; omega))] <;> first | assumption | (simp; done) | (simp [go_sem, *]; done))
  have c7_3_1 : w7.cell? ⟨w4.heap.size, 1, none⟩ = some (.int .i64 y) := (by rw [hb7.cell (p := ⟨w4.heap.size, 1, none⟩) (by first | omega | (simp; done) | (simp; omega))] <;> first | assumption | (simp; done) | (simp [go_sem, *]; done))
  have c7_3_2 : w7.cell? ⟨w4.heap.size, 2, none⟩ = some (.int .i64 z) := (by rw [hb7.cell (p := ⟨w4.heap.size, 2, none⟩) (by first | omega | (simp; done) | (simp; omega))] <;> first | assumption | (simp; done) | (simp [go_sem, *]; done))
  have c7_4_0 : w7.cell? ⟨w6.heap.size, 0, none⟩ = some (.int .i64 0) := (by rw [hb7.cell (p := ⟨w6.heap.size, 0, none⟩) (by first | omega | (simp; done) | (simp; omega))] <;> first | assumption | (simp; done) | (simp [go_sem, *]; done))
  have c7_4_1 : w7.cell? ⟨w6.heap.size, 1, none⟩ = some (.int .i64 0) := (by rw [hb7.cell (p := ⟨w6.heap.size, 1, none⟩) (by first | omega | (simp; done) | (simp; omega))] <;> first | assumption | (simp; done) | (simp [go_sem, *]; done))
  have c7_4_2 : w7.cell? ⟨w6.heap.size, 2, none⟩ = some (.int .i64 0) := (by rw [hb7.cell (p := ⟨w6.heap.size, 2, none⟩) (by first | omega | (simp; done) | (simp; omega))] <;> first | assumption | (simp; done) | (simp [go_sem, *]; done))
  have l7_0 : w.heap.size < w7.heap.size := (by omega)
  have n7_0 : w.heap.size ≠ w7.heap.size := (by omega)
  have l7_1 : w.heap.size + 1 < w7.heap.size := (by omega)
  have n7_1 : w.heap.size + 1 ≠ w7.heap.size := (by omega)
  have l7_2 : w1.heap.size < w7.heap.size := (by omega)
  have n7_2 : w1.heap.size ≠ w7.heap.size := (by omega)
  have l7_3 : w4.heap.size < w7.heap.size := (by omega)
  have n7_3 : w4.heap.size ≠ w7.heap.size := (by omega)
  have l7_4 : w6.heap.size < w7.heap.size := (by omega)
  have n7_4 : w6.heap.size ≠ w7.heap.size := (by omega)
  have z7 : w.heap.size ≤ w7.heap.size := (by omega)
  have HB7 := Lib.hid (show Below w.heap.size w w7 by (repeat' (first | exact Below.refl _ _ | (refine Below.setCell ?_ (by (first | omega | (simp; done) | (simp; omega))) _) | (refine Below.alloc ?_ (by (first | omega | (simp; done) | (simp; omega))) _) | (refine Below.drew ?_) | (refine below_drewN ?_ _) | (refine Below.trans ?_ (Below.mono HBo (by (first | omega | (simp; done) | (simp; omega))))) | (refine Below.trans ?_ (Below.mono hb7 (by (first | omega | (simp; done) | (simp; omega))))))))
  clear HBo hb7 hs7 c6_0_0 c6_0_1 c6_0_2 c6_1_0 c6_1_1 c6_1_2 c6_2_0 c6_2_1 c6_2_2 c6_3_0 c6_3_1 c6_3_2 l6_0 n6_0 l6_1 n6_1 l6_2 n6_2 l6_3 n6_3 z6 HB6
  go_wp2_with fail
  go_at_call 23
  refine (works_c _).mono ?_
  rintro e w8 ⟨rfl, hb8⟩
  have HBo := HB7.out
  have hs8 := hb8.size
  try simp at hs8
  have c8_0_0 : w8.cell? ⟨w.heap.size, 0, none⟩ = some (.int .i64 x) := (by rw [hb8.cell (p := ⟨w.heap.size, 0, none⟩) (by first | omega | (simp; done) | (simp; omega))] <;> first | assumption | (simp; done) | (simp [go_sem, *]; done))
  have c8_0_1 : w8.cell? ⟨w.heap.size, 1, none⟩ = some (.int .i64 y) := (by rw [hb8.cell (p := ⟨w.heap.size, 1, none⟩) (by first | omega | (simp; done) | (simp; omega))] <;> first | assumption | (simp; done) | (simp [go_sem, *]; done))
  have c8_0_2 : w8.cell? ⟨w.heap.size, 2, none⟩ = some (.int .i64 z) := (by rw [hb8.cell (p := ⟨w.heap.size, 2, none⟩) (by first | omega | (simp; done) | (simp; omega))] <;> first | assumption | (simp; done) | (simp [go_sem, *]; done))
  have c8_1_0 : w8.cell? ⟨w.heap.size + 1, 0, none⟩ = some (.int .i64 u) := (by rw [hb8.cell (p := ⟨w.heap.size + 1, 0, none⟩) (by first | omega | (simp; done) | (simp; omega))] <;> first | assumption | (simp; done) | (simp [go_sem, *]; done))
  have c8_1_1 : w8.cell? ⟨w.heap.size + 1, 1, none⟩ = some (.int .i64 v) := (by rw [hb8.cell (p := ⟨w.heap.size + 1, 1, none⟩) (by first | omega | (simp; done) | (simp; omega))] <;> first | assumption | (simp; done) | (simp [go_sem, *]; done))
  have c8_1_2 : w8.cell? ⟨w.heap.size + 1, 2, none⟩ = some (.int .i64 t) := (by rw [hb8.cell (p := ⟨w.heap.size + 1, 2, none⟩) (by first | omega | (simp; done) | (simp; omega))] <;> first | assumption | (simp; done) | (simp [go_sem, *]; done))
  have c8_2_0 : w8.cell? ⟨w1.heap.size, 0, none⟩ = some (.int .i64 a) := (by rw [hb8.cell (p := ⟨w1.heap.size, 0, none⟩) (by first | omega | (simp; done) | (simp; omega))] <;> first | assumption | (simp; done) | (simp [go_sem, *]; done))
  have c8_2_1 : w8.cell? ⟨w1.heap.size, 1, none⟩ = some (.int .i64 b) := (by rw [hb8.cell (p := ⟨w1.heap.size, 1, none⟩) (by first | omega | (simp; done) | (simp; omega))] <;> first | assumption | (simp; done) | (simp [go_sem, *]; done))
  have c8_2_2 : w8.cell? ⟨w1.heap.size, 2, none⟩ = some (.int .i64 c) := (by rw [hb8.cell (p := ⟨w1.heap.size, 2, none⟩) (by first | omega | (simp; done) | (simp; omega))] <;> first | assumption | (simp; done) | (simp [go_sem, *]; done))
  have c8_3_0 : w8.cell? ⟨w4.heap.size, 0, none⟩ = some (.int .i64 x) := (by rw [hb8.cell (p := ⟨w4.heap.size, 0, none⟩) (by first | omega | (simp; done) | (simp; omega))] <;> first | assumption | (simp; done) | (simp [go_sem, *]; done))
  have c8_3_1 : w8.cell? ⟨w4.heap.size, 1, none⟩ = some (.int .i64 y) := (by rw [hb8.cell (p := ⟨w4.heap.size, 1, none⟩) (by first | omega | (simp; done) | (simp; omega))] <;> first | assumption | (simp; done) | (simp [go_sem, *]; done))
  have c8_3_2 : w8.cell? ⟨w4.heap.size, 2, none⟩ = some (.int .i64 z) := (by rw [hb8.cell (p := ⟨w4.heap.size, 2, none⟩) (by first | omega | (simp; done) | (simp; omega))] <;> first | assumption | (simp; done) | (simp [go_sem, *]; done))
  have c8_4_0 : w8.cell? ⟨w6.heap.size, 0, none⟩ = some (.int .i64 0) := (by rw [hb8.cell (p := ⟨w6.heap.size, 0, none⟩) (by first | omega | (simp; done) | (simp; omega))] <;> first | assumption | (simp; done) | (simp [go_sem, *]; done))
  have c8_4_1 : w8.cell? ⟨w6.heap.size, 1, none⟩ = some (.int .i64 0) := (by rw [hb8.cell (p := ⟨w6.heap.size, 1, none⟩) (by first | omega | (simp; done) | (simp; omega))] <;> first | assumption | (simp; done) | (simp [go_sem, *]; done))
  have c8_4_2 : w8.cell? ⟨w6.heap.size, 2, none⟩ = some (.int .i64 0) := (by rw [hb8.cell (p := ⟨w6.heap.size, 2, none⟩) (by first | omega | (simp; done) | (simp; omega))] <;> first | assumption | (simp; done) | (simp [go_sem, *]; done))
  have l8_0 : w.heap.size < w8.heap.size := (by omega)
  have n8_0 : w.heap.size ≠ w8.heap.size := (by omega)
  have l8_1 : w.heap.size + 1 < w8.heap.size := (by omega)
  have n8_1 : w.heap.size + 1 ≠ w8.heap.size := (by omega)
  have l8_2 : w1.heap.size < w8.heap.size := (by omega)
  have n8_2 : w1.heap.size ≠ w8.heap.size := (by omega)
  have l8_3 : w4.heap.size < w8.heap.size := (by omega)
  have n8_3 : w4.heap.size ≠ w8.heap.size := (by omega)
  have l8_4 : w6.heap.size < w8.heap.size := (by omega)
  have n8_4 : w6.heap.size ≠ w8.heap.size := (by omega)
  have z8 : w.heap.size ≤ w8.heap.size := (by omega)
  have HB8 := Lib.hid (show Below w.heap.size w w8 by (repeat' (first | exact Below.refl _ _ | (refine Below.setCell ?_ (by (first | omega | (simp; done) | (simp; omega))) _) | (refine Below.alloc ?_ (by (first | omega | (simp; done) | (simp; omega))) _) | (refine Below.drew ?_) | (refine below_drewN ?_ _) | (refine Below.trans ?_ (Below.mono HBo (by (first | omega | (simp; done) | (simp; omega))))) | (refine Below.trans ?_ (Below.mono hb8 (by (first | omega | (simp; done) | (simp; omega))))))))
  clear HBo hb8 hs8 c7_0_0 c7_0_1 c7_0_2 c7_1_0 c7_1_1 c7_1_2 c7_2_0 c7_2_1 c7_2_2 c7_3_0 c7_3_1 c7_3_2 c7_4_0 c7_4_1 c7_4_2 l7_0 n7_0 l7_1 n7_1 l7_2 n7_2 l7_3 n7_3 l7_4 n7_4 z7 HB7
  go_wp2_with fail
  go_ret
  have HBo := HB8.out
  refine ⟨rfl, ?_⟩
  (repeat' (first | exact Below.refl _ _ | (refine Below.setCell ?_ (by (first | omega | (simp; done) | (simp; omega))) _) | (refine Below.alloc ?_ (by (first | omega | (simp; done) | (simp; omega))) _) | (refine Below.drew ?_) | (refine below_drewN ?_ _) | (refine Below.trans ?_ (Below.mono HBo (by (first | omega | (simp; done) | (simp; omega)))))))

set_option maxRecDepth 100000 in
set_option maxHeartbeats 2000000 in
theorem law_back_tg {x y z u v t i a b c n : Int} (h1 : spotOf x y z = (a, b, c, true)) (h2 : indexOf x y z = (n, true)) (h3 : ofOf a b c n = (x, y, z, true)) (h4 : spotB a b c = true) (n0 : 0 ≤ n) (n1 : n < 4096) (hm : mayB x y z = true) (g1 : ofOf u v t i = (0, 0, 0, false)) (g2 : spotB u v t = true) (i0 : 0 ≤ i) (i1 : 4096 ≤ i) (w : World) :
    Calls Try.prog 7 #[.agg #[.int .i64 x, .int .i64 y, .int .i64 z], .agg #[.int .i64 u, .int .i64 v, .int .i64 t], .int .i64 i] w fun e w' => e = .returned (.bool true) ∧ Below w.heap.size w w' := by
  have H1 := Lib.hid h1
  have H2 := Lib.hid h2
  have HM := Lib.hid hm
  have G1 := Lib.hid g1
  have G2 := Lib.hid g2
  have H3 := Lib.hid h3
  have H4 := Lib.hid h4
  clear h1 h2 hm g1 g2 h3 h4
  go_enter Try.func7, Try.ntmps7
  go_wp2_with fail
  go_at_call 13
  refine (spot_c H1.out _).mono ?_
  rintro e w1 ⟨rfl, hb1⟩
  have hs1 := hb1.size
  try simp at hs1
  have c1_0_0 : w1.cell? ⟨w.heap.size, 0, none⟩ = some (.int .i64 x) := (by rw [hb1.cell (p := ⟨w.heap.size, 0, none⟩) (by first | omega | (simp; done) | (simp; omega))] <;> first | assumption | (simp; done) | (simp [go_sem, *]; done))
  have c1_0_1 : w1.cell? ⟨w.heap.size, 1, none⟩ = some (.int .i64 y) := (by rw [hb1.cell (p := ⟨w.heap.size, 1, none⟩) (by first | omega | (simp; done) | (simp; omega))] <;> first | assumption | (simp; done) | (simp [go_sem, *]; done))
  have c1_0_2 : w1.cell? ⟨w.heap.size, 2, none⟩ = some (.int .i64 z) := (by rw [hb1.cell (p := ⟨w.heap.size, 2, none⟩) (by first | omega | (simp; done) | (simp; omega))] <;> first | assumption | (simp; done) | (simp [go_sem, *]; done))
  have c1_1_0 : w1.cell? ⟨w.heap.size + 1, 0, none⟩ = some (.int .i64 u) := (by rw [hb1.cell (p := ⟨w.heap.size + 1, 0, none⟩) (by first | omega | (simp; done) | (simp; omega))] <;> first | assumption | (simp; done) | (simp [go_sem, *]; done))
  have c1_1_1 : w1.cell? ⟨w.heap.size + 1, 1, none⟩ = some (.int .i64 v) := (by rw [hb1.cell (p := ⟨w.heap.size + 1, 1, none⟩) (by first | omega | (simp; done) | (simp; omega))] <;> first | assumption | (simp; done) | (simp [go_sem, *]; done))
  have c1_1_2 : w1.cell? ⟨w.heap.size + 1, 2, none⟩ = some (.int .i64 t) := (by rw [hb1.cell (p := ⟨w.heap.size + 1, 2, none⟩) (by first | omega | (simp; done) | (simp; omega))] <;> first | assumption | (simp; done) | (simp [go_sem, *]; done))
  have l1_0 : w.heap.size < w1.heap.size := (by omega)
  have n1_0 : w.heap.size ≠ w1.heap.size := (by omega)
  have l1_1 : w.heap.size + 1 < w1.heap.size := (by omega)
  have n1_1 : w.heap.size + 1 ≠ w1.heap.size := (by omega)
  have z1 : w.heap.size ≤ w1.heap.size := (by omega)
  have HB1 := Lib.hid (show Below w.heap.size w w1 by (repeat' (first | exact Below.refl _ _ | (refine Below.setCell ?_ (by (first | omega | (simp; done) | (simp; omega))) _) | (refine Below.alloc ?_ (by (first | omega | (simp; done) | (simp; omega))) _) | (refine Below.drew ?_) | (refine below_drewN ?_ _) | (refine Below.trans ?_ (Below.mono hb1 (by (first | omega | (simp; done) | (simp; omega))))))))
  clear hb1 hs1
  go_wp2_with fail
  go_at_call 15
  refine (index_c H2.out _).mono ?_
  rintro e w2 ⟨rfl, hb2⟩
  have HBo := HB1.out
  have hs2 := hb2.size
  try simp at hs2
  have c2_0_0 : w2.cell? ⟨w.heap.size, 0, none⟩ = some (.int .i64 x) := (by rw [hb2.cell (p := ⟨w.heap.size, 0, none⟩) (by first | omega | (simp; done) | (simp; omega))] <;> first | assumption | (simp; done) | (simp [go_sem, *]; done))
  have c2_0_1 : w2.cell? ⟨w.heap.size, 1, none⟩ = some (.int .i64 y) := (by rw [hb2.cell (p := ⟨w.heap.size, 1, none⟩) (by first | omega | (simp; done) | (simp; omega))] <;> first | assumption | (simp; done) | (simp [go_sem, *]; done))
  have c2_0_2 : w2.cell? ⟨w.heap.size, 2, none⟩ = some (.int .i64 z) := (by rw [hb2.cell (p := ⟨w.heap.size, 2, none⟩) (by first | omega | (simp; done) | (simp; omega))] <;> first | assumption | (simp; done) | (simp [go_sem, *]; done))
  have c2_1_0 : w2.cell? ⟨w.heap.size + 1, 0, none⟩ = some (.int .i64 u) := (by rw [hb2.cell (p := ⟨w.heap.size + 1, 0, none⟩) (by first | omega | (simp; done) | (simp; omega))] <;> first | assumption | (simp; done) | (simp [go_sem, *]; done))
  have c2_1_1 : w2.cell? ⟨w.heap.size + 1, 1, none⟩ = some (.int .i64 v) := (by rw [hb2.cell (p := ⟨w.heap.size + 1, 1, none⟩) (by first | omega | (simp; done) | (simp; omega))] <;> first | assumption | (simp; done) | (simp [go_sem, *]; done))
  have c2_1_2 : w2.cell? ⟨w.heap.size + 1, 2, none⟩ = some (.int .i64 t) := (by rw [hb2.cell (p := ⟨w.heap.size + 1, 2, none⟩) (by first | omega | (simp; done) | (simp; omega))] <;> first | assumption | (simp; done) | (simp [go_sem, *]; done))
  have c2_2_0 : w2.cell? ⟨w1.heap.size, 0, none⟩ = some (.int .i64 a) := (by rw [hb2.cell (p := ⟨w1.heap.size, 0, none⟩) (by first | omega | (simp; done) | (simp; omega))] <;> first | assumption | (simp; done) | (simp [go_sem, *]; done))
  have c2_2_1 : w2.cell? ⟨w1.heap.size, 1, none⟩ = some (.int .i64 b) := (by rw [hb2.cell (p := ⟨w1.heap.size, 1, none⟩) (by first | omega | (simp; done) | (simp; omega))] <;> first | assumption | (simp; done) | (simp [go_sem, *]; done))
  have c2_2_2 : w2.cell? ⟨w1.heap.size, 2, none⟩ = some (.int .i64 c) := (by rw [hb2.cell (p := ⟨w1.heap.size, 2, none⟩) (by first | omega | (simp; done) | (simp; omega))] <;> first | assumption | (simp; done) | (simp [go_sem, *]; done))
  have l2_0 : w.heap.size < w2.heap.size := (by omega)
  have n2_0 : w.heap.size ≠ w2.heap.size := (by omega)
  have l2_1 : w.heap.size + 1 < w2.heap.size := (by omega)
  have n2_1 : w.heap.size + 1 ≠ w2.heap.size := (by omega)
  have l2_2 : w1.heap.size < w2.heap.size := (by omega)
  have n2_2 : w1.heap.size ≠ w2.heap.size := (by omega)
  have z2 : w.heap.size ≤ w2.heap.size := (by omega)
  have HB2 := Lib.hid (show Below w.heap.size w w2 by (repeat' (first | exact Below.refl _ _ | (refine Below.setCell ?_ (by (first | omega | (simp; done) | (simp; omega))) _) | (refine Below.alloc ?_ (by (first | omega | (simp; done) | (simp; omega))) _) | (refine Below.drew ?_) | (refine below_drewN ?_ _) | (refine Below.trans ?_ (Below.mono HBo (by (first | omega | (simp; done) | (simp; omega))))) | (refine Below.trans ?_ (Below.mono hb2 (by (first | omega | (simp; done) | (simp; omega))))))))
  clear HBo hb2 hs2 c1_0_0 c1_0_1 c1_0_2 c1_1_0 c1_1_1 c1_1_2 l1_0 n1_0 l1_1 n1_1 z1 HB1
  go_wp2_with fail
  go_at_call 19
  refine (may_b HM.out _).mono ?_
  rintro e w3 ⟨rfl, hb3⟩
  have HBo := HB2.out
  have hs3 := hb3.size
  try simp at hs3
  have c3_0_0 : w3.cell? ⟨w.heap.size, 0, none⟩ = some (.int .i64 x) := (by rw [hb3.cell (p := ⟨w.heap.size, 0, none⟩) (by first | omega | (simp; done) | (simp; omega))] <;> first | assumption | (simp; done) | (simp [go_sem, *]; done))
  have c3_0_1 : w3.cell? ⟨w.heap.size, 1, none⟩ = some (.int .i64 y) := (by rw [hb3.cell (p := ⟨w.heap.size, 1, none⟩) (by first | omega | (simp; done) | (simp; omega))] <;> first | assumption | (simp; done) | (simp [go_sem, *]; done))
  have c3_0_2 : w3.cell? ⟨w.heap.size, 2, none⟩ = some (.int .i64 z) := (by rw [hb3.cell (p := ⟨w.heap.size, 2, none⟩) (by first | omega | (simp; done) | (simp; omega))] <;> first | assumption | (simp; done) | (simp [go_sem, *]; done))
  have c3_1_0 : w3.cell? ⟨w.heap.size + 1, 0, none⟩ = some (.int .i64 u) := (by rw [hb3.cell (p := ⟨w.heap.size + 1, 0, none⟩) (by first | omega | (simp; done) | (simp; omega))] <;> first | assumption | (simp; done) | (simp [go_sem, *]; done))
  have c3_1_1 : w3.cell? ⟨w.heap.size + 1, 1, none⟩ = some (.int .i64 v) := (by rw [hb3.cell (p := ⟨w.heap.size + 1, 1, none⟩) (by first | omega | (simp; done) | (simp; omega))] <;> first | assumption | (simp; done) | (simp [go_sem, *]; done))
  have c3_1_2 : w3.cell? ⟨w.heap.size + 1, 2, none⟩ = some (.int .i64 t) := (by rw [hb3.cell (p := ⟨w.heap.size + 1, 2, none⟩) (by first | omega | (simp; done) | (simp; omega))] <;> first | assumption | (simp; done) | (simp [go_sem, *]; done))
  have c3_2_0 : w3.cell? ⟨w1.heap.size, 0, none⟩ = some (.int .i64 a) := (by rw [hb3.cell (p := ⟨w1.heap.size, 0, none⟩) (by first | omega | (simp; done) | (simp; omega))] <;> first | assumption | (simp; done) | (simp [go_sem, *]; done))
  have c3_2_1 : w3.cell? ⟨w1.heap.size, 1, none⟩ = some (.int .i64 b) := (by rw [hb3.cell (p := ⟨w1.heap.size, 1, none⟩) (by first | omega | (simp; done) | (simp; omega))] <;> first | assumption | (simp; done) | (simp [go_sem, *]; done))
  have c3_2_2 : w3.cell? ⟨w1.heap.size, 2, none⟩ = some (.int .i64 c) := (by rw [hb3.cell (p := ⟨w1.heap.size, 2, none⟩) (by first | omega | (simp; done) | (simp; omega))] <;> first | assumption | (simp; done) | (simp [go_sem, *]; done))
  have l3_0 : w.heap.size < w3.heap.size := (by omega)
  have n3_0 : w.heap.size ≠ w3.heap.size := (by omega)
  have l3_1 : w.heap.size + 1 < w3.heap.size := (by omega)
  have n3_1 : w.heap.size + 1 ≠ w3.heap.size := (by omega)
  have l3_2 : w1.heap.size < w3.heap.size := (by omega)
  have n3_2 : w1.heap.size ≠ w3.heap.size := (by omega)
  have z3 : w.heap.size ≤ w3.heap.size := (by omega)
  have HB3 := Lib.hid (show Below w.heap.size w w3 by (repeat' (first | exact Below.refl _ _ | (refine Below.setCell ?_ (by (first | omega | (simp; done) | (simp; omega))) _) | (refine Below.alloc ?_ (by (first | omega | (simp; done) | (simp; omega))) _) | (refine Below.drew ?_) | (refine below_drewN ?_ _) | (refine Below.trans ?_ (Below.mono HBo (by (first | omega | (simp; done) | (simp; omega))))) | (refine Below.trans ?_ (Below.mono hb3 (by (first | omega | (simp; done) | (simp; omega))))))))
  clear HBo hb3 hs3 c2_0_0 c2_0_1 c2_0_2 c2_1_0 c2_1_1 c2_1_2 c2_2_0 c2_2_1 c2_2_2 l2_0 n2_0 l2_1 n2_1 l2_2 n2_2 z2 HB2
  go_wp2_with fail
  go_at_call 17
  refine (of_c H3.out _).mono ?_
  rintro e w4 ⟨rfl, hb4⟩
  have HBo := HB3.out
  have hs4 := hb4.size
  try simp at hs4
  have c4_0_0 : w4.cell? ⟨w.heap.size, 0, none⟩ = some (.int .i64 x) := (by rw [hb4.cell (p := ⟨w.heap.size, 0, none⟩) (by first | omega | (simp; done) | (simp; omega))] <;> first | assumption | (simp; done) | (simp [go_sem, *]; done))
  have c4_0_1 : w4.cell? ⟨w.heap.size, 1, none⟩ = some (.int .i64 y) := (by rw [hb4.cell (p := ⟨w.heap.size, 1, none⟩) (by first | omega | (simp; done) | (simp; omega))] <;> first | assumption | (simp; done) | (simp [go_sem, *]; done))
  have c4_0_2 : w4.cell? ⟨w.heap.size, 2, none⟩ = some (.int .i64 z) := (by rw [hb4.cell (p := ⟨w.heap.size, 2, none⟩) (by first | omega | (simp; done) | (simp; omega))] <;> first | assumption | (simp; done) | (simp [go_sem, *]; done))
  have c4_1_0 : w4.cell? ⟨w.heap.size + 1, 0, none⟩ = some (.int .i64 u) := (by rw [hb4.cell (p := ⟨w.heap.size + 1, 0, none⟩) (by first | omega | (simp; done) | (simp; omega))] <;> first | assumption | (simp; done) | (simp [go_sem, *]; done))
  have c4_1_1 : w4.cell? ⟨w.heap.size + 1, 1, none⟩ = some (.int .i64 v) := (by rw [hb4.cell (p := ⟨w.heap.size + 1, 1, none⟩) (by first | omega | (simp; done) | (simp; omega))] <;> first | assumption | (simp; done) | (simp [go_sem, *]; done))
  have c4_1_2 : w4.cell? ⟨w.heap.size + 1, 2, none⟩ = some (.int .i64 t) := (by rw [hb4.cell (p := ⟨w.heap.size + 1, 2, none⟩) (by first | omega | (simp; done) | (simp; omega))] <;> first | assumption | (simp; done) | (simp [go_sem, *]; done))
  have c4_2_0 : w4.cell? ⟨w1.heap.size, 0, none⟩ = some (.int .i64 a) := (by rw [hb4.cell (p := ⟨w1.heap.size, 0, none⟩) (by first | omega | (simp; done) | (simp; omega))] <;> first | assumption | (simp; done) | (simp [go_sem, *]; done))
  have c4_2_1 : w4.cell? ⟨w1.heap.size, 1, none⟩ = some (.int .i64 b) := (by rw [hb4.cell (p := ⟨w1.heap.size, 1, none⟩) (by first | omega | (simp; done) | (simp; omega))] <;> first | assumption | (simp; done) | (simp [go_sem, *]; done))
  have c4_2_2 : w4.cell? ⟨w1.heap.size, 2, none⟩ = some (.int .i64 c) := (by rw [hb4.cell (p := ⟨w1.heap.size, 2, none⟩) (by first | omega | (simp; done) | (simp; omega))] <;> first | assumption | (simp; done) | (simp [go_sem, *]; done))
  have l4_0 : w.heap.size < w4.heap.size := (by omega)
  have n4_0 : w.heap.size ≠ w4.heap.size := (by omega)
  have l4_1 : w.heap.size + 1 < w4.heap.size := (by omega)
  have n4_1 : w.heap.size + 1 ≠ w4.heap.size := (by omega)
  have l4_2 : w1.heap.size < w4.heap.size := (by omega)
  have n4_2 : w1.heap.size ≠ w4.heap.size := (by omega)
  have z4 : w.heap.size ≤ w4.heap.size := (by omega)
  have HB4 := Lib.hid (show Below w.heap.size w w4 by (repeat' (first | exact Below.refl _ _ | (refine Below.setCell ?_ (by (first | omega | (simp; done) | (simp; omega))) _) | (refine Below.alloc ?_ (by (first | omega | (simp; done) | (simp; omega))) _) | (refine Below.drew ?_) | (refine below_drewN ?_ _) | (refine Below.trans ?_ (Below.mono HBo (by (first | omega | (simp; done) | (simp; omega))))) | (refine Below.trans ?_ (Below.mono hb4 (by (first | omega | (simp; done) | (simp; omega))))))))
  clear HBo hb4 hs4 c3_0_0 c3_0_1 c3_0_2 c3_1_0 c3_1_1 c3_1_2 c3_2_0 c3_2_1 c3_2_2 l3_0 n3_0 l3_1 n3_1 l3_2 n3_2 z3 HB3
  go_wp2_with fail
  go_at_call 21
  refine (maySpot_b H4.out _).mono ?_
  rintro e w5 ⟨rfl, hb5⟩
  have HBo := HB4.out
  have hs5 := hb5.size
  try simp at hs5
  have c5_0_0 : w5.cell? ⟨w.heap.size, 0, none⟩ = some (.int .i64 x) := (by rw [hb5.cell (p := ⟨w.heap.size, 0, none⟩) (by first | omega | (simp; done) | (simp; omega))] <;> first | assumption | (simp; done) | (simp [go_sem, *]; done))
  have c5_0_1 : w5.cell? ⟨w.heap.size, 1, none⟩ = some (.int .i64 y) := (by rw [hb5.cell (p := ⟨w.heap.size, 1, none⟩) (by first | omega | (simp; done) | (simp; omega))] <;> first | assumption | (simp; done) | (simp [go_sem, *]; done))
  have c5_0_2 : w5.cell? ⟨w.heap.size, 2, none⟩ = some (.int .i64 z) := (by rw [hb5.cell (p := ⟨w.heap.size, 2, none⟩) (by first | omega | (simp; done) | (simp; omega))] <;> first | assumption | (simp; done) | (simp [go_sem, *]; done))
  have c5_1_0 : w5.cell? ⟨w.heap.size + 1, 0, none⟩ = some (.int .i64 u) := (by rw [hb5.cell (p := ⟨w.heap.size + 1, 0, none⟩) (by first | omega | (simp; done) | (simp; omega))] <;> first | assumption | (simp; done) | (simp [go_sem, *]; done))
  have c5_1_1 : w5.cell? ⟨w.heap.size + 1, 1, none⟩ = some (.int .i64 v) := (by rw [hb5.cell (p := ⟨w.heap.size + 1, 1, none⟩) (by first | omega | (simp; done) | (simp; omega))] <;> first | assumption | (simp; done) | (simp [go_sem, *]; done))
  have c5_1_2 : w5.cell? ⟨w.heap.size + 1, 2, none⟩ = some (.int .i64 t) := (by rw [hb5.cell (p := ⟨w.heap.size + 1, 2, none⟩) (by first | omega | (simp; done) | (simp; omega))] <;> first | assumption | (simp; done) | (simp [go_sem, *]; done))
  have c5_2_0 : w5.cell? ⟨w1.heap.size, 0, none⟩ = some (.int .i64 a) := (by rw [hb5.cell (p := ⟨w1.heap.size, 0, none⟩) (by first | omega | (simp; done) | (simp; omega))] <;> first | assumption | (simp; done) | (simp [go_sem, *]; done))
  have c5_2_1 : w5.cell? ⟨w1.heap.size, 1, none⟩ = some (.int .i64 b) := (by rw [hb5.cell (p := ⟨w1.heap.size, 1, none⟩) (by first | omega | (simp; done) | (simp; omega))] <;> first | assumption | (simp; done) | (simp [go_sem, *]; done))
  have c5_2_2 : w5.cell? ⟨w1.heap.size, 2, none⟩ = some (.int .i64 c) := (by rw [hb5.cell (p := ⟨w1.heap.size, 2, none⟩) (by first | omega | (simp; done) | (simp; omega))] <;> first | assumption | (simp; done) | (simp [go_sem, *]; done))
  have c5_3_0 : w5.cell? ⟨w4.heap.size, 0, none⟩ = some (.int .i64 x) := (by rw [hb5.cell (p := ⟨w4.heap.size, 0, none⟩) (by first | omega | (simp; done) | (simp; omega))] <;> first | assumption | (simp; done) | (simp [go_sem, *]; done))
  have c5_3_1 : w5.cell? ⟨w4.heap.size, 1, none⟩ = some (.int .i64 y) := (by rw [hb5.cell (p := ⟨w4.heap.size, 1, none⟩) (by first | omega | (simp; done) | (simp; omega))] <;> first | assumption | (simp; done) | (simp [go_sem, *]; done))
  have c5_3_2 : w5.cell? ⟨w4.heap.size, 2, none⟩ = some (.int .i64 z) := (by rw [hb5.cell (p := ⟨w4.heap.size, 2, none⟩) (by first | omega | (simp; done) | (simp; omega))] <;> first | assumption | (simp; done) | (simp [go_sem, *]; done))
  have l5_0 : w.heap.size < w5.heap.size := (by omega)
  have n5_0 : w.heap.size ≠ w5.heap.size := (by omega)
  have l5_1 : w.heap.size + 1 < w5.heap.size := (by omega)
  have n5_1 : w.heap.size + 1 ≠ w5.heap.size := (by omega)
  have l5_2 : w1.heap.size < w5.heap.size := (by omega)
  have n5_2 : w1.heap.size ≠ w5.heap.size := (by omega)
  have l5_3 : w4.heap.size < w5.heap.size := (by omega)
  have n5_3 : w4.heap.size ≠ w5.heap.size := (by omega)
  have z5 : w.heap.size ≤ w5.heap.size := (by omega)
  have HB5 := Lib.hid (show Below w.heap.size w w5 by (repeat' (first | exact Below.refl _ _ | (refine Below.setCell ?_ (by (first | omega | (simp; done) | (simp; omega))) _) | (refine Below.alloc ?_ (by (first | omega | (simp; done) | (simp; omega))) _) | (refine Below.drew ?_) | (refine below_drewN ?_ _) | (refine Below.trans ?_ (Below.mono HBo (by (first | omega | (simp; done) | (simp; omega))))) | (refine Below.trans ?_ (Below.mono hb5 (by (first | omega | (simp; done) | (simp; omega))))))))
  clear HBo hb5 hs5 c4_0_0 c4_0_1 c4_0_2 c4_1_0 c4_1_1 c4_1_2 c4_2_0 c4_2_1 c4_2_2 l4_0 n4_0 l4_1 n4_1 l4_2 n4_2 z4 HB4
  go_wp2_with fail
  go_at_call 17
  refine (of_c G1.out _).mono ?_
  rintro e w6 ⟨rfl, hb6⟩
  have HBo := HB5.out
  have hs6 := hb6.size
  try simp at hs6
  have c6_0_0 : w6.cell? ⟨w.heap.size, 0, none⟩ = some (.int .i64 x) := (by rw [hb6.cell (p := ⟨w.heap.size, 0, none⟩) (by first | omega | (simp; done) | (simp; omega))] <;> first | assumption | (simp; done) | (simp [go_sem, *]; done))
  have c6_0_1 : w6.cell? ⟨w.heap.size, 1, none⟩ = some (.int .i64 y) := (by rw [hb6.cell (p := ⟨w.heap.size, 1, none⟩) (by first | omega | (simp; done) | (simp; omega))] <;> first | assumption | (simp; done) | (simp [go_sem, *]; done))
  have c6_0_2 : w6.cell? ⟨w.heap.size, 2, none⟩ = some (.int .i64 z) := (by rw [hb6.cell (p := ⟨w.heap.size, 2, none⟩) (by first | omega | (simp; done) | (simp; omega))] <;> first | assumption | (simp; done) | (simp [go_sem, *]; done))
  have c6_1_0 : w6.cell? ⟨w.heap.size + 1, 0, none⟩ = some (.int .i64 u) := (by rw [hb6.cell (p := ⟨w.heap.size + 1, 0, none⟩) (by first | omega | (simp; done) | (simp; omega))] <;> first | assumption | (simp; done) | (simp [go_sem, *]; done))
  have c6_1_1 : w6.cell? ⟨w.heap.size + 1, 1, none⟩ = some (.int .i64 v) := (by rw [hb6.cell (p := ⟨w.heap.size + 1, 1, none⟩) (by first | omega | (simp; done) | (simp; omega))] <;> first | assumption | (simp; done) | (simp [go_sem, *]; done))
  have c6_1_2 : w6.cell? ⟨w.heap.size + 1, 2, none⟩ = some (.int .i64 t) := (by rw [hb6.cell (p := ⟨w.heap.size + 1, 2, none⟩) (by first | omega | (simp; done) | (simp; omega))] <;> first | assumption | (simp; done) | (simp [go_sem, *]; done))
  have c6_2_0 : w6.cell? ⟨w1.heap.size, 0, none⟩ = some (.int .i64 a) := (by rw [hb6.cell (p := ⟨w1.heap.size, 0, none⟩) (by first | omega | (simp; done) | (simp; omega))] <;> first | assumption | (simp; done) | (simp [go_sem, *]; done))
  have c6_2_1 : w6.cell? ⟨w1.heap.size, 1, none⟩ = some (.int .i64 b) := (by rw [hb6.cell (p := ⟨w1.heap.size, 1, none⟩) (by first | omega | (simp; done) | (simp; omega))] <;> first | assumption | (simp; done) | (simp [go_sem, *]; done))
  have c6_2_2 : w6.cell? ⟨w1.heap.size, 2, none⟩ = some (.int .i64 c) := (by rw [hb6.cell (p := ⟨w1.heap.size, 2, none⟩) (by first | omega | (simp; done) | (simp; omega))] <;> first | assumption | (simp; done) | (simp [go_sem, *]; done))
  have c6_3_0 : w6.cell? ⟨w4.heap.size, 0, none⟩ = some (.int .i64 x) := (by rw [hb6.cell (p := ⟨w4.heap.size, 0, none⟩) (by first | omega | (simp; done) | (simp; omega))] <;> first | assumption | (simp; done) | (simp [go_sem, *]; done))
  have c6_3_1 : w6.cell? ⟨w4.heap.size, 1, none⟩ = some (.int .i64 y) := (by rw [hb6.cell (p := ⟨w4.heap.size, 1, none⟩) (by first | omega | (simp; done) | (simp; omega))] <;> first | assumption | (simp; done) | (simp [go_sem, *]; done))
  have c6_3_2 : w6.cell? ⟨w4.heap.size, 2, none⟩ = some (.int .i64 z) := (by rw [hb6.cell (p := ⟨w4.heap.size, 2, none⟩) (by first | omega | (simp; done) | (simp; omega))] <;> first | assumption | (simp; done) | (simp [go_sem, *]; done))
  have l6_0 : w.heap.size < w6.heap.size := (by omega)
  have n6_0 : w.heap.size ≠ w6.heap.size := (by omega)
  have l6_1 : w.heap.size + 1 < w6.heap.size := (by omega)
  have n6_1 : w.heap.size + 1 ≠ w6.heap.size := (by omega)
  have l6_2 : w1.heap.size < w6.heap.size := (by omega)
  have n6_2 : w1.heap.size ≠ w6.heap.size := (by omega)
  have l6_3 : w4.heap.size < w6.heap.size := (by omega)
  have n6_3 : w4.heap.size ≠ w6.heap.size := (by omega)
  have z6 : w.heap.size ≤ w6.heap.size := (by omega)
  have HB6 := Lib.hid (show Below w.heap.size w w6 by (repeat' (first | exact Below.refl _ _ | (refine Below.setCell ?_ (by (first | omega | (simp; done) | (simp; omega))) _) | (refine Below.alloc ?_ (by (first | omega | (simp; done) | (simp; omega))) _) | (refine Below.drew ?_) | (refine below_drewN ?_ _) | (refine Below.trans ?_ (Below.mono HBo (by (first | omega | (simp; done) | (simp; omega))))) | (refine Below.trans ?_ (Below.mono hb6 (by (first | omega | (simp; done) | (simp; omega))))))))
  clear HBo hb6 hs6 c5_0_0 c5_0_1 c5_0_2 c5_1_0 c5_1_1 c5_1_2 c5_2_0 c5_2_1 c5_2_2 c5_3_0 c5_3_1 c5_3_2 l5_0 n5_0 l5_1 n5_1 l5_2 n5_2 l5_3 n5_3 z5 HB5
  go_wp2_with fail
  go_at_call 21
  refine (maySpot_b G2.out _).mono ?_
  rintro e w7 ⟨rfl, hb7⟩
  have HBo := HB6.out
  have hs7 := hb7.size
  try simp at hs7
  have c7_0_0 : w7.cell? ⟨w.heap.size, 0, none⟩ = some (.int .i64 x) := (by rw [hb7.cell (p := ⟨w.heap.size, 0, none⟩) (by first | omega | (simp; done) | (simp; omega))] <;> first | assumption | (simp; done) | (simp [go_sem, *]; done))
  have c7_0_1 : w7.cell? ⟨w.heap.size, 1, none⟩ = some (.int .i64 y) := (by rw [hb7.cell (p := ⟨w.heap.size, 1, none⟩) (by first | omega | (simp; done) | (simp; omega))] <;> first | assumption | (simp; done) | (simp [go_sem, *]; done))
  have c7_0_2 : w7.cell? ⟨w.heap.size, 2, none⟩ = some (.int .i64 z) := (by rw [hb7.cell (p := ⟨w.heap.size, 2, none⟩) (by first | omega | (simp; done) | (simp; omega))] <;> first | assumption | (simp; done) | (simp [go_sem, *]; done))
  have c7_1_0 : w7.cell? ⟨w.heap.size + 1, 0, none⟩ = some (.int .i64 u) := (by rw [hb7.cell (p := ⟨w.heap.size + 1, 0, none⟩) (by first | omega | (simp; done) | (simp; omega))] <;> first | assumption | (simp; done) | (simp [go_sem, *]; done))
  have c7_1_1 : w7.cell? ⟨w.heap.size + 1, 1, none⟩ = some (.int .i64 v) := (by rw [hb7.cell (p := ⟨w.heap.size + 1, 1, none⟩) (by first | omega | (simp; done) | (simp; omega))] <;> first | assumption | (simp; done) | (simp [go_sem, *]; done))
  have c7_1_2 : w7.cell? ⟨w.heap.size + 1, 2, none⟩ = some (.int .i64 t) := (by rw [hb7.cell (p := ⟨w.heap.size + 1, 2, none⟩) (by first | omega | (simp; done) | (simp; omega))] <;> first | assumption | (simp; done) | (simp [go_sem, *]; done))
  have c7_2_0 : w7.cell? ⟨w1.heap.size, 0, none⟩ = some (.int .i64 a) := (by rw [hb7.cell (p := ⟨w1.heap.size, 0, none⟩) (by first | omega | (simp; done) | (simp; omega))] <;> first | assumption | (simp; done) | (simp [go_sem, *]; done))
  have c7_2_1 : w7.cell? ⟨w1.heap.size, 1, none⟩ = some (.int .i64 b) := (by rw [hb7.cell (p := ⟨w1.heap.size, 1, none⟩) (by first | omega | (simp; done) | (simp; omega))] <;> first | assumption | (simp; done) | (simp [go_sem, *]; done))
  have c7_2_2 : w7.cell? ⟨w1.heap.size, 2, none⟩ = some (.int .i64 c) := (by rw [hb7.cell (p := ⟨w1.heap.size, 2, none⟩) (by first | omega | (simp; done) | (simp; omega))] <;> first | assumption | (simp; done) | (simp [go_sem, *]; done))
  have c7_3_0 : w7.cell? ⟨w4.heap.size, 0, none⟩ = some (.int .i64 x) := (by rw [hb7.cell (p := ⟨w4.heap.size, 0, none⟩) (by first | omega | (simp; done) | (simp; omega))] <;> first | assumption | (simp; done) | (simp [go_sem, *]; done))
  have c7_3_1 : w7.cell? ⟨w4.heap.size, 1, none⟩ = some (.int .i64 y) := (by rw [hb7.cell (p := ⟨w4.heap.size, 1, none⟩) (by first | omega | (simp; done) | (simp; omega))] <;> first | assumption | (simp; done) | (simp [go_sem, *]; done))
  have c7_3_2 : w7.cell? ⟨w4.heap.size, 2, none⟩ = some (.int .i64 z) := (by rw [hb7.cell (p := ⟨w4.heap.size, 2, none⟩) (by first | omega | (simp; done) | (simp; omega))] <;> first | assumption | (simp; done) | (simp [go_sem, *]; done))
  have c7_4_0 : w7.cell? ⟨w6.heap.size, 0, none⟩ = some (.int .i64 0) := (by rw [hb7.cell (p := ⟨w6.heap.size, 0, none⟩) (by first | omega | (simp; done) | (simp; omega))] <;> first | assumption | (simp; done) | (simp [go_sem, *]; done))
  have c7_4_1 : w7.cell? ⟨w6.heap.size, 1, none⟩ = some (.int .i64 0) := (by rw [hb7.cell (p := ⟨w6.heap.size, 1, none⟩) (by first | omega | (simp; done) | (simp; omega))] <;> first | assumption | (simp; done) | (simp [go_sem, *]; done))
  have c7_4_2 : w7.cell? ⟨w6.heap.size, 2, none⟩ = some (.int .i64 0) := (by rw [hb7.cell (p := ⟨w6.heap.size, 2, none⟩) (by first | omega | (simp; done) | (simp; omega))] <;> first | assumption | (simp; done) | (simp [go_sem, *]; done))
  have l7_0 : w.heap.size < w7.heap.size := (by omega)
  have n7_0 : w.heap.size ≠ w7.heap.size := (by omega)
  have l7_1 : w.heap.size + 1 < w7.heap.size := (by omega)
  have n7_1 : w.heap.size + 1 ≠ w7.heap.size := (by omega)
  have l7_2 : w1.heap.size < w7.heap.size := (by omega)
  have n7_2 : w1.heap.size ≠ w7.heap.size := (by omega)
  have l7_3 : w4.heap.size < w7.heap.size := (by omega)
  have n7_3 : w4.heap.size ≠ w7.heap.size := (by omega)
  have l7_4 : w6.heap.size < w7.heap.size := (by omega)
  have n7_4 : w6.heap.size ≠ w7.heap.size := (by omega)
  have z7 : w.heap.size ≤ w7.heap.size := (by omega)
  have HB7 := Lib.hid (show Below w.heap.size w w7 by (repeat' (first | exact Below.refl _ _ | (refine Below.setCell ?_ (by (first | omega | (simp; done) | (simp; omega))) _) | (refine Below.alloc ?_ (by (first | omega | (simp; done) | (simp; omega))) _) | (refine Below.drew ?_) | (refine below_drewN ?_ _) | (refine Below.trans ?_ (Below.mono HBo (by (first | omega | (simp; done) | (simp; omega))))) | (refine Below.trans ?_ (Below.mono hb7 (by (first | omega | (simp; done) | (simp; omega))))))))
  clear HBo hb7 hs7 c6_0_0 c6_0_1 c6_0_2 c6_1_0 c6_1_1 c6_1_2 c6_2_0 c6_2_1 c6_2_2 c6_3_0 c6_3_1 c6_3_2 l6_0 n6_0 l6_1 n6_1 l6_2 n6_2 l6_3 n6_3 z6 HB6
  go_wp2_with fail
  go_at_call 23
  refine (works_c _).mono ?_
  rintro e w8 ⟨rfl, hb8⟩
  have HBo := HB7.out
  have hs8 := hb8.size
  try simp at hs8
  have c8_0_0 : w8.cell? ⟨w.heap.size, 0, none⟩ = some (.int .i64 x) := (by rw [hb8.cell (p := ⟨w.heap.size, 0, none⟩) (by first | omega | (simp; done) | (simp; omega))] <;> first | assumption | (simp; done) | (simp [go_sem, *]; done))
  have c8_0_1 : w8.cell? ⟨w.heap.size, 1, none⟩ = some (.int .i64 y) := (by rw [hb8.cell (p := ⟨w.heap.size, 1, none⟩) (by first | omega | (simp; done) | (simp; omega))] <;> first | assumption | (simp; done) | (simp [go_sem, *]; done))
  have c8_0_2 : w8.cell? ⟨w.heap.size, 2, none⟩ = some (.int .i64 z) := (by rw [hb8.cell (p := ⟨w.heap.size, 2, none⟩) (by first | omega | (simp; done) | (simp; omega))] <;> first | assumption | (simp; done) | (simp [go_sem, *]; done))
  have c8_1_0 : w8.cell? ⟨w.heap.size + 1, 0, none⟩ = some (.int .i64 u) := (by rw [hb8.cell (p := ⟨w.heap.size + 1, 0, none⟩) (by first | omega | (simp; done) | (simp; omega))] <;> first | assumption | (simp; done) | (simp [go_sem, *]; done))
  have c8_1_1 : w8.cell? ⟨w.heap.size + 1, 1, none⟩ = some (.int .i64 v) := (by rw [hb8.cell (p := ⟨w.heap.size + 1, 1, none⟩) (by first | omega | (simp; done) | (simp; omega))] <;> first | assumption | (simp; done) | (simp [go_sem, *]; done))
  have c8_1_2 : w8.cell? ⟨w.heap.size + 1, 2, none⟩ = some (.int .i64 t) := (by rw [hb8.cell (p := ⟨w.heap.size + 1, 2, none⟩) (by first | omega | (simp; done) | (simp; omega))] <;> first | assumption | (simp; done) | (simp [go_sem, *]; done))
  have c8_2_0 : w8.cell? ⟨w1.heap.size, 0, none⟩ = some (.int .i64 a) := (by rw [hb8.cell (p := ⟨w1.heap.size, 0, none⟩) (by first | omega | (simp; done) | (simp; omega))] <;> first | assumption | (simp; done) | (simp [go_sem, *]; done))
  have c8_2_1 : w8.cell? ⟨w1.heap.size, 1, none⟩ = some (.int .i64 b) := (by rw [hb8.cell (p := ⟨w1.heap.size, 1, none⟩) (by first | omega | (simp; done) | (simp; omega))] <;> first | assumption | (simp; done) | (simp [go_sem, *]; done))
  have c8_2_2 : w8.cell? ⟨w1.heap.size, 2, none⟩ = some (.int .i64 c) := (by rw [hb8.cell (p := ⟨w1.heap.size, 2, none⟩) (by first | omega | (simp; done) | (simp; omega))] <;> first | assumption | (simp; done) | (simp [go_sem, *]; done))
  have c8_3_0 : w8.cell? ⟨w4.heap.size, 0, none⟩ = some (.int .i64 x) := (by rw [hb8.cell (p := ⟨w4.heap.size, 0, none⟩) (by first | omega | (simp; done) | (simp; omega))] <;> first | assumption | (simp; done) | (simp [go_sem, *]; done))
  have c8_3_1 : w8.cell? ⟨w4.heap.size, 1, none⟩ = some (.int .i64 y) := (by rw [hb8.cell (p := ⟨w4.heap.size, 1, none⟩) (by first | omega | (simp; done) | (simp; omega))] <;> first | assumption | (simp; done) | (simp [go_sem, *]; done))
  have c8_3_2 : w8.cell? ⟨w4.heap.size, 2, none⟩ = some (.int .i64 z) := (by rw [hb8.cell (p := ⟨w4.heap.size, 2, none⟩) (by first | omega | (simp; done) | (simp; omega))] <;> first | assumption | (simp; done) | (simp [go_sem, *]; done))
  have c8_4_0 : w8.cell? ⟨w6.heap.size, 0, none⟩ = some (.int .i64 0) := (by rw [hb8.cell (p := ⟨w6.heap.size, 0, none⟩) (by first | omega | (simp; done) | (simp; omega))] <;> first | assumption | (simp; done) | (simp [go_sem, *]; done))
  have c8_4_1 : w8.cell? ⟨w6.heap.size, 1, none⟩ = some (.int .i64 0) := (by rw [hb8.cell (p := ⟨w6.heap.size, 1, none⟩) (by first | omega | (simp; done) | (simp; omega))] <;> first | assumption | (simp; done) | (simp [go_sem, *]; done))
  have c8_4_2 : w8.cell? ⟨w6.heap.size, 2, none⟩ = some (.int .i64 0) := (by rw [hb8.cell (p := ⟨w6.heap.size, 2, none⟩) (by first | omega | (simp; done) | (simp; omega))] <;> first | assumption | (simp; done) | (simp [go_sem, *]; done))
  have l8_0 : w.heap.size < w8.heap.size := (by omega)
  have n8_0 : w.heap.size ≠ w8.heap.size := (by omega)
  have l8_1 : w.heap.size + 1 < w8.heap.size := (by omega)
  have n8_1 : w.heap.size + 1 ≠ w8.heap.size := (by omega)
  have l8_2 : w1.heap.size < w8.heap.size := (by omega)
  have n8_2 : w1.heap.size ≠ w8.heap.size := (by omega)
  have l8_3 : w4.heap.size < w8.heap.size := (by omega)
  have n8_3 : w4.heap.size ≠ w8.heap.size := (by omega)
  have l8_4 : w6.heap.size < w8.heap.size := (by omega)
  have n8_4 : w6.heap.size ≠ w8.heap.size := (by omega)
  have z8 : w.heap.size ≤ w8.heap.size := (by omega)
  have HB8 := Lib.hid (show Below w.heap.size w w8 by (repeat' (first | exact Below.refl _ _ | (refine Below.setCell ?_ (by (first | omega | (simp; done) | (simp; omega))) _) | (refine Below.alloc ?_ (by (first | omega | (simp; done) | (simp; omega))) _) | (refine Below.drew ?_) | (refine below_drewN ?_ _) | (refine Below.trans ?_ (Below.mono HBo (by (first | omega | (simp; done) | (simp; omega))))) | (refine Below.trans ?_ (Below.mono hb8 (by (first | omega | (simp; done) | (simp; omega))))))))
  clear HBo hb8 hs8 c7_0_0 c7_0_1 c7_0_2 c7_1_0 c7_1_1 c7_1_2 c7_2_0 c7_2_1 c7_2_2 c7_3_0 c7_3_1 c7_3_2 c7_4_0 c7_4_1 c7_4_2 l7_0 n7_0 l7_1 n7_1 l7_2 n7_2 l7_3 n7_3 l7_4 n7_4 z7 HB7
  go_wp2_with fail
  go_ret
  have HBo := HB8.out
  refine ⟨rfl, ?_⟩
  (repeat' (first | exact Below.refl _ _ | (refine Below.setCell ?_ (by (first | omega | (simp; done) | (simp; omega))) _) | (refine Below.alloc ?_ (by (first | omega | (simp; done) | (simp; omega))) _) | (refine Below.drew ?_) | (refine below_drewN ?_ _) | (refine Below.trans ?_ (Below.mono HBo (by (first | omega | (simp; done) | (simp; omega)))))))

set_option maxRecDepth 100000 in
set_option maxHeartbeats 2000000 in
theorem law_back_ft {x y z u v t i q1 q2 q3 : Int} (h1 : spotOf x y z = (0, 0, 0, false)) (h2 : indexOf x y z = (0, false)) (hm : mayB x y z = false) (g1 : ofOf u v t i = (q1, q2, q3, true)) (g2 : spotB u v t = true) (i0 : 0 ≤ i) (i1 : i < 4096) (g3 : mayB q1 q2 q3 = true) (g4 : spotOf q1 q2 q3 = (u, v, t, true)) (g5 : indexOf q1 q2 q3 = (i, true)) (w : World) :
    Calls Try.prog 7 #[.agg #[.int .i64 x, .int .i64 y, .int .i64 z], .agg #[.int .i64 u, .int .i64 v, .int .i64 t], .int .i64 i] w fun e w' => e = .returned (.bool true) ∧ Below w.heap.size w w' := by
  have H1 := Lib.hid h1
  have H2 := Lib.hid h2
  have HM := Lib.hid hm
  have G1 := Lib.hid g1
  have G2 := Lib.hid g2
  have G3 := Lib.hid g3
  have G4 := Lib.hid g4
  have G5 := Lib.hid g5
  clear h1 h2 hm g1 g2 g3 g4 g5
  go_enter Try.func7, Try.ntmps7
  go_wp2_with fail
  go_at_call 13
  refine (spot_c H1.out _).mono ?_
  rintro e w1 ⟨rfl, hb1⟩
  have hs1 := hb1.size
  try simp at hs1
  have c1_0_0 : w1.cell? ⟨w.heap.size, 0, none⟩ = some (.int .i64 x) := (by rw [hb1.cell (p := ⟨w.heap.size, 0, none⟩) (by first | omega | (simp; done) | (simp; omega))] <;> first | assumption | (simp; done) | (simp [go_sem, *]; done))
  have c1_0_1 : w1.cell? ⟨w.heap.size, 1, none⟩ = some (.int .i64 y) := (by rw [hb1.cell (p := ⟨w.heap.size, 1, none⟩) (by first | omega | (simp; done) | (simp; omega))] <;> first | assumption | (simp; done) | (simp [go_sem, *]; done))
  have c1_0_2 : w1.cell? ⟨w.heap.size, 2, none⟩ = some (.int .i64 z) := (by rw [hb1.cell (p := ⟨w.heap.size, 2, none⟩) (by first | omega | (simp; done) | (simp; omega))] <;> first | assumption | (simp; done) | (simp [go_sem, *]; done))
  have c1_1_0 : w1.cell? ⟨w.heap.size + 1, 0, none⟩ = some (.int .i64 u) := (by rw [hb1.cell (p := ⟨w.heap.size + 1, 0, none⟩) (by first | omega | (simp; done) | (simp; omega))] <;> first | assumption | (simp; done) | (simp [go_sem, *]; done))
  have c1_1_1 : w1.cell? ⟨w.heap.size + 1, 1, none⟩ = some (.int .i64 v) := (by rw [hb1.cell (p := ⟨w.heap.size + 1, 1, none⟩) (by first | omega | (simp; done) | (simp; omega))] <;> first | assumption | (simp; done) | (simp [go_sem, *]; done))
  have c1_1_2 : w1.cell? ⟨w.heap.size + 1, 2, none⟩ = some (.int .i64 t) := (by rw [hb1.cell (p := ⟨w.heap.size + 1, 2, none⟩) (by first | omega | (simp; done) | (simp; omega))] <;> first | assumption | (simp; done) | (simp [go_sem, *]; done))
  have l1_0 : w.heap.size < w1.heap.size := (by omega)
  have n1_0 : w.heap.size ≠ w1.heap.size := (by omega)
  have l1_1 : w.heap.size + 1 < w1.heap.size := (by omega)
  have n1_1 : w.heap.size + 1 ≠ w1.heap.size := (by omega)
  have z1 : w.heap.size ≤ w1.heap.size := (by omega)
  have HB1 := Lib.hid (show Below w.heap.size w w1 by (repeat' (first | exact Below.refl _ _ | (refine Below.setCell ?_ (by (first | omega | (simp; done) | (simp; omega))) _) | (refine Below.alloc ?_ (by (first | omega | (simp; done) | (simp; omega))) _) | (refine Below.drew ?_) | (refine below_drewN ?_ _) | (refine Below.trans ?_ (Below.mono hb1 (by (first | omega | (simp; done) | (simp; omega))))))))
  clear hb1 hs1
  go_wp2_with fail
  go_at_call 15
  refine (index_c H2.out _).mono ?_
  rintro e w2 ⟨rfl, hb2⟩
  have HBo := HB1.out
  have hs2 := hb2.size
  try simp at hs2
  have c2_0_0 : w2.cell? ⟨w.heap.size, 0, none⟩ = some (.int .i64 x) := (by rw [hb2.cell (p := ⟨w.heap.size, 0, none⟩) (by first | omega | (simp; done) | (simp; omega))] <;> first | assumption | (simp; done) | (simp [go_sem, *]; done))
  have c2_0_1 : w2.cell? ⟨w.heap.size, 1, none⟩ = some (.int .i64 y) := (by rw [hb2.cell (p := ⟨w.heap.size, 1, none⟩) (by first | omega | (simp; done) | (simp; omega))] <;> first | assumption | (simp; done) | (simp [go_sem, *]; done))
  have c2_0_2 : w2.cell? ⟨w.heap.size, 2, none⟩ = some (.int .i64 z) := (by rw [hb2.cell (p := ⟨w.heap.size, 2, none⟩) (by first | omega | (simp; done) | (simp; omega))] <;> first | assumption | (simp; done) | (simp [go_sem, *]; done))
  have c2_1_0 : w2.cell? ⟨w.heap.size + 1, 0, none⟩ = some (.int .i64 u) := (by rw [hb2.cell (p := ⟨w.heap.size + 1, 0, none⟩) (by first | omega | (simp; done) | (simp; omega))] <;> first | assumption | (simp; done) | (simp [go_sem, *]; done))
  have c2_1_1 : w2.cell? ⟨w.heap.size + 1, 1, none⟩ = some (.int .i64 v) := (by rw [hb2.cell (p := ⟨w.heap.size + 1, 1, none⟩) (by first | omega | (simp; done) | (simp; omega))] <;> first | assumption | (simp; done) | (simp [go_sem, *]; done))
  have c2_1_2 : w2.cell? ⟨w.heap.size + 1, 2, none⟩ = some (.int .i64 t) := (by rw [hb2.cell (p := ⟨w.heap.size + 1, 2, none⟩) (by first | omega | (simp; done) | (simp; omega))] <;> first | assumption | (simp; done) | (simp [go_sem, *]; done))
  have c2_2_0 : w2.cell? ⟨w1.heap.size, 0, none⟩ = some (.int .i64 0) := (by rw [hb2.cell (p := ⟨w1.heap.size, 0, none⟩) (by first | omega | (simp; done) | (simp; omega))] <;> first | assumption | (simp; done) | (simp [go_sem, *]; done))
  have c2_2_1 : w2.cell? ⟨w1.heap.size, 1, none⟩ = some (.int .i64 0) := (by rw [hb2.cell (p := ⟨w1.heap.size, 1, none⟩) (by first | omega | (simp; done) | (simp; omega))] <;> first | assumption | (simp; done) | (simp [go_sem, *]; done))
  have c2_2_2 : w2.cell? ⟨w1.heap.size, 2, none⟩ = some (.int .i64 0) := (by rw [hb2.cell (p := ⟨w1.heap.size, 2, none⟩) (by first | omega | (simp; done) | (simp; omega))] <;> first | assumption | (simp; done) | (simp [go_sem, *]; done))
  have l2_0 : w.heap.size < w2.heap.size := (by omega)
  have n2_0 : w.heap.size ≠ w2.heap.size := (by omega)
  have l2_1 : w.heap.size + 1 < w2.heap.size := (by omega)
  have n2_1 : w.heap.size + 1 ≠ w2.heap.size := (by omega)
  have l2_2 : w1.heap.size < w2.heap.size := (by omega)
  have n2_2 : w1.heap.size ≠ w2.heap.size := (by omega)
  have z2 : w.heap.size ≤ w2.heap.size := (by omega)
  have HB2 := Lib.hid (show Below w.heap.size w w2 by (repeat' (first | exact Below.refl _ _ | (refine Below.setCell ?_ (by (first | omega | (simp; done) | (simp; omega))) _) | (refine Below.alloc ?_ (by (first | omega | (simp; done) | (simp; omega))) _) | (refine Below.drew ?_) | (refine below_drewN ?_ _) | (refine Below.trans ?_ (Below.mono HBo (by (first | omega | (simp; done) | (simp; omega))))) | (refine Below.trans ?_ (Below.mono hb2 (by (first | omega | (simp; done) | (simp; omega))))))))
  clear HBo hb2 hs2 c1_0_0 c1_0_1 c1_0_2 c1_1_0 c1_1_1 c1_1_2 l1_0 n1_0 l1_1 n1_1 z1 HB1
  go_wp2_with fail
  go_at_call 19
  refine (may_b HM.out _).mono ?_
  rintro e w3 ⟨rfl, hb3⟩
  have HBo := HB2.out
  have hs3 := hb3.size
  try simp at hs3
  have c3_0_0 : w3.cell? ⟨w.heap.size, 0, none⟩ = some (.int .i64 x) := (by rw [hb3.cell (p := ⟨w.heap.size, 0, none⟩) (by first | omega | (simp; done) | (simp; omega))] <;> first | assumption | (simp; done) | (simp [go_sem, *]; done))
  have c3_0_1 : w3.cell? ⟨w.heap.size, 1, none⟩ = some (.int .i64 y) := (by rw [hb3.cell (p := ⟨w.heap.size, 1, none⟩) (by first | omega | (simp; done) | (simp; omega))] <;> first | assumption | (simp; done) | (simp [go_sem, *]; done))
  have c3_0_2 : w3.cell? ⟨w.heap.size, 2, none⟩ = some (.int .i64 z) := (by rw [hb3.cell (p := ⟨w.heap.size, 2, none⟩) (by first | omega | (simp; done) | (simp; omega))] <;> first | assumption | (simp; done) | (simp [go_sem, *]; done))
  have c3_1_0 : w3.cell? ⟨w.heap.size + 1, 0, none⟩ = some (.int .i64 u) := (by rw [hb3.cell (p := ⟨w.heap.size + 1, 0, none⟩) (by first | omega | (simp; done) | (simp; omega))] <;> first | assumption | (simp; done) | (simp [go_sem, *]; done))
  have c3_1_1 : w3.cell? ⟨w.heap.size + 1, 1, none⟩ = some (.int .i64 v) := (by rw [hb3.cell (p := ⟨w.heap.size + 1, 1, none⟩) (by first | omega | (simp; done) | (simp; omega))] <;> first | assumption | (simp; done) | (simp [go_sem, *]; done))
  have c3_1_2 : w3.cell? ⟨w.heap.size + 1, 2, none⟩ = some (.int .i64 t) := (by rw [hb3.cell (p := ⟨w.heap.size + 1, 2, none⟩) (by first | omega | (simp; done) | (simp; omega))] <;> first | assumption | (simp; done) | (simp [go_sem, *]; done))
  have c3_2_0 : w3.cell? ⟨w1.heap.size, 0, none⟩ = some (.int .i64 0) := (by rw [hb3.cell (p := ⟨w1.heap.size, 0, none⟩) (by first | omega | (simp; done) | (simp; omega))] <;> first | assumption | (simp; done) | (simp [go_sem, *]; done))
  have c3_2_1 : w3.cell? ⟨w1.heap.size, 1, none⟩ = some (.int .i64 0) := (by rw [hb3.cell (p := ⟨w1.heap.size, 1, none⟩) (by first | omega | (simp; done) | (simp; omega))] <;> first | assumption | (simp; done) | (simp [go_sem, *]; done))
  have c3_2_2 : w3.cell? ⟨w1.heap.size, 2, none⟩ = some (.int .i64 0) := (by rw [hb3.cell (p := ⟨w1.heap.size, 2, none⟩) (by first | omega | (simp; done) | (simp; omega))] <;> first | assumption | (simp; done) | (simp [go_sem, *]; done))
  have l3_0 : w.heap.size < w3.heap.size := (by omega)
  have n3_0 : w.heap.size ≠ w3.heap.size := (by omega)
  have l3_1 : w.heap.size + 1 < w3.heap.size := (by omega)
  have n3_1 : w.heap.size + 1 ≠ w3.heap.size := (by omega)
  have l3_2 : w1.heap.size < w3.heap.size := (by omega)
  have n3_2 : w1.heap.size ≠ w3.heap.size := (by omega)
  have z3 : w.heap.size ≤ w3.heap.size := (by omega)
  have HB3 := Lib.hid (show Below w.heap.size w w3 by (repeat' (first | exact Below.refl _ _ | (refine Below.setCell ?_ (by (first | omega | (simp; done) | (simp; omega))) _) | (refine Below.alloc ?_ (by (first | omega | (simp; done) | (simp; omega))) _) | (refine Below.drew ?_) | (refine below_drewN ?_ _) | (refine Below.trans ?_ (Below.mono HBo (by (first | omega | (simp; done) | (simp; omega))))) | (refine Below.trans ?_ (Below.mono hb3 (by (first | omega | (simp; done) | (simp; omega))))))))
  clear HBo hb3 hs3 c2_0_0 c2_0_1 c2_0_2 c2_1_0 c2_1_1 c2_1_2 c2_2_0 c2_2_1 c2_2_2 l2_0 n2_0 l2_1 n2_1 l2_2 n2_2 z2 HB2
  go_wp2_with fail
  go_at_call 17
  refine (of_c G1.out _).mono ?_
  rintro e w4 ⟨rfl, hb4⟩
  have HBo := HB3.out
  have hs4 := hb4.size
  try simp at hs4
  have c4_0_0 : w4.cell? ⟨w.heap.size, 0, none⟩ = some (.int .i64 x) := (by rw [hb4.cell (p := ⟨w.heap.size, 0, none⟩) (by first | omega | (simp; done) | (simp; omega))] <;> first | assumption | (simp; done) | (simp [go_sem, *]; done))
  have c4_0_1 : w4.cell? ⟨w.heap.size, 1, none⟩ = some (.int .i64 y) := (by rw [hb4.cell (p := ⟨w.heap.size, 1, none⟩) (by first | omega | (simp; done) | (simp; omega))] <;> first | assumption | (simp; done) | (simp [go_sem, *]; done))
  have c4_0_2 : w4.cell? ⟨w.heap.size, 2, none⟩ = some (.int .i64 z) := (by rw [hb4.cell (p := ⟨w.heap.size, 2, none⟩) (by first | omega | (simp; done) | (simp; omega))] <;> first | assumption | (simp; done) | (simp [go_sem, *]; done))
  have c4_1_0 : w4.cell? ⟨w.heap.size + 1, 0, none⟩ = some (.int .i64 u) := (by rw [hb4.cell (p := ⟨w.heap.size + 1, 0, none⟩) (by first | omega | (simp; done) | (simp; omega))] <;> first | assumption | (simp; done) | (simp [go_sem, *]; done))
  have c4_1_1 : w4.cell? ⟨w.heap.size + 1, 1, none⟩ = some (.int .i64 v) := (by rw [hb4.cell (p := ⟨w.heap.size + 1, 1, none⟩) (by first | omega | (simp; done) | (simp; omega))] <;> first | assumption | (simp; done) | (simp [go_sem, *]; done))
  have c4_1_2 : w4.cell? ⟨w.heap.size + 1, 2, none⟩ = some (.int .i64 t) := (by rw [hb4.cell (p := ⟨w.heap.size + 1, 2, none⟩) (by first | omega | (simp; done) | (simp; omega))] <;> first | assumption | (simp; done) | (simp [go_sem, *]; done))
  have c4_2_0 : w4.cell? ⟨w1.heap.size, 0, none⟩ = some (.int .i64 0) := (by rw [hb4.cell (p := ⟨w1.heap.size, 0, none⟩) (by first | omega | (simp; done) | (simp; omega))] <;> first | assumption | (simp; done) | (simp [go_sem, *]; done))
  have c4_2_1 : w4.cell? ⟨w1.heap.size, 1, none⟩ = some (.int .i64 0) := (by rw [hb4.cell (p := ⟨w1.heap.size, 1, none⟩) (by first | omega | (simp; done) | (simp; omega))] <;> first | assumption | (simp; done) | (simp [go_sem, *]; done))
  have c4_2_2 : w4.cell? ⟨w1.heap.size, 2, none⟩ = some (.int .i64 0) := (by rw [hb4.cell (p := ⟨w1.heap.size, 2, none⟩) (by first | omega | (simp; done) | (simp; omega))] <;> first | assumption | (simp; done) | (simp [go_sem, *]; done))
  have l4_0 : w.heap.size < w4.heap.size := (by omega)
  have n4_0 : w.heap.size ≠ w4.heap.size := (by omega)
  have l4_1 : w.heap.size + 1 < w4.heap.size := (by omega)
  have n4_1 : w.heap.size + 1 ≠ w4.heap.size := (by omega)
  have l4_2 : w1.heap.size < w4.heap.size := (by omega)
  have n4_2 : w1.heap.size ≠ w4.heap.size := (by omega)
  have z4 : w.heap.size ≤ w4.heap.size := (by omega)
  have HB4 := Lib.hid (show Below w.heap.size w w4 by (repeat' (first | exact Below.refl _ _ | (refine Below.setCell ?_ (by (first | omega | (simp; done) | (simp; omega))) _) | (refine Below.alloc ?_ (by (first | omega | (simp; done) | (simp; omega))) _) | (refine Below.drew ?_) | (refine below_drewN ?_ _) | (refine Below.trans ?_ (Below.mono HBo (by (first | omega | (simp; done) | (simp; omega))))) | (refine Below.trans ?_ (Below.mono hb4 (by (first | omega | (simp; done) | (simp; omega))))))))
  clear HBo hb4 hs4 c3_0_0 c3_0_1 c3_0_2 c3_1_0 c3_1_1 c3_1_2 c3_2_0 c3_2_1 c3_2_2 l3_0 n3_0 l3_1 n3_1 l3_2 n3_2 z3 HB3
  go_wp2_with fail
  go_at_call 21
  refine (maySpot_b G2.out _).mono ?_
  rintro e w5 ⟨rfl, hb5⟩
  have HBo := HB4.out
  have hs5 := hb5.size
  try simp at hs5
  have c5_0_0 : w5.cell? ⟨w.heap.size, 0, none⟩ = some (.int .i64 x) := (by rw [hb5.cell (p := ⟨w.heap.size, 0, none⟩) (by first | omega | (simp; done) | (simp; omega))] <;> first | assumption | (simp; done) | (simp [go_sem, *]; done))
  have c5_0_1 : w5.cell? ⟨w.heap.size, 1, none⟩ = some (.int .i64 y) := (by rw [hb5.cell (p := ⟨w.heap.size, 1, none⟩) (by first | omega | (simp; done) | (simp; omega))] <;> first | assumption | (simp; done) | (simp [go_sem, *]; done))
  have c5_0_2 : w5.cell? ⟨w.heap.size, 2, none⟩ = some (.int .i64 z) := (by rw [hb5.cell (p := ⟨w.heap.size, 2, none⟩) (by first | omega | (simp; done) | (simp; omega))] <;> first | assumption | (simp; done) | (simp [go_sem, *]; done))
  have c5_1_0 : w5.cell? ⟨w.heap.size + 1, 0, none⟩ = some (.int .i64 u) := (by rw [hb5.cell (p := ⟨w.heap.size + 1, 0, none⟩) (by first | omega | (simp; done) | (simp; omega))] <;> first | assumption | (simp; done) | (simp [go_sem, *]; done))
  have c5_1_1 : w5.cell? ⟨w.heap.size + 1, 1, none⟩ = some (.int .i64 v) := (by rw [hb5.cell (p := ⟨w.heap.size + 1, 1, none⟩) (by first | omega | (simp; done) | (simp; omega))] <;> first | assumption | (simp; done) | (simp [go_sem, *]; done))
  have c5_1_2 : w5.cell? ⟨w.heap.size + 1, 2, none⟩ = some (.int .i64 t) := (by rw [hb5.cell (p := ⟨w.heap.size + 1, 2, none⟩) (by first | omega | (simp; done) | (simp; omega))] <;> first | assumption | (simp; done) | (simp [go_sem, *]; done))
  have c5_2_0 : w5.cell? ⟨w1.heap.size, 0, none⟩ = some (.int .i64 0) := (by rw [hb5.cell (p := ⟨w1.heap.size, 0, none⟩) (by first | omega | (simp; done) | (simp; omega))] <;> first | assumption | (simp; done) | (simp [go_sem, *]; done))
  have c5_2_1 : w5.cell? ⟨w1.heap.size, 1, none⟩ = some (.int .i64 0) := (by rw [hb5.cell (p := ⟨w1.heap.size, 1, none⟩) (by first | omega | (simp; done) | (simp; omega))] <;> first | assumption | (simp; done) | (simp [go_sem, *]; done))
  have c5_2_2 : w5.cell? ⟨w1.heap.size, 2, none⟩ = some (.int .i64 0) := (by rw [hb5.cell (p := ⟨w1.heap.size, 2, none⟩) (by first | omega | (simp; done) | (simp; omega))] <;> first | assumption | (simp; done) | (simp [go_sem, *]; done))
  have c5_3_0 : w5.cell? ⟨w4.heap.size, 0, none⟩ = some (.int .i64 q1) := (by rw [hb5.cell (p := ⟨w4.heap.size, 0, none⟩) (by first | omega | (simp; done) | (simp; omega))] <;> first | assumption | (simp; done) | (simp [go_sem, *]; done))
  have c5_3_1 : w5.cell? ⟨w4.heap.size, 1, none⟩ = some (.int .i64 q2) := (by rw [hb5.cell (p := ⟨w4.heap.size, 1, none⟩) (by first | omega | (simp; done) | (simp; omega))] <;> first | assumption | (simp; done) | (simp [go_sem, *]; done))
  have c5_3_2 : w5.cell? ⟨w4.heap.size, 2, none⟩ = some (.int .i64 q3) := (by rw [hb5.cell (p := ⟨w4.heap.size, 2, none⟩) (by first | omega | (simp; done) | (simp; omega))] <;> first | assumption | (simp; done) | (simp [go_sem, *]; done))
  have l5_0 : w.heap.size < w5.heap.size := (by omega)
  have n5_0 : w.heap.size ≠ w5.heap.size := (by omega)
  have l5_1 : w.heap.size + 1 < w5.heap.size := (by omega)
  have n5_1 : w.heap.size + 1 ≠ w5.heap.size := (by omega)
  have l5_2 : w1.heap.size < w5.heap.size := (by omega)
  have n5_2 : w1.heap.size ≠ w5.heap.size := (by omega)
  have l5_3 : w4.heap.size < w5.heap.size := (by omega)
  have n5_3 : w4.heap.size ≠ w5.heap.size := (by omega)
  have z5 : w.heap.size ≤ w5.heap.size := (by omega)
  have HB5 := Lib.hid (show Below w.heap.size w w5 by (repeat' (first | exact Below.refl _ _ | (refine Below.setCell ?_ (by (first | omega | (simp; done) | (simp; omega))) _) | (refine Below.alloc ?_ (by (first | omega | (simp; done) | (simp; omega))) _) | (refine Below.drew ?_) | (refine below_drewN ?_ _) | (refine Below.trans ?_ (Below.mono HBo (by (first | omega | (simp; done) | (simp; omega))))) | (refine Below.trans ?_ (Below.mono hb5 (by (first | omega | (simp; done) | (simp; omega))))))))
  clear HBo hb5 hs5 c4_0_0 c4_0_1 c4_0_2 c4_1_0 c4_1_1 c4_1_2 c4_2_0 c4_2_1 c4_2_2 l4_0 n4_0 l4_1 n4_1 l4_2 n4_2 z4 HB4
  go_wp2_with fail
  go_at_call 13
  refine (spot_c G4.out _).mono ?_
  rintro e w6 ⟨rfl, hb6⟩
  have HBo := HB5.out
  have hs6 := hb6.size
  try simp at hs6
  have c6_0_0 : w6.cell? ⟨w.heap.size, 0, none⟩ = some (.int .i64 x) := (by rw [hb6.cell (p := ⟨w.heap.size, 0, none⟩) (by first | omega | (simp; done) | (simp; omega))] <;> first | assumption | (simp; done) | (simp [go_sem, *]; done))
  have c6_0_1 : w6.cell? ⟨w.heap.size, 1, none⟩ = some (.int .i64 y) := (by rw [hb6.cell (p := ⟨w.heap.size, 1, none⟩) (by first | omega | (simp; done) | (simp; omega))] <;> first | assumption | (simp; done) | (simp [go_sem, *]; done))
  have c6_0_2 : w6.cell? ⟨w.heap.size, 2, none⟩ = some (.int .i64 z) := (by rw [hb6.cell (p := ⟨w.heap.size, 2, none⟩) (by first | omega | (simp; done) | (simp; omega))] <;> first | assumption | (simp; done) | (simp [go_sem, *]; done))
  have c6_1_0 : w6.cell? ⟨w.heap.size + 1, 0, none⟩ = some (.int .i64 u) := (by rw [hb6.cell (p := ⟨w.heap.size + 1, 0, none⟩) (by first | omega | (simp; done) | (simp; omega))] <;> first | assumption | (simp; done) | (simp [go_sem, *]; done))
  have c6_1_1 : w6.cell? ⟨w.heap.size + 1, 1, none⟩ = some (.int .i64 v) := (by rw [hb6.cell (p := ⟨w.heap.size + 1, 1, none⟩) (by first | omega | (simp; done) | (simp; omega))] <;> first | assumption | (simp; done) | (simp [go_sem, *]; done))
  have c6_1_2 : w6.cell? ⟨w.heap.size + 1, 2, none⟩ = some (.int .i64 t) := (by rw [hb6.cell (p := ⟨w.heap.size + 1, 2, none⟩) (by first | omega | (simp; done) | (simp; omega))] <;> first | assumption | (simp; done) | (simp [go_sem, *]; done))
  have c6_2_0 : w6.cell? ⟨w1.heap.size, 0, none⟩ = some (.int .i64 0) := (by rw [hb6.cell (p := ⟨w1.heap.size, 0, none⟩) (by first | omega | (simp; done) | (simp; omega))] <;> first | assumption | (simp; done) | (simp [go_sem, *]; done))
  have c6_2_1 : w6.cell? ⟨w1.heap.size, 1, none⟩ = some (.int .i64 0) := (by rw [hb6.cell (p := ⟨w1.heap.size, 1, none⟩) (by first | omega | (simp; done) | (simp; omega))] <;> first | assumption | (simp; done) | (simp [go_sem, *]; done))
  have c6_2_2 : w6.cell? ⟨w1.heap.size, 2, none⟩ = some (.int .i64 0) := (by rw [hb6.cell (p := ⟨w1.heap.size, 2, none⟩) (by first | omega | (simp; done) | (simp; omega))] <;> first | assumption | (simp; done) | (simp [go_sem, *]; done))
  have c6_3_0 : w6.cell? ⟨w4.heap.size, 0, none⟩ = some (.int .i64 q1) := (by rw [hb6.cell (p := ⟨w4.heap.size, 0, none⟩) (by first | omega | (simp; done) | (simp; omega))] <;> first | assumption | (simp; done) | (simp [go_sem, *]; done))
  have c6_3_1 : w6.cell? ⟨w4.heap.size, 1, none⟩ = some (.int .i64 q2) := (by rw [hb6.cell (p := ⟨w4.heap.size, 1, none⟩) (by first | omega | (simp; done) | (simp; omega))] <;> first | assumption | (simp; done) | (simp [go_sem, *]; done))
  have c6_3_2 : w6.cell? ⟨w4.heap.size, 2, none⟩ = some (.int .i64 q3) := (by rw [hb6.cell (p := ⟨w4.heap.size, 2, none⟩) (by first | omega | (simp; done) | (simp; omega))] <;> first | assumption | (simp; done) | (simp [go_sem, *]; done))
  have l6_0 : w.heap.size < w6.heap.size := (by omega)
  have n6_0 : w.heap.size ≠ w6.heap.size := (by omega)
  have l6_1 : w.heap.size + 1 < w6.heap.size := (by omega)
  have n6_1 : w.heap.size + 1 ≠ w6.heap.size := (by omega)
  have l6_2 : w1.heap.size < w6.heap.size := (by omega)
  have n6_2 : w1.heap.size ≠ w6.heap.size := (by omega)
  have l6_3 : w4.heap.size < w6.heap.size := (by omega)
  have n6_3 : w4.heap.size ≠ w6.heap.size := (by omega)
  have z6 : w.heap.size ≤ w6.heap.size := (by omega)
  have HB6 := Lib.hid (show Below w.heap.size w w6 by (repeat' (first | exact Below.refl _ _ | (refine Below.setCell ?_ (by (first | omega | (simp; done) | (simp; omega))) _) | (refine Below.alloc ?_ (by (first | omega | (simp; done) | (simp; omega))) _) | (refine Below.drew ?_) | (refine below_drewN ?_ _) | (refine Below.trans ?_ (Below.mono HBo (by (first | omega | (simp; done) | (simp; omega))))) | (refine Below.trans ?_ (Below.mono hb6 (by (first | omega | (simp; done) | (simp; omega))))))))
  clear HBo hb6 hs6 c5_0_0 c5_0_1 c5_0_2 c5_1_0 c5_1_1 c5_1_2 c5_2_0 c5_2_1 c5_2_2 c5_3_0 c5_3_1 c5_3_2 l5_0 n5_0 l5_1 n5_1 l5_2 n5_2 l5_3 n5_3 z5 HB5
  go_wp2_with fail
  go_at_call 15
  refine (index_c G5.out _).mono ?_
  rintro e w7 ⟨rfl, hb7⟩
  have HBo := HB6.out
  have hs7 := hb7.size
  try simp at hs7
  have c7_0_0 : w7.cell? ⟨w.heap.size, 0, none⟩ = some (.int .i64 x) := (by rw [hb7.cell (p := ⟨w.heap.size, 0, none⟩) (by first | omega | (simp; done) | (simp; omega))] <;> first | assumption | (simp; done) | (simp [go_sem, *]; done))
  have c7_0_1 : w7.cell? ⟨w.heap.size, 1, none⟩ = some (.int .i64 y) := (by rw [hb7.cell (p := ⟨w.heap.size, 1, none⟩) (by first | omega | (simp; done) | (simp; omega))] <;> first | assumption | (simp; done) | (simp [go_sem, *]; done))
  have c7_0_2 : w7.cell? ⟨w.heap.size, 2, none⟩ = some (.int .i64 z) := (by rw [hb7.cell (p := ⟨w.heap.size, 2, none⟩) (by first | omega | (simp; done) | (simp; omega))] <;> first | assumption | (simp; done) | (simp [go_sem, *]; done))
  have c7_1_0 : w7.cell? ⟨w.heap.size + 1, 0, none⟩ = some (.int .i64 u) := (by rw [hb7.cell (p := ⟨w.heap.size + 1, 0, none⟩) (by first | omega | (simp; done) | (simp; omega))] <;> first | assumption | (simp; done) | (simp [go_sem, *]; done))
  have c7_1_1 : w7.cell? ⟨w.heap.size + 1, 1, none⟩ = some (.int .i64 v) := (by rw [hb7.cell (p := ⟨w.heap.size + 1, 1, none⟩) (by first | omega | (simp; done) | (simp; omega))] <;> first | assumption | (simp; done) | (simp [go_sem, *]; done))
  have c7_1_2 : w7.cell? ⟨w.heap.size + 1, 2, none⟩ = some (.int .i64 t) := (by rw [hb7.cell (p := ⟨w.heap.size + 1, 2, none⟩) (by first | omega | (simp; done) | (simp; omega))] <;> first | assumption | (simp; done) | (simp [go_sem, *]; done))
  have c7_2_0 : w7.cell? ⟨w1.heap.size, 0, none⟩ = some (.int .i64 0) := (by rw [hb7.cell (p := ⟨w1.heap.size, 0, none⟩) (by first | omega | (simp; done) | (simp; omega))] <;> first | assumption | (simp; done) | (simp [go_sem, *]; done))
  have c7_2_1 : w7.cell? ⟨w1.heap.size, 1, none⟩ = some (.int .i64 0) := (by rw [hb7.cell (p := ⟨w1.heap.size, 1, none⟩) (by first | omega | (simp; done) | (simp; omega))] <;> first | assumption | (simp; done) | (simp [go_sem, *]; done))
  have c7_2_2 : w7.cell? ⟨w1.heap.size, 2, none⟩ = some (.int .i64 0) := (by rw [hb7.cell (p := ⟨w1.heap.size, 2, none⟩) (by first | omega | (simp; done) | (simp; omega))] <;> first | assumption | (simp; done) | (simp [go_sem, *]; done))
  have c7_3_0 : w7.cell? ⟨w4.heap.size, 0, none⟩ = some (.int .i64 q1) := (by rw [hb7.cell (p := ⟨w4.heap.size, 0, none⟩) (by first | omega | (simp; done) | (simp; omega))] <;> first | assumption | (simp; done) | (simp [go_sem, *]; done))
  have c7_3_1 : w7.cell? ⟨w4.heap.size, 1, none⟩ = some (.int .i64 q2) := (by rw [hb7.cell (p := ⟨w4.heap.size, 1, none⟩) (by first | omega | (simp; done) | (simp; omega))] <;> first | assumption | (simp; done) | (simp [go_sem, *]; done))
  have c7_3_2 : w7.cell? ⟨w4.heap.size, 2, none⟩ = some (.int .i64 q3) := (by rw [hb7.cell (p := ⟨w4.heap.size, 2, none⟩) (by first | omega | (simp; done) | (simp; omega))] <;> first | assumption | (simp; done) | (simp [go_sem, *]; done))
  have c7_4_0 : w7.cell? ⟨w6.heap.size, 0, none⟩ = some (.int .i64 u) := (by rw [hb7.cell (p := ⟨w6.heap.size, 0, none⟩) (by first | omega | (simp; done) | (simp; omega))] <;> first | assumption | (simp; done) | (simp [go_sem, *]; done))
  have c7_4_1 : w7.cell? ⟨w6.heap.size, 1, none⟩ = some (.int .i64 v) := (by rw [hb7.cell (p := ⟨w6.heap.size, 1, none⟩) (by first | omega | (simp; done) | (simp; omega))] <;> first | assumption | (simp; done) | (simp [go_sem, *]; done))
  have c7_4_2 : w7.cell? ⟨w6.heap.size, 2, none⟩ = some (.int .i64 t) := (by rw [hb7.cell (p := ⟨w6.heap.size, 2, none⟩) (by first | omega | (simp; done) | (simp; omega))] <;> first | assumption | (simp; done) | (simp [go_sem, *]; done))
  have l7_0 : w.heap.size < w7.heap.size := (by omega)
  have n7_0 : w.heap.size ≠ w7.heap.size := (by omega)
  have l7_1 : w.heap.size + 1 < w7.heap.size := (by omega)
  have n7_1 : w.heap.size + 1 ≠ w7.heap.size := (by omega)
  have l7_2 : w1.heap.size < w7.heap.size := (by omega)
  have n7_2 : w1.heap.size ≠ w7.heap.size := (by omega)
  have l7_3 : w4.heap.size < w7.heap.size := (by omega)
  have n7_3 : w4.heap.size ≠ w7.heap.size := (by omega)
  have l7_4 : w6.heap.size < w7.heap.size := (by omega)
  have n7_4 : w6.heap.size ≠ w7.heap.size := (by omega)
  have z7 : w.heap.size ≤ w7.heap.size := (by omega)
  have HB7 := Lib.hid (show Below w.heap.size w w7 by (repeat' (first | exact Below.refl _ _ | (refine Below.setCell ?_ (by (first | omega | (simp; done) | (simp; omega))) _) | (refine Below.alloc ?_ (by (first | omega | (simp; done) | (simp; omega))) _) | (refine Below.drew ?_) | (refine below_drewN ?_ _) | (refine Below.trans ?_ (Below.mono HBo (by (first | omega | (simp; done) | (simp; omega))))) | (refine Below.trans ?_ (Below.mono hb7 (by (first | omega | (simp; done) | (simp; omega))))))))
  clear HBo hb7 hs7 c6_0_0 c6_0_1 c6_0_2 c6_1_0 c6_1_1 c6_1_2 c6_2_0 c6_2_1 c6_2_2 c6_3_0 c6_3_1 c6_3_2 l6_0 n6_0 l6_1 n6_1 l6_2 n6_2 l6_3 n6_3 z6 HB6
  go_wp2_with fail
  go_at_call 19
  refine (may_b G3.out _).mono ?_
  rintro e w8 ⟨rfl, hb8⟩
  have HBo := HB7.out
  have hs8 := hb8.size
  try simp at hs8
  have c8_0_0 : w8.cell? ⟨w.heap.size, 0, none⟩ = some (.int .i64 x) := (by rw [hb8.cell (p := ⟨w.heap.size, 0, none⟩) (by first | omega | (simp; done) | (simp; omega))] <;> first | assumption | (simp; done) | (simp [go_sem, *]; done))
  have c8_0_1 : w8.cell? ⟨w.heap.size, 1, none⟩ = some (.int .i64 y) := (by rw [hb8.cell (p := ⟨w.heap.size, 1, none⟩) (by first | omega | (simp; done) | (simp; omega))] <;> first | assumption | (simp; done) | (simp [go_sem, *]; done))
  have c8_0_2 : w8.cell? ⟨w.heap.size, 2, none⟩ = some (.int .i64 z) := (by rw [hb8.cell (p := ⟨w.heap.size, 2, none⟩) (by first | omega | (simp; done) | (simp; omega))] <;> first | assumption | (simp; done) | (simp [go_sem, *]; done))
  have c8_1_0 : w8.cell? ⟨w.heap.size + 1, 0, none⟩ = some (.int .i64 u) := (by rw [hb8.cell (p := ⟨w.heap.size + 1, 0, none⟩) (by first | omega | (simp; done) | (simp; omega))] <;> first | assumption | (simp; done) | (simp [go_sem, *]; done))
  have c8_1_1 : w8.cell? ⟨w.heap.size + 1, 1, none⟩ = some (.int .i64 v) := (by rw [hb8.cell (p := ⟨w.heap.size + 1, 1, none⟩) (by first | omega | (simp; done) | (simp; omega))] <;> first | assumption | (simp; done) | (simp [go_sem, *]; done))
  have c8_1_2 : w8.cell? ⟨w.heap.size + 1, 2, none⟩ = some (.int .i64 t) := (by rw [hb8.cell (p := ⟨w.heap.size + 1, 2, none⟩) (by first | omega | (simp; done) | (simp; omega))] <;> first | assumption | (simp; done) | (simp [go_sem, *]; done))
  have c8_2_0 : w8.cell? ⟨w1.heap.size, 0, none⟩ = some (.int .i64 0) := (by rw [hb8.cell (p := ⟨w1.heap.size, 0, none⟩) (by first | omega | (simp; done) | (simp; omega))] <;> first | assumption | (simp; done) | (simp [go_sem, *]; done))
  have c8_2_1 : w8.cell? ⟨w1.heap.size, 1, none⟩ = some (.int .i64 0) := (by rw [hb8.cell (p := ⟨w1.heap.size, 1, none⟩) (by first | omega | (simp; done) | (simp; omega))] <;> first | assumption | (simp; done) | (simp [go_sem, *]; done))
  have c8_2_2 : w8.cell? ⟨w1.heap.size, 2, none⟩ = some (.int .i64 0) := (by rw [hb8.cell (p := ⟨w1.heap.size, 2, none⟩) (by first | omega | (simp; done) | (simp; omega))] <;> first | assumption | (simp; done) | (simp [go_sem, *]; done))
  have c8_3_0 : w8.cell? ⟨w4.heap.size, 0, none⟩ = some (.int .i64 q1) := (by rw [hb8.cell (p := ⟨w4.heap.size, 0, none⟩) (by first | omega | (simp; done) | (simp; omega))] <;> first | assumption | (simp; done) | (simp [go_sem, *]; done))
  have c8_3_1 : w8.cell? ⟨w4.heap.size, 1, none⟩ = some (.int .i64 q2) := (by rw [hb8.cell (p := ⟨w4.heap.size, 1, none⟩) (by first | omega | (simp; done) | (simp; omega))] <;> first | assumption | (simp; done) | (simp [go_sem, *]; done))
  have c8_3_2 : w8.cell? ⟨w4.heap.size, 2, none⟩ = some (.int .i64 q3) := (by rw [hb8.cell (p := ⟨w4.heap.size, 2, none⟩) (by first | omega | (simp; done) | (simp; omega))] <;> first | assumption | (simp; done) | (simp [go_sem, *]; done))
  have c8_4_0 : w8.cell? ⟨w6.heap.size, 0, none⟩ = some (.int .i64 u) := (by rw [hb8.cell (p := ⟨w6.heap.size, 0, none⟩) (by first | omega | (simp; done) | (simp; omega))] <;> first | assumption | (simp; done) | (simp [go_sem, *]; done))
  have c8_4_1 : w8.cell? ⟨w6.heap.size, 1, none⟩ = some (.int .i64 v) := (by rw [hb8.cell (p := ⟨w6.heap.size, 1, none⟩) (by first | omega | (simp; done) | (simp; omega))] <;> first | assumption | (simp; done) | (simp [go_sem, *]; done))
  have c8_4_2 : w8.cell? ⟨w6.heap.size, 2, none⟩ = some (.int .i64 t) := (by rw [hb8.cell (p := ⟨w6.heap.size, 2, none⟩) (by first | omega | (simp; done) | (simp; omega))] <;> first | assumption | (simp; done) | (simp [go_sem, *]; done))
  have l8_0 : w.heap.size < w8.heap.size := (by omega)
  have n8_0 : w.heap.size ≠ w8.heap.size := (by omega)
  have l8_1 : w.heap.size + 1 < w8.heap.size := (by omega)
  have n8_1 : w.heap.size + 1 ≠ w8.heap.size := (by omega)
  have l8_2 : w1.heap.size < w8.heap.size := (by omega)
  have n8_2 : w1.heap.size ≠ w8.heap.size := (by omega)
  have l8_3 : w4.heap.size < w8.heap.size := (by omega)
  have n8_3 : w4.heap.size ≠ w8.heap.size := (by omega)
  have l8_4 : w6.heap.size < w8.heap.size := (by omega)
  have n8_4 : w6.heap.size ≠ w8.heap.size := (by omega)
  have z8 : w.heap.size ≤ w8.heap.size := (by omega)
  have HB8 := Lib.hid (show Below w.heap.size w w8 by (repeat' (first | exact Below.refl _ _ | (refine Below.setCell ?_ (by (first | omega | (simp; done) | (simp; omega))) _) | (refine Below.alloc ?_ (by (first | omega | (simp; done) | (simp; omega))) _) | (refine Below.drew ?_) | (refine below_drewN ?_ _) | (refine Below.trans ?_ (Below.mono HBo (by (first | omega | (simp; done) | (simp; omega))))) | (refine Below.trans ?_ (Below.mono hb8 (by (first | omega | (simp; done) | (simp; omega))))))))
  clear HBo hb8 hs8 c7_0_0 c7_0_1 c7_0_2 c7_1_0 c7_1_1 c7_1_2 c7_2_0 c7_2_1 c7_2_2 c7_3_0 c7_3_1 c7_3_2 c7_4_0 c7_4_1 c7_4_2 l7_0 n7_0 l7_1 n7_1 l7_2 n7_2 l7_3 n7_3 l7_4 n7_4 z7 HB7
  go_wp2_with fail
  go_at_call 23
  refine (works_c _).mono ?_
  rintro e w9 ⟨rfl, hb9⟩
  have HBo := HB8.out
  have hs9 := hb9.size
  try simp at hs9
  have c9_0_0 : w9.cell? ⟨w.heap.size, 0, none⟩ = some (.int .i64 x) := (by rw [hb9.cell (p := ⟨w.heap.size, 0, none⟩) (by first | omega | (simp; done) | (simp; omega))] <;> first | assumption | (simp; done) | (simp [go_sem, *]; done))
  have c9_0_1 : w9.cell? ⟨w.heap.size, 1, none⟩ = some (.int .i64 y) := (by rw [hb9.cell (p := ⟨w.heap.size, 1, none⟩) (by first | omega | (simp; done) | (simp; omega))] <;> first | assumption | (simp; done) | (simp [go_sem, *]; done))
  have c9_0_2 : w9.cell? ⟨w.heap.size, 2, none⟩ = some (.int .i64 z) := (by rw [hb9.cell (p := ⟨w.heap.size, 2, none⟩) (by first | omega | (simp; done) | (simp; omega))] <;> first | assumption | (simp; done) | (simp [go_sem, *]; done))
  have c9_1_0 : w9.cell? ⟨w.heap.size + 1, 0, none⟩ = some (.int .i64 u) := (by rw [hb9.cell (p := ⟨w.heap.size + 1, 0, none⟩) (by first | omega | (simp; done) | (simp; omega))] <;> first | assumption | (simp; done) | (simp [go_sem, *]; done))
  have c9_1_1 : w9.cell? ⟨w.heap.size + 1, 1, none⟩ = some (.int .i64 v) := (by rw [hb9.cell (p := ⟨w.heap.size + 1, 1, none⟩) (by first | omega | (simp; done) | (simp; omega))] <;> first | assumption | (simp; done) | (simp [go_sem, *]; done))
  have c9_1_2 : w9.cell? ⟨w.heap.size + 1, 2, none⟩ = some (.int .i64 t) := (by rw [hb9.cell (p := ⟨w.heap.size + 1, 2, none⟩) (by first | omega | (simp; done) | (simp; omega))] <;> first | assumption | (simp; done) | (simp [go_sem, *]; done))
  have c9_2_0 : w9.cell? ⟨w1.heap.size, 0, none⟩ = some (.int .i64 0) := (by rw [hb9.cell (p := ⟨w1.heap.size, 0, none⟩) (by first | omega | (simp; done) | (simp; omega))] <;> first | assumption | (simp; done) | (simp [go_sem, *]; done))
  have c9_2_1 : w9.cell? ⟨w1.heap.size, 1, none⟩ = some (.int .i64 0) := (by rw [hb9.cell (p := ⟨w1.heap.size, 1, none⟩) (by first | omega | (simp; done) | (simp; omega))] <;> first | assumption | (simp; done) | (simp [go_sem, *]; done))
  have c9_2_2 : w9.cell? ⟨w1.heap.size, 2, none⟩ = some (.int .i64 0) := (by rw [hb9.cell (p := ⟨w1.heap.size, 2, none⟩) (by first | omega | (simp; done) | (simp; omega))] <;> first | assumption | (simp; done) | (simp [go_sem, *]; done))
  have c9_3_0 : w9.cell? ⟨w4.heap.size, 0, none⟩ = some (.int .i64 q1) := (by rw [hb9.cell (p := ⟨w4.heap.size, 0, none⟩) (by first | omega | (simp; done) | (simp; omega))] <;> first | assumption | (simp; done) | (simp [go_sem, *]; done))
  have c9_3_1 : w9.cell? ⟨w4.heap.size, 1, none⟩ = some (.int .i64 q2) := (by rw [hb9.cell (p := ⟨w4.heap.size, 1, none⟩) (by first | omega | (simp; done) | (simp; omega))] <;> first | assumption | (simp; done) | (simp [go_sem, *]; done))
  have c9_3_2 : w9.cell? ⟨w4.heap.size, 2, none⟩ = some (.int .i64 q3) := (by rw [hb9.cell (p := ⟨w4.heap.size, 2, none⟩) (by first | omega | (simp; done) | (simp; omega))] <;> first | assumption | (simp; done) | (simp [go_sem, *]; done))
  have c9_4_0 : w9.cell? ⟨w6.heap.size, 0, none⟩ = some (.int .i64 u) := (by rw [hb9.cell (p := ⟨w6.heap.size, 0, none⟩) (by first | omega | (simp; done) | (simp; omega))] <;> first | assumption | (simp; done) | (simp [go_sem, *]; done))
  have c9_4_1 : w9.cell? ⟨w6.heap.size, 1, none⟩ = some (.int .i64 v) := (by rw [hb9.cell (p := ⟨w6.heap.size, 1, none⟩) (by first | omega | (simp; done) | (simp; omega))] <;> first | assumption | (simp; done) | (simp [go_sem, *]; done))
  have c9_4_2 : w9.cell? ⟨w6.heap.size, 2, none⟩ = some (.int .i64 t) := (by rw [hb9.cell (p := ⟨w6.heap.size, 2, none⟩) (by first | omega | (simp; done) | (simp; omega))] <;> first | assumption | (simp; done) | (simp [go_sem, *]; done))
  have l9_0 : w.heap.size < w9.heap.size := (by omega)
  have n9_0 : w.heap.size ≠ w9.heap.size := (by omega)
  have l9_1 : w.heap.size + 1 < w9.heap.size := (by omega)
  have n9_1 : w.heap.size + 1 ≠ w9.heap.size := (by omega)
  have l9_2 : w1.heap.size < w9.heap.size := (by omega)
  have n9_2 : w1.heap.size ≠ w9.heap.size := (by omega)
  have l9_3 : w4.heap.size < w9.heap.size := (by omega)
  have n9_3 : w4.heap.size ≠ w9.heap.size := (by omega)
  have l9_4 : w6.heap.size < w9.heap.size := (by omega)
  have n9_4 : w6.heap.size ≠ w9.heap.size := (by omega)
  have z9 : w.heap.size ≤ w9.heap.size := (by omega)
  have HB9 := Lib.hid (show Below w.heap.size w w9 by (repeat' (first | exact Below.refl _ _ | (refine Below.setCell ?_ (by (first | omega | (simp; done) | (simp; omega))) _) | (refine Below.alloc ?_ (by (first | omega | (simp; done) | (simp; omega))) _) | (refine Below.drew ?_) | (refine below_drewN ?_ _) | (refine Below.trans ?_ (Below.mono HBo (by (first | omega | (simp; done) | (simp; omega))))) | (refine Below.trans ?_ (Below.mono hb9 (by (first | omega | (simp; done) | (simp; omega))))))))
  clear HBo hb9 hs9 c8_0_0 c8_0_1 c8_0_2 c8_1_0 c8_1_1 c8_1_2 c8_2_0 c8_2_1 c8_2_2 c8_3_0 c8_3_1 c8_3_2 c8_4_0 c8_4_1 c8_4_2 l8_0 n8_0 l8_1 n8_1 l8_2 n8_2 l8_3 n8_3 l8_4 n8_4 z8 HB8
  go_wp2_with fail
  go_ret
  have HBo := HB9.out
  refine ⟨rfl, ?_⟩
  (repeat' (first | exact Below.refl _ _ | (refine Below.setCell ?_ (by (first | omega | (simp; done) | (simp; omega))) _) | (refine Below.alloc ?_ (by (first | omega | (simp; done) | (simp; omega))) _) | (refine Below.drew ?_) | (refine below_drewN ?_ _) | (refine Below.trans ?_ (Below.mono HBo (by (first | omega | (simp; done) | (simp; omega)))))))

set_option maxRecDepth 100000 in
set_option maxHeartbeats 2000000 in
theorem law_back_ff {x y z u v t i : Int} (h1 : spotOf x y z = (0, 0, 0, false)) (h2 : indexOf x y z = (0, false)) (hm : mayB x y z = false) (g1 : ofOf u v t i = (0, 0, 0, false)) (g2 : spotB u v t = false) (w : World) :
    Calls Try.prog 7 #[.agg #[.int .i64 x, .int .i64 y, .int .i64 z], .agg #[.int .i64 u, .int .i64 v, .int .i64 t], .int .i64 i] w fun e w' => e = .returned (.bool true) ∧ Below w.heap.size w w' := by
  have H1 := Lib.hid h1
  have H2 := Lib.hid h2
  have HM := Lib.hid hm
  have G1 := Lib.hid g1
  have G2 := Lib.hid g2
  clear h1 h2 hm g1 g2
  go_enter Try.func7, Try.ntmps7
  go_wp2_with fail
  go_at_call 13
  refine (spot_c H1.out _).mono ?_
  rintro e w1 ⟨rfl, hb1⟩
  have hs1 := hb1.size
  try simp at hs1
  have c1_0_0 : w1.cell? ⟨w.heap.size, 0, none⟩ = some (.int .i64 x) := (by rw [hb1.cell (p := ⟨w.heap.size, 0, none⟩) (by first | omega | (simp; done) | (simp; omega))] <;> first | assumption | (simp; done) | (simp [go_sem, *]; done))
  have c1_0_1 : w1.cell? ⟨w.heap.size, 1, none⟩ = some (.int .i64 y) := (by rw [hb1.cell (p := ⟨w.heap.size, 1, none⟩) (by first | omega | (simp; done) | (simp; omega))] <;> first | assumption | (simp; done) | (simp [go_sem, *]; done))
  have c1_0_2 : w1.cell? ⟨w.heap.size, 2, none⟩ = some (.int .i64 z) := (by rw [hb1.cell (p := ⟨w.heap.size, 2, none⟩) (by first | omega | (simp; done) | (simp; omega))] <;> first | assumption | (simp; done) | (simp [go_sem, *]; done))
  have c1_1_0 : w1.cell? ⟨w.heap.size + 1, 0, none⟩ = some (.int .i64 u) := (by rw [hb1.cell (p := ⟨w.heap.size + 1, 0, none⟩) (by first | omega | (simp; done) | (simp; omega))] <;> first | assumption | (simp; done) | (simp [go_sem, *]; done))
  have c1_1_1 : w1.cell? ⟨w.heap.size + 1, 1, none⟩ = some (.int .i64 v) := (by rw [hb1.cell (p := ⟨w.heap.size + 1, 1, none⟩) (by first | omega | (simp; done) | (simp; omega))] <;> first | assumption | (simp; done) | (simp [go_sem, *]; done))
  have c1_1_2 : w1.cell? ⟨w.heap.size + 1, 2, none⟩ = some (.int .i64 t) := (by rw [hb1.cell (p := ⟨w.heap.size + 1, 2, none⟩) (by first | omega | (simp; done) | (simp; omega))] <;> first | assumption | (simp; done) | (simp [go_sem, *]; done))
  have l1_0 : w.heap.size < w1.heap.size := (by omega)
  have n1_0 : w.heap.size ≠ w1.heap.size := (by omega)
  have l1_1 : w.heap.size + 1 < w1.heap.size := (by omega)
  have n1_1 : w.heap.size + 1 ≠ w1.heap.size := (by omega)
  have z1 : w.heap.size ≤ w1.heap.size := (by omega)
  have HB1 := Lib.hid (show Below w.heap.size w w1 by (repeat' (first | exact Below.refl _ _ | (refine Below.setCell ?_ (by (first | omega | (simp; done) | (simp; omega))) _) | (refine Below.alloc ?_ (by (first | omega | (simp; done) | (simp; omega))) _) | (refine Below.drew ?_) | (refine below_drewN ?_ _) | (refine Below.trans ?_ (Below.mono hb1 (by (first | omega | (simp; done) | (simp; omega))))))))
  clear hb1 hs1
  go_wp2_with fail
  go_at_call 15
  refine (index_c H2.out _).mono ?_
  rintro e w2 ⟨rfl, hb2⟩
  have HBo := HB1.out
  have hs2 := hb2.size
  try simp at hs2
  have c2_0_0 : w2.cell? ⟨w.heap.size, 0, none⟩ = some (.int .i64 x) := (by rw [hb2.cell (p := ⟨w.heap.size, 0, none⟩) (by first | omega | (simp; done) | (simp; omega))] <;> first | assumption | (simp; done) | (simp [go_sem, *]; done))
  have c2_0_1 : w2.cell? ⟨w.heap.size, 1, none⟩ = some (.int .i64 y) := (by rw [hb2.cell (p := ⟨w.heap.size, 1, none⟩) (by first | omega | (simp; done) | (simp; omega))] <;> first | assumption | (simp; done) | (simp [go_sem, *]; done))
  have c2_0_2 : w2.cell? ⟨w.heap.size, 2, none⟩ = some (.int .i64 z) := (by rw [hb2.cell (p := ⟨w.heap.size, 2, none⟩) (by first | omega | (simp; done) | (simp; omega))] <;> first | assumption | (simp; done) | (simp [go_sem, *]; done))
  have c2_1_0 : w2.cell? ⟨w.heap.size + 1, 0, none⟩ = some (.int .i64 u) := (by rw [hb2.cell (p := ⟨w.heap.size + 1, 0, none⟩) (by first | omega | (simp; done) | (simp; omega))] <;> first | assumption | (simp; done) | (simp [go_sem, *]; done))
  have c2_1_1 : w2.cell? ⟨w.heap.size + 1, 1, none⟩ = some (.int .i64 v) := (by rw [hb2.cell (p := ⟨w.heap.size + 1, 1, none⟩) (by first | omega | (simp; done) | (simp; omega))] <;> first | assumption | (simp; done) | (simp [go_sem, *]; done))
  have c2_1_2 : w2.cell? ⟨w.heap.size + 1, 2, none⟩ = some (.int .i64 t) := (by rw [hb2.cell (p := ⟨w.heap.size + 1, 2, none⟩) (by first | omega | (simp; done) | (simp; omega))] <;> first | assumption | (simp; done) | (simp [go_sem, *]; done))
  have c2_2_0 : w2.cell? ⟨w1.heap.size, 0, none⟩ = some (.int .i64 0) := (by rw [hb2.cell (p := ⟨w1.heap.size, 0, none⟩) (by first | omega | (simp; done) | (simp; omega))] <;> first | assumption | (simp; done) | (simp [go_sem, *]; done))
  have c2_2_1 : w2.cell? ⟨w1.heap.size, 1, none⟩ = some (.int .i64 0) := (by rw [hb2.cell (p := ⟨w1.heap.size, 1, none⟩) (by first | omega | (simp; done) | (simp; omega))] <;> first | assumption | (simp; done) | (simp [go_sem, *]; done))
  have c2_2_2 : w2.cell? ⟨w1.heap.size, 2, none⟩ = some (.int .i64 0) := (by rw [hb2.cell (p := ⟨w1.heap.size, 2, none⟩) (by first | omega | (simp; done) | (simp; omega))] <;> first | assumption | (simp; done) | (simp [go_sem, *]; done))
  have l2_0 : w.heap.size < w2.heap.size := (by omega)
  have n2_0 : w.heap.size ≠ w2.heap.size := (by omega)
  have l2_1 : w.heap.size + 1 < w2.heap.size := (by omega)
  have n2_1 : w.heap.size + 1 ≠ w2.heap.size := (by omega)
  have l2_2 : w1.heap.size < w2.heap.size := (by omega)
  have n2_2 : w1.heap.size ≠ w2.heap.size := (by omega)
  have z2 : w.heap.size ≤ w2.heap.size := (by omega)
  have HB2 := Lib.hid (show Below w.heap.size w w2 by (repeat' (first | exact Below.refl _ _ | (refine Below.setCell ?_ (by (first | omega | (simp; done) | (simp; omega))) _) | (refine Below.alloc ?_ (by (first | omega | (simp; done) | (simp; omega))) _) | (refine Below.drew ?_) | (refine below_drewN ?_ _) | (refine Below.trans ?_ (Below.mono HBo (by (first | omega | (simp; done) | (simp; omega))))) | (refine Below.trans ?_ (Below.mono hb2 (by (first | omega | (simp; done) | (simp; omega))))))))
  clear HBo hb2 hs2 c1_0_0 c1_0_1 c1_0_2 c1_1_0 c1_1_1 c1_1_2 l1_0 n1_0 l1_1 n1_1 z1 HB1
  go_wp2_with fail
  go_at_call 19
  refine (may_b HM.out _).mono ?_
  rintro e w3 ⟨rfl, hb3⟩
  have HBo := HB2.out
  have hs3 := hb3.size
  try simp at hs3
  have c3_0_0 : w3.cell? ⟨w.heap.size, 0, none⟩ = some (.int .i64 x) := (by rw [hb3.cell (p := ⟨w.heap.size, 0, none⟩) (by first | omega | (simp; done) | (simp; omega))] <;> first | assumption | (simp; done) | (simp [go_sem, *]; done))
  have c3_0_1 : w3.cell? ⟨w.heap.size, 1, none⟩ = some (.int .i64 y) := (by rw [hb3.cell (p := ⟨w.heap.size, 1, none⟩) (by first | omega | (simp; done) | (simp; omega))] <;> first | assumption | (simp; done) | (simp [go_sem, *]; done))
  have c3_0_2 : w3.cell? ⟨w.heap.size, 2, none⟩ = some (.int .i64 z) := (by rw [hb3.cell (p := ⟨w.heap.size, 2, none⟩) (by first | omega | (simp; done) | (simp; omega))] <;> first | assumption | (simp; done) | (simp [go_sem, *]; done))
  have c3_1_0 : w3.cell? ⟨w.heap.size + 1, 0, none⟩ = some (.int .i64 u) := (by rw [hb3.cell (p := ⟨w.heap.size + 1, 0, none⟩) (by first | omega | (simp; done) | (simp; omega))] <;> first | assumption | (simp; done) | (simp [go_sem, *]; done))
  have c3_1_1 : w3.cell? ⟨w.heap.size + 1, 1, none⟩ = some (.int .i64 v) := (by rw [hb3.cell (p := ⟨w.heap.size + 1, 1, none⟩) (by first | omega | (simp; done) | (simp; omega))] <;> first | assumption | (simp; done) | (simp [go_sem, *]; done))
  have c3_1_2 : w3.cell? ⟨w.heap.size + 1, 2, none⟩ = some (.int .i64 t) := (by rw [hb3.cell (p := ⟨w.heap.size + 1, 2, none⟩) (by first | omega | (simp; done) | (simp; omega))] <;> first | assumption | (simp; done) | (simp [go_sem, *]; done))
  have c3_2_0 : w3.cell? ⟨w1.heap.size, 0, none⟩ = some (.int .i64 0) := (by rw [hb3.cell (p := ⟨w1.heap.size, 0, none⟩) (by first | omega | (simp; done) | (simp; omega))] <;> first | assumption | (simp; done) | (simp [go_sem, *]; done))
  have c3_2_1 : w3.cell? ⟨w1.heap.size, 1, none⟩ = some (.int .i64 0) := (by rw [hb3.cell (p := ⟨w1.heap.size, 1, none⟩) (by first | omega | (simp; done) | (simp; omega))] <;> first | assumption | (simp; done) | (simp [go_sem, *]; done))
  have c3_2_2 : w3.cell? ⟨w1.heap.size, 2, none⟩ = some (.int .i64 0) := (by rw [hb3.cell (p := ⟨w1.heap.size, 2, none⟩) (by first | omega | (simp; done) | (simp; omega))] <;> first | assumption | (simp; done) | (simp [go_sem, *]; done))
  have l3_0 : w.heap.size < w3.heap.size := (by omega)
  have n3_0 : w.heap.size ≠ w3.heap.size := (by omega)
  have l3_1 : w.heap.size + 1 < w3.heap.size := (by omega)
  have n3_1 : w.heap.size + 1 ≠ w3.heap.size := (by omega)
  have l3_2 : w1.heap.size < w3.heap.size := (by omega)
  have n3_2 : w1.heap.size ≠ w3.heap.size := (by omega)
  have z3 : w.heap.size ≤ w3.heap.size := (by omega)
  have HB3 := Lib.hid (show Below w.heap.size w w3 by (repeat' (first | exact Below.refl _ _ | (refine Below.setCell ?_ (by (first | omega | (simp; done) | (simp; omega))) _) | (refine Below.alloc ?_ (by (first | omega | (simp; done) | (simp; omega))) _) | (refine Below.drew ?_) | (refine below_drewN ?_ _) | (refine Below.trans ?_ (Below.mono HBo (by (first | omega | (simp; done) | (simp; omega))))) | (refine Below.trans ?_ (Below.mono hb3 (by (first | omega | (simp; done) | (simp; omega))))))))
  clear HBo hb3 hs3 c2_0_0 c2_0_1 c2_0_2 c2_1_0 c2_1_1 c2_1_2 c2_2_0 c2_2_1 c2_2_2 l2_0 n2_0 l2_1 n2_1 l2_2 n2_2 z2 HB2
  go_wp2_with fail
  go_at_call 17
  refine (of_c G1.out _).mono ?_
  rintro e w4 ⟨rfl, hb4⟩
  have HBo := HB3.out
  have hs4 := hb4.size
  try simp at hs4
  have c4_0_0 : w4.cell? ⟨w.heap.size, 0, none⟩ = some (.int .i64 x) := (by rw [hb4.cell (p := ⟨w.heap.size, 0, none⟩) (by first | omega | (simp; done) | (simp; omega))] <;> first | assumption | (simp; done) | (simp [go_sem, *]; done))
  have c4_0_1 : w4.cell? ⟨w.heap.size, 1, none⟩ = some (.int .i64 y) := (by rw [hb4.cell (p := ⟨w.heap.size, 1, none⟩) (by first | omega | (simp; done) | (simp; omega))] <;> first | assumption | (simp; done) | (simp [go_sem, *]; done))
  have c4_0_2 : w4.cell? ⟨w.heap.size, 2, none⟩ = some (.int .i64 z) := (by rw [hb4.cell (p := ⟨w.heap.size, 2, none⟩) (by first | omega | (simp; done) | (simp; omega))] <;> first | assumption | (simp; done) | (simp [go_sem, *]; done))
  have c4_1_0 : w4.cell? ⟨w.heap.size + 1, 0, none⟩ = some (.int .i64 u) := (by rw [hb4.cell (p := ⟨w.heap.size + 1, 0, none⟩) (by first | omega | (simp; done) | (simp; omega))] <;> first | assumption | (simp; done) | (simp [go_sem, *]; done))
  have c4_1_1 : w4.cell? ⟨w.heap.size + 1, 1, none⟩ = some (.int .i64 v) := (by rw [hb4.cell (p := ⟨w.heap.size + 1, 1, none⟩) (by first | omega | (simp; done) | (simp; omega))] <;> first | assumption | (simp; done) | (simp [go_sem, *]; done))
  have c4_1_2 : w4.cell? ⟨w.heap.size + 1, 2, none⟩ = some (.int .i64 t) := (by rw [hb4.cell (p := ⟨w.heap.size + 1, 2, none⟩) (by first | omega | (simp; done) | (simp; omega))] <;> first | assumption | (simp; done) | (simp [go_sem, *]; done))
  have c4_2_0 : w4.cell? ⟨w1.heap.size, 0, none⟩ = some (.int .i64 0) := (by rw [hb4.cell (p := ⟨w1.heap.size, 0, none⟩) (by first | omega | (simp; done) | (simp; omega))] <;> first | assumption | (simp; done) | (simp [go_sem, *]; done))
  have c4_2_1 : w4.cell? ⟨w1.heap.size, 1, none⟩ = some (.int .i64 0) := (by rw [hb4.cell (p := ⟨w1.heap.size, 1, none⟩) (by first | omega | (simp; done) | (simp; omega))] <;> first | assumption | (simp; done) | (simp [go_sem, *]; done))
  have c4_2_2 : w4.cell? ⟨w1.heap.size, 2, none⟩ = some (.int .i64 0) := (by rw [hb4.cell (p := ⟨w1.heap.size, 2, none⟩) (by first | omega | (simp; done) | (simp; omega))] <;> first | assumption | (simp; done) | (simp [go_sem, *]; done))
  have l4_0 : w.heap.size < w4.heap.size := (by omega)
  have n4_0 : w.heap.size ≠ w4.heap.size := (by omega)
  have l4_1 : w.heap.size + 1 < w4.heap.size := (by omega)
  have n4_1 : w.heap.size + 1 ≠ w4.heap.size := (by omega)
  have l4_2 : w1.heap.size < w4.heap.size := (by omega)
  have n4_2 : w1.heap.size ≠ w4.heap.size := (by omega)
  have z4 : w.heap.size ≤ w4.heap.size := (by omega)
  have HB4 := Lib.hid (show Below w.heap.size w w4 by (repeat' (first | exact Below.refl _ _ | (refine Below.setCell ?_ (by (first | omega | (simp; done) | (simp; omega))) _) | (refine Below.alloc ?_ (by (first | omega | (simp; done) | (simp; omega))) _) | (refine Below.drew ?_) | (refine below_drewN ?_ _) | (refine Below.trans ?_ (Below.mono HBo (by (first | omega | (simp; done) | (simp; omega))))) | (refine Below.trans ?_ (Below.mono hb4 (by (first | omega | (simp; done) | (simp; omega))))))))
  clear HBo hb4 hs4 c3_0_0 c3_0_1 c3_0_2 c3_1_0 c3_1_1 c3_1_2 c3_2_0 c3_2_1 c3_2_2 l3_0 n3_0 l3_1 n3_1 l3_2 n3_2 z3 HB3
  go_wp2_with fail
  go_at_call 21
  refine (maySpot_b G2.out _).mono ?_
  rintro e w5 ⟨rfl, hb5⟩
  have HBo := HB4.out
  have hs5 := hb5.size
  try simp at hs5
  have c5_0_0 : w5.cell? ⟨w.heap.size, 0, none⟩ = some (.int .i64 x) := (by rw [hb5.cell (p := ⟨w.heap.size, 0, none⟩) (by first | omega | (simp; done) | (simp; omega))] <;> first | assumption | (simp; done) | (simp [go_sem, *]; done))
  have c5_0_1 : w5.cell? ⟨w.heap.size, 1, none⟩ = some (.int .i64 y) := (by rw [hb5.cell (p := ⟨w.heap.size, 1, none⟩) (by first | omega | (simp; done) | (simp; omega))] <;> first | assumption | (simp; done) | (simp [go_sem, *]; done))
  have c5_0_2 : w5.cell? ⟨w.heap.size, 2, none⟩ = some (.int .i64 z) := (by rw [hb5.cell (p := ⟨w.heap.size, 2, none⟩) (by first | omega | (simp; done) | (simp; omega))] <;> first | assumption | (simp; done) | (simp [go_sem, *]; done))
  have c5_1_0 : w5.cell? ⟨w.heap.size + 1, 0, none⟩ = some (.int .i64 u) := (by rw [hb5.cell (p := ⟨w.heap.size + 1, 0, none⟩) (by first | omega | (simp; done) | (simp; omega))] <;> first | assumption | (simp; done) | (simp [go_sem, *]; done))
  have c5_1_1 : w5.cell? ⟨w.heap.size + 1, 1, none⟩ = some (.int .i64 v) := (by rw [hb5.cell (p := ⟨w.heap.size + 1, 1, none⟩) (by first | omega | (simp; done) | (simp; omega))] <;> first | assumption | (simp; done) | (simp [go_sem, *]; done))
  have c5_1_2 : w5.cell? ⟨w.heap.size + 1, 2, none⟩ = some (.int .i64 t) := (by rw [hb5.cell (p := ⟨w.heap.size + 1, 2, none⟩) (by first | omega | (simp; done) | (simp; omega))] <;> first | assumption | (simp; done) | (simp [go_sem, *]; done))
  have c5_2_0 : w5.cell? ⟨w1.heap.size, 0, none⟩ = some (.int .i64 0) := (by rw [hb5.cell (p := ⟨w1.heap.size, 0, none⟩) (by first | omega | (simp; done) | (simp; omega))] <;> first | assumption | (simp; done) | (simp [go_sem, *]; done))
  have c5_2_1 : w5.cell? ⟨w1.heap.size, 1, none⟩ = some (.int .i64 0) := (by rw [hb5.cell (p := ⟨w1.heap.size, 1, none⟩) (by first | omega | (simp; done) | (simp; omega))] <;> first | assumption | (simp; done) | (simp [go_sem, *]; done))
  have c5_2_2 : w5.cell? ⟨w1.heap.size, 2, none⟩ = some (.int .i64 0) := (by rw [hb5.cell (p := ⟨w1.heap.size, 2, none⟩) (by first | omega | (simp; done) | (simp; omega))] <;> first | assumption | (simp; done) | (simp [go_sem, *]; done))
  have c5_3_0 : w5.cell? ⟨w4.heap.size, 0, none⟩ = some (.int .i64 0) := (by rw [hb5.cell (p := ⟨w4.heap.size, 0, none⟩) (by first | omega | (simp; done) | (simp; omega))] <;> first | assumption | (simp; done) | (simp [go_sem, *]; done))
  have c5_3_1 : w5.cell? ⟨w4.heap.size, 1, none⟩ = some (.int .i64 0) := (by rw [hb5.cell (p := ⟨w4.heap.size, 1, none⟩) (by first | omega | (simp; done) | (simp; omega))] <;> first | assumption | (simp; done) | (simp [go_sem, *]; done))
  have c5_3_2 : w5.cell? ⟨w4.heap.size, 2, none⟩ = some (.int .i64 0) := (by rw [hb5.cell (p := ⟨w4.heap.size, 2, none⟩) (by first | omega | (simp; done) | (simp; omega))] <;> first | assumption | (simp; done) | (simp [go_sem, *]; done))
  have l5_0 : w.heap.size < w5.heap.size := (by omega)
  have n5_0 : w.heap.size ≠ w5.heap.size := (by omega)
  have l5_1 : w.heap.size + 1 < w5.heap.size := (by omega)
  have n5_1 : w.heap.size + 1 ≠ w5.heap.size := (by omega)
  have l5_2 : w1.heap.size < w5.heap.size := (by omega)
  have n5_2 : w1.heap.size ≠ w5.heap.size := (by omega)
  have l5_3 : w4.heap.size < w5.heap.size := (by omega)
  have n5_3 : w4.heap.size ≠ w5.heap.size := (by omega)
  have z5 : w.heap.size ≤ w5.heap.size := (by omega)
  have HB5 := Lib.hid (show Below w.heap.size w w5 by (repeat' (first | exact Below.refl _ _ | (refine Below.setCell ?_ (by (first | omega | (simp; done) | (simp; omega))) _) | (refine Below.alloc ?_ (by (first | omega | (simp; done) | (simp; omega))) _) | (refine Below.drew ?_) | (refine below_drewN ?_ _) | (refine Below.trans ?_ (Below.mono HBo (by (first | omega | (simp; done) | (simp; omega))))) | (refine Below.trans ?_ (Below.mono hb5 (by (first | omega | (simp; done) | (simp; omega))))))))
  clear HBo hb5 hs5 c4_0_0 c4_0_1 c4_0_2 c4_1_0 c4_1_1 c4_1_2 c4_2_0 c4_2_1 c4_2_2 l4_0 n4_0 l4_1 n4_1 l4_2 n4_2 z4 HB4
  go_wp2_with fail
  go_at_call 23
  refine (works_c _).mono ?_
  rintro e w6 ⟨rfl, hb6⟩
  have HBo := HB5.out
  have hs6 := hb6.size
  try simp at hs6
  have c6_0_0 : w6.cell? ⟨w.heap.size, 0, none⟩ = some (.int .i64 x) := (by rw [hb6.cell (p := ⟨w.heap.size, 0, none⟩) (by first | omega | (simp; done) | (simp; omega))] <;> first | assumption | (simp; done) | (simp [go_sem, *]; done))
  have c6_0_1 : w6.cell? ⟨w.heap.size, 1, none⟩ = some (.int .i64 y) := (by rw [hb6.cell (p := ⟨w.heap.size, 1, none⟩) (by first | omega | (simp; done) | (simp; omega))] <;> first | assumption | (simp; done) | (simp [go_sem, *]; done))
  have c6_0_2 : w6.cell? ⟨w.heap.size, 2, none⟩ = some (.int .i64 z) := (by rw [hb6.cell (p := ⟨w.heap.size, 2, none⟩) (by first | omega | (simp; done) | (simp; omega))] <;> first | assumption | (simp; done) | (simp [go_sem, *]; done))
  have c6_1_0 : w6.cell? ⟨w.heap.size + 1, 0, none⟩ = some (.int .i64 u) := (by rw [hb6.cell (p := ⟨w.heap.size + 1, 0, none⟩) (by first | omega | (simp; done) | (simp; omega))] <;> first | assumption | (simp; done) | (simp [go_sem, *]; done))
  have c6_1_1 : w6.cell? ⟨w.heap.size + 1, 1, none⟩ = some (.int .i64 v) := (by rw [hb6.cell (p := ⟨w.heap.size + 1, 1, none⟩) (by first | omega | (simp; done) | (simp; omega))] <;> first | assumption | (simp; done) | (simp [go_sem, *]; done))
  have c6_1_2 : w6.cell? ⟨w.heap.size + 1, 2, none⟩ = some (.int .i64 t) := (by rw [hb6.cell (p := ⟨w.heap.size + 1, 2, none⟩) (by first | omega | (simp; done) | (simp; omega))] <;> first | assumption | (simp; done) | (simp [go_sem, *]; done))
  have c6_2_0 : w6.cell? ⟨w1.heap.size, 0, none⟩ = some (.int .i64 0) := (by rw [hb6.cell (p := ⟨w1.heap.size, 0, none⟩) (by first | omega | (simp; done) | (simp; omega))] <;> first | assumption | (simp; done) | (simp [go_sem, *]; done))
  have c6_2_1 : w6.cell? ⟨w1.heap.size, 1, none⟩ = some (.int .i64 0) := (by rw [hb6.cell (p := ⟨w1.heap.size, 1, none⟩) (by first | omega | (simp; done) | (simp; omega))] <;> first | assumption | (simp; done) | (simp [go_sem, *]; done))
  have c6_2_2 : w6.cell? ⟨w1.heap.size, 2, none⟩ = some (.int .i64 0) := (by rw [hb6.cell (p := ⟨w1.heap.size, 2, none⟩) (by first | omega | (simp; done) | (simp; omega))] <;> first | assumption | (simp; done) | (simp [go_sem, *]; done))
  have c6_3_0 : w6.cell? ⟨w4.heap.size, 0, none⟩ = some (.int .i64 0) := (by rw [hb6.cell (p := ⟨w4.heap.size, 0, none⟩) (by first | omega | (simp; done) | (simp; omega))] <;> first | assumption | (simp; done) | (simp [go_sem, *]; done))
  have c6_3_1 : w6.cell? ⟨w4.heap.size, 1, none⟩ = some (.int .i64 0) := (by rw [hb6.cell (p := ⟨w4.heap.size, 1, none⟩) (by first | omega | (simp; done) | (simp; omega))] <;> first | assumption | (simp; done) | (simp [go_sem, *]; done))
  have c6_3_2 : w6.cell? ⟨w4.heap.size, 2, none⟩ = some (.int .i64 0) := (by rw [hb6.cell (p := ⟨w4.heap.size, 2, none⟩) (by first | omega | (simp; done) | (simp; omega))] <;> first | assumption | (simp; done) | (simp [go_sem, *]; done))
  have l6_0 : w.heap.size < w6.heap.size := (by omega)
  have n6_0 : w.heap.size ≠ w6.heap.size := (by omega)
  have l6_1 : w.heap.size + 1 < w6.heap.size := (by omega)
  have n6_1 : w.heap.size + 1 ≠ w6.heap.size := (by omega)
  have l6_2 : w1.heap.size < w6.heap.size := (by omega)
  have n6_2 : w1.heap.size ≠ w6.heap.size := (by omega)
  have l6_3 : w4.heap.size < w6.heap.size := (by omega)
  have n6_3 : w4.heap.size ≠ w6.heap.size := (by omega)
  have z6 : w.heap.size ≤ w6.heap.size := (by omega)
  have HB6 := Lib.hid (show Below w.heap.size w w6 by (repeat' (first | exact Below.refl _ _ | (refine Below.setCell ?_ (by (first | omega | (simp; done) | (simp; omega))) _) | (refine Below.alloc ?_ (by (first | omega | (simp; done) | (simp; omega))) _) | (refine Below.drew ?_) | (refine below_drewN ?_ _) | (refine Below.trans ?_ (Below.mono HBo (by (first | omega | (simp; done) | (simp; omega))))) | (refine Below.trans ?_ (Below.mono hb6 (by (first | omega | (simp; done) | (simp; omega))))))))
  clear HBo hb6 hs6 c5_0_0 c5_0_1 c5_0_2 c5_1_0 c5_1_1 c5_1_2 c5_2_0 c5_2_1 c5_2_2 c5_3_0 c5_3_1 c5_3_2 l5_0 n5_0 l5_1 n5_1 l5_2 n5_2 l5_3 n5_3 z5 HB5
  go_wp2_with fail
  go_ret
  have HBo := HB6.out
  refine ⟨rfl, ?_⟩
  (repeat' (first | exact Below.refl _ _ | (refine Below.setCell ?_ (by (first | omega | (simp; done) | (simp; omega))) _) | (refine Below.alloc ?_ (by (first | omega | (simp; done) | (simp; omega))) _) | (refine Below.drew ?_) | (refine below_drewN ?_ _) | (refine Below.trans ?_ (Below.mono HBo (by (first | omega | (simp; done) | (simp; omega)))))))

set_option maxRecDepth 100000 in
set_option maxHeartbeats 2000000 in
theorem law_back_fl {x y z u v t i : Int} (h1 : spotOf x y z = (0, 0, 0, false)) (h2 : indexOf x y z = (0, false)) (hm : mayB x y z = false) (g1 : ofOf u v t i = (0, 0, 0, false)) (g2 : spotB u v t = true) (i0 : i < 0) (w : World) :
    Calls Try.prog 7 #[.agg #[.int .i64 x, .int .i64 y, .int .i64 z], .agg #[.int .i64 u, .int .i64 v, .int .i64 t], .int .i64 i] w fun e w' => e = .returned (.bool true) ∧ Below w.heap.size w w' := by
  have H1 := Lib.hid h1
  have H2 := Lib.hid h2
  have HM := Lib.hid hm
  have G1 := Lib.hid g1
  have G2 := Lib.hid g2
  clear h1 h2 hm g1 g2
  go_enter Try.func7, Try.ntmps7
  go_wp2_with fail
  go_at_call 13
  refine (spot_c H1.out _).mono ?_
  rintro e w1 ⟨rfl, hb1⟩
  have hs1 := hb1.size
  try simp at hs1
  have c1_0_0 : w1.cell? ⟨w.heap.size, 0, none⟩ = some (.int .i64 x) := (by rw [hb1.cell (p := ⟨w.heap.size, 0, none⟩) (by first | omega | (simp; done) | (simp; omega))] <;> first | assumption | (simp; done) | (simp [go_sem, *]; done))
  have c1_0_1 : w1.cell? ⟨w.heap.size, 1, none⟩ = some (.int .i64 y) := (by rw [hb1.cell (p := ⟨w.heap.size, 1, none⟩) (by first | omega | (simp; done) | (simp; omega))] <;> first | assumption | (simp; done) | (simp [go_sem, *]; done))
  have c1_0_2 : w1.cell? ⟨w.heap.size, 2, none⟩ = some (.int .i64 z) := (by rw [hb1.cell (p := ⟨w.heap.size, 2, none⟩) (by first | omega | (simp; done) | (simp; omega))] <;> first | assumption | (simp; done) | (simp [go_sem, *]; done))
  have c1_1_0 : w1.cell? ⟨w.heap.size + 1, 0, none⟩ = some (.int .i64 u) := (by rw [hb1.cell (p := ⟨w.heap.size + 1, 0, none⟩) (by first | omega | (simp; done) | (simp; omega))] <;> first | assumption | (simp; done) | (simp [go_sem, *]; done))
  have c1_1_1 : w1.cell? ⟨w.heap.size + 1, 1, none⟩ = some (.int .i64 v) := (by rw [hb1.cell (p := ⟨w.heap.size + 1, 1, none⟩) (by first | omega | (simp; done) | (simp; omega))] <;> first | assumption | (simp; done) | (simp [go_sem, *]; done))
  have c1_1_2 : w1.cell? ⟨w.heap.size + 1, 2, none⟩ = some (.int .i64 t) := (by rw [hb1.cell (p := ⟨w.heap.size + 1, 2, none⟩) (by first | omega | (simp; done) | (simp; omega))] <;> first | assumption | (simp; done) | (simp [go_sem, *]; done))
  have l1_0 : w.heap.size < w1.heap.size := (by omega)
  have n1_0 : w.heap.size ≠ w1.heap.size := (by omega)
  have l1_1 : w.heap.size + 1 < w1.heap.size := (by omega)
  have n1_1 : w.heap.size + 1 ≠ w1.heap.size := (by omega)
  have z1 : w.heap.size ≤ w1.heap.size := (by omega)
  have HB1 := Lib.hid (show Below w.heap.size w w1 by (repeat' (first | exact Below.refl _ _ | (refine Below.setCell ?_ (by (first | omega | (simp; done) | (simp; omega))) _) | (refine Below.alloc ?_ (by (first | omega | (simp; done) | (simp; omega))) _) | (refine Below.drew ?_) | (refine below_drewN ?_ _) | (refine Below.trans ?_ (Below.mono hb1 (by (first | omega | (simp; done) | (simp; omega))))))))
  clear hb1 hs1
  go_wp2_with fail
  go_at_call 15
  refine (index_c H2.out _).mono ?_
  rintro e w2 ⟨rfl, hb2⟩
  have HBo := HB1.out
  have hs2 := hb2.size
  try simp at hs2
  have c2_0_0 : w2.cell? ⟨w.heap.size, 0, none⟩ = some (.int .i64 x) := (by rw [hb2.cell (p := ⟨w.heap.size, 0, none⟩) (by first | omega | (simp; done) | (simp; omega))] <;> first | assumption | (simp; done) | (simp [go_sem, *]; done))
  have c2_0_1 : w2.cell? ⟨w.heap.size, 1, none⟩ = some (.int .i64 y) := (by rw [hb2.cell (p := ⟨w.heap.size, 1, none⟩) (by first | omega | (simp; done) | (simp; omega))] <;> first | assumption | (simp; done) | (simp [go_sem, *]; done))
  have c2_0_2 : w2.cell? ⟨w.heap.size, 2, none⟩ = some (.int .i64 z) := (by rw [hb2.cell (p := ⟨w.heap.size, 2, none⟩) (by first | omega | (simp; done) | (simp; omega))] <;> first | assumption | (simp; done) | (simp [go_sem, *]; done))
  have c2_1_0 : w2.cell? ⟨w.heap.size + 1, 0, none⟩ = some (.int .i64 u) := (by rw [hb2.cell (p := ⟨w.heap.size + 1, 0, none⟩) (by first | omega | (simp; done) | (simp; omega))] <;> first | assumption | (simp; done) | (simp [go_sem, *]; done))
  have c2_1_1 : w2.cell? ⟨w.heap.size + 1, 1, none⟩ = some (.int .i64 v) := (by rw [hb2.cell (p := ⟨w.heap.size + 1, 1, none⟩) (by first | omega | (simp; done) | (simp; omega))] <;> first | assumption | (simp; done) | (simp [go_sem, *]; done))
  have c2_1_2 : w2.cell? ⟨w.heap.size + 1, 2, none⟩ = some (.int .i64 t) := (by rw [hb2.cell (p := ⟨w.heap.size + 1, 2, none⟩) (by first | omega | (simp; done) | (simp; omega))] <;> first | assumption | (simp; done) | (simp [go_sem, *]; done))
  have c2_2_0 : w2.cell? ⟨w1.heap.size, 0, none⟩ = some (.int .i64 0) := (by rw [hb2.cell (p := ⟨w1.heap.size, 0, none⟩) (by first | omega | (simp; done) | (simp; omega))] <;> first | assumption | (simp; done) | (simp [go_sem, *]; done))
  have c2_2_1 : w2.cell? ⟨w1.heap.size, 1, none⟩ = some (.int .i64 0) := (by rw [hb2.cell (p := ⟨w1.heap.size, 1, none⟩) (by first | omega | (simp; done) | (simp; omega))] <;> first | assumption | (simp; done) | (simp [go_sem, *]; done))
  have c2_2_2 : w2.cell? ⟨w1.heap.size, 2, none⟩ = some (.int .i64 0) := (by rw [hb2.cell (p := ⟨w1.heap.size, 2, none⟩) (by first | omega | (simp; done) | (simp; omega))] <;> first | assumption | (simp; done) | (simp [go_sem, *]; done))
  have l2_0 : w.heap.size < w2.heap.size := (by omega)
  have n2_0 : w.heap.size ≠ w2.heap.size := (by omega)
  have l2_1 : w.heap.size + 1 < w2.heap.size := (by omega)
  have n2_1 : w.heap.size + 1 ≠ w2.heap.size := (by omega)
  have l2_2 : w1.heap.size < w2.heap.size := (by omega)
  have n2_2 : w1.heap.size ≠ w2.heap.size := (by omega)
  have z2 : w.heap.size ≤ w2.heap.size := (by omega)
  have HB2 := Lib.hid (show Below w.heap.size w w2 by (repeat' (first | exact Below.refl _ _ | (refine Below.setCell ?_ (by (first | omega | (simp; done) | (simp; omega))) _) | (refine Below.alloc ?_ (by (first | omega | (simp; done) | (simp; omega))) _) | (refine Below.drew ?_) | (refine below_drewN ?_ _) | (refine Below.trans ?_ (Below.mono HBo (by (first | omega | (simp; done) | (simp; omega))))) | (refine Below.trans ?_ (Below.mono hb2 (by (first | omega | (simp; done) | (simp; omega))))))))
  clear HBo hb2 hs2 c1_0_0 c1_0_1 c1_0_2 c1_1_0 c1_1_1 c1_1_2 l1_0 n1_0 l1_1 n1_1 z1 HB1
  go_wp2_with fail
  go_at_call 19
  refine (may_b HM.out _).mono ?_
  rintro e w3 ⟨rfl, hb3⟩
  have HBo := HB2.out
  have hs3 := hb3.size
  try simp at hs3
  have c3_0_0 : w3.cell? ⟨w.heap.size, 0, none⟩ = some (.int .i64 x) := (by rw [hb3.cell (p := ⟨w.heap.size, 0, none⟩) (by first | omega | (simp; done) | (simp; omega))] <;> first | assumption | (simp; done) | (simp [go_sem, *]; done))
  have c3_0_1 : w3.cell? ⟨w.heap.size, 1, none⟩ = some (.int .i64 y) := (by rw [hb3.cell (p := ⟨w.heap.size, 1, none⟩) (by first | omega | (simp; done) | (simp; omega))] <;> first | assumption | (simp; done) | (simp [go_sem, *]; done))
  have c3_0_2 : w3.cell? ⟨w.heap.size, 2, none⟩ = some (.int .i64 z) := (by rw [hb3.cell (p := ⟨w.heap.size, 2, none⟩) (by first | omega | (simp; done) | (simp; omega))] <;> first | assumption | (simp; done) | (simp [go_sem, *]; done))
  have c3_1_0 : w3.cell? ⟨w.heap.size + 1, 0, none⟩ = some (.int .i64 u) := (by rw [hb3.cell (p := ⟨w.heap.size + 1, 0, none⟩) (by first | omega | (simp; done) | (simp; omega))] <;> first | assumption | (simp; done) | (simp [go_sem, *]; done))
  have c3_1_1 : w3.cell? ⟨w.heap.size + 1, 1, none⟩ = some (.int .i64 v) := (by rw [hb3.cell (p := ⟨w.heap.size + 1, 1, none⟩) (by first | omega | (simp; done) | (simp; omega))] <;> first | assumption | (simp; done) | (simp [go_sem, *]; done))
  have c3_1_2 : w3.cell? ⟨w.heap.size + 1, 2, none⟩ = some (.int .i64 t) := (by rw [hb3.cell (p := ⟨w.heap.size + 1, 2, none⟩) (by first | omega | (simp; done) | (simp; omega))] <;> first | assumption | (simp; done) | (simp [go_sem, *]; done))
  have c3_2_0 : w3.cell? ⟨w1.heap.size, 0, none⟩ = some (.int .i64 0) := (by rw [hb3.cell (p := ⟨w1.heap.size, 0, none⟩) (by first | omega | (simp; done) | (simp; omega))] <;> first | assumption | (simp; done) | (simp [go_sem, *]; done))
  have c3_2_1 : w3.cell? ⟨w1.heap.size, 1, none⟩ = some (.int .i64 0) := (by rw [hb3.cell (p := ⟨w1.heap.size, 1, none⟩) (by first | omega | (simp; done) | (simp; omega))] <;> first | assumption | (simp; done) | (simp [go_sem, *]; done))
  have c3_2_2 : w3.cell? ⟨w1.heap.size, 2, none⟩ = some (.int .i64 0) := (by rw [hb3.cell (p := ⟨w1.heap.size, 2, none⟩) (by first | omega | (simp; done) | (simp; omega))] <;> first | assumption | (simp; done) | (simp [go_sem, *]; done))
  have l3_0 : w.heap.size < w3.heap.size := (by omega)
  have n3_0 : w.heap.size ≠ w3.heap.size := (by omega)
  have l3_1 : w.heap.size + 1 < w3.heap.size := (by omega)
  have n3_1 : w.heap.size + 1 ≠ w3.heap.size := (by omega)
  have l3_2 : w1.heap.size < w3.heap.size := (by omega)
  have n3_2 : w1.heap.size ≠ w3.heap.size := (by omega)
  have z3 : w.heap.size ≤ w3.heap.size := (by omega)
  have HB3 := Lib.hid (show Below w.heap.size w w3 by (repeat' (first | exact Below.refl _ _ | (refine Below.setCell ?_ (by (first | omega | (simp; done) | (simp; omega))) _) | (refine Below.alloc ?_ (by (first | omega | (simp; done) | (simp; omega))) _) | (refine Below.drew ?_) | (refine below_drewN ?_ _) | (refine Below.trans ?_ (Below.mono HBo (by (first | omega | (simp; done) | (simp; omega))))) | (refine Below.trans ?_ (Below.mono hb3 (by (first | omega | (simp; done) | (simp; omega))))))))
  clear HBo hb3 hs3 c2_0_0 c2_0_1 c2_0_2 c2_1_0 c2_1_1 c2_1_2 c2_2_0 c2_2_1 c2_2_2 l2_0 n2_0 l2_1 n2_1 l2_2 n2_2 z2 HB2
  go_wp2_with fail
  go_at_call 17
  refine (of_c G1.out _).mono ?_
  rintro e w4 ⟨rfl, hb4⟩
  have HBo := HB3.out
  have hs4 := hb4.size
  try simp at hs4
  have c4_0_0 : w4.cell? ⟨w.heap.size, 0, none⟩ = some (.int .i64 x) := (by rw [hb4.cell (p := ⟨w.heap.size, 0, none⟩) (by first | omega | (simp; done) | (simp; omega))] <;> first | assumption | (simp; done) | (simp [go_sem, *]; done))
  have c4_0_1 : w4.cell? ⟨w.heap.size, 1, none⟩ = some (.int .i64 y) := (by rw [hb4.cell (p := ⟨w.heap.size, 1, none⟩) (by first | omega | (simp; done) | (simp; omega))] <;> first | assumption | (simp; done) | (simp [go_sem, *]; done))
  have c4_0_2 : w4.cell? ⟨w.heap.size, 2, none⟩ = some (.int .i64 z) := (by rw [hb4.cell (p := ⟨w.heap.size, 2, none⟩) (by first | omega | (simp; done) | (simp; omega))] <;> first | assumption | (simp; done) | (simp [go_sem, *]; done))
  have c4_1_0 : w4.cell? ⟨w.heap.size + 1, 0, none⟩ = some (.int .i64 u) := (by rw [hb4.cell (p := ⟨w.heap.size + 1, 0, none⟩) (by first | omega | (simp; done) | (simp; omega))] <;> first | assumption | (simp; done) | (simp [go_sem, *]; done))
  have c4_1_1 : w4.cell? ⟨w.heap.size + 1, 1, none⟩ = some (.int .i64 v) := (by rw [hb4.cell (p := ⟨w.heap.size + 1, 1, none⟩) (by first | omega | (simp; done) | (simp; omega))] <;> first | assumption | (simp; done) | (simp [go_sem, *]; done))
  have c4_1_2 : w4.cell? ⟨w.heap.size + 1, 2, none⟩ = some (.int .i64 t) := (by rw [hb4.cell (p := ⟨w.heap.size + 1, 2, none⟩) (by first | omega | (simp; done) | (simp; omega))] <;> first | assumption | (simp; done) | (simp [go_sem, *]; done))
  have c4_2_0 : w4.cell? ⟨w1.heap.size, 0, none⟩ = some (.int .i64 0) := (by rw [hb4.cell (p := ⟨w1.heap.size, 0, none⟩) (by first | omega | (simp; done) | (simp; omega))] <;> first | assumption | (simp; done) | (simp [go_sem, *]; done))
  have c4_2_1 : w4.cell? ⟨w1.heap.size, 1, none⟩ = some (.int .i64 0) := (by rw [hb4.cell (p := ⟨w1.heap.size, 1, none⟩) (by first | omega | (simp; done) | (simp; omega))] <;> first | assumption | (simp; done) | (simp [go_sem, *]; done))
  have c4_2_2 : w4.cell? ⟨w1.heap.size, 2, none⟩ = some (.int .i64 0) := (by rw [hb4.cell (p := ⟨w1.heap.size, 2, none⟩) (by first | omega | (simp; done) | (simp; omega))] <;> first | assumption | (simp; done) | (simp [go_sem, *]; done))
  have l4_0 : w.heap.size < w4.heap.size := (by omega)
  have n4_0 : w.heap.size ≠ w4.heap.size := (by omega)
  have l4_1 : w.heap.size + 1 < w4.heap.size := (by omega)
  have n4_1 : w.heap.size + 1 ≠ w4.heap.size := (by omega)
  have l4_2 : w1.heap.size < w4.heap.size := (by omega)
  have n4_2 : w1.heap.size ≠ w4.heap.size := (by omega)
  have z4 : w.heap.size ≤ w4.heap.size := (by omega)
  have HB4 := Lib.hid (show Below w.heap.size w w4 by (repeat' (first | exact Below.refl _ _ | (refine Below.setCell ?_ (by (first | omega | (simp; done) | (simp; omega))) _) | (refine Below.alloc ?_ (by (first | omega | (simp; done) | (simp; omega))) _) | (refine Below.drew ?_) | (refine below_drewN ?_ _) | (refine Below.trans ?_ (Below.mono HBo (by (first | omega | (simp; done) | (simp; omega))))) | (refine Below.trans ?_ (Below.mono hb4 (by (first | omega | (simp; done) | (simp; omega))))))))
  clear HBo hb4 hs4 c3_0_0 c3_0_1 c3_0_2 c3_1_0 c3_1_1 c3_1_2 c3_2_0 c3_2_1 c3_2_2 l3_0 n3_0 l3_1 n3_1 l3_2 n3_2 z3 HB3
  go_wp2_with fail
  go_at_call 21
  refine (maySpot_b G2.out _).mono ?_
  rintro e w5 ⟨rfl, hb5⟩
  have HBo := HB4.out
  have hs5 := hb5.size
  try simp at hs5
  have c5_0_0 : w5.cell? ⟨w.heap.size, 0, none⟩ = some (.int .i64 x) := (by rw [hb5.cell (p := ⟨w.heap.size, 0, none⟩) (by first | omega | (simp; done) | (simp; omega))] <;> first | assumption | (simp; done) | (simp [go_sem, *]; done))
  have c5_0_1 : w5.cell? ⟨w.heap.size, 1, none⟩ = some (.int .i64 y) := (by rw [hb5.cell (p := ⟨w.heap.size, 1, none⟩) (by first | omega | (simp; done) | (simp; omega))] <;> first | assumption | (simp; done) | (simp [go_sem, *]; done))
  have c5_0_2 : w5.cell? ⟨w.heap.size, 2, none⟩ = some (.int .i64 z) := (by rw [hb5.cell (p := ⟨w.heap.size, 2, none⟩) (by first | omega | (simp; done) | (simp; omega))] <;> first | assumption | (simp; done) | (simp [go_sem, *]; done))
  have c5_1_0 : w5.cell? ⟨w.heap.size + 1, 0, none⟩ = some (.int .i64 u) := (by rw [hb5.cell (p := ⟨w.heap.size + 1, 0, none⟩) (by first | omega | (simp; done) | (simp; omega))] <;> first | assumption | (simp; done) | (simp [go_sem, *]; done))
  have c5_1_1 : w5.cell? ⟨w.heap.size + 1, 1, none⟩ = some (.int .i64 v) := (by rw [hb5.cell (p := ⟨w.heap.size + 1, 1, none⟩) (by first | omega | (simp; done) | (simp; omega))] <;> first | assumption | (simp; done) | (simp [go_sem, *]; done))
  have c5_1_2 : w5.cell? ⟨w.heap.size + 1, 2, none⟩ = some (.int .i64 t) := (by rw [hb5.cell (p := ⟨w.heap.size + 1, 2, none⟩) (by first | omega | (simp; done) | (simp; omega))] <;> first | assumption | (simp; done) | (simp [go_sem, *]; done))
  have c5_2_0 : w5.cell? ⟨w1.heap.size, 0, none⟩ = some (.int .i64 0) := (by rw [hb5.cell (p := ⟨w1.heap.size, 0, none⟩) (by first | omega | (simp; done) | (simp; omega))] <;> first | assumption | (simp; done) | (simp [go_sem, *]; done))
  have c5_2_1 : w5.cell? ⟨w1.heap.size, 1, none⟩ = some (.int .i64 0) := (by rw [hb5.cell (p := ⟨w1.heap.size, 1, none⟩) (by first | omega | (simp; done) | (simp; omega))] <;> first | assumption | (simp; done) | (simp [go_sem, *]; done))
  have c5_2_2 : w5.cell? ⟨w1.heap.size, 2, none⟩ = some (.int .i64 0) := (by rw [hb5.cell (p := ⟨w1.heap.size, 2, none⟩) (by first | omega | (simp; done) | (simp; omega))] <;> first | assumption | (simp; done) | (simp [go_sem, *]; done))
  have c5_3_0 : w5.cell? ⟨w4.heap.size, 0, none⟩ = some (.int .i64 0) := (by rw [hb5.cell (p := ⟨w4.heap.size, 0, none⟩) (by first | omega | (simp; done) | (simp; omega))] <;> first | assumption | (simp; done) | (simp [go_sem, *]; done))
  have c5_3_1 : w5.cell? ⟨w4.heap.size, 1, none⟩ = some (.int .i64 0) := (by rw [hb5.cell (p := ⟨w4.heap.size, 1, none⟩) (by first | omega | (simp; done) | (simp; omega))] <;> first | assumption | (simp; done) | (simp [go_sem, *]; done))
  have c5_3_2 : w5.cell? ⟨w4.heap.size, 2, none⟩ = some (.int .i64 0) := (by rw [hb5.cell (p := ⟨w4.heap.size, 2, none⟩) (by first | omega | (simp; done) | (simp; omega))] <;> first | assumption | (simp; done) | (simp [go_sem, *]; done))
  have l5_0 : w.heap.size < w5.heap.size := (by omega)
  have n5_0 : w.heap.size ≠ w5.heap.size := (by omega)
  have l5_1 : w.heap.size + 1 < w5.heap.size := (by omega)
  have n5_1 : w.heap.size + 1 ≠ w5.heap.size := (by omega)
  have l5_2 : w1.heap.size < w5.heap.size := (by omega)
  have n5_2 : w1.heap.size ≠ w5.heap.size := (by omega)
  have l5_3 : w4.heap.size < w5.heap.size := (by omega)
  have n5_3 : w4.heap.size ≠ w5.heap.size := (by omega)
  have z5 : w.heap.size ≤ w5.heap.size := (by omega)
  have HB5 := Lib.hid (show Below w.heap.size w w5 by (repeat' (first | exact Below.refl _ _ | (refine Below.setCell ?_ (by (first | omega | (simp; done) | (simp; omega))) _) | (refine Below.alloc ?_ (by (first | omega | (simp; done) | (simp; omega))) _) | (refine Below.drew ?_) | (refine below_drewN ?_ _) | (refine Below.trans ?_ (Below.mono HBo (by (first | omega | (simp; done) | (simp; omega))))) | (refine Below.trans ?_ (Below.mono hb5 (by (first | omega | (simp; done) | (simp; omega))))))))
  clear HBo hb5 hs5 c4_0_0 c4_0_1 c4_0_2 c4_1_0 c4_1_1 c4_1_2 c4_2_0 c4_2_1 c4_2_2 l4_0 n4_0 l4_1 n4_1 l4_2 n4_2 z4 HB4
  go_wp2_with fail
  go_at_call 23
  refine (works_c _).mono ?_
  rintro e w6 ⟨rfl, hb6⟩
  have HBo := HB5.out
  have hs6 := hb6.size
  try simp at hs6
  have c6_0_0 : w6.cell? ⟨w.heap.size, 0, none⟩ = some (.int .i64 x) := (by rw [hb6.cell (p := ⟨w.heap.size, 0, none⟩) (by first | omega | (simp; done) | (simp; omega))] <;> first | assumption | (simp; done) | (simp [go_sem, *]; done))
  have c6_0_1 : w6.cell? ⟨w.heap.size, 1, none⟩ = some (.int .i64 y) := (by rw [hb6.cell (p := ⟨w.heap.size, 1, none⟩) (by first | omega | (simp; done) | (simp; omega))] <;> first | assumption | (simp; done) | (simp [go_sem, *]; done))
  have c6_0_2 : w6.cell? ⟨w.heap.size, 2, none⟩ = some (.int .i64 z) := (by rw [hb6.cell (p := ⟨w.heap.size, 2, none⟩) (by first | omega | (simp; done) | (simp; omega))] <;> first | assumption | (simp; done) | (simp [go_sem, *]; done))
  have c6_1_0 : w6.cell? ⟨w.heap.size + 1, 0, none⟩ = some (.int .i64 u) := (by rw [hb6.cell (p := ⟨w.heap.size + 1, 0, none⟩) (by first | omega | (simp; done) | (simp; omega))] <;> first | assumption | (simp; done) | (simp [go_sem, *]; done))
  have c6_1_1 : w6.cell? ⟨w.heap.size + 1, 1, none⟩ = some (.int .i64 v) := (by rw [hb6.cell (p := ⟨w.heap.size + 1, 1, none⟩) (by first | omega | (simp; done) | (simp; omega))] <;> first | assumption | (simp; done) | (simp [go_sem, *]; done))
  have c6_1_2 : w6.cell? ⟨w.heap.size + 1, 2, none⟩ = some (.int .i64 t) := (by rw [hb6.cell (p := ⟨w.heap.size + 1, 2, none⟩) (by first | omega | (simp; done) | (simp; omega))] <;> first | assumption | (simp; done) | (simp [go_sem, *]; done))
  have c6_2_0 : w6.cell? ⟨w1.heap.size, 0, none⟩ = some (.int .i64 0) := (by rw [hb6.cell (p := ⟨w1.heap.size, 0, none⟩) (by first | omega | (simp; done) | (simp; omega))] <;> first | assumption | (simp; done) | (simp [go_sem, *]; done))
  have c6_2_1 : w6.cell? ⟨w1.heap.size, 1, none⟩ = some (.int .i64 0) := (by rw [hb6.cell (p := ⟨w1.heap.size, 1, none⟩) (by first | omega | (simp; done) | (simp; omega))] <;> first | assumption | (simp; done) | (simp [go_sem, *]; done))
  have c6_2_2 : w6.cell? ⟨w1.heap.size, 2, none⟩ = some (.int .i64 0) := (by rw [hb6.cell (p := ⟨w1.heap.size, 2, none⟩) (by first | omega | (simp; done) | (simp; omega))] <;> first | assumption | (simp; done) | (simp [go_sem, *]; done))
  have c6_3_0 : w6.cell? ⟨w4.heap.size, 0, none⟩ = some (.int .i64 0) := (by rw [hb6.cell (p := ⟨w4.heap.size, 0, none⟩) (by first | omega | (simp; done) | (simp; omega))] <;> first | assumption | (simp; done) | (simp [go_sem, *]; done))
  have c6_3_1 : w6.cell? ⟨w4.heap.size, 1, none⟩ = some (.int .i64 0) := (by rw [hb6.cell (p := ⟨w4.heap.size, 1, none⟩) (by first | omega | (simp; done) | (simp; omega))] <;> first | assumption | (simp; done) | (simp [go_sem, *]; done))
  have c6_3_2 : w6.cell? ⟨w4.heap.size, 2, none⟩ = some (.int .i64 0) := (by rw [hb6.cell (p := ⟨w4.heap.size, 2, none⟩) (by first | omega | (simp; done) | (simp; omega))] <;> first | assumption | (simp; done) | (simp [go_sem, *]; done))
  have l6_0 : w.heap.size < w6.heap.size := (by omega)
  have n6_0 : w.heap.size ≠ w6.heap.size := (by omega)
  have l6_1 : w.heap.size + 1 < w6.heap.size := (by omega)
  have n6_1 : w.heap.size + 1 ≠ w6.heap.size := (by omega)
  have l6_2 : w1.heap.size < w6.heap.size := (by omega)
  have n6_2 : w1.heap.size ≠ w6.heap.size := (by omega)
  have l6_3 : w4.heap.size < w6.heap.size := (by omega)
  have n6_3 : w4.heap.size ≠ w6.heap.size := (by omega)
  have z6 : w.heap.size ≤ w6.heap.size := (by omega)
  have HB6 := Lib.hid (show Below w.heap.size w w6 by (repeat' (first | exact Below.refl _ _ | (refine Below.setCell ?_ (by (first | omega | (simp; done) | (simp; omega))) _) | (refine Below.alloc ?_ (by (first | omega | (simp; done) | (simp; omega))) _) | (refine Below.drew ?_) | (refine below_drewN ?_ _) | (refine Below.trans ?_ (Below.mono HBo (by (first | omega | (simp; done) | (simp; omega))))) | (refine Below.trans ?_ (Below.mono hb6 (by (first | omega | (simp; done) | (simp; omega))))))))
  clear HBo hb6 hs6 c5_0_0 c5_0_1 c5_0_2 c5_1_0 c5_1_1 c5_1_2 c5_2_0 c5_2_1 c5_2_2 c5_3_0 c5_3_1 c5_3_2 l5_0 n5_0 l5_1 n5_1 l5_2 n5_2 l5_3 n5_3 z5 HB5
  go_wp2_with fail
  go_ret
  have HBo := HB6.out
  refine ⟨rfl, ?_⟩
  (repeat' (first | exact Below.refl _ _ | (refine Below.setCell ?_ (by (first | omega | (simp; done) | (simp; omega))) _) | (refine Below.alloc ?_ (by (first | omega | (simp; done) | (simp; omega))) _) | (refine Below.drew ?_) | (refine below_drewN ?_ _) | (refine Below.trans ?_ (Below.mono HBo (by (first | omega | (simp; done) | (simp; omega)))))))

set_option maxRecDepth 100000 in
set_option maxHeartbeats 2000000 in
theorem law_back_fg {x y z u v t i : Int} (h1 : spotOf x y z = (0, 0, 0, false)) (h2 : indexOf x y z = (0, false)) (hm : mayB x y z = false) (g1 : ofOf u v t i = (0, 0, 0, false)) (g2 : spotB u v t = true) (i0 : 0 ≤ i) (i1 : 4096 ≤ i) (w : World) :
    Calls Try.prog 7 #[.agg #[.int .i64 x, .int .i64 y, .int .i64 z], .agg #[.int .i64 u, .int .i64 v, .int .i64 t], .int .i64 i] w fun e w' => e = .returned (.bool true) ∧ Below w.heap.size w w' := by
  have H1 := Lib.hid h1
  have H2 := Lib.hid h2
  have HM := Lib.hid hm
  have G1 := Lib.hid g1
  have G2 := Lib.hid g2
  clear h1 h2 hm g1 g2
  go_enter Try.func7, Try.ntmps7
  go_wp2_with fail
  go_at_call 13
  refine (spot_c H1.out _).mono ?_
  rintro e w1 ⟨rfl, hb1⟩
  have hs1 := hb1.size
  try simp at hs1
  have c1_0_0 : w1.cell? ⟨w.heap.size, 0, none⟩ = some (.int .i64 x) := (by rw [hb1.cell (p := ⟨w.heap.size, 0, none⟩) (by first | omega | (simp; done) | (simp; omega))] <;> first | assumption | (simp; done) | (simp [go_sem, *]; done))
  have c1_0_1 : w1.cell? ⟨w.heap.size, 1, none⟩ = some (.int .i64 y) := (by rw [hb1.cell (p := ⟨w.heap.size, 1, none⟩) (by first | omega | (simp; done) | (simp; omega))] <;> first | assumption | (simp; done) | (simp [go_sem, *]; done))
  have c1_0_2 : w1.cell? ⟨w.heap.size, 2, none⟩ = some (.int .i64 z) := (by rw [hb1.cell (p := ⟨w.heap.size, 2, none⟩) (by first | omega | (simp; done) | (simp; omega))] <;> first | assumption | (simp; done) | (simp [go_sem, *]; done))
  have c1_1_0 : w1.cell? ⟨w.heap.size + 1, 0, none⟩ = some (.int .i64 u) := (by rw [hb1.cell (p := ⟨w.heap.size + 1, 0, none⟩) (by first | omega | (simp; done) | (simp; omega))] <;> first | assumption | (simp; done) | (simp [go_sem, *]; done))
  have c1_1_1 : w1.cell? ⟨w.heap.size + 1, 1, none⟩ = some (.int .i64 v) := (by rw [hb1.cell (p := ⟨w.heap.size + 1, 1, none⟩) (by first | omega | (simp; done) | (simp; omega))] <;> first | assumption | (simp; done) | (simp [go_sem, *]; done))
  have c1_1_2 : w1.cell? ⟨w.heap.size + 1, 2, none⟩ = some (.int .i64 t) := (by rw [hb1.cell (p := ⟨w.heap.size + 1, 2, none⟩) (by first | omega | (simp; done) | (simp; omega))] <;> first | assumption | (simp; done) | (simp [go_sem, *]; done))
  have l1_0 : w.heap.size < w1.heap.size := (by omega)
  have n1_0 : w.heap.size ≠ w1.heap.size := (by omega)
  have l1_1 : w.heap.size + 1 < w1.heap.size := (by omega)
  have n1_1 : w.heap.size + 1 ≠ w1.heap.size := (by omega)
  have z1 : w.heap.size ≤ w1.heap.size := (by omega)
  have HB1 := Lib.hid (show Below w.heap.size w w1 by (repeat' (first | exact Below.refl _ _ | (refine Below.setCell ?_ (by (first | omega | (simp; done) | (simp; omega))) _) | (refine Below.alloc ?_ (by (first | omega | (simp; done) | (simp; omega))) _) | (refine Below.drew ?_) | (refine below_drewN ?_ _) | (refine Below.trans ?_ (Below.mono hb1 (by (first | omega | (simp; done) | (simp; omega))))))))
  clear hb1 hs1
  go_wp2_with fail
  go_at_call 15
  refine (index_c H2.out _).mono ?_
  rintro e w2 ⟨rfl, hb2⟩
  have HBo := HB1.out
  have hs2 := hb2.size
  try simp at hs2
  have c2_0_0 : w2.cell? ⟨w.heap.size, 0, none⟩ = some (.int .i64 x) := (by rw [hb2.cell (p := ⟨w.heap.size, 0, none⟩) (by first | omega | (simp; done) | (simp; omega))] <;> first | assumption | (simp; done) | (simp [go_sem, *]; done))
  have c2_0_1 : w2.cell? ⟨w.heap.size, 1, none⟩ = some (.int .i64 y) := (by rw [hb2.cell (p := ⟨w.heap.size, 1, none⟩) (by first | omega | (simp; done) | (simp; omega))] <;> first | assumption | (simp; done) | (simp [go_sem, *]; done))
  have c2_0_2 : w2.cell? ⟨w.heap.size, 2, none⟩ = some (.int .i64 z) := (by rw [hb2.cell (p := ⟨w.heap.size, 2, none⟩) (by first | omega | (simp; done) | (simp; omega))] <;> first | assumption | (simp; done) | (simp [go_sem, *]; done))
  have c2_1_0 : w2.cell? ⟨w.heap.size + 1, 0, none⟩ = some (.int .i64 u) := (by rw [hb2.cell (p := ⟨w.heap.size + 1, 0, none⟩) (by first | omega | (simp; done) | (simp; omega))] <;> first | assumption | (simp; done) | (simp [go_sem, *]; done))
  have c2_1_1 : w2.cell? ⟨w.heap.size + 1, 1, none⟩ = some (.int .i64 v) := (by rw [hb2.cell (p := ⟨w.heap.size + 1, 1, none⟩) (by first | omega | (simp; done) | (simp; omega))] <;> first | assumption | (simp; done) | (simp [go_sem, *]; done))
  have c2_1_2 : w2.cell? ⟨w.heap.size + 1, 2, none⟩ = some (.int .i64 t) := (by rw [hb2.cell (p := ⟨w.heap.size + 1, 2, none⟩) (by first | omega | (simp; done) | (simp; omega))] <;> first | assumption | (simp; done) | (simp [go_sem, *]; done))
  have c2_2_0 : w2.cell? ⟨w1.heap.size, 0, none⟩ = some (.int .i64 0) := (by rw [hb2.cell (p := ⟨w1.heap.size, 0, none⟩) (by first | omega | (simp; done) | (simp; omega))] <;> first | assumption | (simp; done) | (simp [go_sem, *]; done))
  have c2_2_1 : w2.cell? ⟨w1.heap.size, 1, none⟩ = some (.int .i64 0) := (by rw [hb2.cell (p := ⟨w1.heap.size, 1, none⟩) (by first | omega | (simp; done) | (simp; omega))] <;> first | assumption | (simp; done) | (simp [go_sem, *]; done))
  have c2_2_2 : w2.cell? ⟨w1.heap.size, 2, none⟩ = some (.int .i64 0) := (by rw [hb2.cell (p := ⟨w1.heap.size, 2, none⟩) (by first | omega | (simp; done) | (simp; omega))] <;> first | assumption | (simp; done) | (simp [go_sem, *]; done))
  have l2_0 : w.heap.size < w2.heap.size := (by omega)
  have n2_0 : w.heap.size ≠ w2.heap.size := (by omega)
  have l2_1 : w.heap.size + 1 < w2.heap.size := (by omega)
  have n2_1 : w.heap.size + 1 ≠ w2.heap.size := (by omega)
  have l2_2 : w1.heap.size < w2.heap.size := (by omega)
  have n2_2 : w1.heap.size ≠ w2.heap.size := (by omega)
  have z2 : w.heap.size ≤ w2.heap.size := (by omega)
  have HB2 := Lib.hid (show Below w.heap.size w w2 by (repeat' (first | exact Below.refl _ _ | (refine Below.setCell ?_ (by (first | omega | (simp; done) | (simp; omega))) _) | (refine Below.alloc ?_ (by (first | omega | (simp; done) | (simp; omega))) _) | (refine Below.drew ?_) | (refine below_drewN ?_ _) | (refine Below.trans ?_ (Below.mono HBo (by (first | omega | (simp; done) | (simp; omega))))) | (refine Below.trans ?_ (Below.mono hb2 (by (first | omega | (simp; done) | (simp; omega))))))))
  clear HBo hb2 hs2 c1_0_0 c1_0_1 c1_0_2 c1_1_0 c1_1_1 c1_1_2 l1_0 n1_0 l1_1 n1_1 z1 HB1
  go_wp2_with fail
  go_at_call 19
  refine (may_b HM.out _).mono ?_
  rintro e w3 ⟨rfl, hb3⟩
  have HBo := HB2.out
  have hs3 := hb3.size
  try simp at hs3
  have c3_0_0 : w3.cell? ⟨w.heap.size, 0, none⟩ = some (.int .i64 x) := (by rw [hb3.cell (p := ⟨w.heap.size, 0, none⟩) (by first | omega | (simp; done) | (simp; omega))] <;> first | assumption | (simp; done) | (simp [go_sem, *]; done))
  have c3_0_1 : w3.cell? ⟨w.heap.size, 1, none⟩ = some (.int .i64 y) := (by rw [hb3.cell (p := ⟨w.heap.size, 1, none⟩) (by first | omega | (simp; done) | (simp; omega))] <;> first | assumption | (simp; done) | (simp [go_sem, *]; done))
  have c3_0_2 : w3.cell? ⟨w.heap.size, 2, none⟩ = some (.int .i64 z) := (by rw [hb3.cell (p := ⟨w.heap.size, 2, none⟩) (by first | omega | (simp; done) | (simp; omega))] <;> first | assumption | (simp; done) | (simp [go_sem, *]; done))
  have c3_1_0 : w3.cell? ⟨w.heap.size + 1, 0, none⟩ = some (.int .i64 u) := (by rw [hb3.cell (p := ⟨w.heap.size + 1, 0, none⟩) (by first | omega | (simp; done) | (simp; omega))] <;> first | assumption | (simp; done) | (simp [go_sem, *]; done))
  have c3_1_1 : w3.cell? ⟨w.heap.size + 1, 1, none⟩ = some (.int .i64 v) := (by rw [hb3.cell (p := ⟨w.heap.size + 1, 1, none⟩) (by first | omega | (simp; done) | (simp; omega))] <;> first | assumption | (simp; done) | (simp [go_sem, *]; done))
  have c3_1_2 : w3.cell? ⟨w.heap.size + 1, 2, none⟩ = some (.int .i64 t) := (by rw [hb3.cell (p := ⟨w.heap.size + 1, 2, none⟩) (by first | omega | (simp; done) | (simp; omega))] <;> first | assumption | (simp; done) | (simp [go_sem, *]; done))
  have c3_2_0 : w3.cell? ⟨w1.heap.size, 0, none⟩ = some (.int .i64 0) := (by rw [hb3.cell (p := ⟨w1.heap.size, 0, none⟩) (by first | omega | (simp; done) | (simp; omega))] <;> first | assumption | (simp; done) | (simp [go_sem, *]; done))
  have c3_2_1 : w3.cell? ⟨w1.heap.size, 1, none⟩ = some (.int .i64 0) := (by rw [hb3.cell (p := ⟨w1.heap.size, 1, none⟩) (by first | omega | (simp; done) | (simp; omega))] <;> first | assumption | (simp; done) | (simp [go_sem, *]; done))
  have c3_2_2 : w3.cell? ⟨w1.heap.size, 2, none⟩ = some (.int .i64 0) := (by rw [hb3.cell (p := ⟨w1.heap.size, 2, none⟩) (by first | omega | (simp; done) | (simp; omega))] <;> first | assumption | (simp; done) | (simp [go_sem, *]; done))
  have l3_0 : w.heap.size < w3.heap.size := (by omega)
  have n3_0 : w.heap.size ≠ w3.heap.size := (by omega)
  have l3_1 : w.heap.size + 1 < w3.heap.size := (by omega)
  have n3_1 : w.heap.size + 1 ≠ w3.heap.size := (by omega)
  have l3_2 : w1.heap.size < w3.heap.size := (by omega)
  have n3_2 : w1.heap.size ≠ w3.heap.size := (by omega)
  have z3 : w.heap.size ≤ w3.heap.size := (by omega)
  have HB3 := Lib.hid (show Below w.heap.size w w3 by (repeat' (first | exact Below.refl _ _ | (refine Below.setCell ?_ (by (first | omega | (simp; done) | (simp; omega))) _) | (refine Below.alloc ?_ (by (first | omega | (simp; done) | (simp; omega))) _) | (refine Below.drew ?_) | (refine below_drewN ?_ _) | (refine Below.trans ?_ (Below.mono HBo (by (first | omega | (simp; done) | (simp; omega))))) | (refine Below.trans ?_ (Below.mono hb3 (by (first | omega | (simp; done) | (simp; omega))))))))
  clear HBo hb3 hs3 c2_0_0 c2_0_1 c2_0_2 c2_1_0 c2_1_1 c2_1_2 c2_2_0 c2_2_1 c2_2_2 l2_0 n2_0 l2_1 n2_1 l2_2 n2_2 z2 HB2
  go_wp2_with fail
  go_at_call 17
  refine (of_c G1.out _).mono ?_
  rintro e w4 ⟨rfl, hb4⟩
  have HBo := HB3.out
  have hs4 := hb4.size
  try simp at hs4
  have c4_0_0 : w4.cell? ⟨w.heap.size, 0, none⟩ = some (.int .i64 x) := (by rw [hb4.cell (p := ⟨w.heap.size, 0, none⟩) (by first | omega | (simp; done) | (simp; omega))] <;> first | assumption | (simp; done) | (simp [go_sem, *]; done))
  have c4_0_1 : w4.cell? ⟨w.heap.size, 1, none⟩ = some (.int .i64 y) := (by rw [hb4.cell (p := ⟨w.heap.size, 1, none⟩) (by first | omega | (simp; done) | (simp; omega))] <;> first | assumption | (simp; done) | (simp [go_sem, *]; done))
  have c4_0_2 : w4.cell? ⟨w.heap.size, 2, none⟩ = some (.int .i64 z) := (by rw [hb4.cell (p := ⟨w.heap.size, 2, none⟩) (by first | omega | (simp; done) | (simp; omega))] <;> first | assumption | (simp; done) | (simp [go_sem, *]; done))
  have c4_1_0 : w4.cell? ⟨w.heap.size + 1, 0, none⟩ = some (.int .i64 u) := (by rw [hb4.cell (p := ⟨w.heap.size + 1, 0, none⟩) (by first | omega | (simp; done) | (simp; omega))] <;> first | assumption | (simp; done) | (simp [go_sem, *]; done))
  have c4_1_1 : w4.cell? ⟨w.heap.size + 1, 1, none⟩ = some (.int .i64 v) := (by rw [hb4.cell (p := ⟨w.heap.size + 1, 1, none⟩) (by first | omega | (simp; done) | (simp; omega))] <;> first | assumption | (simp; done) | (simp [go_sem, *]; done))
  have c4_1_2 : w4.cell? ⟨w.heap.size + 1, 2, none⟩ = some (.int .i64 t) := (by rw [hb4.cell (p := ⟨w.heap.size + 1, 2, none⟩) (by first | omega | (simp; done) | (simp; omega))] <;> first | assumption | (simp; done) | (simp [go_sem, *]; done))
  have c4_2_0 : w4.cell? ⟨w1.heap.size, 0, none⟩ = some (.int .i64 0) := (by rw [hb4.cell (p := ⟨w1.heap.size, 0, none⟩) (by first | omega | (simp; done) | (simp; omega))] <;> first | assumption | (simp; done) | (simp [go_sem, *]; done))
  have c4_2_1 : w4.cell? ⟨w1.heap.size, 1, none⟩ = some (.int .i64 0) := (by rw [hb4.cell (p := ⟨w1.heap.size, 1, none⟩) (by first | omega | (simp; done) | (simp; omega))] <;> first | assumption | (simp; done) | (simp [go_sem, *]; done))
  have c4_2_2 : w4.cell? ⟨w1.heap.size, 2, none⟩ = some (.int .i64 0) := (by rw [hb4.cell (p := ⟨w1.heap.size, 2, none⟩) (by first | omega | (simp; done) | (simp; omega))] <;> first | assumption | (simp; done) | (simp [go_sem, *]; done))
  have l4_0 : w.heap.size < w4.heap.size := (by omega)
  have n4_0 : w.heap.size ≠ w4.heap.size := (by omega)
  have l4_1 : w.heap.size + 1 < w4.heap.size := (by omega)
  have n4_1 : w.heap.size + 1 ≠ w4.heap.size := (by omega)
  have l4_2 : w1.heap.size < w4.heap.size := (by omega)
  have n4_2 : w1.heap.size ≠ w4.heap.size := (by omega)
  have z4 : w.heap.size ≤ w4.heap.size := (by omega)
  have HB4 := Lib.hid (show Below w.heap.size w w4 by (repeat' (first | exact Below.refl _ _ | (refine Below.setCell ?_ (by (first | omega | (simp; done) | (simp; omega))) _) | (refine Below.alloc ?_ (by (first | omega | (simp; done) | (simp; omega))) _) | (refine Below.drew ?_) | (refine below_drewN ?_ _) | (refine Below.trans ?_ (Below.mono HBo (by (first | omega | (simp; done) | (simp; omega))))) | (refine Below.trans ?_ (Below.mono hb4 (by (first | omega | (simp; done) | (simp; omega))))))))
  clear HBo hb4 hs4 c3_0_0 c3_0_1 c3_0_2 c3_1_0 c3_1_1 c3_1_2 c3_2_0 c3_2_1 c3_2_2 l3_0 n3_0 l3_1 n3_1 l3_2 n3_2 z3 HB3
  go_wp2_with fail
  go_at_call 21
  refine (maySpot_b G2.out _).mono ?_
  rintro e w5 ⟨rfl, hb5⟩
  have HBo := HB4.out
  have hs5 := hb5.size
  try simp at hs5
  have c5_0_0 : w5.cell? ⟨w.heap.size, 0, none⟩ = some (.int .i64 x) := (by rw [hb5.cell (p := ⟨w.heap.size, 0, none⟩) (by first | omega | (simp; done) | (simp; omega))] <;> first | assumption | (simp; done) | (simp [go_sem, *]; done))
  have c5_0_1 : w5.cell? ⟨w.heap.size, 1, none⟩ = some (.int .i64 y) := (by rw [hb5.cell (p := ⟨w.heap.size, 1, none⟩) (by first | omega | (simp; done) | (simp; omega))] <;> first | assumption | (simp; done) | (simp [go_sem, *]; done))
  have c5_0_2 : w5.cell? ⟨w.heap.size, 2, none⟩ = some (.int .i64 z) := (by rw [hb5.cell (p := ⟨w.heap.size, 2, none⟩) (by first | omega | (simp; done) | (simp; omega))] <;> first | assumption | (simp; done) | (simp [go_sem, *]; done))
  have c5_1_0 : w5.cell? ⟨w.heap.size + 1, 0, none⟩ = some (.int .i64 u) := (by rw [hb5.cell (p := ⟨w.heap.size + 1, 0, none⟩) (by first | omega | (simp; done) | (simp; omega))] <;> first | assumption | (simp; done) | (simp [go_sem, *]; done))
  have c5_1_1 : w5.cell? ⟨w.heap.size + 1, 1, none⟩ = some (.int .i64 v) := (by rw [hb5.cell (p := ⟨w.heap.size + 1, 1, none⟩) (by first | omega | (simp; done) | (simp; omega))] <;> first | assumption | (simp; done) | (simp [go_sem, *]; done))
  have c5_1_2 : w5.cell? ⟨w.heap.size + 1, 2, none⟩ = some (.int .i64 t) := (by rw [hb5.cell (p := ⟨w.heap.size + 1, 2, none⟩) (by first | omega | (simp; done) | (simp; omega))] <;> first | assumption | (simp; done) | (simp [go_sem, *]; done))
  have c5_2_0 : w5.cell? ⟨w1.heap.size, 0, none⟩ = some (.int .i64 0) := (by rw [hb5.cell (p := ⟨w1.heap.size, 0, none⟩) (by first | omega | (simp; done) | (simp; omega))] <;> first | assumption | (simp; done) | (simp [go_sem, *]; done))
  have c5_2_1 : w5.cell? ⟨w1.heap.size, 1, none⟩ = some (.int .i64 0) := (by rw [hb5.cell (p := ⟨w1.heap.size, 1, none⟩) (by first | omega | (simp; done) | (simp; omega))] <;> first | assumption | (simp; done) | (simp [go_sem, *]; done))
  have c5_2_2 : w5.cell? ⟨w1.heap.size, 2, none⟩ = some (.int .i64 0) := (by rw [hb5.cell (p := ⟨w1.heap.size, 2, none⟩) (by first | omega | (simp; done) | (simp; omega))] <;> first | assumption | (simp; done) | (simp [go_sem, *]; done))
  have c5_3_0 : w5.cell? ⟨w4.heap.size, 0, none⟩ = some (.int .i64 0) := (by rw [hb5.cell (p := ⟨w4.heap.size, 0, none⟩) (by first | omega | (simp; done) | (simp; omega))] <;> first | assumption | (simp; done) | (simp [go_sem, *]; done))
  have c5_3_1 : w5.cell? ⟨w4.heap.size, 1, none⟩ = some (.int .i64 0) := (by rw [hb5.cell (p := ⟨w4.heap.size, 1, none⟩) (by first | omega | (simp; done) | (simp; omega))] <;> first | assumption | (simp; done) | (simp [go_sem, *]; done))
  have c5_3_2 : w5.cell? ⟨w4.heap.size, 2, none⟩ = some (.int .i64 0) := (by rw [hb5.cell (p := ⟨w4.heap.size, 2, none⟩) (by first | omega | (simp; done) | (simp; omega))] <;> first | assumption | (simp; done) | (simp [go_sem, *]; done))
  have l5_0 : w.heap.size < w5.heap.size := (by omega)
  have n5_0 : w.heap.size ≠ w5.heap.size := (by omega)
  have l5_1 : w.heap.size + 1 < w5.heap.size := (by omega)
  have n5_1 : w.heap.size + 1 ≠ w5.heap.size := (by omega)
  have l5_2 : w1.heap.size < w5.heap.size := (by omega)
  have n5_2 : w1.heap.size ≠ w5.heap.size := (by omega)
  have l5_3 : w4.heap.size < w5.heap.size := (by omega)
  have n5_3 : w4.heap.size ≠ w5.heap.size := (by omega)
  have z5 : w.heap.size ≤ w5.heap.size := (by omega)
  have HB5 := Lib.hid (show Below w.heap.size w w5 by (repeat' (first | exact Below.refl _ _ | (refine Below.setCell ?_ (by (first | omega | (simp; done) | (simp; omega))) _) | (refine Below.alloc ?_ (by (first | omega | (simp; done) | (simp; omega))) _) | (refine Below.drew ?_) | (refine below_drewN ?_ _) | (refine Below.trans ?_ (Below.mono HBo (by (first | omega | (simp; done) | (simp; omega))))) | (refine Below.trans ?_ (Below.mono hb5 (by (first | omega | (simp; done) | (simp; omega))))))))
  clear HBo hb5 hs5 c4_0_0 c4_0_1 c4_0_2 c4_1_0 c4_1_1 c4_1_2 c4_2_0 c4_2_1 c4_2_2 l4_0 n4_0 l4_1 n4_1 l4_2 n4_2 z4 HB4
  go_wp2_with fail
  go_at_call 23
  refine (works_c _).mono ?_
  rintro e w6 ⟨rfl, hb6⟩
  have HBo := HB5.out
  have hs6 := hb6.size
  try simp at hs6
  have c6_0_0 : w6.cell? ⟨w.heap.size, 0, none⟩ = some (.int .i64 x) := (by rw [hb6.cell (p := ⟨w.heap.size, 0, none⟩) (by first | omega | (simp; done) | (simp; omega))] <;> first | assumption | (simp; done) | (simp [go_sem, *]; done))
  have c6_0_1 : w6.cell? ⟨w.heap.size, 1, none⟩ = some (.int .i64 y) := (by rw [hb6.cell (p := ⟨w.heap.size, 1, none⟩) (by first | omega | (simp; done) | (simp; omega))] <;> first | assumption | (simp; done) | (simp [go_sem, *]; done))
  have c6_0_2 : w6.cell? ⟨w.heap.size, 2, none⟩ = some (.int .i64 z) := (by rw [hb6.cell (p := ⟨w.heap.size, 2, none⟩) (by first | omega | (simp; done) | (simp; omega))] <;> first | assumption | (simp; done) | (simp [go_sem, *]; done))
  have c6_1_0 : w6.cell? ⟨w.heap.size + 1, 0, none⟩ = some (.int .i64 u) := (by rw [hb6.cell (p := ⟨w.heap.size + 1, 0, none⟩) (by first | omega | (simp; done) | (simp; omega))] <;> first | assumption | (simp; done) | (simp [go_sem, *]; done))
  have c6_1_1 : w6.cell? ⟨w.heap.size + 1, 1, none⟩ = some (.int .i64 v) := (by rw [hb6.cell (p := ⟨w.heap.size + 1, 1, none⟩) (by first | omega | (simp; done) | (simp; omega))] <;> first | assumption | (simp; done) | (simp [go_sem, *]; done))
  have c6_1_2 : w6.cell? ⟨w.heap.size + 1, 2, none⟩ = some (.int .i64 t) := (by rw [hb6.cell (p := ⟨w.heap.size + 1, 2, none⟩) (by first | omega | (simp; done) | (simp; omega))] <;> first | assumption | (simp; done) | (simp [go_sem, *]; done))
  have c6_2_0 : w6.cell? ⟨w1.heap.size, 0, none⟩ = some (.int .i64 0) := (by rw [hb6.cell (p := ⟨w1.heap.size, 0, none⟩) (by first | omega | (simp; done) | (simp; omega))] <;> first | assumption | (simp; done) | (simp [go_sem, *]; done))
  have c6_2_1 : w6.cell? ⟨w1.heap.size, 1, none⟩ = some (.int .i64 0) := (by rw [hb6.cell (p := ⟨w1.heap.size, 1, none⟩) (by first | omega | (simp; done) | (simp; omega))] <;> first | assumption | (simp; done) | (simp [go_sem, *]; done))
  have c6_2_2 : w6.cell? ⟨w1.heap.size, 2, none⟩ = some (.int .i64 0) := (by rw [hb6.cell (p := ⟨w1.heap.size, 2, none⟩) (by first | omega | (simp; done) | (simp; omega))] <;> first | assumption | (simp; done) | (simp [go_sem, *]; done))
  have c6_3_0 : w6.cell? ⟨w4.heap.size, 0, none⟩ = some (.int .i64 0) := (by rw [hb6.cell (p := ⟨w4.heap.size, 0, none⟩) (by first | omega | (simp; done) | (simp; omega))] <;> first | assumption | (simp; done) | (simp [go_sem, *]; done))
  have c6_3_1 : w6.cell? ⟨w4.heap.size, 1, none⟩ = some (.int .i64 0) := (by rw [hb6.cell (p := ⟨w4.heap.size, 1, none⟩) (by first | omega | (simp; done) | (simp; omega))] <;> first | assumption | (simp; done) | (simp [go_sem, *]; done))
  have c6_3_2 : w6.cell? ⟨w4.heap.size, 2, none⟩ = some (.int .i64 0) := (by rw [hb6.cell (p := ⟨w4.heap.size, 2, none⟩) (by first | omega | (simp; done) | (simp; omega))] <;> first | assumption | (simp; done) | (simp [go_sem, *]; done))
  have l6_0 : w.heap.size < w6.heap.size := (by omega)
  have n6_0 : w.heap.size ≠ w6.heap.size := (by omega)
  have l6_1 : w.heap.size + 1 < w6.heap.size := (by omega)
  have n6_1 : w.heap.size + 1 ≠ w6.heap.size := (by omega)
  have l6_2 : w1.heap.size < w6.heap.size := (by omega)
  have n6_2 : w1.heap.size ≠ w6.heap.size := (by omega)
  have l6_3 : w4.heap.size < w6.heap.size := (by omega)
  have n6_3 : w4.heap.size ≠ w6.heap.size := (by omega)
  have z6 : w.heap.size ≤ w6.heap.size := (by omega)
  have HB6 := Lib.hid (show Below w.heap.size w w6 by (repeat' (first | exact Below.refl _ _ | (refine Below.setCell ?_ (by (first | omega | (simp; done) | (simp; omega))) _) | (refine Below.alloc ?_ (by (first | omega | (simp; done) | (simp; omega))) _) | (refine Below.drew ?_) | (refine below_drewN ?_ _) | (refine Below.trans ?_ (Below.mono HBo (by (first | omega | (simp; done) | (simp; omega))))) | (refine Below.trans ?_ (Below.mono hb6 (by (first | omega | (simp; done) | (simp; omega))))))))
  clear HBo hb6 hs6 c5_0_0 c5_0_1 c5_0_2 c5_1_0 c5_1_1 c5_1_2 c5_2_0 c5_2_1 c5_2_2 c5_3_0 c5_3_1 c5_3_2 l5_0 n5_0 l5_1 n5_1 l5_2 n5_2 l5_3 n5_3 z5 HB5
  go_wp2_with fail
  go_ret
  have HBo := HB6.out
  refine ⟨rfl, ?_⟩
  (repeat' (first | exact Below.refl _ _ | (refine Below.setCell ?_ (by (first | omega | (simp; done) | (simp; omega))) _) | (refine Below.alloc ?_ (by (first | omega | (simp; done) | (simp; omega))) _) | (refine Below.drew ?_) | (refine below_drewN ?_ _) | (refine Below.trans ?_ (Below.mono HBo (by (first | omega | (simp; done) | (simp; omega)))))))

theorem law_back (x y z u v t i : Int) (w : World) :
    Calls Try.prog 7 #[.agg #[.int .i64 x, .int .i64 y, .int .i64 z], .agg #[.int .i64 u, .int .i64 v, .int .i64 t], .int .i64 i] w fun e w' => e = .returned (.bool true) ∧ Below w.heap.size w w' := by
  obtain ⟨q1, q2, q3, o, g1⟩ : ∃ X Y Z r, ofOf u v t i = (X, Y, Z, r) := ⟨_, _, _, _, rfl⟩
  cases hm : mayB x y z with
  | true =>
    obtain ⟨a, b, c, n, h1, h2, h3, h4, n0, n1⟩ := back_one hm
    cases o with
    | true =>
      obtain ⟨g2, i0, i1, g3, g4, g5⟩ := back_two g1
      exact law_back_tt h1 h2 h3 h4 n0 n1 hm g1 g2 i0 i1 g3 g4 g5 w
    | false =>
      obtain ⟨rfl, rfl, rfl, g2 | ⟨g2, i0 | ⟨i0, i1⟩⟩⟩ := of_false g1
      · exact law_back_tf h1 h2 h3 h4 n0 n1 hm g1 g2 w
      · exact law_back_tl h1 h2 h3 h4 n0 n1 hm g1 g2 i0 w
      · exact law_back_tg h1 h2 h3 h4 n0 n1 hm g1 g2 i0 i1 w
  | false =>
    obtain ⟨h1, h2⟩ := spot_false hm
    cases o with
    | true =>
      obtain ⟨g2, i0, i1, g3, g4, g5⟩ := back_two g1
      exact law_back_ft h1 h2 hm g1 g2 i0 i1 g3 g4 g5 w
    | false =>
      obtain ⟨rfl, rfl, rfl, g2 | ⟨g2, i0 | ⟨i0, i1⟩⟩⟩ := of_false g1
      · exact law_back_ff h1 h2 hm g1 g2 w
      · exact law_back_fl h1 h2 hm g1 g2 i0 w
      · exact law_back_fg h1 h2 hm g1 g2 i0 i1 w
end PlaceW
end Go.Proofs.Ytokkomglbddgcaa
