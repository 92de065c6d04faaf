/-
  The laws of place, sixth part: PlaceNear.
-/
import Derived.Test.YtokkomglbddgcaaPlaceLaws1
namespace Go.Proofs.Ytokkomglbddgcaa
open Go.RowKit
set_option linter.unusedSimpArgs false
set_option linter.unusedVariables false
namespace PlaceW
open BitsP

theorem gapI_comm (a b : Int) : gapI a b = gapI b a := by
  unfold gapI
  repeat' split
  all_goals omega
theorem gapI_pos (a b : Int) : 0 ≤ gapI a b ∧ (gapI a b = 0 ↔ a = b) := by
  unfold gapI
  repeat' split
  all_goals omega
theorem gapI_tri (a b c : Int) : gapI a b ≤ gapI a c + gapI c b := by
  unfold gapI
  repeat' split
  all_goals omega
theorem far_comm (x y z u v t : Int) : farOf u v t x y z = farOf x y z u v t := by
  unfold farOf
  rw [gapI_comm u x, gapI_comm v y, gapI_comm t z, Bool.and_comm]
theorem far_false {x y z u v t n : Int} (h : farOf x y z u v t = (n, false)) : n = 0 ∧ (mayB x y z = false ∨ (mayB x y z = true ∧ mayB u v t = false)) := by
  unfold farOf at h
  split at h
  · cases (p2 h).2
  · rename_i hn
    refine ⟨(p2 h).1.symm, ?_⟩
    cases h1 : mayB x y z with
    | false => exact .inl rfl
    | true => exact .inr ⟨rfl, by simpa [h1] using hn⟩
theorem far_true {x y z u v t n : Int} (h : farOf x y z u v t = (n, true)) : mayB x y z = true ∧ mayB u v t = true ∧ n = gapI x u + gapI y v + gapI z t ∧ 0 ≤ n ∧ n ≤ 6291456 := by
  unfold farOf at h
  split at h
  · rename_i hn
    obtain ⟨h1, h2⟩ := Bool.and_eq_true_iff.1 hn
    obtain ⟨a1, a2, a3, a4, a5, a6⟩ := mayB_true h1
    obtain ⟨b1, b2, b3, b4, b5, b6⟩ := mayB_true h2
    have hx := gapI_le (a := x) (b := u) (c := 1048576) (by omega) (by omega) (by omega) (by omega)
    have hy := gapI_le (a := y) (b := v) (c := 1048576) (by omega) (by omega) (by omega) (by omega)
    have hz := gapI_le (a := z) (b := t) (c := 1048576) (by omega) (by omega) (by omega) (by omega)
    have he := (p2 h).1
    exact ⟨h1, h2, he.symm, by omega, by omega⟩
  · cases (p2 h).2
theorem far_zero {x y z u v t n : Int} (h : farOf x y z u v t = (n, true)) : n = 0 ↔ (x = u ∧ y = v ∧ z = t) := by
  obtain ⟨_, _, e, _, _⟩ := far_true h
  have := gapI_pos x u
  have := gapI_pos y v
  have := gapI_pos z t
  omega
theorem far_tri {x y z u v t a b c n p q : Int} (h : farOf x y z u v t = (n, true)) (h1 : farOf x y z a b c = (p, true)) (h2 : farOf a b c u v t = (q, true)) : n ≤ p + q := by
  obtain ⟨_, _, e, _, _⟩ := far_true h
  obtain ⟨_, _, e1, _, _⟩ := far_true h1
  obtain ⟨_, _, e2, _, _⟩ := far_true h2
  have := gapI_tri x u a
  have := gapI_tri y v b
  have := gapI_tri z t c
  omega

set_option maxRecDepth 100000 in
set_option maxHeartbeats 2000000 in
theorem law_near_A {a1 a2 a3 b1 b2 b3 c1 c2 c3 p q : Int} {f g : Bool} (h1 : farOf a1 a2 a3 b1 b2 b3 = (0, false)) (h2 : farOf b1 b2 b3 a1 a2 a3 = (0, false)) (h3 : farOf a1 a2 a3 c1 c2 c3 = (p, f)) (h4 : farOf c1 c2 c3 b1 b2 b3 = (q, g)) (hm : mayB a1 a2 a3 = false) (w : World) :
    Calls Try.prog 10 #[.agg #[.int .i64 a1, .int .i64 a2, .int .i64 a3], .agg #[.int .i64 b1, .int .i64 b2, .int .i64 b3], .agg #[.int .i64 c1, .int .i64 c2, .int .i64 c3]] w fun e w' => e = .returned (.bool true) ∧ Below w.heap.size w w' := by
  have HM := Lib.hid hm
  clear hm
  have H1 := Lib.hid h1
  have H2 := Lib.hid h2
  have H3 := Lib.hid h3
  have H4 := Lib.hid h4
  clear h1 h2 h3 h4
  go_enter Try.func10, Try.ntmps10
  go_wp2_with fail
  go_at_call 26
  refine (far_c H1.out _).mono ?_
  rintro e w1 ⟨rfl, hb1⟩
  have hs1 := hb1.size
  try simp at hs1
  have c1_0_0 : w1.cell? ⟨w.heap.size, 0, none⟩ = some (.int .i64 a1) := (by rw [hb1.cell (p := ⟨w.heap.size, 0, none⟩) (by first | omega | (simp; done) | (simp; omega))] <;> first | assumption | (simp; done) | (simp [go_sem, *]; done))
  have c1_0_1 : w1.cell? ⟨w.heap.size, 1, none⟩ = some (.int .i64 a2) := (by rw [hb1.cell (p := ⟨w.heap.size, 1, none⟩) (by first | omega | (simp; done) | (simp; omega))] <;> first | assumption | (simp; done) | (simp [go_sem, *]; done))
  have c1_0_2 : w1.cell? ⟨w.heap.size, 2, none⟩ = some (.int .i64 a3) := (by rw [hb1.cell (p := ⟨w.heap.size, 2, none⟩) (by first | omega | (simp; done) | (simp; omega))] <;> first | assumption | (simp; done) | (simp [go_sem, *]; done))
  have c1_1_0 : w1.cell? ⟨w.heap.size + 1, 0, none⟩ = some (.int .i64 b1) := (by rw [hb1.cell (p := ⟨w.heap.size + 1, 0, none⟩) (by first | omega | (simp; done) | (simp; omega))] <;> first | assumption | (simp; done) | (simp [go_sem, *]; done))
  have c1_1_1 : w1.cell? ⟨w.heap.size + 1, 1, none⟩ = some (.int .i64 b2) := (by rw [hb1.cell (p := ⟨w.heap.size + 1, 1, none⟩) (by first | omega | (simp; done) | (simp; omega))] <;> first | assumption | (simp; done) | (simp [go_sem, *]; done))
  have c1_1_2 : w1.cell? ⟨w.heap.size + 1, 2, none⟩ = some (.int .i64 b3) := (by rw [hb1.cell (p := ⟨w.heap.size + 1, 2, none⟩) (by first | omega | (simp; done) | (simp; omega))] <;> first | assumption | (simp; done) | (simp [go_sem, *]; done))
  have c1_2_0 : w1.cell? ⟨w.heap.size + 2, 0, none⟩ = some (.int .i64 c1) := (by rw [hb1.cell (p := ⟨w.heap.size + 2, 0, none⟩) (by first | omega | (simp; done) | (simp; omega))] <;> first | assumption | (simp; done) | (simp [go_sem, *]; done))
  have c1_2_1 : w1.cell? ⟨w.heap.size + 2, 1, none⟩ = some (.int .i64 c2) := (by rw [hb1.cell (p := ⟨w.heap.size + 2, 1, none⟩) (by first | omega | (simp; done) | (simp; omega))] <;> first | assumption | (simp; done) | (simp [go_sem, *]; done))
  have c1_2_2 : w1.cell? ⟨w.heap.size + 2, 2, none⟩ = some (.int .i64 c3) := (by rw [hb1.cell (p := ⟨w.heap.size + 2, 2, none⟩) (by first | omega | (simp; done) | (simp; omega))] <;> first | assumption | (simp; done) | (simp [go_sem, *]; done))
  have l1_0 : w.heap.size < w1.heap.size := (by omega)
  have n1_0 : w.heap.size ≠ w1.heap.size := (by omega)
  have l1_1 : w.heap.size + 1 < w1.heap.size := (by omega)
  have n1_1 : w.heap.size + 1 ≠ w1.heap.size := (by omega)
  have l1_2 : w.heap.size + 2 < w1.heap.size := (by omega)
  have n1_2 : w.heap.size + 2 ≠ w1.heap.size := (by omega)
  have z1 : w.heap.size ≤ w1.heap.size := (by omega)
  have HB1 := Lib.hid (show Below w.heap.size w w1 by (repeat' (first | exact Below.refl _ _ | (refine Below.setCell ?_ (by (first | omega | (simp; done) | (simp; omega))) _) | (refine Below.alloc ?_ (by (first | omega | (simp; done) | (simp; omega))) _) | (refine Below.drew ?_) | (refine below_drewN ?_ _) | (refine Below.trans ?_ (Below.mono hb1 (by (first | omega | (simp; done) | (simp; omega))))))))
  clear hb1 hs1
  go_wp2_with fail
  go_at_call 26
  refine (far_c H2.out _).mono ?_
  rintro e w2 ⟨rfl, hb2⟩
  have HBo := HB1.out
  have hs2 := hb2.size
  try simp at hs2
  have c2_0_0 : w2.cell? ⟨w.heap.size, 0, none⟩ = some (.int .i64 a1) := (by rw [hb2.cell (p := ⟨w.heap.size, 0, none⟩) (by first | omega | (simp; done) | (simp; omega))] <;> first | assumption | (simp; done) | (simp [go_sem, *]; done))
  have c2_0_1 : w2.cell? ⟨w.heap.size, 1, none⟩ = some (.int .i64 a2) := (by rw [hb2.cell (p := ⟨w.heap.size, 1, none⟩) (by first | omega | (simp; done) | (simp; omega))] <;> first | assumption | (simp; done) | (simp [go_sem, *]; done))
  have c2_0_2 : w2.cell? ⟨w.heap.size, 2, none⟩ = some (.int .i64 a3) := (by rw [hb2.cell (p := ⟨w.heap.size, 2, none⟩) (by first | omega | (simp; done) | (simp; omega))] <;> first | assumption | (simp; done) | (simp [go_sem, *]; done))
  have c2_1_0 : w2.cell? ⟨w.heap.size + 1, 0, none⟩ = some (.int .i64 b1) := (by rw [hb2.cell (p := ⟨w.heap.size + 1, 0, none⟩) (by first | omega | (simp; done) | (simp; omega))] <;> first | assumption | (simp; done) | (simp [go_sem, *]; done))
  have c2_1_1 : w2.cell? ⟨w.heap.size + 1, 1, none⟩ = some (.int .i64 b2) := (by rw [hb2.cell (p := ⟨w.heap.size + 1, 1, none⟩) (by first | omega | (simp; done) | (simp; omega))] <;> first | assumption | (simp; done) | (simp [go_sem, *]; done))
  have c2_1_2 : w2.cell? ⟨w.heap.size + 1, 2, none⟩ = some (.int .i64 b3) := (by rw [hb2.cell (p := ⟨w.heap.size + 1, 2, none⟩) (by first | omega | (simp; done) | (simp; omega))] <;> first | assumption | (simp; done) | (simp [go_sem, *]; done))
  have c2_2_0 : w2.cell? ⟨w.heap.size + 2, 0, none⟩ = some (.int .i64 c1) := (by rw [hb2.cell (p := ⟨w.heap.size + 2, 0, none⟩) (by first | omega | (simp; done) | (simp; omega))] <;> first | assumption | (simp; done) | (simp [go_sem, *]; done))
  have c2_2_1 : w2.cell? ⟨w.heap.size + 2, 1, none⟩ = some (.int .i64 c2) := (by rw [hb2.cell (p := ⟨w.heap.size + 2, 1, none⟩) (by first | omega | (simp; done) | (simp; omega))] <;> first | assumption | (simp; done) | (simp [go_sem, *]; done))
  have c2_2_2 : w2.cell? ⟨w.heap.size + 2, 2, none⟩ = some (.int .i64 c3) := (by rw [hb2.cell (p := ⟨w.heap.size + 2, 2, none⟩) (by first | omega | (simp; done) | (simp; omega))] <;> first | assumption | (simp; done) | (simp [go_sem, *]; done))
  have l2_0 : w.heap.size < w2.heap.size := (by omega)
  have n2_0 : w.heap.size ≠ w2.heap.size := (by omega)
  have l2_1 : w.heap.size + 1 < w2.heap.size := (by omega)
  have n2_1 : w.heap.size + 1 ≠ w2.heap.size := (by omega)
  have l2_2 : w.heap.size + 2 < w2.heap.size := (by omega)
  have n2_2 : w.heap.size + 2 ≠ w2.heap.size := (by omega)
  have z2 : w.heap.size ≤ w2.heap.size := (by omega)
  have HB2 := Lib.hid (show Below w.heap.size w w2 by (repeat' (first | exact Below.refl _ _ | (refine Below.setCell ?_ (by (first | omega | (simp; done) | (simp; omega))) _) | (refine Below.alloc ?_ (by (first | omega | (simp; done) | (simp; omega))) _) | (refine Below.drew ?_) | (refine below_drewN ?_ _) | (refine Below.trans ?_ (Below.mono HBo (by (first | omega | (simp; done) | (simp; omega))))) | (refine Below.trans ?_ (Below.mono hb2 (by (first | omega | (simp; done) | (simp; omega))))))))
  clear HBo hb2 hs2 c1_0_0 c1_0_1 c1_0_2 c1_1_0 c1_1_1 c1_1_2 c1_2_0 c1_2_1 c1_2_2 l1_0 n1_0 l1_1 n1_1 l1_2 n1_2 z1 HB1
  go_wp2_with fail
  go_at_call 26
  refine (far_c H3.out _).mono ?_
  rintro e w3 ⟨rfl, hb3⟩
  have HBo := HB2.out
  have hs3 := hb3.size
  try simp at hs3
  have c3_0_0 : w3.cell? ⟨w.heap.size, 0, none⟩ = some (.int .i64 a1) := (by rw [hb3.cell (p := ⟨w.heap.size, 0, none⟩) (by first | omega | (simp; done) | (simp; omega))] <;> first | assumption | (simp; done) | (simp [go_sem, *]; done))
  have c3_0_1 : w3.cell? ⟨w.heap.size, 1, none⟩ = some (.int .i64 a2) := (by rw [hb3.cell (p := ⟨w.heap.size, 1, none⟩) (by first | omega | (simp; done) | (simp; omega))] <;> first | assumption | (simp; done) | (simp [go_sem, *]; done))
  have c3_0_2 : w3.cell? ⟨w.heap.size, 2, none⟩ = some (.int .i64 a3) := (by rw [hb3.cell (p := ⟨w.heap.size, 2, none⟩) (by first | omega | (simp; done) | (simp; omega))] <;> first | assumption | (simp; done) | (simp [go_sem, *]; done))
  have c3_1_0 : w3.cell? ⟨w.heap.size + 1, 0, none⟩ = some (.int .i64 b1) := (by rw [hb3.cell (p := ⟨w.heap.size + 1, 0, none⟩) (by first | omega | (simp; done) | (simp; omega))] <;> first | assumption | (simp; done) | (simp [go_sem, *]; done))
  have c3_1_1 : w3.cell? ⟨w.heap.size + 1, 1, none⟩ = some (.int .i64 b2) := (by rw [hb3.cell (p := ⟨w.heap.size + 1, 1, none⟩) (by first | omega | (simp; done) | (simp; omega))] <;> first | assumption | (simp; done) | (simp [go_sem, *]; done))
  have c3_1_2 : w3.cell? ⟨w.heap.size + 1, 2, none⟩ = some (.int .i64 b3) := (by rw [hb3.cell (p := ⟨w.heap.size + 1, 2, none⟩) (by first | omega | (simp; done) | (simp; omega))] <;> first | assumption | (simp; done) | (simp [go_sem, *]; done))
  have c3_2_0 : w3.cell? ⟨w.heap.size + 2, 0, none⟩ = some (.int .i64 c1) := (by rw [hb3.cell (p := ⟨w.heap.size + 2, 0, none⟩) (by first | omega | (simp; done) | (simp; omega))] <;> first | assumption | (simp; done) | (simp [go_sem, *]; done))
  have c3_2_1 : w3.cell? ⟨w.heap.size + 2, 1, none⟩ = some (.int .i64 c2) := (by rw [hb3.cell (p := ⟨w.heap.size + 2, 1, none⟩) (by first | omega | (simp; done) | (simp; omega))] <;> first | assumption | (simp; done) | (simp [go_sem, *]; done))
  have c3_2_2 : w3.cell? ⟨w.heap.size + 2, 2, none⟩ = some (.int .i64 c3) := (by rw [hb3.cell (p := ⟨w.heap.size + 2, 2, none⟩) (by first | omega | (simp; done) | (simp; omega))] <;> first | assumption | (simp; done) | (simp [go_sem, *]; done))
  have l3_0 : w.heap.size < w3.heap.size := (by omega)
  have n3_0 : w.heap.size ≠ w3.heap.size := (by omega)
  have l3_1 : w.heap.size + 1 < w3.heap.size := (by omega)
  have n3_1 : w.heap.size + 1 ≠ w3.heap.size := (by omega)
  have l3_2 : w.heap.size + 2 < w3.heap.size := (by omega)
  have n3_2 : w.heap.size + 2 ≠ w3.heap.size := (by omega)
  have z3 : w.heap.size ≤ w3.heap.size := (by omega)
  have HB3 := Lib.hid (show Below w.heap.size w w3 by (repeat' (first | exact Below.refl _ _ | (refine Below.setCell ?_ (by (first | omega | (simp; done) | (simp; omega))) _) | (refine Below.alloc ?_ (by (first | omega | (simp; done) | (simp; omega))) _) | (refine Below.drew ?_) | (refine below_drewN ?_ _) | (refine Below.trans ?_ (Below.mono HBo (by (first | omega | (simp; done) | (simp; omega))))) | (refine Below.trans ?_ (Below.mono hb3 (by (first | omega | (simp; done) | (simp; omega))))))))
  clear HBo hb3 hs3 c2_0_0 c2_0_1 c2_0_2 c2_1_0 c2_1_1 c2_1_2 c2_2_0 c2_2_1 c2_2_2 l2_0 n2_0 l2_1 n2_1 l2_2 n2_2 z2 HB2
  go_wp2_with fail
  go_at_call 26
  refine (far_c H4.out _).mono ?_
  rintro e w4 ⟨rfl, hb4⟩
  have HBo := HB3.out
  have hs4 := hb4.size
  try simp at hs4
  have c4_0_0 : w4.cell? ⟨w.heap.size, 0, none⟩ = some (.int .i64 a1) := (by rw [hb4.cell (p := ⟨w.heap.size, 0, none⟩) (by first | omega | (simp; done) | (simp; omega))] <;> first | assumption | (simp; done) | (simp [go_sem, *]; done))
  have c4_0_1 : w4.cell? ⟨w.heap.size, 1, none⟩ = some (.int .i64 a2) := (by rw [hb4.cell (p := ⟨w.heap.size, 1, none⟩) (by first | omega | (simp; done) | (simp; omega))] <;> first | assumption | (simp; done) | (simp [go_sem, *]; done))
  have c4_0_2 : w4.cell? ⟨w.heap.size, 2, none⟩ = some (.int .i64 a3) := (by rw [hb4.cell (p := ⟨w.heap.size, 2, none⟩) (by first | omega | (simp; done) | (simp; omega))] <;> first | assumption | (simp; done) | (simp [go_sem, *]; done))
  have c4_1_0 : w4.cell? ⟨w.heap.size + 1, 0, none⟩ = some (.int .i64 b1) := (by rw [hb4.cell (p := ⟨w.heap.size + 1, 0, none⟩) (by first | omega | (simp; done) | (simp; omega))] <;> first | assumption | (simp; done) | (simp [go_sem, *]; done))
  have c4_1_1 : w4.cell? ⟨w.heap.size + 1, 1, none⟩ = some (.int .i64 b2) := (by rw [hb4.cell (p := ⟨w.heap.size + 1, 1, none⟩) (by first | omega | (simp; done) | (simp; omega))] <;> first | assumption | (simp; done) | (simp [go_sem, *]; done))
  have c4_1_2 : w4.cell? ⟨w.heap.size + 1, 2, none⟩ = some (.int .i64 b3) := (by rw [hb4.cell (p := ⟨w.heap.size + 1, 2, none⟩) (by first | omega | (simp; done) | (simp; omega))] <;> first | assumption | (simp; done) | (simp [go_sem, *]; done))
  have c4_2_0 : w4.cell? ⟨w.heap.size + 2, 0, none⟩ = some (.int .i64 c1) := (by rw [hb4.cell (p := ⟨w.heap.size + 2, 0, none⟩) (by first | omega | (simp; done) | (simp; omega))] <;> first | assumption | (simp; done) | (simp [go_sem, *]; done))
  have c4_2_1 : w4.cell? ⟨w.heap.size + 2, 1, none⟩ = some (.int .i64 c2) := (by rw [hb4.cell (p := ⟨w.heap.size + 2, 1, none⟩) (by first | omega | (simp; done) | (simp; omega))] <;> first | assumption | (simp; done) | (simp [go_sem, *]; done))
  have c4_2_2 : w4.cell? ⟨w.heap.size + 2, 2, none⟩ = some (.int .i64 c3) := (by rw [hb4.cell (p := ⟨w.heap.size + 2, 2, none⟩) (by first | omega | (simp; done) | (simp; omega))] <;> first | assumption | (simp; done) | (simp [go_sem, *]; done))
  have l4_0 : w.heap.size < w4.heap.size := (by omega)
  have n4_0 : w.heap.size ≠ w4.heap.size := (by omega)
  have l4_1 : w.heap.size + 1 < w4.heap.size := (by omega)
  have n4_1 : w.heap.size + 1 ≠ w4.heap.size := (by omega)
  have l4_2 : w.heap.size + 2 < w4.heap.size := (by omega)
  have n4_2 : w.heap.size + 2 ≠ w4.heap.size := (by omega)
  have z4 : w.heap.size ≤ w4.heap.size := (by omega)
  have HB4 := Lib.hid (show Below w.heap.size w w4 by (repeat' (first | exact Below.refl _ _ | (refine Below.setCell ?_ (by (first | omega | (simp; done) | (simp; omega))) _) | (refine Below.alloc ?_ (by (first | omega | (simp; done) | (simp; omega))) _) | (refine Below.drew ?_) | (refine below_drewN ?_ _) | (refine Below.trans ?_ (Below.mono HBo (by (first | omega | (simp; done) | (simp; omega))))) | (refine Below.trans ?_ (Below.mono hb4 (by (first | omega | (simp; done) | (simp; omega))))))))
  clear HBo hb4 hs4 c3_0_0 c3_0_1 c3_0_2 c3_1_0 c3_1_1 c3_1_2 c3_2_0 c3_2_1 c3_2_2 l3_0 n3_0 l3_1 n3_1 l3_2 n3_2 z3 HB3
  go_wp2_with fail
  go_at_call 19
  refine (may_b HM.out _).mono ?_
  rintro e w5 ⟨rfl, hb5⟩
  have HBo := HB4.out
  have hs5 := hb5.size
  try simp at hs5
  have c5_0_0 : w5.cell? ⟨w.heap.size, 0, none⟩ = some (.int .i64 a1) := (by rw [hb5.cell (p := ⟨w.heap.size, 0, none⟩) (by first | omega | (simp; done) | (simp; omega))] <;> first | assumption | (simp; done) | (simp [go_sem, *]; done))
  have c5_0_1 : w5.cell? ⟨w.heap.size, 1, none⟩ = some (.int .i64 a2) := (by rw [hb5.cell (p := ⟨w.heap.size, 1, none⟩) (by first | omega | (simp; done) | (simp; omega))] <;> first | assumption | (simp; done) | (simp [go_sem, *]; done))
  have c5_0_2 : w5.cell? ⟨w.heap.size, 2, none⟩ = some (.int .i64 a3) := (by rw [hb5.cell (p := ⟨w.heap.size, 2, none⟩) (by first | omega | (simp; done) | (simp; omega))] <;> first | assumption | (simp; done) | (simp [go_sem, *]; done))
  have c5_1_0 : w5.cell? ⟨w.heap.size + 1, 0, none⟩ = some (.int .i64 b1) := (by rw [hb5.cell (p := ⟨w.heap.size + 1, 0, none⟩) (by first | omega | (simp; done) | (simp; omega))] <;> first | assumption | (simp; done) | (simp [go_sem, *]; done))
  have c5_1_1 : w5.cell? ⟨w.heap.size + 1, 1, none⟩ = some (.int .i64 b2) := (by rw [hb5.cell (p := ⟨w.heap.size + 1, 1, none⟩) (by first | omega | (simp; done) | (simp; omega))] <;> first | assumption | (simp; done) | (simp [go_sem, *]; done))
  have c5_1_2 : w5.cell? ⟨w.heap.size + 1, 2, none⟩ = some (.int .i64 b3) := (by rw [hb5.cell (p := ⟨w.heap.size + 1, 2, none⟩) (by first | omega | (simp; done) | (simp; omega))] <;> first | assumption | (simp; done) | (simp [go_sem, *]; done))
  have c5_2_0 : w5.cell? ⟨w.heap.size + 2, 0, none⟩ = some (.int .i64 c1) := (by rw [hb5.cell (p := ⟨w.heap.size + 2, 0, none⟩) (by first | omega | (simp; done) | (simp; omega))] <;> first | assumption | (simp; done) | (simp [go_sem, *]; done))
  have c5_2_1 : w5.cell? ⟨w.heap.size + 2, 1, none⟩ = some (.int .i64 c2) := (by rw [hb5.cell (p := ⟨w.heap.size + 2, 1, none⟩) (by first | omega | (simp; done) | (simp; omega))] <;> first | assumption | (simp; done) | (simp [go_sem, *]; done))
  have c5_2_2 : w5.cell? ⟨w.heap.size + 2, 2, none⟩ = some (.int .i64 c3) := (by rw [hb5.cell (p := ⟨w.heap.size + 2, 2, none⟩) (by first | omega | (simp; done) | (simp; omega))] <;> first | assumption | (simp; done) | (simp [go_sem, *]; done))
  have l5_0 : w.heap.size < w5.heap.size := (by omega)
  have n5_0 : w.heap.size ≠ w5.heap.size := (by omega)
  have l5_1 : w.heap.size + 1 < w5.heap.size := (by omega)
  have n5_1 : w.heap.size + 1 ≠ w5.heap.size := (by omega)
  have l5_2 : w.heap.size + 2 < w5.heap.size := (by omega)
  have n5_2 : w.heap.size + 2 ≠ w5.heap.size := (by omega)
  have z5 : w.heap.size ≤ w5.heap.size := (by omega)
  have HB5 := Lib.hid (show Below w.heap.size w w5 by (repeat' (first | exact Below.refl _ _ | (refine Below.setCell ?_ (by (first | omega | (simp; done) | (simp; omega))) _) | (refine Below.alloc ?_ (by (first | omega | (simp; done) | (simp; omega))) _) | (refine Below.drew ?_) | (refine below_drewN ?_ _) | (refine Below.trans ?_ (Below.mono HBo (by (first | omega | (simp; done) | (simp; omega))))) | (refine Below.trans ?_ (Below.mono hb5 (by (first | omega | (simp; done) | (simp; omega))))))))
  clear HBo hb5 hs5 c4_0_0 c4_0_1 c4_0_2 c4_1_0 c4_1_1 c4_1_2 c4_2_0 c4_2_1 c4_2_2 l4_0 n4_0 l4_1 n4_1 l4_2 n4_2 z4 HB4
  go_wp2_with fail
  go_at_call 23
  refine (works_c _).mono ?_
  rintro e w6 ⟨rfl, hb6⟩
  have HBo := HB5.out
  have hs6 := hb6.size
  try simp at hs6
  have c6_0_0 : w6.cell? ⟨w.heap.size, 0, none⟩ = some (.int .i64 a1) := (by rw [hb6.cell (p := ⟨w.heap.size, 0, none⟩) (by first | omega | (simp; done) | (simp; omega))] <;> first | assumption | (simp; done) | (simp [go_sem, *]; done))
  have c6_0_1 : w6.cell? ⟨w.heap.size, 1, none⟩ = some (.int .i64 a2) := (by rw [hb6.cell (p := ⟨w.heap.size, 1, none⟩) (by first | omega | (simp; done) | (simp; omega))] <;> first | assumption | (simp; done) | (simp [go_sem, *]; done))
  have c6_0_2 : w6.cell? ⟨w.heap.size, 2, none⟩ = some (.int .i64 a3) := (by rw [hb6.cell (p := ⟨w.heap.size, 2, none⟩) (by first | omega | (simp; done) | (simp; omega))] <;> first | assumption | (simp; done) | (simp [go_sem, *]; done))
  have c6_1_0 : w6.cell? ⟨w.heap.size + 1, 0, none⟩ = some (.int .i64 b1) := (by rw [hb6.cell (p := ⟨w.heap.size + 1, 0, none⟩) (by first | omega | (simp; done) | (simp; omega))] <;> first | assumption | (simp; done) | (simp [go_sem, *]; done))
  have c6_1_1 : w6.cell? ⟨w.heap.size + 1, 1, none⟩ = some (.int .i64 b2) := (by rw [hb6.cell (p := ⟨w.heap.size + 1, 1, none⟩) (by first | omega | (simp; done) | (simp; omega))] <;> first | assumption | (simp; done) | (simp [go_sem, *]; done))
  have c6_1_2 : w6.cell? ⟨w.heap.size + 1, 2, none⟩ = some (.int .i64 b3) := (by rw [hb6.cell (p := ⟨w.heap.size + 1, 2, none⟩) (by first | omega | (simp; done) | (simp; omega))] <;> first | assumption | (simp; done) | (simp [go_sem, *]; done))
  have c6_2_0 : w6.cell? ⟨w.heap.size + 2, 0, none⟩ = some (.int .i64 c1) := (by rw [hb6.cell (p := ⟨w.heap.size + 2, 0, none⟩) (by first | omega | (simp; done) | (simp; omega))] <;> first | assumption | (simp; done) | (simp [go_sem, *]; done))
  have c6_2_1 : w6.cell? ⟨w.heap.size + 2, 1, none⟩ = some (.int .i64 c2) := (by rw [hb6.cell (p := ⟨w.heap.size + 2, 1, none⟩) (by first | omega | (simp; done) | (simp; omega))] <;> first | assumption | (simp; done) | (simp [go_sem, *]; done))
  have c6_2_2 : w6.cell? ⟨w.heap.size + 2, 2, none⟩ = some (.int .i64 c3) := (by rw [hb6.cell (p := ⟨w.heap.size + 2, 2, none⟩) (by first | omega | (simp; done) | (simp; omega))] <;> first | assumption | (simp; done) | (simp [go_sem, *]; done))
  have l6_0 : w.heap.size < w6.heap.size := (by omega)
  have n6_0 : w.heap.size ≠ w6.heap.size := (by omega)
  have l6_1 : w.heap.size + 1 < w6.heap.size := (by omega)
  have n6_1 : w.heap.size + 1 ≠ w6.heap.size := (by omega)
  have l6_2 : w.heap.size + 2 < w6.heap.size := (by omega)
  have n6_2 : w.heap.size + 2 ≠ w6.heap.size := (by omega)
  have z6 : w.heap.size ≤ w6.heap.size := (by omega)
  have HB6 := Lib.hid (show Below w.heap.size w w6 by (repeat' (first | exact Below.refl _ _ | (refine Below.setCell ?_ (by (first | omega | (simp; done) | (simp; omega))) _) | (refine Below.alloc ?_ (by (first | omega | (simp; done) | (simp; omega))) _) | (refine Below.drew ?_) | (refine below_drewN ?_ _) | (refine Below.trans ?_ (Below.mono HBo (by (first | omega | (simp; done) | (simp; omega))))) | (refine Below.trans ?_ (Below.mono hb6 (by (first | omega | (simp; done) | (simp; omega))))))))
  clear HBo hb6 hs6 c5_0_0 c5_0_1 c5_0_2 c5_1_0 c5_1_1 c5_1_2 c5_2_0 c5_2_1 c5_2_2 l5_0 n5_0 l5_1 n5_1 l5_2 n5_2 z5 HB5
  go_wp2_with fail
  go_ret
  have HBo := HB6.out
  refine ⟨rfl, ?_⟩
  (repeat' (first | exact Below.refl _ _ | (refine Below.setCell ?_ (by (first | omega | (simp; done) | (simp; omega))) _) | (refine Below.alloc ?_ (by (first | omega | (simp; done) | (simp; omega))) _) | (refine Below.drew ?_) | (refine below_drewN ?_ _) | (refine Below.trans ?_ (Below.mono HBo (by (first | omega | (simp; done) | (simp; omega)))))))

set_option maxRecDepth 100000 in
set_option maxHeartbeats 2000000 in
theorem law_near_B {a1 a2 a3 b1 b2 b3 c1 c2 c3 p q : Int} {f g : Bool} (h1 : farOf a1 a2 a3 b1 b2 b3 = (0, false)) (h2 : farOf b1 b2 b3 a1 a2 a3 = (0, false)) (h3 : farOf a1 a2 a3 c1 c2 c3 = (p, f)) (h4 : farOf c1 c2 c3 b1 b2 b3 = (q, g)) (hm : mayB a1 a2 a3 = true) (hn : mayB b1 b2 b3 = false) (w : World) :
    Calls Try.prog 10 #[.agg #[.int .i64 a1, .int .i64 a2, .int .i64 a3], .agg #[.int .i64 b1, .int .i64 b2, .int .i64 b3], .agg #[.int .i64 c1, .int .i64 c2, .int .i64 c3]] w fun e w' => e = .returned (.bool true) ∧ Below w.heap.size w w' := by
  have HM := Lib.hid hm
  have HN := Lib.hid hn
  clear hm hn
  have H1 := Lib.hid h1
  have H2 := Lib.hid h2
  have H3 := Lib.hid h3
  have H4 := Lib.hid h4
  clear h1 h2 h3 h4
  go_enter Try.func10, Try.ntmps10
  go_wp2_with fail
  go_at_call 26
  refine (far_c H1.out _).mono ?_
  rintro e w1 ⟨rfl, hb1⟩
  have hs1 := hb1.size
  try simp at hs1
  have c1_0_0 : w1.cell? ⟨w.heap.size, 0, none⟩ = some (.int .i64 a1) := (by rw [hb1.cell (p := ⟨w.heap.size, 0, none⟩) (by first | omega | (simp; done) | (simp; omega))] <;> first | assumption | (simp; done) | (simp [go_sem, *]; done))
  have c1_0_1 : w1.cell? ⟨w.heap.size, 1, none⟩ = some (.int .i64 a2) := (by rw [hb1.cell (p := ⟨w.heap.size, 1, none⟩) (by first | omega | (simp; done) | (simp; omega))] <;> first | assumption | (simp; done) | (simp [go_sem, *]; done))
  have c1_0_2 : w1.cell? ⟨w.heap.size, 2, none⟩ = some (.int .i64 a3) := (by rw [hb1.cell (p := ⟨w.heap.size, 2, none⟩) (by first | omega | (simp; done) | (simp; omega))] <;> first | assumption | (simp; done) | (simp [go_sem, *]; done))
  have c1_1_0 : w1.cell? ⟨w.heap.size + 1, 0, none⟩ = some (.int .i64 b1) := (by rw [hb1.cell (p := ⟨w.heap.size + 1, 0, none⟩) (by first | omega | (simp; done) | (simp; omega))] <;> first | assumption | (simp; done) | (simp [go_sem, *]; done))
  have c1_1_1 : w1.cell? ⟨w.heap.size + 1, 1, none⟩ = some (.int .i64 b2) := (by rw [hb1.cell (p := ⟨w.heap.size + 1, 1, none⟩) (by first | omega | (simp; done) | (simp; omega))] <;> first | assumption | (simp; done) | (simp [go_sem, *]; done))
  have c1_1_2 : w1.cell? ⟨w.heap.size + 1, 2, none⟩ = some (.int .i64 b3) := (by rw [hb1.cell (p := ⟨w.heap.size + 1, 2, none⟩) (by first | omega | (simp; done) | (simp; omega))] <;> first | assumption | (simp; done) | (simp [go_sem, *]; done))
  have c1_2_0 : w1.cell? ⟨w.heap.size + 2, 0, none⟩ = some (.int .i64 c1) := (by rw [hb1.cell (p := ⟨w.heap.size + 2, 0, none⟩) (by first | omega | (simp; done) | (simp; omega))] <;> first | assumption | (simp; done) | (simp [go_sem, *]; done))
  have c1_2_1 : w1.cell? ⟨w.heap.size + 2, 1, none⟩ = some (.int .i64 c2) := (by rw [hb1.cell (p := ⟨w.heap.size + 2, 1, none⟩) (by first | omega | (simp; done) | (simp; omega))] <;> first | assumption | (simp; done) | (simp [go_sem, *]; done))
  have c1_2_2 : w1.cell? ⟨w.heap.size + 2, 2, none⟩ = some (.int .i64 c3) := (by rw [hb1.cell (p := ⟨w.heap.size + 2, 2, none⟩) (by first | omega | (simp; done) | (simp; omega))] <;> first | assumption | (simp; done) | (simp [go_sem, *]; done))
  have l1_0 : w.heap.size < w1.heap.size := (by omega)
  have n1_0 : w.heap.size ≠ w1.heap.size := (by omega)
  have l1_1 : w.heap.size + 1 < w1.heap.size := (by omega)
  have n1_1 : w.heap.size + 1 ≠ w1.heap.size := (by omega)
  have l1_2 : w.heap.size + 2 < w1.heap.size := (by omega)
  have n1_2 : w.heap.size + 2 ≠ w1.heap.size := (by omega)
  have z1 : w.heap.size ≤ w1.heap.size := (by omega)
  have HB1 := Lib.hid (show Below w.heap.size w w1 by (repeat' (first | exact Below.refl _ _ | (refine Below.setCell ?_ (by (first | omega | (simp; done) | (simp; omega))) _) | (refine Below.alloc ?_ (by (first | omega | (simp; done) | (simp; omega))) _) | (refine Below.drew ?_) | (refine below_drewN ?_ _) | (refine Below.trans ?_ (Below.mono hb1 (by (first | omega | (simp; done) | (simp; omega))))))))
  clear hb1 hs1
  go_wp2_with fail
  go_at_call 26
  refine (far_c H2.out _).mono ?_
  rintro e w2 ⟨rfl, hb2⟩
  have HBo := HB1.out
  have hs2 := hb2.size
  try simp at hs2
  have c2_0_0 : w2.cell? ⟨w.heap.size, 0, none⟩ = some (.int .i64 a1) := (by rw [hb2.cell (p := ⟨w.heap.size, 0, none⟩) (by first | omega | (simp; done) | (simp; omega))] <;> first | assumption | (simp; done) | (simp [go_sem, *]; done))
  have c2_0_1 : w2.cell? ⟨w.heap.size, 1, none⟩ = some (.int .i64 a2) := (by rw [hb2.cell (p := ⟨w.heap.size, 1, none⟩) (by first | omega | (simp; done) | (simp; omega))] <;> first | assumption | (simp; done) | (simp [go_sem, *]; done))
  have c2_0_2 : w2.cell? ⟨w.heap.size, 2, none⟩ = some (.int .i64 a3) := (by rw [hb2.cell (p := ⟨w.heap.size, 2, none⟩) (by first | omega | (simp; done) | (simp; omega))] <;> first | assumption | (simp; done) | (simp [go_sem, *]; done))
  have c2_1_0 : w2.cell? ⟨w.heap.size + 1, 0, none⟩ = some (.int .i64 b1) := (by rw [hb2.cell (p := ⟨w.heap.size + 1, 0, none⟩) (by first | omega | (simp; done) | (simp; omega))] <;> first | assumption | (simp; done) | (simp [go_sem, *]; done))
  have c2_1_1 : w2.cell? ⟨w.heap.size + 1, 1, none⟩ = some (.int .i64 b2) := (by rw [hb2.cell (p := ⟨w.heap.size + 1, 1, none⟩) (by first | omega | (simp; done) | (simp; omega))] <;> first | assumption | (simp; done) | (simp [go_sem, *]; done))
  have c2_1_2 : w2.cell? ⟨w.heap.size + 1, 2, none⟩ = some (.int .i64 b3) := (by rw [hb2.cell (p := ⟨w.heap.size + 1, 2, none⟩) (by first | omega | (simp; done) | (simp; omega))] <;> first | assumption | (simp; done) | (simp [go_sem, *]; done))
  have c2_2_0 : w2.cell? ⟨w.heap.size + 2, 0, none⟩ = some (.int .i64 c1) := (by rw [hb2.cell (p := ⟨w.heap.size + 2, 0, none⟩) (by first | omega | (simp; done) | (simp; omega))] <;> first | assumption | (simp; done) | (simp [go_sem, *]; done))
  have c2_2_1 : w2.cell? ⟨w.heap.size + 2, 1, none⟩ = some (.int .i64 c2) := (by rw [hb2.cell (p := ⟨w.heap.size + 2, 1, none⟩) (by first | omega | (simp; done) | (simp; omega))] <;> first | assumption | (simp; done) | (simp [go_sem, *]; done))
  have c2_2_2 : w2.cell? ⟨w.heap.size + 2, 2, none⟩ = some (.int .i64 c3) := (by rw [hb2.cell (p := ⟨w.heap.size + 2, 2, none⟩) (by first | omega | (simp; done) | (simp; omega))] <;> first | assumption | (simp; done) | (simp [go_sem, *]; done))
  have l2_0 : w.heap.size < w2.heap.size := (by omega)
  have n2_0 : w.heap.size ≠ w2.heap.size := (by omega)
  have l2_1 : w.heap.size + 1 < w2.heap.size := (by omega)
  have n2_1 : w.heap.size + 1 ≠ w2.heap.size := (by omega)
  have l2_2 : w.heap.size + 2 < w2.heap.size := (by omega)
  have n2_2 : w.heap.size + 2 ≠ w2.heap.size := (by omega)
  have z2 : w.heap.size ≤ w2.heap.size := (by omega)
  have HB2 := Lib.hid (show Below w.heap.size w w2 by (repeat' (first | exact Below.refl _ _ | (refine Below.setCell ?_ (by (first | omega | (simp; done) | (simp; omega))) _) | (refine Below.alloc ?_ (by (first | omega | (simp; done) | (simp; omega))) _) | (refine Below.drew ?_) | (refine below_drewN ?_ _) | (refine Below.trans ?_ (Below.mono HBo (by (first | omega | (simp; done) | (simp; omega))))) | (refine Below.trans ?_ (Below.mono hb2 (by (first | omega | (simp; done) | (simp; omega))))))))
  clear HBo hb2 hs2 c1_0_0 c1_0_1 c1_0_2 c1_1_0 c1_1_1 c1_1_2 c1_2_0 c1_2_1 c1_2_2 l1_0 n1_0 l1_1 n1_1 l1_2 n1_2 z1 HB1
  go_wp2_with fail
  go_at_call 26
  refine (far_c H3.out _).mono ?_
  rintro e w3 ⟨rfl, hb3⟩
  have HBo := HB2.out
  have hs3 := hb3.size
  try simp at hs3
  have c3_0_0 : w3.cell? ⟨w.heap.size, 0, none⟩ = some (.int .i64 a1) := (by rw [hb3.cell (p := ⟨w.heap.size, 0, none⟩) (by first | omega | (simp; done) | (simp; omega))] <;> first | assumption | (simp; done) | (simp [go_sem, *]; done))
  have c3_0_1 : w3.cell? ⟨w.heap.size, 1, none⟩ = some (.int .i64 a2) := (by rw [hb3.cell (p := ⟨w.heap.size, 1, none⟩) (by first | omega | (simp; done) | (simp; omega))] <;> first | assumption | (simp; done) | (simp [go_sem, *]; done))
  have c3_0_2 : w3.cell? ⟨w.heap.size, 2, none⟩ = some (.int .i64 a3) := (by rw [hb3.cell (p := ⟨w.heap.size, 2, none⟩) (by first | omega | (simp; done) | (simp; omega))] <;> first | assumption | (simp; done) | (simp [go_sem, *]; done))
  have c3_1_0 : w3.cell? ⟨w.heap.size + 1, 0, none⟩ = some (.int .i64 b1) := (by rw [hb3.cell (p := ⟨w.heap.size + 1, 0, none⟩) (by first | omega | (simp; done) | (simp; omega))] <;> first | assumption | (simp; done) | (simp [go_sem, *]; done))
  have c3_1_1 : w3.cell? ⟨w.heap.size + 1, 1, none⟩ = some (.int .i64 b2) := (by rw [hb3.cell (p := ⟨w.heap.size + 1, 1, none⟩) (by first | omega | (simp; done) | (simp; omega))] <;> first | assumption | (simp; done) | (simp [go_sem, *]; done))
  have c3_1_2 : w3.cell? ⟨w.heap.size + 1, 2, none⟩ = some (.int .i64 b3) := (by rw [hb3.cell (p := ⟨w.heap.size + 1, 2, none⟩) (by first | omega | (simp; done) | (simp; omega))] <;> first | assumption | (simp; done) | (simp [go_sem, *]; done))
  have c3_2_0 : w3.cell? ⟨w.heap.size + 2, 0, none⟩ = some (.int .i64 c1) := (by rw [hb3.cell (p := ⟨w.heap.size + 2, 0, none⟩) (by first | omega | (simp; done) | (simp; omega))] <;> first | assumption | (simp; done) | (simp [go_sem, *]; done))
  have c3_2_1 : w3.cell? ⟨w.heap.size + 2, 1, none⟩ = some (.int .i64 c2) := (by rw [hb3.cell (p := ⟨w.heap.size + 2, 1, none⟩) (by first | omega | (simp; done) | (simp; omega))] <;> first | assumption | (simp; done) | (simp [go_sem, *]; done))
  have c3_2_2 : w3.cell? ⟨w.heap.size + 2, 2, none⟩ = some (.int .i64 c3) := (by rw [hb3.cell (p := ⟨w.heap.size + 2, 2, none⟩) (by first | omega | (simp; done) | (simp; omega))] <;> first | assumption | (simp; done) | (simp [go_sem, *]; done))
  have l3_0 : w.heap.size < w3.heap.size := (by omega)
  have n3_0 : w.heap.size ≠ w3.heap.size := (by omega)
  have l3_1 : w.heap.size + 1 < w3.heap.size := (by omega)
  have n3_1 : w.heap.size + 1 ≠ w3.heap.size := (by omega)
  have l3_2 : w.heap.size + 2 < w3.heap.size := (by omega)
  have n3_2 : w.heap.size + 2 ≠ w3.heap.size := (by omega)
  have z3 : w.heap.size ≤ w3.heap.size := (by omega)
  have HB3 := Lib.hid (show Below w.heap.size w w3 by (repeat' (first | exact Below.refl _ _ | (refine Below.setCell ?_ (by (first | omega | (simp; done) | (simp; omega))) _) | (refine Below.alloc ?_ (by (first | omega | (simp; done) | (simp; omega))) _) | (refine Below.drew ?_) | (refine below_drewN ?_ _) | (refine Below.trans ?_ (Below.mono HBo (by (first | omega | (simp; done) | (simp; omega))))) | (refine Below.trans ?_ (Below.mono hb3 (by (first | omega | (simp; done) | (simp; omega))))))))
  clear HBo hb3 hs3 c2_0_0 c2_0_1 c2_0_2 c2_1_0 c2_1_1 c2_1_2 c2_2_0 c2_2_1 c2_2_2 l2_0 n2_0 l2_1 n2_1 l2_2 n2_2 z2 HB2
  go_wp2_with fail
  go_at_call 26
  refine (far_c H4.out _).mono ?_
  rintro e w4 ⟨rfl, hb4⟩
  have HBo := HB3.out
  have hs4 := hb4.size
  try simp at hs4
  have c4_0_0 : w4.cell? ⟨w.heap.size, 0, none⟩ = some (.int .i64 a1) := (by rw [hb4.cell (p := ⟨w.heap.size, 0, none⟩) (by first | omega | (simp; done) | (simp; omega))] <;> first | assumption | (simp; done) | (simp [go_sem, *]; done))
  have c4_0_1 : w4.cell? ⟨w.heap.size, 1, none⟩ = some (.int .i64 a2) := (by rw [hb4.cell (p := ⟨w.heap.size, 1, none⟩) (by first | omega | (simp; done) | (simp; omega))] <;> first | assumption | (simp; done) | (simp [go_sem, *]; done))
  have c4_0_2 : w4.cell? ⟨w.heap.size, 2, none⟩ = some (.int .i64 a3) := (by rw [hb4.cell (p := ⟨w.heap.size, 2, none⟩) (by first | omega | (simp; done) | (simp; omega))] <;> first | assumption | (simp; done) | (simp [go_sem, *]; done))
  have c4_1_0 : w4.cell? ⟨w.heap.size + 1, 0, none⟩ = some (.int .i64 b1) := (by rw [hb4.cell (p := ⟨w.heap.size + 1, 0, none⟩) (by first | omega | (simp; done) | (simp; omega))] <;> first | assumption | (simp; done) | (simp [go_sem, *]; done))
  have c4_1_1 : w4.cell? ⟨w.heap.size + 1, 1, none⟩ = some (.int .i64 b2) := (by rw [hb4.cell (p := ⟨w.heap.size + 1, 1, none⟩) (by first | omega | (simp; done) | (simp; omega))] <;> first | assumption | (simp; done) | (simp [go_sem, *]; done))
  have c4_1_2 : w4.cell? ⟨w.heap.size + 1, 2, none⟩ = some (.int .i64 b3) := (by rw [hb4.cell (p := ⟨w.heap.size + 1, 2, none⟩) (by first | omega | (simp; done) | (simp; omega))] <;> first | assumption | (simp; done) | (simp [go_sem, *]; done))
  have c4_2_0 : w4.cell? ⟨w.heap.size + 2, 0, none⟩ = some (.int .i64 c1) := (by rw [hb4.cell (p := ⟨w.heap.size + 2, 0, none⟩) (by first | omega | (simp; done) | (simp; omega))] <;> first | assumption | (simp; done) | (simp [go_sem, *]; done))
  have c4_2_1 : w4.cell? ⟨w.heap.size + 2, 1, none⟩ = some (.int .i64 c2) := (by rw [hb4.cell (p := ⟨w.heap.size + 2, 1, none⟩) (by first | omega | (simp; done) | (simp; omega))] <;> first | assumption | (simp; done) | (simp [go_sem, *]; done))
  have c4_2_2 : w4.cell? ⟨w.heap.size + 2, 2, none⟩ = some (.int .i64 c3) := (by rw [hb4.cell (p := ⟨w.heap.size + 2, 2, none⟩) (by first | omega | (simp; done) | (simp; omega))] <;> first | assumption | (simp; done) | (simp [go_sem, *]; done))
  have l4_0 : w.heap.size < w4.heap.size := (by omega)
  have n4_0 : w.heap.size ≠ w4.heap.size := (by omega)
  have l4_1 : w.heap.size + 1 < w4.heap.size := (by omega)
  have n4_1 : w.heap.size + 1 ≠ w4.heap.size := (by omega)
  have l4_2 : w.heap.size + 2 < w4.heap.size := (by omega)
  have n4_2 : w.heap.size + 2 ≠ w4.heap.size := (by omega)
  have z4 : w.heap.size ≤ w4.heap.size := (by omega)
  have HB4 := Lib.hid (show Below w.heap.size w w4 by (repeat' (first | exact Below.refl _ _ | (refine Below.setCell ?_ (by (first | omega | (simp; done) | (simp; omega))) _) | (refine Below.alloc ?_ (by (first | omega | (simp; done) | (simp; omega))) _) | (refine Below.drew ?_) | (refine below_drewN ?_ _) | (refine Below.trans ?_ (Below.mono HBo (by (first | omega | (simp; done) | (simp; omega))))) | (refine Below.trans ?_ (Below.mono hb4 (by (first | omega | (simp; done) | (simp; omega))))))))
  clear HBo hb4 hs4 c3_0_0 c3_0_1 c3_0_2 c3_1_0 c3_1_1 c3_1_2 c3_2_0 c3_2_1 c3_2_2 l3_0 n3_0 l3_1 n3_1 l3_2 n3_2 z3 HB3
  go_wp2_with fail
  go_at_call 19
  refine (may_b HM.out _).mono ?_
  rintro e w5 ⟨rfl, hb5⟩
  have HBo := HB4.out
  have hs5 := hb5.size
  try simp at hs5
  have c5_0_0 : w5.cell? ⟨w.heap.size, 0, none⟩ = some (.int .i64 a1) := (by rw [hb5.cell (p := ⟨w.heap.size, 0, none⟩) (by first | omega | (simp; done) | (simp; omega))] <;> first | assumption | (simp; done) | (simp [go_sem, *]; done))
  have c5_0_1 : w5.cell? ⟨w.heap.size, 1, none⟩ = some (.int .i64 a2) := (by rw [hb5.cell (p := ⟨w.heap.size, 1, none⟩) (by first | omega | (simp; done) | (simp; omega))] <;> first | assumption | (simp; done) | (simp [go_sem, *]; done))
  have c5_0_2 : w5.cell? ⟨w.heap.size, 2, none⟩ = some (.int .i64 a3) := (by rw [hb5.cell (p := ⟨w.heap.size, 2, none⟩) (by first | omega | (simp; done) | (simp; omega))] <;> first | assumption | (simp; done) | (simp [go_sem, *]; done))
  have c5_1_0 : w5.cell? ⟨w.heap.size + 1, 0, none⟩ = some (.int .i64 b1) := (by rw [hb5.cell (p := ⟨w.heap.size + 1, 0, none⟩) (by first | omega | (simp; done) | (simp; omega))] <;> first | assumption | (simp; done) | (simp [go_sem, *]; done))
  have c5_1_1 : w5.cell? ⟨w.heap.size + 1, 1, none⟩ = some (.int .i64 b2) := (by rw [hb5.cell (p := ⟨w.heap.size + 1, 1, none⟩) (by first | omega | (simp; done) | (simp; omega))] <;> first | assumption | (simp; done) | (simp [go_sem, *]; done))
  have c5_1_2 : w5.cell? ⟨w.heap.size + 1, 2, none⟩ = some (.int .i64 b3) := (by rw [hb5.cell (p := ⟨w.heap.size + 1, 2, none⟩) (by first | omega | (simp; done) | (simp; omega))] <;> first | assumption | (simp; done) | (simp [go_sem, *]; done))
  have c5_2_0 : w5.cell? ⟨w.heap.size + 2, 0, none⟩ = some (.int .i64 c1) := (by rw [hb5.cell (p := ⟨w.heap.size + 2, 0, none⟩) (by first | omega | (simp; done) | (simp; omega))] <;> first | assumption | (simp; done) | (simp [go_sem, *]; done))
  have c5_2_1 : w5.cell? ⟨w.heap.size + 2, 1, none⟩ = some (.int .i64 c2) := (by rw [hb5.cell (p := ⟨w.heap.size + 2, 1, none⟩) (by first | omega | (simp; done) | (simp; omega))] <;> first | assumption | (simp; done) | (simp [go_sem, *]; done))
  have c5_2_2 : w5.cell? ⟨w.heap.size + 2, 2, none⟩ = some (.int .i64 c3) := (by rw [hb5.cell (p := ⟨w.heap.size + 2, 2, none⟩) (by first | omega | (simp; done) | (simp; omega))] <;> first | assumption | (simp; done) | (simp [go_sem, *]; done))
  have l5_0 : w.heap.size < w5.heap.size := (by omega)
  have n5_0 : w.heap.size ≠ w5.heap.size := (by omega)
  have l5_1 : w.heap.size + 1 < w5.heap.size := (by omega)
  have n5_1 : w.heap.size + 1 ≠ w5.heap.size := (by omega)
  have l5_2 : w.heap.size + 2 < w5.heap.size := (by omega)
  have n5_2 : w.heap.size + 2 ≠ w5.heap.size := (by omega)
  have z5 : w.heap.size ≤ w5.heap.size := (by omega)
  have HB5 := Lib.hid (show Below w.heap.size w w5 by (repeat' (first | exact Below.refl _ _ | (refine Below.setCell ?_ (by (first | omega | (simp; done) | (simp; omega))) _) | (refine Below.alloc ?_ (by (first | omega | (simp; done) | (simp; omega))) _) | (refine Below.drew ?_) | (refine below_drewN ?_ _) | (refine Below.trans ?_ (Below.mono HBo (by (first | omega | (simp; done) | (simp; omega))))) | (refine Below.trans ?_ (Below.mono hb5 (by (first | omega | (simp; done) | (simp; omega))))))))
  clear HBo hb5 hs5 c4_0_0 c4_0_1 c4_0_2 c4_1_0 c4_1_1 c4_1_2 c4_2_0 c4_2_1 c4_2_2 l4_0 n4_0 l4_1 n4_1 l4_2 n4_2 z4 HB4
  go_wp2_with fail
  go_at_call 19
  refine (may_b HN.out _).mono ?_
  rintro e w6 ⟨rfl, hb6⟩
  have HBo := HB5.out
  have hs6 := hb6.size
  try simp at hs6
  have c6_0_0 : w6.cell? ⟨w.heap.size, 0, none⟩ = some (.int .i64 a1) := (by rw [hb6.cell (p := ⟨w.heap.size, 0, none⟩) (by first | omega | (simp; done) | (simp; omega))] <;> first | assumption | (simp; done) | (simp [go_sem, *]; done))
  have c6_0_1 : w6.cell? ⟨w.heap.size, 1, none⟩ = some (.int .i64 a2) := (by rw [hb6.cell (p := ⟨w.heap.size, 1, none⟩) (by first | omega | (simp; done) | (simp; omega))] <;> first | assumption | (simp; done) | (simp [go_sem, *]; done))
  have c6_0_2 : w6.cell? ⟨w.heap.size, 2, none⟩ = some (.int .i64 a3) := (by rw [hb6.cell (p := ⟨w.heap.size, 2, none⟩) (by first | omega | (simp; done) | (simp; omega))] <;> first | assumption | (simp; done) | (simp [go_sem, *]; done))
  have c6_1_0 : w6.cell? ⟨w.heap.size + 1, 0, none⟩ = some (.int .i64 b1) := (by rw [hb6.cell (p := ⟨w.heap.size + 1, 0, none⟩) (by first | omega | (simp; done) | (simp; omega))] <;> first | assumption | (simp; done) | (simp [go_sem, *]; done))
  have c6_1_1 : w6.cell? ⟨w.heap.size + 1, 1, none⟩ = some (.int .i64 b2) := (by rw [hb6.cell (p := ⟨w.heap.size + 1, 1, none⟩) (by first | omega | (simp; done) | (simp; omega))] <;> first | assumption | (simp; done) | (simp [go_sem, *]; done))
  have c6_1_2 : w6.cell? ⟨w.heap.size + 1, 2, none⟩ = some (.int .i64 b3) := (by rw [hb6.cell (p := ⟨w.heap.size + 1, 2, none⟩) (by first | omega | (simp; done) | (simp; omega))] <;> first | assumption | (simp; done) | (simp [go_sem, *]; done))
  have c6_2_0 : w6.cell? ⟨w.heap.size + 2, 0, none⟩ = some (.int .i64 c1) := (by rw [hb6.cell (p := ⟨w.heap.size + 2, 0, none⟩) (by first | omega | (simp; done) | (simp; omega))] <;> first | assumption | (simp; done) | (simp [go_sem, *]; done))
  have c6_2_1 : w6.cell? ⟨w.heap.size + 2, 1, none⟩ = some (.int .i64 c2) := (by rw [hb6.cell (p := ⟨w.heap.size + 2, 1, none⟩) (by first | omega | (simp; done) | (simp; omega))] <;> first | assumption | (simp; done) | (simp [go_sem, *]; done))
  have c6_2_2 : w6.cell? ⟨w.heap.size + 2, 2, none⟩ = some (.int .i64 c3) := (by rw [hb6.cell (p := ⟨w.heap.size + 2, 2, none⟩) (by first | omega | (simp; done) | (simp; omega))] <;> first | assumption | (simp; done) | (simp [go_sem, *]; done))
  have l6_0 : w.heap.size < w6.heap.size := (by omega)
  have n6_0 : w.heap.size ≠ w6.heap.size := (by omega)
  have l6_1 : w.heap.size + 1 < w6.heap.size := (by omega)
  have n6_1 : w.heap.size + 1 ≠ w6.heap.size := (by omega)
  have l6_2 : w.heap.size + 2 < w6.heap.size := (by omega)
  have n6_2 : w.heap.size + 2 ≠ w6.heap.size := (by omega)
  have z6 : w.heap.size ≤ w6.heap.size := (by omega)
  have HB6 := Lib.hid (show Below w.heap.size w w6 by (repeat' (first | exact Below.refl _ _ | (refine Below.setCell ?_ (by (first | omega | (simp; done) | (simp; omega))) _) | (refine Below.alloc ?_ (by (first | omega | (simp; done) | (simp; omega))) _) | (refine Below.drew ?_) | (refine below_drewN ?_ _) | (refine Below.trans ?_ (Below.mono HBo (by (first | omega | (simp; done) | (simp; omega))))) | (refine Below.trans ?_ (Below.mono hb6 (by (first | omega | (simp; done) | (simp; omega))))))))
  clear HBo hb6 hs6 c5_0_0 c5_0_1 c5_0_2 c5_1_0 c5_1_1 c5_1_2 c5_2_0 c5_2_1 c5_2_2 l5_0 n5_0 l5_1 n5_1 l5_2 n5_2 z5 HB5
  go_wp2_with fail
  go_at_call 23
  refine (works_c _).mono ?_
  rintro e w7 ⟨rfl, hb7⟩
  have HBo := HB6.out
  have hs7 := hb7.size
  try simp at hs7
  have c7_0_0 : w7.cell? ⟨w.heap.size, 0, none⟩ = some (.int .i64 a1) := (by rw [hb7.cell (p := ⟨w.heap.size, 0, none⟩) (by first | omega | (simp; done) | (simp; omega))] <;> first | assumption | (simp; done) | (simp [go_sem, *]; done))
  have c7_0_1 : w7.cell? ⟨w.heap.size, 1, none⟩ = some (.int .i64 a2) := (by rw [hb7.cell (p := ⟨w.heap.size, 1, none⟩) (by first | omega | (simp; done) | (simp; omega))] <;> first | assumption | (simp; done) | (simp [go_sem, *]; done))
  have c7_0_2 : w7.cell? ⟨w.heap.size, 2, none⟩ = some (.int .i64 a3) := (by rw [hb7.cell (p := ⟨w.heap.size, 2, none⟩) (by first | omega | (simp; done) | (simp; omega))] <;> first | assumption | (simp; done) | (simp [go_sem, *]; done))
  have c7_1_0 : w7.cell? ⟨w.heap.size + 1, 0, none⟩ = some (.int .i64 b1) := (by rw [hb7.cell (p := ⟨w.heap.size + 1, 0, none⟩) (by first | omega | (simp; done) | (simp; omega))] <;> first | assumption | (simp; done) | (simp [go_sem, *]; done))
  have c7_1_1 : w7.cell? ⟨w.heap.size + 1, 1, none⟩ = some (.int .i64 b2) := (by rw [hb7.cell (p := ⟨w.heap.size + 1, 1, none⟩) (by first | omega | (simp; done) | (simp; omega))] <;> first | assumption | (simp; done) | (simp [go_sem, *]; done))
  have c7_1_2 : w7.cell? ⟨w.heap.size + 1, 2, none⟩ = some (.int .i64 b3) := (by rw [hb7.cell (p := ⟨w.heap.size + 1, 2, none⟩) (by first | omega | (simp; done) | (simp; omega))] <;> first | assumption | (simp; done) | (simp [go_sem, *]; done))
  have c7_2_0 : w7.cell? ⟨w.heap.size + 2, 0, none⟩ = some (.int .i64 c1) := (by rw [hb7.cell (p := ⟨w.heap.size + 2, 0, none⟩) (by first | omega | (simp; done) | (simp; omega))] <;> first | assumption | (simp; done) | (simp [go_sem, *]; done))
  have c7_2_1 : w7.cell? ⟨w.heap.size + 2, 1, none⟩ = some (.int .i64 c2) := (by rw [hb7.cell (p := ⟨w.heap.size + 2, 1, none⟩) (by first | omega | (simp; done) | (simp; omega))] <;> first | assumption | (simp; done) | (simp [go_sem, *]; done))
  have c7_2_2 : w7.cell? ⟨w.heap.size + 2, 2, none⟩ = some (.int .i64 c3) := (by rw [hb7.cell (p := ⟨w.heap.size + 2, 2, none⟩) (by first | omega | (simp; done) | (simp; omega))] <;> first | assumption | (simp; done) | (simp [go_sem, *]; done))
  have l7_0 : w.heap.size < w7.heap.size := (by omega)
  have n7_0 : w.heap.size ≠ w7.heap.size := (by omega)
  have l7_1 : w.heap.size + 1 < w7.heap.size := (by omega)
  have n7_1 : w.heap.size + 1 ≠ w7.heap.size := (by omega)
  have l7_2 : w.heap.size + 2 < w7.heap.size := (by omega)
  have n7_2 : w.heap.size + 2 ≠ w7.heap.size := (by omega)
  have z7 : w.heap.size ≤ w7.heap.size := (by omega)
  have HB7 := Lib.hid (show Below w.heap.size w w7 by (repeat' (first | exact Below.refl _ _ | (refine Below.setCell ?_ (by (first | omega | (simp; done) | (simp; omega))) _) | (refine Below.alloc ?_ (by (first | omega | (simp; done) | (simp; omega))) _) | (refine Below.drew ?_) | (refine below_drewN ?_ _) | (refine Below.trans ?_ (Below.mono HBo (by (first | omega | (simp; done) | (simp; omega))))) | (refine Below.trans ?_ (Below.mono hb7 (by (first | omega | (simp; done) | (simp; omega))))))))
  clear HBo hb7 hs7 c6_0_0 c6_0_1 c6_0_2 c6_1_0 c6_1_1 c6_1_2 c6_2_0 c6_2_1 c6_2_2 l6_0 n6_0 l6_1 n6_1 l6_2 n6_2 z6 HB6
  go_wp2_with fail
  go_ret
  have HBo := HB7.out
  refine ⟨rfl, ?_⟩
  (repeat' (first | exact Below.refl _ _ | (refine Below.setCell ?_ (by (first | omega | (simp; done) | (simp; omega))) _) | (refine Below.alloc ?_ (by (first | omega | (simp; done) | (simp; omega))) _) | (refine Below.drew ?_) | (refine below_drewN ?_ _) | (refine Below.trans ?_ (Below.mono HBo (by (first | omega | (simp; done) | (simp; omega)))))))

set_option maxRecDepth 100000 in
set_option maxHeartbeats 2000000 in
theorem law_near_C0 {a1 a2 a3 c1 c2 c3 p q : Int} {g : Bool} (h1 : farOf a1 a2 a3 a1 a2 a3 = (0, true)) (h2 : farOf a1 a2 a3 a1 a2 a3 = (0, true)) (h3 : farOf a1 a2 a3 c1 c2 c3 = (p, false)) (h4 : farOf c1 c2 c3 a1 a2 a3 = (q, g)) (w : World) :
    Calls Try.prog 10 #[.agg #[.int .i64 a1, .int .i64 a2, .int .i64 a3], .agg #[.int .i64 a1, .int .i64 a2, .int .i64 a3], .agg #[.int .i64 c1, .int .i64 c2, .int .i64 c3]] w fun e w' => e = .returned (.bool true) ∧ Below w.heap.size w w' := by
  have HM := Lib.hid (far_true h1).1
  have HN := Lib.hid (far_true h1).2.1
  have H1 := Lib.hid h1
  have H2 := Lib.hid h2
  have H3 := Lib.hid h3
  have H4 := Lib.hid h4
  clear h1 h2 h3 h4
  go_enter Try.func10, Try.ntmps10
  go_wp2_with fail
  go_at_call 26
  refine (far_c H1.out _).mono ?_
  rintro e w1 ⟨rfl, hb1⟩
  have hs1 := hb1.size
  try simp at hs1
  have c1_0_0 : w1.cell? ⟨w.heap.size, 0, none⟩ = some (.int .i64 a1) := (by rw [hb1.cell (p := ⟨w.heap.size, 0, none⟩) (by first | omega | (simp; done) | (simp; omega))] <;> first | assumption | (simp; done) | (simp [go_sem, *]; done))
  have c1_0_1 : w1.cell? ⟨w.heap.size, 1, none⟩ = some (.int .i64 a2) := (by rw [hb1.cell (p := ⟨w.heap.size, 1, none⟩) (by first | omega | (simp; done) | (simp; omega))] <;> first | assumption | (simp; done) | (simp [go_sem, *]; done))
  have c1_0_2 : w1.cell? ⟨w.heap.size, 2, none⟩ = some (.int .i64 a3) := (by rw [hb1.cell (p := ⟨w.heap.size, 2, none⟩) (by first | omega | (simp; done) | (simp; omega))] <;> first | assumption | (simp; done) | (simp [go_sem, *]; done))
  have c1_1_0 : w1.cell? ⟨w.heap.size + 1, 0, none⟩ = some (.int .i64 a1) := (by rw [hb1.cell (p := ⟨w.heap.size + 1, 0, none⟩) (by first | omega | (simp; done) | (simp; omega))] <;> first | assumption | (simp; done) | (simp [go_sem, *]; done))
  have c1_1_1 : w1.cell? ⟨w.heap.size + 1, 1, none⟩ = some (.int .i64 a2) := (by rw [hb1.cell (p := ⟨w.heap.size + 1, 1, none⟩) (by first | omega | (simp; done) | (simp; omega))] <;> first | assumption | (simp; done) | (simp [go_sem, *]; done))
  have c1_1_2 : w1.cell? ⟨w.heap.size + 1, 2, none⟩ = some (.int .i64 a3) := (by rw [hb1.cell (p := ⟨w.heap.size + 1, 2, none⟩) (by first | omega | (simp; done) | (simp; omega))] <;> first | assumption | (simp; done) | (simp [go_sem, *]; done))
  have c1_2_0 : w1.cell? ⟨w.heap.size + 2, 0, none⟩ = some (.int .i64 c1) := (by rw [hb1.cell (p := ⟨w.heap.size + 2, 0, none⟩) (by first | omega | (simp; done) | (simp; omega))] <;> first | assumption | (simp; done) | (simp [go_sem, *]; done))
  have c1_2_1 : w1.cell? ⟨w.heap.size + 2, 1, none⟩ = some (.int .i64 c2) := (by rw [hb1.cell (p := ⟨w.heap.size + 2, 1, none⟩) (by first | omega | (simp; done) | (simp; omega))] <;> first | assumption | (simp; done) | (simp [go_sem, *]; done))
  have c1_2_2 : w1.cell? ⟨w.heap.size + 2, 2, none⟩ = some (.int .i64 c3) := (by rw [hb1.cell (p := ⟨w.heap.size + 2, 2, none⟩) (by first | omega | (simp; done) | (simp; omega))] <;> first | assumption | (simp; done) | (simp [go_sem, *]; done))
  have l1_0 : w.heap.size < w1.heap.size := (by omega)
  have n1_0 : w.heap.size ≠ w1.heap.size := (by omega)
  have l1_1 : w.heap.size + 1 < w1.heap.size := (by omega)
  have n1_1 : w.heap.size + 1 ≠ w1.heap.size := (by omega)
  have l1_2 : w.heap.size + 2 < w1.heap.size := (by omega)
  have n1_2 : w.heap.size + 2 ≠ w1.heap.size := (by omega)
  have z1 : w.heap.size ≤ w1.heap.size := (by omega)
  have HB1 := Lib.hid (show Below w.heap.size w w1 by (repeat' (first | exact Below.refl _ _ | (refine Below.setCell ?_ (by (first | omega | (simp; done) | (simp; omega))) _) | (refine Below.alloc ?_ (by (first | omega | (simp; done) | (simp; omega))) _) | (refine Below.drew ?_) | (refine below_drewN ?_ _) | (refine Below.trans ?_ (Below.mono hb1 (by (first | omega | (simp; done) | (simp; omega))))))))
  clear hb1 hs1
  go_wp2_with fail
  go_at_call 26
  refine (far_c H2.out _).mono ?_
  rintro e w2 ⟨rfl, hb2⟩
  have HBo := HB1.out
  have hs2 := hb2.size
  try simp at hs2
  have c2_0_0 : w2.cell? ⟨w.heap.size, 0, none⟩ = some (.int .i64 a1) := (by rw [hb2.cell (p := ⟨w.heap.size, 0, none⟩) (by first | omega | (simp; done) | (simp; omega))] <;> first | assumption | (simp; done) | (simp [go_sem, *]; done))
  have c2_0_1 : w2.cell? ⟨w.heap.size, 1, none⟩ = some (.int .i64 a2) := (by rw [hb2.cell (p := ⟨w.heap.size, 1, none⟩) (by first | omega | (simp; done) | (simp; omega))] <;> first | assumption | (simp; done) | (simp [go_sem, *]; done))
  have c2_0_2 : w2.cell? ⟨w.heap.size, 2, none⟩ = some (.int .i64 a3) := (by rw [hb2.cell (p := ⟨w.heap.size, 2, none⟩) (by first | omega | (simp; done) | (simp; omega))] <;> first | assumption | (simp; done) | (simp [go_sem, *]; done))
  have c2_1_0 : w2.cell? ⟨w.heap.size + 1, 0, none⟩ = some (.int .i64 a1) := (by rw [hb2.cell (p := ⟨w.heap.size + 1, 0, none⟩) (by first | omega | (simp; done) | (simp; omega))] <;> first | assumption | (simp; done) | (simp [go_sem, *]; done))
  have c2_1_1 : w2.cell? ⟨w.heap.size + 1, 1, none⟩ = some (.int .i64 a2) := (by rw [hb2.cell (p := ⟨w.heap.size + 1, 1, none⟩) (by first | omega | (simp; done) | (simp; omega))] <;> first | assumption | (simp; done) | (simp [go_sem, *]; done))
  have c2_1_2 : w2.cell? ⟨w.heap.size + 1, 2, none⟩ = some (.int .i64 a3) := (by rw [hb2.cell (p := ⟨w.heap.size + 1, 2, none⟩) (by first | omega | (simp; done) | (simp; omega))] <;> first | assumption | (simp; done) | (simp [go_sem, *]; done))
  have c2_2_0 : w2.cell? ⟨w.heap.size + 2, 0, none⟩ = some (.int .i64 c1) := (by rw [hb2.cell (p := ⟨w.heap.size + 2, 0, none⟩) (by first | omega | (simp; done) | (simp; omega))] <;> first | assumption | (simp; done) | (simp [go_sem, *]; done))
  have c2_2_1 : w2.cell? ⟨w.heap.size + 2, 1, none⟩ = some (.int .i64 c2) := (by rw [hb2.cell (p := ⟨w.heap.size + 2, 1, none⟩) (by first | omega | (simp; done) | (simp; omega))] <;> first | assumption | (simp; done) | (simp [go_sem, *]; done))
  have c2_2_2 : w2.cell? ⟨w.heap.size + 2, 2, none⟩ = some (.int .i64 c3) := (by rw [hb2.cell (p := ⟨w.heap.size + 2, 2, none⟩) (by first | omega | (simp; done) | (simp; omega))] <;> first | assumption | (simp; done) | (simp [go_sem, *]; done))
  have l2_0 : w.heap.size < w2.heap.size := (by omega)
  have n2_0 : w.heap.size ≠ w2.heap.size := (by omega)
  have l2_1 : w.heap.size + 1 < w2.heap.size := (by omega)
  have n2_1 : w.heap.size + 1 ≠ w2.heap.size := (by omega)
  have l2_2 : w.heap.size + 2 < w2.heap.size := (by omega)
  have n2_2 : w.heap.size + 2 ≠ w2.heap.size := (by omega)
  have z2 : w.heap.size ≤ w2.heap.size := (by omega)
  have HB2 := Lib.hid (show Below w.heap.size w w2 by (repeat' (first | exact Below.refl _ _ | (refine Below.setCell ?_ (by (first | omega | (simp; done) | (simp; omega))) _) | (refine Below.alloc ?_ (by (first | omega | (simp; done) | (simp; omega))) _) | (refine Below.drew ?_) | (refine below_drewN ?_ _) | (refine Below.trans ?_ (Below.mono HBo (by (first | omega | (simp; done) | (simp; omega))))) | (refine Below.trans ?_ (Below.mono hb2 (by (first | omega | (simp; done) | (simp; omega))))))))
  clear HBo hb2 hs2 c1_0_0 c1_0_1 c1_0_2 c1_1_0 c1_1_1 c1_1_2 c1_2_0 c1_2_1 c1_2_2 l1_0 n1_0 l1_1 n1_1 l1_2 n1_2 z1 HB1
  go_wp2_with fail
  go_at_call 26
  refine (far_c H3.out _).mono ?_
  rintro e w3 ⟨rfl, hb3⟩
  have HBo := HB2.out
  have hs3 := hb3.size
  try simp at hs3
  have c3_0_0 : w3.cell? ⟨w.heap.size, 0, none⟩ = some (.int .i64 a1) := (by rw [hb3.cell (p := ⟨w.heap.size, 0, none⟩) (by first | omega | (simp; done) | (simp; omega))] <;> first | assumption | (simp; done) | (simp [go_sem, *]; done))
  have c3_0_1 : w3.cell? ⟨w.heap.size, 1, none⟩ = some (.int .i64 a2) := (by rw [hb3.cell (p := ⟨w.heap.size, 1, none⟩) (by first | omega | (simp; done) | (simp; omega))] <;> first | assumption | (simp; done) | (simp [go_sem, *]; done))
  have c3_0_2 : w3.cell? ⟨w.heap.size, 2, none⟩ = some (.int .i64 a3) := (by rw [hb3.cell (p := ⟨w.heap.size, 2, none⟩) (by first | omega | (simp; done) | (simp; omega))] <;> first | assumption | (simp; done) | (simp [go_sem, *]; done))
  have c3_1_0 : w3.cell? ⟨w.heap.size + 1, 0, none⟩ = some (.int .i64 a1) := (by rw [hb3.cell (p := ⟨w.heap.size + 1, 0, none⟩) (by first | omega | (simp; done) | (simp; omega))] <;> first | assumption | (simp; done) | (simp [go_sem, *]; done))
  have c3_1_1 : w3.cell? ⟨w.heap.size + 1, 1, none⟩ = some (.int .i64 a2) := (by rw [hb3.cell (p := ⟨w.heap.size + 1, 1, none⟩) (by first | omega | (simp; done) | (simp; omega))] <;> first | assumption | (simp; done) | (simp [go_sem, *]; done))
  have c3_1_2 : w3.cell? ⟨w.heap.size + 1, 2, none⟩ = some (.int .i64 a3) := (by rw [hb3.cell (p := ⟨w.heap.size + 1, 2, none⟩) (by first | omega | (simp; done) | (simp; omega))] <;> first | assumption | (simp; done) | (simp [go_sem, *]; done))
  have c3_2_0 : w3.cell? ⟨w.heap.size + 2, 0, none⟩ = some (.int .i64 c1) := (by rw [hb3.cell (p := ⟨w.heap.size + 2, 0, none⟩) (by first | omega | (simp; done) | (simp; omega))] <;> first | assumption | (simp; done) | (simp [go_sem, *]; done))
  have c3_2_1 : w3.cell? ⟨w.heap.size + 2, 1, none⟩ = some (.int .i64 c2) := (by rw [hb3.cell (p := ⟨w.heap.size + 2, 1, none⟩) (by first | omega | (simp; done) | (simp; omega))] <;> first | assumption | (simp; done) | (simp [go_sem, *]; done))
  have c3_2_2 : w3.cell? ⟨w.heap.size + 2, 2, none⟩ = some (.int .i64 c3) := (by rw [hb3.cell (p := ⟨w.heap.size + 2, 2, none⟩) (by first | omega | (simp; done) | (simp; omega))] <;> first | assumption | (simp; done) | (simp [go_sem, *]; done))
  have l3_0 : w.heap.size < w3.heap.size := (by omega)
  have n3_0 : w.heap.size ≠ w3.heap.size := (by omega)
  have l3_1 : w.heap.size + 1 < w3.heap.size := (by omega)
  have n3_1 : w.heap.size + 1 ≠ w3.heap.size := (by omega)
  have l3_2 : w.heap.size + 2 < w3.heap.size := (by omega)
  have n3_2 : w.heap.size + 2 ≠ w3.heap.size := (by omega)
  have z3 : w.heap.size ≤ w3.heap.size := (by omega)
  have HB3 := Lib.hid (show Below w.heap.size w w3 by (repeat' (first | exact Below.refl _ _ | (refine Below.setCell ?_ (by (first | omega | (simp; done) | (simp; omega))) _) | (refine Below.alloc ?_ (by (first | omega | (simp; done) | (simp; omega))) _) | (refine Below.drew ?_) | (refine below_drewN ?_ _) | (refine Below.trans ?_ (Below.mono HBo (by (first | omega | (simp; done) | (simp; omega))))) | (refine Below.trans ?_ (Below.mono hb3 (by (first | omega | (simp; done) | (simp; omega))))))))
  clear HBo hb3 hs3 c2_0_0 c2_0_1 c2_0_2 c2_1_0 c2_1_1 c2_1_2 c2_2_0 c2_2_1 c2_2_2 l2_0 n2_0 l2_1 n2_1 l2_2 n2_2 z2 HB2
  go_wp2_with fail
  go_at_call 26
  refine (far_c H4.out _).mono ?_
  rintro e w4 ⟨rfl, hb4⟩
  have HBo := HB3.out
  have hs4 := hb4.size
  try simp at hs4
  have c4_0_0 : w4.cell? ⟨w.heap.size, 0, none⟩ = some (.int .i64 a1) := (by rw [hb4.cell (p := ⟨w.heap.size, 0, none⟩) (by first | omega | (simp; done) | (simp; omega))] <;> first | assumption | (simp; done) | (simp [go_sem, *]; done))
  have c4_0_1 : w4.cell? ⟨w.heap.size, 1, none⟩ = some (.int .i64 a2) := (by rw [hb4.cell (p := ⟨w.heap.size, 1, none⟩) (by first | omega | (simp; done) | (simp; omega))] <;> first | assumption | (simp; done) | (simp [go_sem, *]; done))
  have c4_0_2 : w4.cell? ⟨w.heap.size, 2, none⟩ = some (.int .i64 a3) := (by rw [hb4.cell (p := ⟨w.heap.size, 2, none⟩) (by first | omega | (simp; done) | (simp; omega))] <;> first | assumption | (simp; done) | (simp [go_sem, *]; done))
  have c4_1_0 : w4.cell? ⟨w.heap.size + 1, 0, none⟩ = some (.int .i64 a1) := (by rw [hb4.cell (p := ⟨w.heap.size + 1, 0, none⟩) (by first | omega | (simp; done) | (simp; omega))] <;> first | assumption | (simp; done) | (simp [go_sem, *]; done))
  have c4_1_1 : w4.cell? ⟨w.heap.size + 1, 1, none⟩ = some (.int .i64 a2) := (by rw [hb4.cell (p := ⟨w.heap.size + 1, 1, none⟩) (by first | omega | (simp; done) | (simp; omega))] <;> first | assumption | (simp; done) | (simp [go_sem, *]; done))
  have c4_1_2 : w4.cell? ⟨w.heap.size + 1, 2, none⟩ = some (.int .i64 a3) := (by rw [hb4.cell (p := ⟨w.heap.size + 1, 2, none⟩) (by first | omega | (simp; done) | (simp; omega))] <;> first | assumption | (simp; done) | (simp [go_sem, *]; done))
  have c4_2_0 : w4.cell? ⟨w.heap.size + 2, 0, none⟩ = some (.int .i64 c1) := (by rw [hb4.cell (p := ⟨w.heap.size + 2, 0, none⟩) (by first | omega | (simp; done) | (simp; omega))] <;> first | assumption | (simp; done) | (simp [go_sem, *]; done))
  have c4_2_1 : w4.cell? ⟨w.heap.size + 2, 1, none⟩ = some (.int .i64 c2) := (by rw [hb4.cell (p := ⟨w.heap.size + 2, 1, none⟩) (by first | omega | (simp; done) | (simp; omega))] <;> first | assumption | (simp; done) | (simp [go_sem, *]; done))
  have c4_2_2 : w4.cell? ⟨w.heap.size + 2, 2, none⟩ = some (.int .i64 c3) := (by rw [hb4.cell (p := ⟨w.heap.size + 2, 2, none⟩) (by first | omega | (simp; done) | (simp; omega))] <;> first | assumption | (simp; done) | (simp [go_sem, *]; done))
  have l4_0 : w.heap.size < w4.heap.size := (by omega)
  have n4_0 : w.heap.size ≠ w4.heap.size := (by omega)
  have l4_1 : w.heap.size + 1 < w4.heap.size := (by omega)
  have n4_1 : w.heap.size + 1 ≠ w4.heap.size := (by omega)
  have l4_2 : w.heap.size + 2 < w4.heap.size := (by omega)
  have n4_2 : w.heap.size + 2 ≠ w4.heap.size := (by omega)
  have z4 : w.heap.size ≤ w4.heap.size := (by omega)
  have HB4 := Lib.hid (show Below w.heap.size w w4 by (repeat' (first | exact Below.refl _ _ | (refine Below.setCell ?_ (by (first | omega | (simp; done) | (simp; omega))) _) | (refine Below.alloc ?_ (by (first | omega | (simp; done) | (simp; omega))) _) | (refine Below.drew ?_) | (refine below_drewN ?_ _) | (refine Below.trans ?_ (Below.mono HBo (by (first | omega | (simp; done) | (simp; omega))))) | (refine Below.trans ?_ (Below.mono hb4 (by (first | omega | (simp; done) | (simp; omega))))))))
  clear HBo hb4 hs4 c3_0_0 c3_0_1 c3_0_2 c3_1_0 c3_1_1 c3_1_2 c3_2_0 c3_2_1 c3_2_2 l3_0 n3_0 l3_1 n3_1 l3_2 n3_2 z3 HB3
  go_wp2_with fail
  go_at_call 19
  refine (may_b HM.out _).mono ?_
  rintro e w5 ⟨rfl, hb5⟩
  have HBo := HB4.out
  have hs5 := hb5.size
  try simp at hs5
  have c5_0_0 : w5.cell? ⟨w.heap.size, 0, none⟩ = some (.int .i64 a1) := (by rw [hb5.cell (p := ⟨w.heap.size, 0, none⟩) (by first | omega | (simp; done) | (simp; omega))] <;> first | assumption | (simp; done) | (simp [go_sem, *]; done))
  have c5_0_1 : w5.cell? ⟨w.heap.size, 1, none⟩ = some (.int .i64 a2) := (by rw [hb5.cell (p := ⟨w.heap.size, 1, none⟩) (by first | omega | (simp; done) | (simp; omega))] <;> first | assumption | (simp; done) | (simp [go_sem, *]; done))
  have c5_0_2 : w5.cell? ⟨w.heap.size, 2, none⟩ = some (.int .i64 a3) := (by rw [hb5.cell (p := ⟨w.heap.size, 2, none⟩) (by first | omega | (simp; done) | (simp; omega))] <;> first | assumption | (simp; done) | (simp [go_sem, *]; done))
  have c5_1_0 : w5.cell? ⟨w.heap.size + 1, 0, none⟩ = some (.int .i64 a1) := (by rw [hb5.cell (p := ⟨w.heap.size + 1, 0, none⟩) (by first | omega | (simp; done) | (simp; omega))] <;> first | assumption | (simp; done) | (simp [go_sem, *]; done))
  have c5_1_1 : w5.cell? ⟨w.heap.size + 1, 1, none⟩ = some (.int .i64 a2) := (by rw [hb5.cell (p := ⟨w.heap.size + 1, 1, none⟩) (by first | omega | (simp; done) | (simp; omega))] <;> first | assumption | (simp; done) | (simp [go_sem, *]; done))
  have c5_1_2 : w5.cell? ⟨w.heap.size + 1, 2, none⟩ = some (.int .i64 a3) := (by rw [hb5.cell (p := ⟨w.heap.size + 1, 2, none⟩) (by first | omega | (simp; done) | (simp; omega))] <;> first | assumption | (simp; done) | (simp [go_sem, *]; done))
  have c5_2_0 : w5.cell? ⟨w.heap.size + 2, 0, none⟩ = some (.int .i64 c1) := (by rw [hb5.cell (p := ⟨w.heap.size + 2, 0, none⟩) (by first | omega | (simp; done) | (simp; omega))] <;> first | assumption | (simp; done) | (simp [go_sem, *]; done))
  have c5_2_1 : w5.cell? ⟨w.heap.size + 2, 1, none⟩ = some (.int .i64 c2) := (by rw [hb5.cell (p := ⟨w.heap.size + 2, 1, none⟩) (by first | omega | (simp; done) | (simp; omega))] <;> first | assumption | (simp; done) | (simp [go_sem, *]; done))
  have c5_2_2 : w5.cell? ⟨w.heap.size + 2, 2, none⟩ = some (.int .i64 c3) := (by rw [hb5.cell (p := ⟨w.heap.size + 2, 2, none⟩) (by first | omega | (simp; done) | (simp; omega))] <;> first | assumption | (simp; done) | (simp [go_sem, *]; done))
  have l5_0 : w.heap.size < w5.heap.size := (by omega)
  have n5_0 : w.heap.size ≠ w5.heap.size := (by omega)
  have l5_1 : w.heap.size + 1 < w5.heap.size := (by omega)
  have n5_1 : w.heap.size + 1 ≠ w5.heap.size := (by omega)
  have l5_2 : w.heap.size + 2 < w5.heap.size := (by omega)
  have n5_2 : w.heap.size + 2 ≠ w5.heap.size := (by omega)
  have z5 : w.heap.size ≤ w5.heap.size := (by omega)
  have HB5 := Lib.hid (show Below w.heap.size w w5 by (repeat' (first | exact Below.refl _ _ | (refine Below.setCell ?_ (by (first | omega | (simp; done) | (simp; omega))) _) | (refine Below.alloc ?_ (by (first | omega | (simp; done) | (simp; omega))) _) | (refine Below.drew ?_) | (refine below_drewN ?_ _) | (refine Below.trans ?_ (Below.mono HBo (by (first | omega | (simp; done) | (simp; omega))))) | (refine Below.trans ?_ (Below.mono hb5 (by (first | omega | (simp; done) | (simp; omega))))))))
  clear HBo hb5 hs5 c4_0_0 c4_0_1 c4_0_2 c4_1_0 c4_1_1 c4_1_2 c4_2_0 c4_2_1 c4_2_2 l4_0 n4_0 l4_1 n4_1 l4_2 n4_2 z4 HB4
  go_wp2_with fail
  go_at_call 19
  refine (may_b HN.out _).mono ?_
  rintro e w6 ⟨rfl, hb6⟩
  have HBo := HB5.out
  have hs6 := hb6.size
  try simp at hs6
  have c6_0_0 : w6.cell? ⟨w.heap.size, 0, none⟩ = some (.int .i64 a1) := (by rw [hb6.cell (p := ⟨w.heap.size, 0, none⟩) (by first | omega | (simp; done) | (simp; omega))] <;> first | assumption | (simp; done) | (simp [go_sem, *]; done))
  have c6_0_1 : w6.cell? ⟨w.heap.size, 1, none⟩ = some (.int .i64 a2) := (by rw [hb6.cell (p := ⟨w.heap.size, 1, none⟩) (by first | omega | (simp; done) | (simp; omega))] <;> first | assumption | (simp; done) | (simp [go_sem, *]; done))
  have c6_0_2 : w6.cell? ⟨w.heap.size, 2, none⟩ = some (.int .i64 a3) := (by rw [hb6.cell (p := ⟨w.heap.size, 2, none⟩) (by first | omega | (simp; done) | (simp; omega))] <;> first | assumption | (simp; done) | (simp [go_sem, *]; done))
  have c6_1_0 : w6.cell? ⟨w.heap.size + 1, 0, none⟩ = some (.int .i64 a1) := (by rw [hb6.cell (p := ⟨w.heap.size + 1, 0, none⟩) (by first | omega | (simp; done) | (simp; omega))] <;> first | assumption | (simp; done) | (simp [go_sem, *]; done))
  have c6_1_1 : w6.cell? ⟨w.heap.size + 1, 1, none⟩ = some (.int .i64 a2) := (by rw [hb6.cell (p := ⟨w.heap.size + 1, 1, none⟩) (by first | omega | (simp; done) | (simp; omega))] <;> first | assumption | (simp; done) | (simp [go_sem, *]; done))
  have c6_1_2 : w6.cell? ⟨w.heap.size + 1, 2, none⟩ = some (.int .i64 a3) := (by rw [hb6.cell (p := ⟨w.heap.size + 1, 2, none⟩) (by first | omega | (simp; done) | (simp; omega))] <;> first | assumption | (simp; done) | (simp [go_sem, *]; done))
  have c6_2_0 : w6.cell? ⟨w.heap.size + 2, 0, none⟩ = some (.int .i64 c1) := (by rw [hb6.cell (p := ⟨w.heap.size + 2, 0, none⟩) (by first | omega | (simp; done) | (simp; omega))] <;> first | assumption | (simp; done) | (simp [go_sem, *]; done))
  have c6_2_1 : w6.cell? ⟨w.heap.size + 2, 1, none⟩ = some (.int .i64 c2) := (by rw [hb6.cell (p := ⟨w.heap.size + 2, 1, none⟩) (by first | omega | (simp; done) | (simp; omega))] <;> first | assumption | (simp; done) | (simp [go_sem, *]; done))
  have c6_2_2 : w6.cell? ⟨w.heap.size + 2, 2, none⟩ = some (.int .i64 c3) := (by rw [hb6.cell (p := ⟨w.heap.size + 2, 2, none⟩) (by first | omega | (simp; done) | (simp; omega))] <;> first | assumption | (simp; done) | (simp [go_sem, *]; done))
  have l6_0 : w.heap.size < w6.heap.size := (by omega)
  have n6_0 : w.heap.size ≠ w6.heap.size := (by omega)
  have l6_1 : w.heap.size + 1 < w6.heap.size := (by omega)
  have n6_1 : w.heap.size + 1 ≠ w6.heap.size := (by omega)
  have l6_2 : w.heap.size + 2 < w6.heap.size := (by omega)
  have n6_2 : w.heap.size + 2 ≠ w6.heap.size := (by omega)
  have z6 : w.heap.size ≤ w6.heap.size := (by omega)
  have HB6 := Lib.hid (show Below w.heap.size w w6 by (repeat' (first | exact Below.refl _ _ | (refine Below.setCell ?_ (by (first | omega | (simp; done) | (simp; omega))) _) | (refine Below.alloc ?_ (by (first | omega | (simp; done) | (simp; omega))) _) | (refine Below.drew ?_) | (refine below_drewN ?_ _) | (refine Below.trans ?_ (Below.mono HBo (by (first | omega | (simp; done) | (simp; omega))))) | (refine Below.trans ?_ (Below.mono hb6 (by (first | omega | (simp; done) | (simp; omega))))))))
  clear HBo hb6 hs6 c5_0_0 c5_0_1 c5_0_2 c5_1_0 c5_1_1 c5_1_2 c5_2_0 c5_2_1 c5_2_2 l5_0 n5_0 l5_1 n5_1 l5_2 n5_2 z5 HB5
  go_wp2_with fail
  go_at_call 23
  refine (works_c _).mono ?_
  rintro e w7 ⟨rfl, hb7⟩
  have HBo := HB6.out
  have hs7 := hb7.size
  try simp at hs7
  have c7_0_0 : w7.cell? ⟨w.heap.size, 0, none⟩ = some (.int .i64 a1) := (by rw [hb7.cell (p := ⟨w.heap.size, 0, none⟩) (by first | omega | (simp; done) | (simp; omega))] <;> first | assumption | (simp; done) | (simp [go_sem, *]; done))
  have c7_0_1 : w7.cell? ⟨w.heap.size, 1, none⟩ = some (.int .i64 a2) := (by rw [hb7.cell (p := ⟨w.heap.size, 1, none⟩) (by first | omega | (simp; done) | (simp; omega))] <;> first | assumption | (simp; done) | (simp [go_sem, *]; done))
  have c7_0_2 : w7.cell? ⟨w.heap.size, 2, none⟩ = some (.int .i64 a3) := (by rw [hb7.cell (p := ⟨w.heap.size, 2, none⟩) (by first | omega | (simp; done) | (simp; omega))] <;> first | assumption | (simp; done) | (simp [go_sem, *]; done))
  have c7_1_0 : w7.cell? ⟨w.heap.size + 1, 0, none⟩ = some (.int .i64 a1) := (by rw [hb7.cell (p := ⟨w.heap.size + 1, 0, none⟩) (by first | omega | (simp; done) | (simp; omega))] <;> first | assumption | (simp; done) | (simp [go_sem, *]; done))
  have c7_1_1 : w7.cell? ⟨w.heap.size + 1, 1, none⟩ = some (.int .i64 a2) := (by rw [hb7.cell (p := ⟨w.heap.size + 1, 1, none⟩) (by first | omega | (simp; done) | (simp; omega))] <;> first | assumption | (simp; done) | (simp [go_sem, *]; done))
  have c7_1_2 : w7.cell? ⟨w.heap.size + 1, 2, none⟩ = some (.int .i64 a3) := (by rw [hb7.cell (p := ⟨w.heap.size + 1, 2, none⟩) (by first | omega | (simp; done) | (simp; omega))] <;> first | assumption | (simp; done) | (simp [go_sem, *]; done))
  have c7_2_0 : w7.cell? ⟨w.heap.size + 2, 0, none⟩ = some (.int .i64 c1) := (by rw [hb7.cell (p := ⟨w.heap.size + 2, 0, none⟩) (by first | omega | (simp; done) | (simp; omega))] <;> first | assumption | (simp; done) | (simp [go_sem, *]; done))
  have c7_2_1 : w7.cell? ⟨w.heap.size + 2, 1, none⟩ = some (.int .i64 c2) := (by rw [hb7.cell (p := ⟨w.heap.size + 2, 1, none⟩) (by first | omega | (simp; done) | (simp; omega))] <;> first | assumption | (simp; done) | (simp [go_sem, *]; done))
  have c7_2_2 : w7.cell? ⟨w.heap.size + 2, 2, none⟩ = some (.int .i64 c3) := (by rw [hb7.cell (p := ⟨w.heap.size + 2, 2, none⟩) (by first | omega | (simp; done) | (simp; omega))] <;> first | assumption | (simp; done) | (simp [go_sem, *]; done))
  have l7_0 : w.heap.size < w7.heap.size := (by omega)
  have n7_0 : w.heap.size ≠ w7.heap.size := (by omega)
  have l7_1 : w.heap.size + 1 < w7.heap.size := (by omega)
  have n7_1 : w.heap.size + 1 ≠ w7.heap.size := (by omega)
  have l7_2 : w.heap.size + 2 < w7.heap.size := (by omega)
  have n7_2 : w.heap.size + 2 ≠ w7.heap.size := (by omega)
  have z7 : w.heap.size ≤ w7.heap.size := (by omega)
  have HB7 := Lib.hid (show Below w.heap.size w w7 by (repeat' (first | exact Below.refl _ _ | (refine Below.setCell ?_ (by (first | omega | (simp; done) | (simp; omega))) _) | (refine Below.alloc ?_ (by (first | omega | (simp; done) | (simp; omega))) _) | (refine Below.drew ?_) | (refine below_drewN ?_ _) | (refine Below.trans ?_ (Below.mono HBo (by (first | omega | (simp; done) | (simp; omega))))) | (refine Below.trans ?_ (Below.mono hb7 (by (first | omega | (simp; done) | (simp; omega))))))))
  clear HBo hb7 hs7 c6_0_0 c6_0_1 c6_0_2 c6_1_0 c6_1_1 c6_1_2 c6_2_0 c6_2_1 c6_2_2 l6_0 n6_0 l6_1 n6_1 l6_2 n6_2 z6 HB6
  go_wp2_with fail
  go_ret
  have HBo := HB7.out
  refine ⟨rfl, ?_⟩
  (repeat' (first | exact Below.refl _ _ | (refine Below.setCell ?_ (by (first | omega | (simp; done) | (simp; omega))) _) | (refine Below.alloc ?_ (by (first | omega | (simp; done) | (simp; omega))) _) | (refine Below.drew ?_) | (refine below_drewN ?_ _) | (refine Below.trans ?_ (Below.mono HBo (by (first | omega | (simp; done) | (simp; omega)))))))

set_option maxRecDepth 100000 in
set_option maxHeartbeats 2000000 in
theorem law_near_D0 {a1 a2 a3 b1 b2 b3 c1 c2 c3 n p q : Int} {g : Bool} (h1 : farOf a1 a2 a3 b1 b2 b3 = (n, true)) (h2 : farOf b1 b2 b3 a1 a2 a3 = (n, true)) (h3 : farOf a1 a2 a3 c1 c2 c3 = (p, false)) (h4 : farOf c1 c2 c3 b1 b2 b3 = (q, g)) (he : n ≠ 0) (w : World) :
    Calls Try.prog 10 #[.agg #[.int .i64 a1, .int .i64 a2, .int .i64 a3], .agg #[.int .i64 b1, .int .i64 b2, .int .i64 b3], .agg #[.int .i64 c1, .int .i64 c2, .int .i64 c3]] w fun e w' => e = .returned (.bool true) ∧ Below w.heap.size w w' := by
  have HM := Lib.hid (far_true h1).1
  have HN := Lib.hid (far_true h1).2.1
  have e1 : (n == 0) = false := by simpa using he
  have HZ := Lib.hid (fun h => he ((far_zero h1).2 h))
  clear he
  have H1 := Lib.hid h1
  have H2 := Lib.hid h2
  have H3 := Lib.hid h3
  have H4 := Lib.hid h4
  clear h1 h2 h3 h4
  go_enter Try.func10, Try.ntmps10
  go_wp2_with fail
  go_at_call 26
  refine (far_c H1.out _).mono ?_
  rintro e w1 ⟨rfl, hb1⟩
  have hs1 := hb1.size
  try simp at hs1
  have c1_0_0 : w1.cell? ⟨w.heap.size, 0, none⟩ = some (.int .i64 a1) := (by rw [hb1.cell (p := ⟨w.heap.size, 0, none⟩) (by first | omega | (simp; done) | (simp; omega))] <;> first | assumption | (simp; done) | (simp [go_sem, *]; done))
  have c1_0_1 : w1.cell? ⟨w.heap.size, 1, none⟩ = some (.int .i64 a2) := (by rw [hb1.cell (p := ⟨w.heap.size, 1, none⟩) (by first | omega | (simp; done) | (simp; omega))] <;> first | assumption | (simp; done) | (simp [go_sem, *]; done))
  have c1_0_2 : w1.cell? ⟨w.heap.size, 2, none⟩ = some (.int .i64 a3) := (by rw [hb1.cell (p := ⟨w.heap.size, 2, none⟩) (by first | omega | (simp; done) | (simp; omega))] <;> first | assumption | (simp; done) | (simp [go_sem, *]; done))
  have c1_1_0 : w1.cell? ⟨w.heap.size + 1, 0, none⟩ = some (.int .i64 b1) := (by rw [hb1.cell (p := ⟨w.heap.size + 1, 0, none⟩) (by first | omega | (simp; done) | (simp; omega))] <;> first | assumption | (simp; done) | (simp [go_sem, *]; done))
  have c1_1_1 : w1.cell? ⟨w.heap.size + 1, 1, none⟩ = some (.int .i64 b2) := (by rw [hb1.cell (p := ⟨w.heap.size + 1, 1, none⟩) (by first | omega | (simp; done) | (simp; omega))] <;> first | assumption | (simp; done) | (simp [go_sem, *]; done))
  have c1_1_2 : w1.cell? ⟨w.heap.size + 1, 2, none⟩ = some (.int .i64 b3) := (by rw [hb1.cell (p := ⟨w.heap.size + 1, 2, none⟩) (by first | omega | (simp; done) | (simp; omega))] <;> first | assumption | (simp; done) | (simp [go_sem, *]; done))
  have c1_2_0 : w1.cell? ⟨w.heap.size + 2, 0, none⟩ = some (.int .i64 c1) := (by rw [hb1.cell (p := ⟨w.heap.size + 2, 0, none⟩) (by first | omega | (simp; done) | (simp; omega))] <;> first | assumption | (simp; done) | (simp [go_sem, *]; done))
  have c1_2_1 : w1.cell? ⟨w.heap.size + 2, 1, none⟩ = some (.int .i64 c2) := (by rw [hb1.cell (p := ⟨w.heap.size + 2, 1, none⟩) (by first | omega | (simp; done) | (simp; omega))] <;> first | assumption | (simp; done) | (simp [go_sem, *]; done))
  have c1_2_2 : w1.cell? ⟨w.heap.size + 2, 2, none⟩ = some (.int .i64 c3) := (by rw [hb1.cell (p := ⟨w.heap.size + 2, 2, none⟩) (by first | omega | (simp; done) | (simp; omega))] <;> first | assumption | (simp; done) | (simp [go_sem, *]; done))
  have l1_0 : w.heap.size < w1.heap.size := (by omega)
  have n1_0 : w.heap.size ≠ w1.heap.size := (by omega)
  have l1_1 : w.heap.size + 1 < w1.heap.size := (by omega)
  have n1_1 : w.heap.size + 1 ≠ w1.heap.size := (by omega)
  have l1_2 : w.heap.size + 2 < w1.heap.size := (by omega)
  have n1_2 : w.heap.size + 2 ≠ w1.heap.size := (by omega)
  have z1 : w.heap.size ≤ w1.heap.size := (by omega)
  have HB1 := Lib.hid (show Below w.heap.size w w1 by (repeat' (first | exact Below.refl _ _ | (refine Below.setCell ?_ (by (first | omega | (simp; done) | (simp; omega))) _) | (refine Below.alloc ?_ (by (first | omega | (simp; done) | (simp; omega))) _) | (refine Below.drew ?_) | (refine below_drewN ?_ _) | (refine Below.trans ?_ (Below.mono hb1 (by (first | omega | (simp; done) | (simp; omega))))))))
  clear hb1 hs1
  go_wp2_with fail
  go_at_call 26
  refine (far_c H2.out _).mono ?_
  rintro e w2 ⟨rfl, hb2⟩
  have HBo := HB1.out
  have hs2 := hb2.size
  try simp at hs2
  have c2_0_0 : w2.cell? ⟨w.heap.size, 0, none⟩ = some (.int .i64 a1) := (by rw [hb2.cell (p := ⟨w.heap.size, 0, none⟩) (by first | omega | (simp; done) | (simp; omega))] <;> first | assumption | (simp; done) | (simp [go_sem, *]; done))
  have c2_0_1 : w2.cell? ⟨w.heap.size, 1, none⟩ = some (.int .i64 a2) := (by rw [hb2.cell (p := ⟨w.heap.size, 1, none⟩) (by first | omega | (simp; done) | (simp; omega))] <;> first | assumption | (simp; done) | (simp [go_sem, *]; done))
  have c2_0_2 : w2.cell? ⟨w.heap.size, 2, none⟩ = some (.int .i64 a3) := (by rw [hb2.cell (p := ⟨w.heap.size, 2, none⟩) (by first | omega | (simp; done) | (simp; omega))] <;> first | assumption | (simp; done) | (simp [go_sem, *]; done))
  have c2_1_0 : w2.cell? ⟨w.heap.size + 1, 0, none⟩ = some (.int .i64 b1) := (by rw [hb2.cell (p := ⟨w.heap.size + 1, 0, none⟩) (by first | omega | (simp; done) | (simp; omega))] <;> first | assumption | (simp; done) | (simp [go_sem, *]; done))
  have c2_1_1 : w2.cell? ⟨w.heap.size + 1, 1, none⟩ = some (.int .i64 b2) := (by rw [hb2.cell (p := ⟨w.heap.size + 1, 1, none⟩) (by first | omega | (simp; done) | (simp; omega))] <;> first | assumption | (simp; done) | (simp [go_sem, *]; done))
  have c2_1_2 : w2.cell? ⟨w.heap.size + 1, 2, none⟩ = some (.int .i64 b3) := (by rw [hb2.cell (p := ⟨w.heap.size + 1, 2, none⟩) (by first | omega | (simp; done) | (simp; omega))] <;> first | assumption | (simp; done) | (simp [go_sem, *]; done))
  have c2_2_0 : w2.cell? ⟨w.heap.size + 2, 0, none⟩ = some (.int .i64 c1) := (by rw [hb2.cell (p := ⟨w.heap.size + 2, 0, none⟩) (by first | omega | (simp; done) | (simp; omega))] <;> first | assumption | (simp; done) | (simp [go_sem, *]; done))
  have c2_2_1 : w2.cell? ⟨w.heap.size + 2, 1, none⟩ = some (.int .i64 c2) := (by rw [hb2.cell (p := ⟨w.heap.size + 2, 1, none⟩) (by first | omega | (simp; done) | (simp; omega))] <;> first | assumption | (simp; done) | (simp [go_sem, *]; done))
  have c2_2_2 : w2.cell? ⟨w.heap.size + 2, 2, none⟩ = some (.int .i64 c3) := (by rw [hb2.cell (p := ⟨w.heap.size + 2, 2, none⟩) (by first | omega | (simp; done) | (simp; omega))] <;> first | assumption | (simp; done) | (simp [go_sem, *]; done))
  have l2_0 : w.heap.size < w2.heap.size := (by omega)
  have n2_0 : w.heap.size ≠ w2.heap.size := (by omega)
  have l2_1 : w.heap.size + 1 < w2.heap.size := (by omega)
  have n2_1 : w.heap.size + 1 ≠ w2.heap.size := (by omega)
  have l2_2 : w.heap.size + 2 < w2.heap.size := (by omega)
  have n2_2 : w.heap.size + 2 ≠ w2.heap.size := (by omega)
  have z2 : w.heap.size ≤ w2.heap.size := (by omega)
  have HB2 := Lib.hid (show Below w.heap.size w w2 by (repeat' (first | exact Below.refl _ _ | (refine Below.setCell ?_ (by (first | omega | (simp; done) | (simp; omega))) _) | (refine Below.alloc ?_ (by (first | omega | (simp; done) | (simp; omega))) _) | (refine Below.drew ?_) | (refine below_drewN ?_ _) | (refine Below.trans ?_ (Below.mono HBo (by (first | omega | (simp; done) | (simp; omega))))) | (refine Below.trans ?_ (Below.mono hb2 (by (first | omega | (simp; done) | (simp; omega))))))))
  clear HBo hb2 hs2 c1_0_0 c1_0_1 c1_0_2 c1_1_0 c1_1_1 c1_1_2 c1_2_0 c1_2_1 c1_2_2 l1_0 n1_0 l1_1 n1_1 l1_2 n1_2 z1 HB1
  go_wp2_with fail
  go_at_call 26
  refine (far_c H3.out _).mono ?_
  rintro e w3 ⟨rfl, hb3⟩
  have HBo := HB2.out
  have hs3 := hb3.size
  try simp at hs3
  have c3_0_0 : w3.cell? ⟨w.heap.size, 0, none⟩ = some (.int .i64 a1) := (by rw [hb3.cell (p := ⟨w.heap.size, 0, none⟩) (by first | omega | (simp; done) | (simp; omega))] <;> first | assumption | (simp; done) | (simp [go_sem, *]; done))
  have c3_0_1 : w3.cell? ⟨w.heap.size, 1, none⟩ = some (.int .i64 a2) := (by rw [hb3.cell (p := ⟨w.heap.size, 1, none⟩) (by first | omega | (simp; done) | (simp; omega))] <;> first | assumption | (simp; done) | (simp [go_sem, *]; done))
  have c3_0_2 : w3.cell? ⟨w.heap.size, 2, none⟩ = some (.int .i64 a3) := (by rw [hb3.cell (p := ⟨w.heap.size, 2, none⟩) (by first | omega | (simp; done) | (simp; omega))] <;> first | assumption | (simp; done) | (simp [go_sem, *]; done))
  have c3_1_0 : w3.cell? ⟨w.heap.size + 1, 0, none⟩ = some (.int .i64 b1) := (by rw [hb3.cell (p := ⟨w.heap.size + 1, 0, none⟩) (by first | omega | (simp; done) | (simp; omega))] <;> first | assumption | (simp; done) | (simp [go_sem, *]; done))
  have c3_1_1 : w3.cell? ⟨w.heap.size + 1, 1, none⟩ = some (.int .i64 b2) := (by rw [hb3.cell (p := ⟨w.heap.size + 1, 1, none⟩) (by first | omega | (simp; done) | (simp; omega))] <;> first | assumption | (simp; done) | (simp [go_sem, *]; done))
  have c3_1_2 : w3.cell? ⟨w.heap.size + 1, 2, none⟩ = some (.int .i64 b3) := (by rw [hb3.cell (p := ⟨w.heap.size + 1, 2, none⟩) (by first | omega | (simp; done) | (simp; omega))] <;> first | assumption | (simp; done) | (simp [go_sem, *]; done))
  have c3_2_0 : w3.cell? ⟨w.heap.size + 2, 0, none⟩ = some (.int .i64 c1) := (by rw [hb3.cell (p := ⟨w.heap.size + 2, 0, none⟩) (by first | omega | (simp; done) | (simp; omega))] <;> first | assumption | (simp; done) | (simp [go_sem, *]; done))
  have c3_2_1 : w3.cell? ⟨w.heap.size + 2, 1, none⟩ = some (.int .i64 c2) := (by rw [hb3.cell (p := ⟨w.heap.size + 2, 1, none⟩) (by first | omega | (simp; done) | (simp; omega))] <;> first | assumption | (simp; done) | (simp [go_sem, *]; done))
  have c3_2_2 : w3.cell? ⟨w.heap.size + 2, 2, none⟩ = some (.int .i64 c3) := (by rw [hb3.cell (p := ⟨w.heap.size + 2, 2, none⟩) (by first | omega | (simp; done) | (simp; omega))] <;> first | assumption | (simp; done) | (simp [go_sem, *]; done))
  have l3_0 : w.heap.size < w3.heap.size := (by omega)
  have n3_0 : w.heap.size ≠ w3.heap.size := (by omega)
  have l3_1 : w.heap.size + 1 < w3.heap.size := (by omega)
  have n3_1 : w.heap.size + 1 ≠ w3.heap.size := (by omega)
  have l3_2 : w.heap.size + 2 < w3.heap.size := (by omega)
  have n3_2 : w.heap.size + 2 ≠ w3.heap.size := (by omega)
  have z3 : w.heap.size ≤ w3.heap.size := (by omega)
  have HB3 := Lib.hid (show Below w.heap.size w w3 by (repeat' (first | exact Below.refl _ _ | (refine Below.setCell ?_ (by (first | omega | (simp; done) | (simp; omega))) _) | (refine Below.alloc ?_ (by (first | omega | (simp; done) | (simp; omega))) _) | (refine Below.drew ?_) | (refine below_drewN ?_ _) | (refine Below.trans ?_ (Below.mono HBo (by (first | omega | (simp; done) | (simp; omega))))) | (refine Below.trans ?_ (Below.mono hb3 (by (first | omega | (simp; done) | (simp; omega))))))))
  clear HBo hb3 hs3 c2_0_0 c2_0_1 c2_0_2 c2_1_0 c2_1_1 c2_1_2 c2_2_0 c2_2_1 c2_2_2 l2_0 n2_0 l2_1 n2_1 l2_2 n2_2 z2 HB2
  go_wp2_with fail
  go_at_call 26
  refine (far_c H4.out _).mono ?_
  rintro e w4 ⟨rfl, hb4⟩
  have HBo := HB3.out
  have hs4 := hb4.size
  try simp at hs4
  have c4_0_0 : w4.cell? ⟨w.heap.size, 0, none⟩ = some (.int .i64 a1) := (by rw [hb4.cell (p := ⟨w.heap.size, 0, none⟩) (by first | omega | (simp; done) | (simp; omega))] <;> first | assumption | (simp; done) | (simp [go_sem, *]; done))
  have c4_0_1 : w4.cell? ⟨w.heap.size, 1, none⟩ = some (.int .i64 a2) := (by rw [hb4.cell (p := ⟨w.heap.size, 1, none⟩) (by first | omega | (simp; done) | (simp; omega))] <;> first | assumption | (simp; done) | (simp [go_sem, *]; done))
  have c4_0_2 : w4.cell? ⟨w.heap.size, 2, none⟩ = some (.int .i64 a3) := (by rw [hb4.cell (p := ⟨w.heap.size, 2, none⟩) (by first | omega | (simp; done) | (simp; omega))] <;> first | assumption | (simp; done) | (simp [go_sem, *]; done))
  have c4_1_0 : w4.cell? ⟨w.heap.size + 1, 0, none⟩ = some (.int .i64 b1) := (by rw [hb4.cell (p := ⟨w.heap.size + 1, 0, none⟩) (by first | omega | (simp; done) | (simp; omega))] <;> first | assumption | (simp; done) | (simp [go_sem, *]; done))
  have c4_1_1 : w4.cell? ⟨w.heap.size + 1, 1, none⟩ = some (.int .i64 b2) := (by rw [hb4.cell (p := ⟨w.heap.size + 1, 1, none⟩) (by first | omega | (simp; done) | (simp; omega))] <;> first | assumption | (simp; done) | (simp [go_sem, *]; done))
  have c4_1_2 : w4.cell? ⟨w.heap.size + 1, 2, none⟩ = some (.int .i64 b3) := (by rw [hb4.cell (p := ⟨w.heap.size + 1, 2, none⟩) (by first | omega | (simp; done) | (simp; omega))] <;> first | assumption | (simp; done) | (simp [go_sem, *]; done))
  have c4_2_0 : w4.cell? ⟨w.heap.size + 2, 0, none⟩ = some (.int .i64 c1) := (by rw [hb4.cell (p := ⟨w.heap.size + 2, 0, none⟩) (by first | omega | (simp; done) | (simp; omega))] <;> first | assumption | (simp; done) | (simp [go_sem, *]; done))
  have c4_2_1 : w4.cell? ⟨w.heap.size + 2, 1, none⟩ = some (.int .i64 c2) := (by rw [hb4.cell (p := ⟨w.heap.size + 2, 1, none⟩) (by first | omega | (simp; done) | (simp; omega))] <;> first | assumption | (simp; done) | (simp [go_sem, *]; done))
  have c4_2_2 : w4.cell? ⟨w.heap.size + 2, 2, none⟩ = some (.int .i64 c3) := (by rw [hb4.cell (p := ⟨w.heap.size + 2, 2, none⟩) (by first | omega | (simp; done) | (simp; omega))] <;> first | assumption | (simp; done) | (simp [go_sem, *]; done))
  have l4_0 : w.heap.size < w4.heap.size := (by omega)
  have n4_0 : w.heap.size ≠ w4.heap.size := (by omega)
  have l4_1 : w.heap.size + 1 < w4.heap.size := (by omega)
  have n4_1 : w.heap.size + 1 ≠ w4.heap.size := (by omega)
  have l4_2 : w.heap.size + 2 < w4.heap.size := (by omega)
  have n4_2 : w.heap.size + 2 ≠ w4.heap.size := (by omega)
  have z4 : w.heap.size ≤ w4.heap.size := (by omega)
  have HB4 := Lib.hid (show Below w.heap.size w w4 by (repeat' (first | exact Below.refl _ _ | (refine Below.setCell ?_ (by (first | omega | (simp; done) | (simp; omega))) _) | (refine Below.alloc ?_ (by (first | omega | (simp; done) | (simp; omega))) _) | (refine Below.drew ?_) | (refine below_drewN ?_ _) | (refine Below.trans ?_ (Below.mono HBo (by (first | omega | (simp; done) | (simp; omega))))) | (refine Below.trans ?_ (Below.mono hb4 (by (first | omega | (simp; done) | (simp; omega))))))))
  clear HBo hb4 hs4 c3_0_0 c3_0_1 c3_0_2 c3_1_0 c3_1_1 c3_1_2 c3_2_0 c3_2_1 c3_2_2 l3_0 n3_0 l3_1 n3_1 l3_2 n3_2 z3 HB3
  go_wp2_with fail
  go_at_call 19
  refine (may_b HM.out _).mono ?_
  rintro e w5 ⟨rfl, hb5⟩
  have HBo := HB4.out
  have hs5 := hb5.size
  try simp at hs5
  have c5_0_0 : w5.cell? ⟨w.heap.size, 0, none⟩ = some (.int .i64 a1) := (by rw [hb5.cell (p := ⟨w.heap.size, 0, none⟩) (by first | omega | (simp; done) | (simp; omega))] <;> first | assumption | (simp; done) | (simp [go_sem, *]; done))
  have c5_0_1 : w5.cell? ⟨w.heap.size, 1, none⟩ = some (.int .i64 a2) := (by rw [hb5.cell (p := ⟨w.heap.size, 1, none⟩) (by first | omega | (simp; done) | (simp; omega))] <;> first | assumption | (simp; done) | (simp [go_sem, *]; done))
  have c5_0_2 : w5.cell? ⟨w.heap.size, 2, none⟩ = some (.int .i64 a3) := (by rw [hb5.cell (p := ⟨w.heap.size, 2, none⟩) (by first | omega | (simp; done) | (simp; omega))] <;> first | assumption | (simp; done) | (simp [go_sem, *]; done))
  have c5_1_0 : w5.cell? ⟨w.heap.size + 1, 0, none⟩ = some (.int .i64 b1) := (by rw [hb5.cell (p := ⟨w.heap.size + 1, 0, none⟩) (by first | omega | (simp; done) | (simp; omega))] <;> first | assumption | (simp; done) | (simp [go_sem, *]; done))
  have c5_1_1 : w5.cell? ⟨w.heap.size + 1, 1, none⟩ = some (.int .i64 b2) := (by rw [hb5.cell (p := ⟨w.heap.size + 1, 1, none⟩) (by first | omega | (simp; done) | (simp; omega))] <;> first | assumption | (simp; done) | (simp [go_sem, *]; done))
  have c5_1_2 : w5.cell? ⟨w.heap.size + 1, 2, none⟩ = some (.int .i64 b3) := (by rw [hb5.cell (p := ⟨w.heap.size + 1, 2, none⟩) (by first | omega | (simp; done) | (simp; omega))] <;> first | assumption | (simp; done) | (simp [go_sem, *]; done))
  have c5_2_0 : w5.cell? ⟨w.heap.size + 2, 0, none⟩ = some (.int .i64 c1) := (by rw [hb5.cell (p := ⟨w.heap.size + 2, 0, none⟩) (by first | omega | (simp; done) | (simp; omega))] <;> first | assumption | (simp; done) | (simp [go_sem, *]; done))
  have c5_2_1 : w5.cell? ⟨w.heap.size + 2, 1, none⟩ = some (.int .i64 c2) := (by rw [hb5.cell (p := ⟨w.heap.size + 2, 1, none⟩) (by first | omega | (simp; done) | (simp; omega))] <;> first | assumption | (simp; done) | (simp [go_sem, *]; done))
  have c5_2_2 : w5.cell? ⟨w.heap.size + 2, 2, none⟩ = some (.int .i64 c3) := (by rw [hb5.cell (p := ⟨w.heap.size + 2, 2, none⟩) (by first | omega | (simp; done) | (simp; omega))] <;> first | assumption | (simp; done) | (simp [go_sem, *]; done))
  have l5_0 : w.heap.size < w5.heap.size := (by omega)
  have n5_0 : w.heap.size ≠ w5.heap.size := (by omega)
  have l5_1 : w.heap.size + 1 < w5.heap.size := (by omega)
  have n5_1 : w.heap.size + 1 ≠ w5.heap.size := (by omega)
  have l5_2 : w.heap.size + 2 < w5.heap.size := (by omega)
  have n5_2 : w.heap.size + 2 ≠ w5.heap.size := (by omega)
  have z5 : w.heap.size ≤ w5.heap.size := (by omega)
  have HB5 := Lib.hid (show Below w.heap.size w w5 by (repeat' (first | exact Below.refl _ _ | (refine Below.setCell ?_ (by (first | omega | (simp; done) | (simp; omega))) _) | (refine Below.alloc ?_ (by (first | omega | (simp; done) | (simp; omega))) _) | (refine Below.drew ?_) | (refine below_drewN ?_ _) | (refine Below.trans ?_ (Below.mono HBo (by (first | omega | (simp; done) | (simp; omega))))) | (refine Below.trans ?_ (Below.mono hb5 (by (first | omega | (simp; done) | (simp; omega))))))))
  clear HBo hb5 hs5 c4_0_0 c4_0_1 c4_0_2 c4_1_0 c4_1_1 c4_1_2 c4_2_0 c4_2_1 c4_2_2 l4_0 n4_0 l4_1 n4_1 l4_2 n4_2 z4 HB4
  go_wp2_with fail
  go_at_call 19
  refine (may_b HN.out _).mono ?_
  rintro e w6 ⟨rfl, hb6⟩
  have HBo := HB5.out
  have hs6 := hb6.size
  try simp at hs6
  have c6_0_0 : w6.cell? ⟨w.heap.size, 0, none⟩ = some (.int .i64 a1) := (by rw [hb6.cell (p := ⟨w.heap.size, 0, none⟩) (by first | omega | (simp; done) | (simp; omega))] <;> first | assumption | (simp; done) | (simp [go_sem, *]; done))
  have c6_0_1 : w6.cell? ⟨w.heap.size, 1, none⟩ = some (.int .i64 a2) := (by rw [hb6.cell (p := ⟨w.heap.size, 1, none⟩) (by first | omega | (simp; done) | (simp; omega))] <;> first | assumption | (simp; done) | (simp [go_sem, *]; done))
  have c6_0_2 : w6.cell? ⟨w.heap.size, 2, none⟩ = some (.int .i64 a3) := (by rw [hb6.cell (p := ⟨w.heap.size, 2, none⟩) (by first | omega | (simp; done) | (simp; omega))] <;> first | assumption | (simp; done) | (simp [go_sem, *]; done))
  have c6_1_0 : w6.cell? ⟨w.heap.size + 1, 0, none⟩ = some (.int .i64 b1) := (by rw [hb6.cell (p := ⟨w.heap.size + 1, 0, none⟩) (by first | omega | (simp; done) | (simp; omega))] <;> first | assumption | (simp; done) | (simp [go_sem, *]; done))
  have c6_1_1 : w6.cell? ⟨w.heap.size + 1, 1, none⟩ = some (.int .i64 b2) := (by rw [hb6.cell (p := ⟨w.heap.size + 1, 1, none⟩) (by first | omega | (simp; done) | (simp; omega))] <;> first | assumption | (simp; done) | (simp [go_sem, *]; done))
  have c6_1_2 : w6.cell? ⟨w.heap.size + 1, 2, none⟩ = some (.int .i64 b3) := (by rw [hb6.cell (p := ⟨w.heap.size + 1, 2, none⟩) (by first | omega | (simp; done) | (simp; omega))] <;> first | assumption | (simp; done) | (simp [go_sem, *]; done))
  have c6_2_0 : w6.cell? ⟨w.heap.size + 2, 0, none⟩ = some (.int .i64 c1) := (by rw [hb6.cell (p := ⟨w.heap.size + 2, 0, none⟩) (by first | omega | (simp; done) | (simp; omega))] <;> first | assumption | (simp; done) | (simp [go_sem, *]; done))
  have c6_2_1 : w6.cell? ⟨w.heap.size + 2, 1, none⟩ = some (.int .i64 c2) := (by rw [hb6.cell (p := ⟨w.heap.size + 2, 1, none⟩) (by first | omega | (simp; done) | (simp; omega))] <;> first | assumption | (simp; done) | (simp [go_sem, *]; done))
  have c6_2_2 : w6.cell? ⟨w.heap.size + 2, 2, none⟩ = some (.int .i64 c3) := (by rw [hb6.cell (p := ⟨w.heap.size + 2, 2, none⟩) (by first | omega | (simp; done) | (simp; omega))] <;> first | assumption | (simp; done) | (simp [go_sem, *]; done))
  have l6_0 : w.heap.size < w6.heap.size := (by omega)
  have n6_0 : w.heap.size ≠ w6.heap.size := (by omega)
  have l6_1 : w.heap.size + 1 < w6.heap.size := (by omega)
  have n6_1 : w.heap.size + 1 ≠ w6.heap.size := (by omega)
  have l6_2 : w.heap.size + 2 < w6.heap.size := (by omega)
  have n6_2 : w.heap.size + 2 ≠ w6.heap.size := (by omega)
  have z6 : w.heap.size ≤ w6.heap.size := (by omega)
  have HB6 := Lib.hid (show Below w.heap.size w w6 by (repeat' (first | exact Below.refl _ _ | (refine Below.setCell ?_ (by (first | omega | (simp; done) | (simp; omega))) _) | (refine Below.alloc ?_ (by (first | omega | (simp; done) | (simp; omega))) _) | (refine Below.drew ?_) | (refine below_drewN ?_ _) | (refine Below.trans ?_ (Below.mono HBo (by (first | omega | (simp; done) | (simp; omega))))) | (refine Below.trans ?_ (Below.mono hb6 (by (first | omega | (simp; done) | (simp; omega))))))))
  clear HBo hb6 hs6 c5_0_0 c5_0_1 c5_0_2 c5_1_0 c5_1_1 c5_1_2 c5_2_0 c5_2_1 c5_2_2 l5_0 n5_0 l5_1 n5_1 l5_2 n5_2 z5 HB5
  go_wp2_with fail
  all_goals first
    | (exact absurd ⟨by assumption, by assumption, by assumption⟩ HZ.out)
    | (go_at_call 23; refine (works_c _).mono ?_; rintro e w7 ⟨rfl, hb7⟩; go_wp2_with fail; go_ret; have HBo := HB6.out; refine ⟨rfl, ?_⟩; (repeat' (first | exact Below.refl _ _ | (refine Below.setCell ?_ (by (first | omega | (simp; done) | (simp; omega))) _) | (refine Below.alloc ?_ (by (first | omega | (simp; done) | (simp; omega))) _) | (refine Below.drew ?_) | (refine below_drewN ?_ _) | (refine Below.trans ?_ (Below.mono HBo (by (first | omega | (simp; done) | (simp; omega))))) | (refine Below.trans ?_ (Below.mono hb7 (by (first | omega | (simp; done) | (simp; omega))))))))

set_option maxRecDepth 100000 in
set_option maxHeartbeats 2000000 in
theorem law_near_C1 {a1 a2 a3 c1 c2 c3 p q : Int} (h1 : farOf a1 a2 a3 a1 a2 a3 = (0, true)) (h2 : farOf a1 a2 a3 a1 a2 a3 = (0, true)) (h3 : farOf a1 a2 a3 c1 c2 c3 = (p, true)) (h4 : farOf c1 c2 c3 a1 a2 a3 = (q, false)) (w : World) :
    Calls Try.prog 10 #[.agg #[.int .i64 a1, .int .i64 a2, .int .i64 a3], .agg #[.int .i64 a1, .int .i64 a2, .int .i64 a3], .agg #[.int .i64 c1, .int .i64 c2, .int .i64 c3]] w fun e w' => e = .returned (.bool true) ∧ Below w.heap.size w w' := by
  have HM := Lib.hid (far_true h1).1
  have HN := Lib.hid (far_true h1).2.1
  have H1 := Lib.hid h1
  have H2 := Lib.hid h2
  have H3 := Lib.hid h3
  have H4 := Lib.hid h4
  clear h1 h2 h3 h4
  go_enter Try.func10, Try.ntmps10
  go_wp2_with fail
  go_at_call 26
  refine (far_c H1.out _).mono ?_
  rintro e w1 ⟨rfl, hb1⟩
  have hs1 := hb1.size
  try simp at hs1
  have c1_0_0 : w1.cell? ⟨w.heap.size, 0, none⟩ = some (.int .i64 a1) := (by rw [hb1.cell (p := ⟨w.heap.size, 0, none⟩) (by first | omega | (simp; done) | (simp; omega))] <;> first | assumption | (simp; done) | (simp [go_sem, *]; done))
  have c1_0_1 : w1.cell? ⟨w.heap.size, 1, none⟩ = some (.int .i64 a2) := (by rw [hb1.cell (p := ⟨w.heap.size, 1, none⟩) (by first | omega | (simp; done) | (simp; omega))] <;> first | assumption | (simp; done) | (simp [go_sem, *]; done))
  have c1_0_2 : w1.cell? ⟨w.heap.size, 2, none⟩ = some (.int .i64 a3) := (by rw [hb1.cell (p := ⟨w.heap.size, 2, none⟩) (by first | omega | (simp; done) | (simp; omega))] <;> first | assumption | (simp; done) | (simp [go_sem, *]; done))
  have c1_1_0 : w1.cell? ⟨w.heap.size + 1, 0, none⟩ = some (.int .i64 a1) := (by rw [hb1.cell (p := ⟨w.heap.size + 1, 0, none⟩) (by first | omega | (simp; done) | (simp; omega))] <;> first | assumption | (simp; done) | (simp [go_sem, *]; done))
  have c1_1_1 : w1.cell? ⟨w.heap.size + 1, 1, none⟩ = some (.int .i64 a2) := (by rw [hb1.cell (p := ⟨w.heap.size + 1, 1, none⟩) (by first | omega | (simp; done) | (simp; omega))] <;> first | assumption | (simp; done) | (simp [go_sem, *]; done))
  have c1_1_2 : w1.cell? ⟨w.heap.size + 1, 2, none⟩ = some (.int .i64 a3) := (by rw [hb1.cell (p := ⟨w.heap.size + 1, 2, none⟩) (by first | omega | (simp; done) | (simp; omega))] <;> first | assumption | (simp; done) | (simp [go_sem, *]; done))
  have c1_2_0 : w1.cell? ⟨w.heap.size + 2, 0, none⟩ = some (.int .i64 c1) := (by rw [hb1.cell (p := ⟨w.heap.size + 2, 0, none⟩) (by first | omega | (simp; done) | (simp; omega))] <;> first | assumption | (simp; done) | (simp [go_sem, *]; done))
  have c1_2_1 : w1.cell? ⟨w.heap.size + 2, 1, none⟩ = some (.int .i64 c2) := (by rw [hb1.cell (p := ⟨w.heap.size + 2, 1, none⟩) (by first | omega | (simp; done) | (simp; omega))] <;> first | assumption | (simp; done) | (simp [go_sem, *]; done))
  have c1_2_2 : w1.cell? ⟨w.heap.size + 2, 2, none⟩ = some (.int .i64 c3) := (by rw [hb1.cell (p := ⟨w.heap.size + 2, 2, none⟩) (by first | omega | (simp; done) | (simp; omega))] <;> first | assumption | (simp; done) | (simp [go_sem, *]; done))
  have l1_0 : w.heap.size < w1.heap.size := (by omega)
  have n1_0 : w.heap.size ≠ w1.heap.size := (by omega)
  have l1_1 : w.heap.size + 1 < w1.heap.size := (by omega)
  have n1_1 : w.heap.size + 1 ≠ w1.heap.size := (by omega)
  have l1_2 : w.heap.size + 2 < w1.heap.size := (by omega)
  have n1_2 : w.heap.size + 2 ≠ w1.heap.size := (by omega)
  have z1 : w.heap.size ≤ w1.heap.size := (by omega)
  have HB1 := Lib.hid (show Below w.heap.size w w1 by (repeat' (first | exact Below.refl _ _ | (refine Below.setCell ?_ (by (first | omega | (simp; done) | (simp; omega))) _) | (refine Below.alloc ?_ (by (first | omega | (simp; done) | (simp; omega))) _) | (refine Below.drew ?_) | (refine below_drewN ?_ _) | (refine Below.trans ?_ (Below.mono hb1 (by (first | omega | (simp; done) | (simp; omega))))))))
  clear hb1 hs1
  go_wp2_with fail
  go_at_call 26
  refine (far_c H2.out _).mono ?_
  rintro e w2 ⟨rfl, hb2⟩
  have HBo := HB1.out
  have hs2 := hb2.size
  try simp at hs2
  have c2_0_0 : w2.cell? ⟨w.heap.size, 0, none⟩ = some (.int .i64 a1) := (by rw [hb2.cell (p := ⟨w.heap.size, 0, none⟩) (by first | omega | (simp; done) | (simp; omega))] <;> first | assumption | (simp; done) | (simp [go_sem, *]; done))
  have c2_0_1 : w2.cell? ⟨w.heap.size, 1, none⟩ = some (.int .i64 a2) := (by rw [hb2.cell (p := ⟨w.heap.size, 1, none⟩) (by first | omega | (simp; done) | (simp; omega))] <;> first | assumption | (simp; done) | (simp [go_sem, *]; done))
  have c2_0_2 : w2.cell? ⟨w.heap.size, 2, none⟩ = some (.int .i64 a3) := (by rw [hb2.cell (p := ⟨w.heap.size, 2, none⟩) (by first | omega | (simp; done) | (simp; omega))] <;> first | assumption | (simp; done) | (simp [go_sem, *]; done))
  have c2_1_0 : w2.cell? ⟨w.heap.size + 1, 0, none⟩ = some (.int .i64 a1) := (by rw [hb2.cell (p := ⟨w.heap.size + 1, 0, none⟩) (by first | omega | (simp; done) | (simp; omega))] <;> first | assumption | (simp; done) | (simp [go_sem, *]; done))
  have c2_1_1 : w2.cell? ⟨w.heap.size + 1, 1, none⟩ = some (.int .i64 a2) := (by rw [hb2.cell (p := ⟨w.heap.size + 1, 1, none⟩) (by first | omega | (simp; done) | (simp; omega))] <;> first | assumption | (simp; done) | (simp [go_sem, *]; done))
  have c2_1_2 : w2.cell? ⟨w.heap.size + 1, 2, none⟩ = some (.int .i64 a3) := (by rw [hb2.cell (p := ⟨w.heap.size + 1, 2, none⟩) (by first | omega | (simp; done) | (simp; omega))] <;> first | assumption | (simp; done) | (simp [go_sem, *]; done))
  have c2_2_0 : w2.cell? ⟨w.heap.size + 2, 0, none⟩ = some (.int .i64 c1) := (by rw [hb2.cell (p := ⟨w.heap.size + 2, 0, none⟩) (by first | omega | (simp; done) | (simp; omega))] <;> first | assumption | (simp; done) | (simp [go_sem, *]; done))
  have c2_2_1 : w2.cell? ⟨w.heap.size + 2, 1, none⟩ = some (.int .i64 c2) := (by rw [hb2.cell (p := ⟨w.heap.size + 2, 1, none⟩) (by first | omega | (simp; done) | (simp; omega))] <;> first | assumption | (simp; done) | (simp [go_sem, *]; done))
  have c2_2_2 : w2.cell? ⟨w.heap.size + 2, 2, none⟩ = some (.int .i64 c3) := (by rw [hb2.cell (p := ⟨w.heap.size + 2, 2, none⟩) (by first | omega | (simp; done) | (simp; omega))] <;> first | assumption | (simp; done) | (simp [go_sem, *]; done))
  have l2_0 : w.heap.size < w2.heap.size := (by omega)
  have n2_0 : w.heap.size ≠ w2.heap.size := (by omega)
  have l2_1 : w.heap.size + 1 < w2.heap.size := (by omega)
  have n2_1 : w.heap.size + 1 ≠ w2.heap.size := (by omega)
  have l2_2 : w.heap.size + 2 < w2.heap.size := (by omega)
  have n2_2 : w.heap.size + 2 ≠ w2.heap.size := (by omega)
  have z2 : w.heap.size ≤ w2.heap.size := (by omega)
  have HB2 := Lib.hid (show Below w.heap.size w w2 by (repeat' (first | exact Below.refl _ _ | (refine Below.setCell ?_ (by (first | omega | (simp; done) | (simp; omega))) _) | (refine Below.alloc ?_ (by (first | omega | (simp; done) | (simp; omega))) _) | (refine Below.drew ?_) | (refine below_drewN ?_ _) | (refine Below.trans ?_ (Below.mono HBo (by (first | omega | (simp; done) | (simp; omega))))) | (refine Below.trans ?_ (Below.mono hb2 (by (first | omega | (simp; done) | (simp; omega))))))))
  clear HBo hb2 hs2 c1_0_0 c1_0_1 c1_0_2 c1_1_0 c1_1_1 c1_1_2 c1_2_0 c1_2_1 c1_2_2 l1_0 n1_0 l1_1 n1_1 l1_2 n1_2 z1 HB1
  go_wp2_with fail
  go_at_call 26
  refine (far_c H3.out _).mono ?_
  rintro e w3 ⟨rfl, hb3⟩
  have HBo := HB2.out
  have hs3 := hb3.size
  try simp at hs3
  have c3_0_0 : w3.cell? ⟨w.heap.size, 0, none⟩ = some (.int .i64 a1) := (by rw [hb3.cell (p := ⟨w.heap.size, 0, none⟩) (by first | omega | (simp; done) | (simp; omega))] <;> first | assumption | (simp; done) | (simp [go_sem, *]; done))
  have c3_0_1 : w3.cell? ⟨w.heap.size, 1, none⟩ = some (.int .i64 a2) := (by rw [hb3.cell (p := ⟨w.heap.size, 1, none⟩) (by first | omega | (simp; done) | (simp; omega))] <;> first | assumption | (simp; done) | (simp [go_sem, *]; done))
  have c3_0_2 : w3.cell? ⟨w.heap.size, 2, none⟩ = some (.int .i64 a3) := (by rw [hb3.cell (p := ⟨w.heap.size, 2, none⟩) (by first | omega | (simp; done) | (simp; omega))] <;> first | assumption | (simp; done) | (simp [go_sem, *]; done))
  have c3_1_0 : w3.cell? ⟨w.heap.size + 1, 0, none⟩ = some (.int .i64 a1) := (by rw [hb3.cell (p := ⟨w.heap.size + 1, 0, none⟩) (by first | omega | (simp; done) | (simp; omega))] <;> first | assumption | (simp; done) | (simp [go_sem, *]; done))
  have c3_1_1 : w3.cell? ⟨w.heap.size + 1, 1, none⟩ = some (.int .i64 a2) := (by rw [hb3.cell (p := ⟨w.heap.size + 1, 1, none⟩) (by first | omega | (simp; done) | (simp; omega))] <;> first | assumption | (simp; done) | (simp [go_sem, *]; done))
  have c3_1_2 : w3.cell? ⟨w.heap.size + 1, 2, none⟩ = some (.int .i64 a3) := (by rw [hb3.cell (p := ⟨w.heap.size + 1, 2, none⟩) (by first | omega | (simp; done) | (simp; omega))] <;> first | assumption | (simp; done) | (simp [go_sem, *]; done))
  have c3_2_0 : w3.cell? ⟨w.heap.size + 2, 0, none⟩ = some (.int .i64 c1) := (by rw [hb3.cell (p := ⟨w.heap.size + 2, 0, none⟩) (by first | omega | (simp; done) | (simp; omega))] <;> first | assumption | (simp; done) | (simp [go_sem, *]; done))
  have c3_2_1 : w3.cell? ⟨w.heap.size + 2, 1, none⟩ = some (.int .i64 c2) := (by rw [hb3.cell (p := ⟨w.heap.size + 2, 1, none⟩) (by first | omega | (simp; done) | (simp; omega))] <;> first | assumption | (simp; done) | (simp [go_sem, *]; done))
  have c3_2_2 : w3.cell? ⟨w.heap.size + 2, 2, none⟩ = some (.int .i64 c3) := (by rw [hb3.cell (p := ⟨w.heap.size + 2, 2, none⟩) (by first | omega | (simp; done) | (simp; omega))] <;> first | assumption | (simp; done) | (simp [go_sem, *]; done))
  have l3_0 : w.heap.size < w3.heap.size := (by omega)
  have n3_0 : w.heap.size ≠ w3.heap.size := (by omega)
  have l3_1 : w.heap.size + 1 < w3.heap.size := (by omega)
  have n3_1 : w.heap.size + 1 ≠ w3.heap.size := (by omega)
  have l3_2 : w.heap.size + 2 < w3.heap.size := (by omega)
  have n3_2 : w.heap.size + 2 ≠ w3.heap.size := (by omega)
  have z3 : w.heap.size ≤ w3.heap.size := (by omega)
  have HB3 := Lib.hid (show Below w.heap.size w w3 by (repeat' (first | exact Below.refl _ _ | (refine Below.setCell ?_ (by (first | omega | (simp; done) | (simp; omega))) _) | (refine Below.alloc ?_ (by (first | omega | (simp; done) | (simp; omega))) _) | (refine Below.drew ?_) | (refine below_drewN ?_ _) | (refine Below.trans ?_ (Below.mono HBo (by (first | omega | (simp; done) | (simp; omega))))) | (refine Below.trans ?_ (Below.mono hb3 (by (first | omega | (simp; done) | (simp; omega))))))))
  clear HBo hb3 hs3 c2_0_0 c2_0_1 c2_0_2 c2_1_0 c2_1_1 c2_1_2 c2_2_0 c2_2_1 c2_2_2 l2_0 n2_0 l2_1 n2_1 l2_2 n2_2 z2 HB2
  go_wp2_with fail
  go_at_call 26
  refine (far_c H4.out _).mono ?_
  rintro e w4 ⟨rfl, hb4⟩
  have HBo := HB3.out
  have hs4 := hb4.size
  try simp at hs4
  have c4_0_0 : w4.cell? ⟨w.heap.size, 0, none⟩ = some (.int .i64 a1) := (by rw [hb4.cell (p := ⟨w.heap.size, 0, none⟩) (by first | omega | (simp; done) | (simp; omega))] <;> first | assumption | (simp; done) | (simp [go_sem, *]; done))
  have c4_0_1 : w4.cell? ⟨w.heap.size, 1, none⟩ = some (.int .i64 a2) := (by rw [hb4.cell (p := ⟨w.heap.size, 1, none⟩) (by first | omega | (simp; done) | (simp; omega))] <;> first | assumption | (simp; done) | (simp [go_sem, *]; done))
  have c4_0_2 : w4.cell? ⟨w.heap.size, 2, none⟩ = some (.int .i64 a3) := (by rw [hb4.cell (p := ⟨w.heap.size, 2, none⟩) (by first | omega | (simp; done) | (simp; omega))] <;> first | assumption | (simp; done) | (simp [go_sem, *]; done))
  have c4_1_0 : w4.cell? ⟨w.heap.size + 1, 0, none⟩ = some (.int .i64 a1) := (by rw [hb4.cell (p := ⟨w.heap.size + 1, 0, none⟩) (by first | omega | (simp; done) | (simp; omega))] <;> first | assumption | (simp; done) | (simp [go_sem, *]; done))
  have c4_1_1 : w4.cell? ⟨w.heap.size + 1, 1, none⟩ = some (.int .i64 a2) := (by rw [hb4.cell (p := ⟨w.heap.size + 1, 1, none⟩) (by first | omega | (simp; done) | (simp; omega))] <;> first | assumption | (simp; done) | (simp [go_sem, *]; done))
  have c4_1_2 : w4.cell? ⟨w.heap.size + 1, 2, none⟩ = some (.int .i64 a3) := (by rw [hb4.cell (p := ⟨w.heap.size + 1, 2, none⟩) (by first | omega | (simp; done) | (simp; omega))] <;> first | assumption | (simp; done) | (simp [go_sem, *]; done))
  have c4_2_0 : w4.cell? ⟨w.heap.size + 2, 0, none⟩ = some (.int .i64 c1) := (by rw [hb4.cell (p := ⟨w.heap.size + 2, 0, none⟩) (by first | omega | (simp; done) | (simp; omega))] <;> first | assumption | (simp; done) | (simp [go_sem, *]; done))
  have c4_2_1 : w4.cell? ⟨w.heap.size + 2, 1, none⟩ = some (.int .i64 c2) := (by rw [hb4.cell (p := ⟨w.heap.size + 2, 1, none⟩) (by first | omega | (simp; done) | (simp; omega))] <;> first | assumption | (simp; done) | (simp [go_sem, *]; done))
  have c4_2_2 : w4.cell? ⟨w.heap.size + 2, 2, none⟩ = some (.int .i64 c3) := (by rw [hb4.cell (p := ⟨w.heap.size + 2, 2, none⟩) (by first | omega | (simp; done) | (simp; omega))] <;> first | assumption | (simp; done) | (simp [go_sem, *]; done))
  have l4_0 : w.heap.size < w4.heap.size := (by omega)
  have n4_0 : w.heap.size ≠ w4.heap.size := (by omega)
  have l4_1 : w.heap.size + 1 < w4.heap.size := (by omega)
  have n4_1 : w.heap.size + 1 ≠ w4.heap.size := (by omega)
  have l4_2 : w.heap.size + 2 < w4.heap.size := (by omega)
  have n4_2 : w.heap.size + 2 ≠ w4.heap.size := (by omega)
  have z4 : w.heap.size ≤ w4.heap.size := (by omega)
  have HB4 := Lib.hid (show Below w.heap.size w w4 by (repeat' (first | exact Below.refl _ _ | (refine Below.setCell ?_ (by (first | omega | (simp; done) | (simp; omega))) _) | (refine Below.alloc ?_ (by (first | omega | (simp; done) | (simp; omega))) _) | (refine Below.drew ?_) | (refine below_drewN ?_ _) | (refine Below.trans ?_ (Below.mono HBo (by (first | omega | (simp; done) | (simp; omega))))) | (refine Below.trans ?_ (Below.mono hb4 (by (first | omega | (simp; done) | (simp; omega))))))))
  clear HBo hb4 hs4 c3_0_0 c3_0_1 c3_0_2 c3_1_0 c3_1_1 c3_1_2 c3_2_0 c3_2_1 c3_2_2 l3_0 n3_0 l3_1 n3_1 l3_2 n3_2 z3 HB3
  go_wp2_with fail
  go_at_call 19
  refine (may_b HM.out _).mono ?_
  rintro e w5 ⟨rfl, hb5⟩
  have HBo := HB4.out
  have hs5 := hb5.size
  try simp at hs5
  have c5_0_0 : w5.cell? ⟨w.heap.size, 0, none⟩ = some (.int .i64 a1) := (by rw [hb5.cell (p := ⟨w.heap.size, 0, none⟩) (by first | omega | (simp; done) | (simp; omega))] <;> first | assumption | (simp; done) | (simp [go_sem, *]; done))
  have c5_0_1 : w5.cell? ⟨w.heap.size, 1, none⟩ = some (.int .i64 a2) := (by rw [hb5.cell (p := ⟨w.heap.size, 1, none⟩) (by first | omega | (simp; done) | (simp; omega))] <;> first | assumption | (simp; done) | (simp [go_sem, *]; done))
  have c5_0_2 : w5.cell? ⟨w.heap.size, 2, none⟩ = some (.int .i64 a3) := (by rw [hb5.cell (p := ⟨w.heap.size, 2, none⟩) (by first | omega | (simp; done) | (simp; omega))] <;> first | assumption | (simp; done) | (simp [go_sem, *]; done))
  have c5_1_0 : w5.cell? ⟨w.heap.size + 1, 0, none⟩ = some (.int .i64 a1) := (by rw [hb5.cell (p := ⟨w.heap.size + 1, 0, none⟩) (by first | omega | (simp; done) | (simp; omega))] <;> first | assumption | (simp; done) | (simp [go_sem, *]; done))
  have c5_1_1 : w5.cell? ⟨w.heap.size + 1, 1, none⟩ = some (.int .i64 a2) := (by rw [hb5.cell (p := ⟨w.heap.size + 1, 1, none⟩) (by first | omega | (simp; done) | (simp; omega))] <;> first | assumption | (simp; done) | (simp [go_sem, *]; done))
  have c5_1_2 : w5.cell? ⟨w.heap.size + 1, 2, none⟩ = some (.int .i64 a3) := (by rw [hb5.cell (p := ⟨w.heap.size + 1, 2, none⟩) (by first | omega | (simp; done) | (simp; omega))] <;> first | assumption | (simp; done) | (simp [go_sem, *]; done))
  have c5_2_0 : w5.cell? ⟨w.heap.size + 2, 0, none⟩ = some (.int .i64 c1) := (by rw [hb5.cell (p := ⟨w.heap.size + 2, 0, none⟩) (by first | omega | (simp; done) | (simp; omega))] <;> first | assumption | (simp; done) | (simp [go_sem, *]; done))
  have c5_2_1 : w5.cell? ⟨w.heap.size + 2, 1, none⟩ = some (.int .i64 c2) := (by rw [hb5.cell (p := ⟨w.heap.size + 2, 1, none⟩) (by first | omega | (simp; done) | (simp; omega))] <;> first | assumption | (simp; done) | (simp [go_sem, *]; done))
  have c5_2_2 : w5.cell? ⟨w.heap.size + 2, 2, none⟩ = some (.int .i64 c3) := (by rw [hb5.cell (p := ⟨w.heap.size + 2, 2, none⟩) (by first | omega | (simp; done) | (simp; omega))] <;> first | assumption | (simp; done) | (simp [go_sem, *]; done))
  have l5_0 : w.heap.size < w5.heap.size := (by omega)
  have n5_0 : w.heap.size ≠ w5.heap.size := (by omega)
  have l5_1 : w.heap.size + 1 < w5.heap.size := (by omega)
  have n5_1 : w.heap.size + 1 ≠ w5.heap.size := (by omega)
  have l5_2 : w.heap.size + 2 < w5.heap.size := (by omega)
  have n5_2 : w.heap.size + 2 ≠ w5.heap.size := (by omega)
  have z5 : w.heap.size ≤ w5.heap.size := (by omega)
  have HB5 := Lib.hid (show Below w.heap.size w w5 by (repeat' (first | exact Below.refl _ _ | (refine Below.setCell ?_ (by (first | omega | (simp; done) | (simp; omega))) _) | (refine Below.alloc ?_ (by (first | omega | (simp; done) | (simp; omega))) _) | (refine Below.drew ?_) | (refine below_drewN ?_ _) | (refine Below.trans ?_ (Below.mono HBo (by (first | omega | (simp; done) | (simp; omega))))) | (refine Below.trans ?_ (Below.mono hb5 (by (first | omega | (simp; done) | (simp; omega))))))))
  clear HBo hb5 hs5 c4_0_0 c4_0_1 c4_0_2 c4_1_0 c4_1_1 c4_1_2 c4_2_0 c4_2_1 c4_2_2 l4_0 n4_0 l4_1 n4_1 l4_2 n4_2 z4 HB4
  go_wp2_with fail
  go_at_call 19
  refine (may_b HN.out _).mono ?_
  rintro e w6 ⟨rfl, hb6⟩
  have HBo := HB5.out
  have hs6 := hb6.size
  try simp at hs6
  have c6_0_0 : w6.cell? ⟨w.heap.size, 0, none⟩ = some (.int .i64 a1) := (by rw [hb6.cell (p := ⟨w.heap.size, 0, none⟩) (by first | omega | (simp; done) | (simp; omega))] <;> first | assumption | (simp; done) | (simp [go_sem, *]; done))
  have c6_0_1 : w6.cell? ⟨w.heap.size, 1, none⟩ = some (.int .i64 a2) := (by rw [hb6.cell (p := ⟨w.heap.size, 1, none⟩) (by first | omega | (simp; done) | (simp; omega))] <;> first | assumption | (simp; done) | (simp [go_sem, *]; done))
  have c6_0_2 : w6.cell? ⟨w.heap.size, 2, none⟩ = some (.int .i64 a3) := (by rw [hb6.cell (p := ⟨w.heap.size, 2, none⟩) (by first | omega | (simp; done) | (simp; omega))] <;> first | assumption | (simp; done) | (simp [go_sem, *]; done))
  have c6_1_0 : w6.cell? ⟨w.heap.size + 1, 0, none⟩ = some (.int .i64 a1) := (by rw [hb6.cell (p := ⟨w.heap.size + 1, 0, none⟩) (by first | omega | (simp; done) | (simp; omega))] <;> first | assumption | (simp; done) | (simp [go_sem, *]; done))
  have c6_1_1 : w6.cell? ⟨w.heap.size + 1, 1, none⟩ = some (.int .i64 a2) := (by rw [hb6.cell (p := ⟨w.heap.size + 1, 1, none⟩) (by first | omega | (simp; done) | (simp; omega))] <;> first | assumption | (simp; done) | (simp [go_sem, *]; done))
  have c6_1_2 : w6.cell? ⟨w.heap.size + 1, 2, none⟩ = some (.int .i64 a3) := (by rw [hb6.cell (p := ⟨w.heap.size + 1, 2, none⟩) (by first | omega | (simp; done) | (simp; omega))] <;> first | assumption | (simp; done) | (simp [go_sem, *]; done))
  have c6_2_0 : w6.cell? ⟨w.heap.size + 2, 0, none⟩ = some (.int .i64 c1) := (by rw [hb6.cell (p := ⟨w.heap.size + 2, 0, none⟩) (by first | omega | (simp; done) | (simp; omega))] <;> first | assumption | (simp; done) | (simp [go_sem, *]; done))
  have c6_2_1 : w6.cell? ⟨w.heap.size + 2, 1, none⟩ = some (.int .i64 c2) := (by rw [hb6.cell (p := ⟨w.heap.size + 2, 1, none⟩) (by first | omega | (simp; done) | (simp; omega))] <;> first | assumption | (simp; done) | (simp [go_sem, *]; done))
  have c6_2_2 : w6.cell? ⟨w.heap.size + 2, 2, none⟩ = some (.int .i64 c3) := (by rw [hb6.cell (p := ⟨w.heap.size + 2, 2, none⟩) (by first | omega | (simp; done) | (simp; omega))] <;> first | assumption | (simp; done) | (simp [go_sem, *]; done))
  have l6_0 : w.heap.size < w6.heap.size := (by omega)
  have n6_0 : w.heap.size ≠ w6.heap.size := (by omega)
  have l6_1 : w.heap.size + 1 < w6.heap.size := (by omega)
  have n6_1 : w.heap.size + 1 ≠ w6.heap.size := (by omega)
  have l6_2 : w.heap.size + 2 < w6.heap.size := (by omega)
  have n6_2 : w.heap.size + 2 ≠ w6.heap.size := (by omega)
  have z6 : w.heap.size ≤ w6.heap.size := (by omega)
  have HB6 := Lib.hid (show Below w.heap.size w w6 by (repeat' (first | exact Below.refl _ _ | (refine Below.setCell ?_ (by (first | omega | (simp; done) | (simp; omega))) _) | (refine Below.alloc ?_ (by (first | omega | (simp; done) | (simp; omega))) _) | (refine Below.drew ?_) | (refine below_drewN ?_ _) | (refine Below.trans ?_ (Below.mono HBo (by (first | omega | (simp; done) | (simp; omega))))) | (refine Below.trans ?_ (Below.mono hb6 (by (first | omega | (simp; done) | (simp; omega))))))))
  clear HBo hb6 hs6 c5_0_0 c5_0_1 c5_0_2 c5_1_0 c5_1_1 c5_1_2 c5_2_0 c5_2_1 c5_2_2 l5_0 n5_0 l5_1 n5_1 l5_2 n5_2 z5 HB5
  go_wp2_with fail
  go_at_call 23
  refine (works_c _).mono ?_
  rintro e w7 ⟨rfl, hb7⟩
  have HBo := HB6.out
  have hs7 := hb7.size
  try simp at hs7
  have c7_0_0 : w7.cell? ⟨w.heap.size, 0, none⟩ = some (.int .i64 a1) := (by rw [hb7.cell (p := ⟨w.heap.size, 0, none⟩) (by first | omega | (simp; done) | (simp; omega))] <;> first | assumption | (simp; done) | (simp [go_sem, *]; done))
  have c7_0_1 : w7.cell? ⟨w.heap.size, 1, none⟩ = some (.int .i64 a2) := (by rw [hb7.cell (p := ⟨w.heap.size, 1, none⟩) (by first | omega | (simp; done) | (simp; omega))] <;> first | assumption | (simp; done) | (simp [go_sem, *]; done))
  have c7_0_2 : w7.cell? ⟨w.heap.size, 2, none⟩ = some (.int .i64 a3) := (by rw [hb7.cell (p := ⟨w.heap.size, 2, none⟩) (by first | omega | (simp; done) | (simp; omega))] <;> first | assumption | (simp; done) | (simp [go_sem, *]; done))
  have c7_1_0 : w7.cell? ⟨w.heap.size + 1, 0, none⟩ = some (.int .i64 a1) := (by rw [hb7.cell (p := ⟨w.heap.size + 1, 0, none⟩) (by first | omega | (simp; done) | (simp; omega))] <;> first | assumption | (simp; done) | (simp [go_sem, *]; done))
  have c7_1_1 : w7.cell? ⟨w.heap.size + 1, 1, none⟩ = some (.int .i64 a2) := (by rw [hb7.cell (p := ⟨w.heap.size + 1, 1, none⟩) (by first | omega | (simp; done) | (simp; omega))] <;> first | assumption | (simp; done) | (simp [go_sem, *]; done))
  have c7_1_2 : w7.cell? ⟨w.heap.size + 1, 2, none⟩ = some (.int .i64 a3) := (by rw [hb7.cell (p := ⟨w.heap.size + 1, 2, none⟩) (by first | omega | (simp; done) | (simp; omega))] <;> first | assumption | (simp; done) | (simp [go_sem, *]; done))
  have c7_2_0 : w7.cell? ⟨w.heap.size + 2, 0, none⟩ = some (.int .i64 c1) := (by rw [hb7.cell (p := ⟨w.heap.size + 2, 0, none⟩) (by first | omega | (simp; done) | (simp; omega))] <;> first | assumption | (simp; done) | (simp [go_sem, *]; done))
  have c7_2_1 : w7.cell? ⟨w.heap.size + 2, 1, none⟩ = some (.int .i64 c2) := (by rw [hb7.cell (p := ⟨w.heap.size + 2, 1, none⟩) (by first | omega | (simp; done) | (simp; omega))] <;> first | assumption | (simp; done) | (simp [go_sem, *]; done))
  have c7_2_2 : w7.cell? ⟨w.heap.size + 2, 2, none⟩ = some (.int .i64 c3) := (by rw [hb7.cell (p := ⟨w.heap.size + 2, 2, none⟩) (by first | omega | (simp; done) | (simp; omega))] <;> first | assumption | (simp; done) | (simp [go_sem, *]; done))
  have l7_0 : w.heap.size < w7.heap.size := (by omega)
  have n7_0 : w.heap.size ≠ w7.heap.size := (by omega)
  have l7_1 : w.heap.size + 1 < w7.heap.size := (by omega)
  have n7_1 : w.heap.size + 1 ≠ w7.heap.size := (by omega)
  have l7_2 : w.heap.size + 2 < w7.heap.size := (by omega)
  have n7_2 : w.heap.size + 2 ≠ w7.heap.size := (by omega)
  have z7 : w.heap.size ≤ w7.heap.size := (by omega)
  have HB7 := Lib.hid (show Below w.heap.size w w7 by (repeat' (first | exact Below.refl _ _ | (refine Below.setCell ?_ (by (first | omega | (simp; done) | (simp; omega))) _) | (refine Below.alloc ?_ (by (first | omega | (simp; done) | (simp; omega))) _) | (refine Below.drew ?_) | (refine below_drewN ?_ _) | (refine Below.trans ?_ (Below.mono HBo (by (first | omega | (simp; done) | (simp; omega))))) | (refine Below.trans ?_ (Below.mono hb7 (by (first | omega | (simp; done) | (simp; omega))))))))
  clear HBo hb7 hs7 c6_0_0 c6_0_1 c6_0_2 c6_1_0 c6_1_1 c6_1_2 c6_2_0 c6_2_1 c6_2_2 l6_0 n6_0 l6_1 n6_1 l6_2 n6_2 z6 HB6
  go_wp2_with fail
  go_ret
  have HBo := HB7.out
  refine ⟨rfl, ?_⟩
  (repeat' (first | exact Below.refl _ _ | (refine Below.setCell ?_ (by (first | omega | (simp; done) | (simp; omega))) _) | (refine Below.alloc ?_ (by (first | omega | (simp; done) | (simp; omega))) _) | (refine Below.drew ?_) | (refine below_drewN ?_ _) | (refine Below.trans ?_ (Below.mono HBo (by (first | omega | (simp; done) | (simp; omega)))))))

set_option maxRecDepth 100000 in
set_option maxHeartbeats 2000000 in
theorem law_near_D1 {a1 a2 a3 b1 b2 b3 c1 c2 c3 n p q : Int} (h1 : farOf a1 a2 a3 b1 b2 b3 = (n, true)) (h2 : farOf b1 b2 b3 a1 a2 a3 = (n, true)) (h3 : farOf a1 a2 a3 c1 c2 c3 = (p, true)) (h4 : farOf c1 c2 c3 b1 b2 b3 = (q, false)) (he : n ≠ 0) (w : World) :
    Calls Try.prog 10 #[.agg #[.int .i64 a1, .int .i64 a2, .int .i64 a3], .agg #[.int .i64 b1, .int .i64 b2, .int .i64 b3], .agg #[.int .i64 c1, .int .i64 c2, .int .i64 c3]] w fun e w' => e = .returned (.bool true) ∧ Below w.heap.size w w' := by
  have HM := Lib.hid (far_true h1).1
  have HN := Lib.hid (far_true h1).2.1
  have e1 : (n == 0) = false := by simpa using he
  have HZ := Lib.hid (fun h => he ((far_zero h1).2 h))
  clear he
  have H1 := Lib.hid h1
  have H2 := Lib.hid h2
  have H3 := Lib.hid h3
  have H4 := Lib.hid h4
  clear h1 h2 h3 h4
  go_enter Try.func10, Try.ntmps10
  go_wp2_with fail
  go_at_call 26
  refine (far_c H1.out _).mono ?_
  rintro e w1 ⟨rfl, hb1⟩
  have hs1 := hb1.size
  try simp at hs1
  have c1_0_0 : w1.cell? ⟨w.heap.size, 0, none⟩ = some (.int .i64 a1) := (by rw [hb1.cell (p := ⟨w.heap.size, 0, none⟩) (by first | omega | (simp; done) | (simp; omega))] <;> first | assumption | (simp; done) | (simp [go_sem, *]; done))
  have c1_0_1 : w1.cell? ⟨w.heap.size, 1, none⟩ = some (.int .i64 a2) := (by rw [hb1.cell (p := ⟨w.heap.size, 1, none⟩) (by first | omega | (simp; done) | (simp; omega))] <;> first | assumption | (simp; done) | (simp [go_sem, *]; done))
  have c1_0_2 : w1.cell? ⟨w.heap.size, 2, none⟩ = some (.int .i64 a3) := (by rw [hb1.cell (p := ⟨w.heap.size, 2, none⟩) (by first | omega | (simp; done) | (simp; omega))] <;> first | assumption | (simp; done) | (simp [go_sem, *]; done))
  have c1_1_0 : w1.cell? ⟨w.heap.size + 1, 0, none⟩ = some (.int .i64 b1) := (by rw [hb1.cell (p := ⟨w.heap.size + 1, 0, none⟩) (by first | omega | (simp; done) | (simp; omega))] <;> first | assumption | (simp; done) | (simp [go_sem, *]; done))
  have c1_1_1 : w1.cell? ⟨w.heap.size + 1, 1, none⟩ = some (.int .i64 b2) := (by rw [hb1.cell (p := ⟨w.heap.size + 1, 1, none⟩) (by first | omega | (simp; done) | (simp; omega))] <;> first | assumption | (simp; done) | (simp [go_sem, *]; done))
  have c1_1_2 : w1.cell? ⟨w.heap.size + 1, 2, none⟩ = some (.int .i64 b3) := (by rw [hb1.cell (p := ⟨w.heap.size + 1, 2, none⟩) (by first | omega | (simp; done) | (simp; omega))] <;> first | assumption | (simp; done) | (simp [go_sem, *]; done))
  have c1_2_0 : w1.cell? ⟨w.heap.size + 2, 0, none⟩ = some (.int .i64 c1) := (by rw [hb1.cell (p := ⟨w.heap.size + 2, 0, none⟩) (by first | omega | (simp; done) | (simp; omega))] <;> first | assumption | (simp; done) | (simp [go_sem, *]; done))
  have c1_2_1 : w1.cell? ⟨w.heap.size + 2, 1, none⟩ = some (.int .i64 c2) := (by rw [hb1.cell (p := ⟨w.heap.size + 2, 1, none⟩) (by first | omega | (simp; done) | (simp; omega))] <;> first | assumption | (simp; done) | (simp [go_sem, *]; done))
  have c1_2_2 : w1.cell? ⟨w.heap.size + 2, 2, none⟩ = some (.int .i64 c3) := (by rw [hb1.cell (p := ⟨w.heap.size + 2, 2, none⟩) (by first | omega | (simp; done) | (simp; omega))] <;> first | assumption | (simp; done) | (simp [go_sem, *]; done))
  have l1_0 : w.heap.size < w1.heap.size := (by omega)
  have n1_0 : w.heap.size ≠ w1.heap.size := (by omega)
  have l1_1 : w.heap.size + 1 < w1.heap.size := (by omega)
  have n1_1 : w.heap.size + 1 ≠ w1.heap.size := (by omega)
  have l1_2 : w.heap.size + 2 < w1.heap.size := (by omega)
  have n1_2 : w.heap.size + 2 ≠ w1.heap.size := (by omega)
  have z1 : w.heap.size ≤ w1.heap.size := (by omega)
  have HB1 := Lib.hid (show Below w.heap.size w w1 by (repeat' (first | exact Below.refl _ _ | (refine Below.setCell ?_ (by (first | omega | (simp; done) | (simp; omega))) _) | (refine Below.alloc ?_ (by (first | omega | (simp; done) | (simp; omega))) _) | (refine Below.drew ?_) | (refine below_drewN ?_ _) | (refine Below.trans ?_ (Below.mono hb1 (by (first | omega | (simp; done) | (simp; omega))))))))
  clear hb1 hs1
  go_wp2_with fail
  go_at_call 26
  refine (far_c H2.out _).mono ?_
  rintro e w2 ⟨rfl, hb2⟩
  have HBo := HB1.out
  have hs2 := hb2.size
  try simp at hs2
  have c2_0_0 : w2.cell? ⟨w.heap.size, 0, none⟩ = some (.int .i64 a1) := (by rw [hb2.cell (p := ⟨w.heap.size, 0, none⟩) (by first | omega | (simp; done) | (simp; omega))] <;> first | assumption | (simp; done) | (simp [go_sem, *]; done))
  have c2_0_1 : w2.cell? ⟨w.heap.size, 1, none⟩ = some (.int .i64 a2) := (by rw [hb2.cell (p := ⟨w.heap.size, 1, none⟩) (by first | omega | (simp; done) | (simp; omega))] <;> first | assumption | (simp; done) | (simp [go_sem, *]; done))
  have c2_0_2 : w2.cell? ⟨w.heap.size, 2, none⟩ = some (.int .i64 a3) := (by rw [hb2.cell (p := ⟨w.heap.size, 2, none⟩) (by first | omega | (simp; done) | (simp; omega))] <;> first | assumption | (simp; done) | (simp [go_sem, *]; done))
  have c2_1_0 : w2.cell? ⟨w.heap.size + 1, 0, none⟩ = some (.int .i64 b1) := (by rw [hb2.cell (p := ⟨w.heap.size + 1, 0, none⟩) (by first | omega | (simp; done) | (simp; omega))] <;> first | assumption | (simp; done) | (simp [go_sem, *]; done))
  have c2_1_1 : w2.cell? ⟨w.heap.size + 1, 1, none⟩ = some (.int .i64 b2) := (by rw [hb2.cell (p := ⟨w.heap.size + 1, 1, none⟩) (by first | omega | (simp; done) | (simp; omega))] <;> first | assumption | (simp; done) | (simp [go_sem, *]; done))
  have c2_1_2 : w2.cell? ⟨w.heap.size + 1, 2, none⟩ = some (.int .i64 b3) := (by rw [hb2.cell (p := ⟨w.heap.size + 1, 2, none⟩) (by first | omega | (simp; done) | (simp; omega))] <;> first | assumption | (simp; done) | (simp [go_sem, *]; done))
  have c2_2_0 : w2.cell? ⟨w.heap.size + 2, 0, none⟩ = some (.int .i64 c1) := (by rw [hb2.cell (p := ⟨w.heap.size + 2, 0, none⟩) (by first | omega | (simp; done) | (simp; omega))] <;> first | assumption | (simp; done) | (simp [go_sem, *]; done))
  have c2_2_1 : w2.cell? ⟨w.heap.size + 2, 1, none⟩ = some (.int .i64 c2) := (by rw [hb2.cell (p := ⟨w.heap.size + 2, 1, none⟩) (by first | omega | (simp; done) | (simp; omega))] <;> first | assumption | (simp; done) | (simp [go_sem, *]; done))
  have c2_2_2 : w2.cell? ⟨w.heap.size + 2, 2, none⟩ = some (.int .i64 c3) := (by rw [hb2.cell (p := ⟨w.heap.size + 2, 2, none⟩) (by first | omega | (simp; done) | (simp; omega))] <;> first | assumption | (simp; done) | (simp [go_sem, *]; done))
  have l2_0 : w.heap.size < w2.heap.size := (by omega)
  have n2_0 : w.heap.size ≠ w2.heap.size := (by omega)
  have l2_1 : w.heap.size + 1 < w2.heap.size := (by omega)
  have n2_1 : w.heap.size + 1 ≠ w2.heap.size := (by omega)
  have l2_2 : w.heap.size + 2 < w2.heap.size := (by omega)
  have n2_2 : w.heap.size + 2 ≠ w2.heap.size := (by omega)
  have z2 : w.heap.size ≤ w2.heap.size := (by omega)
  have HB2 := Lib.hid (show Below w.heap.size w w2 by (repeat' (first | exact Below.refl _ _ | (refine Below.setCell ?_ (by (first | omega | (simp; done) | (simp; omega))) _) | (refine Below.alloc ?_ (by (first | omega | (simp; done) | (simp; omega))) _) | (refine Below.drew ?_) | (refine below_drewN ?_ _) | (refine Below.trans ?_ (Below.mono HBo (by (first | omega | (simp; done) | (simp; omega))))) | (refine Below.trans ?_ (Below.mono hb2 (by (first | omega | (simp; done) | (simp; omega))))))))
  clear HBo hb2 hs2 c1_0_0 c1_0_1 c1_0_2 c1_1_0 c1_1_1 c1_1_2 c1_2_0 c1_2_1 c1_2_2 l1_0 n1_0 l1_1 n1_1 l1_2 n1_2 z1 HB1
  go_wp2_with fail
  go_at_call 26
  refine (far_c H3.out _).mono ?_
  rintro e w3 ⟨rfl, hb3⟩
  have HBo := HB2.out
  have hs3 := hb3.size
  try simp at hs3
  have c3_0_0 : w3.cell? ⟨w.heap.size, 0, none⟩ = some (.int .i64 a1) := (by rw [hb3.cell (p := ⟨w.heap.size, 0, none⟩) (by first | omega | (simp; done) | (simp; omega))] <;> first | assumption | (simp; done) | (simp [go_sem, *]; done))
  have c3_0_1 : w3.cell? ⟨w.heap.size, 1, none⟩ = some (.int .i64 a2) := (by rw [hb3.cell (p := ⟨w.heap.size, 1, none⟩) (by first | omega | (simp; done) | (simp; omega))] <;> first | assumption | (simp; done) | (simp [go_sem, *]; done))
  have c3_0_2 : w3.cell? ⟨w.heap.size, 2, none⟩ = some (.int .i64 a3) := (by rw [hb3.cell (p := ⟨w.heap.size, 2, none⟩) (by first | omega | (simp; done) | (simp; omega))] <;> first | assumption | (simp; done) | (simp [go_sem, *]; done))
  have c3_1_0 : w3.cell? ⟨w.heap.size + 1, 0, none⟩ = some (.int .i64 b1) := (by rw [hb3.cell (p := ⟨w.heap.size + 1, 0, none⟩) (by first | omega | (simp; done) | (simp; omega))] <;> first | assumption | (simp; done) | (simp [go_sem, *]; done))
  have c3_1_1 : w3.cell? ⟨w.heap.size + 1, 1, none⟩ = some (.int .i64 b2) := (by rw [hb3.cell (p := ⟨w.heap.size + 1, 1, none⟩) (by first | omega | (simp; done) | (simp; omega))] <;> first | assumption | (simp; done) | (simp [go_sem, *]; done))
  have c3_1_2 : w3.cell? ⟨w.heap.size + 1, 2, none⟩ = some (.int .i64 b3) := (by rw [hb3.cell (p := ⟨w.heap.size + 1, 2, none⟩) (by first | omega | (simp; done) | (simp; omega))] <;> first | assumption | (simp; done) | (simp [go_sem, *]; done))
  have c3_2_0 : w3.cell? ⟨w.heap.size + 2, 0, none⟩ = some (.int .i64 c1) := (by rw [hb3.cell (p := ⟨w.heap.size + 2, 0, none⟩) (by first | omega | (simp; done) | (simp; omega))] <;> first | assumption | (simp; done) | (simp [go_sem, *]; done))
  have c3_2_1 : w3.cell? ⟨w.heap.size + 2, 1, none⟩ = some (.int .i64 c2) := (by rw [hb3.cell (p := ⟨w.heap.size + 2, 1, none⟩) (by first | omega | (simp; done) | (simp; omega))] <;> first | assumption | (simp; done) | (simp [go_sem, *]; done))
  have c3_2_2 : w3.cell? ⟨w.heap.size + 2, 2, none⟩ = some (.int .i64 c3) := (by rw [hb3.cell (p := ⟨w.heap.size + 2, 2, none⟩) (by first | omega | (simp; done) | (simp; omega))] <;> first | assumption | (simp; done) | (simp [go_sem, *]; done))
  have l3_0 : w.heap.size < w3.heap.size := (by omega)
  have n3_0 : w.heap.size ≠ w3.heap.size := (by omega)
  have l3_1 : w.heap.size + 1 < w3.heap.size := (by omega)
  have n3_1 : w.heap.size + 1 ≠ w3.heap.size := (by omega)
  have l3_2 : w.heap.size + 2 < w3.heap.size := (by omega)
  have n3_2 : w.heap.size + 2 ≠ w3.heap.size := (by omega)
  have z3 : w.heap.size ≤ w3.heap.size := (by omega)
  have HB3 := Lib.hid (show Below w.heap.size w w3 by (repeat' (first | exact Below.refl _ _ | (refine Below.setCell ?_ (by (first | omega | (simp; done) | (simp; omega))) _) | (refine Below.alloc ?_ (by (first | omega | (simp; done) | (simp; omega))) _) | (refine Below.drew ?_) | (refine below_drewN ?_ _) | (refine Below.trans ?_ (Below.mono HBo (by (first | omega | (simp; done) | (simp; omega))))) | (refine Below.trans ?_ (Below.mono hb3 (by (first | omega | (simp; done) | (simp; omega))))))))
  clear HBo hb3 hs3 c2_0_0 c2_0_1 c2_0_2 c2_1_0 c2_1_1 c2_1_2 c2_2_0 c2_2_1 c2_2_2 l2_0 n2_0 l2_1 n2_1 l2_2 n2_2 z2 HB2
  go_wp2_with fail
  go_at_call 26
  refine (far_c H4.out _).mono ?_
  rintro e w4 ⟨rfl, hb4⟩
  have HBo := HB3.out
  have hs4 := hb4.size
  try simp at hs4
  have c4_0_0 : w4.cell? ⟨w.heap.size, 0, none⟩ = some (.int .i64 a1) := (by rw [hb4.cell (p := ⟨w.heap.size, 0, none⟩) (by first | omega | (simp; done) | (simp; omega))] <;> first | assumption | (simp; done) | (simp [go_sem, *]; done))
  have c4_0_1 : w4.cell? ⟨w.heap.size, 1, none⟩ = some (.int .i64 a2) := (by rw [hb4.cell (p := ⟨w.heap.size, 1, none⟩) (by first | omega | (simp; done) | (simp; omega))] <;> first | assumption | (simp; done) | (simp [go_sem, *]; done))
  have c4_0_2 : w4.cell? ⟨w.heap.size, 2, none⟩ = some (.int .i64 a3) := (by rw [hb4.cell (p := ⟨w.heap.size, 2, none⟩) (by first | omega | (simp; done) | (simp; omega))] <;> first | assumption | (simp; done) | (simp [go_sem, *]; done))
  have c4_1_0 : w4.cell? ⟨w.heap.size + 1, 0, none⟩ = some (.int .i64 b1) := (by rw [hb4.cell (p := ⟨w.heap.size + 1, 0, none⟩) (by first | omega | (simp; done) | (simp; omega))] <;> first | assumption | (simp; done) | (simp [go_sem, *]; done))
  have c4_1_1 : w4.cell? ⟨w.heap.size + 1, 1, none⟩ = some (.int .i64 b2) := (by rw [hb4.cell (p := ⟨w.heap.size + 1, 1, none⟩) (by first | omega | (simp; done) | (simp; omega))] <;> first | assumption | (simp; done) | (simp [go_sem, *]; done))
  have c4_1_2 : w4.cell? ⟨w.heap.size + 1, 2, none⟩ = some (.int .i64 b3) := (by rw [hb4.cell (p := ⟨w.heap.size + 1, 2, none⟩) (by first | omega | (simp; done) | (simp; omega))] <;> first | assumption | (simp; done) | (simp [go_sem, *]; done))
  have c4_2_0 : w4.cell? ⟨w.heap.size + 2, 0, none⟩ = some (.int .i64 c1) := (by rw [hb4.cell (p := ⟨w.heap.size + 2, 0, none⟩) (by first | omega | (simp; done) | (simp; omega))] <;> first | assumption | (simp; done) | (simp [go_sem, *]; done))
  have c4_2_1 : w4.cell? ⟨w.heap.size + 2, 1, none⟩ = some (.int .i64 c2) := (by rw [hb4.cell (p := ⟨w.heap.size + 2, 1, none⟩) (by first | omega | (simp; done) | (simp; omega))] <;> first | assumption | (simp; done) | (simp [go_sem, *]; done))
  have c4_2_2 : w4.cell? ⟨w.heap.size + 2, 2, none⟩ = some (.int .i64 c3) := (by rw [hb4.cell (p := ⟨w.heap.size + 2, 2, none⟩) (by first | omega | (simp; done) | (simp; omega))] <;> first | assumption | (simp; done) | (simp [go_sem, *]; done))
  have l4_0 : w.heap.size < w4.heap.size := (by omega)
  have n4_0 : w.heap.size ≠ w4.heap.size := (by omega)
  have l4_1 : w.heap.size + 1 < w4.heap.size := (by omega)
  have n4_1 : w.heap.size + 1 ≠ w4.heap.size := (by omega)
  have l4_2 : w.heap.size + 2 < w4.heap.size := (by omega)
  have n4_2 : w.heap.size + 2 ≠ w4.heap.size := (by omega)
  have z4 : w.heap.size ≤ w4.heap.size := (by omega)
  have HB4 := Lib.hid (show Below w.heap.size w w4 by (repeat' (first | exact Below.refl _ _ | (refine Below.setCell ?_ (by (first | omega | (simp; done) | (simp; omega))) _) | (refine Below.alloc ?_ (by (first | omega | (simp; done) | (simp; omega))) _) | (refine Below.drew ?_) | (refine below_drewN ?_ _) | (refine Below.trans ?_ (Below.mono HBo (by (first | omega | (simp; done) | (simp; omega))))) | (refine Below.trans ?_ (Below.mono hb4 (by (first | omega | (simp; done) | (simp; omega))))))))
  clear HBo hb4 hs4 c3_0_0 c3_0_1 c3_0_2 c3_1_0 c3_1_1 c3_1_2 c3_2_0 c3_2_1 c3_2_2 l3_0 n3_0 l3_1 n3_1 l3_2 n3_2 z3 HB3
  go_wp2_with fail
  go_at_call 19
  refine (may_b HM.out _).mono ?_
  rintro e w5 ⟨rfl, hb5⟩
  have HBo := HB4.out
  have hs5 := hb5.size
  try simp at hs5
  have c5_0_0 : w5.cell? ⟨w.heap.size, 0, none⟩ = some (.int .i64 a1) := (by rw [hb5.cell (p := ⟨w.heap.size, 0, none⟩) (by first | omega | (simp; done) | (simp; omega))] <;> first | assumption | (simp; done) | (simp [go_sem, *]; done))
  have c5_0_1 : w5.cell? ⟨w.heap.size, 1, none⟩ = some (.int .i64 a2) := (by rw [hb5.cell (p := ⟨w.heap.size, 1, none⟩) (by first | omega | (simp; done) | (simp; omega))] <;> first | assumption | (simp; done) | (simp [go_sem, *]; done))
  have c5_0_2 : w5.cell? ⟨w.heap.size, 2, none⟩ = some (.int .i64 a3) := (by rw [hb5.cell (p := ⟨w.heap.size, 2, none⟩) (by first | omega | (simp; done) | (simp; omega))] <;> first | assumption | (simp; done) | (simp [go_sem, *]; done))
  have c5_1_0 : w5.cell? ⟨w.heap.size + 1, 0, none⟩ = some (.int .i64 b1) := (by rw [hb5.cell (p := ⟨w.heap.size + 1, 0, none⟩) (by first | omega | (simp; done) | (simp; omega))] <;> first | assumption | (simp; done) | (simp [go_sem, *]; done))
  have c5_1_1 : w5.cell? ⟨w.heap.size + 1, 1, none⟩ = some (.int .i64 b2) := (by rw [hb5.cell (p := ⟨w.heap.size + 1, 1, none⟩) (by first | omega | (simp; done) | (simp; omega))] <;> first | assumption | (simp; done) | (simp [go_sem, *]; done))
  have c5_1_2 : w5.cell? ⟨w.heap.size + 1, 2, none⟩ = some (.int .i64 b3) := (by rw [hb5.cell (p := ⟨w.heap.size + 1, 2, none⟩) (by first | omega | (simp; done) | (simp; omega))] <;> first | assumption | (simp; done) | (simp [go_sem, *]; done))
  have c5_2_0 : w5.cell? ⟨w.heap.size + 2, 0, none⟩ = some (.int .i64 c1) := (by rw [hb5.cell (p := ⟨w.heap.size + 2, 0, none⟩) (by first | omega | (simp; done) | (simp; omega))] <;> first | assumption | (simp; done) | (simp [go_sem, *]; done))
  have c5_2_1 : w5.cell? ⟨w.heap.size + 2, 1, none⟩ = some (.int .i64 c2) := (by rw [hb5.cell (p := ⟨w.heap.size + 2, 1, none⟩) (by first | omega | (simp; done) | (simp; omega))] <;> first | assumption | (simp; done) | (simp [go_sem, *]; done))
  have c5_2_2 : w5.cell? ⟨w.heap.size + 2, 2, none⟩ = some (.int .i64 c3) := (by rw [hb5.cell (p := ⟨w.heap.size + 2, 2, none⟩) (by first | omega | (simp; done) | (simp; omega))] <;> first | assumption | (simp; done) | (simp [go_sem, *]; done))
  have l5_0 : w.heap.size < w5.heap.size := (by omega)
  have n5_0 : w.heap.size ≠ w5.heap.size := (by omega)
  have l5_1 : w.heap.size + 1 < w5.heap.size := (by omega)
  have n5_1 : w.heap.size + 1 ≠ w5.heap.size := (by omega)
  have l5_2 : w.heap.size + 2 < w5.heap.size := (by omega)
  have n5_2 : w.heap.size + 2 ≠ w5.heap.size := (by omega)
  have z5 : w.heap.size ≤ w5.heap.size := (by omega)
  have HB5 := Lib.hid (show Below w.heap.size w w5 by (repeat' (first | exact Below.refl _ _ | (refine Below.setCell ?_ (by (first | omega | (simp; done) | (simp; omega))) _) | (refine Below.alloc ?_ (by (first | omega | (simp; done) | (simp; omega))) _) | (refine Below.drew ?_) | (refine below_drewN ?_ _) | (refine Below.trans ?_ (Below.mono HBo (by (first | omega | (simp; done) | (simp; omega))))) | (refine Below.trans ?_ (Below.mono hb5 (by (first | omega | (simp; done) | (simp; omega))))))))
  clear HBo hb5 hs5 c4_0_0 c4_0_1 c4_0_2 c4_1_0 c4_1_1 c4_1_2 c4_2_0 c4_2_1 c4_2_2 l4_0 n4_0 l4_1 n4_1 l4_2 n4_2 z4 HB4
  go_wp2_with fail
  go_at_call 19
  refine (may_b HN.out _).mono ?_
  rintro e w6 ⟨rfl, hb6⟩
  have HBo := HB5.out
  have hs6 := hb6.size
  try simp at hs6
  have c6_0_0 : w6.cell? ⟨w.heap.size, 0, none⟩ = some (.int .i64 a1) := (by rw [hb6.cell (p := ⟨w.heap.size, 0, none⟩) (by first | omega | (simp; done) | (simp; omega))] <;> first | assumption | (simp; done) | (simp [go_sem, *]; done))
  have c6_0_1 : w6.cell? ⟨w.heap.size, 1, none⟩ = some (.int .i64 a2) := (by rw [hb6.cell (p := ⟨w.heap.size, 1, none⟩) (by first | omega | (simp; done) | (simp; omega))] <;> first | assumption | (simp; done) | (simp [go_sem, *]; done))
  have c6_0_2 : w6.cell? ⟨w.heap.size, 2, none⟩ = some (.int .i64 a3) := (by rw [hb6.cell (p := ⟨w.heap.size, 2, none⟩) (by first | omega | (simp; done) | (simp; omega))] <;> first | assumption | (simp; done) | (simp [go_sem, *]; done))
  have c6_1_0 : w6.cell? ⟨w.heap.size + 1, 0, none⟩ = some (.int .i64 b1) := (by rw [hb6.cell (p := ⟨w.heap.size + 1, 0, none⟩) (by first | omega | (simp; done) | (simp; omega))] <;> first | assumption | (simp; done) | (simp [go_sem, *]; done))
  have c6_1_1 : w6.cell? ⟨w.heap.size + 1, 1, none⟩ = some (.int .i64 b2) := (by rw [hb6.cell (p := ⟨w.heap.size + 1, 1, none⟩) (by first | omega | (simp; done) | (simp; omega))] <;> first | assumption | (simp; done) | (simp [go_sem, *]; done))
  have c6_1_2 : w6.cell? ⟨w.heap.size + 1, 2, none⟩ = some (.int .i64 b3) := (by rw [hb6.cell (p := ⟨w.heap.size + 1, 2, none⟩) (by first | omega | (simp; done) | (simp; omega))] <;> first | assumption | (simp; done) | (simp [go_sem, *]; done))
  have c6_2_0 : w6.cell? ⟨w.heap.size + 2, 0, none⟩ = some (.int .i64 c1) := (by rw [hb6.cell (p := ⟨w.heap.size + 2, 0, none⟩) (by first | omega | (simp; done) | (simp; omega))] <;> first | assumption | (simp; done) | (simp [go_sem, *]; done))
  have c6_2_1 : w6.cell? ⟨w.heap.size + 2, 1, none⟩ = some (.int .i64 c2) := (by rw [hb6.cell (p := ⟨w.heap.size + 2, 1, none⟩) (by first | omega | (simp; done) | (simp; omega))] <;> first | assumption | (simp; done) | (simp [go_sem, *]; done))
  have c6_2_2 : w6.cell? ⟨w.heap.size + 2, 2, none⟩ = some (.int .i64 c3) := (by rw [hb6.cell (p := ⟨w.heap.size + 2, 2, none⟩) (by first | omega | (simp; done) | (simp; omega))] <;> first | assumption | (simp; done) | (simp [go_sem, *]; done))
  have l6_0 : w.heap.size < w6.heap.size := (by omega)
  have n6_0 : w.heap.size ≠ w6.heap.size := (by omega)
  have l6_1 : w.heap.size + 1 < w6.heap.size := (by omega)
  have n6_1 : w.heap.size + 1 ≠ w6.heap.size := (by omega)
  have l6_2 : w.heap.size + 2 < w6.heap.size := (by omega)
  have n6_2 : w.heap.size + 2 ≠ w6.heap.size := (by omega)
  have z6 : w.heap.size ≤ w6.heap.size := (by omega)
  have HB6 := Lib.hid (show Below w.heap.size w w6 by (repeat' (first | exact Below.refl _ _ | (refine Below.setCell ?_ (by (first | omega | (simp; done) | (simp; omega))) _) | (refine Below.alloc ?_ (by (first | omega | (simp; done) | (simp; omega))) _) | (refine Below.drew ?_) | (refine below_drewN ?_ _) | (refine Below.trans ?_ (Below.mono HBo (by (first | omega | (simp; done) | (simp; omega))))) | (refine Below.trans ?_ (Below.mono hb6 (by (first | omega | (simp; done) | (simp; omega))))))))
  clear HBo hb6 hs6 c5_0_0 c5_0_1 c5_0_2 c5_1_0 c5_1_1 c5_1_2 c5_2_0 c5_2_1 c5_2_2 l5_0 n5_0 l5_1 n5_1 l5_2 n5_2 z5 HB5
  go_wp2_with fail
  all_goals first
    | (exact absurd ⟨by assumption, by assumption, by assumption⟩ HZ.out)
    | (go_at_call 23; refine (works_c _).mono ?_; rintro e w7 ⟨rfl, hb7⟩; go_wp2_with fail; go_ret; have HBo := HB6.out; refine ⟨rfl, ?_⟩; (repeat' (first | exact Below.refl _ _ | (refine Below.setCell ?_ (by (first | omega | (simp; done) | (simp; omega))) _) | (refine Below.alloc ?_ (by (first | omega | (simp; done) | (simp; omega))) _) | (refine Below.drew ?_) | (refine below_drewN ?_ _) | (refine Below.trans ?_ (Below.mono HBo (by (first | omega | (simp; done) | (simp; omega))))) | (refine Below.trans ?_ (Below.mono hb7 (by (first | omega | (simp; done) | (simp; omega))))))))

set_option maxRecDepth 100000 in
set_option maxHeartbeats 2000000 in
theorem law_near_C2 {a1 a2 a3 c1 c2 c3 p q : Int} (h1 : farOf a1 a2 a3 a1 a2 a3 = (0, true)) (h2 : farOf a1 a2 a3 a1 a2 a3 = (0, true)) (h3 : farOf a1 a2 a3 c1 c2 c3 = (p, true)) (h4 : farOf c1 c2 c3 a1 a2 a3 = (q, true)) (w : World) :
    Calls Try.prog 10 #[.agg #[.int .i64 a1, .int .i64 a2, .int .i64 a3], .agg #[.int .i64 a1, .int .i64 a2, .int .i64 a3], .agg #[.int .i64 c1, .int .i64 c2, .int .i64 c3]] w fun e w' => e = .returned (.bool true) ∧ Below w.heap.size w w' := by
  have HM := Lib.hid (far_true h1).1
  have HN := Lib.hid (far_true h1).2.1
  obtain ⟨p0, p1⟩ := (far_true h3).2.2.2
  obtain ⟨q0, q1⟩ := (far_true h4).2.2.2
  have ht := far_tri h1 h3 h4
  have e2 : decide (0 ≤ p + q) = true := decide_eq_true ht
  have H1 := Lib.hid h1
  have H2 := Lib.hid h2
  have H3 := Lib.hid h3
  have H4 := Lib.hid h4
  clear h1 h2 h3 h4
  go_enter Try.func10, Try.ntmps10
  go_wp2_with fail
  go_at_call 26
  refine (far_c H1.out _).mono ?_
  rintro e w1 ⟨rfl, hb1⟩
  have hs1 := hb1.size
  try simp at hs1
  have c1_0_0 : w1.cell? ⟨w.heap.size, 0, none⟩ = some (.int .i64 a1) := (by rw [hb1.cell (p := ⟨w.heap.size, 0, none⟩) (by first | omega | (simp; done) | (simp; omega))] <;> first | assumption | (simp; done) | (simp [go_sem, *]; done))
  have c1_0_1 : w1.cell? ⟨w.heap.size, 1, none⟩ = some (.int .i64 a2) := (by rw [hb1.cell (p := ⟨w.heap.size, 1, none⟩) (by first | omega | (simp; done) | (simp; omega))] <;> first | assumption | (simp; done) | (simp [go_sem, *]; done))
  have c1_0_2 : w1.cell? ⟨w.heap.size, 2, none⟩ = some (.int .i64 a3) := (by rw [hb1.cell (p := ⟨w.heap.size, 2, none⟩) (by first | omega | (simp; done) | (simp; omega))] <;> first | assumption | (simp; done) | (simp [go_sem, *]; done))
  have c1_1_0 : w1.cell? ⟨w.heap.size + 1, 0, none⟩ = some (.int .i64 a1) := (by rw [hb1.cell (p := ⟨w.heap.size + 1, 0, none⟩) (by first | omega | (simp; done) | (simp; omega))] <;> first | assumption | (simp; done) | (simp [go_sem, *]; done))
  have c1_1_1 : w1.cell? ⟨w.heap.size + 1, 1, none⟩ = some (.int .i64 a2) := (by rw [hb1.cell (p := ⟨w.heap.size + 1, 1, none⟩) (by first | omega | (simp; done) | (simp; omega))] <;> first | assumption | (simp; done) | (simp [go_sem, *]; done))
  have c1_1_2 : w1.cell? ⟨w.heap.size + 1, 2, none⟩ = some (.int .i64 a3) := (by rw [hb1.cell (p := ⟨w.heap.size + 1, 2, none⟩) (by first | omega | (simp; done) | (simp; omega))] <;> first | assumption | (simp; done) | (simp [go_sem, *]; done))
  have c1_2_0 : w1.cell? ⟨w.heap.size + 2, 0, none⟩ = some (.int .i64 c1) := (by rw [hb1.cell (p := ⟨w.heap.size + 2, 0, none⟩) (by first | omega | (simp; done) | (simp; omega))] <;> first | assumption | (simp; done) | (simp [go_sem, *]; done))
  have c1_2_1 : w1.cell? ⟨w.heap.size + 2, 1, none⟩ = some (.int .i64 c2) := (by rw [hb1.cell (p := ⟨w.heap.size + 2, 1, none⟩) (by first | omega | (simp; done) | (simp; omega))] <;> first | assumption | (simp; done) | (simp [go_sem, *]; done))
  have c1_2_2 : w1.cell? ⟨w.heap.size + 2, 2, none⟩ = some (.int .i64 c3) := (by rw [hb1.cell (p := ⟨w.heap.size + 2, 2, none⟩) (by first | omega | (simp; done) | (simp; omega))] <;> first | assumption | (simp; done) | (simp [go_sem, *]; done))
  have l1_0 : w.heap.size < w1.heap.size := (by omega)
  have n1_0 : w.heap.size ≠ w1.heap.size := (by omega)
  have l1_1 : w.heap.size + 1 < w1.heap.size := (by omega)
  have n1_1 : w.heap.size + 1 ≠ w1.heap.size := (by omega)
  have l1_2 : w.heap.size + 2 < w1.heap.size := (by omega)
  have n1_2 : w.heap.size + 2 ≠ w1.heap.size := (by omega)
  have z1 : w.heap.size ≤ w1.heap.size := (by omega)
  have HB1 := Lib.hid (show Below w.heap.size w w1 by (repeat' (first | exact Below.refl _ _ | (refine Below.setCell ?_ (by (first | omega | (simp; done) | (simp; omega))) _) | (refine Below.alloc ?_ (by (first | omega | (simp; done) | (simp; omega))) _) | (refine Below.drew ?_) | (refine below_drewN ?_ _) | (refine Below.trans ?_ (Below.mono hb1 (by (first | omega | (simp; done) | (simp; omega))))))))
  clear hb1 hs1
  go_wp2_with fail
  go_at_call 26
  refine (far_c H2.out _).mono ?_
  rintro e w2 ⟨rfl, hb2⟩
  have HBo := HB1.out
  have hs2 := hb2.size
  try simp at hs2
  have c2_0_0 : w2.cell? ⟨w.heap.size, 0, none⟩ = some (.int .i64 a1) := (by rw [hb2.cell (p := ⟨w.heap.size, 0, none⟩) (by first | omega | (simp; done) | (simp; omega))] <;> first | assumption | (simp; done) | (simp [go_sem, *]; done))
  have c2_0_1 : w2.cell? ⟨w.heap.size, 1, none⟩ = some (.int .i64 a2) := (by rw [hb2.cell (p := ⟨w.heap.size, 1, none⟩) (by first | omega | (simp; done) | (simp; omega))] <;> first | assumption | (simp; done) | (simp [go_sem, *]; done))
  have c2_0_2 : w2.cell? ⟨w.heap.size, 2, none⟩ = some (.int .i64 a3) := (by rw [hb2.cell (p := ⟨w.heap.size, 2, none⟩) (by first | omega | (simp; done) | (simp; omega))] <;> first | assumption | (simp; done) | (simp [go_sem, *]; done))
  have c2_1_0 : w2.cell? ⟨w.heap.size + 1, 0, none⟩ = some (.int .i64 a1) := (by rw [hb2.cell (p := ⟨w.heap.size + 1, 0, none⟩) (by first | omega | (simp; done) | (simp; omega))] <;> first | assumption | (simp; done) | (simp [go_sem, *]; done))
  have c2_1_1 : w2.cell? ⟨w.heap.size + 1, 1, none⟩ = some (.int .i64 a2) := (by rw [hb2.cell (p := ⟨w.heap.size + 1, 1, none⟩) (by first | omega | (simp; done) | (simp; omega))] <;> first | assumption | (simp; done) | (simp [go_sem, *]; done))
  have c2_1_2 : w2.cell? ⟨w.heap.size + 1, 2, none⟩ = some (.int .i64 a3) := (by rw [hb2.cell (p := ⟨w.heap.size + 1, 2, none⟩) (by first | omega | (simp; done) | (simp; omega))] <;> first | assumption | (simp; done) | (simp [go_sem, *]; done))
  have c2_2_0 : w2.cell? ⟨w.heap.size + 2, 0, none⟩ = some (.int .i64 c1) := (by rw [hb2.cell (p := ⟨w.heap.size + 2, 0, none⟩) (by first | omega | (simp; done) | (simp; omega))] <;> first | assumption | (simp; done) | (simp [go_sem, *]; done))
  have c2_2_1 : w2.cell? ⟨w.heap.size + 2, 1, none⟩ = some (.int .i64 c2) := (by rw [hb2.cell (p := ⟨w.heap.size + 2, 1, none⟩) (by first | omega | (simp; done) | (simp; omega))] <;> first | assumption | (simp; done) | (simp [go_sem, *]; done))
  have c2_2_2 : w2.cell? ⟨w.heap.size + 2, 2, none⟩ = some (.int .i64 c3) := (by rw [hb2.cell (p := ⟨w.heap.size + 2, 2, none⟩) (by first | omega | (simp; done) | (simp; omega))] <;> first | assumption | (simp; done) | (simp [go_sem, *]; done))
  have l2_0 : w.heap.size < w2.heap.size := (by omega)
  have n2_0 : w.heap.size ≠ w2.heap.size := (by omega)
  have l2_1 : w.heap.size + 1 < w2.heap.size := (by omega)
  have n2_1 : w.heap.size + 1 ≠ w2.heap.size := (by omega)
  have l2_2 : w.heap.size + 2 < w2.heap.size := (by omega)
  have n2_2 : w.heap.size + 2 ≠ w2.heap.size := (by omega)
  have z2 : w.heap.size ≤ w2.heap.size := (by omega)
  have HB2 := Lib.hid (show Below w.heap.size w w2 by (repeat' (first | exact Below.refl _ _ | (refine Below.setCell ?_ (by (first | omega | (simp; done) | (simp; omega))) _) | (refine Below.alloc ?_ (by (first | omega | (simp; done) | (simp; omega))) _) | (refine Below.drew ?_) | (refine below_drewN ?_ _) | (refine Below.trans ?_ (Below.mono HBo (by (first | omega | (simp; done) | (simp; omega))))) | (refine Below.trans ?_ (Below.mono hb2 (by (first | omega | (simp; done) | (simp; omega))))))))
  clear HBo hb2 hs2 c1_0_0 c1_0_1 c1_0_2 c1_1_0 c1_1_1 c1_1_2 c1_2_0 c1_2_1 c1_2_2 l1_0 n1_0 l1_1 n1_1 l1_2 n1_2 z1 HB1
  go_wp2_with fail
  go_at_call 26
  refine (far_c H3.out _).mono ?_
  rintro e w3 ⟨rfl, hb3⟩
  have HBo := HB2.out
  have hs3 := hb3.size
  try simp at hs3
  have c3_0_0 : w3.cell? ⟨w.heap.size, 0, none⟩ = some (.int .i64 a1) := (by rw [hb3.cell (p := ⟨w.heap.size, 0, none⟩) (by first | omega | (simp; done) | (simp; omega))] <;> first | assumption | (simp; done) | (simp [go_sem, *]; done))
  have c3_0_1 : w3.cell? ⟨w.heap.size, 1, none⟩ = some (.int .i64 a2) := (by rw [hb3.cell (p := ⟨w.heap.size, 1, none⟩) (by first | omega | (simp; done) | (simp; omega))] <;> first | assumption | (simp; done) | (simp [go_sem, *]; done))
  have c3_0_2 : w3.cell? ⟨w.heap.size, 2, none⟩ = some (.int .i64 a3) := (by rw [hb3.cell (p := ⟨w.heap.size, 2, none⟩) (by first | omega | (simp; done) | (simp; omega))] <;> first | assumption | (simp; done) | (simp [go_sem, *]; done))
  have c3_1_0 : w3.cell? ⟨w.heap.size + 1, 0, none⟩ = some (.int .i64 a1) := (by rw [hb3.cell (p := ⟨w.heap.size + 1, 0, none⟩) (by first | omega | (simp; done) | (simp; omega))] <;> first | assumption | (simp; done) | (simp [go_sem, *]; done))
  have c3_1_1 : w3.cell? ⟨w.heap.size + 1, 1, none⟩ = some (.int .i64 a2) := (by rw [hb3.cell (p := ⟨w.heap.size + 1, 1, none⟩) (by first | omega | (simp; done) | (simp; omega))] <;> first | assumption | (simp; done) | (simp [go_sem, *]; done))
  have c3_1_2 : w3.cell? ⟨w.heap.size + 1, 2, none⟩ = some (.int .i64 a3) := (by rw [hb3.cell (p := ⟨w.heap.size + 1, 2, none⟩) (by first | omega | (simp; done) | (simp; omega))] <;> first | assumption | (simp; done) | (simp [go_sem, *]; done))
  have c3_2_0 : w3.cell? ⟨w.heap.size + 2, 0, none⟩ = some (.int .i64 c1) := (by rw [hb3.cell (p := ⟨w.heap.size + 2, 0, none⟩) (by first | omega | (simp; done) | (simp; omega))] <;> first | assumption | (simp; done) | (simp [go_sem, *]; done))
  have c3_2_1 : w3.cell? ⟨w.heap.size + 2, 1, none⟩ = some (.int .i64 c2) := (by rw [hb3.cell (p := ⟨w.heap.size + 2, 1, none⟩) (by first | omega | (simp; done) | (simp; omega))] <;> first | assumption | (simp; done) | (simp [go_sem, *]; done))
  have c3_2_2 : w3.cell? ⟨w.heap.size + 2, 2, none⟩ = some (.int .i64 c3) := (by rw [hb3.cell (p := ⟨w.heap.size + 2, 2, none⟩) (by first | omega | (simp; done) | (simp; omega))] <;> first | assumption | (simp; done) | (simp [go_sem, *]; done))
  have l3_0 : w.heap.size < w3.heap.size := (by omega)
  have n3_0 : w.heap.size ≠ w3.heap.size := (by omega)
  have l3_1 : w.heap.size + 1 < w3.heap.size := (by omega)
  have n3_1 : w.heap.size + 1 ≠ w3.heap.size := (by omega)
  have l3_2 : w.heap.size + 2 < w3.heap.size := (by omega)
  have n3_2 : w.heap.size + 2 ≠ w3.heap.size := (by omega)
  have z3 : w.heap.size ≤ w3.heap.size := (by omega)
  have HB3 := Lib.hid (show Below w.heap.size w w3 by (repeat' (first | exact Below.refl _ _ | (refine Below.setCell ?_ (by (first | omega | (simp; done) | (simp; omega))) _) | (refine Below.alloc ?_ (by (first | omega | (simp; done) | (simp; omega))) _) | (refine Below.drew ?_) | (refine below_drewN ?_ _) | (refine Below.trans ?_ (Below.mono HBo (by (first | omega | (simp; done) | (simp; omega))))) | (refine Below.trans ?_ (Below.mono hb3 (by (first | omega | (simp; done) | (simp; omega))))))))
  clear HBo hb3 hs3 c2_0_0 c2_0_1 c2_0_2 c2_1_0 c2_1_1 c2_1_2 c2_2_0 c2_2_1 c2_2_2 l2_0 n2_0 l2_1 n2_1 l2_2 n2_2 z2 HB2
  go_wp2_with fail
  go_at_call 26
  refine (far_c H4.out _).mono ?_
  rintro e w4 ⟨rfl, hb4⟩
  have HBo := HB3.out
  have hs4 := hb4.size
  try simp at hs4
  have c4_0_0 : w4.cell? ⟨w.heap.size, 0, none⟩ = some (.int .i64 a1) := (by rw [hb4.cell (p := ⟨w.heap.size, 0, none⟩) (by first | omega | (simp; done) | (simp; omega))] <;> first | assumption | (simp; done) | (simp [go_sem, *]; done))
  have c4_0_1 : w4.cell? ⟨w.heap.size, 1, none⟩ = some (.int .i64 a2) := (by rw [hb4.cell (p := ⟨w.heap.size, 1, none⟩) (by first | omega | (simp; done) | (simp; omega))] <;> first | assumption | (simp; done) | (simp [go_sem, *]; done))
  have c4_0_2 : w4.cell? ⟨w.heap.size, 2, none⟩ = some (.int .i64 a3) := (by rw [hb4.cell (p := ⟨w.heap.size, 2, none⟩) (by first | omega | (simp; done) | (simp; omega))] <;> first | assumption | (simp; done) | (simp [go_sem, *]; done))
  have c4_1_0 : w4.cell? ⟨w.heap.size + 1, 0, none⟩ = some (.int .i64 a1) := (by rw [hb4.cell (p := ⟨w.heap.size + 1, 0, none⟩) (by first | omega | (simp; done) | (simp; omega))] <;> first | assumption | (simp; done) | (simp [go_sem, *]; done))
  have c4_1_1 : w4.cell? ⟨w.heap.size + 1, 1, none⟩ = some (.int .i64 a2) := (by rw [hb4.cell (p := ⟨w.heap.size + 1, 1, none⟩) (by first | omega | (simp; done) | (simp; omega))] <;> first | assumption | (simp; done) | (simp [go_sem, *]; done))
  have c4_1_2 : w4.cell? ⟨w.heap.size + 1, 2, none⟩ = some (.int .i64 a3) := (by rw [hb4.cell (p := ⟨w.heap.size + 1, 2, none⟩) (by first | omega | (simp; done) | (simp; omega))] <;> first | assumption | (simp; done) | (simp [go_sem, *]; done))
  have c4_2_0 : w4.cell? ⟨w.heap.size + 2, 0, none⟩ = some (.int .i64 c1) := (by rw [hb4.cell (p := ⟨w.heap.size + 2, 0, none⟩) (by first | omega | (simp; done) | (simp; omega))] <;> first | assumption | (simp; done) | (simp [go_sem, *]; done))
  have c4_2_1 : w4.cell? ⟨w.heap.size + 2, 1, none⟩ = some (.int .i64 c2) := (by rw [hb4.cell (p := ⟨w.heap.size + 2, 1, none⟩) (by first | omega | (simp; done) | (simp; omega))] <;> first | assumption | (simp; done) | (simp [go_sem, *]; done))
  have c4_2_2 : w4.cell? ⟨w.heap.size + 2, 2, none⟩ = some (.int .i64 c3) := (by rw [hb4.cell (p := ⟨w.heap.size + 2, 2, none⟩) (by first | omega | (simp; done) | (simp; omega))] <;> first | assumption | (simp; done) | (simp [go_sem, *]; done))
  have l4_0 : w.heap.size < w4.heap.size := (by omega)
  have n4_0 : w.heap.size ≠ w4.heap.size := (by omega)
  have l4_1 : w.heap.size + 1 < w4.heap.size := (by omega)
  have n4_1 : w.heap.size + 1 ≠ w4.heap.size := (by omega)
  have l4_2 : w.heap.size + 2 < w4.heap.size := (by omega)
  have n4_2 : w.heap.size + 2 ≠ w4.heap.size := (by omega)
  have z4 : w.heap.size ≤ w4.heap.size := (by omega)
  have HB4 := Lib.hid (show Below w.heap.size w w4 by (repeat' (first | exact Below.refl _ _ | (refine Below.setCell ?_ (by (first | omega | (simp; done) | (simp; omega))) _) | (refine Below.alloc ?_ (by (first | omega | (simp; done) | (simp; omega))) _) | (refine Below.drew ?_) | (refine below_drewN ?_ _) | (refine Below.trans ?_ (Below.mono HBo (by (first | omega | (simp; done) | (simp; omega))))) | (refine Below.trans ?_ (Below.mono hb4 (by (first | omega | (simp; done) | (simp; omega))))))))
  clear HBo hb4 hs4 c3_0_0 c3_0_1 c3_0_2 c3_1_0 c3_1_1 c3_1_2 c3_2_0 c3_2_1 c3_2_2 l3_0 n3_0 l3_1 n3_1 l3_2 n3_2 z3 HB3
  go_wp2_with fail
  go_at_call 19
  refine (may_b HM.out _).mono ?_
  rintro e w5 ⟨rfl, hb5⟩
  have HBo := HB4.out
  have hs5 := hb5.size
  try simp at hs5
  have c5_0_0 : w5.cell? ⟨w.heap.size, 0, none⟩ = some (.int .i64 a1) := (by rw [hb5.cell (p := ⟨w.heap.size, 0, none⟩) (by first | omega | (simp; done) | (simp; omega))] <;> first | assumption | (simp; done) | (simp [go_sem, *]; done))
  have c5_0_1 : w5.cell? ⟨w.heap.size, 1, none⟩ = some (.int .i64 a2) := (by rw [hb5.cell (p := ⟨w.heap.size, 1, none⟩) (by first | omega | (simp; done) | (simp; omega))] <;> first | assumption | (simp; done) | (simp [go_sem, *]; done))
  have c5_0_2 : w5.cell? ⟨w.heap.size, 2, none⟩ = some (.int .i64 a3) := (by rw [hb5.cell (p := ⟨w.heap.size, 2, none⟩) (by first | omega | (simp; done) | (simp; omega))] <;> first | assumption | (simp; done) | (simp [go_sem, *]; done))
  have c5_1_0 : w5.cell? ⟨w.heap.size + 1, 0, none⟩ = some (.int .i64 a1) := (by rw [hb5.cell (p := ⟨w.heap.size + 1, 0, none⟩) (by first | omega | (simp; done) | (simp; omega))] <;> first | assumption | (simp; done) | (simp [go_sem, *]; done))
  have c5_1_1 : w5.cell? ⟨w.heap.size + 1, 1, none⟩ = some (.int .i64 a2) := (by rw [hb5.cell (p := ⟨w.heap.size + 1, 1, none⟩) (by first | omega | (simp; done) | (simp; omega))] <;> first | assumption | (simp; done) | (simp [go_sem, *]; done))
  have c5_1_2 : w5.cell? ⟨w.heap.size + 1, 2, none⟩ = some (.int .i64 a3) := (by rw [hb5.cell (p := ⟨w.heap.size + 1, 2, none⟩) (by first | omega | (simp; done) | (simp; omega))] <;> first | assumption | (simp; done) | (simp [go_sem, *]; done))
  have c5_2_0 : w5.cell? ⟨w.heap.size + 2, 0, none⟩ = some (.int .i64 c1) := (by rw [hb5.cell (p := ⟨w.heap.size + 2, 0, none⟩) (by first | omega | (simp; done) | (simp; omega))] <;> first | assumption | (simp; done) | (simp [go_sem, *]; done))
  have c5_2_1 : w5.cell? ⟨w.heap.size + 2, 1, none⟩ = some (.int .i64 c2) := (by rw [hb5.cell (p := ⟨w.heap.size + 2, 1, none⟩) (by first | omega | (simp; done) | (simp; omega))] <;> first | assumption | (simp; done) | (simp [go_sem, *]; done))
  have c5_2_2 : w5.cell? ⟨w.heap.size + 2, 2, none⟩ = some (.int .i64 c3) := (by rw [hb5.cell (p := ⟨w.heap.size + 2, 2, none⟩) (by first | omega | (simp; done) | (simp; omega))] <;> first | assumption | (simp; done) | (simp [go_sem, *]; done))
  have l5_0 : w.heap.size < w5.heap.size := (by omega)
  have n5_0 : w.heap.size ≠ w5.heap.size := (by omega)
  have l5_1 : w.heap.size + 1 < w5.heap.size := (by omega)
  have n5_1 : w.heap.size + 1 ≠ w5.heap.size := (by omega)
  have l5_2 : w.heap.size + 2 < w5.heap.size := (by omega)
  have n5_2 : w.heap.size + 2 ≠ w5.heap.size := (by omega)
  have z5 : w.heap.size ≤ w5.heap.size := (by omega)
  have HB5 := Lib.hid (show Below w.heap.size w w5 by (repeat' (first | exact Below.refl _ _ | (refine Below.setCell ?_ (by (first | omega | (simp; done) | (simp; omega))) _) | (refine Below.alloc ?_ (by (first | omega | (simp; done) | (simp; omega))) _) | (refine Below.drew ?_) | (refine below_drewN ?_ _) | (refine Below.trans ?_ (Below.mono HBo (by (first | omega | (simp; done) | (simp; omega))))) | (refine Below.trans ?_ (Below.mono hb5 (by (first | omega | (simp; done) | (simp; omega))))))))
  clear HBo hb5 hs5 c4_0_0 c4_0_1 c4_0_2 c4_1_0 c4_1_1 c4_1_2 c4_2_0 c4_2_1 c4_2_2 l4_0 n4_0 l4_1 n4_1 l4_2 n4_2 z4 HB4
  go_wp2_with fail
  go_at_call 19
  refine (may_b HN.out _).mono ?_
  rintro e w6 ⟨rfl, hb6⟩
  have HBo := HB5.out
  have hs6 := hb6.size
  try simp at hs6
  have c6_0_0 : w6.cell? ⟨w.heap.size, 0, none⟩ = some (.int .i64 a1) := (by rw [hb6.cell (p := ⟨w.heap.size, 0, none⟩) (by first | omega | (simp; done) | (simp; omega))] <;> first | assumption | (simp; done) | (simp [go_sem, *]; done))
  have c6_0_1 : w6.cell? ⟨w.heap.size, 1, none⟩ = some (.int .i64 a2) := (by rw [hb6.cell (p := ⟨w.heap.size, 1, none⟩) (by first | omega | (simp; done) | (simp; omega))] <;> first | assumption | (simp; done) | (simp [go_sem, *]; done))
  have c6_0_2 : w6.cell? ⟨w.heap.size, 2, none⟩ = some (.int .i64 a3) := (by rw [hb6.cell (p := ⟨w.heap.size, 2, none⟩) (by first | omega | (simp; done) | (simp; omega))] <;> first | assumption | (simp; done) | (simp [go_sem, *]; done))
  have c6_1_0 : w6.cell? ⟨w.heap.size + 1, 0, none⟩ = some (.int .i64 a1) := (by rw [hb6.cell (p := ⟨w.heap.size + 1, 0, none⟩) (by first | omega | (simp; done) | (simp; omega))] <;> first | assumption | (simp; done) | (simp [go_sem, *]; done))
  have c6_1_1 : w6.cell? ⟨w.heap.size + 1, 1, none⟩ = some (.int .i64 a2) := (by rw [hb6.cell (p := ⟨w.heap.size + 1, 1, none⟩) (by first | omega | (simp; done) | (simp; omega))] <;> first | assumption | (simp; done) | (simp [go_sem, *]; done))
  have c6_1_2 : w6.cell? ⟨w.heap.size + 1, 2, none⟩ = some (.int .i64 a3) := (by rw [hb6.cell (p := ⟨w.heap.size + 1, 2, none⟩) (by first | omega | (simp; done) | (simp; omega))] <;> first | assumption | (simp; done) | (simp [go_sem, *]; done))
  have c6_2_0 : w6.cell? ⟨w.heap.size + 2, 0, none⟩ = some (.int .i64 c1) := (by rw [hb6.cell (p := ⟨w.heap.size + 2, 0, none⟩) (by first | omega | (simp; done) | (simp; omega))] <;> first | assumption | (simp; done) | (simp [go_sem, *]; done))
  have c6_2_1 : w6.cell? ⟨w.heap.size + 2, 1, none⟩ = some (.int .i64 c2) := (by rw [hb6.cell (p := ⟨w.heap.size + 2, 1, none⟩) (by first | omega | (simp; done) | (simp; omega))] <;> first | assumption | (simp; done) | (simp [go_sem, *]; done))
  have c6_2_2 : w6.cell? ⟨w.heap.size + 2, 2, none⟩ = some (.int .i64 c3) := (by rw [hb6.cell (p := ⟨w.heap.size + 2, 2, none⟩) (by first | omega | (simp; done) | (simp; omega))] <;> first | assumption | (simp; done) | (simp [go_sem, *]; done))
  have l6_0 : w.heap.size < w6.heap.size := (by omega)
  have n6_0 : w.heap.size ≠ w6.heap.size := (by omega)
  have l6_1 : w.heap.size + 1 < w6.heap.size := (by omega)
  have n6_1 : w.heap.size + 1 ≠ w6.heap.size := (by omega)
  have l6_2 : w.heap.size + 2 < w6.heap.size := (by omega)
  have n6_2 : w.heap.size + 2 ≠ w6.heap.size := (by omega)
  have z6 : w.heap.size ≤ w6.heap.size := (by omega)
  have HB6 := Lib.hid (show Below w.heap.size w w6 by (repeat' (first | exact Below.refl _ _ | (refine Below.setCell ?_ (by (first | omega | (simp; done) | (simp; omega))) _) | (refine Below.alloc ?_ (by (first | omega | (simp; done) | (simp; omega))) _) | (refine Below.drew ?_) | (refine below_drewN ?_ _) | (refine Below.trans ?_ (Below.mono HBo (by (first | omega | (simp; done) | (simp; omega))))) | (refine Below.trans ?_ (Below.mono hb6 (by (first | omega | (simp; done) | (simp; omega))))))))
  clear HBo hb6 hs6 c5_0_0 c5_0_1 c5_0_2 c5_1_0 c5_1_1 c5_1_2 c5_2_0 c5_2_1 c5_2_2 l5_0 n5_0 l5_1 n5_1 l5_2 n5_2 z5 HB5
  go_wp2_with fail
  go_at_call 23
  refine (works_c _).mono ?_
  rintro e w7 ⟨rfl, hb7⟩
  have HBo := HB6.out
  have hs7 := hb7.size
  try simp at hs7
  have c7_0_0 : w7.cell? ⟨w.heap.size, 0, none⟩ = some (.int .i64 a1) := (by rw [hb7.cell (p := ⟨w.heap.size, 0, none⟩) (by first | omega | (simp; done) | (simp; omega))] <;> first | assumption | (simp; done) | (simp [go_sem, *]; done))
  have c7_0_1 : w7.cell? ⟨w.heap.size, 1, none⟩ = some (.int .i64 a2) := (by rw [hb7.cell (p := ⟨w.heap.size, 1, none⟩) (by first | omega | (simp; done) | (simp; omega))] <;> first | assumption | (simp; done) | (simp [go_sem, *]; done))
  have c7_0_2 : w7.cell? ⟨w.heap.size, 2, none⟩ = some (.int .i64 a3) := (by rw [hb7.cell (p := ⟨w.heap.size, 2, none⟩) (by first | omega | (simp; done) | (simp; omega))] <;> first | assumption | (simp; done) | (simp [go_sem, *]; done))
  have c7_1_0 : w7.cell? ⟨w.heap.size + 1, 0, none⟩ = some (.int .i64 a1) := (by rw [hb7.cell (p := ⟨w.heap.size + 1, 0, none⟩) (by first | omega | (simp; done) | (simp; omega))] <;> first | assumption | (simp; done) | (simp [go_sem, *]; done))
  have c7_1_1 : w7.cell? ⟨w.heap.size + 1, 1, none⟩ = some (.int .i64 a2) := (by rw [hb7.cell (p := ⟨w.heap.size + 1, 1, none⟩) (by first | omega | (simp; done) | (simp; omega))] <;> first | assumption | (simp; done) | (simp [go_sem, *]; done))
  have c7_1_2 : w7.cell? ⟨w.heap.size + 1, 2, none⟩ = some (.int .i64 a3) := (by rw [hb7.cell (p := ⟨w.heap.size + 1, 2, none⟩) (by first | omega | (simp; done) | (simp; omega))] <;> first | assumption | (simp; done) | (simp [go_sem, *]; done))
  have c7_2_0 : w7.cell? ⟨w.heap.size + 2, 0, none⟩ = some (.int .i64 c1) := (by rw [hb7.cell (p := ⟨w.heap.size + 2, 0, none⟩) (by first | omega | (simp; done) | (simp; omega))] <;> first | assumption | (simp; done) | (simp [go_sem, *]; done))
  have c7_2_1 : w7.cell? ⟨w.heap.size + 2, 1, none⟩ = some (.int .i64 c2) := (by rw [hb7.cell (p := ⟨w.heap.size + 2, 1, none⟩) (by first | omega | (simp; done) | (simp; omega))] <;> first | assumption | (simp; done) | (simp [go_sem, *]; done))
  have c7_2_2 : w7.cell? ⟨w.heap.size + 2, 2, none⟩ = some (.int .i64 c3) := (by rw [hb7.cell (p := ⟨w.heap.size + 2, 2, none⟩) (by first | omega | (simp; done) | (simp; omega))] <;> first | assumption | (simp; done) | (simp [go_sem, *]; done))
  have l7_0 : w.heap.size < w7.heap.size := (by omega)
  have n7_0 : w.heap.size ≠ w7.heap.size := (by omega)
  have l7_1 : w.heap.size + 1 < w7.heap.size := (by omega)
  have n7_1 : w.heap.size + 1 ≠ w7.heap.size := (by omega)
  have l7_2 : w.heap.size + 2 < w7.heap.size := (by omega)
  have n7_2 : w.heap.size + 2 ≠ w7.heap.size := (by omega)
  have z7 : w.heap.size ≤ w7.heap.size := (by omega)
  have HB7 := Lib.hid (show Below w.heap.size w w7 by (repeat' (first | exact Below.refl _ _ | (refine Below.setCell ?_ (by (first | omega | (simp; done) | (simp; omega))) _) | (refine Below.alloc ?_ (by (first | omega | (simp; done) | (simp; omega))) _) | (refine Below.drew ?_) | (refine below_drewN ?_ _) | (refine Below.trans ?_ (Below.mono HBo (by (first | omega | (simp; done) | (simp; omega))))) | (refine Below.trans ?_ (Below.mono hb7 (by (first | omega | (simp; done) | (simp; omega))))))))
  clear HBo hb7 hs7 c6_0_0 c6_0_1 c6_0_2 c6_1_0 c6_1_1 c6_1_2 c6_2_0 c6_2_1 c6_2_2 l6_0 n6_0 l6_1 n6_1 l6_2 n6_2 z6 HB6
  go_wp2_with fail
  go_ret
  have HBo := HB7.out
  refine ⟨rfl, ?_⟩
  (repeat' (first | exact Below.refl _ _ | (refine Below.setCell ?_ (by (first | omega | (simp; done) | (simp; omega))) _) | (refine Below.alloc ?_ (by (first | omega | (simp; done) | (simp; omega))) _) | (refine Below.drew ?_) | (refine below_drewN ?_ _) | (refine Below.trans ?_ (Below.mono HBo (by (first | omega | (simp; done) | (simp; omega)))))))

set_option maxRecDepth 100000 in
set_option maxHeartbeats 2000000 in
theorem law_near_D2 {a1 a2 a3 b1 b2 b3 c1 c2 c3 n p q : Int} (h1 : farOf a1 a2 a3 b1 b2 b3 = (n, true)) (h2 : farOf b1 b2 b3 a1 a2 a3 = (n, true)) (h3 : farOf a1 a2 a3 c1 c2 c3 = (p, true)) (h4 : farOf c1 c2 c3 b1 b2 b3 = (q, true)) (he : n ≠ 0) (w : World) :
    Calls Try.prog 10 #[.agg #[.int .i64 a1, .int .i64 a2, .int .i64 a3], .agg #[.int .i64 b1, .int .i64 b2, .int .i64 b3], .agg #[.int .i64 c1, .int .i64 c2, .int .i64 c3]] w fun e w' => e = .returned (.bool true) ∧ Below w.heap.size w w' := by
  have HM := Lib.hid (far_true h1).1
  have HN := Lib.hid (far_true h1).2.1
  have e1 : (n == 0) = false := by simpa using he
  have HZ := Lib.hid (fun h => he ((far_zero h1).2 h))
  clear he
  obtain ⟨p0, p1⟩ := (far_true h3).2.2.2
  obtain ⟨q0, q1⟩ := (far_true h4).2.2.2
  have ht := far_tri h1 h3 h4
  have e2 : decide (n ≤ p + q) = true := decide_eq_true ht
  have H1 := Lib.hid h1
  have H2 := Lib.hid h2
  have H3 := Lib.hid h3
  have H4 := Lib.hid h4
  clear h1 h2 h3 h4
  go_enter Try.func10, Try.ntmps10
  go_wp2_with fail
  go_at_call 26
  refine (far_c H1.out _).mono ?_
  rintro e w1 ⟨rfl, hb1⟩
  have hs1 := hb1.size
  try simp at hs1
  have c1_0_0 : w1.cell? ⟨w.heap.size, 0, none⟩ = some (.int .i64 a1) := (by rw [hb1.cell (p := ⟨w.heap.size, 0, none⟩) (by first | omega | (simp; done) | (simp; omega))] <;> first | assumption | (simp; done) | (simp [go_sem, *]; done))
  have c1_0_1 : w1.cell? ⟨w.heap.size, 1, none⟩ = some (.int .i64 a2) := (by rw [hb1.cell (p := ⟨w.heap.size, 1, none⟩) (by first | omega | (simp; done) | (simp; omega))] <;> first | assumption | (simp; done) | (simp [go_sem, *]; done))
  have c1_0_2 : w1.cell? ⟨w.heap.size, 2, none⟩ = some (.int .i64 a3) := (by rw [hb1.cell (p := ⟨w.heap.size, 2, none⟩) (by first | omega | (simp; done) | (simp; omega))] <;> first | assumption | (simp; done) | (simp [go_sem, *]; done))
  have c1_1_0 : w1.cell? ⟨w.heap.size + 1, 0, none⟩ = some (.int .i64 b1) := (by rw [hb1.cell (p := ⟨w.heap.size + 1, 0, none⟩) (by first | omega | (simp; done) | (simp; omega))] <;> first | assumption | (simp; done) | (simp [go_sem, *]; done))
  have c1_1_1 : w1.cell? ⟨w.heap.size + 1, 1, none⟩ = some (.int .i64 b2) := (by rw [hb1.cell (p := ⟨w.heap.size + 1, 1, none⟩) (by first | omega | (simp; done) | (simp; omega))] <;> first | assumption | (simp; done) | (simp [go_sem, *]; done))
  have c1_1_2 : w1.cell? ⟨w.heap.size + 1, 2, none⟩ = some (.int .i64 b3) := (by rw [hb1.cell (p := ⟨w.heap.size + 1, 2, none⟩) (by first | omega | (simp; done) | (simp; omega))] <;> first | assumption | (simp; done) | (simp [go_sem, *]; done))
  have c1_2_0 : w1.cell? ⟨w.heap.size + 2, 0, none⟩ = some (.int .i64 c1) := (by rw [hb1.cell (p := ⟨w.heap.size + 2, 0, none⟩) (by first | omega | (simp; done) | (simp; omega))] <;> first | assumption | (simp; done) | (simp [go_sem, *]; done))
  have c1_2_1 : w1.cell? ⟨w.heap.size + 2, 1, none⟩ = some (.int .i64 c2) := (by rw [hb1.cell (p := ⟨w.heap.size + 2, 1, none⟩) (by first | omega | (simp; done) | (simp; omega))] <;> first | assumption | (simp; done) | (simp [go_sem, *]; done))
  have c1_2_2 : w1.cell? ⟨w.heap.size + 2, 2, none⟩ = some (.int .i64 c3) := (by rw [hb1.cell (p := ⟨w.heap.size + 2, 2, none⟩) (by first | omega | (simp; done) | (simp; omega))] <;> first | assumption | (simp; done) | (simp [go_sem, *]; done))
  have l1_0 : w.heap.size < w1.heap.size := (by omega)
  have n1_0 : w.heap.size ≠ w1.heap.size := (by omega)
  have l1_1 : w.heap.size + 1 < w1.heap.size := (by omega)
  have n1_1 : w.heap.size + 1 ≠ w1.heap.size := (by omega)
  have l1_2 : w.heap.size + 2 < w1.heap.size := (by omega)
  have n1_2 : w.heap.size + 2 ≠ w1.heap.size := (by omega)
  have z1 : w.heap.size ≤ w1.heap.size := (by omega)
  have HB1 := Lib.hid (show Below w.heap.size w w1 by (repeat' (first | exact Below.refl _ _ | (refine Below.setCell ?_ (by (first | omega | (simp; done) | (simp; omega))) _) | (refine Below.alloc ?_ (by (first | omega | (simp; done) | (simp; omega))) _) | (refine Below.drew ?_) | (refine below_drewN ?_ _) | (refine Below.trans ?_ (Below.mono hb1 (by (first | omega | (simp; done) | (simp; omega))))))))
  clear hb1 hs1
  go_wp2_with fail
  go_at_call 26
  refine (far_c H2.out _).mono ?_
  rintro e w2 ⟨rfl, hb2⟩
  have HBo := HB1.out
  have hs2 := hb2.size
  try simp at hs2
  have c2_0_0 : w2.cell? ⟨w.heap.size, 0, none⟩ = some (.int .i64 a1) := (by rw [hb2.cell (p := ⟨w.heap.size, 0, none⟩) (by first | omega | (simp; done) | (simp; omega))] <;> first | assumption | (simp; done) | (simp [go_sem, *]; done))
  have c2_0_1 : w2.cell? ⟨w.heap.size, 1, none⟩ = some (.int .i64 a2) := (by rw [hb2.cell (p := ⟨w.heap.size, 1, none⟩) (by first | omega | (simp; done) | (simp; omega))] <;> first | assumption | (simp; done) | (simp [go_sem, *]; done))
  have c2_0_2 : w2.cell? ⟨w.heap.size, 2, none⟩ = some (.int .i64 a3) := (by rw [hb2.cell (p := ⟨w.heap.size, 2, none⟩) (by first | omega | (simp; done) | (simp; omega))] <;> first | assumption | (simp; done) | (simp [go_sem, *]; done))
  have c2_1_0 : w2.cell? ⟨w.heap.size + 1, 0, none⟩ = some (.int .i64 b1) := (by rw [hb2.cell (p := ⟨w.heap.size + 1, 0, none⟩) (by first | omega | (simp; done) | (simp; omega))] <;> first | assumption | (simp; done) | (simp [go_sem, *]; done))
  have c2_1_1 : w2.cell? ⟨w.heap.size + 1, 1, none⟩ = some (.int .i64 b2) := (by rw [hb2.cell (p := ⟨w.heap.size + 1, 1, none⟩) (by first | omega | (simp; done) | (simp; omega))] <;> first | assumption | (simp; done) | (simp [go_sem, *]; done))
  have c2_1_2 : w2.cell? ⟨w.heap.size + 1, 2, none⟩ = some (.int .i64 b3) := (by rw [hb2.cell (p := ⟨w.heap.size + 1, 2, none⟩) (by first | omega | (simp; done) | (simp; omega))] <;> first | assumption | (simp; done) | (simp [go_sem, *]; done))
  have c2_2_0 : w2.cell? ⟨w.heap.size + 2, 0, none⟩ = some (.int .i64 c1) := (by rw [hb2.cell (p := ⟨w.heap.size + 2, 0, none⟩) (by first | omega | (simp; done) | (simp; omega))] <;> first | assumption | (simp; done) | (simp [go_sem, *]; done))
  have c2_2_1 : w2.cell? ⟨w.heap.size + 2, 1, none⟩ = some (.int .i64 c2) := (by rw [hb2.cell (p := ⟨w.heap.size + 2, 1, none⟩) (by first | omega | (simp; done) | (simp; omega))] <;> first | assumption | (simp; done) | (simp [go_sem, *]; done))
  have c2_2_2 : w2.cell? ⟨w.heap.size + 2, 2, none⟩ = some (.int .i64 c3) := (by rw [hb2.cell (p := ⟨w.heap.size + 2, 2, none⟩) (by first | omega | (simp; done) | (simp; omega))] <;> first | assumption | (simp; done) | (simp [go_sem, *]; done))
  have l2_0 : w.heap.size < w2.heap.size := (by omega)
  have n2_0 : w.heap.size ≠ w2.heap.size := (by omega)
  have l2_1 : w.heap.size + 1 < w2.heap.size := (by omega)
  have n2_1 : w.heap.size + 1 ≠ w2.heap.size := (by omega)
  have l2_2 : w.heap.size + 2 < w2.heap.size := (by omega)
  have n2_2 : w.heap.size + 2 ≠ w2.heap.size := (by omega)
  have z2 : w.heap.size ≤ w2.heap.size := (by omega)
  have HB2 := Lib.hid (show Below w.heap.size w w2 by (repeat' (first | exact Below.refl _ _ | (refine Below.setCell ?_ (by (first | omega | (simp; done) | (simp; omega))) _) | (refine Below.alloc ?_ (by (first | omega | (simp; done) | (simp; omega))) _) | (refine Below.drew ?_) | (refine below_drewN ?_ _) | (refine Below.trans ?_ (Below.mono HBo (by (first | omega | (simp; done) | (simp; omega))))) | (refine Below.trans ?_ (Below.mono hb2 (by (first | omega | (simp; done) | (simp; omega))))))))
  clear HBo hb2 hs2 c1_0_0 c1_0_1 c1_0_2 c1_1_0 c1_1_1 c1_1_2 c1_2_0 c1_2_1 c1_2_2 l1_0 n1_0 l1_1 n1_1 l1_2 n1_2 z1 HB1
  go_wp2_with fail
  go_at_call 26
  refine (far_c H3.out _).mono ?_
  rintro e w3 ⟨rfl, hb3⟩
  have HBo := HB2.out
  have hs3 := hb3.size
  try simp at hs3
  have c3_0_0 : w3.cell? ⟨w.heap.size, 0, none⟩ = some (.int .i64 a1) := (by rw [hb3.cell (p := ⟨w.heap.size, 0, none⟩) (by first | omega | (simp; done) | (simp; omega))] <;> first | assumption | (simp; done) | (simp [go_sem, *]; done))
  have c3_0_1 : w3.cell? ⟨w.heap.size, 1, none⟩ = some (.int .i64 a2) := (by rw [hb3.cell (p := ⟨w.heap.size, 1, none⟩) (by first | omega | (simp; done) | (simp; omega))] <;> first | assumption | (simp; done) | (simp [go_sem, *]; done))
  have c3_0_2 : w3.cell? ⟨w.heap.size, 2, none⟩ = some (.int .i64 a3) := (by rw [hb3.cell (p := ⟨w.heap.size, 2, none⟩) (by first | omega | (simp; done) | (simp; omega))] <;> first | assumption | (simp; done) | (simp [go_sem, *]; done))
  have c3_1_0 : w3.cell? ⟨w.heap.size + 1, 0, none⟩ = some (.int .i64 b1) := (by rw [hb3.cell (p := ⟨w.heap.size + 1, 0, none⟩) (by first | omega | (simp; done) | (simp; omega))] <;> first | assumption | (simp; done) | (simp [go_sem, *]; done))
  have c3_1_1 : w3.cell? ⟨w.heap.size + 1, 1, none⟩ = some (.int .i64 b2) := (by rw [hb3.cell (p := ⟨w.heap.size + 1, 1, none⟩) (by first | omega | (simp; done) | (simp; omega))] <;> first | assumption | (simp; done) | (simp [go_sem, *]; done))
  have c3_1_2 : w3.cell? ⟨w.heap.size + 1, 2, none⟩ = some (.int .i64 b3) := (by rw [hb3.cell (p := ⟨w.heap.size + 1, 2, none⟩) (by first | omega | (simp; done) | (simp; omega))] <;> first | assumption | (simp; done) | (simp [go_sem, *]; done))
  have c3_2_0 : w3.cell? ⟨w.heap.size + 2, 0, none⟩ = some (.int .i64 c1) := (by rw [hb3.cell (p := ⟨w.heap.size + 2, 0, none⟩) (by first | omega | (simp; done) | (simp; omega))] <;> first | assumption | (simp; done) | (simp [go_sem, *]; done))
  have c3_2_1 : w3.cell? ⟨w.heap.size + 2, 1, none⟩ = some (.int .i64 c2) := (by rw [hb3.cell (p := ⟨w.heap.size + 2, 1, none⟩) (by first | omega | (simp; done) | (simp; omega))] <;> first | assumption | (simp; done) | (simp [go_sem, *]; done))
  have c3_2_2 : w3.cell? ⟨w.heap.size + 2, 2, none⟩ = some (.int .i64 c3) := (by rw [hb3.cell (p := ⟨w.heap.size + 2, 2, none⟩) (by first | omega | (simp; done) | (simp; omega))] <;> first | assumption | (simp; done) | (simp [go_sem, *]; done))
  have l3_0 : w.heap.size < w3.heap.size := (by omega)
  have n3_0 : w.heap.size ≠ w3.heap.size := (by omega)
  have l3_1 : w.heap.size + 1 < w3.heap.size := (by omega)
  have n3_1 : w.heap.size + 1 ≠ w3.heap.size := (by omega)
  have l3_2 : w.heap.size + 2 < w3.heap.size := (by omega)
  have n3_2 : w.heap.size + 2 ≠ w3.heap.size := (by omega)
  have z3 : w.heap.size ≤ w3.heap.size := (by omega)
  have HB3 := Lib.hid (show Below w.heap.size w w3 by (repeat' (first | exact Below.refl _ _ | (refine Below.setCell ?_ (by (first | omega | (simp; done) | (simp; omega))) _) | (refine Below.alloc ?_ (by (first | omega | (simp; done) | (simp; omega))) _) | (refine Below.drew ?_) | (refine below_drewN ?_ _) | (refine Below.trans ?_ (Below.mono HBo (by (first | omega | (simp; done) | (simp; omega))))) | (refine Below.trans ?_ (Below.mono hb3 (by (first | omega | (simp; done) | (simp; omega))))))))
  clear HBo hb3 hs3 c2_0_0 c2_0_1 c2_0_2 c2_1_0 c2_1_1 c2_1_2 c2_2_0 c2_2_1 c2_2_2 l2_0 n2_0 l2_1 n2_1 l2_2 n2_2 z2 HB2
  go_wp2_with fail
  go_at_call 26
  refine (far_c H4.out _).mono ?_
  rintro e w4 ⟨rfl, hb4⟩
  have HBo := HB3.out
  have hs4 := hb4.size
  try simp at hs4
  have c4_0_0 : w4.cell? ⟨w.heap.size, 0, none⟩ = some (.int .i64 a1) := (by rw [hb4.cell (p := ⟨w.heap.size, 0, none⟩) (by first | omega | (simp; done) | (simp; omega))] <;> first | assumption | (simp; done) | (simp [go_sem, *]; done))
  have c4_0_1 : w4.cell? ⟨w.heap.size, 1, none⟩ = some (.int .i64 a2) := (by rw [hb4.cell (p := ⟨w.heap.size, 1, none⟩) (by first | omega | (simp; done) | (simp; omega))] <;> first | assumption | (simp; done) | (simp [go_sem, *]; done))
  have c4_0_2 : w4.cell? ⟨w.heap.size, 2, none⟩ = some (.int .i64 a3) := (by rw [hb4.cell (p := ⟨w.heap.size, 2, none⟩) (by first | omega | (simp; done) | (simp; omega))] <;> first | assumption | (simp; done) | (simp [go_sem, *]; done))
  have c4_1_0 : w4.cell? ⟨w.heap.size + 1, 0, none⟩ = some (.int .i64 b1) := (by rw [hb4.cell (p := ⟨w.heap.size + 1, 0, none⟩) (by first | omega | (simp; done) | (simp; omega))] <;> first | assumption | (simp; done) | (simp [go_sem, *]; done))
  have c4_1_1 : w4.cell? ⟨w.heap.size + 1, 1, none⟩ = some (.int .i64 b2) := (by rw [hb4.cell (p := ⟨w.heap.size + 1, 1, none⟩) (by first | omega | (simp; done) | (simp; omega))] <;> first | assumption | (simp; done) | (simp [go_sem, *]; done))
  have c4_1_2 : w4.cell? ⟨w.heap.size + 1, 2, none⟩ = some (.int .i64 b3) := (by rw [hb4.cell (p := ⟨w.heap.size + 1, 2, none⟩) (by first | omega | (simp; done) | (simp; omega))] <;> first | assumption | (simp; done) | (simp [go_sem, *]; done))
  have c4_2_0 : w4.cell? ⟨w.heap.size + 2, 0, none⟩ = some (.int .i64 c1) := (by rw [hb4.cell (p := ⟨w.heap.size + 2, 0, none⟩) (by first | omega | (simp; done) | (simp; omega))] <;> first | assumption | (simp; done) | (simp [go_sem, *]; done))
  have c4_2_1 : w4.cell? ⟨w.heap.size + 2, 1, none⟩ = some (.int .i64 c2) := (by rw [hb4.cell (p := ⟨w.heap.size + 2, 1, none⟩) (by first | omega | (simp; done) | (simp; omega))] <;> first | assumption | (simp; done) | (simp [go_sem, *]; done))
  have c4_2_2 : w4.cell? ⟨w.heap.size + 2, 2, none⟩ = some (.int .i64 c3) := (by rw [hb4.cell (p := ⟨w.heap.size + 2, 2, none⟩) (by first | omega | (simp; done) | (simp; omega))] <;> first | assumption | (simp; done) | (simp [go_sem, *]; done))
  have l4_0 : w.heap.size < w4.heap.size := (by omega)
  have n4_0 : w.heap.size ≠ w4.heap.size := (by omega)
  have l4_1 : w.heap.size + 1 < w4.heap.size := (by omega)
  have n4_1 : w.heap.size + 1 ≠ w4.heap.size := (by omega)
  have l4_2 : w.heap.size + 2 < w4.heap.size := (by omega)
  have n4_2 : w.heap.size + 2 ≠ w4.heap.size := (by omega)
  have z4 : w.heap.size ≤ w4.heap.size := (by omega)
  have HB4 := Lib.hid (show Below w.heap.size w w4 by (repeat' (first | exact Below.refl _ _ | (refine Below.setCell ?_ (by (first | omega | (simp; done) | (simp; omega))) _) | (refine Below.alloc ?_ (by (first | omega | (simp; done) | (simp; omega))) _) | (refine Below.drew ?_) | (refine below_drewN ?_ _) | (refine Below.trans ?_ (Below.mono HBo (by (first | omega | (simp; done) | (simp; omega))))) | (refine Below.trans ?_ (Below.mono hb4 (by (first | omega | (simp; done) | (simp; omega))))))))
  clear HBo hb4 hs4 c3_0_0 c3_0_1 c3_0_2 c3_1_0 c3_1_1 c3_1_2 c3_2_0 c3_2_1 c3_2_2 l3_0 n3_0 l3_1 n3_1 l3_2 n3_2 z3 HB3
  go_wp2_with fail
  go_at_call 19
  refine (may_b HM.out _).mono ?_
  rintro e w5 ⟨rfl, hb5⟩
  have HBo := HB4.out
  have hs5 := hb5.size
  try simp at hs5
  have c5_0_0 : w5.cell? ⟨w.heap.size, 0, none⟩ = some (.int .i64 a1) := (by rw [hb5.cell (p := ⟨w.heap.size, 0, none⟩) (by first | omega | (simp; done) | (simp; omega))] <;> first | assumption | (simp; done) | (simp [go_sem, *]; done))
  have c5_0_1 : w5.cell? ⟨w.heap.size, 1, none⟩ = some (.int .i64 a2) := (by rw [hb5.cell (p := ⟨w.heap.size, 1, none⟩) (by first | omega | (simp; done) | (simp; omega))] <;> first | assumption | (simp; done) | (simp [go_sem, *]; done))
  have c5_0_2 : w5.cell? ⟨w.heap.size, 2, none⟩ = some (.int .i64 a3) := (by rw [hb5.cell (p := ⟨w.heap.size, 2, none⟩) (by first | omega | (simp; done) | (simp; omega))] <;> first | assumption | (simp; done) | (simp [go_sem, *]; done))
  have c5_1_0 : w5.cell? ⟨w.heap.size + 1, 0, none⟩ = some (.int .i64 b1) := (by rw [hb5.cell (p := ⟨w.heap.size + 1, 0, none⟩) (by first | omega | (simp; done) | (simp; omega))] <;> first | assumption | (simp; done) | (simp [go_sem, *]; done))
  have c5_1_1 : w5.cell? ⟨w.heap.size + 1, 1, none⟩ = some (.int .i64 b2) := (by rw [hb5.cell (p := ⟨w.heap.size + 1, 1, none⟩) (by first | omega | (simp; done) | (simp; omega))] <;> first | assumption | (simp; done) | (simp [go_sem, *]; done))
  have c5_1_2 : w5.cell? ⟨w.heap.size + 1, 2, none⟩ = some (.int .i64 b3) := (by rw [hb5.cell (p := ⟨w.heap.size + 1, 2, none⟩) (by first | omega | (simp; done) | (simp; omega))] <;> first | assumption | (simp; done) | (simp [go_sem, *]; done))
  have c5_2_0 : w5.cell? ⟨w.heap.size + 2, 0, none⟩ = some (.int .i64 c1) := (by rw [hb5.cell (p := ⟨w.heap.size + 2, 0, none⟩) (by first | omega | (simp; done) | (simp; omega))] <;> first | assumption | (simp; done) | (simp [go_sem, *]; done))
  have c5_2_1 : w5.cell? ⟨w.heap.size + 2, 1, none⟩ = some (.int .i64 c2) := (by rw [hb5.cell (p := ⟨w.heap.size + 2, 1, none⟩) (by first | omega | (simp; done) | (simp; omega))] <;> first | assumption | (simp; done) | (simp [go_sem, *]; done))
  have c5_2_2 : w5.cell? ⟨w.heap.size + 2, 2, none⟩ = some (.int .i64 c3) := (by rw [hb5.cell (p := ⟨w.heap.size + 2, 2, none⟩) (by first | omega | (simp; done) | (simp; omega))] <;> first | assumption | (simp; done) | (simp [go_sem, *]; done))
  have l5_0 : w.heap.size < w5.heap.size := (by omega)
  have n5_0 : w.heap.size ≠ w5.heap.size := (by omega)
  have l5_1 : w.heap.size + 1 < w5.heap.size := (by omega)
  have n5_1 : w.heap.size + 1 ≠ w5.heap.size := (by omega)
  have l5_2 : w.heap.size + 2 < w5.heap.size := (by omega)
  have n5_2 : w.heap.size + 2 ≠ w5.heap.size := (by omega)
  have z5 : w.heap.size ≤ w5.heap.size := (by omega)
  have HB5 := Lib.hid (show Below w.heap.size w w5 by (repeat' (first | exact Below.refl _ _ | (refine Below.setCell ?_ (by (first | omega | (simp; done) | (simp; omega))) _) | (refine Below.alloc ?_ (by (first | omega | (simp; done) | (simp; omega))) _) | (refine Below.drew ?_) | (refine below_drewN ?_ _) | (refine Below.trans ?_ (Below.mono HBo (by (first | omega | (simp; done) | (simp; omega))))) | (refine Below.trans ?_ (Below.mono hb5 (by (first | omega | (simp; done) | (simp; omega))))))))
  clear HBo hb5 hs5 c4_0_0 c4_0_1 c4_0_2 c4_1_0 c4_1_1 c4_1_2 c4_2_0 c4_2_1 c4_2_2 l4_0 n4_0 l4_1 n4_1 l4_2 n4_2 z4 HB4
  go_wp2_with fail
  go_at_call 19
  refine (may_b HN.out _).mono ?_
  rintro e w6 ⟨rfl, hb6⟩
  have HBo := HB5.out
  have hs6 := hb6.size
  try simp at hs6
  have c6_0_0 : w6.cell? ⟨w.heap.size, 0, none⟩ = some (.int .i64 a1) := (by rw [hb6.cell (p := ⟨w.heap.size, 0, none⟩) (by first | omega | (simp; done) | (simp; omega))] <;> first | assumption | (simp; done) | (simp [go_sem, *]; done))
  have c6_0_1 : w6.cell? ⟨w.heap.size, 1, none⟩ = some (.int .i64 a2) := (by rw [hb6.cell (p := ⟨w.heap.size, 1, none⟩) (by first | omega | (simp; done) | (simp; omega))] <;> first | assumption | (simp; done) | (simp [go_sem, *]; done))
  have c6_0_2 : w6.cell? ⟨w.heap.size, 2, none⟩ = some (.int .i64 a3) := (by rw [hb6.cell (p := ⟨w.heap.size, 2, none⟩) (by first | omega | (simp; done) | (simp; omega))] <;> first | assumption | (simp; done) | (simp [go_sem, *]; done))
  have c6_1_0 : w6.cell? ⟨w.heap.size + 1, 0, none⟩ = some (.int .i64 b1) := (by rw [hb6.cell (p := ⟨w.heap.size + 1, 0, none⟩) (by first | omega | (simp; done) | (simp; omega))] <;> first | assumption | (simp; done) | (simp [go_sem, *]; done))
  have c6_1_1 : w6.cell? ⟨w.heap.size + 1, 1, none⟩ = some (.int .i64 b2) := (by rw [hb6.cell (p := ⟨w.heap.size + 1, 1, none⟩) (by first | omega | (simp; done) | (simp; omega))] <;> first | assumption | (simp; done) | (simp [go_sem, *]; done))
  have c6_1_2 : w6.cell? ⟨w.heap.size + 1, 2, none⟩ = some (.int .i64 b3) := (by rw [hb6.cell (p := ⟨w.heap.size + 1, 2, none⟩) (by first | omega | (simp; done) | (simp; omega))] <;> first | assumption | (simp; done) | (simp [go_sem, *]; done))
  have c6_2_0 : w6.cell? ⟨w.heap.size + 2, 0, none⟩ = some (.int .i64 c1) := (by rw [hb6.cell (p := ⟨w.heap.size + 2, 0, none⟩) (by first | omega | (simp; done) | (simp; omega))] <;> first | assumption | (simp; done) | (simp [go_sem, *]; done))
  have c6_2_1 : w6.cell? ⟨w.heap.size + 2, 1, none⟩ = some (.int .i64 c2) := (by rw [hb6.cell (p := ⟨w.heap.size + 2, 1, none⟩) (by first | omega | (simp; done) | (simp; omega))] <;> first | assumption | (simp; done) | (simp [go_sem, *]; done))
  have c6_2_2 : w6.cell? ⟨w.heap.size + 2, 2, none⟩ = some (.int .i64 c3) := (by rw [hb6.cell (p := ⟨w.heap.size + 2, 2, none⟩) (by first | omega | (simp; done) | (simp; omega))] <;> first | assumption | (simp; done) | (simp [go_sem, *]; done))
  have l6_0 : w.heap.size < w6.heap.size := (by omega)
  have n6_0 : w.heap.size ≠ w6.heap.size := (by omega)
  have l6_1 : w.heap.size + 1 < w6.heap.size := (by omega)
  have n6_1 : w.heap.size + 1 ≠ w6.heap.size := (by omega)
  have l6_2 : w.heap.size + 2 < w6.heap.size := (by omega)
  have n6_2 : w.heap.size + 2 ≠ w6.heap.size := (by omega)
  have z6 : w.heap.size ≤ w6.heap.size := (by omega)
  have HB6 := Lib.hid (show Below w.heap.size w w6 by (repeat' (first | exact Below.refl _ _ | (refine Below.setCell ?_ (by (first | omega | (simp; done) | (simp; omega))) _) | (refine Below.alloc ?_ (by (first | omega | (simp; done) | (simp; omega))) _) | (refine Below.drew ?_) | (refine below_drewN ?_ _) | (refine Below.trans ?_ (Below.mono HBo (by (first | omega | (simp; done) | (simp; omega))))) | (refine Below.trans ?_ (Below.mono hb6 (by (first | omega | (simp; done) | (simp; omega))))))))
  clear HBo hb6 hs6 c5_0_0 c5_0_1 c5_0_2 c5_1_0 c5_1_1 c5_1_2 c5_2_0 c5_2_1 c5_2_2 l5_0 n5_0 l5_1 n5_1 l5_2 n5_2 z5 HB5
  go_wp2_with fail
  all_goals first
    | (exact absurd ⟨by assumption, by assumption, by assumption⟩ HZ.out)
    | (go_at_call 23; refine (works_c _).mono ?_; rintro e w7 ⟨rfl, hb7⟩; go_wp2_with fail; go_ret; have HBo := HB6.out; refine ⟨rfl, ?_⟩; (repeat' (first | exact Below.refl _ _ | (refine Below.setCell ?_ (by (first | omega | (simp; done) | (simp; omega))) _) | (refine Below.alloc ?_ (by (first | omega | (simp; done) | (simp; omega))) _) | (refine Below.drew ?_) | (refine below_drewN ?_ _) | (refine Below.trans ?_ (Below.mono HBo (by (first | omega | (simp; done) | (simp; omega))))) | (refine Below.trans ?_ (Below.mono hb7 (by (first | omega | (simp; done) | (simp; omega))))))))

theorem law_near (a1 a2 a3 b1 b2 b3 c1 c2 c3 : Int) (w : World) :
    Calls Try.prog 10 #[.agg #[.int .i64 a1, .int .i64 a2, .int .i64 a3], .agg #[.int .i64 b1, .int .i64 b2, .int .i64 b3], .agg #[.int .i64 c1, .int .i64 c2, .int .i64 c3]] w fun e w' => e = .returned (.bool true) ∧ Below w.heap.size w w' := by
  obtain ⟨n, d, h1⟩ : ∃ n d, farOf a1 a2 a3 b1 b2 b3 = (n, d) := ⟨_, _, rfl⟩
  obtain ⟨p, f, h3⟩ : ∃ n d, farOf a1 a2 a3 c1 c2 c3 = (n, d) := ⟨_, _, rfl⟩
  obtain ⟨q, g, h4⟩ : ∃ n d, farOf c1 c2 c3 b1 b2 b3 = (n, d) := ⟨_, _, rfl⟩
  have h2 := (far_comm a1 a2 a3 b1 b2 b3).trans h1
  cases d with
  | false =>
    obtain ⟨rfl, hm | ⟨hm, hn⟩⟩ := far_false h1
    · exact law_near_A h1 h2 h3 h4 hm w
    · exact law_near_B h1 h2 h3 h4 hm hn w
  | true =>
    by_cases he : n = 0
    · obtain ⟨rfl, rfl, rfl⟩ := (far_zero h1).1 he
      subst he
      cases f with
      | false => exact law_near_C0 h1 h2 h3 h4 w
      | true =>
        cases g with
        | false => exact law_near_C1 h1 h2 h3 h4 w
        | true => exact law_near_C2 h1 h2 h3 h4 w
    · cases f with
      | false => exact law_near_D0 h1 h2 h3 h4 he w
      | true =>
        cases g with
        | false => exact law_near_D1 h1 h2 h3 h4 he w
        | true => exact law_near_D2 h1 h2 h3 h4 he w
end PlaceW
end Go.Proofs.Ytokkomglbddgcaa
