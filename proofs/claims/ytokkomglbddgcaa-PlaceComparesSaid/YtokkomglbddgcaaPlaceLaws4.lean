/-
  The laws of place, fourth part: PlaceCompares, PlaceOrder.
-/
import Derived.Test.YtokkomglbddgcaaPlaceLaws1
import Derived.Test.YtokkomglbddgcaaHeldP
import Derived.Deep.RegionHeld3
namespace Go.Proofs.Ytokkomglbddgcaa
open Go.RowKit
set_option linter.unusedSimpArgs false
set_option linter.unusedVariables false
namespace PlaceW
open BitsP

set_option maxRecDepth 100000 in
set_option maxHeartbeats 2000000 in
theorem law_compares (a1 a2 a3 b1 b2 b3 s1 s2 s3 t1 t2 t3 : Int) (w : World) :
    Calls Try.prog 5 #[.agg #[.int .i64 a1, .int .i64 a2, .int .i64 a3, .int .i64 b1, .int .i64 b2, .int .i64 b3, .int .i64 s1, .int .i64 s2, .int .i64 s3, .int .i64 t1, .int .i64 t2, .int .i64 t3]] w fun e w' => e = .returned (.bool true) ∧ Below w.heap.size w w' := by
  obtain ⟨n, r, h1⟩ : ∃ n r, farOf a1 a2 a3 b1 b2 b3 = (n, r) := ⟨_, _, rfl⟩
  obtain ⟨c, h2⟩ : ∃ c, cmpOf a1 a2 a3 b1 b2 b3 = c := ⟨_, rfl⟩
  obtain ⟨d, h3⟩ : ∃ c, cmpOf s1 s2 s3 t1 t2 t3 = c := ⟨_, rfl⟩
  have H1 := Lib.hid h1
  have H2 := Lib.hid h2
  have H3 := Lib.hid h3
  clear h1 h2 h3
  go_enter Try.func5, Try.ntmps5
  go_wp2_with fail
  go_at_call 26
  refine (far_c H1.out _).mono ?_
  rintro e w1 ⟨rfl, hb1⟩
  have hs1 := hb1.size
  try simp at hs1
  have c1_0_0 : w1.cell? ⟨w.heap.size, 0, none⟩ = some (.int .i64 a1) := (by rw [hb1.cell (p := ⟨w.heap.size, 0, none⟩) (by first | omega | (simp; done) | (simp; omega))] <;> first | assumption | (simp; done) | (simp [go_sem, *]; done))
  have c1_0_1 : w1.cell? ⟨w.heap.size, 1, none⟩ = some (.int .i64 a2) := (by rw [hb1.cell (p := ⟨w.heap.size, 1, none⟩) (by first | omega | (simp; done) | (simp; omega))] <;> first | assumption | (simp; done) | (simp [go_sem, *]; done))
  have c1_0_2 : w1.cell? ⟨w.heap.size, 2, none⟩ = some (.int .i64 a3) := (by rw [hb1.cell (p := ⟨w.heap.size, 2, none⟩) (by first | omega | (simp; done) | (simp; omega))] <;> first | assumption | (simp; done) | (simp [go_sem, *]; done))
  have c1_0_3 : w1.cell? ⟨w.heap.size, 3, none⟩ = some (.int .i64 b1) := (by rw [hb1.cell (p := ⟨w.heap.size, 3, none⟩) (by first | omega | (simp; done) | (simp; omega))] <;> first | assumption | (simp; done) | (simp [go_sem, *]; done))
  have c1_0_4 : w1.cell? ⟨w.heap.size, 4, none⟩ = some (.int .i64 b2) := (by rw [hb1.cell (p := ⟨w.heap.size, 4, none⟩) (by first | omega | (simp; done) | (simp; omega))] <;> first | assumption | (simp; done) | (simp [go_sem, *]; done))
  have c1_0_5 : w1.cell? ⟨w.heap.size, 5, none⟩ = some (.int .i64 b3) := (by rw [hb1.cell (p := ⟨w.heap.size, 5, none⟩) (by first | omega | (simp; done) | (simp; omega))] <;> first | assumption | (simp; done) | (simp [go_sem, *]; done))
  have c1_0_6 : w1.cell? ⟨w.heap.size, 6, none⟩ = some (.int .i64 s1) := (by rw [hb1.cell (p := ⟨w.heap.size, 6, none⟩) (by first | omega | (simp; done) | (simp; omega))] <;> first | assumption | (simp; done) | (simp [go_sem, *]; done))
  have c1_0_7 : w1.cell? ⟨w.heap.size, 7, none⟩ = some (.int .i64 s2) := (by rw [hb1.cell (p := ⟨w.heap.size, 7, none⟩) (by first | omega | (simp; done) | (simp; omega))] <;> first | assumption | (simp; done) | (simp [go_sem, *]; done))
  have c1_0_8 : w1.cell? ⟨w.heap.size, 8, none⟩ = some (.int .i64 s3) := (by rw [hb1.cell (p := ⟨w.heap.size, 8, none⟩) (by first | omega | (simp; done) | (simp; omega))] <;> first | assumption | (simp; done) | (simp [go_sem, *]; done))
  have c1_0_9 : w1.cell? ⟨w.heap.size, 9, none⟩ = some (.int .i64 t1) := (by rw [hb1.cell (p := ⟨w.heap.size, 9, none⟩) (by first | omega | (simp; done) | (simp; omega))] <;> first | assumption | (simp; done) | (simp [go_sem, *]; done))
  have c1_0_10 : w1.cell? ⟨w.heap.size, 10, none⟩ = some (.int .i64 t2) := (by rw [hb1.cell (p := ⟨w.heap.size, 10, none⟩) (by first | omega | (simp; done) | (simp; omega))] <;> first | assumption | (simp; done) | (simp [go_sem, *]; done))
  have c1_0_11 : w1.cell? ⟨w.heap.size, 11, none⟩ = some (.int .i64 t3) := (by rw [hb1.cell (p := ⟨w.heap.size, 11, none⟩) (by first | omega | (simp; done) | (simp; omega))] <;> first | assumption | (simp; done) | (simp [go_sem, *]; done))
  have l1_0 : w.heap.size < w1.heap.size := (by omega)
  have n1_0 : w.heap.size ≠ w1.heap.size := (by omega)
  have z1 : w.heap.size ≤ w1.heap.size := (by omega)
  have HB1 := Lib.hid (show Below w.heap.size w w1 by (repeat' (first | exact Below.refl _ _ | (refine Below.setCell ?_ (by (first | omega | (simp; done) | (simp; omega))) _) | (refine Below.alloc ?_ (by (first | omega | (simp; done) | (simp; omega))) _) | (refine Below.drew ?_) | (refine below_drewN ?_ _) | (refine Below.trans ?_ (Below.mono hb1 (by (first | omega | (simp; done) | (simp; omega))))))))
  clear hb1 hs1
  go_wp2_with fail
  go_at_call 27
  refine (r_far_c H1.out _).mono ?_
  rintro e w2 ⟨rfl, hb2⟩
  have HBo := HB1.out
  have hs2 := hb2.size
  try simp at hs2
  have c2_0_0 : w2.cell? ⟨w.heap.size, 0, none⟩ = some (.int .i64 a1) := (by rw [hb2.cell (p := ⟨w.heap.size, 0, none⟩) (by first | omega | (simp; done) | (simp; omega))] <;> first | assumption | (simp; done) | (simp [go_sem, *]; done))
  have c2_0_1 : w2.cell? ⟨w.heap.size, 1, none⟩ = some (.int .i64 a2) := (by rw [hb2.cell (p := ⟨w.heap.size, 1, none⟩) (by first | omega | (simp; done) | (simp; omega))] <;> first | assumption | (simp; done) | (simp [go_sem, *]; done))
  have c2_0_2 : w2.cell? ⟨w.heap.size, 2, none⟩ = some (.int .i64 a3) := (by rw [hb2.cell (p := ⟨w.heap.size, 2, none⟩) (by first | omega | (simp; done) | (simp; omega))] <;> first | assumption | (simp; done) | (simp [go_sem, *]; done))
  have c2_0_3 : w2.cell? ⟨w.heap.size, 3, none⟩ = some (.int .i64 b1) := (by rw [hb2.cell (p := ⟨w.heap.size, 3, none⟩) (by first | omega | (simp; done) | (simp; omega))] <;> first | assumption | (simp; done) | (simp [go_sem, *]; done))
  have c2_0_4 : w2.cell? ⟨w.heap.size, 4, none⟩ = some (.int .i64 b2) := (by rw [hb2.cell (p := ⟨w.heap.size, 4, none⟩) (by first | omega | (simp; done) | (simp; omega))] <;> first | assumption | (simp; done) | (simp [go_sem, *]; done))
  have c2_0_5 : w2.cell? ⟨w.heap.size, 5, none⟩ = some (.int .i64 b3) := (by rw [hb2.cell (p := ⟨w.heap.size, 5, none⟩) (by first | omega | (simp; done) | (simp; omega))] <;> first | assumption | (simp; done) | (simp [go_sem, *]; done))
  have c2_0_6 : w2.cell? ⟨w.heap.size, 6, none⟩ = some (.int .i64 s1) := (by rw [hb2.cell (p := ⟨w.heap.size, 6, none⟩) (by first | omega | (simp; done) | (simp; omega))] <;> first | assumption | (simp; done) | (simp [go_sem, *]; done))
  have c2_0_7 : w2.cell? ⟨w.heap.size, 7, none⟩ = some (.int .i64 s2) := (by rw [hb2.cell (p := ⟨w.heap.size, 7, none⟩) (by first | omega | (simp; done) | (simp; omega))] <;> first | assumption | (simp; done) | (simp [go_sem, *]; done))
  have c2_0_8 : w2.cell? ⟨w.heap.size, 8, none⟩ = some (.int .i64 s3) := (by rw [hb2.cell (p := ⟨w.heap.size, 8, none⟩) (by first | omega | (simp; done) | (simp; omega))] <;> first | assumption | (simp; done) | (simp [go_sem, *]; done))
  have c2_0_9 : w2.cell? ⟨w.heap.size, 9, none⟩ = some (.int .i64 t1) := (by rw [hb2.cell (p := ⟨w.heap.size, 9, none⟩) (by first | omega | (simp; done) | (simp; omega))] <;> first | assumption | (simp; done) | (simp [go_sem, *]; done))
  have c2_0_10 : w2.cell? ⟨w.heap.size, 10, none⟩ = some (.int .i64 t2) := (by rw [hb2.cell (p := ⟨w.heap.size, 10, none⟩) (by first | omega | (simp; done) | (simp; omega))] <;> first | assumption | (simp; done) | (simp [go_sem, *]; done))
  have c2_0_11 : w2.cell? ⟨w.heap.size, 11, none⟩ = some (.int .i64 t3) := (by rw [hb2.cell (p := ⟨w.heap.size, 11, none⟩) (by first | omega | (simp; done) | (simp; omega))] <;> first | assumption | (simp; done) | (simp [go_sem, *]; done))
  have l2_0 : w.heap.size < w2.heap.size := (by omega)
  have n2_0 : w.heap.size ≠ w2.heap.size := (by omega)
  have z2 : w.heap.size ≤ w2.heap.size := (by omega)
  have HB2 := Lib.hid (show Below w.heap.size w w2 by (repeat' (first | exact Below.refl _ _ | (refine Below.setCell ?_ (by (first | omega | (simp; done) | (simp; omega))) _) | (refine Below.alloc ?_ (by (first | omega | (simp; done) | (simp; omega))) _) | (refine Below.drew ?_) | (refine below_drewN ?_ _) | (refine Below.trans ?_ (Below.mono HBo (by (first | omega | (simp; done) | (simp; omega))))) | (refine Below.trans ?_ (Below.mono hb2 (by (first | omega | (simp; done) | (simp; omega))))))))
  clear HBo hb2 hs2 c1_0_0 c1_0_1 c1_0_2 c1_0_3 c1_0_4 c1_0_5 c1_0_6 c1_0_7 c1_0_8 c1_0_9 c1_0_10 c1_0_11 l1_0 n1_0 z1 HB1
  go_wp2_with fail
  have HBo := HB2.out
  have hS0 : HeldP.CellsB w (w2) ([(w.heap.size, 0, .int .i64 a1), (w.heap.size, 1, .int .i64 a2), (w.heap.size, 2, .int .i64 a3), (w.heap.size, 3, .int .i64 b1), (w.heap.size, 4, .int .i64 b2), (w.heap.size, 5, .int .i64 b3), (w.heap.size, 6, .int .i64 s1), (w.heap.size, 7, .int .i64 s2), (w.heap.size, 8, .int .i64 s3), (w.heap.size, 9, .int .i64 t1), (w.heap.size, 10, .int .i64 t2), (w.heap.size, 11, .int .i64 t3)] : List (Nat × Nat × Value)) := by
    refine HeldP.CellsB.one (by first | assumption | (simp; done) | (simp [go_sem, *]; done)) (by first | omega | (simp; done) | (simp; omega)) ?_
    refine HeldP.CellsB.one (by first | assumption | (simp; done) | (simp [go_sem, *]; done)) (by first | omega | (simp; done) | (simp; omega)) ?_
    refine HeldP.CellsB.one (by first | assumption | (simp; done) | (simp [go_sem, *]; done)) (by first | omega | (simp; done) | (simp; omega)) ?_
    refine HeldP.CellsB.one (by first | assumption | (simp; done) | (simp [go_sem, *]; done)) (by first | omega | (simp; done) | (simp; omega)) ?_
    refine HeldP.CellsB.one (by first | assumption | (simp; done) | (simp [go_sem, *]; done)) (by first | omega | (simp; done) | (simp; omega)) ?_
    refine HeldP.CellsB.one (by first | assumption | (simp; done) | (simp [go_sem, *]; done)) (by first | omega | (simp; done) | (simp; omega)) ?_
    refine HeldP.CellsB.one (by first | assumption | (simp; done) | (simp [go_sem, *]; done)) (by first | omega | (simp; done) | (simp; omega)) ?_
    refine HeldP.CellsB.one (by first | assumption | (simp; done) | (simp [go_sem, *]; done)) (by first | omega | (simp; done) | (simp; omega)) ?_
    refine HeldP.CellsB.one (by first | assumption | (simp; done) | (simp [go_sem, *]; done)) (by first | omega | (simp; done) | (simp; omega)) ?_
    refine HeldP.CellsB.one (by first | assumption | (simp; done) | (simp [go_sem, *]; done)) (by first | omega | (simp; done) | (simp; omega)) ?_
    refine HeldP.CellsB.one (by first | assumption | (simp; done) | (simp [go_sem, *]; done)) (by first | omega | (simp; done) | (simp; omega)) ?_
    refine HeldP.CellsB.one (by first | assumption | (simp; done) | (simp [go_sem, *]; done)) (by first | omega | (simp; done) | (simp; omega)) ?_
    exact HeldP.CellsB.nil (by first | omega | (simp; done) | (simp; omega)) (by (repeat' (first | exact Below.refl _ _ | (refine Below.setCell ?_ (by (first | omega | (simp; done) | (simp; omega))) _) | (refine Below.alloc ?_ (by (first | omega | (simp; done) | (simp; omega))) _) | (refine Below.drew ?_) | (refine below_drewN ?_ _) | (refine Below.trans ?_ (Below.mono HBo (by (first | omega | (simp; done) | (simp; omega))))))))
  clear HBo
  go_region_held3 (fun w' => (w'.cell? ⟨w.heap.size, 0, none⟩ = some (.int .i64 a1) ∧ w.heap.size < w'.heap.size) ∧ (w'.cell? ⟨w.heap.size, 1, none⟩ = some (.int .i64 a2) ∧ w.heap.size < w'.heap.size) ∧ (w'.cell? ⟨w.heap.size, 2, none⟩ = some (.int .i64 a3) ∧ w.heap.size < w'.heap.size) ∧ (w'.cell? ⟨w.heap.size, 3, none⟩ = some (.int .i64 b1) ∧ w.heap.size < w'.heap.size) ∧ (w'.cell? ⟨w.heap.size, 4, none⟩ = some (.int .i64 b2) ∧ w.heap.size < w'.heap.size) ∧ (w'.cell? ⟨w.heap.size, 5, none⟩ = some (.int .i64 b3) ∧ w.heap.size < w'.heap.size) ∧ (w'.cell? ⟨w.heap.size, 6, none⟩ = some (.int .i64 s1) ∧ w.heap.size < w'.heap.size) ∧ (w'.cell? ⟨w.heap.size, 7, none⟩ = some (.int .i64 s2) ∧ w.heap.size < w'.heap.size) ∧ (w'.cell? ⟨w.heap.size, 8, none⟩ = some (.int .i64 s3) ∧ w.heap.size < w'.heap.size) ∧ (w'.cell? ⟨w.heap.size, 9, none⟩ = some (.int .i64 t1) ∧ w.heap.size < w'.heap.size) ∧ (w'.cell? ⟨w.heap.size, 10, none⟩ = some (.int .i64 t2) ∧ w.heap.size < w'.heap.size) ∧ (w'.cell? ⟨w.heap.size, 11, none⟩ = some (.int .i64 t3) ∧ w.heap.size < w'.heap.size) ∧ w.heap.size ≤ w'.heap.size ∧ Below w.heap.size w w')
    (first | assumption | (exact hS0.drew) | (exact HeldP.CellsB.keep (l := [(w.heap.size, 0, .int .i64 a1), (w.heap.size, 1, .int .i64 a2), (w.heap.size, 2, .int .i64 a3), (w.heap.size, 3, .int .i64 b1), (w.heap.size, 4, .int .i64 b2), (w.heap.size, 5, .int .i64 b3), (w.heap.size, 6, .int .i64 s1), (w.heap.size, 7, .int .i64 s2), (w.heap.size, 8, .int .i64 s3), (w.heap.size, 9, .int .i64 t1), (w.heap.size, 10, .int .i64 t2), (w.heap.size, 11, .int .i64 t3)]) (by assumption) (by assumption)) | (exact HeldP.CellsB.drew (l := [(w.heap.size, 0, .int .i64 a1), (w.heap.size, 1, .int .i64 a2), (w.heap.size, 2, .int .i64 a3), (w.heap.size, 3, .int .i64 b1), (w.heap.size, 4, .int .i64 b2), (w.heap.size, 5, .int .i64 b3), (w.heap.size, 6, .int .i64 s1), (w.heap.size, 7, .int .i64 s2), (w.heap.size, 8, .int .i64 s3), (w.heap.size, 9, .int .i64 t1), (w.heap.size, 10, .int .i64 t2), (w.heap.size, 11, .int .i64 t3)]) (by assumption)))
    (first | (go_at_call 28; (with_reducible refine (cmp_c H2.out _).mono ?_); rintro e w' ⟨rfl, hb⟩) | (go_at_call 29; (with_reducible refine (r_cmp_c H2.out _).mono ?_); rintro e w' ⟨rfl, hb⟩) | (go_at_call 30; (with_reducible refine (cmpSpot_c H3.out _).mono ?_); rintro e w' ⟨rfl, hb⟩) | (go_at_call 31; (with_reducible refine (r_cmpSpot_c H3.out _).mono ?_); rintro e w' ⟨rfl, hb⟩) | (go_at_call 23; (with_reducible refine (works_c _).mono ?_); rintro e w' ⟨rfl, hb⟩))
  go_wp2
  go_ret
  refine ⟨rfl, ?_⟩
  exact HeldP.CellsB.below (l := [(w.heap.size, 0, .int .i64 a1), (w.heap.size, 1, .int .i64 a2), (w.heap.size, 2, .int .i64 a3), (w.heap.size, 3, .int .i64 b1), (w.heap.size, 4, .int .i64 b2), (w.heap.size, 5, .int .i64 b3), (w.heap.size, 6, .int .i64 s1), (w.heap.size, 7, .int .i64 s2), (w.heap.size, 8, .int .i64 s3), (w.heap.size, 9, .int .i64 t1), (w.heap.size, 10, .int .i64 t2), (w.heap.size, 11, .int .i64 t3)]) (by assumption)
end PlaceW
end Go.Proofs.Ytokkomglbddgcaa
