/-
  The laws of place, fifth part: PlaceOrder.
-/
import Derived.Test.YtokkomglbddgcaaPlaceLaws1
import Derived.Test.YtokkomglbddgcaaHeldP
import Derived.Deep.RegionHeld3
namespace Go.Proofs.Ytokkomglbddgcaa
open Go.RowKit
set_option linter.unusedSimpArgs false
set_option linter.unusedVariables false
namespace PlaceW
open BitsP


theorem cmpI_neg (a b : Int) : cmpI b a = -cmpI a b := by
  unfold cmpI
  repeat' split
  all_goals omega
theorem cmpI_cases (a b : Int) : (cmpI a b = -1 ∧ a < b) ∨ (cmpI a b = 0 ∧ a = b) ∨ (cmpI a b = 1 ∧ b < a) := by
  unfold cmpI
  repeat' split
  all_goals omega
theorem cmpOf_neg (x y z u v t : Int) : cmpOf u v t x y z = -cmpOf x y z u v t := by
  rw [cmpOf_eq, cmpOf_eq]
  have hx := cmpI_neg x u
  have hy := cmpI_neg y v
  have hz := cmpI_neg z t
  by_cases h1 : x = u
  · rw [if_pos h1, if_pos h1.symm]
    by_cases h2 : z = t
    · rw [if_pos h2, if_pos h2.symm, hy]
    · rw [if_neg h2, if_neg (fun h => h2 h.symm), hz]
  · rw [if_neg h1, if_neg (fun h => h1 h.symm), hx]
/-- What the order of two places tells of their numbers. -/
theorem cmpOf_cases (x y z u v t : Int) :
    (cmpOf x y z u v t = -1 ∧ (x < u ∨ x = u ∧ (z < t ∨ z = t ∧ y < v))) ∨ (cmpOf x y z u v t = 0 ∧ x = u ∧ y = v ∧ z = t) ∨ (cmpOf x y z u v t = 1 ∧ (u < x ∨ x = u ∧ (t < z ∨ z = t ∧ v < y))) := by
  rw [cmpOf_eq]
  have hx := cmpI_cases x u
  have hy := cmpI_cases y v
  have hz := cmpI_cases z t
  by_cases h1 : x = u
  · rw [if_pos h1]
    by_cases h2 : z = t
    · rw [if_pos h2]
      omega
    · rw [if_neg h2]
      omega
  · rw [if_neg h1]
    omega

theorem order_tr (a1 a2 a3 b1 b2 b3 c1 c2 c3 : Int) (h : cmpOf a1 a2 a3 b1 b2 b3 = -1) (h' : cmpOf b1 b2 b3 c1 c2 c3 = -1) : cmpOf a1 a2 a3 c1 c2 c3 = -1 := by
  have := cmpOf_cases a1 a2 a3 b1 b2 b3
  have := cmpOf_cases b1 b2 b3 c1 c2 c3
  have := cmpOf_cases a1 a2 a3 c1 c2 c3
  omega

theorem cmp_same_ne {x y z u v t n : Int} (h1 : x = u) (h2 : y = v) (h3 : z = t) (hn : n ≠ 0) : cmpOf x y z u v t ≠ n := by
  subst h1 h2 h3
  have := cmpOf_cases x y z x y z
  omega

set_option maxRecDepth 100000 in
set_option maxHeartbeats 2000000 in
theorem law_order_eq {b1 b2 b3 c1 c2 c3 y : Int} (h1 : cmpOf b1 b2 b3 b1 b2 b3 = 0) (h2 : cmpOf b1 b2 b3 c1 c2 c3 = y) (h3 : cmpOf b1 b2 b3 c1 c2 c3 = y) (h4 : cmpOf b1 b2 b3 b1 b2 b3 = 0) (w : World) :
    Calls Try.prog 9 #[.agg #[.int .i64 b1, .int .i64 b2, .int .i64 b3], .agg #[.int .i64 b1, .int .i64 b2, .int .i64 b3], .agg #[.int .i64 c1, .int .i64 c2, .int .i64 c3]] w fun e w' => e = .returned (.bool true) ∧ Below w.heap.size w w' := by
  have H1 := Lib.hid h1
  have H2 := Lib.hid h2
  have H3 := Lib.hid h3
  have H4 := Lib.hid h4
  clear h1 h2 h3 h4
  go_enter Try.func9, Try.ntmps9
  go_wp2_with fail
  skip
  have hS0 : HeldP.CellsB w (((w.alloc (.cells #[.int .i64 b1, .int .i64 b2, .int .i64 b3] 23)).alloc (.cells #[.int .i64 b1, .int .i64 b2, .int .i64 b3] 23)).alloc (.cells #[.int .i64 c1, .int .i64 c2, .int .i64 c3] 23)) ([(w.heap.size, 0, .int .i64 b1), (w.heap.size, 1, .int .i64 b2), (w.heap.size, 2, .int .i64 b3), (w.heap.size + 1, 0, .int .i64 b1), (w.heap.size + 1, 1, .int .i64 b2), (w.heap.size + 1, 2, .int .i64 b3), (w.heap.size + 2, 0, .int .i64 c1), (w.heap.size + 2, 1, .int .i64 c2), (w.heap.size + 2, 2, .int .i64 c3)] : List (Nat × Nat × Value)) := by
    refine HeldP.CellsB.one (by first | assumption | (simp; done) | (simp [go_sem, *]; done)) (by first | omega | (simp; done) | (simp; omega)) ?_
    refine HeldP.CellsB.one (by first | assumption | (simp; done) | (simp [go_sem, *]; done)) (by first | omega | (simp; done) | (simp; omega)) ?_
    refine HeldP.CellsB.one (by first | assumption | (simp; done) | (simp [go_sem, *]; done)) (by first | omega | (simp; done) | (simp; omega)) ?_
    refine HeldP.CellsB.one (by first | assumption | (simp; done) | (simp [go_sem, *]; done)) (by first | omega | (simp; done) | (simp; omega)) ?_
    refine HeldP.CellsB.one (by first | assumption | (simp; done) | (simp [go_sem, *]; done)) (by first | omega | (simp; done) | (simp; omega)) ?_
    refine HeldP.CellsB.one (by first | assumption | (simp; done) | (simp [go_sem, *]; done)) (by first | omega | (simp; done) | (simp; omega)) ?_
    refine HeldP.CellsB.one (by first | assumption | (simp; done) | (simp [go_sem, *]; done)) (by first | omega | (simp; done) | (simp; omega)) ?_
    refine HeldP.CellsB.one (by first | assumption | (simp; done) | (simp [go_sem, *]; done)) (by first | omega | (simp; done) | (simp; omega)) ?_
    refine HeldP.CellsB.one (by first | assumption | (simp; done) | (simp [go_sem, *]; done)) (by first | omega | (simp; done) | (simp; omega)) ?_
    exact HeldP.CellsB.nil (by first | omega | (simp; done) | (simp; omega)) (by (repeat' (first | exact Below.refl _ _ | (refine Below.setCell ?_ (by (first | omega | (simp; done) | (simp; omega))) _) | (refine Below.alloc ?_ (by (first | omega | (simp; done) | (simp; omega))) _) | (refine Below.drew ?_) | (refine below_drewN ?_ _))))
  go_region_held3 (fun w' => (w'.cell? ⟨w.heap.size, 0, none⟩ = some (.int .i64 b1) ∧ w.heap.size < w'.heap.size) ∧ (w'.cell? ⟨w.heap.size, 1, none⟩ = some (.int .i64 b2) ∧ w.heap.size < w'.heap.size) ∧ (w'.cell? ⟨w.heap.size, 2, none⟩ = some (.int .i64 b3) ∧ w.heap.size < w'.heap.size) ∧ (w'.cell? ⟨w.heap.size + 1, 0, none⟩ = some (.int .i64 b1) ∧ w.heap.size + 1 < w'.heap.size) ∧ (w'.cell? ⟨w.heap.size + 1, 1, none⟩ = some (.int .i64 b2) ∧ w.heap.size + 1 < w'.heap.size) ∧ (w'.cell? ⟨w.heap.size + 1, 2, none⟩ = some (.int .i64 b3) ∧ w.heap.size + 1 < w'.heap.size) ∧ (w'.cell? ⟨w.heap.size + 2, 0, none⟩ = some (.int .i64 c1) ∧ w.heap.size + 2 < w'.heap.size) ∧ (w'.cell? ⟨w.heap.size + 2, 1, none⟩ = some (.int .i64 c2) ∧ w.heap.size + 2 < w'.heap.size) ∧ (w'.cell? ⟨w.heap.size + 2, 2, none⟩ = some (.int .i64 c3) ∧ w.heap.size + 2 < w'.heap.size) ∧ w.heap.size ≤ w'.heap.size ∧ Below w.heap.size w w')
    (first | assumption | (exact hS0.drew) | (exact HeldP.CellsB.keep (l := [(w.heap.size, 0, .int .i64 b1), (w.heap.size, 1, .int .i64 b2), (w.heap.size, 2, .int .i64 b3), (w.heap.size + 1, 0, .int .i64 b1), (w.heap.size + 1, 1, .int .i64 b2), (w.heap.size + 1, 2, .int .i64 b3), (w.heap.size + 2, 0, .int .i64 c1), (w.heap.size + 2, 1, .int .i64 c2), (w.heap.size + 2, 2, .int .i64 c3)]) (by assumption) (by assumption)) | (exact HeldP.CellsB.drew (l := [(w.heap.size, 0, .int .i64 b1), (w.heap.size, 1, .int .i64 b2), (w.heap.size, 2, .int .i64 b3), (w.heap.size + 1, 0, .int .i64 b1), (w.heap.size + 1, 1, .int .i64 b2), (w.heap.size + 1, 2, .int .i64 b3), (w.heap.size + 2, 0, .int .i64 c1), (w.heap.size + 2, 1, .int .i64 c2), (w.heap.size + 2, 2, .int .i64 c3)]) (by assumption)))
    (first | (go_at_call 28; (with_reducible refine (cmp_c H1.out _).mono ?_); rintro e w' ⟨rfl, hb⟩) | (go_at_call 28; (with_reducible refine (cmp_c H2.out _).mono ?_); rintro e w' ⟨rfl, hb⟩) | (go_at_call 28; (with_reducible refine (cmp_c H3.out _).mono ?_); rintro e w' ⟨rfl, hb⟩))
  go_wp2_with fail
  go_at_call 28
  refine (cmp_c H4.out _).mono ?_
  rintro e w1 ⟨rfl, hb1⟩
  have hS1 : HeldP.CellsB w w1 [(w.heap.size, 0, .int .i64 b1), (w.heap.size, 1, .int .i64 b2), (w.heap.size, 2, .int .i64 b3), (w.heap.size + 1, 0, .int .i64 b1), (w.heap.size + 1, 1, .int .i64 b2), (w.heap.size + 1, 2, .int .i64 b3), (w.heap.size + 2, 0, .int .i64 c1), (w.heap.size + 2, 1, .int .i64 c2), (w.heap.size + 2, 2, .int .i64 c3)] := HeldP.CellsB.keep hb1 (by assumption)
  simp only [HeldP.CellsB] at hS1
  obtain ⟨⟨c1_0_0, l1_0⟩, ⟨c1_0_1, l1_0x1⟩, ⟨c1_0_2, l1_0x2⟩, ⟨c1_1_0, l1_1⟩, ⟨c1_1_1, l1_1x1⟩, ⟨c1_1_2, l1_1x2⟩, ⟨c1_2_0, l1_2⟩, ⟨c1_2_1, l1_2x1⟩, ⟨c1_2_2, l1_2x2⟩, z1, HBn⟩ := hS1
  clear hb1
  have n1_0 : w.heap.size ≠ w1.heap.size := (by omega)
  have n1_1 : w.heap.size + 1 ≠ w1.heap.size := (by omega)
  have n1_2 : w.heap.size + 2 ≠ w1.heap.size := (by omega)
  have HB1 := Lib.hid HBn
  clear HBn
  go_wp2_with fail
  go_at_call 23
  refine (works_c _).mono ?_
  rintro e w2 ⟨rfl, hb2⟩
  have HBo := HB1.out
  have hs2 := hb2.size
  try simp at hs2
  have c2_0_0 : w2.cell? ⟨w.heap.size, 0, none⟩ = some (.int .i64 b1) := (by rw [hb2.cell (p := ⟨w.heap.size, 0, none⟩) (by first | omega | (simp; done) | (simp; omega))] <;> first | assumption | (simp; done) | (simp [go_sem, *]; done))
  have c2_0_1 : w2.cell? ⟨w.heap.size, 1, none⟩ = some (.int .i64 b2) := (by rw [hb2.cell (p := ⟨w.heap.size, 1, none⟩) (by first | omega | (simp; done) | (simp; omega))] <;> first | assumption | (simp; done) | (simp [go_sem, *]; done))
  have c2_0_2 : w2.cell? ⟨w.heap.size, 2, none⟩ = some (.int .i64 b3) := (by rw [hb2.cell (p := ⟨w.heap.size, 2, none⟩) (by first | omega | (simp; done) | (simp; omega))] <;> first | assumption | (simp; done) | (simp [go_sem, *]; done))
  have c2_1_0 : w2.cell? ⟨w.heap.size + 1, 0, none⟩ = some (.int .i64 b1) := (by rw [hb2.cell (p := ⟨w.heap.size + 1, 0, none⟩) (by first | omega | (simp; done) | (simp; omega))] <;> first | assumption | (simp; done) | (simp [go_sem, *]; done))
  have c2_1_1 : w2.cell? ⟨w.heap.size + 1, 1, none⟩ = some (.int .i64 b2) := (by rw [hb2.cell (p := ⟨w.heap.size + 1, 1, none⟩) (by first | omega | (simp; done) | (simp; omega))] <;> first | assumption | (simp; done) | (simp [go_sem, *]; done))
  have c2_1_2 : w2.cell? ⟨w.heap.size + 1, 2, none⟩ = some (.int .i64 b3) := (by rw [hb2.cell (p := ⟨w.heap.size + 1, 2, none⟩) (by first | omega | (simp; done) | (simp; omega))] <;> first | assumption | (simp; done) | (simp [go_sem, *]; done))
  have c2_2_0 : w2.cell? ⟨w.heap.size + 2, 0, none⟩ = some (.int .i64 c1) := (by rw [hb2.cell (p := ⟨w.heap.size + 2, 0, none⟩) (by first | omega | (simp; done) | (simp; omega))] <;> first | assumption | (simp; done) | (simp [go_sem, *]; done))
  have c2_2_1 : w2.cell? ⟨w.heap.size + 2, 1, none⟩ = some (.int .i64 c2) := (by rw [hb2.cell (p := ⟨w.heap.size + 2, 1, none⟩) (by first | omega | (simp; done) | (simp; omega))] <;> first | assumption | (simp; done) | (simp [go_sem, *]; done))
  have c2_2_2 : w2.cell? ⟨w.heap.size + 2, 2, none⟩ = some (.int .i64 c3) := (by rw [hb2.cell (p := ⟨w.heap.size + 2, 2, none⟩) (by first | omega | (simp; done) | (simp; omega))] <;> first | assumption | (simp; done) | (simp [go_sem, *]; done))
  have l2_0 : w.heap.size < w2.heap.size := (by omega)
  have n2_0 : w.heap.size ≠ w2.heap.size := (by omega)
  have l2_1 : w.heap.size + 1 < w2.heap.size := (by omega)
  have n2_1 : w.heap.size + 1 ≠ w2.heap.size := (by omega)
  have l2_2 : w.heap.size + 2 < w2.heap.size := (by omega)
  have n2_2 : w.heap.size + 2 ≠ w2.heap.size := (by omega)
  have z2 : w.heap.size ≤ w2.heap.size := (by omega)
  have HB2 := Lib.hid (show Below w.heap.size w w2 by (repeat' (first | exact Below.refl _ _ | (refine Below.setCell ?_ (by (first | omega | (simp; done) | (simp; omega))) _) | (refine Below.alloc ?_ (by (first | omega | (simp; done) | (simp; omega))) _) | (refine Below.drew ?_) | (refine below_drewN ?_ _) | (refine Below.trans ?_ (Below.mono HBo (by (first | omega | (simp; done) | (simp; omega))))) | (refine Below.trans ?_ (Below.mono hb2 (by (first | omega | (simp; done) | (simp; omega))))))))
  clear HBo hb2 hs2 c1_0_0 l1_0 c1_0_1 l1_0x1 c1_0_2 l1_0x2 c1_1_0 l1_1 c1_1_1 l1_1x1 c1_1_2 l1_1x2 c1_2_0 l1_2 c1_2_1 l1_2x1 c1_2_2 l1_2x2 n1_0 n1_1 n1_2 z1 HB1
  go_wp2_with fail
  go_ret
  have HBo := HB2.out
  refine ⟨rfl, ?_⟩
  (repeat' (first | exact Below.refl _ _ | (refine Below.setCell ?_ (by (first | omega | (simp; done) | (simp; omega))) _) | (refine Below.alloc ?_ (by (first | omega | (simp; done) | (simp; omega))) _) | (refine Below.drew ?_) | (refine below_drewN ?_ _) | (refine Below.trans ?_ (Below.mono HBo (by (first | omega | (simp; done) | (simp; omega)))))))

set_option maxRecDepth 100000 in
set_option maxHeartbeats 2000000 in
theorem law_order_gt {a1 a2 a3 b1 b2 b3 c1 c2 c3 y : Int} (h1 : cmpOf a1 a2 a3 b1 b2 b3 = 1) (h2 : cmpOf b1 b2 b3 c1 c2 c3 = y) {z : Int} (h3 : cmpOf a1 a2 a3 c1 c2 c3 = z) (h4 : cmpOf b1 b2 b3 a1 a2 a3 = -1) (w : World) :
    Calls Try.prog 9 #[.agg #[.int .i64 a1, .int .i64 a2, .int .i64 a3], .agg #[.int .i64 b1, .int .i64 b2, .int .i64 b3], .agg #[.int .i64 c1, .int .i64 c2, .int .i64 c3]] w fun e w' => e = .returned (.bool true) ∧ Below w.heap.size w w' := by
  have H1 := Lib.hid h1
  have H2 := Lib.hid h2
  have H3 := Lib.hid h3
  have H4 := Lib.hid h4
  clear h1 h2 h3 h4
  go_enter Try.func9, Try.ntmps9
  go_wp2_with fail
  skip
  have hS0 : HeldP.CellsB w (((w.alloc (.cells #[.int .i64 a1, .int .i64 a2, .int .i64 a3] 23)).alloc (.cells #[.int .i64 b1, .int .i64 b2, .int .i64 b3] 23)).alloc (.cells #[.int .i64 c1, .int .i64 c2, .int .i64 c3] 23)) ([(w.heap.size, 0, .int .i64 a1), (w.heap.size, 1, .int .i64 a2), (w.heap.size, 2, .int .i64 a3), (w.heap.size + 1, 0, .int .i64 b1), (w.heap.size + 1, 1, .int .i64 b2), (w.heap.size + 1, 2, .int .i64 b3), (w.heap.size + 2, 0, .int .i64 c1), (w.heap.size + 2, 1, .int .i64 c2), (w.heap.size + 2, 2, .int .i64 c3)] : List (Nat × Nat × Value)) := by
    refine HeldP.CellsB.one (by first | assumption | (simp; done) | (simp [go_sem, *]; done)) (by first | omega | (simp; done) | (simp; omega)) ?_
    refine HeldP.CellsB.one (by first | assumption | (simp; done) | (simp [go_sem, *]; done)) (by first | omega | (simp; done) | (simp; omega)) ?_
    refine HeldP.CellsB.one (by first | assumption | (simp; done) | (simp [go_sem, *]; done)) (by first | omega | (simp; done) | (simp; omega)) ?_
    refine HeldP.CellsB.one (by first | assumption | (simp; done) | (simp [go_sem, *]; done)) (by first | omega | (simp; done) | (simp; omega)) ?_
    refine HeldP.CellsB.one (by first | assumption | (simp; done) | (simp [go_sem, *]; done)) (by first | omega | (simp; done) | (simp; omega)) ?_
    refine HeldP.CellsB.one (by first | assumption | (simp; done) | (simp [go_sem, *]; done)) (by first | omega | (simp; done) | (simp; omega)) ?_
    refine HeldP.CellsB.one (by first | assumption | (simp; done) | (simp [go_sem, *]; done)) (by first | omega | (simp; done) | (simp; omega)) ?_
    refine HeldP.CellsB.one (by first | assumption | (simp; done) | (simp [go_sem, *]; done)) (by first | omega | (simp; done) | (simp; omega)) ?_
    refine HeldP.CellsB.one (by first | assumption | (simp; done) | (simp [go_sem, *]; done)) (by first | omega | (simp; done) | (simp; omega)) ?_
    exact HeldP.CellsB.nil (by first | omega | (simp; done) | (simp; omega)) (by (repeat' (first | exact Below.refl _ _ | (refine Below.setCell ?_ (by (first | omega | (simp; done) | (simp; omega))) _) | (refine Below.alloc ?_ (by (first | omega | (simp; done) | (simp; omega))) _) | (refine Below.drew ?_) | (refine below_drewN ?_ _))))
  go_region_held3 (fun w' => (w'.cell? ⟨w.heap.size, 0, none⟩ = some (.int .i64 a1) ∧ w.heap.size < w'.heap.size) ∧ (w'.cell? ⟨w.heap.size, 1, none⟩ = some (.int .i64 a2) ∧ w.heap.size < w'.heap.size) ∧ (w'.cell? ⟨w.heap.size, 2, none⟩ = some (.int .i64 a3) ∧ w.heap.size < w'.heap.size) ∧ (w'.cell? ⟨w.heap.size + 1, 0, none⟩ = some (.int .i64 b1) ∧ w.heap.size + 1 < w'.heap.size) ∧ (w'.cell? ⟨w.heap.size + 1, 1, none⟩ = some (.int .i64 b2) ∧ w.heap.size + 1 < w'.heap.size) ∧ (w'.cell? ⟨w.heap.size + 1, 2, none⟩ = some (.int .i64 b3) ∧ w.heap.size + 1 < w'.heap.size) ∧ (w'.cell? ⟨w.heap.size + 2, 0, none⟩ = some (.int .i64 c1) ∧ w.heap.size + 2 < w'.heap.size) ∧ (w'.cell? ⟨w.heap.size + 2, 1, none⟩ = some (.int .i64 c2) ∧ w.heap.size + 2 < w'.heap.size) ∧ (w'.cell? ⟨w.heap.size + 2, 2, none⟩ = some (.int .i64 c3) ∧ w.heap.size + 2 < w'.heap.size) ∧ w.heap.size ≤ w'.heap.size ∧ Below w.heap.size w w')
    (first | assumption | (exact hS0.drew) | (exact HeldP.CellsB.keep (l := [(w.heap.size, 0, .int .i64 a1), (w.heap.size, 1, .int .i64 a2), (w.heap.size, 2, .int .i64 a3), (w.heap.size + 1, 0, .int .i64 b1), (w.heap.size + 1, 1, .int .i64 b2), (w.heap.size + 1, 2, .int .i64 b3), (w.heap.size + 2, 0, .int .i64 c1), (w.heap.size + 2, 1, .int .i64 c2), (w.heap.size + 2, 2, .int .i64 c3)]) (by assumption) (by assumption)) | (exact HeldP.CellsB.drew (l := [(w.heap.size, 0, .int .i64 a1), (w.heap.size, 1, .int .i64 a2), (w.heap.size, 2, .int .i64 a3), (w.heap.size + 1, 0, .int .i64 b1), (w.heap.size + 1, 1, .int .i64 b2), (w.heap.size + 1, 2, .int .i64 b3), (w.heap.size + 2, 0, .int .i64 c1), (w.heap.size + 2, 1, .int .i64 c2), (w.heap.size + 2, 2, .int .i64 c3)]) (by assumption)))
    (first | (go_at_call 28; (with_reducible refine (cmp_c H1.out _).mono ?_); rintro e w' ⟨rfl, hb⟩) | (go_at_call 28; (with_reducible refine (cmp_c H2.out _).mono ?_); rintro e w' ⟨rfl, hb⟩) | (go_at_call 28; (with_reducible refine (cmp_c H3.out _).mono ?_); rintro e w' ⟨rfl, hb⟩))
  go_wp2_with fail
  go_at_call 28
  refine (cmp_c H4.out _).mono ?_
  rintro e w1 ⟨rfl, hb1⟩
  have hS1 : HeldP.CellsB w w1 [(w.heap.size, 0, .int .i64 a1), (w.heap.size, 1, .int .i64 a2), (w.heap.size, 2, .int .i64 a3), (w.heap.size + 1, 0, .int .i64 b1), (w.heap.size + 1, 1, .int .i64 b2), (w.heap.size + 1, 2, .int .i64 b3), (w.heap.size + 2, 0, .int .i64 c1), (w.heap.size + 2, 1, .int .i64 c2), (w.heap.size + 2, 2, .int .i64 c3)] := HeldP.CellsB.keep hb1 (by assumption)
  simp only [HeldP.CellsB] at hS1
  obtain ⟨⟨c1_0_0, l1_0⟩, ⟨c1_0_1, l1_0x1⟩, ⟨c1_0_2, l1_0x2⟩, ⟨c1_1_0, l1_1⟩, ⟨c1_1_1, l1_1x1⟩, ⟨c1_1_2, l1_1x2⟩, ⟨c1_2_0, l1_2⟩, ⟨c1_2_1, l1_2x1⟩, ⟨c1_2_2, l1_2x2⟩, z1, HBn⟩ := hS1
  clear hb1
  have n1_0 : w.heap.size ≠ w1.heap.size := (by omega)
  have n1_1 : w.heap.size + 1 ≠ w1.heap.size := (by omega)
  have n1_2 : w.heap.size + 2 ≠ w1.heap.size := (by omega)
  have HB1 := Lib.hid HBn
  clear HBn
  go_wp2_with fail
  all_goals first
    | (exact absurd H1.out (cmp_same_ne (by assumption) (by assumption) (by assumption) (by decide)))
    | (go_at_call 23; refine (works_c _).mono ?_; rintro e w2 ⟨rfl, hb2⟩; go_wp2_with fail; go_ret; have HBo := HB1.out; refine ⟨rfl, ?_⟩; (repeat' (first | exact Below.refl _ _ | (refine Below.setCell ?_ (by (first | omega | (simp; done) | (simp; omega))) _) | (refine Below.alloc ?_ (by (first | omega | (simp; done) | (simp; omega))) _) | (refine Below.drew ?_) | (refine below_drewN ?_ _) | (refine Below.trans ?_ (Below.mono HBo (by (first | omega | (simp; done) | (simp; omega))))) | (refine Below.trans ?_ (Below.mono hb2 (by (first | omega | (simp; done) | (simp; omega))))))))

set_option maxRecDepth 100000 in
set_option maxHeartbeats 2000000 in
theorem law_order_lt1 {a1 a2 a3 b1 b2 b3 c1 c2 c3 : Int} (h1 : cmpOf a1 a2 a3 b1 b2 b3 = -1) (h2 : cmpOf b1 b2 b3 c1 c2 c3 = -1) (h3 : cmpOf a1 a2 a3 c1 c2 c3 = -1) (h4 : cmpOf b1 b2 b3 a1 a2 a3 = 1) (w : World) :
    Calls Try.prog 9 #[.agg #[.int .i64 a1, .int .i64 a2, .int .i64 a3], .agg #[.int .i64 b1, .int .i64 b2, .int .i64 b3], .agg #[.int .i64 c1, .int .i64 c2, .int .i64 c3]] w fun e w' => e = .returned (.bool true) ∧ Below w.heap.size w w' := by
  have H1 := Lib.hid h1
  have H2 := Lib.hid h2
  have H3 := Lib.hid h3
  have H4 := Lib.hid h4
  clear h1 h2 h3 h4
  go_enter Try.func9, Try.ntmps9
  go_wp2_with fail
  skip
  have hS0 : HeldP.CellsB w (((w.alloc (.cells #[.int .i64 a1, .int .i64 a2, .int .i64 a3] 23)).alloc (.cells #[.int .i64 b1, .int .i64 b2, .int .i64 b3] 23)).alloc (.cells #[.int .i64 c1, .int .i64 c2, .int .i64 c3] 23)) ([(w.heap.size, 0, .int .i64 a1), (w.heap.size, 1, .int .i64 a2), (w.heap.size, 2, .int .i64 a3), (w.heap.size + 1, 0, .int .i64 b1), (w.heap.size + 1, 1, .int .i64 b2), (w.heap.size + 1, 2, .int .i64 b3), (w.heap.size + 2, 0, .int .i64 c1), (w.heap.size + 2, 1, .int .i64 c2), (w.heap.size + 2, 2, .int .i64 c3)] : List (Nat × Nat × Value)) := by
    refine HeldP.CellsB.one (by first | assumption | (simp; done) | (simp [go_sem, *]; done)) (by first | omega | (simp; done) | (simp; omega)) ?_
    refine HeldP.CellsB.one (by first | assumption | (simp; done) | (simp [go_sem, *]; done)) (by first | omega | (simp; done) | (simp; omega)) ?_
    refine HeldP.CellsB.one (by first | assumption | (simp; done) | (simp [go_sem, *]; done)) (by first | omega | (simp; done) | (simp; omega)) ?_
    refine HeldP.CellsB.one (by first | assumption | (simp; done) | (simp [go_sem, *]; done)) (by first | omega | (simp; done) | (simp; omega)) ?_
    refine HeldP.CellsB.one (by first | assumption | (simp; done) | (simp [go_sem, *]; done)) (by first | omega | (simp; done) | (simp; omega)) ?_
    refine HeldP.CellsB.one (by first | assumption | (simp; done) | (simp [go_sem, *]; done)) (by first | omega | (simp; done) | (simp; omega)) ?_
    refine HeldP.CellsB.one (by first | assumption | (simp; done) | (simp [go_sem, *]; done)) (by first | omega | (simp; done) | (simp; omega)) ?_
    refine HeldP.CellsB.one (by first | assumption | (simp; done) | (simp [go_sem, *]; done)) (by first | omega | (simp; done) | (simp; omega)) ?_
    refine HeldP.CellsB.one (by first | assumption | (simp; done) | (simp [go_sem, *]; done)) (by first | omega | (simp; done) | (simp; omega)) ?_
    exact HeldP.CellsB.nil (by first | omega | (simp; done) | (simp; omega)) (by (repeat' (first | exact Below.refl _ _ | (refine Below.setCell ?_ (by (first | omega | (simp; done) | (simp; omega))) _) | (refine Below.alloc ?_ (by (first | omega | (simp; done) | (simp; omega))) _) | (refine Below.drew ?_) | (refine below_drewN ?_ _))))
  go_region_held3 (fun w' => (w'.cell? ⟨w.heap.size, 0, none⟩ = some (.int .i64 a1) ∧ w.heap.size < w'.heap.size) ∧ (w'.cell? ⟨w.heap.size, 1, none⟩ = some (.int .i64 a2) ∧ w.heap.size < w'.heap.size) ∧ (w'.cell? ⟨w.heap.size, 2, none⟩ = some (.int .i64 a3) ∧ w.heap.size < w'.heap.size) ∧ (w'.cell? ⟨w.heap.size + 1, 0, none⟩ = some (.int .i64 b1) ∧ w.heap.size + 1 < w'.heap.size) ∧ (w'.cell? ⟨w.heap.size + 1, 1, none⟩ = some (.int .i64 b2) ∧ w.heap.size + 1 < w'.heap.size) ∧ (w'.cell? ⟨w.heap.size + 1, 2, none⟩ = some (.int .i64 b3) ∧ w.heap.size + 1 < w'.heap.size) ∧ (w'.cell? ⟨w.heap.size + 2, 0, none⟩ = some (.int .i64 c1) ∧ w.heap.size + 2 < w'.heap.size) ∧ (w'.cell? ⟨w.heap.size + 2, 1, none⟩ = some (.int .i64 c2) ∧ w.heap.size + 2 < w'.heap.size) ∧ (w'.cell? ⟨w.heap.size + 2, 2, none⟩ = some (.int .i64 c3) ∧ w.heap.size + 2 < w'.heap.size) ∧ w.heap.size ≤ w'.heap.size ∧ Below w.heap.size w w')
    (first | assumption | (exact hS0.drew) | (exact HeldP.CellsB.keep (l := [(w.heap.size, 0, .int .i64 a1), (w.heap.size, 1, .int .i64 a2), (w.heap.size, 2, .int .i64 a3), (w.heap.size + 1, 0, .int .i64 b1), (w.heap.size + 1, 1, .int .i64 b2), (w.heap.size + 1, 2, .int .i64 b3), (w.heap.size + 2, 0, .int .i64 c1), (w.heap.size + 2, 1, .int .i64 c2), (w.heap.size + 2, 2, .int .i64 c3)]) (by assumption) (by assumption)) | (exact HeldP.CellsB.drew (l := [(w.heap.size, 0, .int .i64 a1), (w.heap.size, 1, .int .i64 a2), (w.heap.size, 2, .int .i64 a3), (w.heap.size + 1, 0, .int .i64 b1), (w.heap.size + 1, 1, .int .i64 b2), (w.heap.size + 1, 2, .int .i64 b3), (w.heap.size + 2, 0, .int .i64 c1), (w.heap.size + 2, 1, .int .i64 c2), (w.heap.size + 2, 2, .int .i64 c3)]) (by assumption)))
    (first | (go_at_call 28; (with_reducible refine (cmp_c H1.out _).mono ?_); rintro e w' ⟨rfl, hb⟩) | (go_at_call 28; (with_reducible refine (cmp_c H2.out _).mono ?_); rintro e w' ⟨rfl, hb⟩) | (go_at_call 28; (with_reducible refine (cmp_c H3.out _).mono ?_); rintro e w' ⟨rfl, hb⟩))
  go_wp2_with fail
  go_at_call 28
  refine (cmp_c H4.out _).mono ?_
  rintro e w1 ⟨rfl, hb1⟩
  have hS1 : HeldP.CellsB w w1 [(w.heap.size, 0, .int .i64 a1), (w.heap.size, 1, .int .i64 a2), (w.heap.size, 2, .int .i64 a3), (w.heap.size + 1, 0, .int .i64 b1), (w.heap.size + 1, 1, .int .i64 b2), (w.heap.size + 1, 2, .int .i64 b3), (w.heap.size + 2, 0, .int .i64 c1), (w.heap.size + 2, 1, .int .i64 c2), (w.heap.size + 2, 2, .int .i64 c3)] := HeldP.CellsB.keep hb1 (by assumption)
  simp only [HeldP.CellsB] at hS1
  obtain ⟨⟨c1_0_0, l1_0⟩, ⟨c1_0_1, l1_0x1⟩, ⟨c1_0_2, l1_0x2⟩, ⟨c1_1_0, l1_1⟩, ⟨c1_1_1, l1_1x1⟩, ⟨c1_1_2, l1_1x2⟩, ⟨c1_2_0, l1_2⟩, ⟨c1_2_1, l1_2x1⟩, ⟨c1_2_2, l1_2x2⟩, z1, HBn⟩ := hS1
  clear hb1
  have n1_0 : w.heap.size ≠ w1.heap.size := (by omega)
  have n1_1 : w.heap.size + 1 ≠ w1.heap.size := (by omega)
  have n1_2 : w.heap.size + 2 ≠ w1.heap.size := (by omega)
  have HB1 := Lib.hid HBn
  clear HBn
  go_wp2_with fail
  all_goals first
    | (exact absurd H1.out (cmp_same_ne (by assumption) (by assumption) (by assumption) (by decide)))
    | (go_at_call 23; refine (works_c _).mono ?_; rintro e w2 ⟨rfl, hb2⟩; go_wp2_with fail; go_ret; have HBo := HB1.out; refine ⟨rfl, ?_⟩; (repeat' (first | exact Below.refl _ _ | (refine Below.setCell ?_ (by (first | omega | (simp; done) | (simp; omega))) _) | (refine Below.alloc ?_ (by (first | omega | (simp; done) | (simp; omega))) _) | (refine Below.drew ?_) | (refine below_drewN ?_ _) | (refine Below.trans ?_ (Below.mono HBo (by (first | omega | (simp; done) | (simp; omega))))) | (refine Below.trans ?_ (Below.mono hb2 (by (first | omega | (simp; done) | (simp; omega))))))))

set_option maxRecDepth 100000 in
set_option maxHeartbeats 2000000 in
theorem law_order_lt2 {a1 a2 a3 b1 b2 b3 c1 c2 c3 : Int} (h1 : cmpOf a1 a2 a3 b1 b2 b3 = -1) (h2 : cmpOf b1 b2 b3 c1 c2 c3 = 0) {z : Int} (h3 : cmpOf a1 a2 a3 c1 c2 c3 = z) (h4 : cmpOf b1 b2 b3 a1 a2 a3 = 1) (w : World) :
    Calls Try.prog 9 #[.agg #[.int .i64 a1, .int .i64 a2, .int .i64 a3], .agg #[.int .i64 b1, .int .i64 b2, .int .i64 b3], .agg #[.int .i64 c1, .int .i64 c2, .int .i64 c3]] w fun e w' => e = .returned (.bool true) ∧ Below w.heap.size w w' := by
  have H1 := Lib.hid h1
  have H2 := Lib.hid h2
  have H3 := Lib.hid h3
  have H4 := Lib.hid h4
  clear h1 h2 h3 h4
  go_enter Try.func9, Try.ntmps9
  go_wp2_with fail
  skip
  have hS0 : HeldP.CellsB w (((w.alloc (.cells #[.int .i64 a1, .int .i64 a2, .int .i64 a3] 23)).alloc (.cells #[.int .i64 b1, .int .i64 b2, .int .i64 b3] 23)).alloc (.cells #[.int .i64 c1, .int .i64 c2, .int .i64 c3] 23)) ([(w.heap.size, 0, .int .i64 a1), (w.heap.size, 1, .int .i64 a2), (w.heap.size, 2, .int .i64 a3), (w.heap.size + 1, 0, .int .i64 b1), (w.heap.size + 1, 1, .int .i64 b2), (w.heap.size + 1, 2, .int .i64 b3), (w.heap.size + 2, 0, .int .i64 c1), (w.heap.size + 2, 1, .int .i64 c2), (w.heap.size + 2, 2, .int .i64 c3)] : List (Nat × Nat × Value)) := by
    refine HeldP.CellsB.one (by first | assumption | (simp; done) | (simp [go_sem, *]; done)) (by first | omega | (simp; done) | (simp; omega)) ?_
    refine HeldP.CellsB.one (by first | assumption | (simp; done) | (simp [go_sem, *]; done)) (by first | omega | (simp; done) | (simp; omega)) ?_
    refine HeldP.CellsB.one (by first | assumption | (simp; done) | (simp [go_sem, *]; done)) (by first | omega | (simp; done) | (simp; omega)) ?_
    refine HeldP.CellsB.one (by first | assumption | (simp; done) | (simp [go_sem, *]; done)) (by first | omega | (simp; done) | (simp; omega)) ?_
    refine HeldP.CellsB.one (by first | assumption | (simp; done) | (simp [go_sem, *]; done)) (by first | omega | (simp; done) | (simp; omega)) ?_
    refine HeldP.CellsB.one (by first | assumption | (simp; done) | (simp [go_sem, *]; done)) (by first | omega | (simp; done) | (simp; omega)) ?_
    refine HeldP.CellsB.one (by first | assumption | (simp; done) | (simp [go_sem, *]; done)) (by first | omega | (simp; done) | (simp; omega)) ?_
    refine HeldP.CellsB.one (by first | assumption | (simp; done) | (simp [go_sem, *]; done)) (by first | omega | (simp; done) | (simp; omega)) ?_
    refine HeldP.CellsB.one (by first | assumption | (simp; done) | (simp [go_sem, *]; done)) (by first | omega | (simp; done) | (simp; omega)) ?_
    exact HeldP.CellsB.nil (by first | omega | (simp; done) | (simp; omega)) (by (repeat' (first | exact Below.refl _ _ | (refine Below.setCell ?_ (by (first | omega | (simp; done) | (simp; omega))) _) | (refine Below.alloc ?_ (by (first | omega | (simp; done) | (simp; omega))) _) | (refine Below.drew ?_) | (refine below_drewN ?_ _))))
  go_region_held3 (fun w' => (w'.cell? ⟨w.heap.size, 0, none⟩ = some (.int .i64 a1) ∧ w.heap.size < w'.heap.size) ∧ (w'.cell? ⟨w.heap.size, 1, none⟩ = some (.int .i64 a2) ∧ w.heap.size < w'.heap.size) ∧ (w'.cell? ⟨w.heap.size, 2, none⟩ = some (.int .i64 a3) ∧ w.heap.size < w'.heap.size) ∧ (w'.cell? ⟨w.heap.size + 1, 0, none⟩ = some (.int .i64 b1) ∧ w.heap.size + 1 < w'.heap.size) ∧ (w'.cell? ⟨w.heap.size + 1, 1, none⟩ = some (.int .i64 b2) ∧ w.heap.size + 1 < w'.heap.size) ∧ (w'.cell? ⟨w.heap.size + 1, 2, none⟩ = some (.int .i64 b3) ∧ w.heap.size + 1 < w'.heap.size) ∧ (w'.cell? ⟨w.heap.size + 2, 0, none⟩ = some (.int .i64 c1) ∧ w.heap.size + 2 < w'.heap.size) ∧ (w'.cell? ⟨w.heap.size + 2, 1, none⟩ = some (.int .i64 c2) ∧ w.heap.size + 2 < w'.heap.size) ∧ (w'.cell? ⟨w.heap.size + 2, 2, none⟩ = some (.int .i64 c3) ∧ w.heap.size + 2 < w'.heap.size) ∧ w.heap.size ≤ w'.heap.size ∧ Below w.heap.size w w')
    (first | assumption | (exact hS0.drew) | (exact HeldP.CellsB.keep (l := [(w.heap.size, 0, .int .i64 a1), (w.heap.size, 1, .int .i64 a2), (w.heap.size, 2, .int .i64 a3), (w.heap.size + 1, 0, .int .i64 b1), (w.heap.size + 1, 1, .int .i64 b2), (w.heap.size + 1, 2, .int .i64 b3), (w.heap.size + 2, 0, .int .i64 c1), (w.heap.size + 2, 1, .int .i64 c2), (w.heap.size + 2, 2, .int .i64 c3)]) (by assumption) (by assumption)) | (exact HeldP.CellsB.drew (l := [(w.heap.size, 0, .int .i64 a1), (w.heap.size, 1, .int .i64 a2), (w.heap.size, 2, .int .i64 a3), (w.heap.size + 1, 0, .int .i64 b1), (w.heap.size + 1, 1, .int .i64 b2), (w.heap.size + 1, 2, .int .i64 b3), (w.heap.size + 2, 0, .int .i64 c1), (w.heap.size + 2, 1, .int .i64 c2), (w.heap.size + 2, 2, .int .i64 c3)]) (by assumption)))
    (first | (go_at_call 28; (with_reducible refine (cmp_c H1.out _).mono ?_); rintro e w' ⟨rfl, hb⟩) | (go_at_call 28; (with_reducible refine (cmp_c H2.out _).mono ?_); rintro e w' ⟨rfl, hb⟩) | (go_at_call 28; (with_reducible refine (cmp_c H3.out _).mono ?_); rintro e w' ⟨rfl, hb⟩))
  go_wp2_with fail
  go_at_call 28
  refine (cmp_c H4.out _).mono ?_
  rintro e w1 ⟨rfl, hb1⟩
  have hS1 : HeldP.CellsB w w1 [(w.heap.size, 0, .int .i64 a1), (w.heap.size, 1, .int .i64 a2), (w.heap.size, 2, .int .i64 a3), (w.heap.size + 1, 0, .int .i64 b1), (w.heap.size + 1, 1, .int .i64 b2), (w.heap.size + 1, 2, .int .i64 b3), (w.heap.size + 2, 0, .int .i64 c1), (w.heap.size + 2, 1, .int .i64 c2), (w.heap.size + 2, 2, .int .i64 c3)] := HeldP.CellsB.keep hb1 (by assumption)
  simp only [HeldP.CellsB] at hS1
  obtain ⟨⟨c1_0_0, l1_0⟩, ⟨c1_0_1, l1_0x1⟩, ⟨c1_0_2, l1_0x2⟩, ⟨c1_1_0, l1_1⟩, ⟨c1_1_1, l1_1x1⟩, ⟨c1_1_2, l1_1x2⟩, ⟨c1_2_0, l1_2⟩, ⟨c1_2_1, l1_2x1⟩, ⟨c1_2_2, l1_2x2⟩, z1, HBn⟩ := hS1
  clear hb1
  have n1_0 : w.heap.size ≠ w1.heap.size := (by omega)
  have n1_1 : w.heap.size + 1 ≠ w1.heap.size := (by omega)
  have n1_2 : w.heap.size + 2 ≠ w1.heap.size := (by omega)
  have HB1 := Lib.hid HBn
  clear HBn
  go_wp2_with fail
  all_goals first
    | (exact absurd H1.out (cmp_same_ne (by assumption) (by assumption) (by assumption) (by decide)))
    | (go_at_call 23; refine (works_c _).mono ?_; rintro e w2 ⟨rfl, hb2⟩; go_wp2_with fail; go_ret; have HBo := HB1.out; refine ⟨rfl, ?_⟩; (repeat' (first | exact Below.refl _ _ | (refine Below.setCell ?_ (by (first | omega | (simp; done) | (simp; omega))) _) | (refine Below.alloc ?_ (by (first | omega | (simp; done) | (simp; omega))) _) | (refine Below.drew ?_) | (refine below_drewN ?_ _) | (refine Below.trans ?_ (Below.mono HBo (by (first | omega | (simp; done) | (simp; omega))))) | (refine Below.trans ?_ (Below.mono hb2 (by (first | omega | (simp; done) | (simp; omega))))))))

set_option maxRecDepth 100000 in
set_option maxHeartbeats 2000000 in
theorem law_order_lt3 {a1 a2 a3 b1 b2 b3 c1 c2 c3 : Int} (h1 : cmpOf a1 a2 a3 b1 b2 b3 = -1) (h2 : cmpOf b1 b2 b3 c1 c2 c3 = 1) {z : Int} (h3 : cmpOf a1 a2 a3 c1 c2 c3 = z) (h4 : cmpOf b1 b2 b3 a1 a2 a3 = 1) (w : World) :
    Calls Try.prog 9 #[.agg #[.int .i64 a1, .int .i64 a2, .int .i64 a3], .agg #[.int .i64 b1, .int .i64 b2, .int .i64 b3], .agg #[.int .i64 c1, .int .i64 c2, .int .i64 c3]] w fun e w' => e = .returned (.bool true) ∧ Below w.heap.size w w' := by
  have H1 := Lib.hid h1
  have H2 := Lib.hid h2
  have H3 := Lib.hid h3
  have H4 := Lib.hid h4
  clear h1 h2 h3 h4
  go_enter Try.func9, Try.ntmps9
  go_wp2_with fail
  skip
  have hS0 : HeldP.CellsB w (((w.alloc (.cells #[.int .i64 a1, .int .i64 a2, .int .i64 a3] 23)).alloc (.cells #[.int .i64 b1, .int .i64 b2, .int .i64 b3] 23)).alloc (.cells #[.int .i64 c1, .int .i64 c2, .int .i64 c3] 23)) ([(w.heap.size, 0, .int .i64 a1), (w.heap.size, 1, .int .i64 a2), (w.heap.size, 2, .int .i64 a3), (w.heap.size + 1, 0, .int .i64 b1), (w.heap.size + 1, 1, .int .i64 b2), (w.heap.size + 1, 2, .int .i64 b3), (w.heap.size + 2, 0, .int .i64 c1), (w.heap.size + 2, 1, .int .i64 c2), (w.heap.size + 2, 2, .int .i64 c3)] : List (Nat × Nat × Value)) := by
    refine HeldP.CellsB.one (by first | assumption | (simp; done) | (simp [go_sem, *]; done)) (by first | omega | (simp; done) | (simp; omega)) ?_
    refine HeldP.CellsB.one (by first | assumption | (simp; done) | (simp [go_sem, *]; done)) (by first | omega | (simp; done) | (simp; omega)) ?_
    refine HeldP.CellsB.one (by first | assumption | (simp; done) | (simp [go_sem, *]; done)) (by first | omega | (simp; done) | (simp; omega)) ?_
    refine HeldP.CellsB.one (by first | assumption | (simp; done) | (simp [go_sem, *]; done)) (by first | omega | (simp; done) | (simp; omega)) ?_
    refine HeldP.CellsB.one (by first | assumption | (simp; done) | (simp [go_sem, *]; done)) (by first | omega | (simp; done) | (simp; omega)) ?_
    refine HeldP.CellsB.one (by first | assumption | (simp; done) | (simp [go_sem, *]; done)) (by first | omega | (simp; done) | (simp; omega)) ?_
    refine HeldP.CellsB.one (by first | assumption | (simp; done) | (simp [go_sem, *]; done)) (by first | omega | (simp; done) | (simp; omega)) ?_
    refine HeldP.CellsB.one (by first | assumption | (simp; done) | (simp [go_sem, *]; done)) (by first | omega | (simp; done) | (simp; omega)) ?_
    refine HeldP.CellsB.one (by first | assumption | (simp; done) | (simp [go_sem, *]; done)) (by first | omega | (simp; done) | (simp; omega)) ?_
    exact HeldP.CellsB.nil (by first | omega | (simp; done) | (simp; omega)) (by (repeat' (first | exact Below.refl _ _ | (refine Below.setCell ?_ (by (first | omega | (simp; done) | (simp; omega))) _) | (refine Below.alloc ?_ (by (first | omega | (simp; done) | (simp; omega))) _) | (refine Below.drew ?_) | (refine below_drewN ?_ _))))
  go_region_held3 (fun w' => (w'.cell? ⟨w.heap.size, 0, none⟩ = some (.int .i64 a1) ∧ w.heap.size < w'.heap.size) ∧ (w'.cell? ⟨w.heap.size, 1, none⟩ = some (.int .i64 a2) ∧ w.heap.size < w'.heap.size) ∧ (w'.cell? ⟨w.heap.size, 2, none⟩ = some (.int .i64 a3) ∧ w.heap.size < w'.heap.size) ∧ (w'.cell? ⟨w.heap.size + 1, 0, none⟩ = some (.int .i64 b1) ∧ w.heap.size + 1 < w'.heap.size) ∧ (w'.cell? ⟨w.heap.size + 1, 1, none⟩ = some (.int .i64 b2) ∧ w.heap.size + 1 < w'.heap.size) ∧ (w'.cell? ⟨w.heap.size + 1, 2, none⟩ = some (.int .i64 b3) ∧ w.heap.size + 1 < w'.heap.size) ∧ (w'.cell? ⟨w.heap.size + 2, 0, none⟩ = some (.int .i64 c1) ∧ w.heap.size + 2 < w'.heap.size) ∧ (w'.cell? ⟨w.heap.size + 2, 1, none⟩ = some (.int .i64 c2) ∧ w.heap.size + 2 < w'.heap.size) ∧ (w'.cell? ⟨w.heap.size + 2, 2, none⟩ = some (.int .i64 c3) ∧ w.heap.size + 2 < w'.heap.size) ∧ w.heap.size ≤ w'.heap.size ∧ Below w.heap.size w w')
    (first | assumption | (exact hS0.drew) | (exact HeldP.CellsB.keep (l := [(w.heap.size, 0, .int .i64 a1), (w.heap.size, 1, .int .i64 a2), (w.heap.size, 2, .int .i64 a3), (w.heap.size + 1, 0, .int .i64 b1), (w.heap.size + 1, 1, .int .i64 b2), (w.heap.size + 1, 2, .int .i64 b3), (w.heap.size + 2, 0, .int .i64 c1), (w.heap.size + 2, 1, .int .i64 c2), (w.heap.size + 2, 2, .int .i64 c3)]) (by assumption) (by assumption)) | (exact HeldP.CellsB.drew (l := [(w.heap.size, 0, .int .i64 a1), (w.heap.size, 1, .int .i64 a2), (w.heap.size, 2, .int .i64 a3), (w.heap.size + 1, 0, .int .i64 b1), (w.heap.size + 1, 1, .int .i64 b2), (w.heap.size + 1, 2, .int .i64 b3), (w.heap.size + 2, 0, .int .i64 c1), (w.heap.size + 2, 1, .int .i64 c2), (w.heap.size + 2, 2, .int .i64 c3)]) (by assumption)))
    (first | (go_at_call 28; (with_reducible refine (cmp_c H1.out _).mono ?_); rintro e w' ⟨rfl, hb⟩) | (go_at_call 28; (with_reducible refine (cmp_c H2.out _).mono ?_); rintro e w' ⟨rfl, hb⟩) | (go_at_call 28; (with_reducible refine (cmp_c H3.out _).mono ?_); rintro e w' ⟨rfl, hb⟩))
  go_wp2_with fail
  go_at_call 28
  refine (cmp_c H4.out _).mono ?_
  rintro e w1 ⟨rfl, hb1⟩
  have hS1 : HeldP.CellsB w w1 [(w.heap.size, 0, .int .i64 a1), (w.heap.size, 1, .int .i64 a2), (w.heap.size, 2, .int .i64 a3), (w.heap.size + 1, 0, .int .i64 b1), (w.heap.size + 1, 1, .int .i64 b2), (w.heap.size + 1, 2, .int .i64 b3), (w.heap.size + 2, 0, .int .i64 c1), (w.heap.size + 2, 1, .int .i64 c2), (w.heap.size + 2, 2, .int .i64 c3)] := HeldP.CellsB.keep hb1 (by assumption)
  simp only [HeldP.CellsB] at hS1
  obtain ⟨⟨c1_0_0, l1_0⟩, ⟨c1_0_1, l1_0x1⟩, ⟨c1_0_2, l1_0x2⟩, ⟨c1_1_0, l1_1⟩, ⟨c1_1_1, l1_1x1⟩, ⟨c1_1_2, l1_1x2⟩, ⟨c1_2_0, l1_2⟩, ⟨c1_2_1, l1_2x1⟩, ⟨c1_2_2, l1_2x2⟩, z1, HBn⟩ := hS1
  clear hb1
  have n1_0 : w.heap.size ≠ w1.heap.size := (by omega)
  have n1_1 : w.heap.size + 1 ≠ w1.heap.size := (by omega)
  have n1_2 : w.heap.size + 2 ≠ w1.heap.size := (by omega)
  have HB1 := Lib.hid HBn
  clear HBn
  go_wp2_with fail
  all_goals first
    | (exact absurd H1.out (cmp_same_ne (by assumption) (by assumption) (by assumption) (by decide)))
    | (go_at_call 23; refine (works_c _).mono ?_; rintro e w2 ⟨rfl, hb2⟩; go_wp2_with fail; go_ret; have HBo := HB1.out; refine ⟨rfl, ?_⟩; (repeat' (first | exact Below.refl _ _ | (refine Below.setCell ?_ (by (first | omega | (simp; done) | (simp; omega))) _) | (refine Below.alloc ?_ (by (first | omega | (simp; done) | (simp; omega))) _) | (refine Below.drew ?_) | (refine below_drewN ?_ _) | (refine Below.trans ?_ (Below.mono HBo (by (first | omega | (simp; done) | (simp; omega))))) | (refine Below.trans ?_ (Below.mono hb2 (by (first | omega | (simp; done) | (simp; omega))))))))

theorem law_order (a1 a2 a3 b1 b2 b3 c1 c2 c3 : Int) (w : World) :
    Calls Try.prog 9 #[.agg #[.int .i64 a1, .int .i64 a2, .int .i64 a3], .agg #[.int .i64 b1, .int .i64 b2, .int .i64 b3], .agg #[.int .i64 c1, .int .i64 c2, .int .i64 c3]] w fun e w' => e = .returned (.bool true) ∧ Below w.heap.size w w' := by
  have hn := cmpOf_neg a1 a2 a3 b1 b2 b3
  rcases cmpOf_cases a1 a2 a3 b1 b2 b3 with ⟨h1, _⟩ | ⟨h1, rfl, rfl, rfl⟩ | ⟨h1, _⟩
  · rcases cmpOf_cases b1 b2 b3 c1 c2 c3 with ⟨h2, _⟩ | ⟨h2, _⟩ | ⟨h2, _⟩
    · exact law_order_lt1 h1 h2 (order_tr _ _ _ _ _ _ _ _ _ h1 h2) (by rw [hn, h1]; rfl) w
    · exact law_order_lt2 h1 h2 rfl (by rw [hn, h1]; rfl) w
    · exact law_order_lt3 h1 h2 rfl (by rw [hn, h1]; rfl) w
  · exact law_order_eq h1 rfl rfl h1 w
  · exact law_order_gt h1 rfl rfl (by rw [hn, h1]) w
end PlaceW
end Go.Proofs.Ytokkomglbddgcaa
