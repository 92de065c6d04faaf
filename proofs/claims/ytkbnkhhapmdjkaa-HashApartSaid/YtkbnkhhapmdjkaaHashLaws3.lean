/-
  The laws of hash, third part: HashApart.
-/
import Derived.Test.YtkbnkhhapmdjkaaHashLaws1
import Derived.Test.YtkbnkhhapmdjkaaBaseP
import Derived.Deep.RegionHeld3
namespace Go.Proofs.Ytkbnkhhapmdjkaa
open Go.RowKit
set_option linter.unusedSimpArgs false
set_option linter.unusedVariables false
namespace HashW
open BaseP

theorem of_s {s s' x y z t : Int} (h : 0 ≤ s ∧ s < 18446744073709551616) (h' : 0 ≤ s' ∧ s' < 18446744073709551616) (e : ofI s x y z t = ofI s' x y z t) : s = s' :=
  mixI_inj h h' (step_left (mixI_in _) (mixI_in _) (step_left (mixI_in _) (mixI_in _) (step_left (mixI_in _) (mixI_in _) (step_left (mixI_in _) (mixI_in _) e))))
abbrev I64 (x : Int) : Prop := -9223372036854775808 ≤ x ∧ x ≤ 9223372036854775807
theorem of_x {s x x' y z t : Int} (h : I64 x) (h' : I64 x') (e : ofI s x y z t = ofI s x' y z t) : x = x' :=
  u64_inj h h' (step_right (u64_in _) (u64_in _) (step_left (mixI_in _) (mixI_in _) (step_left (mixI_in _) (mixI_in _) (step_left (mixI_in _) (mixI_in _) e))))
theorem of_y {s x y y' z t : Int} (h : I64 y) (h' : I64 y') (e : ofI s x y z t = ofI s x y' z t) : y = y' :=
  u64_inj h h' (step_right (u64_in _) (u64_in _) (step_left (mixI_in _) (mixI_in _) (step_left (mixI_in _) (mixI_in _) e)))
theorem of_z {s x y z z' t : Int} (h : I64 z) (h' : I64 z') (e : ofI s x y z t = ofI s x y z' t) : z = z' :=
  u64_inj h h' (step_right (u64_in _) (u64_in _) (step_left (mixI_in _) (mixI_in _) e))
theorem of_t {s x y z t t' : Int} (h : I64 t) (h' : I64 t') (e : ofI s x y z t = ofI s x y z t') : t = t' :=
  u64_inj h h' (step_right (u64_in _) (u64_in _) e)
theorem mix_eq {x y : Int} (hx : 0 ≤ x ∧ x < 18446744073709551616) (hy : 0 ≤ y ∧ y < 18446744073709551616) : (mixI x == mixI y) = (x == y) := by
  by_cases e : x = y
  · subst e
    simp
  · rw [beq_eq_false_iff_ne.2 e, beq_eq_false_iff_ne.2 (fun h => e (mixI_inj hx hy h))]
theorem awake_b (w : World) : Calls Try.prog 11 #[] w fun e w' => e = .returned (.bool true) ∧ Below w.heap.size w w' :=
  (awake_c w).mono fun e w' ⟨h, h'⟩ => ⟨h, h' ▸ Below.refl _ _⟩

set_option maxRecDepth 100000 in
set_option maxHeartbeats 4000000 in
theorem apart_0s {x y p1 p2 p3 t k : Int} (x0 : 0 ≤ x) (x1 : x < 18446744073709551616) (y0 : 0 ≤ y) (y1 : y < 18446744073709551616) (bp1 : I64 p1) (bp2 : I64 p2) (bp3 : I64 p3) (bt : I64 t) (hk : bits .and .i64 k 7 = 0) (hs : y = x) (w : World) :
    Calls Try.prog 7 #[.int .u64 x, .int .u64 y, .agg #[.int .i64 p1, .int .i64 p2, .int .i64 p3], .int .i64 t, .int .i64 k] w fun e w' => e = .returned (.bool true) ∧ Below w.heap.size w w' := by
  have hab := mix_eq ⟨x0, x1⟩ ⟨y0, y1⟩
  subst hs
  obtain ⟨r, h1⟩ : ∃ r, ofI y p1 p2 p3 t = r := ⟨_, rfl⟩
  have H1 := Lib.hid h1
  clear h1
  go_enter Try.func7, Try.ntmps7
  go_wp2_with (go_at_call 9; refine (mix_c rfl _).mono ?_; rintro e w' ⟨rfl, rfl⟩)
  skip
  refine HeldP.wp_named (fun w' => w'.cell? ⟨w.heap.size, 0, none⟩ = some (.int .i64 p1) ∧ w'.cell? ⟨w.heap.size, 1, none⟩ = some (.int .i64 p2) ∧ w'.cell? ⟨w.heap.size, 2, none⟩ = some (.int .i64 p3) ∧ w.heap.size < w'.heap.size ∧ w'.cell? ⟨w.heap.size + 1, 0, none⟩ = some (.int .i64 p1) ∧ w'.cell? ⟨w.heap.size + 1, 1, none⟩ = some (.int .i64 p2) ∧ w'.cell? ⟨w.heap.size + 1, 2, none⟩ = some (.int .i64 p3) ∧ w.heap.size + 1 < w'.heap.size ∧ Below w.heap.size w w') (by (refine ⟨?_, ?_, ?_, ?_, ?_, ?_, ?_, ?_, by (repeat' (first | (with_reducible exact Below.refl _ _) | (with_reducible refine Below.setCell ?_ (by (first | omega | (simp; done) | (simp; omega))) _) | (with_reducible refine Below.alloc ?_ (by (first | omega | (simp; done) | (simp; omega))) _) | (with_reducible refine Below.drew ?_) | (with_reducible refine below_drewN ?_ _)))⟩); all_goals (repeat' (first | (with_reducible assumption) | (with_reducible refine HeldP.c_drew ?_) | (with_reducible refine HeldP.c_drewN ?_) | (with_reducible refine HeldP.c_same (by omega) ?_) | (with_reducible refine HeldP.c_other ?_ ?_) | (with_reducible refine HeldP.c_new (by first | omega | (simp; done) | (simp; omega)) ?_) | (with_reducible refine HeldP.c_alloc ?_ ?_) | (with_reducible refine HeldP.e_drew ?_) | (with_reducible refine HeldP.e_drewN ?_) | (with_reducible refine HeldP.e_set ?_) | (with_reducible refine HeldP.e_new (by first | omega | (simp; done) | (simp; omega)) ⟨_, rfl⟩) | (with_reducible refine HeldP.e_alloc ?_ ?_) | (with_reducible refine HeldP.f_drew ?_) | (with_reducible refine HeldP.f_drewN ?_) | (with_reducible refine HeldP.f_set ?_) | (with_reducible refine HeldP.f_new (by first | omega | (simp; done) | (simp; omega))) | (with_reducible refine HeldP.f_alloc ?_ ?_) | (with_reducible refine HeldP.s_drew ?_) | (with_reducible refine HeldP.s_drewN ?_) | (with_reducible refine HeldP.s_set ?_) | (with_reducible refine HeldP.s_new (by first | omega | (simp; done) | (simp; omega))) | (with_reducible refine HeldP.s_alloc ?_) | (with_reducible exact ⟨_, by assumption⟩) | omega | (intro e; simp at e; done) | (intro e; simp at e; omega) | (exact rfl) | (simp; done) | (simp; omega)))) ?_
  skip
  rintro w1 ⟨c1_0_0, c1_0_1, c1_0_2, l1_0, c1_1_0, c1_1_1, c1_1_2, l1_1, HBn⟩
  have n1_0 : w.heap.size ≠ w1.heap.size := (by omega)
  have n1_1 : w.heap.size + 1 ≠ w1.heap.size := (by omega)
  have z1 : w.heap.size ≤ w1.heap.size := (by omega)
  have HB1 := Lib.hid HBn
  clear HBn
  have HBo := HB1.out
  have hS0 : HeldP.CellsB w (w1) ([(w.heap.size, 0, .int .i64 p1), (w.heap.size, 1, .int .i64 p2), (w.heap.size, 2, .int .i64 p3), (w.heap.size + 1, 0, .int .i64 p1), (w.heap.size + 1, 1, .int .i64 p2), (w.heap.size + 1, 2, .int .i64 p3)] : List (Nat × Nat × Value)) := by
    refine HeldP.CellsB.one ?_ ?_ (HeldP.CellsB.one ?_ ?_ (HeldP.CellsB.one ?_ ?_ (HeldP.CellsB.one ?_ ?_ (HeldP.CellsB.one ?_ ?_ (HeldP.CellsB.one ?_ ?_ (HeldP.CellsB.nil (by first | omega | (simp; done) | (simp; omega)) (by (repeat' (first | (with_reducible exact Below.refl _ _) | (with_reducible refine Below.setCell ?_ (by (first | omega | (simp; done) | (simp; omega))) _) | (with_reducible refine Below.alloc ?_ (by (first | omega | (simp; done) | (simp; omega))) _) | (with_reducible refine Below.drew ?_) | (with_reducible refine below_drewN ?_ _) | (with_reducible refine Below.trans ?_ (Below.mono HBo (by (first | omega | (simp; done) | (simp; omega))))))))))))))
    all_goals (repeat' (first | (with_reducible assumption) | (with_reducible refine HeldP.c_drew ?_) | (with_reducible refine HeldP.c_drewN ?_) | (with_reducible refine HeldP.c_same (by omega) ?_) | (with_reducible refine HeldP.c_other ?_ ?_) | (with_reducible refine HeldP.c_new (by first | omega | (simp; done) | (simp; omega)) ?_) | (with_reducible refine HeldP.c_alloc ?_ ?_) | (with_reducible refine HeldP.e_drew ?_) | (with_reducible refine HeldP.e_drewN ?_) | (with_reducible refine HeldP.e_set ?_) | (with_reducible refine HeldP.e_new (by first | omega | (simp; done) | (simp; omega)) ⟨_, rfl⟩) | (with_reducible refine HeldP.e_alloc ?_ ?_) | (with_reducible refine HeldP.f_drew ?_) | (with_reducible refine HeldP.f_drewN ?_) | (with_reducible refine HeldP.f_set ?_) | (with_reducible refine HeldP.f_new (by first | omega | (simp; done) | (simp; omega))) | (with_reducible refine HeldP.f_alloc ?_ ?_) | (with_reducible refine HeldP.s_drew ?_) | (with_reducible refine HeldP.s_drewN ?_) | (with_reducible refine HeldP.s_set ?_) | (with_reducible refine HeldP.s_new (by first | omega | (simp; done) | (simp; omega))) | (with_reducible refine HeldP.s_alloc ?_) | (with_reducible exact ⟨_, by assumption⟩) | omega | (intro e; simp at e; done) | (intro e; simp at e; omega) | (exact rfl) | (simp; done) | (simp; omega)))
  clear HBo
  go_region_held3 (fun w' => (w'.cell? ⟨w.heap.size, 0, none⟩ = some (.int .i64 p1) ∧ w.heap.size < w'.heap.size) ∧ (w'.cell? ⟨w.heap.size, 1, none⟩ = some (.int .i64 p2) ∧ w.heap.size < w'.heap.size) ∧ (w'.cell? ⟨w.heap.size, 2, none⟩ = some (.int .i64 p3) ∧ w.heap.size < w'.heap.size) ∧ (w'.cell? ⟨w.heap.size + 1, 0, none⟩ = some (.int .i64 p1) ∧ w.heap.size + 1 < w'.heap.size) ∧ (w'.cell? ⟨w.heap.size + 1, 1, none⟩ = some (.int .i64 p2) ∧ w.heap.size + 1 < w'.heap.size) ∧ (w'.cell? ⟨w.heap.size + 1, 2, none⟩ = some (.int .i64 p3) ∧ w.heap.size + 1 < w'.heap.size) ∧ w.heap.size ≤ w'.heap.size ∧ Below w.heap.size w w')
    (first | assumption | (exact hS0.drew) | (exact HeldP.CellsB.keep (l := [(w.heap.size, 0, .int .i64 p1), (w.heap.size, 1, .int .i64 p2), (w.heap.size, 2, .int .i64 p3), (w.heap.size + 1, 0, .int .i64 p1), (w.heap.size + 1, 1, .int .i64 p2), (w.heap.size + 1, 2, .int .i64 p3)]) (by assumption) (by assumption)) | (exact HeldP.CellsB.drew (l := [(w.heap.size, 0, .int .i64 p1), (w.heap.size, 1, .int .i64 p2), (w.heap.size, 2, .int .i64 p3), (w.heap.size + 1, 0, .int .i64 p1), (w.heap.size + 1, 1, .int .i64 p2), (w.heap.size + 1, 2, .int .i64 p3)]) (by assumption)))
    (first | (go_at_call 12; (with_reducible refine (of_c H1.out _).mono ?_); rintro e w' ⟨rfl, hb⟩) | (go_at_call 11; (with_reducible refine (awake_b _).mono ?_); rintro e w' ⟨rfl, hb⟩))
  go_wp2
  go_ret
  refine ⟨rfl, ?_⟩
  exact HeldP.CellsB.below (l := [(w.heap.size, 0, .int .i64 p1), (w.heap.size, 1, .int .i64 p2), (w.heap.size, 2, .int .i64 p3), (w.heap.size + 1, 0, .int .i64 p1), (w.heap.size + 1, 1, .int .i64 p2), (w.heap.size + 1, 2, .int .i64 p3)]) (by assumption)

set_option maxRecDepth 100000 in
set_option maxHeartbeats 4000000 in
theorem apart_0d {x y p1 p2 p3 t k : Int} (x0 : 0 ≤ x) (x1 : x < 18446744073709551616) (y0 : 0 ≤ y) (y1 : y < 18446744073709551616) (bp1 : I64 p1) (bp2 : I64 p2) (bp3 : I64 p3) (bt : I64 t) (hk : bits .and .i64 k 7 = 0) (hs : ¬ y = x) (w : World) :
    Calls Try.prog 7 #[.int .u64 x, .int .u64 y, .agg #[.int .i64 p1, .int .i64 p2, .int .i64 p3], .int .i64 t, .int .i64 k] w fun e w' => e = .returned (.bool true) ∧ Below w.heap.size w w' := by
  have hab := mix_eq ⟨x0, x1⟩ ⟨y0, y1⟩
  have hne : (ofI x p1 p2 p3 t == ofI y p1 p2 p3 t) = false := beq_eq_false_iff_ne.2 fun e => hs (of_s ⟨x0, x1⟩ ⟨y0, y1⟩ e).symm
  have hs' : (y == x) = false := beq_eq_false_iff_ne.2 hs
  clear hs
  obtain ⟨r2, h2⟩ : ∃ r, ofI y p1 p2 p3 t = r := ⟨_, rfl⟩
  rw [h2] at hne
  obtain ⟨r, h1⟩ : ∃ r, ofI x p1 p2 p3 t = r := ⟨_, rfl⟩
  rw [h1] at hne
  have H2 := Lib.hid h2
  clear h2
  have H1 := Lib.hid h1
  clear h1
  go_enter Try.func7, Try.ntmps7
  go_wp2_with (go_at_call 9; refine (mix_c rfl _).mono ?_; rintro e w' ⟨rfl, rfl⟩)
  skip
  refine HeldP.wp_named (fun w' => w'.cell? ⟨w.heap.size, 0, none⟩ = some (.int .i64 p1) ∧ w'.cell? ⟨w.heap.size, 1, none⟩ = some (.int .i64 p2) ∧ w'.cell? ⟨w.heap.size, 2, none⟩ = some (.int .i64 p3) ∧ w.heap.size < w'.heap.size ∧ w'.cell? ⟨w.heap.size + 1, 0, none⟩ = some (.int .i64 p1) ∧ w'.cell? ⟨w.heap.size + 1, 1, none⟩ = some (.int .i64 p2) ∧ w'.cell? ⟨w.heap.size + 1, 2, none⟩ = some (.int .i64 p3) ∧ w.heap.size + 1 < w'.heap.size ∧ Below w.heap.size w w') (by (refine ⟨?_, ?_, ?_, ?_, ?_, ?_, ?_, ?_, by (repeat' (first | (with_reducible exact Below.refl _ _) | (with_reducible refine Below.setCell ?_ (by (first | omega | (simp; done) | (simp; omega))) _) | (with_reducible refine Below.alloc ?_ (by (first | omega | (simp; done) | (simp; omega))) _) | (with_reducible refine Below.drew ?_) | (with_reducible refine below_drewN ?_ _)))⟩); all_goals (repeat' (first | (with_reducible assumption) | (with_reducible refine HeldP.c_drew ?_) | (with_reducible refine HeldP.c_drewN ?_) | (with_reducible refine HeldP.c_same (by omega) ?_) | (with_reducible refine HeldP.c_other ?_ ?_) | (with_reducible refine HeldP.c_new (by first | omega | (simp; done) | (simp; omega)) ?_) | (with_reducible refine HeldP.c_alloc ?_ ?_) | (with_reducible refine HeldP.e_drew ?_) | (with_reducible refine HeldP.e_drewN ?_) | (with_reducible refine HeldP.e_set ?_) | (with_reducible refine HeldP.e_new (by first | omega | (simp; done) | (simp; omega)) ⟨_, rfl⟩) | (with_reducible refine HeldP.e_alloc ?_ ?_) | (with_reducible refine HeldP.f_drew ?_) | (with_reducible refine HeldP.f_drewN ?_) | (with_reducible refine HeldP.f_set ?_) | (with_reducible refine HeldP.f_new (by first | omega | (simp; done) | (simp; omega))) | (with_reducible refine HeldP.f_alloc ?_ ?_) | (with_reducible refine HeldP.s_drew ?_) | (with_reducible refine HeldP.s_drewN ?_) | (with_reducible refine HeldP.s_set ?_) | (with_reducible refine HeldP.s_new (by first | omega | (simp; done) | (simp; omega))) | (with_reducible refine HeldP.s_alloc ?_) | (with_reducible exact ⟨_, by assumption⟩) | omega | (intro e; simp at e; done) | (intro e; simp at e; omega) | (exact rfl) | (simp; done) | (simp; omega)))) ?_
  skip
  rintro w1 ⟨c1_0_0, c1_0_1, c1_0_2, l1_0, c1_1_0, c1_1_1, c1_1_2, l1_1, HBn⟩
  have n1_0 : w.heap.size ≠ w1.heap.size := (by omega)
  have n1_1 : w.heap.size + 1 ≠ w1.heap.size := (by omega)
  have z1 : w.heap.size ≤ w1.heap.size := (by omega)
  have HB1 := Lib.hid HBn
  clear HBn
  have HBo := HB1.out
  have hS0 : HeldP.CellsB w (w1) ([(w.heap.size, 0, .int .i64 p1), (w.heap.size, 1, .int .i64 p2), (w.heap.size, 2, .int .i64 p3), (w.heap.size + 1, 0, .int .i64 p1), (w.heap.size + 1, 1, .int .i64 p2), (w.heap.size + 1, 2, .int .i64 p3)] : List (Nat × Nat × Value)) := by
    refine HeldP.CellsB.one ?_ ?_ (HeldP.CellsB.one ?_ ?_ (HeldP.CellsB.one ?_ ?_ (HeldP.CellsB.one ?_ ?_ (HeldP.CellsB.one ?_ ?_ (HeldP.CellsB.one ?_ ?_ (HeldP.CellsB.nil (by first | omega | (simp; done) | (simp; omega)) (by (repeat' (first | (with_reducible exact Below.refl _ _) | (with_reducible refine Below.setCell ?_ (by (first | omega | (simp; done) | (simp; omega))) _) | (with_reducible refine Below.alloc ?_ (by (first | omega | (simp; done) | (simp; omega))) _) | (with_reducible refine Below.drew ?_) | (with_reducible refine below_drewN ?_ _) | (with_reducible refine Below.trans ?_ (Below.mono HBo (by (first | omega | (simp; done) | (simp; omega))))))))))))))
    all_goals (repeat' (first | (with_reducible assumption) | (with_reducible refine HeldP.c_drew ?_) | (with_reducible refine HeldP.c_drewN ?_) | (with_reducible refine HeldP.c_same (by omega) ?_) | (with_reducible refine HeldP.c_other ?_ ?_) | (with_reducible refine HeldP.c_new (by first | omega | (simp; done) | (simp; omega)) ?_) | (with_reducible refine HeldP.c_alloc ?_ ?_) | (with_reducible refine HeldP.e_drew ?_) | (with_reducible refine HeldP.e_drewN ?_) | (with_reducible refine HeldP.e_set ?_) | (with_reducible refine HeldP.e_new (by first | omega | (simp; done) | (simp; omega)) ⟨_, rfl⟩) | (with_reducible refine HeldP.e_alloc ?_ ?_) | (with_reducible refine HeldP.f_drew ?_) | (with_reducible refine HeldP.f_drewN ?_) | (with_reducible refine HeldP.f_set ?_) | (with_reducible refine HeldP.f_new (by first | omega | (simp; done) | (simp; omega))) | (with_reducible refine HeldP.f_alloc ?_ ?_) | (with_reducible refine HeldP.s_drew ?_) | (with_reducible refine HeldP.s_drewN ?_) | (with_reducible refine HeldP.s_set ?_) | (with_reducible refine HeldP.s_new (by first | omega | (simp; done) | (simp; omega))) | (with_reducible refine HeldP.s_alloc ?_) | (with_reducible exact ⟨_, by assumption⟩) | omega | (intro e; simp at e; done) | (intro e; simp at e; omega) | (exact rfl) | (simp; done) | (simp; omega)))
  clear HBo
  go_region_held3 (fun w' => (w'.cell? ⟨w.heap.size, 0, none⟩ = some (.int .i64 p1) ∧ w.heap.size < w'.heap.size) ∧ (w'.cell? ⟨w.heap.size, 1, none⟩ = some (.int .i64 p2) ∧ w.heap.size < w'.heap.size) ∧ (w'.cell? ⟨w.heap.size, 2, none⟩ = some (.int .i64 p3) ∧ w.heap.size < w'.heap.size) ∧ (w'.cell? ⟨w.heap.size + 1, 0, none⟩ = some (.int .i64 p1) ∧ w.heap.size + 1 < w'.heap.size) ∧ (w'.cell? ⟨w.heap.size + 1, 1, none⟩ = some (.int .i64 p2) ∧ w.heap.size + 1 < w'.heap.size) ∧ (w'.cell? ⟨w.heap.size + 1, 2, none⟩ = some (.int .i64 p3) ∧ w.heap.size + 1 < w'.heap.size) ∧ w.heap.size ≤ w'.heap.size ∧ Below w.heap.size w w')
    (first | assumption | (exact hS0.drew) | (exact HeldP.CellsB.keep (l := [(w.heap.size, 0, .int .i64 p1), (w.heap.size, 1, .int .i64 p2), (w.heap.size, 2, .int .i64 p3), (w.heap.size + 1, 0, .int .i64 p1), (w.heap.size + 1, 1, .int .i64 p2), (w.heap.size + 1, 2, .int .i64 p3)]) (by assumption) (by assumption)) | (exact HeldP.CellsB.drew (l := [(w.heap.size, 0, .int .i64 p1), (w.heap.size, 1, .int .i64 p2), (w.heap.size, 2, .int .i64 p3), (w.heap.size + 1, 0, .int .i64 p1), (w.heap.size + 1, 1, .int .i64 p2), (w.heap.size + 1, 2, .int .i64 p3)]) (by assumption)))
    (first | (go_at_call 12; (with_reducible refine (of_c H1.out _).mono ?_); rintro e w' ⟨rfl, hb⟩) | (go_at_call 12; (with_reducible refine (of_c H2.out _).mono ?_); rintro e w' ⟨rfl, hb⟩) | (go_at_call 11; (with_reducible refine (awake_b _).mono ?_); rintro e w' ⟨rfl, hb⟩))
  go_wp2
  go_ret
  refine ⟨rfl, ?_⟩
  exact HeldP.CellsB.below (l := [(w.heap.size, 0, .int .i64 p1), (w.heap.size, 1, .int .i64 p2), (w.heap.size, 2, .int .i64 p3), (w.heap.size + 1, 0, .int .i64 p1), (w.heap.size + 1, 1, .int .i64 p2), (w.heap.size + 1, 2, .int .i64 p3)]) (by assumption)

set_option maxRecDepth 100000 in
set_option maxHeartbeats 4000000 in
theorem apart_1s {x y p1 p2 p3 t k v : Int} (x0 : 0 ≤ x) (x1 : x < 18446744073709551616) (y0 : 0 ≤ y) (y1 : y < 18446744073709551616) (bp1 : I64 p1) (bp2 : I64 p2) (bp3 : I64 p3) (bt : I64 t) (hk : bits .and .i64 k 7 = 1) (hv : wrap64 y = v) (bv : I64 v) (hs : v = p1) (w : World) :
    Calls Try.prog 7 #[.int .u64 x, .int .u64 y, .agg #[.int .i64 p1, .int .i64 p2, .int .i64 p3], .int .i64 t, .int .i64 k] w fun e w' => e = .returned (.bool true) ∧ Below w.heap.size w w' := by
  have hab := mix_eq ⟨x0, x1⟩ ⟨y0, y1⟩
  subst hs
  obtain ⟨r, h1⟩ : ∃ r, ofI x v p2 p3 t = r := ⟨_, rfl⟩
  have H1 := Lib.hid h1
  clear h1
  go_enter Try.func7, Try.ntmps7
  go_wp2_with (go_at_call 9; refine (mix_c rfl _).mono ?_; rintro e w' ⟨rfl, rfl⟩)
  skip
  refine HeldP.wp_named (fun w' => w'.cell? ⟨w.heap.size, 0, none⟩ = some (.int .i64 v) ∧ w'.cell? ⟨w.heap.size, 1, none⟩ = some (.int .i64 p2) ∧ w'.cell? ⟨w.heap.size, 2, none⟩ = some (.int .i64 p3) ∧ w.heap.size < w'.heap.size ∧ w'.cell? ⟨w.heap.size + 1, 0, none⟩ = some (.int .i64 v) ∧ w'.cell? ⟨w.heap.size + 1, 1, none⟩ = some (.int .i64 p2) ∧ w'.cell? ⟨w.heap.size + 1, 2, none⟩ = some (.int .i64 p3) ∧ w.heap.size + 1 < w'.heap.size ∧ Below w.heap.size w w') (by (refine ⟨?_, ?_, ?_, ?_, ?_, ?_, ?_, ?_, by (repeat' (first | (with_reducible exact Below.refl _ _) | (with_reducible refine Below.setCell ?_ (by (first | omega | (simp; done) | (simp; omega))) _) | (with_reducible refine Below.alloc ?_ (by (first | omega | (simp; done) | (simp; omega))) _) | (with_reducible refine Below.drew ?_) | (with_reducible refine below_drewN ?_ _)))⟩); all_goals (repeat' (first | (with_reducible assumption) | (with_reducible refine HeldP.c_drew ?_) | (with_reducible refine HeldP.c_drewN ?_) | (with_reducible refine HeldP.c_same (by omega) ?_) | (with_reducible refine HeldP.c_other ?_ ?_) | (with_reducible refine HeldP.c_new (by first | omega | (simp; done) | (simp; omega)) ?_) | (with_reducible refine HeldP.c_alloc ?_ ?_) | (with_reducible refine HeldP.e_drew ?_) | (with_reducible refine HeldP.e_drewN ?_) | (with_reducible refine HeldP.e_set ?_) | (with_reducible refine HeldP.e_new (by first | omega | (simp; done) | (simp; omega)) ⟨_, rfl⟩) | (with_reducible refine HeldP.e_alloc ?_ ?_) | (with_reducible refine HeldP.f_drew ?_) | (with_reducible refine HeldP.f_drewN ?_) | (with_reducible refine HeldP.f_set ?_) | (with_reducible refine HeldP.f_new (by first | omega | (simp; done) | (simp; omega))) | (with_reducible refine HeldP.f_alloc ?_ ?_) | (with_reducible refine HeldP.s_drew ?_) | (with_reducible refine HeldP.s_drewN ?_) | (with_reducible refine HeldP.s_set ?_) | (with_reducible refine HeldP.s_new (by first | omega | (simp; done) | (simp; omega))) | (with_reducible refine HeldP.s_alloc ?_) | (with_reducible exact ⟨_, by assumption⟩) | omega | (intro e; simp at e; done) | (intro e; simp at e; omega) | (exact rfl) | (simp; done) | (simp; omega)))) ?_
  skip
  rintro w1 ⟨c1_0_0, c1_0_1, c1_0_2, l1_0, c1_1_0, c1_1_1, c1_1_2, l1_1, HBn⟩
  have n1_0 : w.heap.size ≠ w1.heap.size := (by omega)
  have n1_1 : w.heap.size + 1 ≠ w1.heap.size := (by omega)
  have z1 : w.heap.size ≤ w1.heap.size := (by omega)
  have HB1 := Lib.hid HBn
  clear HBn
  have HBo := HB1.out
  have hS0 : HeldP.CellsB w (w1) ([(w.heap.size, 0, .int .i64 v), (w.heap.size, 1, .int .i64 p2), (w.heap.size, 2, .int .i64 p3), (w.heap.size + 1, 0, .int .i64 v), (w.heap.size + 1, 1, .int .i64 p2), (w.heap.size + 1, 2, .int .i64 p3)] : List (Nat × Nat × Value)) := by
    refine HeldP.CellsB.one ?_ ?_ (HeldP.CellsB.one ?_ ?_ (HeldP.CellsB.one ?_ ?_ (HeldP.CellsB.one ?_ ?_ (HeldP.CellsB.one ?_ ?_ (HeldP.CellsB.one ?_ ?_ (HeldP.CellsB.nil (by first | omega | (simp; done) | (simp; omega)) (by (repeat' (first | (with_reducible exact Below.refl _ _) | (with_reducible refine Below.setCell ?_ (by (first | omega | (simp; done) | (simp; omega))) _) | (with_reducible refine Below.alloc ?_ (by (first | omega | (simp; done) | (simp; omega))) _) | (with_reducible refine Below.drew ?_) | (with_reducible refine below_drewN ?_ _) | (with_reducible refine Below.trans ?_ (Below.mono HBo (by (first | omega | (simp; done) | (simp; omega))))))))))))))
    all_goals (repeat' (first | (with_reducible assumption) | (with_reducible refine HeldP.c_drew ?_) | (with_reducible refine HeldP.c_drewN ?_) | (with_reducible refine HeldP.c_same (by omega) ?_) | (with_reducible refine HeldP.c_other ?_ ?_) | (with_reducible refine HeldP.c_new (by first | omega | (simp; done) | (simp; omega)) ?_) | (with_reducible refine HeldP.c_alloc ?_ ?_) | (with_reducible refine HeldP.e_drew ?_) | (with_reducible refine HeldP.e_drewN ?_) | (with_reducible refine HeldP.e_set ?_) | (with_reducible refine HeldP.e_new (by first | omega | (simp; done) | (simp; omega)) ⟨_, rfl⟩) | (with_reducible refine HeldP.e_alloc ?_ ?_) | (with_reducible refine HeldP.f_drew ?_) | (with_reducible refine HeldP.f_drewN ?_) | (with_reducible refine HeldP.f_set ?_) | (with_reducible refine HeldP.f_new (by first | omega | (simp; done) | (simp; omega))) | (with_reducible refine HeldP.f_alloc ?_ ?_) | (with_reducible refine HeldP.s_drew ?_) | (with_reducible refine HeldP.s_drewN ?_) | (with_reducible refine HeldP.s_set ?_) | (with_reducible refine HeldP.s_new (by first | omega | (simp; done) | (simp; omega))) | (with_reducible refine HeldP.s_alloc ?_) | (with_reducible exact ⟨_, by assumption⟩) | omega | (intro e; simp at e; done) | (intro e; simp at e; omega) | (exact rfl) | (simp; done) | (simp; omega)))
  clear HBo
  go_region_held3 (fun w' => (w'.cell? ⟨w.heap.size, 0, none⟩ = some (.int .i64 v) ∧ w.heap.size < w'.heap.size) ∧ (w'.cell? ⟨w.heap.size, 1, none⟩ = some (.int .i64 p2) ∧ w.heap.size < w'.heap.size) ∧ (w'.cell? ⟨w.heap.size, 2, none⟩ = some (.int .i64 p3) ∧ w.heap.size < w'.heap.size) ∧ (w'.cell? ⟨w.heap.size + 1, 0, none⟩ = some (.int .i64 v) ∧ w.heap.size + 1 < w'.heap.size) ∧ (w'.cell? ⟨w.heap.size + 1, 1, none⟩ = some (.int .i64 p2) ∧ w.heap.size + 1 < w'.heap.size) ∧ (w'.cell? ⟨w.heap.size + 1, 2, none⟩ = some (.int .i64 p3) ∧ w.heap.size + 1 < w'.heap.size) ∧ w.heap.size ≤ w'.heap.size ∧ Below w.heap.size w w')
    (first | assumption | (exact hS0.drew) | (exact HeldP.CellsB.keep (l := [(w.heap.size, 0, .int .i64 v), (w.heap.size, 1, .int .i64 p2), (w.heap.size, 2, .int .i64 p3), (w.heap.size + 1, 0, .int .i64 v), (w.heap.size + 1, 1, .int .i64 p2), (w.heap.size + 1, 2, .int .i64 p3)]) (by assumption) (by assumption)) | (exact HeldP.CellsB.drew (l := [(w.heap.size, 0, .int .i64 v), (w.heap.size, 1, .int .i64 p2), (w.heap.size, 2, .int .i64 p3), (w.heap.size + 1, 0, .int .i64 v), (w.heap.size + 1, 1, .int .i64 p2), (w.heap.size + 1, 2, .int .i64 p3)]) (by assumption)))
    (first | (go_at_call 12; (with_reducible refine (of_c H1.out _).mono ?_); rintro e w' ⟨rfl, hb⟩) | (go_at_call 11; (with_reducible refine (awake_b _).mono ?_); rintro e w' ⟨rfl, hb⟩))
  go_wp2
  go_ret
  refine ⟨rfl, ?_⟩
  exact HeldP.CellsB.below (l := [(w.heap.size, 0, .int .i64 v), (w.heap.size, 1, .int .i64 p2), (w.heap.size, 2, .int .i64 p3), (w.heap.size + 1, 0, .int .i64 v), (w.heap.size + 1, 1, .int .i64 p2), (w.heap.size + 1, 2, .int .i64 p3)]) (by assumption)

set_option maxRecDepth 100000 in
set_option maxHeartbeats 4000000 in
theorem apart_1d {x y p1 p2 p3 t k v : Int} (x0 : 0 ≤ x) (x1 : x < 18446744073709551616) (y0 : 0 ≤ y) (y1 : y < 18446744073709551616) (bp1 : I64 p1) (bp2 : I64 p2) (bp3 : I64 p3) (bt : I64 t) (hk : bits .and .i64 k 7 = 1) (hv : wrap64 y = v) (bv : I64 v) (hs : ¬ v = p1) (w : World) :
    Calls Try.prog 7 #[.int .u64 x, .int .u64 y, .agg #[.int .i64 p1, .int .i64 p2, .int .i64 p3], .int .i64 t, .int .i64 k] w fun e w' => e = .returned (.bool true) ∧ Below w.heap.size w w' := by
  have hab := mix_eq ⟨x0, x1⟩ ⟨y0, y1⟩
  have hne : (ofI x p1 p2 p3 t == ofI x v p2 p3 t) = false := beq_eq_false_iff_ne.2 fun e => hs (of_x bp1 bv e).symm
  have hs' : (v == p1) = false := beq_eq_false_iff_ne.2 hs
  clear hs
  obtain ⟨r2, h2⟩ : ∃ r, ofI x v p2 p3 t = r := ⟨_, rfl⟩
  rw [h2] at hne
  obtain ⟨r, h1⟩ : ∃ r, ofI x p1 p2 p3 t = r := ⟨_, rfl⟩
  rw [h1] at hne
  have H2 := Lib.hid h2
  clear h2
  have H1 := Lib.hid h1
  clear h1
  go_enter Try.func7, Try.ntmps7
  go_wp2_with (go_at_call 9; refine (mix_c rfl _).mono ?_; rintro e w' ⟨rfl, rfl⟩)
  skip
  refine HeldP.wp_named (fun w' => w'.cell? ⟨w.heap.size, 0, none⟩ = some (.int .i64 p1) ∧ w'.cell? ⟨w.heap.size, 1, none⟩ = some (.int .i64 p2) ∧ w'.cell? ⟨w.heap.size, 2, none⟩ = some (.int .i64 p3) ∧ w.heap.size < w'.heap.size ∧ w'.cell? ⟨w.heap.size + 1, 0, none⟩ = some (.int .i64 v) ∧ w'.cell? ⟨w.heap.size + 1, 1, none⟩ = some (.int .i64 p2) ∧ w'.cell? ⟨w.heap.size + 1, 2, none⟩ = some (.int .i64 p3) ∧ w.heap.size + 1 < w'.heap.size ∧ Below w.heap.size w w') (by (refine ⟨?_, ?_, ?_, ?_, ?_, ?_, ?_, ?_, by (repeat' (first | (with_reducible exact Below.refl _ _) | (with_reducible refine Below.setCell ?_ (by (first | omega | (simp; done) | (simp; omega))) _) | (with_reducible refine Below.alloc ?_ (by (first | omega | (simp; done) | (simp; omega))) _) | (with_reducible refine Below.drew ?_) | (with_reducible refine below_drewN ?_ _)))⟩); all_goals (repeat' (first | (with_reducible assumption) | (with_reducible refine HeldP.c_drew ?_) | (with_reducible refine HeldP.c_drewN ?_) | (with_reducible refine HeldP.c_same (by omega) ?_) | (with_reducible refine HeldP.c_other ?_ ?_) | (with_reducible refine HeldP.c_new (by first | omega | (simp; done) | (simp; omega)) ?_) | (with_reducible refine HeldP.c_alloc ?_ ?_) | (with_reducible refine HeldP.e_drew ?_) | (with_reducible refine HeldP.e_drewN ?_) | (with_reducible refine HeldP.e_set ?_) | (with_reducible refine HeldP.e_new (by first | omega | (simp; done) | (simp; omega)) ⟨_, rfl⟩) | (with_reducible refine HeldP.e_alloc ?_ ?_) | (with_reducible refine HeldP.f_drew ?_) | (with_reducible refine HeldP.f_drewN ?_) | (with_reducible refine HeldP.f_set ?_) | (with_reducible refine HeldP.f_new (by first | omega | (simp; done) | (simp; omega))) | (with_reducible refine HeldP.f_alloc ?_ ?_) | (with_reducible refine HeldP.s_drew ?_) | (with_reducible refine HeldP.s_drewN ?_) | (with_reducible refine HeldP.s_set ?_) | (with_reducible refine HeldP.s_new (by first | omega | (simp; done) | (simp; omega))) | (with_reducible refine HeldP.s_alloc ?_) | (with_reducible exact ⟨_, by assumption⟩) | omega | (intro e; simp at e; done) | (intro e; simp at e; omega) | (exact rfl) | (simp; done) | (simp; omega)))) ?_
  skip
  rintro w1 ⟨c1_0_0, c1_0_1, c1_0_2, l1_0, c1_1_0, c1_1_1, c1_1_2, l1_1, HBn⟩
  have n1_0 : w.heap.size ≠ w1.heap.size := (by omega)
  have n1_1 : w.heap.size + 1 ≠ w1.heap.size := (by omega)
  have z1 : w.heap.size ≤ w1.heap.size := (by omega)
  have HB1 := Lib.hid HBn
  clear HBn
  have HBo := HB1.out
  have hS0 : HeldP.CellsB w (w1) ([(w.heap.size, 0, .int .i64 p1), (w.heap.size, 1, .int .i64 p2), (w.heap.size, 2, .int .i64 p3), (w.heap.size + 1, 0, .int .i64 v), (w.heap.size + 1, 1, .int .i64 p2), (w.heap.size + 1, 2, .int .i64 p3)] : List (Nat × Nat × Value)) := by
    refine HeldP.CellsB.one ?_ ?_ (HeldP.CellsB.one ?_ ?_ (HeldP.CellsB.one ?_ ?_ (HeldP.CellsB.one ?_ ?_ (HeldP.CellsB.one ?_ ?_ (HeldP.CellsB.one ?_ ?_ (HeldP.CellsB.nil (by first | omega | (simp; done) | (simp; omega)) (by (repeat' (first | (with_reducible exact Below.refl _ _) | (with_reducible refine Below.setCell ?_ (by (first | omega | (simp; done) | (simp; omega))) _) | (with_reducible refine Below.alloc ?_ (by (first | omega | (simp; done) | (simp; omega))) _) | (with_reducible refine Below.drew ?_) | (with_reducible refine below_drewN ?_ _) | (with_reducible refine Below.trans ?_ (Below.mono HBo (by (first | omega | (simp; done) | (simp; omega))))))))))))))
    all_goals (repeat' (first | (with_reducible assumption) | (with_reducible refine HeldP.c_drew ?_) | (with_reducible refine HeldP.c_drewN ?_) | (with_reducible refine HeldP.c_same (by omega) ?_) | (with_reducible refine HeldP.c_other ?_ ?_) | (with_reducible refine HeldP.c_new (by first | omega | (simp; done) | (simp; omega)) ?_) | (with_reducible refine HeldP.c_alloc ?_ ?_) | (with_reducible refine HeldP.e_drew ?_) | (with_reducible refine HeldP.e_drewN ?_) | (with_reducible refine HeldP.e_set ?_) | (with_reducible refine HeldP.e_new (by first | omega | (simp; done) | (simp; omega)) ⟨_, rfl⟩) | (with_reducible refine HeldP.e_alloc ?_ ?_) | (with_reducible refine HeldP.f_drew ?_) | (with_reducible refine HeldP.f_drewN ?_) | (with_reducible refine HeldP.f_set ?_) | (with_reducible refine HeldP.f_new (by first | omega | (simp; done) | (simp; omega))) | (with_reducible refine HeldP.f_alloc ?_ ?_) | (with_reducible refine HeldP.s_drew ?_) | (with_reducible refine HeldP.s_drewN ?_) | (with_reducible refine HeldP.s_set ?_) | (with_reducible refine HeldP.s_new (by first | omega | (simp; done) | (simp; omega))) | (with_reducible refine HeldP.s_alloc ?_) | (with_reducible exact ⟨_, by assumption⟩) | omega | (intro e; simp at e; done) | (intro e; simp at e; omega) | (exact rfl) | (simp; done) | (simp; omega)))
  clear HBo
  go_region_held3 (fun w' => (w'.cell? ⟨w.heap.size, 0, none⟩ = some (.int .i64 p1) ∧ w.heap.size < w'.heap.size) ∧ (w'.cell? ⟨w.heap.size, 1, none⟩ = some (.int .i64 p2) ∧ w.heap.size < w'.heap.size) ∧ (w'.cell? ⟨w.heap.size, 2, none⟩ = some (.int .i64 p3) ∧ w.heap.size < w'.heap.size) ∧ (w'.cell? ⟨w.heap.size + 1, 0, none⟩ = some (.int .i64 v) ∧ w.heap.size + 1 < w'.heap.size) ∧ (w'.cell? ⟨w.heap.size + 1, 1, none⟩ = some (.int .i64 p2) ∧ w.heap.size + 1 < w'.heap.size) ∧ (w'.cell? ⟨w.heap.size + 1, 2, none⟩ = some (.int .i64 p3) ∧ w.heap.size + 1 < w'.heap.size) ∧ w.heap.size ≤ w'.heap.size ∧ Below w.heap.size w w')
    (first | assumption | (exact hS0.drew) | (exact HeldP.CellsB.keep (l := [(w.heap.size, 0, .int .i64 p1), (w.heap.size, 1, .int .i64 p2), (w.heap.size, 2, .int .i64 p3), (w.heap.size + 1, 0, .int .i64 v), (w.heap.size + 1, 1, .int .i64 p2), (w.heap.size + 1, 2, .int .i64 p3)]) (by assumption) (by assumption)) | (exact HeldP.CellsB.drew (l := [(w.heap.size, 0, .int .i64 p1), (w.heap.size, 1, .int .i64 p2), (w.heap.size, 2, .int .i64 p3), (w.heap.size + 1, 0, .int .i64 v), (w.heap.size + 1, 1, .int .i64 p2), (w.heap.size + 1, 2, .int .i64 p3)]) (by assumption)))
    (first | (go_at_call 12; (with_reducible refine (of_c H1.out _).mono ?_); rintro e w' ⟨rfl, hb⟩) | (go_at_call 12; (with_reducible refine (of_c H2.out _).mono ?_); rintro e w' ⟨rfl, hb⟩) | (go_at_call 11; (with_reducible refine (awake_b _).mono ?_); rintro e w' ⟨rfl, hb⟩))
  go_wp2
  go_ret
  refine ⟨rfl, ?_⟩
  exact HeldP.CellsB.below (l := [(w.heap.size, 0, .int .i64 p1), (w.heap.size, 1, .int .i64 p2), (w.heap.size, 2, .int .i64 p3), (w.heap.size + 1, 0, .int .i64 v), (w.heap.size + 1, 1, .int .i64 p2), (w.heap.size + 1, 2, .int .i64 p3)]) (by assumption)

set_option maxRecDepth 100000 in
set_option maxHeartbeats 4000000 in
theorem apart_2s {x y p1 p2 p3 t k v : Int} (x0 : 0 ≤ x) (x1 : x < 18446744073709551616) (y0 : 0 ≤ y) (y1 : y < 18446744073709551616) (bp1 : I64 p1) (bp2 : I64 p2) (bp3 : I64 p3) (bt : I64 t) (hk : bits .and .i64 k 7 = 2) (hv : wrap64 y = v) (bv : I64 v) (hs : v = p2) (w : World) :
    Calls Try.prog 7 #[.int .u64 x, .int .u64 y, .agg #[.int .i64 p1, .int .i64 p2, .int .i64 p3], .int .i64 t, .int .i64 k] w fun e w' => e = .returned (.bool true) ∧ Below w.heap.size w w' := by
  have hab := mix_eq ⟨x0, x1⟩ ⟨y0, y1⟩
  subst hs
  obtain ⟨r, h1⟩ : ∃ r, ofI x p1 v p3 t = r := ⟨_, rfl⟩
  have H1 := Lib.hid h1
  clear h1
  go_enter Try.func7, Try.ntmps7
  go_wp2_with (go_at_call 9; refine (mix_c rfl _).mono ?_; rintro e w' ⟨rfl, rfl⟩)
  skip
  refine HeldP.wp_named (fun w' => w'.cell? ⟨w.heap.size, 0, none⟩ = some (.int .i64 p1) ∧ w'.cell? ⟨w.heap.size, 1, none⟩ = some (.int .i64 v) ∧ w'.cell? ⟨w.heap.size, 2, none⟩ = some (.int .i64 p3) ∧ w.heap.size < w'.heap.size ∧ w'.cell? ⟨w.heap.size + 1, 0, none⟩ = some (.int .i64 p1) ∧ w'.cell? ⟨w.heap.size + 1, 1, none⟩ = some (.int .i64 v) ∧ w'.cell? ⟨w.heap.size + 1, 2, none⟩ = some (.int .i64 p3) ∧ w.heap.size + 1 < w'.heap.size ∧ Below w.heap.size w w') (by (refine ⟨?_, ?_, ?_, ?_, ?_, ?_, ?_, ?_, by (repeat' (first | (with_reducible exact Below.refl _ _) | (with_reducible refine Below.setCell ?_ (by (first | omega | (simp; done) | (simp; omega))) _) | (with_reducible refine Below.alloc ?_ (by (first | omega | (simp; done) | (simp; omega))) _) | (with_reducible refine Below.drew ?_) | (with_reducible refine below_drewN ?_ _)))⟩); all_goals (repeat' (first | (with_reducible assumption) | (with_reducible refine HeldP.c_drew ?_) | (with_reducible refine HeldP.c_drewN ?_) | (with_reducible refine HeldP.c_same (by omega) ?_) | (with_reducible refine HeldP.c_other ?_ ?_) | (with_reducible refine HeldP.c_new (by first | omega | (simp; done) | (simp; omega)) ?_) | (with_reducible refine HeldP.c_alloc ?_ ?_) | (with_reducible refine HeldP.e_drew ?_) | (with_reducible refine HeldP.e_drewN ?_) | (with_reducible refine HeldP.e_set ?_) | (with_reducible refine HeldP.e_new (by first | omega | (simp; done) | (simp; omega)) ⟨_, rfl⟩) | (with_reducible refine HeldP.e_alloc ?_ ?_) | (with_reducible refine HeldP.f_drew ?_) | (with_reducible refine HeldP.f_drewN ?_) | (with_reducible refine HeldP.f_set ?_) | (with_reducible refine HeldP.f_new (by first | omega | (simp; done) | (simp; omega))) | (with_reducible refine HeldP.f_alloc ?_ ?_) | (with_reducible refine HeldP.s_drew ?_) | (with_reducible refine HeldP.s_drewN ?_) | (with_reducible refine HeldP.s_set ?_) | (with_reducible refine HeldP.s_new (by first | omega | (simp; done) | (simp; omega))) | (with_reducible refine HeldP.s_alloc ?_) | (with_reducible exact ⟨_, by assumption⟩) | omega | (intro e; simp at e; done) | (intro e; simp at e; omega) | (exact rfl) | (simp; done) | (simp; omega)))) ?_
  skip
  rintro w1 ⟨c1_0_0, c1_0_1, c1_0_2, l1_0, c1_1_0, c1_1_1, c1_1_2, l1_1, HBn⟩
  have n1_0 : w.heap.size ≠ w1.heap.size := (by omega)
  have n1_1 : w.heap.size + 1 ≠ w1.heap.size := (by omega)
  have z1 : w.heap.size ≤ w1.heap.size := (by omega)
  have HB1 := Lib.hid HBn
  clear HBn
  have HBo := HB1.out
  have hS0 : HeldP.CellsB w (w1) ([(w.heap.size, 0, .int .i64 p1), (w.heap.size, 1, .int .i64 v), (w.heap.size, 2, .int .i64 p3), (w.heap.size + 1, 0, .int .i64 p1), (w.heap.size + 1, 1, .int .i64 v), (w.heap.size + 1, 2, .int .i64 p3)] : List (Nat × Nat × Value)) := by
    refine HeldP.CellsB.one ?_ ?_ (HeldP.CellsB.one ?_ ?_ (HeldP.CellsB.one ?_ ?_ (HeldP.CellsB.one ?_ ?_ (HeldP.CellsB.one ?_ ?_ (HeldP.CellsB.one ?_ ?_ (HeldP.CellsB.nil (by first | omega | (simp; done) | (simp; omega)) (by (repeat' (first | (with_reducible exact Below.refl _ _) | (with_reducible refine Below.setCell ?_ (by (first | omega | (simp; done) | (simp; omega))) _) | (with_reducible refine Below.alloc ?_ (by (first | omega | (simp; done) | (simp; omega))) _) | (with_reducible refine Below.drew ?_) | (with_reducible refine below_drewN ?_ _) | (with_reducible refine Below.trans ?_ (Below.mono HBo (by (first | omega | (simp; done) | (simp; omega))))))))))))))
    all_goals (repeat' (first | (with_reducible assumption) | (with_reducible refine HeldP.c_drew ?_) | (with_reducible refine HeldP.c_drewN ?_) | (with_reducible refine HeldP.c_same (by omega) ?_) | (with_reducible refine HeldP.c_other ?_ ?_) | (with_reducible refine HeldP.c_new (by first | omega | (simp; done) | (simp; omega)) ?_) | (with_reducible refine HeldP.c_alloc ?_ ?_) | (with_reducible refine HeldP.e_drew ?_) | (with_reducible refine HeldP.e_drewN ?_) | (with_reducible refine HeldP.e_set ?_) | (with_reducible refine HeldP.e_new (by first | omega | (simp; done) | (simp; omega)) ⟨_, rfl⟩) | (with_reducible refine HeldP.e_alloc ?_ ?_) | (with_reducible refine HeldP.f_drew ?_) | (with_reducible refine HeldP.f_drewN ?_) | (with_reducible refine HeldP.f_set ?_) | (with_reducible refine HeldP.f_new (by first | omega | (simp; done) | (simp; omega))) | (with_reducible refine HeldP.f_alloc ?_ ?_) | (with_reducible refine HeldP.s_drew ?_) | (with_reducible refine HeldP.s_drewN ?_) | (with_reducible refine HeldP.s_set ?_) | (with_reducible refine HeldP.s_new (by first | omega | (simp; done) | (simp; omega))) | (with_reducible refine HeldP.s_alloc ?_) | (with_reducible exact ⟨_, by assumption⟩) | omega | (intro e; simp at e; done) | (intro e; simp at e; omega) | (exact rfl) | (simp; done) | (simp; omega)))
  clear HBo
  go_region_held3 (fun w' => (w'.cell? ⟨w.heap.size, 0, none⟩ = some (.int .i64 p1) ∧ w.heap.size < w'.heap.size) ∧ (w'.cell? ⟨w.heap.size, 1, none⟩ = some (.int .i64 v) ∧ w.heap.size < w'.heap.size) ∧ (w'.cell? ⟨w.heap.size, 2, none⟩ = some (.int .i64 p3) ∧ w.heap.size < w'.heap.size) ∧ (w'.cell? ⟨w.heap.size + 1, 0, none⟩ = some (.int .i64 p1) ∧ w.heap.size + 1 < w'.heap.size) ∧ (w'.cell? ⟨w.heap.size + 1, 1, none⟩ = some (.int .i64 v) ∧ w.heap.size + 1 < w'.heap.size) ∧ (w'.cell? ⟨w.heap.size + 1, 2, none⟩ = some (.int .i64 p3) ∧ w.heap.size + 1 < w'.heap.size) ∧ w.heap.size ≤ w'.heap.size ∧ Below w.heap.size w w')
    (first | assumption | (exact hS0.drew) | (exact HeldP.CellsB.keep (l := [(w.heap.size, 0, .int .i64 p1), (w.heap.size, 1, .int .i64 v), (w.heap.size, 2, .int .i64 p3), (w.heap.size + 1, 0, .int .i64 p1), (w.heap.size + 1, 1, .int .i64 v), (w.heap.size + 1, 2, .int .i64 p3)]) (by assumption) (by assumption)) | (exact HeldP.CellsB.drew (l := [(w.heap.size, 0, .int .i64 p1), (w.heap.size, 1, .int .i64 v), (w.heap.size, 2, .int .i64 p3), (w.heap.size + 1, 0, .int .i64 p1), (w.heap.size + 1, 1, .int .i64 v), (w.heap.size + 1, 2, .int .i64 p3)]) (by assumption)))
    (first | (go_at_call 12; (with_reducible refine (of_c H1.out _).mono ?_); rintro e w' ⟨rfl, hb⟩) | (go_at_call 11; (with_reducible refine (awake_b _).mono ?_); rintro e w' ⟨rfl, hb⟩))
  go_wp2
  go_ret
  refine ⟨rfl, ?_⟩
  exact HeldP.CellsB.below (l := [(w.heap.size, 0, .int .i64 p1), (w.heap.size, 1, .int .i64 v), (w.heap.size, 2, .int .i64 p3), (w.heap.size + 1, 0, .int .i64 p1), (w.heap.size + 1, 1, .int .i64 v), (w.heap.size + 1, 2, .int .i64 p3)]) (by assumption)

set_option maxRecDepth 100000 in
set_option maxHeartbeats 4000000 in
theorem apart_2d {x y p1 p2 p3 t k v : Int} (x0 : 0 ≤ x) (x1 : x < 18446744073709551616) (y0 : 0 ≤ y) (y1 : y < 18446744073709551616) (bp1 : I64 p1) (bp2 : I64 p2) (bp3 : I64 p3) (bt : I64 t) (hk : bits .and .i64 k 7 = 2) (hv : wrap64 y = v) (bv : I64 v) (hs : ¬ v = p2) (w : World) :
    Calls Try.prog 7 #[.int .u64 x, .int .u64 y, .agg #[.int .i64 p1, .int .i64 p2, .int .i64 p3], .int .i64 t, .int .i64 k] w fun e w' => e = .returned (.bool true) ∧ Below w.heap.size w w' := by
  have hab := mix_eq ⟨x0, x1⟩ ⟨y0, y1⟩
  have hne : (ofI x p1 p2 p3 t == ofI x p1 v p3 t) = false := beq_eq_false_iff_ne.2 fun e => hs (of_y bp2 bv e).symm
  have hs' : (v == p2) = false := beq_eq_false_iff_ne.2 hs
  clear hs
  obtain ⟨r2, h2⟩ : ∃ r, ofI x p1 v p3 t = r := ⟨_, rfl⟩
  rw [h2] at hne
  obtain ⟨r, h1⟩ : ∃ r, ofI x p1 p2 p3 t = r := ⟨_, rfl⟩
  rw [h1] at hne
  have H2 := Lib.hid h2
  clear h2
  have H1 := Lib.hid h1
  clear h1
  go_enter Try.func7, Try.ntmps7
  go_wp2_with (go_at_call 9; refine (mix_c rfl _).mono ?_; rintro e w' ⟨rfl, rfl⟩)
  skip
  refine HeldP.wp_named (fun w' => w'.cell? ⟨w.heap.size, 0, none⟩ = some (.int .i64 p1) ∧ w'.cell? ⟨w.heap.size, 1, none⟩ = some (.int .i64 p2) ∧ w'.cell? ⟨w.heap.size, 2, none⟩ = some (.int .i64 p3) ∧ w.heap.size < w'.heap.size ∧ w'.cell? ⟨w.heap.size + 1, 0, none⟩ = some (.int .i64 p1) ∧ w'.cell? ⟨w.heap.size + 1, 1, none⟩ = some (.int .i64 v) ∧ w'.cell? ⟨w.heap.size + 1, 2, none⟩ = some (.int .i64 p3) ∧ w.heap.size + 1 < w'.heap.size ∧ Below w.heap.size w w') (by (refine ⟨?_, ?_, ?_, ?_, ?_, ?_, ?_, ?_, by (repeat' (first | (with_reducible exact Below.refl _ _) | (with_reducible refine Below.setCell ?_ (by (first | omega | (simp; done) | (simp; omega))) _) | (with_reducible refine Below.alloc ?_ (by (first | omega | (simp; done) | (simp; omega))) _) | (with_reducible refine Below.drew ?_) | (with_reducible refine below_drewN ?_ _)))⟩); all_goals (repeat' (first | (with_reducible assumption) | (with_reducible refine HeldP.c_drew ?_) | (with_reducible refine HeldP.c_drewN ?_) | (with_reducible refine HeldP.c_same (by omega) ?_) | (with_reducible refine HeldP.c_other ?_ ?_) | (with_reducible refine HeldP.c_new (by first | omega | (simp; done) | (simp; omega)) ?_) | (with_reducible refine HeldP.c_alloc ?_ ?_) | (with_reducible refine HeldP.e_drew ?_) | (with_reducible refine HeldP.e_drewN ?_) | (with_reducible refine HeldP.e_set ?_) | (with_reducible refine HeldP.e_new (by first | omega | (simp; done) | (simp; omega)) ⟨_, rfl⟩) | (with_reducible refine HeldP.e_alloc ?_ ?_) | (with_reducible refine HeldP.f_drew ?_) | (with_reducible refine HeldP.f_drewN ?_) | (with_reducible refine HeldP.f_set ?_) | (with_reducible refine HeldP.f_new (by first | omega | (simp; done) | (simp; omega))) | (with_reducible refine HeldP.f_alloc ?_ ?_) | (with_reducible refine HeldP.s_drew ?_) | (with_reducible refine HeldP.s_drewN ?_) | (with_reducible refine HeldP.s_set ?_) | (with_reducible refine HeldP.s_new (by first | omega | (simp; done) | (simp; omega))) | (with_reducible refine HeldP.s_alloc ?_) | (with_reducible exact ⟨_, by assumption⟩) | omega | (intro e; simp at e; done) | (intro e; simp at e; omega) | (exact rfl) | (simp; done) | (simp; omega)))) ?_
  skip
  rintro w1 ⟨c1_0_0, c1_0_1, c1_0_2, l1_0, c1_1_0, c1_1_1, c1_1_2, l1_1, HBn⟩
  have n1_0 : w.heap.size ≠ w1.heap.size := (by omega)
  have n1_1 : w.heap.size + 1 ≠ w1.heap.size := (by omega)
  have z1 : w.heap.size ≤ w1.heap.size := (by omega)
  have HB1 := Lib.hid HBn
  clear HBn
  have HBo := HB1.out
  have hS0 : HeldP.CellsB w (w1) ([(w.heap.size, 0, .int .i64 p1), (w.heap.size, 1, .int .i64 p2), (w.heap.size, 2, .int .i64 p3), (w.heap.size + 1, 0, .int .i64 p1), (w.heap.size + 1, 1, .int .i64 v), (w.heap.size + 1, 2, .int .i64 p3)] : List (Nat × Nat × Value)) := by
    refine HeldP.CellsB.one ?_ ?_ (HeldP.CellsB.one ?_ ?_ (HeldP.CellsB.one ?_ ?_ (HeldP.CellsB.one ?_ ?_ (HeldP.CellsB.one ?_ ?_ (HeldP.CellsB.one ?_ ?_ (HeldP.CellsB.nil (by first | omega | (simp; done) | (simp; omega)) (by (repeat' (first | (with_reducible exact Below.refl _ _) | (with_reducible refine Below.setCell ?_ (by (first | omega | (simp; done) | (simp; omega))) _) | (with_reducible refine Below.alloc ?_ (by (first | omega | (simp; done) | (simp; omega))) _) | (with_reducible refine Below.drew ?_) | (with_reducible refine below_drewN ?_ _) | (with_reducible refine Below.trans ?_ (Below.mono HBo (by (first | omega | (simp; done) | (simp; omega))))))))))))))
    all_goals (repeat' (first | (with_reducible assumption) | (with_reducible refine HeldP.c_drew ?_) | (with_reducible refine HeldP.c_drewN ?_) | (with_reducible refine HeldP.c_same (by omega) ?_) | (with_reducible refine HeldP.c_other ?_ ?_) | (with_reducible refine HeldP.c_new (by first | omega | (simp; done) | (simp; omega)) ?_) | (with_reducible refine HeldP.c_alloc ?_ ?_) | (with_reducible refine HeldP.e_drew ?_) | (with_reducible refine HeldP.e_drewN ?_) | (with_reducible refine HeldP.e_set ?_) | (with_reducible refine HeldP.e_new (by first | omega | (simp; done) | (simp; omega)) ⟨_, rfl⟩) | (with_reducible refine HeldP.e_alloc ?_ ?_) | (with_reducible refine HeldP.f_drew ?_) | (with_reducible refine HeldP.f_drewN ?_) | (with_reducible refine HeldP.f_set ?_) | (with_reducible refine HeldP.f_new (by first | omega | (simp; done) | (simp; omega))) | (with_reducible refine HeldP.f_alloc ?_ ?_) | (with_reducible refine HeldP.s_drew ?_) | (with_reducible refine HeldP.s_drewN ?_) | (with_reducible refine HeldP.s_set ?_) | (with_reducible refine HeldP.s_new (by first | omega | (simp; done) | (simp; omega))) | (with_reducible refine HeldP.s_alloc ?_) | (with_reducible exact ⟨_, by assumption⟩) | omega | (intro e; simp at e; done) | (intro e; simp at e; omega) | (exact rfl) | (simp; done) | (simp; omega)))
  clear HBo
  go_region_held3 (fun w' => (w'.cell? ⟨w.heap.size, 0, none⟩ = some (.int .i64 p1) ∧ w.heap.size < w'.heap.size) ∧ (w'.cell? ⟨w.heap.size, 1, none⟩ = some (.int .i64 p2) ∧ w.heap.size < w'.heap.size) ∧ (w'.cell? ⟨w.heap.size, 2, none⟩ = some (.int .i64 p3) ∧ w.heap.size < w'.heap.size) ∧ (w'.cell? ⟨w.heap.size + 1, 0, none⟩ = some (.int .i64 p1) ∧ w.heap.size + 1 < w'.heap.size) ∧ (w'.cell? ⟨w.heap.size + 1, 1, none⟩ = some (.int .i64 v) ∧ w.heap.size + 1 < w'.heap.size) ∧ (w'.cell? ⟨w.heap.size + 1, 2, none⟩ = some (.int .i64 p3) ∧ w.heap.size + 1 < w'.heap.size) ∧ w.heap.size ≤ w'.heap.size ∧ Below w.heap.size w w')
    (first | assumption | (exact hS0.drew) | (exact HeldP.CellsB.keep (l := [(w.heap.size, 0, .int .i64 p1), (w.heap.size, 1, .int .i64 p2), (w.heap.size, 2, .int .i64 p3), (w.heap.size + 1, 0, .int .i64 p1), (w.heap.size + 1, 1, .int .i64 v), (w.heap.size + 1, 2, .int .i64 p3)]) (by assumption) (by assumption)) | (exact HeldP.CellsB.drew (l := [(w.heap.size, 0, .int .i64 p1), (w.heap.size, 1, .int .i64 p2), (w.heap.size, 2, .int .i64 p3), (w.heap.size + 1, 0, .int .i64 p1), (w.heap.size + 1, 1, .int .i64 v), (w.heap.size + 1, 2, .int .i64 p3)]) (by assumption)))
    (first | (go_at_call 12; (with_reducible refine (of_c H1.out _).mono ?_); rintro e w' ⟨rfl, hb⟩) | (go_at_call 12; (with_reducible refine (of_c H2.out _).mono ?_); rintro e w' ⟨rfl, hb⟩) | (go_at_call 11; (with_reducible refine (awake_b _).mono ?_); rintro e w' ⟨rfl, hb⟩))
  go_wp2
  go_ret
  refine ⟨rfl, ?_⟩
  exact HeldP.CellsB.below (l := [(w.heap.size, 0, .int .i64 p1), (w.heap.size, 1, .int .i64 p2), (w.heap.size, 2, .int .i64 p3), (w.heap.size + 1, 0, .int .i64 p1), (w.heap.size + 1, 1, .int .i64 v), (w.heap.size + 1, 2, .int .i64 p3)]) (by assumption)

set_option maxRecDepth 100000 in
set_option maxHeartbeats 4000000 in
theorem apart_3s {x y p1 p2 p3 t k v : Int} (x0 : 0 ≤ x) (x1 : x < 18446744073709551616) (y0 : 0 ≤ y) (y1 : y < 18446744073709551616) (bp1 : I64 p1) (bp2 : I64 p2) (bp3 : I64 p3) (bt : I64 t) (hk : bits .and .i64 k 7 = 3) (hv : wrap64 y = v) (bv : I64 v) (hs : v = p3) (w : World) :
    Calls Try.prog 7 #[.int .u64 x, .int .u64 y, .agg #[.int .i64 p1, .int .i64 p2, .int .i64 p3], .int .i64 t, .int .i64 k] w fun e w' => e = .returned (.bool true) ∧ Below w.heap.size w w' := by
  have hab := mix_eq ⟨x0, x1⟩ ⟨y0, y1⟩
  subst hs
  obtain ⟨r, h1⟩ : ∃ r, ofI x p1 p2 v t = r := ⟨_, rfl⟩
  have H1 := Lib.hid h1
  clear h1
  go_enter Try.func7, Try.ntmps7
  go_wp2_with (go_at_call 9; refine (mix_c rfl _).mono ?_; rintro e w' ⟨rfl, rfl⟩)
  skip
  refine HeldP.wp_named (fun w' => w'.cell? ⟨w.heap.size, 0, none⟩ = some (.int .i64 p1) ∧ w'.cell? ⟨w.heap.size, 1, none⟩ = some (.int .i64 p2) ∧ w'.cell? ⟨w.heap.size, 2, none⟩ = some (.int .i64 v) ∧ w.heap.size < w'.heap.size ∧ w'.cell? ⟨w.heap.size + 1, 0, none⟩ = some (.int .i64 p1) ∧ w'.cell? ⟨w.heap.size + 1, 1, none⟩ = some (.int .i64 p2) ∧ w'.cell? ⟨w.heap.size + 1, 2, none⟩ = some (.int .i64 v) ∧ w.heap.size + 1 < w'.heap.size ∧ Below w.heap.size w w') (by (refine ⟨?_, ?_, ?_, ?_, ?_, ?_, ?_, ?_, by (repeat' (first | (with_reducible exact Below.refl _ _) | (with_reducible refine Below.setCell ?_ (by (first | omega | (simp; done) | (simp; omega))) _) | (with_reducible refine Below.alloc ?_ (by (first | omega | (simp; done) | (simp; omega))) _) | (with_reducible refine Below.drew ?_) | (with_reducible refine below_drewN ?_ _)))⟩); all_goals (repeat' (first | (with_reducible assumption) | (with_reducible refine HeldP.c_drew ?_) | (with_reducible refine HeldP.c_drewN ?_) | (with_reducible refine HeldP.c_same (by omega) ?_) | (with_reducible refine HeldP.c_other ?_ ?_) | (with_reducible refine HeldP.c_new (by first | omega | (simp; done) | (simp; omega)) ?_) | (with_reducible refine HeldP.c_alloc ?_ ?_) | (with_reducible refine HeldP.e_drew ?_) | (with_reducible refine HeldP.e_drewN ?_) | (with_reducible refine HeldP.e_set ?_) | (with_reducible refine HeldP.e_new (by first | omega | (simp; done) | (simp; omega)) ⟨_, rfl⟩) | (with_reducible refine HeldP.e_alloc ?_ ?_) | (with_reducible refine HeldP.f_drew ?_) | (with_reducible refine HeldP.f_drewN ?_) | (with_reducible refine HeldP.f_set ?_) | (with_reducible refine HeldP.f_new (by first | omega | (simp; done) | (simp; omega))) | (with_reducible refine HeldP.f_alloc ?_ ?_) | (with_reducible refine HeldP.s_drew ?_) | (with_reducible refine HeldP.s_drewN ?_) | (with_reducible refine HeldP.s_set ?_) | (with_reducible refine HeldP.s_new (by first | omega | (simp; done) | (simp; omega))) | (with_reducible refine HeldP.s_alloc ?_) | (with_reducible exact ⟨_, by assumption⟩) | omega | (intro e; simp at e; done) | (intro e; simp at e; omega) | (exact rfl) | (simp; done) | (simp; omega)))) ?_
  skip
  rintro w1 ⟨c1_0_0, c1_0_1, c1_0_2, l1_0, c1_1_0, c1_1_1, c1_1_2, l1_1, HBn⟩
  have n1_0 : w.heap.size ≠ w1.heap.size := (by omega)
  have n1_1 : w.heap.size + 1 ≠ w1.heap.size := (by omega)
  have z1 : w.heap.size ≤ w1.heap.size := (by omega)
  have HB1 := Lib.hid HBn
  clear HBn
  have HBo := HB1.out
  have hS0 : HeldP.CellsB w (w1) ([(w.heap.size, 0, .int .i64 p1), (w.heap.size, 1, .int .i64 p2), (w.heap.size, 2, .int .i64 v), (w.heap.size + 1, 0, .int .i64 p1), (w.heap.size + 1, 1, .int .i64 p2), (w.heap.size + 1, 2, .int .i64 v)] : List (Nat × Nat × Value)) := by
    refine HeldP.CellsB.one ?_ ?_ (HeldP.CellsB.one ?_ ?_ (HeldP.CellsB.one ?_ ?_ (HeldP.CellsB.one ?_ ?_ (HeldP.CellsB.one ?_ ?_ (HeldP.CellsB.one ?_ ?_ (HeldP.CellsB.nil (by first | omega | (simp; done) | (simp; omega)) (by (repeat' (first | (with_reducible exact Below.refl _ _) | (with_reducible refine Below.setCell ?_ (by (first | omega | (simp; done) | (simp; omega))) _) | (with_reducible refine Below.alloc ?_ (by (first | omega | (simp; done) | (simp; omega))) _) | (with_reducible refine Below.drew ?_) | (with_reducible refine below_drewN ?_ _) | (with_reducible refine Below.trans ?_ (Below.mono HBo (by (first | omega | (simp; done) | (simp; omega))))))))))))))
    all_goals (repeat' (first | (with_reducible assumption) | (with_reducible refine HeldP.c_drew ?_) | (with_reducible refine HeldP.c_drewN ?_) | (with_reducible refine HeldP.c_same (by omega) ?_) | (with_reducible refine HeldP.c_other ?_ ?_) | (with_reducible refine HeldP.c_new (by first | omega | (simp; done) | (simp; omega)) ?_) | (with_reducible refine HeldP.c_alloc ?_ ?_) | (with_reducible refine HeldP.e_drew ?_) | (with_reducible refine HeldP.e_drewN ?_) | (with_reducible refine HeldP.e_set ?_) | (with_reducible refine HeldP.e_new (by first | omega | (simp; done) | (simp; omega)) ⟨_, rfl⟩) | (with_reducible refine HeldP.e_alloc ?_ ?_) | (with_reducible refine HeldP.f_drew ?_) | (with_reducible refine HeldP.f_drewN ?_) | (with_reducible refine HeldP.f_set ?_) | (with_reducible refine HeldP.f_new (by first | omega | (simp; done) | (simp; omega))) | (with_reducible refine HeldP.f_alloc ?_ ?_) | (with_reducible refine HeldP.s_drew ?_) | (with_reducible refine HeldP.s_drewN ?_) | (with_reducible refine HeldP.s_set ?_) | (with_reducible refine HeldP.s_new (by first | omega | (simp; done) | (simp; omega))) | (with_reducible refine HeldP.s_alloc ?_) | (with_reducible exact ⟨_, by assumption⟩) | omega | (intro e; simp at e; done) | (intro e; simp at e; omega) | (exact rfl) | (simp; done) | (simp; omega)))
  clear HBo
  go_region_held3 (fun w' => (w'.cell? ⟨w.heap.size, 0, none⟩ = some (.int .i64 p1) ∧ w.heap.size < w'.heap.size) ∧ (w'.cell? ⟨w.heap.size, 1, none⟩ = some (.int .i64 p2) ∧ w.heap.size < w'.heap.size) ∧ (w'.cell? ⟨w.heap.size, 2, none⟩ = some (.int .i64 v) ∧ w.heap.size < w'.heap.size) ∧ (w'.cell? ⟨w.heap.size + 1, 0, none⟩ = some (.int .i64 p1) ∧ w.heap.size + 1 < w'.heap.size) ∧ (w'.cell? ⟨w.heap.size + 1, 1, none⟩ = some (.int .i64 p2) ∧ w.heap.size + 1 < w'.heap.size) ∧ (w'.cell? ⟨w.heap.size + 1, 2, none⟩ = some (.int .i64 v) ∧ w.heap.size + 1 < w'.heap.size) ∧ w.heap.size ≤ w'.heap.size ∧ Below w.heap.size w w')
    (first | assumption | (exact hS0.drew) | (exact HeldP.CellsB.keep (l := [(w.heap.size, 0, .int .i64 p1), (w.heap.size, 1, .int .i64 p2), (w.heap.size, 2, .int .i64 v), (w.heap.size + 1, 0, .int .i64 p1), (w.heap.size + 1, 1, .int .i64 p2), (w.heap.size + 1, 2, .int .i64 v)]) (by assumption) (by assumption)) | (exact HeldP.CellsB.drew (l := [(w.heap.size, 0, .int .i64 p1), (w.heap.size, 1, .int .i64 p2), (w.heap.size, 2, .int .i64 v), (w.heap.size + 1, 0, .int .i64 p1), (w.heap.size + 1, 1, .int .i64 p2), (w.heap.size + 1, 2, .int .i64 v)]) (by assumption)))
    (first | (go_at_call 12; (with_reducible refine (of_c H1.out _).mono ?_); rintro e w' ⟨rfl, hb⟩) | (go_at_call 11; (with_reducible refine (awake_b _).mono ?_); rintro e w' ⟨rfl, hb⟩))
  go_wp2
  go_ret
  refine ⟨rfl, ?_⟩
  exact HeldP.CellsB.below (l := [(w.heap.size, 0, .int .i64 p1), (w.heap.size, 1, .int .i64 p2), (w.heap.size, 2, .int .i64 v), (w.heap.size + 1, 0, .int .i64 p1), (w.heap.size + 1, 1, .int .i64 p2), (w.heap.size + 1, 2, .int .i64 v)]) (by assumption)

set_option maxRecDepth 100000 in
set_option maxHeartbeats 4000000 in
theorem apart_3d {x y p1 p2 p3 t k v : Int} (x0 : 0 ≤ x) (x1 : x < 18446744073709551616) (y0 : 0 ≤ y) (y1 : y < 18446744073709551616) (bp1 : I64 p1) (bp2 : I64 p2) (bp3 : I64 p3) (bt : I64 t) (hk : bits .and .i64 k 7 = 3) (hv : wrap64 y = v) (bv : I64 v) (hs : ¬ v = p3) (w : World) :
    Calls Try.prog 7 #[.int .u64 x, .int .u64 y, .agg #[.int .i64 p1, .int .i64 p2, .int .i64 p3], .int .i64 t, .int .i64 k] w fun e w' => e = .returned (.bool true) ∧ Below w.heap.size w w' := by
  have hab := mix_eq ⟨x0, x1⟩ ⟨y0, y1⟩
  have hne : (ofI x p1 p2 p3 t == ofI x p1 p2 v t) = false := beq_eq_false_iff_ne.2 fun e => hs (of_z bp3 bv e).symm
  have hs' : (v == p3) = false := beq_eq_false_iff_ne.2 hs
  clear hs
  obtain ⟨r2, h2⟩ : ∃ r, ofI x p1 p2 v t = r := ⟨_, rfl⟩
  rw [h2] at hne
  obtain ⟨r, h1⟩ : ∃ r, ofI x p1 p2 p3 t = r := ⟨_, rfl⟩
  rw [h1] at hne
  have H2 := Lib.hid h2
  clear h2
  have H1 := Lib.hid h1
  clear h1
  go_enter Try.func7, Try.ntmps7
  go_wp2_with (go_at_call 9; refine (mix_c rfl _).mono ?_; rintro e w' ⟨rfl, rfl⟩)
  skip
  refine HeldP.wp_named (fun w' => w'.cell? ⟨w.heap.size, 0, none⟩ = some (.int .i64 p1) ∧ w'.cell? ⟨w.heap.size, 1, none⟩ = some (.int .i64 p2) ∧ w'.cell? ⟨w.heap.size, 2, none⟩ = some (.int .i64 p3) ∧ w.heap.size < w'.heap.size ∧ w'.cell? ⟨w.heap.size + 1, 0, none⟩ = some (.int .i64 p1) ∧ w'.cell? ⟨w.heap.size + 1, 1, none⟩ = some (.int .i64 p2) ∧ w'.cell? ⟨w.heap.size + 1, 2, none⟩ = some (.int .i64 v) ∧ w.heap.size + 1 < w'.heap.size ∧ Below w.heap.size w w') (by (refine ⟨?_, ?_, ?_, ?_, ?_, ?_, ?_, ?_, by (repeat' (first | (with_reducible exact Below.refl _ _) | (with_reducible refine Below.setCell ?_ (by (first | omega | (simp; done) | (simp; omega))) _) | (with_reducible refine Below.alloc ?_ (by (first | omega | (simp; done) | (simp; omega))) _) | (with_reducible refine Below.drew ?_) | (with_reducible refine below_drewN ?_ _)))⟩); all_goals (repeat' (first | (with_reducible assumption) | (with_reducible refine HeldP.c_drew ?_) | (with_reducible refine HeldP.c_drewN ?_) | (with_reducible refine HeldP.c_same (by omega) ?_) | (with_reducible refine HeldP.c_other ?_ ?_) | (with_reducible refine HeldP.c_new (by first | omega | (simp; done) | (simp; omega)) ?_) | (with_reducible refine HeldP.c_alloc ?_ ?_) | (with_reducible refine HeldP.e_drew ?_) | (with_reducible refine HeldP.e_drewN ?_) | (with_reducible refine HeldP.e_set ?_) | (with_reducible refine HeldP.e_new (by first | omega | (simp; done) | (simp; omega)) ⟨_, rfl⟩) | (with_reducible refine HeldP.e_alloc ?_ ?_) | (with_reducible refine HeldP.f_drew ?_) | (with_reducible refine HeldP.f_drewN ?_) | (with_reducible refine HeldP.f_set ?_) | (with_reducible refine HeldP.f_new (by first | omega | (simp; done) | (simp; omega))) | (with_reducible refine HeldP.f_alloc ?_ ?_) | (with_reducible refine HeldP.s_drew ?_) | (with_reducible refine HeldP.s_drewN ?_) | (with_reducible refine HeldP.s_set ?_) | (with_reducible refine HeldP.s_new (by first | omega | (simp; done) | (simp; omega))) | (with_reducible refine HeldP.s_alloc ?_) | (with_reducible exact ⟨_, by assumption⟩) | omega | (intro e; simp at e; done) | (intro e; simp at e; omega) | (exact rfl) | (simp; done) | (simp; omega)))) ?_
  skip
  rintro w1 ⟨c1_0_0, c1_0_1, c1_0_2, l1_0, c1_1_0, c1_1_1, c1_1_2, l1_1, HBn⟩
  have n1_0 : w.heap.size ≠ w1.heap.size := (by omega)
  have n1_1 : w.heap.size + 1 ≠ w1.heap.size := (by omega)
  have z1 : w.heap.size ≤ w1.heap.size := (by omega)
  have HB1 := Lib.hid HBn
  clear HBn
  have HBo := HB1.out
  have hS0 : HeldP.CellsB w (w1) ([(w.heap.size, 0, .int .i64 p1), (w.heap.size, 1, .int .i64 p2), (w.heap.size, 2, .int .i64 p3), (w.heap.size + 1, 0, .int .i64 p1), (w.heap.size + 1, 1, .int .i64 p2), (w.heap.size + 1, 2, .int .i64 v)] : List (Nat × Nat × Value)) := by
    refine HeldP.CellsB.one ?_ ?_ (HeldP.CellsB.one ?_ ?_ (HeldP.CellsB.one ?_ ?_ (HeldP.CellsB.one ?_ ?_ (HeldP.CellsB.one ?_ ?_ (HeldP.CellsB.one ?_ ?_ (HeldP.CellsB.nil (by first | omega | (simp; done) | (simp; omega)) (by (repeat' (first | (with_reducible exact Below.refl _ _) | (with_reducible refine Below.setCell ?_ (by (first | omega | (simp; done) | (simp; omega))) _) | (with_reducible refine Below.alloc ?_ (by (first | omega | (simp; done) | (simp; omega))) _) | (with_reducible refine Below.drew ?_) | (with_reducible refine below_drewN ?_ _) | (with_reducible refine Below.trans ?_ (Below.mono HBo (by (first | omega | (simp; done) | (simp; omega))))))))))))))
    all_goals (repeat' (first | (with_reducible assumption) | (with_reducible refine HeldP.c_drew ?_) | (with_reducible refine HeldP.c_drewN ?_) | (with_reducible refine HeldP.c_same (by omega) ?_) | (with_reducible refine HeldP.c_other ?_ ?_) | (with_reducible refine HeldP.c_new (by first | omega | (simp; done) | (simp; omega)) ?_) | (with_reducible refine HeldP.c_alloc ?_ ?_) | (with_reducible refine HeldP.e_drew ?_) | (with_reducible refine HeldP.e_drewN ?_) | (with_reducible refine HeldP.e_set ?_) | (with_reducible refine HeldP.e_new (by first | omega | (simp; done) | (simp; omega)) ⟨_, rfl⟩) | (with_reducible refine HeldP.e_alloc ?_ ?_) | (with_reducible refine HeldP.f_drew ?_) | (with_reducible refine HeldP.f_drewN ?_) | (with_reducible refine HeldP.f_set ?_) | (with_reducible refine HeldP.f_new (by first | omega | (simp; done) | (simp; omega))) | (with_reducible refine HeldP.f_alloc ?_ ?_) | (with_reducible refine HeldP.s_drew ?_) | (with_reducible refine HeldP.s_drewN ?_) | (with_reducible refine HeldP.s_set ?_) | (with_reducible refine HeldP.s_new (by first | omega | (simp; done) | (simp; omega))) | (with_reducible refine HeldP.s_alloc ?_) | (with_reducible exact ⟨_, by assumption⟩) | omega | (intro e; simp at e; done) | (intro e; simp at e; omega) | (exact rfl) | (simp; done) | (simp; omega)))
  clear HBo
  go_region_held3 (fun w' => (w'.cell? ⟨w.heap.size, 0, none⟩ = some (.int .i64 p1) ∧ w.heap.size < w'.heap.size) ∧ (w'.cell? ⟨w.heap.size, 1, none⟩ = some (.int .i64 p2) ∧ w.heap.size < w'.heap.size) ∧ (w'.cell? ⟨w.heap.size, 2, none⟩ = some (.int .i64 p3) ∧ w.heap.size < w'.heap.size) ∧ (w'.cell? ⟨w.heap.size + 1, 0, none⟩ = some (.int .i64 p1) ∧ w.heap.size + 1 < w'.heap.size) ∧ (w'.cell? ⟨w.heap.size + 1, 1, none⟩ = some (.int .i64 p2) ∧ w.heap.size + 1 < w'.heap.size) ∧ (w'.cell? ⟨w.heap.size + 1, 2, none⟩ = some (.int .i64 v) ∧ w.heap.size + 1 < w'.heap.size) ∧ w.heap.size ≤ w'.heap.size ∧ Below w.heap.size w w')
    (first | assumption | (exact hS0.drew) | (exact HeldP.CellsB.keep (l := [(w.heap.size, 0, .int .i64 p1), (w.heap.size, 1, .int .i64 p2), (w.heap.size, 2, .int .i64 p3), (w.heap.size + 1, 0, .int .i64 p1), (w.heap.size + 1, 1, .int .i64 p2), (w.heap.size + 1, 2, .int .i64 v)]) (by assumption) (by assumption)) | (exact HeldP.CellsB.drew (l := [(w.heap.size, 0, .int .i64 p1), (w.heap.size, 1, .int .i64 p2), (w.heap.size, 2, .int .i64 p3), (w.heap.size + 1, 0, .int .i64 p1), (w.heap.size + 1, 1, .int .i64 p2), (w.heap.size + 1, 2, .int .i64 v)]) (by assumption)))
    (first | (go_at_call 12; (with_reducible refine (of_c H1.out _).mono ?_); rintro e w' ⟨rfl, hb⟩) | (go_at_call 12; (with_reducible refine (of_c H2.out _).mono ?_); rintro e w' ⟨rfl, hb⟩) | (go_at_call 11; (with_reducible refine (awake_b _).mono ?_); rintro e w' ⟨rfl, hb⟩))
  go_wp2
  go_ret
  refine ⟨rfl, ?_⟩
  exact HeldP.CellsB.below (l := [(w.heap.size, 0, .int .i64 p1), (w.heap.size, 1, .int .i64 p2), (w.heap.size, 2, .int .i64 p3), (w.heap.size + 1, 0, .int .i64 p1), (w.heap.size + 1, 1, .int .i64 p2), (w.heap.size + 1, 2, .int .i64 v)]) (by assumption)

set_option maxRecDepth 100000 in
set_option maxHeartbeats 4000000 in
theorem apart_4s {x y p1 p2 p3 t k v m : Int} (x0 : 0 ≤ x) (x1 : x < 18446744073709551616) (y0 : 0 ≤ y) (y1 : y < 18446744073709551616) (bp1 : I64 p1) (bp2 : I64 p2) (bp3 : I64 p3) (bt : I64 t) (hk : bits .and .i64 k 7 = m) (k0 : (m == 0) = false) (k1 : (m == 1) = false) (k2 : (m == 2) = false) (k3 : (m == 3) = false) (hv : wrap64 y = v) (bv : I64 v) (hs : v = t) (w : World) :
    Calls Try.prog 7 #[.int .u64 x, .int .u64 y, .agg #[.int .i64 p1, .int .i64 p2, .int .i64 p3], .int .i64 t, .int .i64 k] w fun e w' => e = .returned (.bool true) ∧ Below w.heap.size w w' := by
  have hab := mix_eq ⟨x0, x1⟩ ⟨y0, y1⟩
  subst hs
  obtain ⟨r, h1⟩ : ∃ r, ofI x p1 p2 p3 v = r := ⟨_, rfl⟩
  have H1 := Lib.hid h1
  clear h1
  go_enter Try.func7, Try.ntmps7
  go_wp2_with (go_at_call 9; refine (mix_c rfl _).mono ?_; rintro e w' ⟨rfl, rfl⟩)
  skip
  refine HeldP.wp_named (fun w' => w'.cell? ⟨w.heap.size, 0, none⟩ = some (.int .i64 p1) ∧ w'.cell? ⟨w.heap.size, 1, none⟩ = some (.int .i64 p2) ∧ w'.cell? ⟨w.heap.size, 2, none⟩ = some (.int .i64 p3) ∧ w.heap.size < w'.heap.size ∧ w'.cell? ⟨w.heap.size + 1, 0, none⟩ = some (.int .i64 p1) ∧ w'.cell? ⟨w.heap.size + 1, 1, none⟩ = some (.int .i64 p2) ∧ w'.cell? ⟨w.heap.size + 1, 2, none⟩ = some (.int .i64 p3) ∧ w.heap.size + 1 < w'.heap.size ∧ Below w.heap.size w w') (by (refine ⟨?_, ?_, ?_, ?_, ?_, ?_, ?_, ?_, by (repeat' (first | (with_reducible exact Below.refl _ _) | (with_reducible refine Below.setCell ?_ (by (first | omega | (simp; done) | (simp; omega))) _) | (with_reducible refine Below.alloc ?_ (by (first | omega | (simp; done) | (simp; omega))) _) | (with_reducible refine Below.drew ?_) | (with_reducible refine below_drewN ?_ _)))⟩); all_goals (repeat' (first | (with_reducible assumption) | (with_reducible refine HeldP.c_drew ?_) | (with_reducible refine HeldP.c_drewN ?_) | (with_reducible refine HeldP.c_same (by omega) ?_) | (with_reducible refine HeldP.c_other ?_ ?_) | (with_reducible refine HeldP.c_new (by first | omega | (simp; done) | (simp; omega)) ?_) | (with_reducible refine HeldP.c_alloc ?_ ?_) | (with_reducible refine HeldP.e_drew ?_) | (with_reducible refine HeldP.e_drewN ?_) | (with_reducible refine HeldP.e_set ?_) | (with_reducible refine HeldP.e_new (by first | omega | (simp; done) | (simp; omega)) ⟨_, rfl⟩) | (with_reducible refine HeldP.e_alloc ?_ ?_) | (with_reducible refine HeldP.f_drew ?_) | (with_reducible refine HeldP.f_drewN ?_) | (with_reducible refine HeldP.f_set ?_) | (with_reducible refine HeldP.f_new (by first | omega | (simp; done) | (simp; omega))) | (with_reducible refine HeldP.f_alloc ?_ ?_) | (with_reducible refine HeldP.s_drew ?_) | (with_reducible refine HeldP.s_drewN ?_) | (with_reducible refine HeldP.s_set ?_) | (with_reducible refine HeldP.s_new (by first | omega | (simp; done) | (simp; omega))) | (with_reducible refine HeldP.s_alloc ?_) | (with_reducible exact ⟨_, by assumption⟩) | omega | (intro e; simp at e; done) | (intro e; simp at e; omega) | (exact rfl) | (simp; done) | (simp; omega)))) ?_
  skip
  rintro w1 ⟨c1_0_0, c1_0_1, c1_0_2, l1_0, c1_1_0, c1_1_1, c1_1_2, l1_1, HBn⟩
  have n1_0 : w.heap.size ≠ w1.heap.size := (by omega)
  have n1_1 : w.heap.size + 1 ≠ w1.heap.size := (by omega)
  have z1 : w.heap.size ≤ w1.heap.size := (by omega)
  have HB1 := Lib.hid HBn
  clear HBn
  have HBo := HB1.out
  have hS0 : HeldP.CellsB w (w1) ([(w.heap.size, 0, .int .i64 p1), (w.heap.size, 1, .int .i64 p2), (w.heap.size, 2, .int .i64 p3), (w.heap.size + 1, 0, .int .i64 p1), (w.heap.size + 1, 1, .int .i64 p2), (w.heap.size + 1, 2, .int .i64 p3)] : List (Nat × Nat × Value)) := by
    refine HeldP.CellsB.one ?_ ?_ (HeldP.CellsB.one ?_ ?_ (HeldP.CellsB.one ?_ ?_ (HeldP.CellsB.one ?_ ?_ (HeldP.CellsB.one ?_ ?_ (HeldP.CellsB.one ?_ ?_ (HeldP.CellsB.nil (by first | omega | (simp; done) | (simp; omega)) (by (repeat' (first | (with_reducible exact Below.refl _ _) | (with_reducible refine Below.setCell ?_ (by (first | omega | (simp; done) | (simp; omega))) _) | (with_reducible refine Below.alloc ?_ (by (first | omega | (simp; done) | (simp; omega))) _) | (with_reducible refine Below.drew ?_) | (with_reducible refine below_drewN ?_ _) | (with_reducible refine Below.trans ?_ (Below.mono HBo (by (first | omega | (simp; done) | (simp; omega))))))))))))))
    all_goals (repeat' (first | (with_reducible assumption) | (with_reducible refine HeldP.c_drew ?_) | (with_reducible refine HeldP.c_drewN ?_) | (with_reducible refine HeldP.c_same (by omega) ?_) | (with_reducible refine HeldP.c_other ?_ ?_) | (with_reducible refine HeldP.c_new (by first | omega | (simp; done) | (simp; omega)) ?_) | (with_reducible refine HeldP.c_alloc ?_ ?_) | (with_reducible refine HeldP.e_drew ?_) | (with_reducible refine HeldP.e_drewN ?_) | (with_reducible refine HeldP.e_set ?_) | (with_reducible refine HeldP.e_new (by first | omega | (simp; done) | (simp; omega)) ⟨_, rfl⟩) | (with_reducible refine HeldP.e_alloc ?_ ?_) | (with_reducible refine HeldP.f_drew ?_) | (with_reducible refine HeldP.f_drewN ?_) | (with_reducible refine HeldP.f_set ?_) | (with_reducible refine HeldP.f_new (by first | omega | (simp; done) | (simp; omega))) | (with_reducible refine HeldP.f_alloc ?_ ?_) | (with_reducible refine HeldP.s_drew ?_) | (with_reducible refine HeldP.s_drewN ?_) | (with_reducible refine HeldP.s_set ?_) | (with_reducible refine HeldP.s_new (by first | omega | (simp; done) | (simp; omega))) | (with_reducible refine HeldP.s_alloc ?_) | (with_reducible exact ⟨_, by assumption⟩) | omega | (intro e; simp at e; done) | (intro e; simp at e; omega) | (exact rfl) | (simp; done) | (simp; omega)))
  clear HBo
  go_region_held3 (fun w' => (w'.cell? ⟨w.heap.size, 0, none⟩ = some (.int .i64 p1) ∧ w.heap.size < w'.heap.size) ∧ (w'.cell? ⟨w.heap.size, 1, none⟩ = some (.int .i64 p2) ∧ w.heap.size < w'.heap.size) ∧ (w'.cell? ⟨w.heap.size, 2, none⟩ = some (.int .i64 p3) ∧ w.heap.size < w'.heap.size) ∧ (w'.cell? ⟨w.heap.size + 1, 0, none⟩ = some (.int .i64 p1) ∧ w.heap.size + 1 < w'.heap.size) ∧ (w'.cell? ⟨w.heap.size + 1, 1, none⟩ = some (.int .i64 p2) ∧ w.heap.size + 1 < w'.heap.size) ∧ (w'.cell? ⟨w.heap.size + 1, 2, none⟩ = some (.int .i64 p3) ∧ w.heap.size + 1 < w'.heap.size) ∧ w.heap.size ≤ w'.heap.size ∧ Below w.heap.size w w')
    (first | assumption | (exact hS0.drew) | (exact HeldP.CellsB.keep (l := [(w.heap.size, 0, .int .i64 p1), (w.heap.size, 1, .int .i64 p2), (w.heap.size, 2, .int .i64 p3), (w.heap.size + 1, 0, .int .i64 p1), (w.heap.size + 1, 1, .int .i64 p2), (w.heap.size + 1, 2, .int .i64 p3)]) (by assumption) (by assumption)) | (exact HeldP.CellsB.drew (l := [(w.heap.size, 0, .int .i64 p1), (w.heap.size, 1, .int .i64 p2), (w.heap.size, 2, .int .i64 p3), (w.heap.size + 1, 0, .int .i64 p1), (w.heap.size + 1, 1, .int .i64 p2), (w.heap.size + 1, 2, .int .i64 p3)]) (by assumption)))
    (first | (go_at_call 12; (with_reducible refine (of_c H1.out _).mono ?_); rintro e w' ⟨rfl, hb⟩) | (go_at_call 11; (with_reducible refine (awake_b _).mono ?_); rintro e w' ⟨rfl, hb⟩))
  go_wp2
  go_ret
  refine ⟨rfl, ?_⟩
  exact HeldP.CellsB.below (l := [(w.heap.size, 0, .int .i64 p1), (w.heap.size, 1, .int .i64 p2), (w.heap.size, 2, .int .i64 p3), (w.heap.size + 1, 0, .int .i64 p1), (w.heap.size + 1, 1, .int .i64 p2), (w.heap.size + 1, 2, .int .i64 p3)]) (by assumption)

set_option maxRecDepth 100000 in
set_option maxHeartbeats 4000000 in
theorem apart_4d {x y p1 p2 p3 t k v m : Int} (x0 : 0 ≤ x) (x1 : x < 18446744073709551616) (y0 : 0 ≤ y) (y1 : y < 18446744073709551616) (bp1 : I64 p1) (bp2 : I64 p2) (bp3 : I64 p3) (bt : I64 t) (hk : bits .and .i64 k 7 = m) (k0 : (m == 0) = false) (k1 : (m == 1) = false) (k2 : (m == 2) = false) (k3 : (m == 3) = false) (hv : wrap64 y = v) (bv : I64 v) (hs : ¬ v = t) (w : World) :
    Calls Try.prog 7 #[.int .u64 x, .int .u64 y, .agg #[.int .i64 p1, .int .i64 p2, .int .i64 p3], .int .i64 t, .int .i64 k] w fun e w' => e = .returned (.bool true) ∧ Below w.heap.size w w' := by
  have hab := mix_eq ⟨x0, x1⟩ ⟨y0, y1⟩
  have hne : (ofI x p1 p2 p3 t == ofI x p1 p2 p3 v) = false := beq_eq_false_iff_ne.2 fun e => hs (of_t bt bv e).symm
  have hs' : (v == t) = false := beq_eq_false_iff_ne.2 hs
  clear hs
  obtain ⟨r2, h2⟩ : ∃ r, ofI x p1 p2 p3 v = r := ⟨_, rfl⟩
  rw [h2] at hne
  obtain ⟨r, h1⟩ : ∃ r, ofI x p1 p2 p3 t = r := ⟨_, rfl⟩
  rw [h1] at hne
  have H2 := Lib.hid h2
  clear h2
  have H1 := Lib.hid h1
  clear h1
  go_enter Try.func7, Try.ntmps7
  go_wp2_with (go_at_call 9; refine (mix_c rfl _).mono ?_; rintro e w' ⟨rfl, rfl⟩)
  skip
  refine HeldP.wp_named (fun w' => w'.cell? ⟨w.heap.size, 0, none⟩ = some (.int .i64 p1) ∧ w'.cell? ⟨w.heap.size, 1, none⟩ = some (.int .i64 p2) ∧ w'.cell? ⟨w.heap.size, 2, none⟩ = some (.int .i64 p3) ∧ w.heap.size < w'.heap.size ∧ w'.cell? ⟨w.heap.size + 1, 0, none⟩ = some (.int .i64 p1) ∧ w'.cell? ⟨w.heap.size + 1, 1, none⟩ = some (.int .i64 p2) ∧ w'.cell? ⟨w.heap.size + 1, 2, none⟩ = some (.int .i64 p3) ∧ w.heap.size + 1 < w'.heap.size ∧ Below w.heap.size w w') (by (refine ⟨?_, ?_, ?_, ?_, ?_, ?_, ?_, ?_, by (repeat' (first | (with_reducible exact Below.refl _ _) | (with_reducible refine Below.setCell ?_ (by (first | omega | (simp; done) | (simp; omega))) _) | (with_reducible refine Below.alloc ?_ (by (first | omega | (simp; done) | (simp; omega))) _) | (with_reducible refine Below.drew ?_) | (with_reducible refine below_drewN ?_ _)))⟩); all_goals (repeat' (first | (with_reducible assumption) | (with_reducible refine HeldP.c_drew ?_) | (with_reducible refine HeldP.c_drewN ?_) | (with_reducible refine HeldP.c_same (by omega) ?_) | (with_reducible refine HeldP.c_other ?_ ?_) | (with_reducible refine HeldP.c_new (by first | omega | (simp; done) | (simp; omega)) ?_) | (with_reducible refine HeldP.c_alloc ?_ ?_) | (with_reducible refine HeldP.e_drew ?_) | (with_reducible refine HeldP.e_drewN ?_) | (with_reducible refine HeldP.e_set ?_) | (with_reducible refine HeldP.e_new (by first | omega | (simp; done) | (simp; omega)) ⟨_, rfl⟩) | (with_reducible refine HeldP.e_alloc ?_ ?_) | (with_reducible refine HeldP.f_drew ?_) | (with_reducible refine HeldP.f_drewN ?_) | (with_reducible refine HeldP.f_set ?_) | (with_reducible refine HeldP.f_new (by first | omega | (simp; done) | (simp; omega))) | (with_reducible refine HeldP.f_alloc ?_ ?_) | (with_reducible refine HeldP.s_drew ?_) | (with_reducible refine HeldP.s_drewN ?_) | (with_reducible refine HeldP.s_set ?_) | (with_reducible refine HeldP.s_new (by first | omega | (simp; done) | (simp; omega))) | (with_reducible refine HeldP.s_alloc ?_) | (with_reducible exact ⟨_, by assumption⟩) | omega | (intro e; simp at e; done) | (intro e; simp at e; omega) | (exact rfl) | (simp; done) | (simp; omega)))) ?_
  skip
  rintro w1 ⟨c1_0_0, c1_0_1, c1_0_2, l1_0, c1_1_0, c1_1_1, c1_1_2, l1_1, HBn⟩
  have n1_0 : w.heap.size ≠ w1.heap.size := (by omega)
  have n1_1 : w.heap.size + 1 ≠ w1.heap.size := (by omega)
  have z1 : w.heap.size ≤ w1.heap.size := (by omega)
  have HB1 := Lib.hid HBn
  clear HBn
  have HBo := HB1.out
  have hS0 : HeldP.CellsB w (w1) ([(w.heap.size, 0, .int .i64 p1), (w.heap.size, 1, .int .i64 p2), (w.heap.size, 2, .int .i64 p3), (w.heap.size + 1, 0, .int .i64 p1), (w.heap.size + 1, 1, .int .i64 p2), (w.heap.size + 1, 2, .int .i64 p3)] : List (Nat × Nat × Value)) := by
    refine HeldP.CellsB.one ?_ ?_ (HeldP.CellsB.one ?_ ?_ (HeldP.CellsB.one ?_ ?_ (HeldP.CellsB.one ?_ ?_ (HeldP.CellsB.one ?_ ?_ (HeldP.CellsB.one ?_ ?_ (HeldP.CellsB.nil (by first | omega | (simp; done) | (simp; omega)) (by (repeat' (first | (with_reducible exact Below.refl _ _) | (with_reducible refine Below.setCell ?_ (by (first | omega | (simp; done) | (simp; omega))) _) | (with_reducible refine Below.alloc ?_ (by (first | omega | (simp; done) | (simp; omega))) _) | (with_reducible refine Below.drew ?_) | (with_reducible refine below_drewN ?_ _) | (with_reducible refine Below.trans ?_ (Below.mono HBo (by (first | omega | (simp; done) | (simp; omega))))))))))))))
    all_goals (repeat' (first | (with_reducible assumption) | (with_reducible refine HeldP.c_drew ?_) | (with_reducible refine HeldP.c_drewN ?_) | (with_reducible refine HeldP.c_same (by omega) ?_) | (with_reducible refine HeldP.c_other ?_ ?_) | (with_reducible refine HeldP.c_new (by first | omega | (simp; done) | (simp; omega)) ?_) | (with_reducible refine HeldP.c_alloc ?_ ?_) | (with_reducible refine HeldP.e_drew ?_) | (with_reducible refine HeldP.e_drewN ?_) | (with_reducible refine HeldP.e_set ?_) | (with_reducible refine HeldP.e_new (by first | omega | (simp; done) | (simp; omega)) ⟨_, rfl⟩) | (with_reducible refine HeldP.e_alloc ?_ ?_) | (with_reducible refine HeldP.f_drew ?_) | (with_reducible refine HeldP.f_drewN ?_) | (with_reducible refine HeldP.f_set ?_) | (with_reducible refine HeldP.f_new (by first | omega | (simp; done) | (simp; omega))) | (with_reducible refine HeldP.f_alloc ?_ ?_) | (with_reducible refine HeldP.s_drew ?_) | (with_reducible refine HeldP.s_drewN ?_) | (with_reducible refine HeldP.s_set ?_) | (with_reducible refine HeldP.s_new (by first | omega | (simp; done) | (simp; omega))) | (with_reducible refine HeldP.s_alloc ?_) | (with_reducible exact ⟨_, by assumption⟩) | omega | (intro e; simp at e; done) | (intro e; simp at e; omega) | (exact rfl) | (simp; done) | (simp; omega)))
  clear HBo
  go_region_held3 (fun w' => (w'.cell? ⟨w.heap.size, 0, none⟩ = some (.int .i64 p1) ∧ w.heap.size < w'.heap.size) ∧ (w'.cell? ⟨w.heap.size, 1, none⟩ = some (.int .i64 p2) ∧ w.heap.size < w'.heap.size) ∧ (w'.cell? ⟨w.heap.size, 2, none⟩ = some (.int .i64 p3) ∧ w.heap.size < w'.heap.size) ∧ (w'.cell? ⟨w.heap.size + 1, 0, none⟩ = some (.int .i64 p1) ∧ w.heap.size + 1 < w'.heap.size) ∧ (w'.cell? ⟨w.heap.size + 1, 1, none⟩ = some (.int .i64 p2) ∧ w.heap.size + 1 < w'.heap.size) ∧ (w'.cell? ⟨w.heap.size + 1, 2, none⟩ = some (.int .i64 p3) ∧ w.heap.size + 1 < w'.heap.size) ∧ w.heap.size ≤ w'.heap.size ∧ Below w.heap.size w w')
    (first | assumption | (exact hS0.drew) | (exact HeldP.CellsB.keep (l := [(w.heap.size, 0, .int .i64 p1), (w.heap.size, 1, .int .i64 p2), (w.heap.size, 2, .int .i64 p3), (w.heap.size + 1, 0, .int .i64 p1), (w.heap.size + 1, 1, .int .i64 p2), (w.heap.size + 1, 2, .int .i64 p3)]) (by assumption) (by assumption)) | (exact HeldP.CellsB.drew (l := [(w.heap.size, 0, .int .i64 p1), (w.heap.size, 1, .int .i64 p2), (w.heap.size, 2, .int .i64 p3), (w.heap.size + 1, 0, .int .i64 p1), (w.heap.size + 1, 1, .int .i64 p2), (w.heap.size + 1, 2, .int .i64 p3)]) (by assumption)))
    (first | (go_at_call 12; (with_reducible refine (of_c H1.out _).mono ?_); rintro e w' ⟨rfl, hb⟩) | (go_at_call 12; (with_reducible refine (of_c H2.out _).mono ?_); rintro e w' ⟨rfl, hb⟩) | (go_at_call 11; (with_reducible refine (awake_b _).mono ?_); rintro e w' ⟨rfl, hb⟩))
  go_wp2
  go_ret
  refine ⟨rfl, ?_⟩
  exact HeldP.CellsB.below (l := [(w.heap.size, 0, .int .i64 p1), (w.heap.size, 1, .int .i64 p2), (w.heap.size, 2, .int .i64 p3), (w.heap.size + 1, 0, .int .i64 p1), (w.heap.size + 1, 1, .int .i64 p2), (w.heap.size + 1, 2, .int .i64 p3)]) (by assumption)

theorem law_apart {x y p1 p2 p3 t k : Int} (x0 : 0 ≤ x) (x1 : x < 18446744073709551616) (y0 : 0 ≤ y) (y1 : y < 18446744073709551616) (bp1 : I64 p1) (bp2 : I64 p2) (bp3 : I64 p3) (bt : I64 t) (w : World) :
    Calls Try.prog 7 #[.int .u64 x, .int .u64 y, .agg #[.int .i64 p1, .int .i64 p2, .int .i64 p3], .int .i64 t, .int .i64 k] w fun e w' => e = .returned (.bool true) ∧ Below w.heap.size w w' := by
  obtain ⟨m, hm⟩ : ∃ m, bits .and .i64 k 7 = m := ⟨_, rfl⟩
  obtain ⟨v, hv⟩ : ∃ v, wrap64 y = v := ⟨_, rfl⟩
  have bv : I64 v := by
    subst hv
    unfold I64 wrap64
    omega
  by_cases e0 : m = 0
  · subst e0
    by_cases hs : y = x
    · exact apart_0s x0 x1 y0 y1 bp1 bp2 bp3 bt hm hs w
    · exact apart_0d x0 x1 y0 y1 bp1 bp2 bp3 bt hm hs w
  by_cases e1 : m = 1
  · subst e1
    by_cases hs : v = p1
    · exact apart_1s x0 x1 y0 y1 bp1 bp2 bp3 bt hm hv bv hs w
    · exact apart_1d x0 x1 y0 y1 bp1 bp2 bp3 bt hm hv bv hs w
  by_cases e2 : m = 2
  · subst e2
    by_cases hs : v = p2
    · exact apart_2s x0 x1 y0 y1 bp1 bp2 bp3 bt hm hv bv hs w
    · exact apart_2d x0 x1 y0 y1 bp1 bp2 bp3 bt hm hv bv hs w
  by_cases e3 : m = 3
  · subst e3
    by_cases hs : v = p3
    · exact apart_3s x0 x1 y0 y1 bp1 bp2 bp3 bt hm hv bv hs w
    · exact apart_3d x0 x1 y0 y1 bp1 bp2 bp3 bt hm hv bv hs w
  have f0 := beq_eq_false_iff_ne.2 e0
  have f1 := beq_eq_false_iff_ne.2 e1
  have f2 := beq_eq_false_iff_ne.2 e2
  have f3 := beq_eq_false_iff_ne.2 e3
  by_cases hs : v = t
  · exact apart_4s x0 x1 y0 y1 bp1 bp2 bp3 bt hm f0 f1 f2 f3 hv bv hs w
  · exact apart_4d x0 x1 y0 y1 bp1 bp2 bp3 bt hm f0 f1 f2 f3 hv bv hs w
end HashW
end Go.Proofs.Ytkbnkhhapmdjkaa
