/-
  The walks of Box of the reference.
-/
import Derived.Test.YtokkomglbddgcaaPlaceBox
namespace Go.Proofs.Ytokkomglbddgcaa
open Go.RowKit
set_option linter.unusedSimpArgs false
set_option linter.unusedVariables false
namespace PlaceW
open BitsP

theorem ends_c {a b lo hi : Int} (h1 : loI a b = lo) (h2 : hiI a b = hi) (w : World) :
    Calls Try.prog 46 #[.int .i64 a, .int .i64 b] w fun e w' => e = .returned (.tuple #[.int .i64 lo, .int .i64 hi]) ∧ w = w' := by
  unfold loI at h1
  unfold hiI at h2
  by_cases h : a < b
  · rw [if_neg (by omega)] at h1
    rw [if_pos h] at h2
    subst h1
    subst h2
    go_enter Try.func46, Try.ntmps46
    go_wp2
    go_ret2
    exact ⟨rfl, rfl⟩
  · rw [if_neg h] at h2
    have h3 : b = lo := by split at h1 <;> omega
    subst h3
    subst h2
    clear h1
    go_enter Try.func46, Try.ntmps46
    go_wp2
    go_ret2
    exact ⟨rfl, rfl⟩
theorem lo_hi (a b : Int) : hiI a b - loI a b = gapI a b ∧ -(if a < 0 then -a else a) - (if b < 0 then -b else b) ≤ loI a b := by
  unfold hiI loI gapI
  repeat' split
  all_goals omega
theorem lo_hi_bounds {a b c d : Int} (h1 : c ≤ a) (h2 : a < d) (h3 : c ≤ b) (h4 : b < d) : c ≤ loI a b ∧ loI a b < d ∧ c ≤ hiI a b ∧ hiI a b < d := by
  unfold hiI loI
  repeat' split
  all_goals omega

set_option maxRecDepth 100000 in
set_option maxHeartbeats 2000000 in
theorem r_box_ok {x y z u v t g1 g2 g3 p12 p a1 a2 a3 b1 b2 b3 : Int} (hm : mayB x y z = true) (hn : mayB u v t = true) (l1 : loI x u = a1) (l2 : loI y v = a2) (l3 : loI z t = a3) (u1 : hiI x u = b1) (u2 : hiI y v = b2) (u3 : hiI z t = b3)
    (e1 : b1 - a1 = g1) (e2 : b2 - a2 = g2) (e3 : b3 - a3 = g3) (z1 : 0 ≤ g1) (z2 : 0 ≤ g2) (z3 : 0 ≤ g3)  (w1 : g1 < 16) (w2 : g2 < 16) (w3 : g3 < 16) (e4 : (g1 + 1) * (g2 + 1) = p12) (e5 : p12 * (g3 + 1) = p) (p0 : 0 ≤ p12) (p1 : p12 ≤ 256) (p2 : 0 ≤ p) (p3 : p ≤ 512) (w : World) :
    Calls Try.prog 33 #[.agg #[.int .i64 x, .int .i64 y, .int .i64 z], .agg #[.int .i64 u, .int .i64 v, .int .i64 t]] w fun e w' => e = .returned (.tuple #[.agg #[.int .i64 a1, .int .i64 a2, .int .i64 a3], .agg #[.int .i64 b1, .int .i64 b2, .int .i64 b3], .int .i64 p, .int .i64 0]) ∧ Below w.heap.size w w' := by
  obtain ⟨h1, h2, h3, h4, h5, h6⟩ := mayB_true hm
  obtain ⟨k1, k2, k3, k4, k5, k6⟩ := mayB_true hn
  have hx := lo_hi_bounds h1 h2 k1 k2
  have hy := lo_hi_bounds h3 h4 k3 k4
  have hz := lo_hi_bounds h5 h6 k5 k6
  rw [l1, u1] at hx
  rw [l2, u2] at hy
  rw [l3, u3] at hz
  obtain ⟨r1, r2, r3, r4⟩ := hx
  obtain ⟨r5, r6, r7, r8⟩ := hy
  obtain ⟨r9, r10, r11, r12⟩ := hz
  have HX := Lib.hid (ends_c l1 u1)
  have HY := Lib.hid (ends_c l2 u2)
  have HZ := Lib.hid (ends_c l3 u3)
  have HM := Lib.hid hm
  have HN := Lib.hid hn
  have g1u : g1 ≤ 4194304 := by omega
  have g2u : g2 ≤ 4194304 := by omega
  have g3u : g3 ≤ 4194304 := by omega
  clear hm hn l1 l2 l3 u1 u2 u3
  go_enter Try.func33, Try.ntmps33
  go_wp2_with fail
  go_at_call 20
  refine (r_may_b HM.out _).mono ?_
  rintro e w1 ⟨rfl, hb1⟩
  have hs1 := hb1.size
  try simp at hs1
  obtain ⟨c1_0_0, c1_0_1, c1_0_2, l1_0, c1_1_0, c1_1_1, c1_1_2, l1_1, c1_2_0, c1_2_1, c1_2_2, f1_2_0, f1_2_1, f1_2_2, l1_2, c1_3_0, c1_3_1, c1_3_2, f1_3_0, f1_3_1, f1_3_2, l1_3⟩ : w1.cell? ⟨w.heap.size, 0, none⟩ = some (.int .i64 x) ∧ w1.cell? ⟨w.heap.size, 1, none⟩ = some (.int .i64 y) ∧ w1.cell? ⟨w.heap.size, 2, none⟩ = some (.int .i64 z) ∧ w.heap.size < w1.heap.size ∧ w1.cell? ⟨w.heap.size + 1, 0, none⟩ = some (.int .i64 u) ∧ w1.cell? ⟨w.heap.size + 1, 1, none⟩ = some (.int .i64 v) ∧ w1.cell? ⟨w.heap.size + 1, 2, none⟩ = some (.int .i64 t) ∧ w.heap.size + 1 < w1.heap.size ∧ w1.cell? ⟨w.heap.size + 2, 0, none⟩ = some (.int .i64 0) ∧ w1.cell? ⟨w.heap.size + 2, 1, none⟩ = some (.int .i64 0) ∧ w1.cell? ⟨w.heap.size + 2, 2, none⟩ = some (.int .i64 0) ∧ w1.frozen? ⟨w.heap.size + 2, 0, none⟩ = false ∧ w1.frozen? ⟨w.heap.size + 2, 1, none⟩ = false ∧ w1.frozen? ⟨w.heap.size + 2, 2, none⟩ = false ∧ w.heap.size + 2 < w1.heap.size ∧ w1.cell? ⟨w.heap.size + 3, 0, none⟩ = some (.int .i64 0) ∧ w1.cell? ⟨w.heap.size + 3, 1, none⟩ = some (.int .i64 0) ∧ w1.cell? ⟨w.heap.size + 3, 2, none⟩ = some (.int .i64 0) ∧ w1.frozen? ⟨w.heap.size + 3, 0, none⟩ = false ∧ w1.frozen? ⟨w.heap.size + 3, 1, none⟩ = false ∧ w1.frozen? ⟨w.heap.size + 3, 2, none⟩ = false ∧ w.heap.size + 3 < w1.heap.size := by
    refine ⟨?_, ?_, ?_, ?_, ?_, ?_, ?_, ?_, ?_, ?_, ?_, ?_, ?_, ?_, ?_, ?_, ?_, ?_, ?_, ?_, ?_, ?_⟩
    all_goals (repeat' (first | (with_reducible assumption) | (with_reducible refine HeldP.c_below hb1 ?_ ?_) | (with_reducible refine HeldP.f_below hb1 ?_ ?_) | (with_reducible refine HeldP.c_drew ?_) | (with_reducible refine HeldP.c_drewN ?_) | (with_reducible refine HeldP.c_same (by omega) ?_) | (with_reducible refine HeldP.c_other ?_ ?_) | (with_reducible refine HeldP.c_new (by first | omega | (simp; done) | (simp; omega)) ?_) | (with_reducible refine HeldP.c_alloc ?_ ?_) | (with_reducible refine HeldP.e_drew ?_) | (with_reducible refine HeldP.e_drewN ?_) | (with_reducible refine HeldP.e_set ?_) | (with_reducible refine HeldP.e_new (by first | omega | (simp; done) | (simp; omega)) ⟨_, rfl⟩) | (with_reducible refine HeldP.e_alloc ?_ ?_) | (with_reducible refine HeldP.f_drew ?_) | (with_reducible refine HeldP.f_drewN ?_) | (with_reducible refine HeldP.f_set ?_) | (with_reducible refine HeldP.f_new (by first | omega | (simp; done) | (simp; omega))) | (with_reducible refine HeldP.f_alloc ?_ ?_) | (with_reducible refine HeldP.s_drew ?_) | (with_reducible refine HeldP.s_drewN ?_) | (with_reducible refine HeldP.s_set ?_) | (with_reducible refine HeldP.s_new (by first | omega | (simp; done) | (simp; omega))) | (with_reducible refine HeldP.s_alloc ?_) | (with_reducible exact ⟨_, by assumption⟩) | omega | (intro e; simp at e; done) | (intro e; simp at e; omega) | (exact rfl) | (simp; done) | (simp; omega)))
  have n1_0 : w.heap.size ≠ w1.heap.size := (by omega)
  have n1_1 : w.heap.size + 1 ≠ w1.heap.size := (by omega)
  have n1_2 : w.heap.size + 2 ≠ w1.heap.size := (by omega)
  have n1_3 : w.heap.size + 3 ≠ w1.heap.size := (by omega)
  have z1 : w.heap.size ≤ w1.heap.size := (by omega)
  have HB1 := Lib.hid (show Below w.heap.size w w1 by (repeat' (first | (with_reducible exact Below.refl _ _) | (with_reducible refine Below.setCell ?_ (by (first | omega | (simp; done) | (simp; omega))) _) | (with_reducible refine Below.alloc ?_ (by (first | omega | (simp; done) | (simp; omega))) _) | (with_reducible refine Below.drew ?_) | (with_reducible refine below_drewN ?_ _) | (with_reducible refine Below.trans ?_ (Below.mono hb1 (by (first | omega | (simp; done) | (simp; omega))))))))
  clear hb1 hs1
  go_wp2_with fail
  go_at_call 20
  refine (r_may_b HN.out _).mono ?_
  rintro e w2 ⟨rfl, hb2⟩
  have HBo := HB1.out
  have hs2 := hb2.size
  try simp at hs2
  obtain ⟨c2_0_0, c2_0_1, c2_0_2, l2_0, c2_1_0, c2_1_1, c2_1_2, l2_1, c2_2_0, c2_2_1, c2_2_2, f2_2_0, f2_2_1, f2_2_2, l2_2, c2_3_0, c2_3_1, c2_3_2, f2_3_0, f2_3_1, f2_3_2, l2_3⟩ : w2.cell? ⟨w.heap.size, 0, none⟩ = some (.int .i64 x) ∧ w2.cell? ⟨w.heap.size, 1, none⟩ = some (.int .i64 y) ∧ w2.cell? ⟨w.heap.size, 2, none⟩ = some (.int .i64 z) ∧ w.heap.size < w2.heap.size ∧ w2.cell? ⟨w.heap.size + 1, 0, none⟩ = some (.int .i64 u) ∧ w2.cell? ⟨w.heap.size + 1, 1, none⟩ = some (.int .i64 v) ∧ w2.cell? ⟨w.heap.size + 1, 2, none⟩ = some (.int .i64 t) ∧ w.heap.size + 1 < w2.heap.size ∧ w2.cell? ⟨w.heap.size + 2, 0, none⟩ = some (.int .i64 0) ∧ w2.cell? ⟨w.heap.size + 2, 1, none⟩ = some (.int .i64 0) ∧ w2.cell? ⟨w.heap.size + 2, 2, none⟩ = some (.int .i64 0) ∧ w2.frozen? ⟨w.heap.size + 2, 0, none⟩ = false ∧ w2.frozen? ⟨w.heap.size + 2, 1, none⟩ = false ∧ w2.frozen? ⟨w.heap.size + 2, 2, none⟩ = false ∧ w.heap.size + 2 < w2.heap.size ∧ w2.cell? ⟨w.heap.size + 3, 0, none⟩ = some (.int .i64 0) ∧ w2.cell? ⟨w.heap.size + 3, 1, none⟩ = some (.int .i64 0) ∧ w2.cell? ⟨w.heap.size + 3, 2, none⟩ = some (.int .i64 0) ∧ w2.frozen? ⟨w.heap.size + 3, 0, none⟩ = false ∧ w2.frozen? ⟨w.heap.size + 3, 1, none⟩ = false ∧ w2.frozen? ⟨w.heap.size + 3, 2, none⟩ = false ∧ w.heap.size + 3 < w2.heap.size := by
    refine ⟨?_, ?_, ?_, ?_, ?_, ?_, ?_, ?_, ?_, ?_, ?_, ?_, ?_, ?_, ?_, ?_, ?_, ?_, ?_, ?_, ?_, ?_⟩
    all_goals (repeat' (first | (with_reducible assumption) | (with_reducible refine HeldP.c_below hb2 ?_ ?_) | (with_reducible refine HeldP.f_below hb2 ?_ ?_) | (with_reducible refine HeldP.c_drew ?_) | (with_reducible refine HeldP.c_drewN ?_) | (with_reducible refine HeldP.c_same (by omega) ?_) | (with_reducible refine HeldP.c_other ?_ ?_) | (with_reducible refine HeldP.c_new (by first | omega | (simp; done) | (simp; omega)) ?_) | (with_reducible refine HeldP.c_alloc ?_ ?_) | (with_reducible refine HeldP.e_drew ?_) | (with_reducible refine HeldP.e_drewN ?_) | (with_reducible refine HeldP.e_set ?_) | (with_reducible refine HeldP.e_new (by first | omega | (simp; done) | (simp; omega)) ⟨_, rfl⟩) | (with_reducible refine HeldP.e_alloc ?_ ?_) | (with_reducible refine HeldP.f_drew ?_) | (with_reducible refine HeldP.f_drewN ?_) | (with_reducible refine HeldP.f_set ?_) | (with_reducible refine HeldP.f_new (by first | omega | (simp; done) | (simp; omega))) | (with_reducible refine HeldP.f_alloc ?_ ?_) | (with_reducible refine HeldP.s_drew ?_) | (with_reducible refine HeldP.s_drewN ?_) | (with_reducible refine HeldP.s_set ?_) | (with_reducible refine HeldP.s_new (by first | omega | (simp; done) | (simp; omega))) | (with_reducible refine HeldP.s_alloc ?_) | (with_reducible exact ⟨_, by assumption⟩) | omega | (intro e; simp at e; done) | (intro e; simp at e; omega) | (exact rfl) | (simp; done) | (simp; omega)))
  have n2_0 : w.heap.size ≠ w2.heap.size := (by omega)
  have n2_1 : w.heap.size + 1 ≠ w2.heap.size := (by omega)
  have n2_2 : w.heap.size + 2 ≠ w2.heap.size := (by omega)
  have n2_3 : w.heap.size + 3 ≠ w2.heap.size := (by omega)
  have z2 : w.heap.size ≤ w2.heap.size := (by omega)
  have HB2 := Lib.hid (show Below w.heap.size w w2 by (repeat' (first | (with_reducible exact Below.refl _ _) | (with_reducible refine Below.setCell ?_ (by (first | omega | (simp; done) | (simp; omega))) _) | (with_reducible refine Below.alloc ?_ (by (first | omega | (simp; done) | (simp; omega))) _) | (with_reducible refine Below.drew ?_) | (with_reducible refine below_drewN ?_ _) | (with_reducible refine Below.trans ?_ (Below.mono HBo (by (first | omega | (simp; done) | (simp; omega))))) | (with_reducible refine Below.trans ?_ (Below.mono hb2 (by (first | omega | (simp; done) | (simp; omega))))))))
  clear HBo hb2 hs2 c1_0_0 c1_0_1 c1_0_2 l1_0 c1_1_0 c1_1_1 c1_1_2 l1_1 c1_2_0 c1_2_1 c1_2_2 f1_2_0 f1_2_1 f1_2_2 l1_2 c1_3_0 c1_3_1 c1_3_2 f1_3_0 f1_3_1 f1_3_2 l1_3 n1_0 n1_1 n1_2 n1_3 z1 HB1
  go_wp2_with (go_at_call 46; (first | (with_reducible refine (HX.out _).mono ?_) | (with_reducible refine (HY.out _).mono ?_) | (with_reducible refine (HZ.out _).mono ?_)); rintro e w' ⟨rfl, rfl⟩)
  have HBo := HB2.out
  refine HeldP.bp_named (fun w' => w'.cell? ⟨w.heap.size, 0, none⟩ = some (.int .i64 x) ∧ w'.cell? ⟨w.heap.size, 1, none⟩ = some (.int .i64 y) ∧ w'.cell? ⟨w.heap.size, 2, none⟩ = some (.int .i64 z) ∧ w.heap.size < w'.heap.size ∧ w'.cell? ⟨w.heap.size + 1, 0, none⟩ = some (.int .i64 u) ∧ w'.cell? ⟨w.heap.size + 1, 1, none⟩ = some (.int .i64 v) ∧ w'.cell? ⟨w.heap.size + 1, 2, none⟩ = some (.int .i64 t) ∧ w.heap.size + 1 < w'.heap.size ∧ w'.cell? ⟨w.heap.size + 2, 0, none⟩ = some (.int .i64 a1) ∧ w'.cell? ⟨w.heap.size + 2, 1, none⟩ = some (.int .i64 a2) ∧ w'.cell? ⟨w.heap.size + 2, 2, none⟩ = some (.int .i64 a3) ∧ w'.frozen? ⟨w.heap.size + 2, 0, none⟩ = false ∧ w'.frozen? ⟨w.heap.size + 2, 1, none⟩ = false ∧ w'.frozen? ⟨w.heap.size + 2, 2, none⟩ = false ∧ w.heap.size + 2 < w'.heap.size ∧ w'.cell? ⟨w.heap.size + 3, 0, none⟩ = some (.int .i64 b1) ∧ w'.cell? ⟨w.heap.size + 3, 1, none⟩ = some (.int .i64 b2) ∧ w'.cell? ⟨w.heap.size + 3, 2, none⟩ = some (.int .i64 b3) ∧ w'.frozen? ⟨w.heap.size + 3, 0, none⟩ = false ∧ w'.frozen? ⟨w.heap.size + 3, 1, none⟩ = false ∧ w'.frozen? ⟨w.heap.size + 3, 2, none⟩ = false ∧ w.heap.size + 3 < w'.heap.size ∧ Below w.heap.size w w') (by (refine ⟨?_, ?_, ?_, ?_, ?_, ?_, ?_, ?_, ?_, ?_, ?_, ?_, ?_, ?_, ?_, ?_, ?_, ?_, ?_, ?_, ?_, ?_, by (repeat' (first | (with_reducible exact Below.refl _ _) | (with_reducible refine Below.setCell ?_ (by (first | omega | (simp; done) | (simp; omega))) _) | (with_reducible refine Below.alloc ?_ (by (first | omega | (simp; done) | (simp; omega))) _) | (with_reducible refine Below.drew ?_) | (with_reducible refine below_drewN ?_ _) | (with_reducible refine Below.trans ?_ (Below.mono HBo (by (first | omega | (simp; done) | (simp; omega)))))))⟩); all_goals (repeat' (first | (with_reducible assumption) | (with_reducible refine HeldP.c_drew ?_) | (with_reducible refine HeldP.c_drewN ?_) | (with_reducible refine HeldP.c_same (by omega) ?_) | (with_reducible refine HeldP.c_other ?_ ?_) | (with_reducible refine HeldP.c_new (by first | omega | (simp; done) | (simp; omega)) ?_) | (with_reducible refine HeldP.c_alloc ?_ ?_) | (with_reducible refine HeldP.e_drew ?_) | (with_reducible refine HeldP.e_drewN ?_) | (with_reducible refine HeldP.e_set ?_) | (with_reducible refine HeldP.e_new (by first | omega | (simp; done) | (simp; omega)) ⟨_, rfl⟩) | (with_reducible refine HeldP.e_alloc ?_ ?_) | (with_reducible refine HeldP.f_drew ?_) | (with_reducible refine HeldP.f_drewN ?_) | (with_reducible refine HeldP.f_set ?_) | (with_reducible refine HeldP.f_new (by first | omega | (simp; done) | (simp; omega))) | (with_reducible refine HeldP.f_alloc ?_ ?_) | (with_reducible refine HeldP.s_drew ?_) | (with_reducible refine HeldP.s_drewN ?_) | (with_reducible refine HeldP.s_set ?_) | (with_reducible refine HeldP.s_new (by first | omega | (simp; done) | (simp; omega))) | (with_reducible refine HeldP.s_alloc ?_) | (with_reducible exact ⟨_, by assumption⟩) | omega | (intro e; simp at e; done) | (intro e; simp at e; omega) | (exact rfl) | (simp; done) | (simp; omega)))) ?_
  clear HBo HB2 c2_0_0 c2_0_1 c2_0_2 l2_0 c2_1_0 c2_1_1 c2_1_2 l2_1 c2_2_0 c2_2_1 c2_2_2 f2_2_0 f2_2_1 f2_2_2 l2_2 c2_3_0 c2_3_1 c2_3_2 f2_3_0 f2_3_1 f2_3_2 l2_3 n2_0 n2_1 n2_2 n2_3 z2
  rintro w3 ⟨c3_0_0, c3_0_1, c3_0_2, l3_0, c3_1_0, c3_1_1, c3_1_2, l3_1, c3_2_0, c3_2_1, c3_2_2, f3_2_0, f3_2_1, f3_2_2, l3_2, c3_3_0, c3_3_1, c3_3_2, f3_3_0, f3_3_1, f3_3_2, l3_3, HBn⟩
  have n3_0 : w.heap.size ≠ w3.heap.size := (by omega)
  have n3_1 : w.heap.size + 1 ≠ w3.heap.size := (by omega)
  have n3_2 : w.heap.size + 2 ≠ w3.heap.size := (by omega)
  have n3_3 : w.heap.size + 3 ≠ w3.heap.size := (by omega)
  have z3 : w.heap.size ≤ w3.heap.size := (by omega)
  have HB3 := Lib.hid HBn
  clear HBn
  refine bodyPost_ret (v := .tuple #[.agg #[.int .i64 a1, .int .i64 a2, .int .i64 a3], .agg #[.int .i64 b1, .int .i64 b2, .int .i64 b3], .int .i64 p, .int .i64 0]) (by simp [results, Try.results33, go_sem, c3_2_0, c3_2_1, c3_2_2, c3_3_0, c3_3_1, c3_3_2]) rfl ?_
  have HBo := HB3.out
  exact ⟨rfl, HBo⟩

set_option maxRecDepth 100000 in
set_option maxHeartbeats 2000000 in
theorem r_box_many {x y z u v t g1 g2 g3 p12 p a1 a2 a3 b1 b2 b3 : Int} (hm : mayB x y z = true) (hn : mayB u v t = true) (l1 : loI x u = a1) (l2 : loI y v = a2) (l3 : loI z t = a3) (u1 : hiI x u = b1) (u2 : hiI y v = b2) (u3 : hiI z t = b3)
    (e1 : b1 - a1 = g1) (e2 : b2 - a2 = g2) (e3 : b3 - a3 = g3) (z1 : 0 ≤ g1) (z2 : 0 ≤ g2) (z3 : 0 ≤ g3)  (w1 : g1 < 16) (w2 : g2 < 16) (w3 : g3 < 16) (e4 : (g1 + 1) * (g2 + 1) = p12) (e5 : p12 * (g3 + 1) = p) (p0 : 0 ≤ p12) (p1 : p12 ≤ 256) (p2 : 0 ≤ p) (p3 : 512 < p) (p4 : p ≤ 8192) (w : World) :
    Calls Try.prog 33 #[.agg #[.int .i64 x, .int .i64 y, .int .i64 z], .agg #[.int .i64 u, .int .i64 v, .int .i64 t]] w fun e w' => e = .returned (.tuple #[.agg #[.int .i64 0, .int .i64 0, .int .i64 0], .agg #[.int .i64 0, .int .i64 0, .int .i64 0], .int .i64 0, .int .i64 3]) ∧ Below w.heap.size w w' := by
  obtain ⟨h1, h2, h3, h4, h5, h6⟩ := mayB_true hm
  obtain ⟨k1, k2, k3, k4, k5, k6⟩ := mayB_true hn
  have hx := lo_hi_bounds h1 h2 k1 k2
  have hy := lo_hi_bounds h3 h4 k3 k4
  have hz := lo_hi_bounds h5 h6 k5 k6
  rw [l1, u1] at hx
  rw [l2, u2] at hy
  rw [l3, u3] at hz
  obtain ⟨r1, r2, r3, r4⟩ := hx
  obtain ⟨r5, r6, r7, r8⟩ := hy
  obtain ⟨r9, r10, r11, r12⟩ := hz
  have HX := Lib.hid (ends_c l1 u1)
  have HY := Lib.hid (ends_c l2 u2)
  have HZ := Lib.hid (ends_c l3 u3)
  have HM := Lib.hid hm
  have HN := Lib.hid hn
  have g1u : g1 ≤ 4194304 := by omega
  have g2u : g2 ≤ 4194304 := by omega
  have g3u : g3 ≤ 4194304 := by omega
  clear hm hn l1 l2 l3 u1 u2 u3
  go_enter Try.func33, Try.ntmps33
  go_wp2_with fail
  go_at_call 20
  refine (r_may_b HM.out _).mono ?_
  rintro e w1 ⟨rfl, hb1⟩
  have hs1 := hb1.size
  try simp at hs1
  obtain ⟨c1_0_0, c1_0_1, c1_0_2, l1_0, c1_1_0, c1_1_1, c1_1_2, l1_1, c1_2_0, c1_2_1, c1_2_2, f1_2_0, f1_2_1, f1_2_2, l1_2, c1_3_0, c1_3_1, c1_3_2, f1_3_0, f1_3_1, f1_3_2, l1_3⟩ : w1.cell? ⟨w.heap.size, 0, none⟩ = some (.int .i64 x) ∧ w1.cell? ⟨w.heap.size, 1, none⟩ = some (.int .i64 y) ∧ w1.cell? ⟨w.heap.size, 2, none⟩ = some (.int .i64 z) ∧ w.heap.size < w1.heap.size ∧ w1.cell? ⟨w.heap.size + 1, 0, none⟩ = some (.int .i64 u) ∧ w1.cell? ⟨w.heap.size + 1, 1, none⟩ = some (.int .i64 v) ∧ w1.cell? ⟨w.heap.size + 1, 2, none⟩ = some (.int .i64 t) ∧ w.heap.size + 1 < w1.heap.size ∧ w1.cell? ⟨w.heap.size + 2, 0, none⟩ = some (.int .i64 0) ∧ w1.cell? ⟨w.heap.size + 2, 1, none⟩ = some (.int .i64 0) ∧ w1.cell? ⟨w.heap.size + 2, 2, none⟩ = some (.int .i64 0) ∧ w1.frozen? ⟨w.heap.size + 2, 0, none⟩ = false ∧ w1.frozen? ⟨w.heap.size + 2, 1, none⟩ = false ∧ w1.frozen? ⟨w.heap.size + 2, 2, none⟩ = false ∧ w.heap.size + 2 < w1.heap.size ∧ w1.cell? ⟨w.heap.size + 3, 0, none⟩ = some (.int .i64 0) ∧ w1.cell? ⟨w.heap.size + 3, 1, none⟩ = some (.int .i64 0) ∧ w1.cell? ⟨w.heap.size + 3, 2, none⟩ = some (.int .i64 0) ∧ w1.frozen? ⟨w.heap.size + 3, 0, none⟩ = false ∧ w1.frozen? ⟨w.heap.size + 3, 1, none⟩ = false ∧ w1.frozen? ⟨w.heap.size + 3, 2, none⟩ = false ∧ w.heap.size + 3 < w1.heap.size := by
    refine ⟨?_, ?_, ?_, ?_, ?_, ?_, ?_, ?_, ?_, ?_, ?_, ?_, ?_, ?_, ?_, ?_, ?_, ?_, ?_, ?_, ?_, ?_⟩
    all_goals (repeat' (first | (with_reducible assumption) | (with_reducible refine HeldP.c_below hb1 ?_ ?_) | (with_reducible refine HeldP.f_below hb1 ?_ ?_) | (with_reducible refine HeldP.c_drew ?_) | (with_reducible refine HeldP.c_drewN ?_) | (with_reducible refine HeldP.c_same (by omega) ?_) | (with_reducible refine HeldP.c_other ?_ ?_) | (with_reducible refine HeldP.c_new (by first | omega | (simp; done) | (simp; omega)) ?_) | (with_reducible refine HeldP.c_alloc ?_ ?_) | (with_reducible refine HeldP.e_drew ?_) | (with_reducible refine HeldP.e_drewN ?_) | (with_reducible refine HeldP.e_set ?_) | (with_reducible refine HeldP.e_new (by first | omega | (simp; done) | (simp; omega)) ⟨_, rfl⟩) | (with_reducible refine HeldP.e_alloc ?_ ?_) | (with_reducible refine HeldP.f_drew ?_) | (with_reducible refine HeldP.f_drewN ?_) | (with_reducible refine HeldP.f_set ?_) | (with_reducible refine HeldP.f_new (by first | omega | (simp; done) | (simp; omega))) | (with_reducible refine HeldP.f_alloc ?_ ?_) | (with_reducible refine HeldP.s_drew ?_) | (with_reducible refine HeldP.s_drewN ?_) | (with_reducible refine HeldP.s_set ?_) | (with_reducible refine HeldP.s_new (by first | omega | (simp; done) | (simp; omega))) | (with_reducible refine HeldP.s_alloc ?_) | (with_reducible exact ⟨_, by assumption⟩) | omega | (intro e; simp at e; done) | (intro e; simp at e; omega) | (exact rfl) | (simp; done) | (simp; omega)))
  have n1_0 : w.heap.size ≠ w1.heap.size := (by omega)
  have n1_1 : w.heap.size + 1 ≠ w1.heap.size := (by omega)
  have n1_2 : w.heap.size + 2 ≠ w1.heap.size := (by omega)
  have n1_3 : w.heap.size + 3 ≠ w1.heap.size := (by omega)
  have z1 : w.heap.size ≤ w1.heap.size := (by omega)
  have HB1 := Lib.hid (show Below w.heap.size w w1 by (repeat' (first | (with_reducible exact Below.refl _ _) | (with_reducible refine Below.setCell ?_ (by (first | omega | (simp; done) | (simp; omega))) _) | (with_reducible refine Below.alloc ?_ (by (first | omega | (simp; done) | (simp; omega))) _) | (with_reducible refine Below.drew ?_) | (with_reducible refine below_drewN ?_ _) | (with_reducible refine Below.trans ?_ (Below.mono hb1 (by (first | omega | (simp; done) | (simp; omega))))))))
  clear hb1 hs1
  go_wp2_with fail
  go_at_call 20
  refine (r_may_b HN.out _).mono ?_
  rintro e w2 ⟨rfl, hb2⟩
  have HBo := HB1.out
  have hs2 := hb2.size
  try simp at hs2
  obtain ⟨c2_0_0, c2_0_1, c2_0_2, l2_0, c2_1_0, c2_1_1, c2_1_2, l2_1, c2_2_0, c2_2_1, c2_2_2, f2_2_0, f2_2_1, f2_2_2, l2_2, c2_3_0, c2_3_1, c2_3_2, f2_3_0, f2_3_1, f2_3_2, l2_3⟩ : w2.cell? ⟨w.heap.size, 0, none⟩ = some (.int .i64 x) ∧ w2.cell? ⟨w.heap.size, 1, none⟩ = some (.int .i64 y) ∧ w2.cell? ⟨w.heap.size, 2, none⟩ = some (.int .i64 z) ∧ w.heap.size < w2.heap.size ∧ w2.cell? ⟨w.heap.size + 1, 0, none⟩ = some (.int .i64 u) ∧ w2.cell? ⟨w.heap.size + 1, 1, none⟩ = some (.int .i64 v) ∧ w2.cell? ⟨w.heap.size + 1, 2, none⟩ = some (.int .i64 t) ∧ w.heap.size + 1 < w2.heap.size ∧ w2.cell? ⟨w.heap.size + 2, 0, none⟩ = some (.int .i64 0) ∧ w2.cell? ⟨w.heap.size + 2, 1, none⟩ = some (.int .i64 0) ∧ w2.cell? ⟨w.heap.size + 2, 2, none⟩ = some (.int .i64 0) ∧ w2.frozen? ⟨w.heap.size + 2, 0, none⟩ = false ∧ w2.frozen? ⟨w.heap.size + 2, 1, none⟩ = false ∧ w2.frozen? ⟨w.heap.size + 2, 2, none⟩ = false ∧ w.heap.size + 2 < w2.heap.size ∧ w2.cell? ⟨w.heap.size + 3, 0, none⟩ = some (.int .i64 0) ∧ w2.cell? ⟨w.heap.size + 3, 1, none⟩ = some (.int .i64 0) ∧ w2.cell? ⟨w.heap.size + 3, 2, none⟩ = some (.int .i64 0) ∧ w2.frozen? ⟨w.heap.size + 3, 0, none⟩ = false ∧ w2.frozen? ⟨w.heap.size + 3, 1, none⟩ = false ∧ w2.frozen? ⟨w.heap.size + 3, 2, none⟩ = false ∧ w.heap.size + 3 < w2.heap.size := by
    refine ⟨?_, ?_, ?_, ?_, ?_, ?_, ?_, ?_, ?_, ?_, ?_, ?_, ?_, ?_, ?_, ?_, ?_, ?_, ?_, ?_, ?_, ?_⟩
    all_goals (repeat' (first | (with_reducible assumption) | (with_reducible refine HeldP.c_below hb2 ?_ ?_) | (with_reducible refine HeldP.f_below hb2 ?_ ?_) | (with_reducible refine HeldP.c_drew ?_) | (with_reducible refine HeldP.c_drewN ?_) | (with_reducible refine HeldP.c_same (by omega) ?_) | (with_reducible refine HeldP.c_other ?_ ?_) | (with_reducible refine HeldP.c_new (by first | omega | (simp; done) | (simp; omega)) ?_) | (with_reducible refine HeldP.c_alloc ?_ ?_) | (with_reducible refine HeldP.e_drew ?_) | (with_reducible refine HeldP.e_drewN ?_) | (with_reducible refine HeldP.e_set ?_) | (with_reducible refine HeldP.e_new (by first | omega | (simp; done) | (simp; omega)) ⟨_, rfl⟩) | (with_reducible refine HeldP.e_alloc ?_ ?_) | (with_reducible refine HeldP.f_drew ?_) | (with_reducible refine HeldP.f_drewN ?_) | (with_reducible refine HeldP.f_set ?_) | (with_reducible refine HeldP.f_new (by first | omega | (simp; done) | (simp; omega))) | (with_reducible refine HeldP.f_alloc ?_ ?_) | (with_reducible refine HeldP.s_drew ?_) | (with_reducible refine HeldP.s_drewN ?_) | (with_reducible refine HeldP.s_set ?_) | (with_reducible refine HeldP.s_new (by first | omega | (simp; done) | (simp; omega))) | (with_reducible refine HeldP.s_alloc ?_) | (with_reducible exact ⟨_, by assumption⟩) | omega | (intro e; simp at e; done) | (intro e; simp at e; omega) | (exact rfl) | (simp; done) | (simp; omega)))
  have n2_0 : w.heap.size ≠ w2.heap.size := (by omega)
  have n2_1 : w.heap.size + 1 ≠ w2.heap.size := (by omega)
  have n2_2 : w.heap.size + 2 ≠ w2.heap.size := (by omega)
  have n2_3 : w.heap.size + 3 ≠ w2.heap.size := (by omega)
  have z2 : w.heap.size ≤ w2.heap.size := (by omega)
  have HB2 := Lib.hid (show Below w.heap.size w w2 by (repeat' (first | (with_reducible exact Below.refl _ _) | (with_reducible refine Below.setCell ?_ (by (first | omega | (simp; done) | (simp; omega))) _) | (with_reducible refine Below.alloc ?_ (by (first | omega | (simp; done) | (simp; omega))) _) | (with_reducible refine Below.drew ?_) | (with_reducible refine below_drewN ?_ _) | (with_reducible refine Below.trans ?_ (Below.mono HBo (by (first | omega | (simp; done) | (simp; omega))))) | (with_reducible refine Below.trans ?_ (Below.mono hb2 (by (first | omega | (simp; done) | (simp; omega))))))))
  clear HBo hb2 hs2 c1_0_0 c1_0_1 c1_0_2 l1_0 c1_1_0 c1_1_1 c1_1_2 l1_1 c1_2_0 c1_2_1 c1_2_2 f1_2_0 f1_2_1 f1_2_2 l1_2 c1_3_0 c1_3_1 c1_3_2 f1_3_0 f1_3_1 f1_3_2 l1_3 n1_0 n1_1 n1_2 n1_3 z1 HB1
  go_wp2_with (go_at_call 46; (first | (with_reducible refine (HX.out _).mono ?_) | (with_reducible refine (HY.out _).mono ?_) | (with_reducible refine (HZ.out _).mono ?_)); rintro e w' ⟨rfl, rfl⟩)
  have HBo := HB2.out
  refine HeldP.bp_named (fun w' => w'.cell? ⟨w.heap.size, 0, none⟩ = some (.int .i64 x) ∧ w'.cell? ⟨w.heap.size, 1, none⟩ = some (.int .i64 y) ∧ w'.cell? ⟨w.heap.size, 2, none⟩ = some (.int .i64 z) ∧ w.heap.size < w'.heap.size ∧ w'.cell? ⟨w.heap.size + 1, 0, none⟩ = some (.int .i64 u) ∧ w'.cell? ⟨w.heap.size + 1, 1, none⟩ = some (.int .i64 v) ∧ w'.cell? ⟨w.heap.size + 1, 2, none⟩ = some (.int .i64 t) ∧ w.heap.size + 1 < w'.heap.size ∧ w'.cell? ⟨w.heap.size + 2, 0, none⟩ = some (.int .i64 0) ∧ w'.cell? ⟨w.heap.size + 2, 1, none⟩ = some (.int .i64 0) ∧ w'.cell? ⟨w.heap.size + 2, 2, none⟩ = some (.int .i64 0) ∧ w'.frozen? ⟨w.heap.size + 2, 0, none⟩ = false ∧ w'.frozen? ⟨w.heap.size + 2, 1, none⟩ = false ∧ w'.frozen? ⟨w.heap.size + 2, 2, none⟩ = false ∧ w.heap.size + 2 < w'.heap.size ∧ w'.cell? ⟨w.heap.size + 3, 0, none⟩ = some (.int .i64 0) ∧ w'.cell? ⟨w.heap.size + 3, 1, none⟩ = some (.int .i64 0) ∧ w'.cell? ⟨w.heap.size + 3, 2, none⟩ = some (.int .i64 0) ∧ w'.frozen? ⟨w.heap.size + 3, 0, none⟩ = false ∧ w'.frozen? ⟨w.heap.size + 3, 1, none⟩ = false ∧ w'.frozen? ⟨w.heap.size + 3, 2, none⟩ = false ∧ w.heap.size + 3 < w'.heap.size ∧ Below w.heap.size w w') (by (refine ⟨?_, ?_, ?_, ?_, ?_, ?_, ?_, ?_, ?_, ?_, ?_, ?_, ?_, ?_, ?_, ?_, ?_, ?_, ?_, ?_, ?_, ?_, by (repeat' (first | (with_reducible exact Below.refl _ _) | (with_reducible refine Below.setCell ?_ (by (first | omega | (simp; done) | (simp; omega))) _) | (with_reducible refine Below.alloc ?_ (by (first | omega | (simp; done) | (simp; omega))) _) | (with_reducible refine Below.drew ?_) | (with_reducible refine below_drewN ?_ _) | (with_reducible refine Below.trans ?_ (Below.mono HBo (by (first | omega | (simp; done) | (simp; omega)))))))⟩); all_goals (repeat' (first | (with_reducible assumption) | (with_reducible refine HeldP.c_drew ?_) | (with_reducible refine HeldP.c_drewN ?_) | (with_reducible refine HeldP.c_same (by omega) ?_) | (with_reducible refine HeldP.c_other ?_ ?_) | (with_reducible refine HeldP.c_new (by first | omega | (simp; done) | (simp; omega)) ?_) | (with_reducible refine HeldP.c_alloc ?_ ?_) | (with_reducible refine HeldP.e_drew ?_) | (with_reducible refine HeldP.e_drewN ?_) | (with_reducible refine HeldP.e_set ?_) | (with_reducible refine HeldP.e_new (by first | omega | (simp; done) | (simp; omega)) ⟨_, rfl⟩) | (with_reducible refine HeldP.e_alloc ?_ ?_) | (with_reducible refine HeldP.f_drew ?_) | (with_reducible refine HeldP.f_drewN ?_) | (with_reducible refine HeldP.f_set ?_) | (with_reducible refine HeldP.f_new (by first | omega | (simp; done) | (simp; omega))) | (with_reducible refine HeldP.f_alloc ?_ ?_) | (with_reducible refine HeldP.s_drew ?_) | (with_reducible refine HeldP.s_drewN ?_) | (with_reducible refine HeldP.s_set ?_) | (with_reducible refine HeldP.s_new (by first | omega | (simp; done) | (simp; omega))) | (with_reducible refine HeldP.s_alloc ?_) | (with_reducible exact ⟨_, by assumption⟩) | omega | (intro e; simp at e; done) | (intro e; simp at e; omega) | (exact rfl) | (simp; done) | (simp; omega)))) ?_
  clear HBo HB2 c2_0_0 c2_0_1 c2_0_2 l2_0 c2_1_0 c2_1_1 c2_1_2 l2_1 c2_2_0 c2_2_1 c2_2_2 f2_2_0 f2_2_1 f2_2_2 l2_2 c2_3_0 c2_3_1 c2_3_2 f2_3_0 f2_3_1 f2_3_2 l2_3 n2_0 n2_1 n2_2 n2_3 z2
  rintro w3 ⟨c3_0_0, c3_0_1, c3_0_2, l3_0, c3_1_0, c3_1_1, c3_1_2, l3_1, c3_2_0, c3_2_1, c3_2_2, f3_2_0, f3_2_1, f3_2_2, l3_2, c3_3_0, c3_3_1, c3_3_2, f3_3_0, f3_3_1, f3_3_2, l3_3, HBn⟩
  have n3_0 : w.heap.size ≠ w3.heap.size := (by omega)
  have n3_1 : w.heap.size + 1 ≠ w3.heap.size := (by omega)
  have n3_2 : w.heap.size + 2 ≠ w3.heap.size := (by omega)
  have n3_3 : w.heap.size + 3 ≠ w3.heap.size := (by omega)
  have z3 : w.heap.size ≤ w3.heap.size := (by omega)
  have HB3 := Lib.hid HBn
  clear HBn
  refine bodyPost_ret (v := .tuple #[.agg #[.int .i64 0, .int .i64 0, .int .i64 0], .agg #[.int .i64 0, .int .i64 0, .int .i64 0], .int .i64 0, .int .i64 3]) (by simp [results, Try.results33, go_sem, c3_2_0, c3_2_1, c3_2_2, c3_3_0, c3_3_1, c3_3_2]) rfl ?_
  have HBo := HB3.out
  exact ⟨rfl, HBo⟩

set_option maxRecDepth 100000 in
set_option maxHeartbeats 2000000 in
theorem r_box_wx {x y z u v t g1 g2 g3 a1 a2 a3 b1 b2 b3 : Int} (hm : mayB x y z = true) (hn : mayB u v t = true) (l1 : loI x u = a1) (l2 : loI y v = a2) (l3 : loI z t = a3) (u1 : hiI x u = b1) (u2 : hiI y v = b2) (u3 : hiI z t = b3)
    (e1 : b1 - a1 = g1) (e2 : b2 - a2 = g2) (e3 : b3 - a3 = g3) (z1 : 0 ≤ g1) (z2 : 0 ≤ g2) (z3 : 0 ≤ g3)  (w1 : 16 ≤ g1) (w : World) :
    Calls Try.prog 33 #[.agg #[.int .i64 x, .int .i64 y, .int .i64 z], .agg #[.int .i64 u, .int .i64 v, .int .i64 t]] w fun e w' => e = .returned (.tuple #[.agg #[.int .i64 0, .int .i64 0, .int .i64 0], .agg #[.int .i64 0, .int .i64 0, .int .i64 0], .int .i64 0, .int .i64 3]) ∧ Below w.heap.size w w' := by
  obtain ⟨h1, h2, h3, h4, h5, h6⟩ := mayB_true hm
  obtain ⟨k1, k2, k3, k4, k5, k6⟩ := mayB_true hn
  have hx := lo_hi_bounds h1 h2 k1 k2
  have hy := lo_hi_bounds h3 h4 k3 k4
  have hz := lo_hi_bounds h5 h6 k5 k6
  rw [l1, u1] at hx
  rw [l2, u2] at hy
  rw [l3, u3] at hz
  obtain ⟨r1, r2, r3, r4⟩ := hx
  obtain ⟨r5, r6, r7, r8⟩ := hy
  obtain ⟨r9, r10, r11, r12⟩ := hz
  have HX := Lib.hid (ends_c l1 u1)
  have HY := Lib.hid (ends_c l2 u2)
  have HZ := Lib.hid (ends_c l3 u3)
  have HM := Lib.hid hm
  have HN := Lib.hid hn
  have g1u : g1 ≤ 4194304 := by omega
  have g2u : g2 ≤ 4194304 := by omega
  have g3u : g3 ≤ 4194304 := by omega
  clear hm hn l1 l2 l3 u1 u2 u3
  go_enter Try.func33, Try.ntmps33
  go_wp2_with fail
  go_at_call 20
  refine (r_may_b HM.out _).mono ?_
  rintro e w1 ⟨rfl, hb1⟩
  have hs1 := hb1.size
  try simp at hs1
  obtain ⟨c1_0_0, c1_0_1, c1_0_2, l1_0, c1_1_0, c1_1_1, c1_1_2, l1_1, c1_2_0, c1_2_1, c1_2_2, f1_2_0, f1_2_1, f1_2_2, l1_2, c1_3_0, c1_3_1, c1_3_2, f1_3_0, f1_3_1, f1_3_2, l1_3⟩ : w1.cell? ⟨w.heap.size, 0, none⟩ = some (.int .i64 x) ∧ w1.cell? ⟨w.heap.size, 1, none⟩ = some (.int .i64 y) ∧ w1.cell? ⟨w.heap.size, 2, none⟩ = some (.int .i64 z) ∧ w.heap.size < w1.heap.size ∧ w1.cell? ⟨w.heap.size + 1, 0, none⟩ = some (.int .i64 u) ∧ w1.cell? ⟨w.heap.size + 1, 1, none⟩ = some (.int .i64 v) ∧ w1.cell? ⟨w.heap.size + 1, 2, none⟩ = some (.int .i64 t) ∧ w.heap.size + 1 < w1.heap.size ∧ w1.cell? ⟨w.heap.size + 2, 0, none⟩ = some (.int .i64 0) ∧ w1.cell? ⟨w.heap.size + 2, 1, none⟩ = some (.int .i64 0) ∧ w1.cell? ⟨w.heap.size + 2, 2, none⟩ = some (.int .i64 0) ∧ w1.frozen? ⟨w.heap.size + 2, 0, none⟩ = false ∧ w1.frozen? ⟨w.heap.size + 2, 1, none⟩ = false ∧ w1.frozen? ⟨w.heap.size + 2, 2, none⟩ = false ∧ w.heap.size + 2 < w1.heap.size ∧ w1.cell? ⟨w.heap.size + 3, 0, none⟩ = some (.int .i64 0) ∧ w1.cell? ⟨w.heap.size + 3, 1, none⟩ = some (.int .i64 0) ∧ w1.cell? ⟨w.heap.size + 3, 2, none⟩ = some (.int .i64 0) ∧ w1.frozen? ⟨w.heap.size + 3, 0, none⟩ = false ∧ w1.frozen? ⟨w.heap.size + 3, 1, none⟩ = false ∧ w1.frozen? ⟨w.heap.size + 3, 2, none⟩ = false ∧ w.heap.size + 3 < w1.heap.size := by
    refine ⟨?_, ?_, ?_, ?_, ?_, ?_, ?_, ?_, ?_, ?_, ?_, ?_, ?_, ?_, ?_, ?_, ?_, ?_, ?_, ?_, ?_, ?_⟩
    all_goals (repeat' (first | (with_reducible assumption) | (with_reducible refine HeldP.c_below hb1 ?_ ?_) | (with_reducible refine HeldP.f_below hb1 ?_ ?_) | (with_reducible refine HeldP.c_drew ?_) | (with_reducible refine HeldP.c_drewN ?_) | (with_reducible refine HeldP.c_same (by omega) ?_) | (with_reducible refine HeldP.c_other ?_ ?_) | (with_reducible refine HeldP.c_new (by first | omega | (simp; done) | (simp; omega)) ?_) | (with_reducible refine HeldP.c_alloc ?_ ?_) | (with_reducible refine HeldP.e_drew ?_) | (with_reducible refine HeldP.e_drewN ?_) | (with_reducible refine HeldP.e_set ?_) | (with_reducible refine HeldP.e_new (by first | omega | (simp; done) | (simp; omega)) ⟨_, rfl⟩) | (with_reducible refine HeldP.e_alloc ?_ ?_) | (with_reducible refine HeldP.f_drew ?_) | (with_reducible refine HeldP.f_drewN ?_) | (with_reducible refine HeldP.f_set ?_) | (with_reducible refine HeldP.f_new (by first | omega | (simp; done) | (simp; omega))) | (with_reducible refine HeldP.f_alloc ?_ ?_) | (with_reducible refine HeldP.s_drew ?_) | (with_reducible refine HeldP.s_drewN ?_) | (with_reducible refine HeldP.s_set ?_) | (with_reducible refine HeldP.s_new (by first | omega | (simp; done) | (simp; omega))) | (with_reducible refine HeldP.s_alloc ?_) | (with_reducible exact ⟨_, by assumption⟩) | omega | (intro e; simp at e; done) | (intro e; simp at e; omega) | (exact rfl) | (simp; done) | (simp; omega)))
  have n1_0 : w.heap.size ≠ w1.heap.size := (by omega)
  have n1_1 : w.heap.size + 1 ≠ w1.heap.size := (by omega)
  have n1_2 : w.heap.size + 2 ≠ w1.heap.size := (by omega)
  have n1_3 : w.heap.size + 3 ≠ w1.heap.size := (by omega)
  have z1 : w.heap.size ≤ w1.heap.size := (by omega)
  have HB1 := Lib.hid (show Below w.heap.size w w1 by (repeat' (first | (with_reducible exact Below.refl _ _) | (with_reducible refine Below.setCell ?_ (by (first | omega | (simp; done) | (simp; omega))) _) | (with_reducible refine Below.alloc ?_ (by (first | omega | (simp; done) | (simp; omega))) _) | (with_reducible refine Below.drew ?_) | (with_reducible refine below_drewN ?_ _) | (with_reducible refine Below.trans ?_ (Below.mono hb1 (by (first | omega | (simp; done) | (simp; omega))))))))
  clear hb1 hs1
  go_wp2_with fail
  go_at_call 20
  refine (r_may_b HN.out _).mono ?_
  rintro e w2 ⟨rfl, hb2⟩
  have HBo := HB1.out
  have hs2 := hb2.size
  try simp at hs2
  obtain ⟨c2_0_0, c2_0_1, c2_0_2, l2_0, c2_1_0, c2_1_1, c2_1_2, l2_1, c2_2_0, c2_2_1, c2_2_2, f2_2_0, f2_2_1, f2_2_2, l2_2, c2_3_0, c2_3_1, c2_3_2, f2_3_0, f2_3_1, f2_3_2, l2_3⟩ : w2.cell? ⟨w.heap.size, 0, none⟩ = some (.int .i64 x) ∧ w2.cell? ⟨w.heap.size, 1, none⟩ = some (.int .i64 y) ∧ w2.cell? ⟨w.heap.size, 2, none⟩ = some (.int .i64 z) ∧ w.heap.size < w2.heap.size ∧ w2.cell? ⟨w.heap.size + 1, 0, none⟩ = some (.int .i64 u) ∧ w2.cell? ⟨w.heap.size + 1, 1, none⟩ = some (.int .i64 v) ∧ w2.cell? ⟨w.heap.size + 1, 2, none⟩ = some (.int .i64 t) ∧ w.heap.size + 1 < w2.heap.size ∧ w2.cell? ⟨w.heap.size + 2, 0, none⟩ = some (.int .i64 0) ∧ w2.cell? ⟨w.heap.size + 2, 1, none⟩ = some (.int .i64 0) ∧ w2.cell? ⟨w.heap.size + 2, 2, none⟩ = some (.int .i64 0) ∧ w2.frozen? ⟨w.heap.size + 2, 0, none⟩ = false ∧ w2.frozen? ⟨w.heap.size + 2, 1, none⟩ = false ∧ w2.frozen? ⟨w.heap.size + 2, 2, none⟩ = false ∧ w.heap.size + 2 < w2.heap.size ∧ w2.cell? ⟨w.heap.size + 3, 0, none⟩ = some (.int .i64 0) ∧ w2.cell? ⟨w.heap.size + 3, 1, none⟩ = some (.int .i64 0) ∧ w2.cell? ⟨w.heap.size + 3, 2, none⟩ = some (.int .i64 0) ∧ w2.frozen? ⟨w.heap.size + 3, 0, none⟩ = false ∧ w2.frozen? ⟨w.heap.size + 3, 1, none⟩ = false ∧ w2.frozen? ⟨w.heap.size + 3, 2, none⟩ = false ∧ w.heap.size + 3 < w2.heap.size := by
    refine ⟨?_, ?_, ?_, ?_, ?_, ?_, ?_, ?_, ?_, ?_, ?_, ?_, ?_, ?_, ?_, ?_, ?_, ?_, ?_, ?_, ?_, ?_⟩
    all_goals (repeat' (first | (with_reducible assumption) | (with_reducible refine HeldP.c_below hb2 ?_ ?_) | (with_reducible refine HeldP.f_below hb2 ?_ ?_) | (with_reducible refine HeldP.c_drew ?_) | (with_reducible refine HeldP.c_drewN ?_) | (with_reducible refine HeldP.c_same (by omega) ?_) | (with_reducible refine HeldP.c_other ?_ ?_) | (with_reducible refine HeldP.c_new (by first | omega | (simp; done) | (simp; omega)) ?_) | (with_reducible refine HeldP.c_alloc ?_ ?_) | (with_reducible refine HeldP.e_drew ?_) | (with_reducible refine HeldP.e_drewN ?_) | (with_reducible refine HeldP.e_set ?_) | (with_reducible refine HeldP.e_new (by first | omega | (simp; done) | (simp; omega)) ⟨_, rfl⟩) | (with_reducible refine HeldP.e_alloc ?_ ?_) | (with_reducible refine HeldP.f_drew ?_) | (with_reducible refine HeldP.f_drewN ?_) | (with_reducible refine HeldP.f_set ?_) | (with_reducible refine HeldP.f_new (by first | omega | (simp; done) | (simp; omega))) | (with_reducible refine HeldP.f_alloc ?_ ?_) | (with_reducible refine HeldP.s_drew ?_) | (with_reducible refine HeldP.s_drewN ?_) | (with_reducible refine HeldP.s_set ?_) | (with_reducible refine HeldP.s_new (by first | omega | (simp; done) | (simp; omega))) | (with_reducible refine HeldP.s_alloc ?_) | (with_reducible exact ⟨_, by assumption⟩) | omega | (intro e; simp at e; done) | (intro e; simp at e; omega) | (exact rfl) | (simp; done) | (simp; omega)))
  have n2_0 : w.heap.size ≠ w2.heap.size := (by omega)
  have n2_1 : w.heap.size + 1 ≠ w2.heap.size := (by omega)
  have n2_2 : w.heap.size + 2 ≠ w2.heap.size := (by omega)
  have n2_3 : w.heap.size + 3 ≠ w2.heap.size := (by omega)
  have z2 : w.heap.size ≤ w2.heap.size := (by omega)
  have HB2 := Lib.hid (show Below w.heap.size w w2 by (repeat' (first | (with_reducible exact Below.refl _ _) | (with_reducible refine Below.setCell ?_ (by (first | omega | (simp; done) | (simp; omega))) _) | (with_reducible refine Below.alloc ?_ (by (first | omega | (simp; done) | (simp; omega))) _) | (with_reducible refine Below.drew ?_) | (with_reducible refine below_drewN ?_ _) | (with_reducible refine Below.trans ?_ (Below.mono HBo (by (first | omega | (simp; done) | (simp; omega))))) | (with_reducible refine Below.trans ?_ (Below.mono hb2 (by (first | omega | (simp; done) | (simp; omega))))))))
  clear HBo hb2 hs2 c1_0_0 c1_0_1 c1_0_2 l1_0 c1_1_0 c1_1_1 c1_1_2 l1_1 c1_2_0 c1_2_1 c1_2_2 f1_2_0 f1_2_1 f1_2_2 l1_2 c1_3_0 c1_3_1 c1_3_2 f1_3_0 f1_3_1 f1_3_2 l1_3 n1_0 n1_1 n1_2 n1_3 z1 HB1
  go_wp2_with (go_at_call 46; (first | (with_reducible refine (HX.out _).mono ?_) | (with_reducible refine (HY.out _).mono ?_) | (with_reducible refine (HZ.out _).mono ?_)); rintro e w' ⟨rfl, rfl⟩)
  have HBo := HB2.out
  refine HeldP.bp_named (fun w' => w'.cell? ⟨w.heap.size, 0, none⟩ = some (.int .i64 x) ∧ w'.cell? ⟨w.heap.size, 1, none⟩ = some (.int .i64 y) ∧ w'.cell? ⟨w.heap.size, 2, none⟩ = some (.int .i64 z) ∧ w.heap.size < w'.heap.size ∧ w'.cell? ⟨w.heap.size + 1, 0, none⟩ = some (.int .i64 u) ∧ w'.cell? ⟨w.heap.size + 1, 1, none⟩ = some (.int .i64 v) ∧ w'.cell? ⟨w.heap.size + 1, 2, none⟩ = some (.int .i64 t) ∧ w.heap.size + 1 < w'.heap.size ∧ w'.cell? ⟨w.heap.size + 2, 0, none⟩ = some (.int .i64 0) ∧ w'.cell? ⟨w.heap.size + 2, 1, none⟩ = some (.int .i64 0) ∧ w'.cell? ⟨w.heap.size + 2, 2, none⟩ = some (.int .i64 0) ∧ w'.frozen? ⟨w.heap.size + 2, 0, none⟩ = false ∧ w'.frozen? ⟨w.heap.size + 2, 1, none⟩ = false ∧ w'.frozen? ⟨w.heap.size + 2, 2, none⟩ = false ∧ w.heap.size + 2 < w'.heap.size ∧ w'.cell? ⟨w.heap.size + 3, 0, none⟩ = some (.int .i64 0) ∧ w'.cell? ⟨w.heap.size + 3, 1, none⟩ = some (.int .i64 0) ∧ w'.cell? ⟨w.heap.size + 3, 2, none⟩ = some (.int .i64 0) ∧ w'.frozen? ⟨w.heap.size + 3, 0, none⟩ = false ∧ w'.frozen? ⟨w.heap.size + 3, 1, none⟩ = false ∧ w'.frozen? ⟨w.heap.size + 3, 2, none⟩ = false ∧ w.heap.size + 3 < w'.heap.size ∧ Below w.heap.size w w') (by (refine ⟨?_, ?_, ?_, ?_, ?_, ?_, ?_, ?_, ?_, ?_, ?_, ?_, ?_, ?_, ?_, ?_, ?_, ?_, ?_, ?_, ?_, ?_, by (repeat' (first | (with_reducible exact Below.refl _ _) | (with_reducible refine Below.setCell ?_ (by (first | omega | (simp; done) | (simp; omega))) _) | (with_reducible refine Below.alloc ?_ (by (first | omega | (simp; done) | (simp; omega))) _) | (with_reducible refine Below.drew ?_) | (with_reducible refine below_drewN ?_ _) | (with_reducible refine Below.trans ?_ (Below.mono HBo (by (first | omega | (simp; done) | (simp; omega)))))))⟩); all_goals (repeat' (first | (with_reducible assumption) | (with_reducible refine HeldP.c_drew ?_) | (with_reducible refine HeldP.c_drewN ?_) | (with_reducible refine HeldP.c_same (by omega) ?_) | (with_reducible refine HeldP.c_other ?_ ?_) | (with_reducible refine HeldP.c_new (by first | omega | (simp; done) | (simp; omega)) ?_) | (with_reducible refine HeldP.c_alloc ?_ ?_) | (with_reducible refine HeldP.e_drew ?_) | (with_reducible refine HeldP.e_drewN ?_) | (with_reducible refine HeldP.e_set ?_) | (with_reducible refine HeldP.e_new (by first | omega | (simp; done) | (simp; omega)) ⟨_, rfl⟩) | (with_reducible refine HeldP.e_alloc ?_ ?_) | (with_reducible refine HeldP.f_drew ?_) | (with_reducible refine HeldP.f_drewN ?_) | (with_reducible refine HeldP.f_set ?_) | (with_reducible refine HeldP.f_new (by first | omega | (simp; done) | (simp; omega))) | (with_reducible refine HeldP.f_alloc ?_ ?_) | (with_reducible refine HeldP.s_drew ?_) | (with_reducible refine HeldP.s_drewN ?_) | (with_reducible refine HeldP.s_set ?_) | (with_reducible refine HeldP.s_new (by first | omega | (simp; done) | (simp; omega))) | (with_reducible refine HeldP.s_alloc ?_) | (with_reducible exact ⟨_, by assumption⟩) | omega | (intro e; simp at e; done) | (intro e; simp at e; omega) | (exact rfl) | (simp; done) | (simp; omega)))) ?_
  clear HBo HB2 c2_0_0 c2_0_1 c2_0_2 l2_0 c2_1_0 c2_1_1 c2_1_2 l2_1 c2_2_0 c2_2_1 c2_2_2 f2_2_0 f2_2_1 f2_2_2 l2_2 c2_3_0 c2_3_1 c2_3_2 f2_3_0 f2_3_1 f2_3_2 l2_3 n2_0 n2_1 n2_2 n2_3 z2
  rintro w3 ⟨c3_0_0, c3_0_1, c3_0_2, l3_0, c3_1_0, c3_1_1, c3_1_2, l3_1, c3_2_0, c3_2_1, c3_2_2, f3_2_0, f3_2_1, f3_2_2, l3_2, c3_3_0, c3_3_1, c3_3_2, f3_3_0, f3_3_1, f3_3_2, l3_3, HBn⟩
  have n3_0 : w.heap.size ≠ w3.heap.size := (by omega)
  have n3_1 : w.heap.size + 1 ≠ w3.heap.size := (by omega)
  have n3_2 : w.heap.size + 2 ≠ w3.heap.size := (by omega)
  have n3_3 : w.heap.size + 3 ≠ w3.heap.size := (by omega)
  have z3 : w.heap.size ≤ w3.heap.size := (by omega)
  have HB3 := Lib.hid HBn
  clear HBn
  refine bodyPost_ret (v := .tuple #[.agg #[.int .i64 0, .int .i64 0, .int .i64 0], .agg #[.int .i64 0, .int .i64 0, .int .i64 0], .int .i64 0, .int .i64 3]) (by simp [results, Try.results33, go_sem, c3_2_0, c3_2_1, c3_2_2, c3_3_0, c3_3_1, c3_3_2]) rfl ?_
  have HBo := HB3.out
  exact ⟨rfl, HBo⟩

set_option maxRecDepth 100000 in
set_option maxHeartbeats 2000000 in
theorem r_box_wy {x y z u v t g1 g2 g3 a1 a2 a3 b1 b2 b3 : Int} (hm : mayB x y z = true) (hn : mayB u v t = true) (l1 : loI x u = a1) (l2 : loI y v = a2) (l3 : loI z t = a3) (u1 : hiI x u = b1) (u2 : hiI y v = b2) (u3 : hiI z t = b3)
    (e1 : b1 - a1 = g1) (e2 : b2 - a2 = g2) (e3 : b3 - a3 = g3) (z1 : 0 ≤ g1) (z2 : 0 ≤ g2) (z3 : 0 ≤ g3)  (w1 : g1 < 16) (w2 : 16 ≤ g2) (w : World) :
    Calls Try.prog 33 #[.agg #[.int .i64 x, .int .i64 y, .int .i64 z], .agg #[.int .i64 u, .int .i64 v, .int .i64 t]] w fun e w' => e = .returned (.tuple #[.agg #[.int .i64 0, .int .i64 0, .int .i64 0], .agg #[.int .i64 0, .int .i64 0, .int .i64 0], .int .i64 0, .int .i64 3]) ∧ Below w.heap.size w w' := by
  obtain ⟨h1, h2, h3, h4, h5, h6⟩ := mayB_true hm
  obtain ⟨k1, k2, k3, k4, k5, k6⟩ := mayB_true hn
  have hx := lo_hi_bounds h1 h2 k1 k2
  have hy := lo_hi_bounds h3 h4 k3 k4
  have hz := lo_hi_bounds h5 h6 k5 k6
  rw [l1, u1] at hx
  rw [l2, u2] at hy
  rw [l3, u3] at hz
  obtain ⟨r1, r2, r3, r4⟩ := hx
  obtain ⟨r5, r6, r7, r8⟩ := hy
  obtain ⟨r9, r10, r11, r12⟩ := hz
  have HX := Lib.hid (ends_c l1 u1)
  have HY := Lib.hid (ends_c l2 u2)
  have HZ := Lib.hid (ends_c l3 u3)
  have HM := Lib.hid hm
  have HN := Lib.hid hn
  have g1u : g1 ≤ 4194304 := by omega
  have g2u : g2 ≤ 4194304 := by omega
  have g3u : g3 ≤ 4194304 := by omega
  clear hm hn l1 l2 l3 u1 u2 u3
  go_enter Try.func33, Try.ntmps33
  go_wp2_with fail
  go_at_call 20
  refine (r_may_b HM.out _).mono ?_
  rintro e w1 ⟨rfl, hb1⟩
  have hs1 := hb1.size
  try simp at hs1
  obtain ⟨c1_0_0, c1_0_1, c1_0_2, l1_0, c1_1_0, c1_1_1, c1_1_2, l1_1, c1_2_0, c1_2_1, c1_2_2, f1_2_0, f1_2_1, f1_2_2, l1_2, c1_3_0, c1_3_1, c1_3_2, f1_3_0, f1_3_1, f1_3_2, l1_3⟩ : w1.cell? ⟨w.heap.size, 0, none⟩ = some (.int .i64 x) ∧ w1.cell? ⟨w.heap.size, 1, none⟩ = some (.int .i64 y) ∧ w1.cell? ⟨w.heap.size, 2, none⟩ = some (.int .i64 z) ∧ w.heap.size < w1.heap.size ∧ w1.cell? ⟨w.heap.size + 1, 0, none⟩ = some (.int .i64 u) ∧ w1.cell? ⟨w.heap.size + 1, 1, none⟩ = some (.int .i64 v) ∧ w1.cell? ⟨w.heap.size + 1, 2, none⟩ = some (.int .i64 t) ∧ w.heap.size + 1 < w1.heap.size ∧ w1.cell? ⟨w.heap.size + 2, 0, none⟩ = some (.int .i64 0) ∧ w1.cell? ⟨w.heap.size + 2, 1, none⟩ = some (.int .i64 0) ∧ w1.cell? ⟨w.heap.size + 2, 2, none⟩ = some (.int .i64 0) ∧ w1.frozen? ⟨w.heap.size + 2, 0, none⟩ = false ∧ w1.frozen? ⟨w.heap.size + 2, 1, none⟩ = false ∧ w1.frozen? ⟨w.heap.size + 2, 2, none⟩ = false ∧ w.heap.size + 2 < w1.heap.size ∧ w1.cell? ⟨w.heap.size + 3, 0, none⟩ = some (.int .i64 0) ∧ w1.cell? ⟨w.heap.size + 3, 1, none⟩ = some (.int .i64 0) ∧ w1.cell? ⟨w.heap.size + 3, 2, none⟩ = some (.int .i64 0) ∧ w1.frozen? ⟨w.heap.size + 3, 0, none⟩ = false ∧ w1.frozen? ⟨w.heap.size + 3, 1, none⟩ = false ∧ w1.frozen? ⟨w.heap.size + 3, 2, none⟩ = false ∧ w.heap.size + 3 < w1.heap.size := by
    refine ⟨?_, ?_, ?_, ?_, ?_, ?_, ?_, ?_, ?_, ?_, ?_, ?_, ?_, ?_, ?_, ?_, ?_, ?_, ?_, ?_, ?_, ?_⟩
    all_goals (repeat' (first | (with_reducible assumption) | (with_reducible refine HeldP.c_below hb1 ?_ ?_) | (with_reducible refine HeldP.f_below hb1 ?_ ?_) | (with_reducible refine HeldP.c_drew ?_) | (with_reducible refine HeldP.c_drewN ?_) | (with_reducible refine HeldP.c_same (by omega) ?_) | (with_reducible refine HeldP.c_other ?_ ?_) | (with_reducible refine HeldP.c_new (by first | omega | (simp; done) | (simp; omega)) ?_) | (with_reducible refine HeldP.c_alloc ?_ ?_) | (with_reducible refine HeldP.e_drew ?_) | (with_reducible refine HeldP.e_drewN ?_) | (with_reducible refine HeldP.e_set ?_) | (with_reducible refine HeldP.e_new (by first | omega | (simp; done) | (simp; omega)) ⟨_, rfl⟩) | (with_reducible refine HeldP.e_alloc ?_ ?_) | (with_reducible refine HeldP.f_drew ?_) | (with_reducible refine HeldP.f_drewN ?_) | (with_reducible refine HeldP.f_set ?_) | (with_reducible refine HeldP.f_new (by first | omega | (simp; done) | (simp; omega))) | (with_reducible refine HeldP.f_alloc ?_ ?_) | (with_reducible refine HeldP.s_drew ?_) | (with_reducible refine HeldP.s_drewN ?_) | (with_reducible refine HeldP.s_set ?_) | (with_reducible refine HeldP.s_new (by first | omega | (simp; done) | (simp; omega))) | (with_reducible refine HeldP.s_alloc ?_) | (with_reducible exact ⟨_, by assumption⟩) | omega | (intro e; simp at e; done) | (intro e; simp at e; omega) | (exact rfl) | (simp; done) | (simp; omega)))
  have n1_0 : w.heap.size ≠ w1.heap.size := (by omega)
  have n1_1 : w.heap.size + 1 ≠ w1.heap.size := (by omega)
  have n1_2 : w.heap.size + 2 ≠ w1.heap.size := (by omega)
  have n1_3 : w.heap.size + 3 ≠ w1.heap.size := (by omega)
  have z1 : w.heap.size ≤ w1.heap.size := (by omega)
  have HB1 := Lib.hid (show Below w.heap.size w w1 by (repeat' (first | (with_reducible exact Below.refl _ _) | (with_reducible refine Below.setCell ?_ (by (first | omega | (simp; done) | (simp; omega))) _) | (with_reducible refine Below.alloc ?_ (by (first | omega | (simp; done) | (simp; omega))) _) | (with_reducible refine Below.drew ?_) | (with_reducible refine below_drewN ?_ _) | (with_reducible refine Below.trans ?_ (Below.mono hb1 (by (first | omega | (simp; done) | (simp; omega))))))))
  clear hb1 hs1
  go_wp2_with fail
  go_at_call 20
  refine (r_may_b HN.out _).mono ?_
  rintro e w2 ⟨rfl, hb2⟩
  have HBo := HB1.out
  have hs2 := hb2.size
  try simp at hs2
  obtain ⟨c2_0_0, c2_0_1, c2_0_2, l2_0, c2_1_0, c2_1_1, c2_1_2, l2_1, c2_2_0, c2_2_1, c2_2_2, f2_2_0, f2_2_1, f2_2_2, l2_2, c2_3_0, c2_3_1, c2_3_2, f2_3_0, f2_3_1, f2_3_2, l2_3⟩ : w2.cell? ⟨w.heap.size, 0, none⟩ = some (.int .i64 x) ∧ w2.cell? ⟨w.heap.size, 1, none⟩ = some (.int .i64 y) ∧ w2.cell? ⟨w.heap.size, 2, none⟩ = some (.int .i64 z) ∧ w.heap.size < w2.heap.size ∧ w2.cell? ⟨w.heap.size + 1, 0, none⟩ = some (.int .i64 u) ∧ w2.cell? ⟨w.heap.size + 1, 1, none⟩ = some (.int .i64 v) ∧ w2.cell? ⟨w.heap.size + 1, 2, none⟩ = some (.int .i64 t) ∧ w.heap.size + 1 < w2.heap.size ∧ w2.cell? ⟨w.heap.size + 2, 0, none⟩ = some (.int .i64 0) ∧ w2.cell? ⟨w.heap.size + 2, 1, none⟩ = some (.int .i64 0) ∧ w2.cell? ⟨w.heap.size + 2, 2, none⟩ = some (.int .i64 0) ∧ w2.frozen? ⟨w.heap.size + 2, 0, none⟩ = false ∧ w2.frozen? ⟨w.heap.size + 2, 1, none⟩ = false ∧ w2.frozen? ⟨w.heap.size + 2, 2, none⟩ = false ∧ w.heap.size + 2 < w2.heap.size ∧ w2.cell? ⟨w.heap.size + 3, 0, none⟩ = some (.int .i64 0) ∧ w2.cell? ⟨w.heap.size + 3, 1, none⟩ = some (.int .i64 0) ∧ w2.cell? ⟨w.heap.size + 3, 2, none⟩ = some (.int .i64 0) ∧ w2.frozen? ⟨w.heap.size + 3, 0, none⟩ = false ∧ w2.frozen? ⟨w.heap.size + 3, 1, none⟩ = false ∧ w2.frozen? ⟨w.heap.size + 3, 2, none⟩ = false ∧ w.heap.size + 3 < w2.heap.size := by
    refine ⟨?_, ?_, ?_, ?_, ?_, ?_, ?_, ?_, ?_, ?_, ?_, ?_, ?_, ?_, ?_, ?_, ?_, ?_, ?_, ?_, ?_, ?_⟩
    all_goals (repeat' (first | (with_reducible assumption) | (with_reducible refine HeldP.c_below hb2 ?_ ?_) | (with_reducible refine HeldP.f_below hb2 ?_ ?_) | (with_reducible refine HeldP.c_drew ?_) | (with_reducible refine HeldP.c_drewN ?_) | (with_reducible refine HeldP.c_same (by omega) ?_) | (with_reducible refine HeldP.c_other ?_ ?_) | (with_reducible refine HeldP.c_new (by first | omega | (simp; done) | (simp; omega)) ?_) | (with_reducible refine HeldP.c_alloc ?_ ?_) | (with_reducible refine HeldP.e_drew ?_) | (with_reducible refine HeldP.e_drewN ?_) | (with_reducible refine HeldP.e_set ?_) | (with_reducible refine HeldP.e_new (by first | omega | (simp; done) | (simp; omega)) ⟨_, rfl⟩) | (with_reducible refine HeldP.e_alloc ?_ ?_) | (with_reducible refine HeldP.f_drew ?_) | (with_reducible refine HeldP.f_drewN ?_) | (with_reducible refine HeldP.f_set ?_) | (with_reducible refine HeldP.f_new (by first | omega | (simp; done) | (simp; omega))) | (with_reducible refine HeldP.f_alloc ?_ ?_) | (with_reducible refine HeldP.s_drew ?_) | (with_reducible refine HeldP.s_drewN ?_) | (with_reducible refine HeldP.s_set ?_) | (with_reducible refine HeldP.s_new (by first | omega | (simp; done) | (simp; omega))) | (with_reducible refine HeldP.s_alloc ?_) | (with_reducible exact ⟨_, by assumption⟩) | omega | (intro e; simp at e; done) | (intro e; simp at e; omega) | (exact rfl) | (simp; done) | (simp; omega)))
  have n2_0 : w.heap.size ≠ w2.heap.size := (by omega)
  have n2_1 : w.heap.size + 1 ≠ w2.heap.size := (by omega)
  have n2_2 : w.heap.size + 2 ≠ w2.heap.size := (by omega)
  have n2_3 : w.heap.size + 3 ≠ w2.heap.size := (by omega)
  have z2 : w.heap.size ≤ w2.heap.size := (by omega)
  have HB2 := Lib.hid (show Below w.heap.size w w2 by (repeat' (first | (with_reducible exact Below.refl _ _) | (with_reducible refine Below.setCell ?_ (by (first | omega | (simp; done) | (simp; omega))) _) | (with_reducible refine Below.alloc ?_ (by (first | omega | (simp; done) | (simp; omega))) _) | (with_reducible refine Below.drew ?_) | (with_reducible refine below_drewN ?_ _) | (with_reducible refine Below.trans ?_ (Below.mono HBo (by (first | omega | (simp; done) | (simp; omega))))) | (with_reducible refine Below.trans ?_ (Below.mono hb2 (by (first | omega | (simp; done) | (simp; omega))))))))
  clear HBo hb2 hs2 c1_0_0 c1_0_1 c1_0_2 l1_0 c1_1_0 c1_1_1 c1_1_2 l1_1 c1_2_0 c1_2_1 c1_2_2 f1_2_0 f1_2_1 f1_2_2 l1_2 c1_3_0 c1_3_1 c1_3_2 f1_3_0 f1_3_1 f1_3_2 l1_3 n1_0 n1_1 n1_2 n1_3 z1 HB1
  go_wp2_with (go_at_call 46; (first | (with_reducible refine (HX.out _).mono ?_) | (with_reducible refine (HY.out _).mono ?_) | (with_reducible refine (HZ.out _).mono ?_)); rintro e w' ⟨rfl, rfl⟩)
  have HBo := HB2.out
  refine HeldP.bp_named (fun w' => w'.cell? ⟨w.heap.size, 0, none⟩ = some (.int .i64 x) ∧ w'.cell? ⟨w.heap.size, 1, none⟩ = some (.int .i64 y) ∧ w'.cell? ⟨w.heap.size, 2, none⟩ = some (.int .i64 z) ∧ w.heap.size < w'.heap.size ∧ w'.cell? ⟨w.heap.size + 1, 0, none⟩ = some (.int .i64 u) ∧ w'.cell? ⟨w.heap.size + 1, 1, none⟩ = some (.int .i64 v) ∧ w'.cell? ⟨w.heap.size + 1, 2, none⟩ = some (.int .i64 t) ∧ w.heap.size + 1 < w'.heap.size ∧ w'.cell? ⟨w.heap.size + 2, 0, none⟩ = some (.int .i64 0) ∧ w'.cell? ⟨w.heap.size + 2, 1, none⟩ = some (.int .i64 0) ∧ w'.cell? ⟨w.heap.size + 2, 2, none⟩ = some (.int .i64 0) ∧ w'.frozen? ⟨w.heap.size + 2, 0, none⟩ = false ∧ w'.frozen? ⟨w.heap.size + 2, 1, none⟩ = false ∧ w'.frozen? ⟨w.heap.size + 2, 2, none⟩ = false ∧ w.heap.size + 2 < w'.heap.size ∧ w'.cell? ⟨w.heap.size + 3, 0, none⟩ = some (.int .i64 0) ∧ w'.cell? ⟨w.heap.size + 3, 1, none⟩ = some (.int .i64 0) ∧ w'.cell? ⟨w.heap.size + 3, 2, none⟩ = some (.int .i64 0) ∧ w'.frozen? ⟨w.heap.size + 3, 0, none⟩ = false ∧ w'.frozen? ⟨w.heap.size + 3, 1, none⟩ = false ∧ w'.frozen? ⟨w.heap.size + 3, 2, none⟩ = false ∧ w.heap.size + 3 < w'.heap.size ∧ Below w.heap.size w w') (by (refine ⟨?_, ?_, ?_, ?_, ?_, ?_, ?_, ?_, ?_, ?_, ?_, ?_, ?_, ?_, ?_, ?_, ?_, ?_, ?_, ?_, ?_, ?_, by (repeat' (first | (with_reducible exact Below.refl _ _) | (with_reducible refine Below.setCell ?_ (by (first | omega | (simp; done) | (simp; omega))) _) | (with_reducible refine Below.alloc ?_ (by (first | omega | (simp; done) | (simp; omega))) _) | (with_reducible refine Below.drew ?_) | (with_reducible refine below_drewN ?_ _) | (with_reducible refine Below.trans ?_ (Below.mono HBo (by (first | omega | (simp; done) | (simp; omega)))))))⟩); all_goals (repeat' (first | (with_reducible assumption) | (with_reducible refine HeldP.c_drew ?_) | (with_reducible refine HeldP.c_drewN ?_) | (with_reducible refine HeldP.c_same (by omega) ?_) | (with_reducible refine HeldP.c_other ?_ ?_) | (with_reducible refine HeldP.c_new (by first | omega | (simp; done) | (simp; omega)) ?_) | (with_reducible refine HeldP.c_alloc ?_ ?_) | (with_reducible refine HeldP.e_drew ?_) | (with_reducible refine HeldP.e_drewN ?_) | (with_reducible refine HeldP.e_set ?_) | (with_reducible refine HeldP.e_new (by first | omega | (simp; done) | (simp; omega)) ⟨_, rfl⟩) | (with_reducible refine HeldP.e_alloc ?_ ?_) | (with_reducible refine HeldP.f_drew ?_) | (with_reducible refine HeldP.f_drewN ?_) | (with_reducible refine HeldP.f_set ?_) | (with_reducible refine HeldP.f_new (by first | omega | (simp; done) | (simp; omega))) | (with_reducible refine HeldP.f_alloc ?_ ?_) | (with_reducible refine HeldP.s_drew ?_) | (with_reducible refine HeldP.s_drewN ?_) | (with_reducible refine HeldP.s_set ?_) | (with_reducible refine HeldP.s_new (by first | omega | (simp; done) | (simp; omega))) | (with_reducible refine HeldP.s_alloc ?_) | (with_reducible exact ⟨_, by assumption⟩) | omega | (intro e; simp at e; done) | (intro e; simp at e; omega) | (exact rfl) | (simp; done) | (simp; omega)))) ?_
  clear HBo HB2 c2_0_0 c2_0_1 c2_0_2 l2_0 c2_1_0 c2_1_1 c2_1_2 l2_1 c2_2_0 c2_2_1 c2_2_2 f2_2_0 f2_2_1 f2_2_2 l2_2 c2_3_0 c2_3_1 c2_3_2 f2_3_0 f2_3_1 f2_3_2 l2_3 n2_0 n2_1 n2_2 n2_3 z2
  rintro w3 ⟨c3_0_0, c3_0_1, c3_0_2, l3_0, c3_1_0, c3_1_1, c3_1_2, l3_1, c3_2_0, c3_2_1, c3_2_2, f3_2_0, f3_2_1, f3_2_2, l3_2, c3_3_0, c3_3_1, c3_3_2, f3_3_0, f3_3_1, f3_3_2, l3_3, HBn⟩
  have n3_0 : w.heap.size ≠ w3.heap.size := (by omega)
  have n3_1 : w.heap.size + 1 ≠ w3.heap.size := (by omega)
  have n3_2 : w.heap.size + 2 ≠ w3.heap.size := (by omega)
  have n3_3 : w.heap.size + 3 ≠ w3.heap.size := (by omega)
  have z3 : w.heap.size ≤ w3.heap.size := (by omega)
  have HB3 := Lib.hid HBn
  clear HBn
  refine bodyPost_ret (v := .tuple #[.agg #[.int .i64 0, .int .i64 0, .int .i64 0], .agg #[.int .i64 0, .int .i64 0, .int .i64 0], .int .i64 0, .int .i64 3]) (by simp [results, Try.results33, go_sem, c3_2_0, c3_2_1, c3_2_2, c3_3_0, c3_3_1, c3_3_2]) rfl ?_
  have HBo := HB3.out
  exact ⟨rfl, HBo⟩

set_option maxRecDepth 100000 in
set_option maxHeartbeats 2000000 in
theorem r_box_wz {x y z u v t g1 g2 g3 a1 a2 a3 b1 b2 b3 : Int} (hm : mayB x y z = true) (hn : mayB u v t = true) (l1 : loI x u = a1) (l2 : loI y v = a2) (l3 : loI z t = a3) (u1 : hiI x u = b1) (u2 : hiI y v = b2) (u3 : hiI z t = b3)
    (e1 : b1 - a1 = g1) (e2 : b2 - a2 = g2) (e3 : b3 - a3 = g3) (z1 : 0 ≤ g1) (z2 : 0 ≤ g2) (z3 : 0 ≤ g3)  (w1 : g1 < 16) (w2 : g2 < 16) (w3 : 16 ≤ g3) (w : World) :
    Calls Try.prog 33 #[.agg #[.int .i64 x, .int .i64 y, .int .i64 z], .agg #[.int .i64 u, .int .i64 v, .int .i64 t]] w fun e w' => e = .returned (.tuple #[.agg #[.int .i64 0, .int .i64 0, .int .i64 0], .agg #[.int .i64 0, .int .i64 0, .int .i64 0], .int .i64 0, .int .i64 3]) ∧ Below w.heap.size w w' := by
  obtain ⟨h1, h2, h3, h4, h5, h6⟩ := mayB_true hm
  obtain ⟨k1, k2, k3, k4, k5, k6⟩ := mayB_true hn
  have hx := lo_hi_bounds h1 h2 k1 k2
  have hy := lo_hi_bounds h3 h4 k3 k4
  have hz := lo_hi_bounds h5 h6 k5 k6
  rw [l1, u1] at hx
  rw [l2, u2] at hy
  rw [l3, u3] at hz
  obtain ⟨r1, r2, r3, r4⟩ := hx
  obtain ⟨r5, r6, r7, r8⟩ := hy
  obtain ⟨r9, r10, r11, r12⟩ := hz
  have HX := Lib.hid (ends_c l1 u1)
  have HY := Lib.hid (ends_c l2 u2)
  have HZ := Lib.hid (ends_c l3 u3)
  have HM := Lib.hid hm
  have HN := Lib.hid hn
  have g1u : g1 ≤ 4194304 := by omega
  have g2u : g2 ≤ 4194304 := by omega
  have g3u : g3 ≤ 4194304 := by omega
  clear hm hn l1 l2 l3 u1 u2 u3
  go_enter Try.func33, Try.ntmps33
  go_wp2_with fail
  go_at_call 20
  refine (r_may_b HM.out _).mono ?_
  rintro e w1 ⟨rfl, hb1⟩
  have hs1 := hb1.size
  try simp at hs1
  obtain ⟨c1_0_0, c1_0_1, c1_0_2, l1_0, c1_1_0, c1_1_1, c1_1_2, l1_1, c1_2_0, c1_2_1, c1_2_2, f1_2_0, f1_2_1, f1_2_2, l1_2, c1_3_0, c1_3_1, c1_3_2, f1_3_0, f1_3_1, f1_3_2, l1_3⟩ : w1.cell? ⟨w.heap.size, 0, none⟩ = some (.int .i64 x) ∧ w1.cell? ⟨w.heap.size, 1, none⟩ = some (.int .i64 y) ∧ w1.cell? ⟨w.heap.size, 2, none⟩ = some (.int .i64 z) ∧ w.heap.size < w1.heap.size ∧ w1.cell? ⟨w.heap.size + 1, 0, none⟩ = some (.int .i64 u) ∧ w1.cell? ⟨w.heap.size + 1, 1, none⟩ = some (.int .i64 v) ∧ w1.cell? ⟨w.heap.size + 1, 2, none⟩ = some (.int .i64 t) ∧ w.heap.size + 1 < w1.heap.size ∧ w1.cell? ⟨w.heap.size + 2, 0, none⟩ = some (.int .i64 0) ∧ w1.cell? ⟨w.heap.size + 2, 1, none⟩ = some (.int .i64 0) ∧ w1.cell? ⟨w.heap.size + 2, 2, none⟩ = some (.int .i64 0) ∧ w1.frozen? ⟨w.heap.size + 2, 0, none⟩ = false ∧ w1.frozen? ⟨w.heap.size + 2, 1, none⟩ = false ∧ w1.frozen? ⟨w.heap.size + 2, 2, none⟩ = false ∧ w.heap.size + 2 < w1.heap.size ∧ w1.cell? ⟨w.heap.size + 3, 0, none⟩ = some (.int .i64 0) ∧ w1.cell? ⟨w.heap.size + 3, 1, none⟩ = some (.int .i64 0) ∧ w1.cell? ⟨w.heap.size + 3, 2, none⟩ = some (.int .i64 0) ∧ w1.frozen? ⟨w.heap.size + 3, 0, none⟩ = false ∧ w1.frozen? ⟨w.heap.size + 3, 1, none⟩ = false ∧ w1.frozen? ⟨w.heap.size + 3, 2, none⟩ = false ∧ w.heap.size + 3 < w1.heap.size := by
    refine ⟨?_, ?_, ?_, ?_, ?_, ?_, ?_, ?_, ?_, ?_, ?_, ?_, ?_, ?_, ?_, ?_, ?_, ?_, ?_, ?_, ?_, ?_⟩
    all_goals (repeat' (first | (with_reducible assumption) | (with_reducible refine HeldP.c_below hb1 ?_ ?_) | (with_reducible refine HeldP.f_below hb1 ?_ ?_) | (with_reducible refine HeldP.c_drew ?_) | (with_reducible refine HeldP.c_drewN ?_) | (with_reducible refine HeldP.c_same (by omega) ?_) | (with_reducible refine HeldP.c_other ?_ ?_) | (with_reducible refine HeldP.c_new (by first | omega | (simp; done) | (simp; omega)) ?_) | (with_reducible refine HeldP.c_alloc ?_ ?_) | (with_reducible refine HeldP.e_drew ?_) | (with_reducible refine HeldP.e_drewN ?_) | (with_reducible refine HeldP.e_set ?_) | (with_reducible refine HeldP.e_new (by first | omega | (simp; done) | (simp; omega)) ⟨_, rfl⟩) | (with_reducible refine HeldP.e_alloc ?_ ?_) | (with_reducible refine HeldP.f_drew ?_) | (with_reducible refine HeldP.f_drewN ?_) | (with_reducible refine HeldP.f_set ?_) | (with_reducible refine HeldP.f_new (by first | omega | (simp; done) | (simp; omega))) | (with_reducible refine HeldP.f_alloc ?_ ?_) | (with_reducible refine HeldP.s_drew ?_) | (with_reducible refine HeldP.s_drewN ?_) | (with_reducible refine HeldP.s_set ?_) | (with_reducible refine HeldP.s_new (by first | omega | (simp; done) | (simp; omega))) | (with_reducible refine HeldP.s_alloc ?_) | (with_reducible exact ⟨_, by assumption⟩) | omega | (intro e; simp at e; done) | (intro e; simp at e; omega) | (exact rfl) | (simp; done) | (simp; omega)))
  have n1_0 : w.heap.size ≠ w1.heap.size := (by omega)
  have n1_1 : w.heap.size + 1 ≠ w1.heap.size := (by omega)
  have n1_2 : w.heap.size + 2 ≠ w1.heap.size := (by omega)
  have n1_3 : w.heap.size + 3 ≠ w1.heap.size := (by omega)
  have z1 : w.heap.size ≤ w1.heap.size := (by omega)
  have HB1 := Lib.hid (show Below w.heap.size w w1 by (repeat' (first | (with_reducible exact Below.refl _ _) | (with_reducible refine Below.setCell ?_ (by (first | omega | (simp; done) | (simp; omega))) _) | (with_reducible refine Below.alloc ?_ (by (first | omega | (simp; done) | (simp; omega))) _) | (with_reducible refine Below.drew ?_) | (with_reducible refine below_drewN ?_ _) | (with_reducible refine Below.trans ?_ (Below.mono hb1 (by (first | omega | (simp; done) | (simp; omega))))))))
  clear hb1 hs1
  go_wp2_with fail
  go_at_call 20
  refine (r_may_b HN.out _).mono ?_
  rintro e w2 ⟨rfl, hb2⟩
  have HBo := HB1.out
  have hs2 := hb2.size
  try simp at hs2
  obtain ⟨c2_0_0, c2_0_1, c2_0_2, l2_0, c2_1_0, c2_1_1, c2_1_2, l2_1, c2_2_0, c2_2_1, c2_2_2, f2_2_0, f2_2_1, f2_2_2, l2_2, c2_3_0, c2_3_1, c2_3_2, f2_3_0, f2_3_1, f2_3_2, l2_3⟩ : w2.cell? ⟨w.heap.size, 0, none⟩ = some (.int .i64 x) ∧ w2.cell? ⟨w.heap.size, 1, none⟩ = some (.int .i64 y) ∧ w2.cell? ⟨w.heap.size, 2, none⟩ = some (.int .i64 z) ∧ w.heap.size < w2.heap.size ∧ w2.cell? ⟨w.heap.size + 1, 0, none⟩ = some (.int .i64 u) ∧ w2.cell? ⟨w.heap.size + 1, 1, none⟩ = some (.int .i64 v) ∧ w2.cell? ⟨w.heap.size + 1, 2, none⟩ = some (.int .i64 t) ∧ w.heap.size + 1 < w2.heap.size ∧ w2.cell? ⟨w.heap.size + 2, 0, none⟩ = some (.int .i64 0) ∧ w2.cell? ⟨w.heap.size + 2, 1, none⟩ = some (.int .i64 0) ∧ w2.cell? ⟨w.heap.size + 2, 2, none⟩ = some (.int .i64 0) ∧ w2.frozen? ⟨w.heap.size + 2, 0, none⟩ = false ∧ w2.frozen? ⟨w.heap.size + 2, 1, none⟩ = false ∧ w2.frozen? ⟨w.heap.size + 2, 2, none⟩ = false ∧ w.heap.size + 2 < w2.heap.size ∧ w2.cell? ⟨w.heap.size + 3, 0, none⟩ = some (.int .i64 0) ∧ w2.cell? ⟨w.heap.size + 3, 1, none⟩ = some (.int .i64 0) ∧ w2.cell? ⟨w.heap.size + 3, 2, none⟩ = some (.int .i64 0) ∧ w2.frozen? ⟨w.heap.size + 3, 0, none⟩ = false ∧ w2.frozen? ⟨w.heap.size + 3, 1, none⟩ = false ∧ w2.frozen? ⟨w.heap.size + 3, 2, none⟩ = false ∧ w.heap.size + 3 < w2.heap.size := by
    refine ⟨?_, ?_, ?_, ?_, ?_, ?_, ?_, ?_, ?_, ?_, ?_, ?_, ?_, ?_, ?_, ?_, ?_, ?_, ?_, ?_, ?_, ?_⟩
    all_goals (repeat' (first | (with_reducible assumption) | (with_reducible refine HeldP.c_below hb2 ?_ ?_) | (with_reducible refine HeldP.f_below hb2 ?_ ?_) | (with_reducible refine HeldP.c_drew ?_) | (with_reducible refine HeldP.c_drewN ?_) | (with_reducible refine HeldP.c_same (by omega) ?_) | (with_reducible refine HeldP.c_other ?_ ?_) | (with_reducible refine HeldP.c_new (by first | omega | (simp; done) | (simp; omega)) ?_) | (with_reducible refine HeldP.c_alloc ?_ ?_) | (with_reducible refine HeldP.e_drew ?_) | (with_reducible refine HeldP.e_drewN ?_) | (with_reducible refine HeldP.e_set ?_) | (with_reducible refine HeldP.e_new (by first | omega | (simp; done) | (simp; omega)) ⟨_, rfl⟩) | (with_reducible refine HeldP.e_alloc ?_ ?_) | (with_reducible refine HeldP.f_drew ?_) | (with_reducible refine HeldP.f_drewN ?_) | (with_reducible refine HeldP.f_set ?_) | (with_reducible refine HeldP.f_new (by first | omega | (simp; done) | (simp; omega))) | (with_reducible refine HeldP.f_alloc ?_ ?_) | (with_reducible refine HeldP.s_drew ?_) | (with_reducible refine HeldP.s_drewN ?_) | (with_reducible refine HeldP.s_set ?_) | (with_reducible refine HeldP.s_new (by first | omega | (simp; done) | (simp; omega))) | (with_reducible refine HeldP.s_alloc ?_) | (with_reducible exact ⟨_, by assumption⟩) | omega | (intro e; simp at e; done) | (intro e; simp at e; omega) | (exact rfl) | (simp; done) | (simp; omega)))
  have n2_0 : w.heap.size ≠ w2.heap.size := (by omega)
  have n2_1 : w.heap.size + 1 ≠ w2.heap.size := (by omega)
  have n2_2 : w.heap.size + 2 ≠ w2.heap.size := (by omega)
  have n2_3 : w.heap.size + 3 ≠ w2.heap.size := (by omega)
  have z2 : w.heap.size ≤ w2.heap.size := (by omega)
  have HB2 := Lib.hid (show Below w.heap.size w w2 by (repeat' (first | (with_reducible exact Below.refl _ _) | (with_reducible refine Below.setCell ?_ (by (first | omega | (simp; done) | (simp; omega))) _) | (with_reducible refine Below.alloc ?_ (by (first | omega | (simp; done) | (simp; omega))) _) | (with_reducible refine Below.drew ?_) | (with_reducible refine below_drewN ?_ _) | (with_reducible refine Below.trans ?_ (Below.mono HBo (by (first | omega | (simp; done) | (simp; omega))))) | (with_reducible refine Below.trans ?_ (Below.mono hb2 (by (first | omega | (simp; done) | (simp; omega))))))))
  clear HBo hb2 hs2 c1_0_0 c1_0_1 c1_0_2 l1_0 c1_1_0 c1_1_1 c1_1_2 l1_1 c1_2_0 c1_2_1 c1_2_2 f1_2_0 f1_2_1 f1_2_2 l1_2 c1_3_0 c1_3_1 c1_3_2 f1_3_0 f1_3_1 f1_3_2 l1_3 n1_0 n1_1 n1_2 n1_3 z1 HB1
  go_wp2_with (go_at_call 46; (first | (with_reducible refine (HX.out _).mono ?_) | (with_reducible refine (HY.out _).mono ?_) | (with_reducible refine (HZ.out _).mono ?_)); rintro e w' ⟨rfl, rfl⟩)
  have HBo := HB2.out
  refine HeldP.bp_named (fun w' => w'.cell? ⟨w.heap.size, 0, none⟩ = some (.int .i64 x) ∧ w'.cell? ⟨w.heap.size, 1, none⟩ = some (.int .i64 y) ∧ w'.cell? ⟨w.heap.size, 2, none⟩ = some (.int .i64 z) ∧ w.heap.size < w'.heap.size ∧ w'.cell? ⟨w.heap.size + 1, 0, none⟩ = some (.int .i64 u) ∧ w'.cell? ⟨w.heap.size + 1, 1, none⟩ = some (.int .i64 v) ∧ w'.cell? ⟨w.heap.size + 1, 2, none⟩ = some (.int .i64 t) ∧ w.heap.size + 1 < w'.heap.size ∧ w'.cell? ⟨w.heap.size + 2, 0, none⟩ = some (.int .i64 0) ∧ w'.cell? ⟨w.heap.size + 2, 1, none⟩ = some (.int .i64 0) ∧ w'.cell? ⟨w.heap.size + 2, 2, none⟩ = some (.int .i64 0) ∧ w'.frozen? ⟨w.heap.size + 2, 0, none⟩ = false ∧ w'.frozen? ⟨w.heap.size + 2, 1, none⟩ = false ∧ w'.frozen? ⟨w.heap.size + 2, 2, none⟩ = false ∧ w.heap.size + 2 < w'.heap.size ∧ w'.cell? ⟨w.heap.size + 3, 0, none⟩ = some (.int .i64 0) ∧ w'.cell? ⟨w.heap.size + 3, 1, none⟩ = some (.int .i64 0) ∧ w'.cell? ⟨w.heap.size + 3, 2, none⟩ = some (.int .i64 0) ∧ w'.frozen? ⟨w.heap.size + 3, 0, none⟩ = false ∧ w'.frozen? ⟨w.heap.size + 3, 1, none⟩ = false ∧ w'.frozen? ⟨w.heap.size + 3, 2, none⟩ = false ∧ w.heap.size + 3 < w'.heap.size ∧ Below w.heap.size w w') (by (refine ⟨?_, ?_, ?_, ?_, ?_, ?_, ?_, ?_, ?_, ?_, ?_, ?_, ?_, ?_, ?_, ?_, ?_, ?_, ?_, ?_, ?_, ?_, by (repeat' (first | (with_reducible exact Below.refl _ _) | (with_reducible refine Below.setCell ?_ (by (first | omega | (simp; done) | (simp; omega))) _) | (with_reducible refine Below.alloc ?_ (by (first | omega | (simp; done) | (simp; omega))) _) | (with_reducible refine Below.drew ?_) | (with_reducible refine below_drewN ?_ _) | (with_reducible refine Below.trans ?_ (Below.mono HBo (by (first | omega | (simp; done) | (simp; omega)))))))⟩); all_goals (repeat' (first | (with_reducible assumption) | (with_reducible refine HeldP.c_drew ?_) | (with_reducible refine HeldP.c_drewN ?_) | (with_reducible refine HeldP.c_same (by omega) ?_) | (with_reducible refine HeldP.c_other ?_ ?_) | (with_reducible refine HeldP.c_new (by first | omega | (simp; done) | (simp; omega)) ?_) | (with_reducible refine HeldP.c_alloc ?_ ?_) | (with_reducible refine HeldP.e_drew ?_) | (with_reducible refine HeldP.e_drewN ?_) | (with_reducible refine HeldP.e_set ?_) | (with_reducible refine HeldP.e_new (by first | omega | (simp; done) | (simp; omega)) ⟨_, rfl⟩) | (with_reducible refine HeldP.e_alloc ?_ ?_) | (with_reducible refine HeldP.f_drew ?_) | (with_reducible refine HeldP.f_drewN ?_) | (with_reducible refine HeldP.f_set ?_) | (with_reducible refine HeldP.f_new (by first | omega | (simp; done) | (simp; omega))) | (with_reducible refine HeldP.f_alloc ?_ ?_) | (with_reducible refine HeldP.s_drew ?_) | (with_reducible refine HeldP.s_drewN ?_) | (with_reducible refine HeldP.s_set ?_) | (with_reducible refine HeldP.s_new (by first | omega | (simp; done) | (simp; omega))) | (with_reducible refine HeldP.s_alloc ?_) | (with_reducible exact ⟨_, by assumption⟩) | omega | (intro e; simp at e; done) | (intro e; simp at e; omega) | (exact rfl) | (simp; done) | (simp; omega)))) ?_
  clear HBo HB2 c2_0_0 c2_0_1 c2_0_2 l2_0 c2_1_0 c2_1_1 c2_1_2 l2_1 c2_2_0 c2_2_1 c2_2_2 f2_2_0 f2_2_1 f2_2_2 l2_2 c2_3_0 c2_3_1 c2_3_2 f2_3_0 f2_3_1 f2_3_2 l2_3 n2_0 n2_1 n2_2 n2_3 z2
  rintro w3 ⟨c3_0_0, c3_0_1, c3_0_2, l3_0, c3_1_0, c3_1_1, c3_1_2, l3_1, c3_2_0, c3_2_1, c3_2_2, f3_2_0, f3_2_1, f3_2_2, l3_2, c3_3_0, c3_3_1, c3_3_2, f3_3_0, f3_3_1, f3_3_2, l3_3, HBn⟩
  have n3_0 : w.heap.size ≠ w3.heap.size := (by omega)
  have n3_1 : w.heap.size + 1 ≠ w3.heap.size := (by omega)
  have n3_2 : w.heap.size + 2 ≠ w3.heap.size := (by omega)
  have n3_3 : w.heap.size + 3 ≠ w3.heap.size := (by omega)
  have z3 : w.heap.size ≤ w3.heap.size := (by omega)
  have HB3 := Lib.hid HBn
  clear HBn
  refine bodyPost_ret (v := .tuple #[.agg #[.int .i64 0, .int .i64 0, .int .i64 0], .agg #[.int .i64 0, .int .i64 0, .int .i64 0], .int .i64 0, .int .i64 3]) (by simp [results, Try.results33, go_sem, c3_2_0, c3_2_1, c3_2_2, c3_3_0, c3_3_1, c3_3_2]) rfl ?_
  have HBo := HB3.out
  exact ⟨rfl, HBo⟩

set_option maxRecDepth 100000 in
set_option maxHeartbeats 2000000 in
theorem r_box_no_a {x y z u v t : Int} (hm : mayB x y z = false) (w : World) :
    Calls Try.prog 33 #[.agg #[.int .i64 x, .int .i64 y, .int .i64 z], .agg #[.int .i64 u, .int .i64 v, .int .i64 t]] w fun e w' => e = .returned (.tuple #[.agg #[.int .i64 0, .int .i64 0, .int .i64 0], .agg #[.int .i64 0, .int .i64 0, .int .i64 0], .int .i64 0, .int .i64 10]) ∧ Below w.heap.size w w' := by
  have HM := Lib.hid hm
  clear hm
  go_enter Try.func33, Try.ntmps33
  go_wp2_with fail
  go_at_call 20
  refine (r_may_b HM.out _).mono ?_
  rintro e w1 ⟨rfl, hb1⟩
  have hs1 := hb1.size
  try simp at hs1
  obtain ⟨c1_0_0, c1_0_1, c1_0_2, l1_0, c1_1_0, c1_1_1, c1_1_2, l1_1, c1_2_0, c1_2_1, c1_2_2, f1_2_0, f1_2_1, f1_2_2, l1_2, c1_3_0, c1_3_1, c1_3_2, f1_3_0, f1_3_1, f1_3_2, l1_3⟩ : w1.cell? ⟨w.heap.size, 0, none⟩ = some (.int .i64 x) ∧ w1.cell? ⟨w.heap.size, 1, none⟩ = some (.int .i64 y) ∧ w1.cell? ⟨w.heap.size, 2, none⟩ = some (.int .i64 z) ∧ w.heap.size < w1.heap.size ∧ w1.cell? ⟨w.heap.size + 1, 0, none⟩ = some (.int .i64 u) ∧ w1.cell? ⟨w.heap.size + 1, 1, none⟩ = some (.int .i64 v) ∧ w1.cell? ⟨w.heap.size + 1, 2, none⟩ = some (.int .i64 t) ∧ w.heap.size + 1 < w1.heap.size ∧ w1.cell? ⟨w.heap.size + 2, 0, none⟩ = some (.int .i64 0) ∧ w1.cell? ⟨w.heap.size + 2, 1, none⟩ = some (.int .i64 0) ∧ w1.cell? ⟨w.heap.size + 2, 2, none⟩ = some (.int .i64 0) ∧ w1.frozen? ⟨w.heap.size + 2, 0, none⟩ = false ∧ w1.frozen? ⟨w.heap.size + 2, 1, none⟩ = false ∧ w1.frozen? ⟨w.heap.size + 2, 2, none⟩ = false ∧ w.heap.size + 2 < w1.heap.size ∧ w1.cell? ⟨w.heap.size + 3, 0, none⟩ = some (.int .i64 0) ∧ w1.cell? ⟨w.heap.size + 3, 1, none⟩ = some (.int .i64 0) ∧ w1.cell? ⟨w.heap.size + 3, 2, none⟩ = some (.int .i64 0) ∧ w1.frozen? ⟨w.heap.size + 3, 0, none⟩ = false ∧ w1.frozen? ⟨w.heap.size + 3, 1, none⟩ = false ∧ w1.frozen? ⟨w.heap.size + 3, 2, none⟩ = false ∧ w.heap.size + 3 < w1.heap.size := by
    refine ⟨?_, ?_, ?_, ?_, ?_, ?_, ?_, ?_, ?_, ?_, ?_, ?_, ?_, ?_, ?_, ?_, ?_, ?_, ?_, ?_, ?_, ?_⟩
    all_goals (repeat' (first | (with_reducible assumption) | (with_reducible refine HeldP.c_below hb1 ?_ ?_) | (with_reducible refine HeldP.f_below hb1 ?_ ?_) | (with_reducible refine HeldP.c_drew ?_) | (with_reducible refine HeldP.c_drewN ?_) | (with_reducible refine HeldP.c_same (by omega) ?_) | (with_reducible refine HeldP.c_other ?_ ?_) | (with_reducible refine HeldP.c_new (by first | omega | (simp; done) | (simp; omega)) ?_) | (with_reducible refine HeldP.c_alloc ?_ ?_) | (with_reducible refine HeldP.e_drew ?_) | (with_reducible refine HeldP.e_drewN ?_) | (with_reducible refine HeldP.e_set ?_) | (with_reducible refine HeldP.e_new (by first | omega | (simp; done) | (simp; omega)) ⟨_, rfl⟩) | (with_reducible refine HeldP.e_alloc ?_ ?_) | (with_reducible refine HeldP.f_drew ?_) | (with_reducible refine HeldP.f_drewN ?_) | (with_reducible refine HeldP.f_set ?_) | (with_reducible refine HeldP.f_new (by first | omega | (simp; done) | (simp; omega))) | (with_reducible refine HeldP.f_alloc ?_ ?_) | (with_reducible refine HeldP.s_drew ?_) | (with_reducible refine HeldP.s_drewN ?_) | (with_reducible refine HeldP.s_set ?_) | (with_reducible refine HeldP.s_new (by first | omega | (simp; done) | (simp; omega))) | (with_reducible refine HeldP.s_alloc ?_) | (with_reducible exact ⟨_, by assumption⟩) | omega | (intro e; simp at e; done) | (intro e; simp at e; omega) | (exact rfl) | (simp; done) | (simp; omega)))
  have n1_0 : w.heap.size ≠ w1.heap.size := (by omega)
  have n1_1 : w.heap.size + 1 ≠ w1.heap.size := (by omega)
  have n1_2 : w.heap.size + 2 ≠ w1.heap.size := (by omega)
  have n1_3 : w.heap.size + 3 ≠ w1.heap.size := (by omega)
  have z1 : w.heap.size ≤ w1.heap.size := (by omega)
  have HB1 := Lib.hid (show Below w.heap.size w w1 by (repeat' (first | (with_reducible exact Below.refl _ _) | (with_reducible refine Below.setCell ?_ (by (first | omega | (simp; done) | (simp; omega))) _) | (with_reducible refine Below.alloc ?_ (by (first | omega | (simp; done) | (simp; omega))) _) | (with_reducible refine Below.drew ?_) | (with_reducible refine below_drewN ?_ _) | (with_reducible refine Below.trans ?_ (Below.mono hb1 (by (first | omega | (simp; done) | (simp; omega))))))))
  clear hb1 hs1
  go_wp2_with fail
  have HBo := HB1.out
  refine HeldP.bp_named (fun w' => w'.cell? ⟨w.heap.size, 0, none⟩ = some (.int .i64 x) ∧ w'.cell? ⟨w.heap.size, 1, none⟩ = some (.int .i64 y) ∧ w'.cell? ⟨w.heap.size, 2, none⟩ = some (.int .i64 z) ∧ w.heap.size < w'.heap.size ∧ w'.cell? ⟨w.heap.size + 1, 0, none⟩ = some (.int .i64 u) ∧ w'.cell? ⟨w.heap.size + 1, 1, none⟩ = some (.int .i64 v) ∧ w'.cell? ⟨w.heap.size + 1, 2, none⟩ = some (.int .i64 t) ∧ w.heap.size + 1 < w'.heap.size ∧ w'.cell? ⟨w.heap.size + 2, 0, none⟩ = some (.int .i64 0) ∧ w'.cell? ⟨w.heap.size + 2, 1, none⟩ = some (.int .i64 0) ∧ w'.cell? ⟨w.heap.size + 2, 2, none⟩ = some (.int .i64 0) ∧ w'.frozen? ⟨w.heap.size + 2, 0, none⟩ = false ∧ w'.frozen? ⟨w.heap.size + 2, 1, none⟩ = false ∧ w'.frozen? ⟨w.heap.size + 2, 2, none⟩ = false ∧ w.heap.size + 2 < w'.heap.size ∧ w'.cell? ⟨w.heap.size + 3, 0, none⟩ = some (.int .i64 0) ∧ w'.cell? ⟨w.heap.size + 3, 1, none⟩ = some (.int .i64 0) ∧ w'.cell? ⟨w.heap.size + 3, 2, none⟩ = some (.int .i64 0) ∧ w'.frozen? ⟨w.heap.size + 3, 0, none⟩ = false ∧ w'.frozen? ⟨w.heap.size + 3, 1, none⟩ = false ∧ w'.frozen? ⟨w.heap.size + 3, 2, none⟩ = false ∧ w.heap.size + 3 < w'.heap.size ∧ Below w.heap.size w w') (by (refine ⟨?_, ?_, ?_, ?_, ?_, ?_, ?_, ?_, ?_, ?_, ?_, ?_, ?_, ?_, ?_, ?_, ?_, ?_, ?_, ?_, ?_, ?_, by (repeat' (first | (with_reducible exact Below.refl _ _) | (with_reducible refine Below.setCell ?_ (by (first | omega | (simp; done) | (simp; omega))) _) | (with_reducible refine Below.alloc ?_ (by (first | omega | (simp; done) | (simp; omega))) _) | (with_reducible refine Below.drew ?_) | (with_reducible refine below_drewN ?_ _) | (with_reducible refine Below.trans ?_ (Below.mono HBo (by (first | omega | (simp; done) | (simp; omega)))))))⟩); all_goals (repeat' (first | (with_reducible assumption) | (with_reducible refine HeldP.c_drew ?_) | (with_reducible refine HeldP.c_drewN ?_) | (with_reducible refine HeldP.c_same (by omega) ?_) | (with_reducible refine HeldP.c_other ?_ ?_) | (with_reducible refine HeldP.c_new (by first | omega | (simp; done) | (simp; omega)) ?_) | (with_reducible refine HeldP.c_alloc ?_ ?_) | (with_reducible refine HeldP.e_drew ?_) | (with_reducible refine HeldP.e_drewN ?_) | (with_reducible refine HeldP.e_set ?_) | (with_reducible refine HeldP.e_new (by first | omega | (simp; done) | (simp; omega)) ⟨_, rfl⟩) | (with_reducible refine HeldP.e_alloc ?_ ?_) | (with_reducible refine HeldP.f_drew ?_) | (with_reducible refine HeldP.f_drewN ?_) | (with_reducible refine HeldP.f_set ?_) | (with_reducible refine HeldP.f_new (by first | omega | (simp; done) | (simp; omega))) | (with_reducible refine HeldP.f_alloc ?_ ?_) | (with_reducible refine HeldP.s_drew ?_) | (with_reducible refine HeldP.s_drewN ?_) | (with_reducible refine HeldP.s_set ?_) | (with_reducible refine HeldP.s_new (by first | omega | (simp; done) | (simp; omega))) | (with_reducible refine HeldP.s_alloc ?_) | (with_reducible exact ⟨_, by assumption⟩) | omega | (intro e; simp at e; done) | (intro e; simp at e; omega) | (exact rfl) | (simp; done) | (simp; omega)))) ?_
  clear HBo HB1 c1_0_0 c1_0_1 c1_0_2 l1_0 c1_1_0 c1_1_1 c1_1_2 l1_1 c1_2_0 c1_2_1 c1_2_2 f1_2_0 f1_2_1 f1_2_2 l1_2 c1_3_0 c1_3_1 c1_3_2 f1_3_0 f1_3_1 f1_3_2 l1_3 n1_0 n1_1 n1_2 n1_3 z1
  rintro w2 ⟨c2_0_0, c2_0_1, c2_0_2, l2_0, c2_1_0, c2_1_1, c2_1_2, l2_1, c2_2_0, c2_2_1, c2_2_2, f2_2_0, f2_2_1, f2_2_2, l2_2, c2_3_0, c2_3_1, c2_3_2, f2_3_0, f2_3_1, f2_3_2, l2_3, HBn⟩
  have n2_0 : w.heap.size ≠ w2.heap.size := (by omega)
  have n2_1 : w.heap.size + 1 ≠ w2.heap.size := (by omega)
  have n2_2 : w.heap.size + 2 ≠ w2.heap.size := (by omega)
  have n2_3 : w.heap.size + 3 ≠ w2.heap.size := (by omega)
  have z2 : w.heap.size ≤ w2.heap.size := (by omega)
  have HB2 := Lib.hid HBn
  clear HBn
  refine bodyPost_ret (v := .tuple #[.agg #[.int .i64 0, .int .i64 0, .int .i64 0], .agg #[.int .i64 0, .int .i64 0, .int .i64 0], .int .i64 0, .int .i64 10]) (by simp [results, Try.results33, go_sem, c2_2_0, c2_2_1, c2_2_2, c2_3_0, c2_3_1, c2_3_2]) rfl ?_
  have HBo := HB2.out
  exact ⟨rfl, HBo⟩

set_option maxRecDepth 100000 in
set_option maxHeartbeats 2000000 in
theorem r_box_no_b {x y z u v t : Int} (hm : mayB x y z = true) (hn : mayB u v t = false) (w : World) :
    Calls Try.prog 33 #[.agg #[.int .i64 x, .int .i64 y, .int .i64 z], .agg #[.int .i64 u, .int .i64 v, .int .i64 t]] w fun e w' => e = .returned (.tuple #[.agg #[.int .i64 0, .int .i64 0, .int .i64 0], .agg #[.int .i64 0, .int .i64 0, .int .i64 0], .int .i64 0, .int .i64 10]) ∧ Below w.heap.size w w' := by
  have HM := Lib.hid hm
  clear hm
  have HN := Lib.hid hn
  clear hn
  go_enter Try.func33, Try.ntmps33
  go_wp2_with fail
  go_at_call 20
  refine (r_may_b HM.out _).mono ?_
  rintro e w1 ⟨rfl, hb1⟩
  have hs1 := hb1.size
  try simp at hs1
  obtain ⟨c1_0_0, c1_0_1, c1_0_2, l1_0, c1_1_0, c1_1_1, c1_1_2, l1_1, c1_2_0, c1_2_1, c1_2_2, f1_2_0, f1_2_1, f1_2_2, l1_2, c1_3_0, c1_3_1, c1_3_2, f1_3_0, f1_3_1, f1_3_2, l1_3⟩ : w1.cell? ⟨w.heap.size, 0, none⟩ = some (.int .i64 x) ∧ w1.cell? ⟨w.heap.size, 1, none⟩ = some (.int .i64 y) ∧ w1.cell? ⟨w.heap.size, 2, none⟩ = some (.int .i64 z) ∧ w.heap.size < w1.heap.size ∧ w1.cell? ⟨w.heap.size + 1, 0, none⟩ = some (.int .i64 u) ∧ w1.cell? ⟨w.heap.size + 1, 1, none⟩ = some (.int .i64 v) ∧ w1.cell? ⟨w.heap.size + 1, 2, none⟩ = some (.int .i64 t) ∧ w.heap.size + 1 < w1.heap.size ∧ w1.cell? ⟨w.heap.size + 2, 0, none⟩ = some (.int .i64 0) ∧ w1.cell? ⟨w.heap.size + 2, 1, none⟩ = some (.int .i64 0) ∧ w1.cell? ⟨w.heap.size + 2, 2, none⟩ = some (.int .i64 0) ∧ w1.frozen? ⟨w.heap.size + 2, 0, none⟩ = false ∧ w1.frozen? ⟨w.heap.size + 2, 1, none⟩ = false ∧ w1.frozen? ⟨w.heap.size + 2, 2, none⟩ = false ∧ w.heap.size + 2 < w1.heap.size ∧ w1.cell? ⟨w.heap.size + 3, 0, none⟩ = some (.int .i64 0) ∧ w1.cell? ⟨w.heap.size + 3, 1, none⟩ = some (.int .i64 0) ∧ w1.cell? ⟨w.heap.size + 3, 2, none⟩ = some (.int .i64 0) ∧ w1.frozen? ⟨w.heap.size + 3, 0, none⟩ = false ∧ w1.frozen? ⟨w.heap.size + 3, 1, none⟩ = false ∧ w1.frozen? ⟨w.heap.size + 3, 2, none⟩ = false ∧ w.heap.size + 3 < w1.heap.size := by
    refine ⟨?_, ?_, ?_, ?_, ?_, ?_, ?_, ?_, ?_, ?_, ?_, ?_, ?_, ?_, ?_, ?_, ?_, ?_, ?_, ?_, ?_, ?_⟩
    all_goals (repeat' (first | (with_reducible assumption) | (with_reducible refine HeldP.c_below hb1 ?_ ?_) | (with_reducible refine HeldP.f_below hb1 ?_ ?_) | (with_reducible refine HeldP.c_drew ?_) | (with_reducible refine HeldP.c_drewN ?_) | (with_reducible refine HeldP.c_same (by omega) ?_) | (with_reducible refine HeldP.c_other ?_ ?_) | (with_reducible refine HeldP.c_new (by first | omega | (simp; done) | (simp; omega)) ?_) | (with_reducible refine HeldP.c_alloc ?_ ?_) | (with_reducible refine HeldP.e_drew ?_) | (with_reducible refine HeldP.e_drewN ?_) | (with_reducible refine HeldP.e_set ?_) | (with_reducible refine HeldP.e_new (by first | omega | (simp; done) | (simp; omega)) ⟨_, rfl⟩) | (with_reducible refine HeldP.e_alloc ?_ ?_) | (with_reducible refine HeldP.f_drew ?_) | (with_reducible refine HeldP.f_drewN ?_) | (with_reducible refine HeldP.f_set ?_) | (with_reducible refine HeldP.f_new (by first | omega | (simp; done) | (simp; omega))) | (with_reducible refine HeldP.f_alloc ?_ ?_) | (with_reducible refine HeldP.s_drew ?_) | (with_reducible refine HeldP.s_drewN ?_) | (with_reducible refine HeldP.s_set ?_) | (with_reducible refine HeldP.s_new (by first | omega | (simp; done) | (simp; omega))) | (with_reducible refine HeldP.s_alloc ?_) | (with_reducible exact ⟨_, by assumption⟩) | omega | (intro e; simp at e; done) | (intro e; simp at e; omega) | (exact rfl) | (simp; done) | (simp; omega)))
  have n1_0 : w.heap.size ≠ w1.heap.size := (by omega)
  have n1_1 : w.heap.size + 1 ≠ w1.heap.size := (by omega)
  have n1_2 : w.heap.size + 2 ≠ w1.heap.size := (by omega)
  have n1_3 : w.heap.size + 3 ≠ w1.heap.size := (by omega)
  have z1 : w.heap.size ≤ w1.heap.size := (by omega)
  have HB1 := Lib.hid (show Below w.heap.size w w1 by (repeat' (first | (with_reducible exact Below.refl _ _) | (with_reducible refine Below.setCell ?_ (by (first | omega | (simp; done) | (simp; omega))) _) | (with_reducible refine Below.alloc ?_ (by (first | omega | (simp; done) | (simp; omega))) _) | (with_reducible refine Below.drew ?_) | (with_reducible refine below_drewN ?_ _) | (with_reducible refine Below.trans ?_ (Below.mono hb1 (by (first | omega | (simp; done) | (simp; omega))))))))
  clear hb1 hs1
  go_wp2_with fail
  go_at_call 20
  refine (r_may_b HN.out _).mono ?_
  rintro e w2 ⟨rfl, hb2⟩
  have HBo := HB1.out
  have hs2 := hb2.size
  try simp at hs2
  obtain ⟨c2_0_0, c2_0_1, c2_0_2, l2_0, c2_1_0, c2_1_1, c2_1_2, l2_1, c2_2_0, c2_2_1, c2_2_2, f2_2_0, f2_2_1, f2_2_2, l2_2, c2_3_0, c2_3_1, c2_3_2, f2_3_0, f2_3_1, f2_3_2, l2_3⟩ : w2.cell? ⟨w.heap.size, 0, none⟩ = some (.int .i64 x) ∧ w2.cell? ⟨w.heap.size, 1, none⟩ = some (.int .i64 y) ∧ w2.cell? ⟨w.heap.size, 2, none⟩ = some (.int .i64 z) ∧ w.heap.size < w2.heap.size ∧ w2.cell? ⟨w.heap.size + 1, 0, none⟩ = some (.int .i64 u) ∧ w2.cell? ⟨w.heap.size + 1, 1, none⟩ = some (.int .i64 v) ∧ w2.cell? ⟨w.heap.size + 1, 2, none⟩ = some (.int .i64 t) ∧ w.heap.size + 1 < w2.heap.size ∧ w2.cell? ⟨w.heap.size + 2, 0, none⟩ = some (.int .i64 0) ∧ w2.cell? ⟨w.heap.size + 2, 1, none⟩ = some (.int .i64 0) ∧ w2.cell? ⟨w.heap.size + 2, 2, none⟩ = some (.int .i64 0) ∧ w2.frozen? ⟨w.heap.size + 2, 0, none⟩ = false ∧ w2.frozen? ⟨w.heap.size + 2, 1, none⟩ = false ∧ w2.frozen? ⟨w.heap.size + 2, 2, none⟩ = false ∧ w.heap.size + 2 < w2.heap.size ∧ w2.cell? ⟨w.heap.size + 3, 0, none⟩ = some (.int .i64 0) ∧ w2.cell? ⟨w.heap.size + 3, 1, none⟩ = some (.int .i64 0) ∧ w2.cell? ⟨w.heap.size + 3, 2, none⟩ = some (.int .i64 0) ∧ w2.frozen? ⟨w.heap.size + 3, 0, none⟩ = false ∧ w2.frozen? ⟨w.heap.size + 3, 1, none⟩ = false ∧ w2.frozen? ⟨w.heap.size + 3, 2, none⟩ = false ∧ w.heap.size + 3 < w2.heap.size := by
    refine ⟨?_, ?_, ?_, ?_, ?_, ?_, ?_, ?_, ?_, ?_, ?_, ?_, ?_, ?_, ?_, ?_, ?_, ?_, ?_, ?_, ?_, ?_⟩
    all_goals (repeat' (first | (with_reducible assumption) | (with_reducible refine HeldP.c_below hb2 ?_ ?_) | (with_reducible refine HeldP.f_below hb2 ?_ ?_) | (with_reducible refine HeldP.c_drew ?_) | (with_reducible refine HeldP.c_drewN ?_) | (with_reducible refine HeldP.c_same (by omega) ?_) | (with_reducible refine HeldP.c_other ?_ ?_) | (with_reducible refine HeldP.c_new (by first | omega | (simp; done) | (simp; omega)) ?_) | (with_reducible refine HeldP.c_alloc ?_ ?_) | (with_reducible refine HeldP.e_drew ?_) | (with_reducible refine HeldP.e_drewN ?_) | (with_reducible refine HeldP.e_set ?_) | (with_reducible refine HeldP.e_new (by first | omega | (simp; done) | (simp; omega)) ⟨_, rfl⟩) | (with_reducible refine HeldP.e_alloc ?_ ?_) | (with_reducible refine HeldP.f_drew ?_) | (with_reducible refine HeldP.f_drewN ?_) | (with_reducible refine HeldP.f_set ?_) | (with_reducible refine HeldP.f_new (by first | omega | (simp; done) | (simp; omega))) | (with_reducible refine HeldP.f_alloc ?_ ?_) | (with_reducible refine HeldP.s_drew ?_) | (with_reducible refine HeldP.s_drewN ?_) | (with_reducible refine HeldP.s_set ?_) | (with_reducible refine HeldP.s_new (by first | omega | (simp; done) | (simp; omega))) | (with_reducible refine HeldP.s_alloc ?_) | (with_reducible exact ⟨_, by assumption⟩) | omega | (intro e; simp at e; done) | (intro e; simp at e; omega) | (exact rfl) | (simp; done) | (simp; omega)))
  have n2_0 : w.heap.size ≠ w2.heap.size := (by omega)
  have n2_1 : w.heap.size + 1 ≠ w2.heap.size := (by omega)
  have n2_2 : w.heap.size + 2 ≠ w2.heap.size := (by omega)
  have n2_3 : w.heap.size + 3 ≠ w2.heap.size := (by omega)
  have z2 : w.heap.size ≤ w2.heap.size := (by omega)
  have HB2 := Lib.hid (show Below w.heap.size w w2 by (repeat' (first | (with_reducible exact Below.refl _ _) | (with_reducible refine Below.setCell ?_ (by (first | omega | (simp; done) | (simp; omega))) _) | (with_reducible refine Below.alloc ?_ (by (first | omega | (simp; done) | (simp; omega))) _) | (with_reducible refine Below.drew ?_) | (with_reducible refine below_drewN ?_ _) | (with_reducible refine Below.trans ?_ (Below.mono HBo (by (first | omega | (simp; done) | (simp; omega))))) | (with_reducible refine Below.trans ?_ (Below.mono hb2 (by (first | omega | (simp; done) | (simp; omega))))))))
  clear HBo hb2 hs2 c1_0_0 c1_0_1 c1_0_2 l1_0 c1_1_0 c1_1_1 c1_1_2 l1_1 c1_2_0 c1_2_1 c1_2_2 f1_2_0 f1_2_1 f1_2_2 l1_2 c1_3_0 c1_3_1 c1_3_2 f1_3_0 f1_3_1 f1_3_2 l1_3 n1_0 n1_1 n1_2 n1_3 z1 HB1
  go_wp2_with fail
  have HBo := HB2.out
  refine HeldP.bp_named (fun w' => w'.cell? ⟨w.heap.size, 0, none⟩ = some (.int .i64 x) ∧ w'.cell? ⟨w.heap.size, 1, none⟩ = some (.int .i64 y) ∧ w'.cell? ⟨w.heap.size, 2, none⟩ = some (.int .i64 z) ∧ w.heap.size < w'.heap.size ∧ w'.cell? ⟨w.heap.size + 1, 0, none⟩ = some (.int .i64 u) ∧ w'.cell? ⟨w.heap.size + 1, 1, none⟩ = some (.int .i64 v) ∧ w'.cell? ⟨w.heap.size + 1, 2, none⟩ = some (.int .i64 t) ∧ w.heap.size + 1 < w'.heap.size ∧ w'.cell? ⟨w.heap.size + 2, 0, none⟩ = some (.int .i64 0) ∧ w'.cell? ⟨w.heap.size + 2, 1, none⟩ = some (.int .i64 0) ∧ w'.cell? ⟨w.heap.size + 2, 2, none⟩ = some (.int .i64 0) ∧ w'.frozen? ⟨w.heap.size + 2, 0, none⟩ = false ∧ w'.frozen? ⟨w.heap.size + 2, 1, none⟩ = false ∧ w'.frozen? ⟨w.heap.size + 2, 2, none⟩ = false ∧ w.heap.size + 2 < w'.heap.size ∧ w'.cell? ⟨w.heap.size + 3, 0, none⟩ = some (.int .i64 0) ∧ w'.cell? ⟨w.heap.size + 3, 1, none⟩ = some (.int .i64 0) ∧ w'.cell? ⟨w.heap.size + 3, 2, none⟩ = some (.int .i64 0) ∧ w'.frozen? ⟨w.heap.size + 3, 0, none⟩ = false ∧ w'.frozen? ⟨w.heap.size + 3, 1, none⟩ = false ∧ w'.frozen? ⟨w.heap.size + 3, 2, none⟩ = false ∧ w.heap.size + 3 < w'.heap.size ∧ Below w.heap.size w w') (by (refine ⟨?_, ?_, ?_, ?_, ?_, ?_, ?_, ?_, ?_, ?_, ?_, ?_, ?_, ?_, ?_, ?_, ?_, ?_, ?_, ?_, ?_, ?_, by (repeat' (first | (with_reducible exact Below.refl _ _) | (with_reducible refine Below.setCell ?_ (by (first | omega | (simp; done) | (simp; omega))) _) | (with_reducible refine Below.alloc ?_ (by (first | omega | (simp; done) | (simp; omega))) _) | (with_reducible refine Below.drew ?_) | (with_reducible refine below_drewN ?_ _) | (with_reducible refine Below.trans ?_ (Below.mono HBo (by (first | omega | (simp; done) | (simp; omega)))))))⟩); all_goals (repeat' (first | (with_reducible assumption) | (with_reducible refine HeldP.c_drew ?_) | (with_reducible refine HeldP.c_drewN ?_) | (with_reducible refine HeldP.c_same (by omega) ?_) | (with_reducible refine HeldP.c_other ?_ ?_) | (with_reducible refine HeldP.c_new (by first | omega | (simp; done) | (simp; omega)) ?_) | (with_reducible refine HeldP.c_alloc ?_ ?_) | (with_reducible refine HeldP.e_drew ?_) | (with_reducible refine HeldP.e_drewN ?_) | (with_reducible refine HeldP.e_set ?_) | (with_reducible refine HeldP.e_new (by first | omega | (simp; done) | (simp; omega)) ⟨_, rfl⟩) | (with_reducible refine HeldP.e_alloc ?_ ?_) | (with_reducible refine HeldP.f_drew ?_) | (with_reducible refine HeldP.f_drewN ?_) | (with_reducible refine HeldP.f_set ?_) | (with_reducible refine HeldP.f_new (by first | omega | (simp; done) | (simp; omega))) | (with_reducible refine HeldP.f_alloc ?_ ?_) | (with_reducible refine HeldP.s_drew ?_) | (with_reducible refine HeldP.s_drewN ?_) | (with_reducible refine HeldP.s_set ?_) | (with_reducible refine HeldP.s_new (by first | omega | (simp; done) | (simp; omega))) | (with_reducible refine HeldP.s_alloc ?_) | (with_reducible exact ⟨_, by assumption⟩) | omega | (intro e; simp at e; done) | (intro e; simp at e; omega) | (exact rfl) | (simp; done) | (simp; omega)))) ?_
  clear HBo HB2 c2_0_0 c2_0_1 c2_0_2 l2_0 c2_1_0 c2_1_1 c2_1_2 l2_1 c2_2_0 c2_2_1 c2_2_2 f2_2_0 f2_2_1 f2_2_2 l2_2 c2_3_0 c2_3_1 c2_3_2 f2_3_0 f2_3_1 f2_3_2 l2_3 n2_0 n2_1 n2_2 n2_3 z2
  rintro w3 ⟨c3_0_0, c3_0_1, c3_0_2, l3_0, c3_1_0, c3_1_1, c3_1_2, l3_1, c3_2_0, c3_2_1, c3_2_2, f3_2_0, f3_2_1, f3_2_2, l3_2, c3_3_0, c3_3_1, c3_3_2, f3_3_0, f3_3_1, f3_3_2, l3_3, HBn⟩
  have n3_0 : w.heap.size ≠ w3.heap.size := (by omega)
  have n3_1 : w.heap.size + 1 ≠ w3.heap.size := (by omega)
  have n3_2 : w.heap.size + 2 ≠ w3.heap.size := (by omega)
  have n3_3 : w.heap.size + 3 ≠ w3.heap.size := (by omega)
  have z3 : w.heap.size ≤ w3.heap.size := (by omega)
  have HB3 := Lib.hid HBn
  clear HBn
  refine bodyPost_ret (v := .tuple #[.agg #[.int .i64 0, .int .i64 0, .int .i64 0], .agg #[.int .i64 0, .int .i64 0, .int .i64 0], .int .i64 0, .int .i64 10]) (by simp [results, Try.results33, go_sem, c3_2_0, c3_2_1, c3_2_2, c3_3_0, c3_3_1, c3_3_2]) rfl ?_
  have HBo := HB3.out
  exact ⟨rfl, HBo⟩

theorem r_box_c {x y z u v t : Int} {b : BoxR} (h : boxOf x y z u v t = b) (w : World) :
    Calls Try.prog 33 #[.agg #[.int .i64 x, .int .i64 y, .int .i64 z], .agg #[.int .i64 u, .int .i64 v, .int .i64 t]] w fun e w' => e = .returned (.tuple #[.agg #[.int .i64 b.l1, .int .i64 b.l2, .int .i64 b.l3], .agg #[.int .i64 b.h1, .int .i64 b.h2, .int .i64 b.h3], .int .i64 b.n, .int .i64 b.e]) ∧ Below w.heap.size w w' := by
  unfold boxOf at h
  cases hm : mayB x y z with
  | false =>
    rw [hm, if_neg (by simp)] at h
    subst h
    exact r_box_no_a hm w
  | true =>
    cases hn : mayB u v t with
    | false =>
      rw [hm, hn, if_neg (by simp)] at h
      subst h
      exact r_box_no_b hm hn w
    | true =>
      rw [hm, hn, if_pos (by rfl)] at h
      obtain ⟨e1, _⟩ := lo_hi x u
      obtain ⟨e2, _⟩ := lo_hi y v
      obtain ⟨e3, _⟩ := lo_hi z t
      have z1 : 0 ≤ gapI x u := by unfold gapI; split <;> omega
      have z2 : 0 ≤ gapI y v := by unfold gapI; split <;> omega
      have z3 : 0 ≤ gapI z t := by unfold gapI; split <;> omega
      obtain ⟨p12, e4⟩ : ∃ p, (gapI x u + 1) * (gapI y v + 1) = p := ⟨_, rfl⟩
      obtain ⟨p, e5⟩ : ∃ q, p12 * (gapI z t + 1) = q := ⟨_, rfl⟩
      rw [e4, e5] at h
      by_cases w1 : gapI x u < 16
      · by_cases w2 : gapI y v < 16
        · by_cases w3 : gapI z t < 16
          · have p0 : 0 ≤ p12 := by rw [← e4]; exact Int.mul_nonneg (by omega) (by omega)
            have p1 : p12 ≤ 256 := by
              have := Int.mul_le_mul (a := gapI x u + 1) (b := gapI y v + 1) (c := 16) (d := 16) (by omega) (by omega) (by omega) (by omega)
              omega
            have p2 : 0 ≤ p := by rw [← e5]; exact Int.mul_nonneg (by omega) (by omega)
            have p4 : p ≤ 8192 := by
              have := Int.mul_le_mul (a := p12) (b := gapI z t + 1) (c := 256) (d := 16) (by omega) (by omega) (by omega) (by omega)
              omega
            by_cases p3 : p ≤ 512
            · rw [if_pos ⟨w1, w2, w3, p3⟩] at h
              subst h
              exact r_box_ok hm hn rfl rfl rfl rfl rfl rfl e1 e2 e3 z1 z2 z3 w1 w2 w3 e4 e5 p0 p1 p2 p3 w
            · rw [if_neg (fun hh => p3 hh.2.2.2)] at h
              subst h
              exact r_box_many hm hn rfl rfl rfl rfl rfl rfl e1 e2 e3 z1 z2 z3 w1 w2 w3 e4 e5 p0 p1 p2 (by omega) p4 w
          · rw [if_neg (fun hh => w3 hh.2.2.1)] at h
            subst h
            exact r_box_wz hm hn rfl rfl rfl rfl rfl rfl e1 e2 e3 z1 z2 z3 w1 w2 (by omega) w
        · rw [if_neg (fun hh => w2 hh.2.1)] at h
          subst h
          exact r_box_wy hm hn rfl rfl rfl rfl rfl rfl e1 e2 e3 z1 z2 z3 w1 (by omega) w
      · rw [if_neg (fun hh => w1 hh.1)] at h
        subst h
        exact r_box_wx hm hn rfl rfl rfl rfl rfl rfl e1 e2 e3 z1 z2 z3 (by omega) w
end PlaceW
end Go.Proofs.Ytokkomglbddgcaa
