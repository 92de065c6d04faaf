/-
  The laws of place, ninth part: PlaceBoxes, where the box has places, case A.
-/
import Derived.Test.YtokkomglbddgcaaPlaceREach2
import Derived.Test.YtokkomglbddgcaaQuietR
import Derived.Test.YtokkomglbddgcaaPrefixP
import Derived.Deep.RegionHeld3
namespace Go.Proofs.Ytokkomglbddgcaa
open Go.RowKit Go.Shelf
set_option linter.unusedSimpArgs false
set_option linter.unusedVariables false
attribute [local go_sem] Oper.semAt_some
namespace PlaceW
open BitsP

set_option maxRecDepth 100000 in
set_option maxHeartbeats 8000000 in
theorem law_boxes_A {x y z u v t l1 l2 l3 h1 h2 h3 bn leave : Int} (h : boxOf x y z u v t = ⟨l1, l2, l3, h1, h2, h3, bn, 0⟩) (hn : 0 < (boxPlaces ⟨l1, l2, l3, h1, h2, h3, bn, 0⟩).length) (hN : (boxPlaces ⟨l1, l2, l3, h1, h2, h3, bn, 0⟩).length ≤ 512) (hl : leave < 1) (w : World) :
    Calls Try.prog 6 #[.agg #[.int .i64 x, .int .i64 y, .int .i64 z], .agg #[.int .i64 u, .int .i64 v, .int .i64 t], .int .i64 leave] w fun e w' => e = .returned (.bool true) ∧ Below w.heap.size w w' := by
  have hq : ∀ (c : Array Value) w, (binOp .eql 49 (.func (.func 47) #[] c) Value.nilFunc).run Try.prog w = .ok (.bool false) w := fun _ _ => by kernel_rfl
  have H1 := Lib.hid h
  have HO := Lib.hid (box_ok_of h)
  have HR := Lib.hid (fun w => r_each_some h hn w)
  have HNp := Lib.hid hn
  clear hn
  obtain ⟨xs, hxs⟩ : ∃ xs, boxPlaces ⟨l1, l2, l3, h1, h2, h3, bn, 0⟩ = xs := ⟨_, rfl⟩
  rw [hxs] at HR HNp hN
  skip
  have HXS := Lib.hid hxs
  have HL := Lib.hid hl
  skip
  clear hxs h
  refine (callsIn_wide (n := 6)).1 ?_
  refine callsIn_of_wp_marks Try.func6 rfl trivial ?_ rfl
  refine wpIn_wide.2 ?_
  simp only [Try.ntmps6, List.size_toArray, List.length_cons, List.length_nil, Nat.reduceAdd, Nat.reduceSub, Array.replicate_succ, Array.replicate_zero, List.push_toArray, List.append_toArray, List.nil_append, List.cons_append]
  go_wp2_with fail
  go_at_call 32
  refine (box_c H1.out _).mono ?_
  rintro e w1 ⟨rfl, hb1⟩
  have hs1 := hb1.size
  try simp at hs1
  obtain ⟨c1_0_0, c1_0_1, c1_0_2, l1_0, c1_1_0, c1_1_1, c1_1_2, l1_1, c1_2_0, l1_2, c1_3_0, f1_3_0, l1_3⟩ : w1.cell? ⟨w.heap.size, 0, none⟩ = some (.int .i64 x) ∧ w1.cell? ⟨w.heap.size, 1, none⟩ = some (.int .i64 y) ∧ w1.cell? ⟨w.heap.size, 2, none⟩ = some (.int .i64 z) ∧ w.heap.size < w1.heap.size ∧ w1.cell? ⟨w.heap.size + 1, 0, none⟩ = some (.int .i64 u) ∧ w1.cell? ⟨w.heap.size + 1, 1, none⟩ = some (.int .i64 v) ∧ w1.cell? ⟨w.heap.size + 1, 2, none⟩ = some (.int .i64 t) ∧ w.heap.size + 1 < w1.heap.size ∧ w1.cell? ⟨w.heap.size + 2, 0, none⟩ = some (.int .i64 leave) ∧ w.heap.size + 2 < w1.heap.size ∧ w1.cell? ⟨w.heap.size + 3, 0, none⟩ = some (.bool false) ∧ w1.frozen? ⟨w.heap.size + 3, 0, none⟩ = false ∧ w.heap.size + 3 < w1.heap.size := by
    refine ⟨?_, ?_, ?_, ?_, ?_, ?_, ?_, ?_, ?_, ?_, ?_, ?_, ?_⟩
    all_goals (repeat' (first | (with_reducible assumption) | (with_reducible refine HeldP.c_below hb1 ?_ ?_) | (with_reducible refine HeldP.f_below hb1 ?_ ?_) | (with_reducible refine HeldP.c_drew ?_) | (with_reducible refine HeldP.c_drewN ?_) | (with_reducible refine HeldP.c_same (by omega) ?_) | (with_reducible refine HeldP.c_other ?_ ?_) | (with_reducible refine HeldP.c_new (by first | omega | (simp; done) | (simp; omega)) ?_) | (with_reducible refine HeldP.c_alloc ?_ ?_) | (with_reducible refine HeldP.e_drew ?_) | (with_reducible refine HeldP.e_drewN ?_) | (with_reducible refine HeldP.e_set ?_) | (with_reducible refine HeldP.e_new (by first | omega | (simp; done) | (simp; omega)) ⟨_, rfl⟩) | (with_reducible refine HeldP.e_alloc ?_ ?_) | (with_reducible refine HeldP.f_drew ?_) | (with_reducible refine HeldP.f_drewN ?_) | (with_reducible refine HeldP.f_set ?_) | (with_reducible refine HeldP.f_new (by first | omega | (simp; done) | (simp; omega))) | (with_reducible refine HeldP.f_alloc ?_ ?_) | (with_reducible refine HeldP.s_drew ?_) | (with_reducible refine HeldP.s_drewN ?_) | (with_reducible refine HeldP.s_set ?_) | (with_reducible refine HeldP.s_new (by first | omega | (simp; done) | (simp; omega))) | (with_reducible refine HeldP.s_alloc ?_) | (with_reducible exact ⟨_, by assumption⟩) | omega | (intro e; simp at e; done) | (intro e; simp at e; omega) | (exact rfl) | (simp; done) | (simp; omega)))
  have n1_0 : w.heap.size ≠ w1.heap.size := (by omega)
  have n1_1 : w.heap.size + 1 ≠ w1.heap.size := (by omega)
  have n1_2 : w.heap.size + 2 ≠ w1.heap.size := (by omega)
  have n1_3 : w.heap.size + 3 ≠ w1.heap.size := (by omega)
  have z1 : w.heap.size ≤ w1.heap.size := (by omega)
  have HB1 := Lib.hid (show Below w.heap.size w w1 by (repeat' (first | (with_reducible exact Below.refl _ _) | (with_reducible refine Below.setCell ?_ (by (first | omega | (simp; done) | (simp; omega))) _) | (with_reducible refine Below.alloc ?_ (by (first | omega | (simp; done) | (simp; omega))) _) | (with_reducible refine Below.drew ?_) | (with_reducible refine below_drewN ?_ _) | (with_reducible refine Below.trans ?_ (Below.mono hb1 (by (first | omega | (simp; done) | (simp; omega))))))))
  clear hb1 hs1
  go_wp2_with fail
  go_at_call 33
  refine (r_box_c H1.out _).mono ?_
  rintro e w2 ⟨rfl, hb2⟩
  have HBo := HB1.out
  have hs2 := hb2.size
  try simp at hs2
  obtain ⟨c2_0_0, c2_0_1, c2_0_2, l2_0, c2_1_0, c2_1_1, c2_1_2, l2_1, c2_2_0, l2_2, c2_3_0, f2_3_0, l2_3, c2_4_0, c2_4_1, c2_4_2, l2_4, c2_5_0, c2_5_1, c2_5_2, l2_5⟩ : w2.cell? ⟨w.heap.size, 0, none⟩ = some (.int .i64 x) ∧ w2.cell? ⟨w.heap.size, 1, none⟩ = some (.int .i64 y) ∧ w2.cell? ⟨w.heap.size, 2, none⟩ = some (.int .i64 z) ∧ w.heap.size < w2.heap.size ∧ w2.cell? ⟨w.heap.size + 1, 0, none⟩ = some (.int .i64 u) ∧ w2.cell? ⟨w.heap.size + 1, 1, none⟩ = some (.int .i64 v) ∧ w2.cell? ⟨w.heap.size + 1, 2, none⟩ = some (.int .i64 t) ∧ w.heap.size + 1 < w2.heap.size ∧ w2.cell? ⟨w.heap.size + 2, 0, none⟩ = some (.int .i64 leave) ∧ w.heap.size + 2 < w2.heap.size ∧ w2.cell? ⟨w.heap.size + 3, 0, none⟩ = some (.bool false) ∧ w2.frozen? ⟨w.heap.size + 3, 0, none⟩ = false ∧ w.heap.size + 3 < w2.heap.size ∧ w2.cell? ⟨w1.heap.size, 0, none⟩ = some (.int .i64 l1) ∧ w2.cell? ⟨w1.heap.size, 1, none⟩ = some (.int .i64 l2) ∧ w2.cell? ⟨w1.heap.size, 2, none⟩ = some (.int .i64 l3) ∧ w1.heap.size < w2.heap.size ∧ w2.cell? ⟨w1.heap.size + 1, 0, none⟩ = some (.int .i64 h1) ∧ w2.cell? ⟨w1.heap.size + 1, 1, none⟩ = some (.int .i64 h2) ∧ w2.cell? ⟨w1.heap.size + 1, 2, none⟩ = some (.int .i64 h3) ∧ w1.heap.size + 1 < w2.heap.size := by
    refine ⟨?_, ?_, ?_, ?_, ?_, ?_, ?_, ?_, ?_, ?_, ?_, ?_, ?_, ?_, ?_, ?_, ?_, ?_, ?_, ?_, ?_⟩
    all_goals (repeat' (first | (with_reducible assumption) | (with_reducible refine HeldP.c_below hb2 ?_ ?_) | (with_reducible refine HeldP.f_below hb2 ?_ ?_) | (with_reducible refine HeldP.c_drew ?_) | (with_reducible refine HeldP.c_drewN ?_) | (with_reducible refine HeldP.c_same (by omega) ?_) | (with_reducible refine HeldP.c_other ?_ ?_) | (with_reducible refine HeldP.c_new (by first | omega | (simp; done) | (simp; omega)) ?_) | (with_reducible refine HeldP.c_alloc ?_ ?_) | (with_reducible refine HeldP.e_drew ?_) | (with_reducible refine HeldP.e_drewN ?_) | (with_reducible refine HeldP.e_set ?_) | (with_reducible refine HeldP.e_new (by first | omega | (simp; done) | (simp; omega)) ⟨_, rfl⟩) | (with_reducible refine HeldP.e_alloc ?_ ?_) | (with_reducible refine HeldP.f_drew ?_) | (with_reducible refine HeldP.f_drewN ?_) | (with_reducible refine HeldP.f_set ?_) | (with_reducible refine HeldP.f_new (by first | omega | (simp; done) | (simp; omega))) | (with_reducible refine HeldP.f_alloc ?_ ?_) | (with_reducible refine HeldP.s_drew ?_) | (with_reducible refine HeldP.s_drewN ?_) | (with_reducible refine HeldP.s_set ?_) | (with_reducible refine HeldP.s_new (by first | omega | (simp; done) | (simp; omega))) | (with_reducible refine HeldP.s_alloc ?_) | (with_reducible exact ⟨_, by assumption⟩) | omega | (intro e; simp at e; done) | (intro e; simp at e; omega) | (exact rfl) | (simp; done) | (simp; omega)))
  have n2_0 : w.heap.size ≠ w2.heap.size := (by omega)
  have n2_1 : w.heap.size + 1 ≠ w2.heap.size := (by omega)
  have n2_2 : w.heap.size + 2 ≠ w2.heap.size := (by omega)
  have n2_3 : w.heap.size + 3 ≠ w2.heap.size := (by omega)
  have n2_4 : w1.heap.size ≠ w2.heap.size := (by omega)
  have n2_5 : w1.heap.size + 1 ≠ w2.heap.size := (by omega)
  have z2 : w.heap.size ≤ w2.heap.size := (by omega)
  have HB2 := Lib.hid (show Below w.heap.size w w2 by (repeat' (first | (with_reducible exact Below.refl _ _) | (with_reducible refine Below.setCell ?_ (by (first | omega | (simp; done) | (simp; omega))) _) | (with_reducible refine Below.alloc ?_ (by (first | omega | (simp; done) | (simp; omega))) _) | (with_reducible refine Below.drew ?_) | (with_reducible refine below_drewN ?_ _) | (with_reducible refine Below.trans ?_ (Below.mono HBo (by (first | omega | (simp; done) | (simp; omega))))) | (with_reducible refine Below.trans ?_ (Below.mono hb2 (by (first | omega | (simp; done) | (simp; omega))))))))
  clear HBo hb2 hs2 c1_0_0 c1_0_1 c1_0_2 l1_0 c1_1_0 c1_1_1 c1_1_2 l1_1 c1_2_0 l1_2 c1_3_0 f1_3_0 l1_3 n1_0 n1_1 n1_2 n1_3 z1 HB1
  go_wp2_with fail
  go_at_call 34
  refine (HR.out _).mono ?_
  rintro e w3 ⟨g, cap, rfl, hg0, hg1, hrow, hb3⟩
  simp at hg0
  have hgl : w.heap.size ≤ g := by omega
  have HBo := HB2.out
  have hs3 := hb3.size
  try simp at hs3
  obtain ⟨c3_0_0, c3_0_1, c3_0_2, l3_0, c3_1_0, c3_1_1, c3_1_2, l3_1, c3_2_0, l3_2, c3_3_0, f3_3_0, l3_3, c3_4_0, c3_4_1, c3_4_2, l3_4, c3_5_0, c3_5_1, c3_5_2, l3_5, c3_6_0, c3_6_1, c3_6_2, l3_6, c3_7_0, c3_7_1, c3_7_2, l3_7⟩ : w3.cell? ⟨w.heap.size, 0, none⟩ = some (.int .i64 x) ∧ w3.cell? ⟨w.heap.size, 1, none⟩ = some (.int .i64 y) ∧ w3.cell? ⟨w.heap.size, 2, none⟩ = some (.int .i64 z) ∧ w.heap.size < w3.heap.size ∧ w3.cell? ⟨w.heap.size + 1, 0, none⟩ = some (.int .i64 u) ∧ w3.cell? ⟨w.heap.size + 1, 1, none⟩ = some (.int .i64 v) ∧ w3.cell? ⟨w.heap.size + 1, 2, none⟩ = some (.int .i64 t) ∧ w.heap.size + 1 < w3.heap.size ∧ w3.cell? ⟨w.heap.size + 2, 0, none⟩ = some (.int .i64 leave) ∧ w.heap.size + 2 < w3.heap.size ∧ w3.cell? ⟨w.heap.size + 3, 0, none⟩ = some (.bool false) ∧ w3.frozen? ⟨w.heap.size + 3, 0, none⟩ = false ∧ w.heap.size + 3 < w3.heap.size ∧ w3.cell? ⟨w1.heap.size, 0, none⟩ = some (.int .i64 l1) ∧ w3.cell? ⟨w1.heap.size, 1, none⟩ = some (.int .i64 l2) ∧ w3.cell? ⟨w1.heap.size, 2, none⟩ = some (.int .i64 l3) ∧ w1.heap.size < w3.heap.size ∧ w3.cell? ⟨w1.heap.size + 1, 0, none⟩ = some (.int .i64 h1) ∧ w3.cell? ⟨w1.heap.size + 1, 1, none⟩ = some (.int .i64 h2) ∧ w3.cell? ⟨w1.heap.size + 1, 2, none⟩ = some (.int .i64 h3) ∧ w1.heap.size + 1 < w3.heap.size ∧ w3.cell? ⟨w2.heap.size, 0, none⟩ = some (.int .i64 l1) ∧ w3.cell? ⟨w2.heap.size, 1, none⟩ = some (.int .i64 l2) ∧ w3.cell? ⟨w2.heap.size, 2, none⟩ = some (.int .i64 l3) ∧ w2.heap.size < w3.heap.size ∧ w3.cell? ⟨w2.heap.size + 1, 0, none⟩ = some (.int .i64 h1) ∧ w3.cell? ⟨w2.heap.size + 1, 1, none⟩ = some (.int .i64 h2) ∧ w3.cell? ⟨w2.heap.size + 1, 2, none⟩ = some (.int .i64 h3) ∧ w2.heap.size + 1 < w3.heap.size := by
    refine ⟨?_, ?_, ?_, ?_, ?_, ?_, ?_, ?_, ?_, ?_, ?_, ?_, ?_, ?_, ?_, ?_, ?_, ?_, ?_, ?_, ?_, ?_, ?_, ?_, ?_, ?_, ?_, ?_, ?_⟩
    all_goals (repeat' (first | (with_reducible assumption) | (with_reducible refine HeldP.c_below hb3 ?_ ?_) | (with_reducible refine HeldP.f_below hb3 ?_ ?_) | (with_reducible refine HeldP.c_drew ?_) | (with_reducible refine HeldP.c_drewN ?_) | (with_reducible refine HeldP.c_same (by omega) ?_) | (with_reducible refine HeldP.c_other ?_ ?_) | (with_reducible refine HeldP.c_new (by first | omega | (simp; done) | (simp; omega)) ?_) | (with_reducible refine HeldP.c_alloc ?_ ?_) | (with_reducible refine HeldP.e_drew ?_) | (with_reducible refine HeldP.e_drewN ?_) | (with_reducible refine HeldP.e_set ?_) | (with_reducible refine HeldP.e_new (by first | omega | (simp; done) | (simp; omega)) ⟨_, rfl⟩) | (with_reducible refine HeldP.e_alloc ?_ ?_) | (with_reducible refine HeldP.f_drew ?_) | (with_reducible refine HeldP.f_drewN ?_) | (with_reducible refine HeldP.f_set ?_) | (with_reducible refine HeldP.f_new (by first | omega | (simp; done) | (simp; omega))) | (with_reducible refine HeldP.f_alloc ?_ ?_) | (with_reducible refine HeldP.s_drew ?_) | (with_reducible refine HeldP.s_drewN ?_) | (with_reducible refine HeldP.s_set ?_) | (with_reducible refine HeldP.s_new (by first | omega | (simp; done) | (simp; omega))) | (with_reducible refine HeldP.s_alloc ?_) | (with_reducible exact ⟨_, by assumption⟩) | omega | (intro e; simp at e; done) | (intro e; simp at e; omega) | (exact rfl) | (simp; done) | (simp; omega)))
  have n3_0 : w.heap.size ≠ w3.heap.size := (by omega)
  have n3_1 : w.heap.size + 1 ≠ w3.heap.size := (by omega)
  have n3_2 : w.heap.size + 2 ≠ w3.heap.size := (by omega)
  have n3_3 : w.heap.size + 3 ≠ w3.heap.size := (by omega)
  have n3_4 : w1.heap.size ≠ w3.heap.size := (by omega)
  have n3_5 : w1.heap.size + 1 ≠ w3.heap.size := (by omega)
  have n3_6 : w2.heap.size ≠ w3.heap.size := (by omega)
  have n3_7 : w2.heap.size + 1 ≠ w3.heap.size := (by omega)
  have z3 : w.heap.size ≤ w3.heap.size := (by omega)
  have HB3 := Lib.hid (show Below w.heap.size w w3 by (repeat' (first | (with_reducible exact Below.refl _ _) | (with_reducible refine Below.setCell ?_ (by (first | omega | (simp; done) | (simp; omega))) _) | (with_reducible refine Below.alloc ?_ (by (first | omega | (simp; done) | (simp; omega))) _) | (with_reducible refine Below.drew ?_) | (with_reducible refine below_drewN ?_ _) | (with_reducible refine Below.trans ?_ (Below.mono HBo (by (first | omega | (simp; done) | (simp; omega))))) | (with_reducible refine Below.trans ?_ (Below.mono hb3 (by (first | omega | (simp; done) | (simp; omega))))))))
  clear HBo hb3 hs3 c2_0_0 c2_0_1 c2_0_2 l2_0 c2_1_0 c2_1_1 c2_1_2 l2_1 c2_2_0 l2_2 c2_3_0 f2_3_0 l2_3 c2_4_0 c2_4_1 c2_4_2 l2_4 c2_5_0 c2_5_1 c2_5_2 l2_5 n2_0 n2_1 n2_2 n2_3 n2_4 n2_5 z2 HB2
  go_wp2_with fail
  go_at_call 35
  refine (each_c H1.out _).mono ?_
  rintro e w4 ⟨BB, rfl, q0, q1, q2, q3, q4, q5, q6, q7, q8, hb4⟩
  have hb4s := hb4.size
  try simp at hb4s
  have hg4 : g < w4.heap.size := by omega
  have hrow4 : ∀ i (hi : i < xs.length), w4.cell? ⟨g, i * 3, none⟩ = some (.int .i64 (xs[i].1)) ∧ w4.cell? ⟨g, i * 3 + 1, none⟩ = some (.int .i64 (xs[i].2.1)) ∧ w4.cell? ⟨g, i * 3 + 2, none⟩ = some (.int .i64 (xs[i].2.2)) := by
    intro i hi
    obtain ⟨r0, r1, r2⟩ := hrow i hi
    refine ⟨?_, ?_, ?_⟩
    all_goals (repeat' (first | (with_reducible assumption) | (with_reducible refine HeldP.c_below hb4 ?_ ?_) | (with_reducible refine HeldP.f_below hb4 ?_ ?_) | (with_reducible refine HeldP.c_drew ?_) | (with_reducible refine HeldP.c_drewN ?_) | (with_reducible refine HeldP.c_same (by omega) ?_) | (with_reducible refine HeldP.c_other ?_ ?_) | (with_reducible refine HeldP.c_new (by first | omega | (simp; done) | (simp; omega)) ?_) | (with_reducible refine HeldP.c_alloc ?_ ?_) | (with_reducible refine HeldP.e_drew ?_) | (with_reducible refine HeldP.e_drewN ?_) | (with_reducible refine HeldP.e_set ?_) | (with_reducible refine HeldP.e_new (by first | omega | (simp; done) | (simp; omega)) ⟨_, rfl⟩) | (with_reducible refine HeldP.e_alloc ?_ ?_) | (with_reducible refine HeldP.f_drew ?_) | (with_reducible refine HeldP.f_drewN ?_) | (with_reducible refine HeldP.f_set ?_) | (with_reducible refine HeldP.f_new (by first | omega | (simp; done) | (simp; omega))) | (with_reducible refine HeldP.f_alloc ?_ ?_) | (with_reducible refine HeldP.s_drew ?_) | (with_reducible refine HeldP.s_drewN ?_) | (with_reducible refine HeldP.s_set ?_) | (with_reducible refine HeldP.s_new (by first | omega | (simp; done) | (simp; omega))) | (with_reducible refine HeldP.s_alloc ?_) | (with_reducible exact ⟨_, by assumption⟩) | omega | (intro e; simp at e; done) | (intro e; simp at e; omega) | (exact rfl) | (simp; done) | (simp; omega)))
  have HROW := Lib.hid hrow4
  clear hrow hrow4
  have HBo := HB3.out
  have hs4 := hb4.size
  try simp at hs4
  obtain ⟨c4_0_0, c4_0_1, c4_0_2, l4_0, c4_1_0, c4_1_1, c4_1_2, l4_1, c4_2_0, l4_2, c4_3_0, f4_3_0, l4_3, c4_4_0, c4_4_1, c4_4_2, l4_4, c4_5_0, c4_5_1, c4_5_2, l4_5, c4_6_0, c4_6_1, c4_6_2, l4_6, c4_7_0, c4_7_1, c4_7_2, l4_7, c4_8_0, l4_8⟩ : w4.cell? ⟨w.heap.size, 0, none⟩ = some (.int .i64 x) ∧ w4.cell? ⟨w.heap.size, 1, none⟩ = some (.int .i64 y) ∧ w4.cell? ⟨w.heap.size, 2, none⟩ = some (.int .i64 z) ∧ w.heap.size < w4.heap.size ∧ w4.cell? ⟨w.heap.size + 1, 0, none⟩ = some (.int .i64 u) ∧ w4.cell? ⟨w.heap.size + 1, 1, none⟩ = some (.int .i64 v) ∧ w4.cell? ⟨w.heap.size + 1, 2, none⟩ = some (.int .i64 t) ∧ w.heap.size + 1 < w4.heap.size ∧ w4.cell? ⟨w.heap.size + 2, 0, none⟩ = some (.int .i64 leave) ∧ w.heap.size + 2 < w4.heap.size ∧ w4.cell? ⟨w.heap.size + 3, 0, none⟩ = some (.bool false) ∧ w4.frozen? ⟨w.heap.size + 3, 0, none⟩ = false ∧ w.heap.size + 3 < w4.heap.size ∧ w4.cell? ⟨w1.heap.size, 0, none⟩ = some (.int .i64 l1) ∧ w4.cell? ⟨w1.heap.size, 1, none⟩ = some (.int .i64 l2) ∧ w4.cell? ⟨w1.heap.size, 2, none⟩ = some (.int .i64 l3) ∧ w1.heap.size < w4.heap.size ∧ w4.cell? ⟨w1.heap.size + 1, 0, none⟩ = some (.int .i64 h1) ∧ w4.cell? ⟨w1.heap.size + 1, 1, none⟩ = some (.int .i64 h2) ∧ w4.cell? ⟨w1.heap.size + 1, 2, none⟩ = some (.int .i64 h3) ∧ w1.heap.size + 1 < w4.heap.size ∧ w4.cell? ⟨w2.heap.size, 0, none⟩ = some (.int .i64 l1) ∧ w4.cell? ⟨w2.heap.size, 1, none⟩ = some (.int .i64 l2) ∧ w4.cell? ⟨w2.heap.size, 2, none⟩ = some (.int .i64 l3) ∧ w2.heap.size < w4.heap.size ∧ w4.cell? ⟨w2.heap.size + 1, 0, none⟩ = some (.int .i64 h1) ∧ w4.cell? ⟨w2.heap.size + 1, 1, none⟩ = some (.int .i64 h2) ∧ w4.cell? ⟨w2.heap.size + 1, 2, none⟩ = some (.int .i64 h3) ∧ w2.heap.size + 1 < w4.heap.size ∧ w4.cell? ⟨w3.heap.size, 0, none⟩ = some (.slice (some ⟨g, 0, none⟩) xs.length cap) ∧ w3.heap.size < w4.heap.size := by
    refine ⟨?_, ?_, ?_, ?_, ?_, ?_, ?_, ?_, ?_, ?_, ?_, ?_, ?_, ?_, ?_, ?_, ?_, ?_, ?_, ?_, ?_, ?_, ?_, ?_, ?_, ?_, ?_, ?_, ?_, ?_, ?_⟩
    all_goals (repeat' (first | (with_reducible assumption) | (with_reducible refine HeldP.c_below hb4 ?_ ?_) | (with_reducible refine HeldP.f_below hb4 ?_ ?_) | (with_reducible refine HeldP.c_drew ?_) | (with_reducible refine HeldP.c_drewN ?_) | (with_reducible refine HeldP.c_same (by omega) ?_) | (with_reducible refine HeldP.c_other ?_ ?_) | (with_reducible refine HeldP.c_new (by first | omega | (simp; done) | (simp; omega)) ?_) | (with_reducible refine HeldP.c_alloc ?_ ?_) | (with_reducible refine HeldP.e_drew ?_) | (with_reducible refine HeldP.e_drewN ?_) | (with_reducible refine HeldP.e_set ?_) | (with_reducible refine HeldP.e_new (by first | omega | (simp; done) | (simp; omega)) ⟨_, rfl⟩) | (with_reducible refine HeldP.e_alloc ?_ ?_) | (with_reducible refine HeldP.f_drew ?_) | (with_reducible refine HeldP.f_drewN ?_) | (with_reducible refine HeldP.f_set ?_) | (with_reducible refine HeldP.f_new (by first | omega | (simp; done) | (simp; omega))) | (with_reducible refine HeldP.f_alloc ?_ ?_) | (with_reducible refine HeldP.s_drew ?_) | (with_reducible refine HeldP.s_drewN ?_) | (with_reducible refine HeldP.s_set ?_) | (with_reducible refine HeldP.s_new (by first | omega | (simp; done) | (simp; omega))) | (with_reducible refine HeldP.s_alloc ?_) | (with_reducible exact ⟨_, by assumption⟩) | omega | (intro e; simp at e; done) | (intro e; simp at e; omega) | (exact rfl) | (simp; done) | (simp; omega)))
  have n4_0 : w.heap.size ≠ w4.heap.size := (by omega)
  have n4_1 : w.heap.size + 1 ≠ w4.heap.size := (by omega)
  have n4_2 : w.heap.size + 2 ≠ w4.heap.size := (by omega)
  have n4_3 : w.heap.size + 3 ≠ w4.heap.size := (by omega)
  have n4_4 : w1.heap.size ≠ w4.heap.size := (by omega)
  have n4_5 : w1.heap.size + 1 ≠ w4.heap.size := (by omega)
  have n4_6 : w2.heap.size ≠ w4.heap.size := (by omega)
  have n4_7 : w2.heap.size + 1 ≠ w4.heap.size := (by omega)
  have n4_8 : w3.heap.size ≠ w4.heap.size := (by omega)
  have z4 : w.heap.size ≤ w4.heap.size := (by omega)
  have HB4 := Lib.hid (show Below w.heap.size w w4 by (repeat' (first | (with_reducible exact Below.refl _ _) | (with_reducible refine Below.setCell ?_ (by (first | omega | (simp; done) | (simp; omega))) _) | (with_reducible refine Below.alloc ?_ (by (first | omega | (simp; done) | (simp; omega))) _) | (with_reducible refine Below.drew ?_) | (with_reducible refine below_drewN ?_ _) | (with_reducible refine Below.trans ?_ (Below.mono HBo (by (first | omega | (simp; done) | (simp; omega))))) | (with_reducible refine Below.trans ?_ (Below.mono hb4 (by (first | omega | (simp; done) | (simp; omega))))))))
  clear HBo hb4 hs4 c3_0_0 c3_0_1 c3_0_2 l3_0 c3_1_0 c3_1_1 c3_1_2 l3_1 c3_2_0 l3_2 c3_3_0 f3_3_0 l3_3 c3_4_0 c3_4_1 c3_4_2 l3_4 c3_5_0 c3_5_1 c3_5_2 l3_5 c3_6_0 c3_6_1 c3_6_2 l3_6 c3_7_0 c3_7_1 c3_7_2 l3_7 n3_0 n3_1 n3_2 n3_3 n3_4 n3_5 n3_6 n3_7 z3 HB3
  go_wp2_with fail
  refine HeldP.wp_named (fun w' => Below w4.heap.size w4 w' ∧ w'.heap.size = w4.heap.size + 1 ∧ w'.cell? ⟨w4.heap.size, 0, none⟩ = some (.int .i64 0) ∧ w'.frozen? ⟨w4.heap.size, 0, none⟩ = false) (by (refine ⟨by (repeat' (first | (with_reducible exact Below.refl _ _) | (with_reducible refine Below.setCell ?_ (by (first | omega | (simp; done) | (simp; omega))) _) | (with_reducible refine Below.alloc ?_ (by (first | omega | (simp; done) | (simp; omega))) _) | (with_reducible refine Below.drew ?_) | (with_reducible refine below_drewN ?_ _))), by simp, ?_, ?_⟩); all_goals (repeat' (first | (with_reducible assumption) | (with_reducible refine HeldP.c_drew ?_) | (with_reducible refine HeldP.c_drewN ?_) | (with_reducible refine HeldP.c_same (by omega) ?_) | (with_reducible refine HeldP.c_other ?_ ?_) | (with_reducible refine HeldP.c_new (by first | omega | (simp; done) | (simp; omega)) ?_) | (with_reducible refine HeldP.c_alloc ?_ ?_) | (with_reducible refine HeldP.e_drew ?_) | (with_reducible refine HeldP.e_drewN ?_) | (with_reducible refine HeldP.e_set ?_) | (with_reducible refine HeldP.e_new (by first | omega | (simp; done) | (simp; omega)) ⟨_, rfl⟩) | (with_reducible refine HeldP.e_alloc ?_ ?_) | (with_reducible refine HeldP.f_drew ?_) | (with_reducible refine HeldP.f_drewN ?_) | (with_reducible refine HeldP.f_set ?_) | (with_reducible refine HeldP.f_new (by first | omega | (simp; done) | (simp; omega))) | (with_reducible refine HeldP.f_alloc ?_ ?_) | (with_reducible refine HeldP.s_drew ?_) | (with_reducible refine HeldP.s_drewN ?_) | (with_reducible refine HeldP.s_set ?_) | (with_reducible refine HeldP.s_new (by first | omega | (simp; done) | (simp; omega))) | (with_reducible refine HeldP.s_alloc ?_) | (with_reducible exact ⟨_, by assumption⟩) | omega | (intro e; simp at e; done) | (intro e; simp at e; omega) | (exact rfl) | (simp; done) | (simp; omega)))) ?_
  rintro W0 ⟨hB0, hsz0, f0, g0⟩
  have hsz : w4.heap.size + 1 ≤ W0.heap.size := by omega
  clear hsz0
  have HSTOPS := Lib.hid (show ∀ W, Below w4.heap.size w4 W → SeqStopsK Fence.wide 5 Try.prog 47 #[.pointer (some ⟨BB + 2, 0, none⟩), .pointer (some ⟨BB, 0, none⟩), .pointer (some ⟨BB + 1, 0, none⟩)] encP (Below w4.heap.size) (fun ys => ys = xs) (fun pre => pre <+: xs) xs.length W by
    intro W hBW
    have oc : ∀ B i, B < w4.heap.size → W.cell? ⟨B, i, none⟩ = w4.cell? ⟨B, i, none⟩ := fun B i h => hBW.cell (p := ⟨B, i, none⟩) h
    have ST := each_stops Fence.wide 5 trivial rfl (by omega) (BB + 2) BB (BB + 1) w4.heap.size ⟨l1, l2, l3, h1, h2, h3, bn, 0⟩ HO.out W hBW.size q1 (by omega) (by omega) ((oc _ _ (by omega)).trans q8) ((oc _ _ (by omega)).trans q2) ((oc _ _ (by omega)).trans q3) ((oc _ _ (by omega)).trans q4) ((oc _ _ (by omega)).trans q5) ((oc _ _ (by omega)).trans q6) ((oc _ _ (by omega)).trans q7)
    rw [HXS.out] at ST
    exact ST)
  have HRD := Lib.hid (show w4.cell? ⟨w3.heap.size, 0, none⟩ = some (.slice (some ⟨g, 0, none⟩) xs.length cap) ∧ w3.heap.size < w4.heap.size ∧ w4.cell? ⟨w.heap.size + 1 + 1, 0, none⟩ = some (.int .i64 leave) ∧ w.heap.size + 1 + 1 < w4.heap.size ∧ w4.cell? ⟨w.heap.size + 1 + 1 + 1, 0, none⟩ = some (.bool false) ∧ w4.frozen? ⟨w.heap.size + 1 + 1 + 1, 0, none⟩ = false ∧ w.heap.size + 1 + 1 + 1 < w4.heap.size by
    (refine ⟨?_, ?_, ?_, ?_, ?_, ?_, ?_⟩; all_goals first | assumption | omega))
  clear q0 q2 q3 q4 q5 q6 q7 q8 c4_0_0 c4_0_1 c4_0_2 l4_0 c4_1_0 c4_1_1 c4_1_2 l4_1 c4_2_0 l4_2 c4_3_0 f4_3_0 l4_3 c4_4_0 c4_4_1 c4_4_2 l4_4 c4_5_0 c4_5_1 c4_5_2 l4_5 c4_6_0 c4_6_1 c4_6_2 l4_6 c4_7_0 c4_7_1 c4_7_2 l4_7 c4_8_0 l4_8 n4_0 n4_1 n4_2 n4_3 n4_4 n4_5 n4_6 n4_7 n4_8
  have HB1r := Lib.hid hB0
  refine wpIn_wide (n := 6) |>.1 ?_
  refine wpIn_rangeFunc_ownH rfl (by omega) (gf := 47) (lb := #[.pointer (some ⟨BB + 2, 0, none⟩), .pointer (some ⟨BB, 0, none⟩), .pointer (some ⟨BB + 1, 0, none⟩)]) rfl trivial (enters_of Try.func47 (by kernel_rfl) rfl) (HSTOPS.out W0 HB1r.out) belowK_t (belowK_b (by omega)) (Below.refl _ _) (fun _ => rfl)
    (fun pre W => ((W.cell? ⟨w4.heap.size, 0, none⟩ = some (.int .i64 ((pre.length : Nat) : Int)) ∧ W.frozen? ⟨w4.heap.size, 0, none⟩ = false) ∧ Below w4.heap.size w4 W) ∧ pre <+: xs)
    (fun c pre W => c = .ret ∧ ¬ pre <+: xs)
    (OwnFrom.and (OwnFrom.and (Own.from (fun s A B row hs hg hr => ⟨cell_kept hs.1 hg hr, (frozen_kept hs.1 hg hr).trans hs.2⟩) _) (ownFrom_below (Nat.le_refl _) (by omega))) (ownFrom_pure _ _))
    (fun c => ownFrom_pure _ _)
    ⟨⟨⟨by simpa using f0, g0⟩, hB0⟩, List.nil_prefix⟩
    (fun pe a' W => ∃ Bx, w4.heap.size + 1 ≤ Bx ∧ (W.cell? ⟨Bx, 0, none⟩ = some (.int .i64 pe.1) ∧ W.cell? ⟨Bx, 1, none⟩ = some (.int .i64 pe.2.1) ∧ W.cell? ⟨Bx, 2, none⟩ = some (.int .i64 pe.2.2)) ∧ a' = { tmps := #[.agg #[.int .i64 x, .int .i64 y, .int .i64 z], .agg #[.int .i64 u, .int .i64 v, .int .i64 t], .int .i64 leave, .pointer (some ⟨w.heap.size, 0, none⟩), .pointer (some ⟨w.heap.size + 1, 0, none⟩), .pointer (some ⟨w.heap.size + 1 + 1, 0, none⟩), .pointer (some ⟨w.heap.size + 1 + 1 + 1, 0, none⟩), .pointer (some ⟨w1.heap.size, 0, none⟩), .pointer (some ⟨w1.heap.size + 1, 0, none⟩), .int .i64 bn, .int .i64 0, .pointer (some ⟨w2.heap.size, 0, none⟩), .pointer (some ⟨w2.heap.size + 1, 0, none⟩), .int .i64 bn, .int .i64 0, .pointer (some ⟨w3.heap.size, 0, none⟩), .func (.func 47) #[] #[.pointer (some ⟨BB + 2, 0, none⟩), .pointer (some ⟨BB, 0, none⟩), .pointer (some ⟨BB + 1, 0, none⟩)], .pointer (some ⟨w4.heap.size, 0, none⟩), .pointer (some ⟨Bx, 0, none⟩), undef, .tuple #[.agg #[.int .i64 l1, .int .i64 l2, .int .i64 l3], .agg #[.int .i64 h1, .int .i64 h2, .int .i64 h3], .int .i64 bn, .int .i64 0], .agg #[.int .i64 x, .int .i64 y, .int .i64 z], .agg #[.int .i64 u, .int .i64 v, .int .i64 t], .tuple #[.agg #[.int .i64 l1, .int .i64 l2, .int .i64 l3], .agg #[.int .i64 h1, .int .i64 h2, .int .i64 h3], .int .i64 bn, .int .i64 0], .agg #[.int .i64 l1, .int .i64 l2, .int .i64 l3], .agg #[.int .i64 h1, .int .i64 h2, .int .i64 h3], .int .i64 bn, .int .i64 0, .tuple #[.agg #[.int .i64 l1, .int .i64 l2, .int .i64 l3], .agg #[.int .i64 h1, .int .i64 h2, .int .i64 h3], .int .i64 bn, .int .i64 0], .agg #[.int .i64 x, .int .i64 y, .int .i64 z], .agg #[.int .i64 u, .int .i64 v, .int .i64 t], .tuple #[.agg #[.int .i64 l1, .int .i64 l2, .int .i64 l3], .agg #[.int .i64 h1, .int .i64 h2, .int .i64 h3], .int .i64 bn, .int .i64 0], .agg #[.int .i64 l1, .int .i64 l2, .int .i64 l3], .agg #[.int .i64 h1, .int .i64 h2, .int .i64 h3], .int .i64 bn, .int .i64 0, .agg #[.int .i64 l1, .int .i64 l2, .int .i64 l3], .agg #[.int .i64 l1, .int .i64 l2, .int .i64 l3], .bool false, .bool false, .agg #[.int .i64 h1, .int .i64 h2, .int .i64 h3], .agg #[.int .i64 h1, .int .i64 h2, .int .i64 h3], .bool false, .bool false, .bool false, .int .i64 bn, .int .i64 bn, .bool false, .bool false, .bool false, .int .i64 0, .int .i64 0, .bool false, .bool false, .agg #[.int .i64 x, .int .i64 y, .int .i64 z], .agg #[.int .i64 u, .int .i64 v, .int .i64 t], .slice (some ⟨g, 0, none⟩) xs.length cap, .agg #[.int .i64 x, .int .i64 y, .int .i64 z], .agg #[.int .i64 u, .int .i64 v, .int .i64 t], .func (.func 47) #[] #[.pointer (some ⟨BB + 2, 0, none⟩), .pointer (some ⟨BB, 0, none⟩), .pointer (some ⟨BB + 1, 0, none⟩)], .func (.func 47) #[] #[.pointer (some ⟨BB + 2, 0, none⟩), .pointer (some ⟨BB, 0, none⟩), .pointer (some ⟨BB + 1, 0, none⟩)], .bool false, .func (.func 47) #[] #[.pointer (some ⟨BB + 2, 0, none⟩), .pointer (some ⟨BB, 0, none⟩), .pointer (some ⟨BB + 1, 0, none⟩)], .agg #[.int .i64 pe.1, .int .i64 pe.2.1, .int .i64 pe.2.2], undef, undef, undef, undef, undef, undef, undef, undef, undef, undef, undef, undef, undef, undef, undef, undef, undef, undef, undef, undef, undef, undef, undef, undef, undef, undef, undef, undef, undef, undef, undef, undef, undef, undef, undef, undef, undef, undef, undef, undef, undef, undef, undef, undef, undef, undef, undef, undef, undef, undef, undef, undef, undef, undef, undef, undef, undef, undef, undef, undef], defers := [] })
    (fun pe a' _ X Y row hs hg hr => by obtain ⟨Bx, h1, ⟨h2, h3, h4⟩, h5⟩ := hs; exact ⟨Bx, h1, ⟨cell_kept h2 hg (fun r e => (hr r e).2), cell_kept h3 hg (fun r e => (hr r e).2), cell_kept h4 hg (fun r e => (hr r e).2)⟩, h5⟩)
    ?assign1r ?body1r ?done1r ?stop1r
  case assign1r =>
    rintro l pre ⟨x1, x2, x3⟩ W K ⟨⟨⟨c1, d1⟩, hB⟩, hpure⟩ hK
    have hle := hB.size
    have hlt := World.block_lt_of_cell? W _ c1
    simp only at hlt
    dsimp only [encP]
    gi_wp2
    refine hK _ _ ?_ ?_ ?_ ?_
    · exact (KeepsOthers.alloc _ _).from _
    · exact (Below.refl _ W).alloc hle _
    · exact ⟨⟨(by (refine ⟨?_, ?_⟩; all_goals (repeat' (first | (with_reducible assumption) | (with_reducible refine HeldP.c_drew ?_) | (with_reducible refine HeldP.c_drewN ?_) | (with_reducible refine HeldP.c_same (by omega) ?_) | (with_reducible refine HeldP.c_other ?_ ?_) | (with_reducible refine HeldP.c_new (by first | omega | (simp; done) | (simp; omega)) ?_) | (with_reducible refine HeldP.c_alloc ?_ ?_) | (with_reducible refine HeldP.e_drew ?_) | (with_reducible refine HeldP.e_drewN ?_) | (with_reducible refine HeldP.e_set ?_) | (with_reducible refine HeldP.e_new (by first | omega | (simp; done) | (simp; omega)) ⟨_, rfl⟩) | (with_reducible refine HeldP.e_alloc ?_ ?_) | (with_reducible refine HeldP.f_drew ?_) | (with_reducible refine HeldP.f_drewN ?_) | (with_reducible refine HeldP.f_set ?_) | (with_reducible refine HeldP.f_new (by first | omega | (simp; done) | (simp; omega))) | (with_reducible refine HeldP.f_alloc ?_ ?_) | (with_reducible refine HeldP.s_drew ?_) | (with_reducible refine HeldP.s_drewN ?_) | (with_reducible refine HeldP.s_set ?_) | (with_reducible refine HeldP.s_new (by first | omega | (simp; done) | (simp; omega))) | (with_reducible refine HeldP.s_alloc ?_) | (with_reducible exact ⟨_, by assumption⟩) | omega | (intro e; simp at e; done) | (intro e; simp at e; omega) | (exact rfl) | (simp; done) | (simp; omega))))), hB.alloc hle _⟩, hpure⟩
    · (refine ⟨W.heap.size, by omega, ⟨?_, ?_, ?_⟩, rfl⟩; all_goals (repeat' (first | (with_reducible assumption) | (with_reducible refine HeldP.c_drew ?_) | (with_reducible refine HeldP.c_drewN ?_) | (with_reducible refine HeldP.c_same (by omega) ?_) | (with_reducible refine HeldP.c_other ?_ ?_) | (with_reducible refine HeldP.c_new (by first | omega | (simp; done) | (simp; omega)) ?_) | (with_reducible refine HeldP.c_alloc ?_ ?_) | (with_reducible refine HeldP.e_drew ?_) | (with_reducible refine HeldP.e_drewN ?_) | (with_reducible refine HeldP.e_set ?_) | (with_reducible refine HeldP.e_new (by first | omega | (simp; done) | (simp; omega)) ⟨_, rfl⟩) | (with_reducible refine HeldP.e_alloc ?_ ?_) | (with_reducible refine HeldP.f_drew ?_) | (with_reducible refine HeldP.f_drewN ?_) | (with_reducible refine HeldP.f_set ?_) | (with_reducible refine HeldP.f_new (by first | omega | (simp; done) | (simp; omega))) | (with_reducible refine HeldP.f_alloc ?_ ?_) | (with_reducible refine HeldP.s_drew ?_) | (with_reducible refine HeldP.s_drewN ?_) | (with_reducible refine HeldP.s_set ?_) | (with_reducible refine HeldP.s_new (by first | omega | (simp; done) | (simp; omega))) | (with_reducible refine HeldP.s_alloc ?_) | (with_reducible exact ⟨_, by assumption⟩) | omega | (intro e; simp at e; done) | (intro e; simp at e; omega) | (exact rfl) | (simp; done) | (simp; omega))))
  case body1r =>
    rintro l pre ⟨x1, x2, x3⟩ a' W hl hr ⟨⟨⟨c1, d1⟩, hB⟩, hpre⟩ ⟨Bx, hBx, ⟨y0, y1, y2⟩, rfl⟩ hlt
    simp only at y0 y1 y2
    have hle := hB.size
    have hk0 := World.block_lt_of_cell? W _ c1
    simp only at hk0
    have rs : W.cell? ⟨w3.heap.size, 0, none⟩ = some (.slice (some ⟨g, 0, none⟩) xs.length cap) := (hB.cell (p := ⟨w3.heap.size, 0, none⟩) HRD.out.2.1).trans HRD.out.1
    have rl : W.cell? ⟨w.heap.size + 1 + 1, 0, none⟩ = some (.int .i64 leave) := (hB.cell (p := ⟨w.heap.size + 1 + 1, 0, none⟩) HRD.out.2.2.2.1).trans HRD.out.2.2.1
    have rr : W.cell? ⟨w.heap.size + 1 + 1 + 1, 0, none⟩ = some (.bool false) := (hB.cell (p := ⟨w.heap.size + 1 + 1 + 1, 0, none⟩) HRD.out.2.2.2.2.2.2).trans HRD.out.2.2.2.2.1
    have rf : W.frozen? ⟨w.heap.size + 1 + 1 + 1, 0, none⟩ = false := (hB.frozen (p := ⟨w.heap.size + 1 + 1 + 1, 0, none⟩) HRD.out.2.2.2.2.2.2).trans HRD.out.2.2.2.2.2.1
    have z5 := HRD.out.2.2.2.1
    have z6 := HRD.out.2.2.2.2.2.2
    have z3 := HRD.out.2.1
    obtain ⟨a1, a2, a3, hxa⟩ : ∃ a1 a2 a3, xs[pre.length] = (a1, a2, a3) := ⟨_, _, _, rfl⟩
    obtain ⟨r0, r1, r2⟩ := HROW.out pre.length hlt
    simp only [hxa] at r0 r1 r2
    replace r0 : W.cell? ⟨g, pre.length * 3, none⟩ = some (.int .i64 a1) := (hB.cell (p := ⟨g, pre.length * 3, none⟩) hg4).trans r0
    replace r1 : W.cell? ⟨g, pre.length * 3 + 1, none⟩ = some (.int .i64 a2) := (hB.cell (p := ⟨g, pre.length * 3 + 1, none⟩) hg4).trans r1
    replace r2 : W.cell? ⟨g, pre.length * 3 + 2, none⟩ = some (.int .i64 a3) := (hB.cell (p := ⟨g, pre.length * 3 + 2, none⟩) hg4).trans r2
    have HXA := Lib.hid hxa
    have HPRE := Lib.hid hpre
    have HB := Lib.hid hB
    clear hxa hpre hB
    have hgq : decide (xs.length ≤ pre.length) = false := decide_eq_false (by omega)
    have nb : Bx ≠ w4.heap.size := by omega
    have hN' : xs.length ≤ 512 := hN
    by_cases hx : x1 = a1 ∧ x2 = a2 ∧ x3 = a3
    · obtain ⟨rfl, rfl, rfl⟩ := hx
      have v2 := Lib.hid (show (((pre ++ [(x1, x2, x3)]).length : Nat) : Int) = ((pre.length : Nat) : Int) + 1 by simp)
      have v3 := Lib.hid (PrefixP.snoc HPRE.out hlt HXA.out)
      gi_wp2
      refine QuietR.region (by kernel_rfl) (by kernel_rfl) (by kernel_rfl) ?_
      repeat (gi_big_quiet_step (fail))
      refine wpQuietIn_nil ?_
      intro _ hw'
      obtain ⟨nq, hw''⟩ := hw'
      subst hw''
      have kb : KeepsOthers W (W.drewN nq) := PrefixP.keeps_drewN W nq
      have bb : Below w4.heap.size W (W.drewN nq) := (by (repeat' (first | (with_reducible exact Below.refl _ _) | (with_reducible refine Below.setCell ?_ (by (first | omega | (simp; done) | (simp; omega))) _) | (with_reducible refine Below.alloc ?_ (by (first | omega | (simp; done) | (simp; omega))) _) | (with_reducible refine Below.drew ?_) | (with_reducible refine below_drewN ?_ _))))
      have e1 : (W.drewN nq).cell? ⟨w4.heap.size, 0, none⟩ = some (.int .i64 ((pre.length : Nat) : Int)) := c1
      have e2 : (W.drewN nq).frozen? ⟨w4.heap.size, 0, none⟩ = false := d1
      have e3 : (W.drewN nq).cell? ⟨w.heap.size + 1 + 1, 0, none⟩ = some (.int .i64 leave) := rl
      have e4 : (W.drewN nq).cell? ⟨w.heap.size + 1 + 1 + 1, 0, none⟩ = some (.bool false) := rr
      have e5 : (W.drewN nq).frozen? ⟨w.heap.size + 1 + 1 + 1, 0, none⟩ = false := rf
      have HB2 := Lib.hid (show Below w4.heap.size w4 (W.drewN nq) from HB.out.trans bb)
      have KB := Lib.hid kb
      have BB2 := Lib.hid bb
      clear kb bb
      generalize W.drewN nq = W2 at *
      clear c1 d1 rs rl rr rf y0 y1 y2 r0 r1 r2
      have t1 : (((pre.length : Nat) : Int) + 1 == leave) = false := by (have := HL.out; (simp; omega))
      gi_wp2
      refine ⟨(KB.out.trans (KeepsOthers.setCell _ _ _)).from _, ?_, ⟨⟨⟨?_, ?_⟩, ?_⟩, ?_⟩⟩
      · (repeat' (first | (with_reducible exact Below.refl _ _) | (with_reducible refine Below.setCell ?_ (by (first | omega | (simp; done) | (simp; omega))) _) | (with_reducible refine Below.alloc ?_ (by (first | omega | (simp; done) | (simp; omega))) _) | (with_reducible refine Below.drew ?_) | (with_reducible refine below_drewN ?_ _) | (with_reducible refine Below.trans ?_ (Below.mono BB2.out (by (first | omega | (simp; done) | (simp; omega)))))))
      · (rw [v2.out]; (repeat' (first | (with_reducible assumption) | (with_reducible refine HeldP.c_drew ?_) | (with_reducible refine HeldP.c_drewN ?_) | (with_reducible refine HeldP.c_same (by omega) ?_) | (with_reducible refine HeldP.c_other ?_ ?_) | (with_reducible refine HeldP.c_new (by first | omega | (simp; done) | (simp; omega)) ?_) | (with_reducible refine HeldP.c_alloc ?_ ?_) | (with_reducible refine HeldP.e_drew ?_) | (with_reducible refine HeldP.e_drewN ?_) | (with_reducible refine HeldP.e_set ?_) | (with_reducible refine HeldP.e_new (by first | omega | (simp; done) | (simp; omega)) ⟨_, rfl⟩) | (with_reducible refine HeldP.e_alloc ?_ ?_) | (with_reducible refine HeldP.f_drew ?_) | (with_reducible refine HeldP.f_drewN ?_) | (with_reducible refine HeldP.f_set ?_) | (with_reducible refine HeldP.f_new (by first | omega | (simp; done) | (simp; omega))) | (with_reducible refine HeldP.f_alloc ?_ ?_) | (with_reducible refine HeldP.s_drew ?_) | (with_reducible refine HeldP.s_drewN ?_) | (with_reducible refine HeldP.s_set ?_) | (with_reducible refine HeldP.s_new (by first | omega | (simp; done) | (simp; omega))) | (with_reducible refine HeldP.s_alloc ?_) | (with_reducible exact ⟨_, by assumption⟩) | omega | (intro e; simp at e; done) | (intro e; simp at e; omega) | (exact rfl) | (simp; done) | (simp; omega))))
      · (repeat' (first | (with_reducible assumption) | (with_reducible refine HeldP.c_drew ?_) | (with_reducible refine HeldP.c_drewN ?_) | (with_reducible refine HeldP.c_same (by omega) ?_) | (with_reducible refine HeldP.c_other ?_ ?_) | (with_reducible refine HeldP.c_new (by first | omega | (simp; done) | (simp; omega)) ?_) | (with_reducible refine HeldP.c_alloc ?_ ?_) | (with_reducible refine HeldP.e_drew ?_) | (with_reducible refine HeldP.e_drewN ?_) | (with_reducible refine HeldP.e_set ?_) | (with_reducible refine HeldP.e_new (by first | omega | (simp; done) | (simp; omega)) ⟨_, rfl⟩) | (with_reducible refine HeldP.e_alloc ?_ ?_) | (with_reducible refine HeldP.f_drew ?_) | (with_reducible refine HeldP.f_drewN ?_) | (with_reducible refine HeldP.f_set ?_) | (with_reducible refine HeldP.f_new (by first | omega | (simp; done) | (simp; omega))) | (with_reducible refine HeldP.f_alloc ?_ ?_) | (with_reducible refine HeldP.s_drew ?_) | (with_reducible refine HeldP.s_drewN ?_) | (with_reducible refine HeldP.s_set ?_) | (with_reducible refine HeldP.s_new (by first | omega | (simp; done) | (simp; omega))) | (with_reducible refine HeldP.s_alloc ?_) | (with_reducible exact ⟨_, by assumption⟩) | omega | (intro e; simp at e; done) | (intro e; simp at e; omega) | (exact rfl) | (simp; done) | (simp; omega)))
      · (repeat' (first | (with_reducible exact Below.refl _ _) | (with_reducible refine Below.setCell ?_ (by (first | omega | (simp; done) | (simp; omega))) _) | (with_reducible refine Below.alloc ?_ (by (first | omega | (simp; done) | (simp; omega))) _) | (with_reducible refine Below.drew ?_) | (with_reducible refine below_drewN ?_ _) | (with_reducible refine Below.trans ?_ (Below.mono HB2.out (by (first | omega | (simp; done) | (simp; omega)))))))
      · exact v3.out
    · rcases (show x1 ≠ a1 ∨ (x1 = a1 ∧ x2 ≠ a2) ∨ (x1 = a1 ∧ x2 = a2 ∧ x3 ≠ a3) by (by_cases e1 : x1 = a1; by_cases e2 : x2 = a2; exact .inr (.inr ⟨e1, e2, fun e3 => hx ⟨e1, e2, e3⟩⟩); exact .inr (.inl ⟨e1, e2⟩); exact .inl e1)) with hne | ⟨rfl, hne⟩ | ⟨rfl, rfl, hne⟩
      · clear hx
        have n1 : (x1 == a1) = false := by simpa using hne
        have HX := Lib.hid hne
        clear hne
        gi_wp2
        refine QuietR.region (by kernel_rfl) (by kernel_rfl) (by kernel_rfl) ?_
        repeat (gi_big_quiet_step (fail))
        refine wpQuietIn_nil ?_
        intro _ hw'
        obtain ⟨nq, hw''⟩ := hw'
        subst hw''
        have kb : KeepsOthers W (W.drewN nq) := PrefixP.keeps_drewN W nq
        have bb : Below w4.heap.size W (W.drewN nq) := (by (repeat' (first | (with_reducible exact Below.refl _ _) | (with_reducible refine Below.setCell ?_ (by (first | omega | (simp; done) | (simp; omega))) _) | (with_reducible refine Below.alloc ?_ (by (first | omega | (simp; done) | (simp; omega))) _) | (with_reducible refine Below.drew ?_) | (with_reducible refine below_drewN ?_ _))))
        have e1 : (W.drewN nq).cell? ⟨w4.heap.size, 0, none⟩ = some (.int .i64 ((pre.length : Nat) : Int)) := c1
        have e2 : (W.drewN nq).frozen? ⟨w4.heap.size, 0, none⟩ = false := d1
        have e3 : (W.drewN nq).cell? ⟨w.heap.size + 1 + 1, 0, none⟩ = some (.int .i64 leave) := rl
        have e4 : (W.drewN nq).cell? ⟨w.heap.size + 1 + 1 + 1, 0, none⟩ = some (.bool false) := rr
        have e5 : (W.drewN nq).frozen? ⟨w.heap.size + 1 + 1 + 1, 0, none⟩ = false := rf
        have HB2 := Lib.hid (show Below w4.heap.size w4 (W.drewN nq) from HB.out.trans bb)
        have KB := Lib.hid kb
        have BB2 := Lib.hid bb
        clear kb bb
        generalize W.drewN nq = W2 at *
        clear c1 d1 rs rl rr rf y0 y1 y2 r0 r1 r2
        gi_wp2
        refine ⟨(KB.out.trans (KeepsOthers.setCell _ _ _)).from _, rfl, ?_⟩
        exact fun h => HX.out (by have := PrefixP.snoc_at h hlt; rw [HXA.out] at this; simp only [Prod.mk.injEq] at this; exact this.1.symm)
      · clear hx
        have n1 : (x2 == a2) = false := by simpa using hne
        have HX := Lib.hid hne
        clear hne
        gi_wp2
        refine QuietR.region (by kernel_rfl) (by kernel_rfl) (by kernel_rfl) ?_
        repeat (gi_big_quiet_step (fail))
        refine wpQuietIn_nil ?_
        intro _ hw'
        obtain ⟨nq, hw''⟩ := hw'
        subst hw''
        have kb : KeepsOthers W (W.drewN nq) := PrefixP.keeps_drewN W nq
        have bb : Below w4.heap.size W (W.drewN nq) := (by (repeat' (first | (with_reducible exact Below.refl _ _) | (with_reducible refine Below.setCell ?_ (by (first | omega | (simp; done) | (simp; omega))) _) | (with_reducible refine Below.alloc ?_ (by (first | omega | (simp; done) | (simp; omega))) _) | (with_reducible refine Below.drew ?_) | (with_reducible refine below_drewN ?_ _))))
        have e1 : (W.drewN nq).cell? ⟨w4.heap.size, 0, none⟩ = some (.int .i64 ((pre.length : Nat) : Int)) := c1
        have e2 : (W.drewN nq).frozen? ⟨w4.heap.size, 0, none⟩ = false := d1
        have e3 : (W.drewN nq).cell? ⟨w.heap.size + 1 + 1, 0, none⟩ = some (.int .i64 leave) := rl
        have e4 : (W.drewN nq).cell? ⟨w.heap.size + 1 + 1 + 1, 0, none⟩ = some (.bool false) := rr
        have e5 : (W.drewN nq).frozen? ⟨w.heap.size + 1 + 1 + 1, 0, none⟩ = false := rf
        have HB2 := Lib.hid (show Below w4.heap.size w4 (W.drewN nq) from HB.out.trans bb)
        have KB := Lib.hid kb
        have BB2 := Lib.hid bb
        clear kb bb
        generalize W.drewN nq = W2 at *
        clear c1 d1 rs rl rr rf y0 y1 y2 r0 r1 r2
        gi_wp2
        refine ⟨(KB.out.trans (KeepsOthers.setCell _ _ _)).from _, rfl, ?_⟩
        exact fun h => HX.out (by have := PrefixP.snoc_at h hlt; rw [HXA.out] at this; simp only [Prod.mk.injEq] at this; exact this.2.1.symm)
      · clear hx
        have n1 : (x3 == a3) = false := by simpa using hne
        have HX := Lib.hid hne
        clear hne
        gi_wp2
        refine QuietR.region (by kernel_rfl) (by kernel_rfl) (by kernel_rfl) ?_
        repeat (gi_big_quiet_step (fail))
        refine wpQuietIn_nil ?_
        intro _ hw'
        obtain ⟨nq, hw''⟩ := hw'
        subst hw''
        have kb : KeepsOthers W (W.drewN nq) := PrefixP.keeps_drewN W nq
        have bb : Below w4.heap.size W (W.drewN nq) := (by (repeat' (first | (with_reducible exact Below.refl _ _) | (with_reducible refine Below.setCell ?_ (by (first | omega | (simp; done) | (simp; omega))) _) | (with_reducible refine Below.alloc ?_ (by (first | omega | (simp; done) | (simp; omega))) _) | (with_reducible refine Below.drew ?_) | (with_reducible refine below_drewN ?_ _))))
        have e1 : (W.drewN nq).cell? ⟨w4.heap.size, 0, none⟩ = some (.int .i64 ((pre.length : Nat) : Int)) := c1
        have e2 : (W.drewN nq).frozen? ⟨w4.heap.size, 0, none⟩ = false := d1
        have e3 : (W.drewN nq).cell? ⟨w.heap.size + 1 + 1, 0, none⟩ = some (.int .i64 leave) := rl
        have e4 : (W.drewN nq).cell? ⟨w.heap.size + 1 + 1 + 1, 0, none⟩ = some (.bool false) := rr
        have e5 : (W.drewN nq).frozen? ⟨w.heap.size + 1 + 1 + 1, 0, none⟩ = false := rf
        have HB2 := Lib.hid (show Below w4.heap.size w4 (W.drewN nq) from HB.out.trans bb)
        have KB := Lib.hid kb
        have BB2 := Lib.hid bb
        clear kb bb
        generalize W.drewN nq = W2 at *
        clear c1 d1 rs rl rr rf y0 y1 y2 r0 r1 r2
        gi_wp2
        refine ⟨(KB.out.trans (KeepsOthers.setCell _ _ _)).from _, rfl, ?_⟩
        exact fun h => HX.out (by have := PrefixP.snoc_at h hlt; rw [HXA.out] at this; simp only [Prod.mk.injEq] at this; exact this.2.2.symm)
  case stop1r =>
    rintro D c pre W hD hsp ⟨_, hx⟩ hK
    exact absurd hsp hx
  case done1r =>
    rintro D ys W hD hys ⟨⟨⟨c1, d1⟩, hB⟩, _⟩ hK
    rw [hys] at c1
    clear hys
    have rs : W.cell? ⟨w3.heap.size, 0, none⟩ = some (.slice (some ⟨g, 0, none⟩) xs.length cap) := (hB.cell (p := ⟨w3.heap.size, 0, none⟩) HRD.out.2.1).trans HRD.out.1
    have rl : W.cell? ⟨w.heap.size + 1 + 1, 0, none⟩ = some (.int .i64 leave) := (hB.cell (p := ⟨w.heap.size + 1 + 1, 0, none⟩) HRD.out.2.2.2.1).trans HRD.out.2.2.1
    have rr : W.cell? ⟨w.heap.size + 1 + 1 + 1, 0, none⟩ = some (.bool false) := (hB.cell (p := ⟨w.heap.size + 1 + 1 + 1, 0, none⟩) HRD.out.2.2.2.2.2.2).trans HRD.out.2.2.2.2.1
    have rf : W.frozen? ⟨w.heap.size + 1 + 1 + 1, 0, none⟩ = false := (hB.frozen (p := ⟨w.heap.size + 1 + 1 + 1, 0, none⟩) HRD.out.2.2.2.2.2.2).trans HRD.out.2.2.2.2.2.1
    have z5 := HRD.out.2.2.2.1
    have z6 := HRD.out.2.2.2.2.2.2
    have z3 := HRD.out.2.1
    have hle := hB.size
    have hk0 := World.block_lt_of_cell? W _ c1
    simp only at hk0
    have HK := Lib.hid hK
    have HB := Lib.hid hB
    have HDD := Lib.hid (show W0.heap.size ≤ D from hD)
    have HD4 := Lib.hid (show w4.heap.size < D by omega)
    have HDW := Lib.hid (Array.getElem?_eq_some_iff.1 hK).1
    clear hK hB hB0 f0 g0 hD
    have hN' : xs.length ≤ 512 := hN
    have t1 : decide (leave < 1) = true := decide_eq_true HL.out
    have t2 : decide (1 ≤ leave) = false := decide_eq_false (by have := HL.out; omega)
    go_wp2_with fail
    refine HeldP.wp_named (fun w' => (Below w4.heap.size w4 w' ∧ w'.heap[D]? = some (.deferred (some [])) ∧ D < w'.heap.size) ∧ (w'.cell? ⟨w4.heap.size, 0, none⟩ = some (.int .i64 0) ∧ w'.frozen? ⟨w4.heap.size, 0, none⟩ = false)) (by (refine ⟨⟨?_, ?_, ?_⟩, ?_, ?_⟩; exact (by (repeat' (first | (with_reducible exact Below.refl _ _) | (with_reducible refine Below.setCell ?_ (by (first | omega | (simp; done) | (simp; omega))) _) | (with_reducible refine Below.alloc ?_ (by (first | omega | (simp; done) | (simp; omega))) _) | (with_reducible refine Below.drew ?_) | (with_reducible refine below_drewN ?_ _) | (with_reducible refine Below.trans ?_ (Below.mono HB.out (by (first | omega | (simp; done) | (simp; omega)))))))); exact (KeepsOthers.setCell _ _ _).same D _ HK.out rfl; exact Nat.lt_of_lt_of_le HDW.out (KeepsOthers.setCell _ _ _).size; all_goals (repeat' (first | (with_reducible assumption) | (with_reducible refine HeldP.c_drew ?_) | (with_reducible refine HeldP.c_drewN ?_) | (with_reducible refine HeldP.c_same (by omega) ?_) | (with_reducible refine HeldP.c_other ?_ ?_) | (with_reducible refine HeldP.c_new (by first | omega | (simp; done) | (simp; omega)) ?_) | (with_reducible refine HeldP.c_alloc ?_ ?_) | (with_reducible refine HeldP.e_drew ?_) | (with_reducible refine HeldP.e_drewN ?_) | (with_reducible refine HeldP.e_set ?_) | (with_reducible refine HeldP.e_new (by first | omega | (simp; done) | (simp; omega)) ⟨_, rfl⟩) | (with_reducible refine HeldP.e_alloc ?_ ?_) | (with_reducible refine HeldP.f_drew ?_) | (with_reducible refine HeldP.f_drewN ?_) | (with_reducible refine HeldP.f_set ?_) | (with_reducible refine HeldP.f_new (by first | omega | (simp; done) | (simp; omega))) | (with_reducible refine HeldP.f_alloc ?_ ?_) | (with_reducible refine HeldP.s_drew ?_) | (with_reducible refine HeldP.s_drewN ?_) | (with_reducible refine HeldP.s_set ?_) | (with_reducible refine HeldP.s_new (by first | omega | (simp; done) | (simp; omega))) | (with_reducible refine HeldP.s_alloc ?_) | (with_reducible exact ⟨_, by assumption⟩) | omega | (intro e; simp at e; done) | (intro e; simp at e; omega) | (exact rfl) | (simp; done) | (simp; omega))))) ?_
    rintro W5 ⟨⟨hB5, hK5, hD5⟩, f5, g5⟩
    have HB2r := Lib.hid hB5
    have hW5 := hB5.size
    have hk5 := World.block_lt_of_cell? W5 _ f5
    simp only at hk5
    clear c1 d1 rs rl rr rf HB HK HDW hle hk0
    refine wpIn_wide (n := 6) |>.1 ?_
    refine wpIn_rangeFunc_ownH rfl (by omega) (gf := 47) (lb := #[.pointer (some ⟨BB + 2, 0, none⟩), .pointer (some ⟨BB, 0, none⟩), .pointer (some ⟨BB + 1, 0, none⟩)]) rfl trivial (enters_of Try.func47 (by kernel_rfl) rfl) (HSTOPS.out W5 HB2r.out) belowK_t (belowK_b (by omega)) (Below.refl _ _) (fun _ => rfl)
      (fun pre W => (((W.cell? ⟨w4.heap.size, 0, none⟩ = some (.int .i64 ((pre.length : Nat) : Int)) ∧ W.frozen? ⟨w4.heap.size, 0, none⟩ = false) ∧ Below w4.heap.size w4 W) ∧ W.heap[D]? = some (.deferred (some []))) ∧ pre <+: xs)
      (fun c pre W => c = .ret ∧ ¬ pre <+: xs)
      (OwnFrom.and (OwnFrom.and (OwnFrom.and (Own.from (fun s A B row hs hg hr => ⟨cell_kept hs.1 hg hr, (frozen_kept hs.1 hg hr).trans hs.2⟩) _) (ownFrom_below (Nat.le_refl _) (by omega))) (PrefixP.ownFrom_block hD5)) (ownFrom_pure _ _))
      (fun c => ownFrom_pure _ _)
      ⟨⟨⟨⟨by simpa using f5, g5⟩, hB5⟩, hK5⟩, List.nil_prefix⟩
      (fun pe a' W => ∃ Bx, w4.heap.size + 1 ≤ Bx ∧ (W.cell? ⟨Bx, 0, none⟩ = some (.int .i64 pe.1) ∧ W.cell? ⟨Bx, 1, none⟩ = some (.int .i64 pe.2.1) ∧ W.cell? ⟨Bx, 2, none⟩ = some (.int .i64 pe.2.2)) ∧ a' = { tmps := #[.agg #[.int .i64 x, .int .i64 y, .int .i64 z], .agg #[.int .i64 u, .int .i64 v, .int .i64 t], .int .i64 leave, .pointer (some ⟨w.heap.size, 0, none⟩), .pointer (some ⟨w.heap.size + 1, 0, none⟩), .pointer (some ⟨w.heap.size + 1 + 1, 0, none⟩), .pointer (some ⟨w.heap.size + 1 + 1 + 1, 0, none⟩), .pointer (some ⟨w1.heap.size, 0, none⟩), .pointer (some ⟨w1.heap.size + 1, 0, none⟩), .int .i64 bn, .int .i64 0, .pointer (some ⟨w2.heap.size, 0, none⟩), .pointer (some ⟨w2.heap.size + 1, 0, none⟩), .int .i64 bn, .int .i64 0, .pointer (some ⟨w3.heap.size, 0, none⟩), .func (.func 47) #[] #[.pointer (some ⟨BB + 2, 0, none⟩), .pointer (some ⟨BB, 0, none⟩), .pointer (some ⟨BB + 1, 0, none⟩)], .pointer (some ⟨w4.heap.size, 0, none⟩), undef, .pointer (some ⟨Bx, 0, none⟩), .tuple #[.agg #[.int .i64 l1, .int .i64 l2, .int .i64 l3], .agg #[.int .i64 h1, .int .i64 h2, .int .i64 h3], .int .i64 bn, .int .i64 0], .agg #[.int .i64 x, .int .i64 y, .int .i64 z], .agg #[.int .i64 u, .int .i64 v, .int .i64 t], .tuple #[.agg #[.int .i64 l1, .int .i64 l2, .int .i64 l3], .agg #[.int .i64 h1, .int .i64 h2, .int .i64 h3], .int .i64 bn, .int .i64 0], .agg #[.int .i64 l1, .int .i64 l2, .int .i64 l3], .agg #[.int .i64 h1, .int .i64 h2, .int .i64 h3], .int .i64 bn, .int .i64 0, .tuple #[.agg #[.int .i64 l1, .int .i64 l2, .int .i64 l3], .agg #[.int .i64 h1, .int .i64 h2, .int .i64 h3], .int .i64 bn, .int .i64 0], .agg #[.int .i64 x, .int .i64 y, .int .i64 z], .agg #[.int .i64 u, .int .i64 v, .int .i64 t], .tuple #[.agg #[.int .i64 l1, .int .i64 l2, .int .i64 l3], .agg #[.int .i64 h1, .int .i64 h2, .int .i64 h3], .int .i64 bn, .int .i64 0], .agg #[.int .i64 l1, .int .i64 l2, .int .i64 l3], .agg #[.int .i64 h1, .int .i64 h2, .int .i64 h3], .int .i64 bn, .int .i64 0, .agg #[.int .i64 l1, .int .i64 l2, .int .i64 l3], .agg #[.int .i64 l1, .int .i64 l2, .int .i64 l3], .bool false, .bool false, .agg #[.int .i64 h1, .int .i64 h2, .int .i64 h3], .agg #[.int .i64 h1, .int .i64 h2, .int .i64 h3], .bool false, .bool false, .bool false, .int .i64 bn, .int .i64 bn, .bool false, .bool false, .bool false, .int .i64 0, .int .i64 0, .bool false, .bool false, .agg #[.int .i64 x, .int .i64 y, .int .i64 z], .agg #[.int .i64 u, .int .i64 v, .int .i64 t], .slice (some ⟨g, 0, none⟩) xs.length cap, .agg #[.int .i64 x, .int .i64 y, .int .i64 z], .agg #[.int .i64 u, .int .i64 v, .int .i64 t], .func (.func 47) #[] #[.pointer (some ⟨BB + 2, 0, none⟩), .pointer (some ⟨BB, 0, none⟩), .pointer (some ⟨BB + 1, 0, none⟩)], .func (.func 47) #[] #[.pointer (some ⟨BB + 2, 0, none⟩), .pointer (some ⟨BB, 0, none⟩), .pointer (some ⟨BB + 1, 0, none⟩)], .bool false, .func (.func 47) #[] #[.pointer (some ⟨BB + 2, 0, none⟩), .pointer (some ⟨BB, 0, none⟩), .pointer (some ⟨BB + 1, 0, none⟩)], undef, undef, undef, undef, undef, undef, undef, undef, undef, undef, undef, undef, undef, undef, undef, undef, undef, undef, .int .i64 leave, .bool true, .bool true, .int .i64 ((xs.length : Nat) : Int), .slice (some ⟨g, 0, none⟩) xs.length cap, .int .i64 ((xs.length : Nat) : Int), .bool false, .bool false, .bool false, .int .i64 leave, .bool false, .bool false, undef, undef, undef, undef, undef, undef, .bool false, .bool false, .func (.func 47) #[] #[.pointer (some ⟨BB + 2, 0, none⟩), .pointer (some ⟨BB, 0, none⟩), .pointer (some ⟨BB + 1, 0, none⟩)], .agg #[.int .i64 pe.1, .int .i64 pe.2.1, .int .i64 pe.2.2], undef, undef, undef, undef, undef, undef, undef, undef, undef, undef, undef, undef, undef, undef, undef, undef, undef, undef, undef, undef, undef], defers := [] })
      (fun pe a' _ X Y row hs hg hr => by obtain ⟨Bx, h1, ⟨h2, h3, h4⟩, h5⟩ := hs; exact ⟨Bx, h1, ⟨cell_kept h2 hg (fun r e => (hr r e).2), cell_kept h3 hg (fun r e => (hr r e).2), cell_kept h4 hg (fun r e => (hr r e).2)⟩, h5⟩)
      ?assign2r ?body2r ?done2r ?stop2r
    case assign2r =>
      rintro l pre ⟨x1, x2, x3⟩ W K ⟨⟨⟨⟨c1, d1⟩, hB⟩, hD1⟩, hpure⟩ hK
      have hle := hB.size
      have hlt := World.block_lt_of_cell? W _ c1
      simp only at hlt
      dsimp only [encP]
      gi_wp2
      refine hK _ _ ?_ ?_ ?_ ?_
      · exact (KeepsOthers.alloc _ _).from _
      · exact (Below.refl _ W).alloc hle _
      · exact ⟨⟨⟨(by (refine ⟨?_, ?_⟩; all_goals (repeat' (first | (with_reducible assumption) | (with_reducible refine HeldP.c_drew ?_) | (with_reducible refine HeldP.c_drewN ?_) | (with_reducible refine HeldP.c_same (by omega) ?_) | (with_reducible refine HeldP.c_other ?_ ?_) | (with_reducible refine HeldP.c_new (by first | omega | (simp; done) | (simp; omega)) ?_) | (with_reducible refine HeldP.c_alloc ?_ ?_) | (with_reducible refine HeldP.e_drew ?_) | (with_reducible refine HeldP.e_drewN ?_) | (with_reducible refine HeldP.e_set ?_) | (with_reducible refine HeldP.e_new (by first | omega | (simp; done) | (simp; omega)) ⟨_, rfl⟩) | (with_reducible refine HeldP.e_alloc ?_ ?_) | (with_reducible refine HeldP.f_drew ?_) | (with_reducible refine HeldP.f_drewN ?_) | (with_reducible refine HeldP.f_set ?_) | (with_reducible refine HeldP.f_new (by first | omega | (simp; done) | (simp; omega))) | (with_reducible refine HeldP.f_alloc ?_ ?_) | (with_reducible refine HeldP.s_drew ?_) | (with_reducible refine HeldP.s_drewN ?_) | (with_reducible refine HeldP.s_set ?_) | (with_reducible refine HeldP.s_new (by first | omega | (simp; done) | (simp; omega))) | (with_reducible refine HeldP.s_alloc ?_) | (with_reducible exact ⟨_, by assumption⟩) | omega | (intro e; simp at e; done) | (intro e; simp at e; omega) | (exact rfl) | (simp; done) | (simp; omega))))), hB.alloc hle _⟩, (KeepsOthers.alloc _ _).same D _ hD1 rfl⟩, hpure⟩
      · (refine ⟨W.heap.size, by omega, ⟨?_, ?_, ?_⟩, rfl⟩; all_goals (repeat' (first | (with_reducible assumption) | (with_reducible refine HeldP.c_drew ?_) | (with_reducible refine HeldP.c_drewN ?_) | (with_reducible refine HeldP.c_same (by omega) ?_) | (with_reducible refine HeldP.c_other ?_ ?_) | (with_reducible refine HeldP.c_new (by first | omega | (simp; done) | (simp; omega)) ?_) | (with_reducible refine HeldP.c_alloc ?_ ?_) | (with_reducible refine HeldP.e_drew ?_) | (with_reducible refine HeldP.e_drewN ?_) | (with_reducible refine HeldP.e_set ?_) | (with_reducible refine HeldP.e_new (by first | omega | (simp; done) | (simp; omega)) ⟨_, rfl⟩) | (with_reducible refine HeldP.e_alloc ?_ ?_) | (with_reducible refine HeldP.f_drew ?_) | (with_reducible refine HeldP.f_drewN ?_) | (with_reducible refine HeldP.f_set ?_) | (with_reducible refine HeldP.f_new (by first | omega | (simp; done) | (simp; omega))) | (with_reducible refine HeldP.f_alloc ?_ ?_) | (with_reducible refine HeldP.s_drew ?_) | (with_reducible refine HeldP.s_drewN ?_) | (with_reducible refine HeldP.s_set ?_) | (with_reducible refine HeldP.s_new (by first | omega | (simp; done) | (simp; omega))) | (with_reducible refine HeldP.s_alloc ?_) | (with_reducible exact ⟨_, by assumption⟩) | omega | (intro e; simp at e; done) | (intro e; simp at e; omega) | (exact rfl) | (simp; done) | (simp; omega))))
    case body2r =>
      rintro l pre ⟨x1, x2, x3⟩ a' W hl hr ⟨⟨⟨⟨c1, d1⟩, hB⟩, hD1⟩, hpre⟩ ⟨Bx, hBx, ⟨y0, y1, y2⟩, rfl⟩ hlt
      simp only at y0 y1 y2
      have hle := hB.size
      have hk0 := World.block_lt_of_cell? W _ c1
      simp only at hk0
      have rs : W.cell? ⟨w3.heap.size, 0, none⟩ = some (.slice (some ⟨g, 0, none⟩) xs.length cap) := (hB.cell (p := ⟨w3.heap.size, 0, none⟩) HRD.out.2.1).trans HRD.out.1
      have rl : W.cell? ⟨w.heap.size + 1 + 1, 0, none⟩ = some (.int .i64 leave) := (hB.cell (p := ⟨w.heap.size + 1 + 1, 0, none⟩) HRD.out.2.2.2.1).trans HRD.out.2.2.1
      have rr : W.cell? ⟨w.heap.size + 1 + 1 + 1, 0, none⟩ = some (.bool false) := (hB.cell (p := ⟨w.heap.size + 1 + 1 + 1, 0, none⟩) HRD.out.2.2.2.2.2.2).trans HRD.out.2.2.2.2.1
      have rf : W.frozen? ⟨w.heap.size + 1 + 1 + 1, 0, none⟩ = false := (hB.frozen (p := ⟨w.heap.size + 1 + 1 + 1, 0, none⟩) HRD.out.2.2.2.2.2.2).trans HRD.out.2.2.2.2.2.1
      have z5 := HRD.out.2.2.2.1
      have z6 := HRD.out.2.2.2.2.2.2
      have z3 := HRD.out.2.1
      obtain ⟨a1, a2, a3, hxa⟩ : ∃ a1 a2 a3, xs[pre.length] = (a1, a2, a3) := ⟨_, _, _, rfl⟩
      obtain ⟨r0, r1, r2⟩ := HROW.out pre.length hlt
      simp only [hxa] at r0 r1 r2
      replace r0 : W.cell? ⟨g, pre.length * 3, none⟩ = some (.int .i64 a1) := (hB.cell (p := ⟨g, pre.length * 3, none⟩) hg4).trans r0
      replace r1 : W.cell? ⟨g, pre.length * 3 + 1, none⟩ = some (.int .i64 a2) := (hB.cell (p := ⟨g, pre.length * 3 + 1, none⟩) hg4).trans r1
      replace r2 : W.cell? ⟨g, pre.length * 3 + 2, none⟩ = some (.int .i64 a3) := (hB.cell (p := ⟨g, pre.length * 3 + 2, none⟩) hg4).trans r2
      have HXA := Lib.hid hxa
      have HPRE := Lib.hid hpre
      have HB := Lib.hid hB
      clear hxa hpre hB
      have HD1 := Lib.hid hD1
      clear hD1
      have hgq : decide (xs.length ≤ pre.length) = false := decide_eq_false (by omega)
      have nb : Bx ≠ w4.heap.size := by omega
      have hN' : xs.length ≤ 512 := hN
      by_cases hx : x1 = a1 ∧ x2 = a2 ∧ x3 = a3
      · obtain ⟨rfl, rfl, rfl⟩ := hx
        have v2 := Lib.hid (show (((pre ++ [(x1, x2, x3)]).length : Nat) : Int) = ((pre.length : Nat) : Int) + 1 by simp)
        have v3 := Lib.hid (PrefixP.snoc HPRE.out hlt HXA.out)
        gi_wp2
        refine QuietR.region (by kernel_rfl) (by kernel_rfl) (by kernel_rfl) ?_
        repeat (gi_big_quiet_step (fail))
        refine wpQuietIn_nil ?_
        intro _ hw'
        obtain ⟨nq, hw''⟩ := hw'
        subst hw''
        have kb : KeepsOthers W (W.drewN nq) := PrefixP.keeps_drewN W nq
        have bb : Below w4.heap.size W (W.drewN nq) := (by (repeat' (first | (with_reducible exact Below.refl _ _) | (with_reducible refine Below.setCell ?_ (by (first | omega | (simp; done) | (simp; omega))) _) | (with_reducible refine Below.alloc ?_ (by (first | omega | (simp; done) | (simp; omega))) _) | (with_reducible refine Below.drew ?_) | (with_reducible refine below_drewN ?_ _))))
        have e1 : (W.drewN nq).cell? ⟨w4.heap.size, 0, none⟩ = some (.int .i64 ((pre.length : Nat) : Int)) := c1
        have e2 : (W.drewN nq).frozen? ⟨w4.heap.size, 0, none⟩ = false := d1
        have e3 : (W.drewN nq).cell? ⟨w.heap.size + 1 + 1, 0, none⟩ = some (.int .i64 leave) := rl
        have e4 : (W.drewN nq).cell? ⟨w.heap.size + 1 + 1 + 1, 0, none⟩ = some (.bool false) := rr
        have e5 : (W.drewN nq).frozen? ⟨w.heap.size + 1 + 1 + 1, 0, none⟩ = false := rf
        have HB2 := Lib.hid (show Below w4.heap.size w4 (W.drewN nq) from HB.out.trans bb)
        have KB := Lib.hid kb
        have BB2 := Lib.hid bb
        clear kb bb
        generalize W.drewN nq = W2 at *
        clear c1 d1 rs rl rr rf y0 y1 y2 r0 r1 r2
        gi_wp2
        refine ⟨(KB.out.trans (KeepsOthers.setCell _ _ _)).from _, ?_, ⟨⟨⟨⟨?_, ?_⟩, ?_⟩, ?_⟩, ?_⟩⟩
        · (repeat' (first | (with_reducible exact Below.refl _ _) | (with_reducible refine Below.setCell ?_ (by (first | omega | (simp; done) | (simp; omega))) _) | (with_reducible refine Below.alloc ?_ (by (first | omega | (simp; done) | (simp; omega))) _) | (with_reducible refine Below.drew ?_) | (with_reducible refine below_drewN ?_ _) | (with_reducible refine Below.trans ?_ (Below.mono BB2.out (by (first | omega | (simp; done) | (simp; omega)))))))
        · (rw [v2.out]; (repeat' (first | (with_reducible assumption) | (with_reducible refine HeldP.c_drew ?_) | (with_reducible refine HeldP.c_drewN ?_) | (with_reducible refine HeldP.c_same (by omega) ?_) | (with_reducible refine HeldP.c_other ?_ ?_) | (with_reducible refine HeldP.c_new (by first | omega | (simp; done) | (simp; omega)) ?_) | (with_reducible refine HeldP.c_alloc ?_ ?_) | (with_reducible refine HeldP.e_drew ?_) | (with_reducible refine HeldP.e_drewN ?_) | (with_reducible refine HeldP.e_set ?_) | (with_reducible refine HeldP.e_new (by first | omega | (simp; done) | (simp; omega)) ⟨_, rfl⟩) | (with_reducible refine HeldP.e_alloc ?_ ?_) | (with_reducible refine HeldP.f_drew ?_) | (with_reducible refine HeldP.f_drewN ?_) | (with_reducible refine HeldP.f_set ?_) | (with_reducible refine HeldP.f_new (by first | omega | (simp; done) | (simp; omega))) | (with_reducible refine HeldP.f_alloc ?_ ?_) | (with_reducible refine HeldP.s_drew ?_) | (with_reducible refine HeldP.s_drewN ?_) | (with_reducible refine HeldP.s_set ?_) | (with_reducible refine HeldP.s_new (by first | omega | (simp; done) | (simp; omega))) | (with_reducible refine HeldP.s_alloc ?_) | (with_reducible exact ⟨_, by assumption⟩) | omega | (intro e; simp at e; done) | (intro e; simp at e; omega) | (exact rfl) | (simp; done) | (simp; omega))))
        · (repeat' (first | (with_reducible assumption) | (with_reducible refine HeldP.c_drew ?_) | (with_reducible refine HeldP.c_drewN ?_) | (with_reducible refine HeldP.c_same (by omega) ?_) | (with_reducible refine HeldP.c_other ?_ ?_) | (with_reducible refine HeldP.c_new (by first | omega | (simp; done) | (simp; omega)) ?_) | (with_reducible refine HeldP.c_alloc ?_ ?_) | (with_reducible refine HeldP.e_drew ?_) | (with_reducible refine HeldP.e_drewN ?_) | (with_reducible refine HeldP.e_set ?_) | (with_reducible refine HeldP.e_new (by first | omega | (simp; done) | (simp; omega)) ⟨_, rfl⟩) | (with_reducible refine HeldP.e_alloc ?_ ?_) | (with_reducible refine HeldP.f_drew ?_) | (with_reducible refine HeldP.f_drewN ?_) | (with_reducible refine HeldP.f_set ?_) | (with_reducible refine HeldP.f_new (by first | omega | (simp; done) | (simp; omega))) | (with_reducible refine HeldP.f_alloc ?_ ?_) | (with_reducible refine HeldP.s_drew ?_) | (with_reducible refine HeldP.s_drewN ?_) | (with_reducible refine HeldP.s_set ?_) | (with_reducible refine HeldP.s_new (by first | omega | (simp; done) | (simp; omega))) | (with_reducible refine HeldP.s_alloc ?_) | (with_reducible exact ⟨_, by assumption⟩) | omega | (intro e; simp at e; done) | (intro e; simp at e; omega) | (exact rfl) | (simp; done) | (simp; omega)))
        · (repeat' (first | (with_reducible exact Below.refl _ _) | (with_reducible refine Below.setCell ?_ (by (first | omega | (simp; done) | (simp; omega))) _) | (with_reducible refine Below.alloc ?_ (by (first | omega | (simp; done) | (simp; omega))) _) | (with_reducible refine Below.drew ?_) | (with_reducible refine below_drewN ?_ _) | (with_reducible refine Below.trans ?_ (Below.mono HB2.out (by (first | omega | (simp; done) | (simp; omega)))))))
        · exact (KB.out.trans (KeepsOthers.setCell _ _ _)).same D _ HD1.out rfl
        · exact v3.out
      · rcases (show x1 ≠ a1 ∨ (x1 = a1 ∧ x2 ≠ a2) ∨ (x1 = a1 ∧ x2 = a2 ∧ x3 ≠ a3) by (by_cases e1 : x1 = a1; by_cases e2 : x2 = a2; exact .inr (.inr ⟨e1, e2, fun e3 => hx ⟨e1, e2, e3⟩⟩); exact .inr (.inl ⟨e1, e2⟩); exact .inl e1)) with hne | ⟨rfl, hne⟩ | ⟨rfl, rfl, hne⟩
        · clear hx
          have n1 : (x1 == a1) = false := by simpa using hne
          have HX := Lib.hid hne
          clear hne
          gi_wp2
          refine QuietR.region (by kernel_rfl) (by kernel_rfl) (by kernel_rfl) ?_
          repeat (gi_big_quiet_step (fail))
          refine wpQuietIn_nil ?_
          intro _ hw'
          obtain ⟨nq, hw''⟩ := hw'
          subst hw''
          have kb : KeepsOthers W (W.drewN nq) := PrefixP.keeps_drewN W nq
          have bb : Below w4.heap.size W (W.drewN nq) := (by (repeat' (first | (with_reducible exact Below.refl _ _) | (with_reducible refine Below.setCell ?_ (by (first | omega | (simp; done) | (simp; omega))) _) | (with_reducible refine Below.alloc ?_ (by (first | omega | (simp; done) | (simp; omega))) _) | (with_reducible refine Below.drew ?_) | (with_reducible refine below_drewN ?_ _))))
          have e1 : (W.drewN nq).cell? ⟨w4.heap.size, 0, none⟩ = some (.int .i64 ((pre.length : Nat) : Int)) := c1
          have e2 : (W.drewN nq).frozen? ⟨w4.heap.size, 0, none⟩ = false := d1
          have e3 : (W.drewN nq).cell? ⟨w.heap.size + 1 + 1, 0, none⟩ = some (.int .i64 leave) := rl
          have e4 : (W.drewN nq).cell? ⟨w.heap.size + 1 + 1 + 1, 0, none⟩ = some (.bool false) := rr
          have e5 : (W.drewN nq).frozen? ⟨w.heap.size + 1 + 1 + 1, 0, none⟩ = false := rf
          have HB2 := Lib.hid (show Below w4.heap.size w4 (W.drewN nq) from HB.out.trans bb)
          have KB := Lib.hid kb
          have BB2 := Lib.hid bb
          clear kb bb
          generalize W.drewN nq = W2 at *
          clear c1 d1 rs rl rr rf y0 y1 y2 r0 r1 r2
          gi_wp2
          refine ⟨(KB.out.trans (KeepsOthers.setCell _ _ _)).from _, rfl, ?_⟩
          exact fun h => HX.out (by have := PrefixP.snoc_at h hlt; rw [HXA.out] at this; simp only [Prod.mk.injEq] at this; exact this.1.symm)
        · clear hx
          have n1 : (x2 == a2) = false := by simpa using hne
          have HX := Lib.hid hne
          clear hne
          gi_wp2
          refine QuietR.region (by kernel_rfl) (by kernel_rfl) (by kernel_rfl) ?_
          repeat (gi_big_quiet_step (fail))
          refine wpQuietIn_nil ?_
          intro _ hw'
          obtain ⟨nq, hw''⟩ := hw'
          subst hw''
          have kb : KeepsOthers W (W.drewN nq) := PrefixP.keeps_drewN W nq
          have bb : Below w4.heap.size W (W.drewN nq) := (by (repeat' (first | (with_reducible exact Below.refl _ _) | (with_reducible refine Below.setCell ?_ (by (first | omega | (simp; done) | (simp; omega))) _) | (with_reducible refine Below.alloc ?_ (by (first | omega | (simp; done) | (simp; omega))) _) | (with_reducible refine Below.drew ?_) | (with_reducible refine below_drewN ?_ _))))
          have e1 : (W.drewN nq).cell? ⟨w4.heap.size, 0, none⟩ = some (.int .i64 ((pre.length : Nat) : Int)) := c1
          have e2 : (W.drewN nq).frozen? ⟨w4.heap.size, 0, none⟩ = false := d1
          have e3 : (W.drewN nq).cell? ⟨w.heap.size + 1 + 1, 0, none⟩ = some (.int .i64 leave) := rl
          have e4 : (W.drewN nq).cell? ⟨w.heap.size + 1 + 1 + 1, 0, none⟩ = some (.bool false) := rr
          have e5 : (W.drewN nq).frozen? ⟨w.heap.size + 1 + 1 + 1, 0, none⟩ = false := rf
          have HB2 := Lib.hid (show Below w4.heap.size w4 (W.drewN nq) from HB.out.trans bb)
          have KB := Lib.hid kb
          have BB2 := Lib.hid bb
          clear kb bb
          generalize W.drewN nq = W2 at *
          clear c1 d1 rs rl rr rf y0 y1 y2 r0 r1 r2
          gi_wp2
          refine ⟨(KB.out.trans (KeepsOthers.setCell _ _ _)).from _, rfl, ?_⟩
          exact fun h => HX.out (by have := PrefixP.snoc_at h hlt; rw [HXA.out] at this; simp only [Prod.mk.injEq] at this; exact this.2.1.symm)
        · clear hx
          have n1 : (x3 == a3) = false := by simpa using hne
          have HX := Lib.hid hne
          clear hne
          gi_wp2
          refine QuietR.region (by kernel_rfl) (by kernel_rfl) (by kernel_rfl) ?_
          repeat (gi_big_quiet_step (fail))
          refine wpQuietIn_nil ?_
          intro _ hw'
          obtain ⟨nq, hw''⟩ := hw'
          subst hw''
          have kb : KeepsOthers W (W.drewN nq) := PrefixP.keeps_drewN W nq
          have bb : Below w4.heap.size W (W.drewN nq) := (by (repeat' (first | (with_reducible exact Below.refl _ _) | (with_reducible refine Below.setCell ?_ (by (first | omega | (simp; done) | (simp; omega))) _) | (with_reducible refine Below.alloc ?_ (by (first | omega | (simp; done) | (simp; omega))) _) | (with_reducible refine Below.drew ?_) | (with_reducible refine below_drewN ?_ _))))
          have e1 : (W.drewN nq).cell? ⟨w4.heap.size, 0, none⟩ = some (.int .i64 ((pre.length : Nat) : Int)) := c1
          have e2 : (W.drewN nq).frozen? ⟨w4.heap.size, 0, none⟩ = false := d1
          have e3 : (W.drewN nq).cell? ⟨w.heap.size + 1 + 1, 0, none⟩ = some (.int .i64 leave) := rl
          have e4 : (W.drewN nq).cell? ⟨w.heap.size + 1 + 1 + 1, 0, none⟩ = some (.bool false) := rr
          have e5 : (W.drewN nq).frozen? ⟨w.heap.size + 1 + 1 + 1, 0, none⟩ = false := rf
          have HB2 := Lib.hid (show Below w4.heap.size w4 (W.drewN nq) from HB.out.trans bb)
          have KB := Lib.hid kb
          have BB2 := Lib.hid bb
          clear kb bb
          generalize W.drewN nq = W2 at *
          clear c1 d1 rs rl rr rf y0 y1 y2 r0 r1 r2
          gi_wp2
          refine ⟨(KB.out.trans (KeepsOthers.setCell _ _ _)).from _, rfl, ?_⟩
          exact fun h => HX.out (by have := PrefixP.snoc_at h hlt; rw [HXA.out] at this; simp only [Prod.mk.injEq] at this; exact this.2.2.symm)
    case stop2r =>
      rintro D2 c pre W hD2 hsp ⟨_, hx⟩ hK2
      exact absurd hsp hx
    case done2r =>
      rintro D2 ys W hD2 hys ⟨⟨⟨⟨c1, d1⟩, hB⟩, hD1⟩, _⟩ hK2
      rw [hys] at c1
      clear hys
      have rs : W.cell? ⟨w3.heap.size, 0, none⟩ = some (.slice (some ⟨g, 0, none⟩) xs.length cap) := (hB.cell (p := ⟨w3.heap.size, 0, none⟩) HRD.out.2.1).trans HRD.out.1
      have rl : W.cell? ⟨w.heap.size + 1 + 1, 0, none⟩ = some (.int .i64 leave) := (hB.cell (p := ⟨w.heap.size + 1 + 1, 0, none⟩) HRD.out.2.2.2.1).trans HRD.out.2.2.1
      have rr : W.cell? ⟨w.heap.size + 1 + 1 + 1, 0, none⟩ = some (.bool false) := (hB.cell (p := ⟨w.heap.size + 1 + 1 + 1, 0, none⟩) HRD.out.2.2.2.2.2.2).trans HRD.out.2.2.2.2.1
      have rf : W.frozen? ⟨w.heap.size + 1 + 1 + 1, 0, none⟩ = false := (hB.frozen (p := ⟨w.heap.size + 1 + 1 + 1, 0, none⟩) HRD.out.2.2.2.2.2.2).trans HRD.out.2.2.2.2.2.1
      have z5 := HRD.out.2.2.2.1
      have z6 := HRD.out.2.2.2.2.2.2
      have z3 := HRD.out.2.1
      have HBW := Lib.hid (HB4.out.trans (hB.mono z4))
      have HK1 := Lib.hid hD1
      have HK2 := Lib.hid hK2
      have hsB := hB.size
      have HD2 := Lib.hid (show D < D2 by omega)
      clear hB hD1 hK2
      go_wp2_with fail
      go_at_call 23
      refine (works_c _).mono ?_
      rintro e W6 ⟨rfl, hb6⟩
      have m0 : W6.cell? ⟨w.heap.size + 1 + 1 + 1, 0, none⟩ = some (.bool false) := (hb6.cell (p := ⟨w.heap.size + 1 + 1 + 1, 0, none⟩) (by (show w.heap.size + 1 + 1 + 1 < _); omega)).trans rr
      have m1 : W6.frozen? ⟨w.heap.size + 1 + 1 + 1, 0, none⟩ = false := (hb6.frozen (p := ⟨w.heap.size + 1 + 1 + 1, 0, none⟩) (by (show w.heap.size + 1 + 1 + 1 < _); omega)).trans rf
      have HE1 := Lib.hid ((hb6.block D (Array.getElem?_eq_some_iff.1 HK1.out).1).trans HK1.out)
      have HE2 := Lib.hid ((hb6.block D2 (Array.getElem?_eq_some_iff.1 HK2.out).1).trans HK2.out)
      have HB7 := Lib.hid (HBW.out.trans (hb6.mono HBW.out.size))
      clear hb6 c1 d1 rs rl rr rf HK1 HK2
      go_wp2_with fail
      have hA := (KeepsOthers.setCell W6 ⟨w.heap.size + 1 + 1 + 1, 0, none⟩ (.bool true)).same D2 _ HE2.out rfl
      have hC := ((grownBy_putObj' (W6.setCell ⟨w.heap.size + 1 + 1 + 1, 0, none⟩ (.bool true)) D2 (.deferred none)).block D (Array.getElem?_eq_some_iff.1 ((KeepsOthers.setCell W6 ⟨w.heap.size + 1 + 1 + 1, 0, none⟩ (.bool true)).same D _ HE1.out rfl)).1 (by (have := HD2.out); simp; omega)).trans ((KeepsOthers.setCell W6 ⟨w.heap.size + 1 + 1 + 1, 0, none⟩ (.bool true)).same D _ HE1.out rfl)
      refine ⟨by simp, .inl ⟨_, _, rfl, run_takeDeferred hA, by simp, .inl ⟨_, _, rfl, run_takeDeferred hC, ?_⟩⟩⟩
      have hc5 := cell_kept (World.cell?_setCell_same' W6 ⟨w.heap.size + 1 + 1 + 1, 0, none⟩ (.bool true) (by rw [m0]; rfl)) (grownBy_putObj' _ D2 (.deferred none)) (fun r e => by cases e; exact ⟨_, hA, rfl⟩)
      have hc6 := cell_kept hc5 (grownBy_putObj' _ D (.deferred none)) (fun r e => by cases e; exact ⟨_, hC, rfl⟩)
      refine ⟨.bool true, ?_, rfl, ((HB7.out.setCell (p := ⟨w.heap.size + 1 + 1 + 1, 0, none⟩) (by (show w.heap.size ≤ w.heap.size + 1 + 1 + 1); omega) _).trans (belowK_b (w := w) (Nat.le_refl _) _ D2 _ _ (by have := HD2.out; have := HD4.out; omega) hA rfl rfl)).trans (belowK_b (w := w) (Nat.le_refl _) _ D _ _ (by have := HD4.out; omega) hC rfl rfl)⟩
      simp [results, Try.f6, go_sem, hc6]
end PlaceW
end Go.Proofs.Ytokkomglbddgcaa
