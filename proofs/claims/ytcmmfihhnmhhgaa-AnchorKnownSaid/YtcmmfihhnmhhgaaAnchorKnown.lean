/-
  AnchorKnown: the chapter's examples.
-/
import Derived.BigQuiet
import Derived.BigRegion
import Derived.Lib.Hide
import Derived.Deep.RegionHeld3
import Derived.Deep.MidRow
import Derived.Laws.Tables
import Derived.Test.YtcmmfihhnmhhgaaAnchorAwake
namespace Go.Proofs.Ytcmmfihhnmhhgaa
open Go.RowKit
set_option linter.unusedVariables false
set_option linter.unusedSimpArgs false
namespace AncW
open BlkP RowG FrS PushG AncP
open PlaceW (bcell below_drewN)
set_option maxRecDepth 100000 in
set_option maxHeartbeats 16000000 in
theorem law_known {w : World} :
    Calls Try.prog 5 #[] w fun e w' => e = .returned (.bool true) ∧ Below w.heap.size w w' := by
  obtain ⟨s, hs⟩ : ∃ s, w.heap.size = s := ⟨_, rfl⟩
  go_enter Try.func5, Try.ntmps5
  go_wp2_with fail
  refine calls_named (S := fun W => Below w.heap.size w W ∧ Blk W s TT [.int .i64 0, .int .i64 0, .int .i64 0, .bool false, .int .i64 0, .int .i64 0, .int .i64 0, .bool false] ∧ True) ⟨by (repeat' (first | (with_reducible exact Below.refl _ _) | (with_reducible refine Below.setCell ?_ (by (first | omega | (simp; done) | (simp; omega))) _) | (with_reducible refine Below.alloc ?_ (by (first | omega | (simp; done) | (simp; omega))) _) | (with_reducible refine Below.drew ?_) | (with_reducible refine below_drewN ?_ _))), by subst hs; (repeat' (first | (with_reducible refine BlkP.Blk.drew ?_) | (with_reducible refine BlkP.Blk.drewN ?_ _) | (with_reducible refine BlkP.Blk.setAt (us := ?_) (by first | omega | (simp; done) | (simp; omega)) rfl ?_ ?_) | (with_reducible refine BlkP.Blk.otherAt ?_ (by first | omega | (simp; done) | (simp; omega))) | (with_reducible refine BlkP.Blk.newA' (by first | omega | (simp; done) | (simp; omega)) rfl) | (with_reducible refine BlkP.Blk.alloc ?_ _) | (exact rfl))), trivial⟩ ?_
  rintro w0a ⟨hb, k0, -⟩
  refine (Put_c (a := ((0, 0, 0), false)) (b := ((0, 0, 0), false)) (c := ((0, 0, 0), false)) (d := ((0, 0, 0), false)) (n := 2) (by decide) _).mono ?_
  rintro e w0 ⟨rfl, hb2⟩
  have Bw0 := Lib.hid (below_t hb hb2)
  have hzw0 := Bw0.out.size
  have Hw0_0 := Lib.hid (k0.below hb2)
  clear hb hb2 k0
  have s_0 := Hw0_0.out.cell (i := 0) rfl
  have s_1 := Hw0_0.out.cell (i := 1) rfl
  have s_2 := Hw0_0.out.cell (i := 2) rfl
  have s_3 := Hw0_0.out.cell (i := 3) rfl
  have s_4 := Hw0_0.out.cell (i := 4) rfl
  have s_5 := Hw0_0.out.cell (i := 5) rfl
  have s_6 := Hw0_0.out.cell (i := 6) rfl
  have s_7 := Hw0_0.out.cell (i := 7) rfl
  have s_l := Hw0_0.out.lt
  go_wp2_with fail
  refine calls_named (S := fun W => Below w.heap.size w W ∧ Blk W s TT [.int .i64 0, .int .i64 0, .int .i64 0, .bool false, .int .i64 0, .int .i64 0, .int .i64 0, .bool false] ∧ True) ⟨by (repeat' (first | (with_reducible exact Below.refl _ _) | (with_reducible refine Below.setCell ?_ (by (first | omega | (simp; done) | (simp; omega))) _) | (with_reducible refine Below.alloc ?_ (by (first | omega | (simp; done) | (simp; omega))) _) | (with_reducible refine Below.drew ?_) | (with_reducible refine below_drewN ?_ _) | (with_reducible refine Below.trans ?_ (Below.mono Bw0.out (by (first | omega | (simp; done) | (simp; omega))))))), by (repeat' (first | (with_reducible exact Hw0_0.out) | (with_reducible refine BlkP.Blk.drew ?_) | (with_reducible refine BlkP.Blk.drewN ?_ _) | (with_reducible refine BlkP.Blk.setAt (us := ?_) (by first | omega | (simp; done) | (simp; omega)) rfl ?_ ?_) | (with_reducible refine BlkP.Blk.otherAt ?_ (by first | omega | (simp; done) | (simp; omega))) | (with_reducible refine BlkP.Blk.newA' (by first | omega | (simp; done) | (simp; omega)) rfl) | (with_reducible refine BlkP.Blk.alloc ?_ _) | (exact rfl))), trivial⟩ ?_
  rintro w1a ⟨hb, k0, -⟩
  refine (Put_c (a := ((0, 0, 0), false)) (b := ((0, 0, 0), false)) (c := ((0, 0, 0), false)) (d := ((0, 0, 0), false)) (n := 10) (by decide) _).mono ?_
  rintro e w1 ⟨rfl, hb2⟩
  have Bw1 := Lib.hid (below_t hb hb2)
  have hzw1 := Bw1.out.size
  have Hw1_0 := Lib.hid (k0.below hb2)
  clear hb hb2 k0 s_0 s_1 s_2 s_3 s_4 s_5 s_6 s_7 s_l
  have s_0 := Hw1_0.out.cell (i := 0) rfl
  have s_1 := Hw1_0.out.cell (i := 1) rfl
  have s_2 := Hw1_0.out.cell (i := 2) rfl
  have s_3 := Hw1_0.out.cell (i := 3) rfl
  have s_4 := Hw1_0.out.cell (i := 4) rfl
  have s_5 := Hw1_0.out.cell (i := 5) rfl
  have s_6 := Hw1_0.out.cell (i := 6) rfl
  have s_7 := Hw1_0.out.cell (i := 7) rfl
  have s_l := Hw1_0.out.lt
  go_wp2_with fail
  refine calls_named (S := fun W => Below w.heap.size w W ∧ Blk W s TT [.int .i64 0, .int .i64 0, .int .i64 0, .bool false, .int .i64 0, .int .i64 0, .int .i64 0, .bool false] ∧ True) ⟨by (repeat' (first | (with_reducible exact Below.refl _ _) | (with_reducible refine Below.setCell ?_ (by (first | omega | (simp; done) | (simp; omega))) _) | (with_reducible refine Below.alloc ?_ (by (first | omega | (simp; done) | (simp; omega))) _) | (with_reducible refine Below.drew ?_) | (with_reducible refine below_drewN ?_ _) | (with_reducible refine Below.trans ?_ (Below.mono Bw1.out (by (first | omega | (simp; done) | (simp; omega))))))), by (repeat' (first | (with_reducible exact Hw1_0.out) | (with_reducible refine BlkP.Blk.drew ?_) | (with_reducible refine BlkP.Blk.drewN ?_ _) | (with_reducible refine BlkP.Blk.setAt (us := ?_) (by first | omega | (simp; done) | (simp; omega)) rfl ?_ ?_) | (with_reducible refine BlkP.Blk.otherAt ?_ (by first | omega | (simp; done) | (simp; omega))) | (with_reducible refine BlkP.Blk.newA' (by first | omega | (simp; done) | (simp; omega)) rfl) | (with_reducible refine BlkP.Blk.alloc ?_ _) | (exact rfl))), trivial⟩ ?_
  rintro w2a ⟨hb, k0, -⟩
  refine (Put_c (a := ((0, 0, 0), false)) (b := ((0, 0, 0), false)) (c := ((0, 0, 0), false)) (d := ((0, 0, 0), false)) (n := 2) (by decide) _).mono ?_
  rintro e w2 ⟨rfl, hb2⟩
  have Bw2 := Lib.hid (below_t hb hb2)
  have hzw2 := Bw2.out.size
  have Hw2_0 := Lib.hid (k0.below hb2)
  clear hb hb2 k0 s_0 s_1 s_2 s_3 s_4 s_5 s_6 s_7 s_l
  have s_0 := Hw2_0.out.cell (i := 0) rfl
  have s_1 := Hw2_0.out.cell (i := 1) rfl
  have s_2 := Hw2_0.out.cell (i := 2) rfl
  have s_3 := Hw2_0.out.cell (i := 3) rfl
  have s_4 := Hw2_0.out.cell (i := 4) rfl
  have s_5 := Hw2_0.out.cell (i := 5) rfl
  have s_6 := Hw2_0.out.cell (i := 6) rfl
  have s_7 := Hw2_0.out.cell (i := 7) rfl
  have s_l := Hw2_0.out.lt
  go_wp2_with fail
  refine calls_named (S := fun W => Below w.heap.size w W ∧ Blk W s TT [.int .i64 0, .int .i64 0, .int .i64 0, .bool false, .int .i64 0, .int .i64 0, .int .i64 0, .bool false] ∧ True) ⟨by (repeat' (first | (with_reducible exact Below.refl _ _) | (with_reducible refine Below.setCell ?_ (by (first | omega | (simp; done) | (simp; omega))) _) | (with_reducible refine Below.alloc ?_ (by (first | omega | (simp; done) | (simp; omega))) _) | (with_reducible refine Below.drew ?_) | (with_reducible refine below_drewN ?_ _) | (with_reducible refine Below.trans ?_ (Below.mono Bw2.out (by (first | omega | (simp; done) | (simp; omega))))))), by (repeat' (first | (with_reducible exact Hw2_0.out) | (with_reducible refine BlkP.Blk.drew ?_) | (with_reducible refine BlkP.Blk.drewN ?_ _) | (with_reducible refine BlkP.Blk.setAt (us := ?_) (by first | omega | (simp; done) | (simp; omega)) rfl ?_ ?_) | (with_reducible refine BlkP.Blk.otherAt ?_ (by first | omega | (simp; done) | (simp; omega))) | (with_reducible refine BlkP.Blk.newA' (by first | omega | (simp; done) | (simp; omega)) rfl) | (with_reducible refine BlkP.Blk.alloc ?_ _) | (exact rfl))), trivial⟩ ?_
  rintro w3a ⟨hb, k0, -⟩
  refine (Lift_c (a := ((0, 0, 0), false)) (b := ((0, 0, 0), false)) (c := ((0, 0, 0), false)) (d := ((0, 0, 0), false)) (n := 2) (by decide) _).mono ?_
  rintro e w3 ⟨rfl, hb2⟩
  have Bw3 := Lib.hid (below_t hb hb2)
  have hzw3 := Bw3.out.size
  have Hw3_0 := Lib.hid (k0.below hb2)
  clear hb hb2 k0 s_0 s_1 s_2 s_3 s_4 s_5 s_6 s_7 s_l
  have s_0 := Hw3_0.out.cell (i := 0) rfl
  have s_1 := Hw3_0.out.cell (i := 1) rfl
  have s_2 := Hw3_0.out.cell (i := 2) rfl
  have s_3 := Hw3_0.out.cell (i := 3) rfl
  have s_4 := Hw3_0.out.cell (i := 4) rfl
  have s_5 := Hw3_0.out.cell (i := 5) rfl
  have s_6 := Hw3_0.out.cell (i := 6) rfl
  have s_7 := Hw3_0.out.cell (i := 7) rfl
  have s_l := Hw3_0.out.lt
  go_wp2_with fail
  refine calls_named (S := fun W => Below w.heap.size w W ∧ Blk W s TT [.int .i64 0, .int .i64 0, .int .i64 0, .bool false, .int .i64 0, .int .i64 0, .int .i64 0, .bool false] ∧ True) ⟨by (repeat' (first | (with_reducible exact Below.refl _ _) | (with_reducible refine Below.setCell ?_ (by (first | omega | (simp; done) | (simp; omega))) _) | (with_reducible refine Below.alloc ?_ (by (first | omega | (simp; done) | (simp; omega))) _) | (with_reducible refine Below.drew ?_) | (with_reducible refine below_drewN ?_ _) | (with_reducible refine Below.trans ?_ (Below.mono Bw3.out (by (first | omega | (simp; done) | (simp; omega))))))), by (repeat' (first | (with_reducible exact Hw3_0.out) | (with_reducible refine BlkP.Blk.drew ?_) | (with_reducible refine BlkP.Blk.drewN ?_ _) | (with_reducible refine BlkP.Blk.setAt (us := ?_) (by first | omega | (simp; done) | (simp; omega)) rfl ?_ ?_) | (with_reducible refine BlkP.Blk.otherAt ?_ (by first | omega | (simp; done) | (simp; omega))) | (with_reducible refine BlkP.Blk.newA' (by first | omega | (simp; done) | (simp; omega)) rfl) | (with_reducible refine BlkP.Blk.alloc ?_ _) | (exact rfl))), trivial⟩ ?_
  rintro w4a ⟨hb, k0, -⟩
  refine (awake_c).mono ?_
  rintro e w4 ⟨rfl, hb2⟩
  have Bw4 := Lib.hid (below_t hb hb2)
  have hzw4 := Bw4.out.size
  have Hw4_0 := Lib.hid (k0.below hb2)
  clear hb hb2 k0 s_0 s_1 s_2 s_3 s_4 s_5 s_6 s_7 s_l
  have s_0 := Hw4_0.out.cell (i := 0) rfl
  have s_1 := Hw4_0.out.cell (i := 1) rfl
  have s_2 := Hw4_0.out.cell (i := 2) rfl
  have s_3 := Hw4_0.out.cell (i := 3) rfl
  have s_4 := Hw4_0.out.cell (i := 4) rfl
  have s_5 := Hw4_0.out.cell (i := 5) rfl
  have s_6 := Hw4_0.out.cell (i := 6) rfl
  have s_7 := Hw4_0.out.cell (i := 7) rfl
  have s_l := Hw4_0.out.lt
  go_wp2_with fail
  refine calls_named (S := fun W => Below w.heap.size w W ∧ Blk W s TT [.int .i64 0, .int .i64 0, .int .i64 0, .bool false, .int .i64 0, .int .i64 0, .int .i64 0, .bool false] ∧ True) ⟨by (repeat' (first | (with_reducible exact Below.refl _ _) | (with_reducible refine Below.setCell ?_ (by (first | omega | (simp; done) | (simp; omega))) _) | (with_reducible refine Below.alloc ?_ (by (first | omega | (simp; done) | (simp; omega))) _) | (with_reducible refine Below.drew ?_) | (with_reducible refine below_drewN ?_ _) | (with_reducible refine Below.trans ?_ (Below.mono Bw4.out (by (first | omega | (simp; done) | (simp; omega))))))), by (repeat' (first | (with_reducible exact Hw4_0.out) | (with_reducible refine BlkP.Blk.drew ?_) | (with_reducible refine BlkP.Blk.drewN ?_ _) | (with_reducible refine BlkP.Blk.setAt (us := ?_) (by first | omega | (simp; done) | (simp; omega)) rfl ?_ ?_) | (with_reducible refine BlkP.Blk.otherAt ?_ (by first | omega | (simp; done) | (simp; omega))) | (with_reducible refine BlkP.Blk.newA' (by first | omega | (simp; done) | (simp; omega)) rfl) | (with_reducible refine BlkP.Blk.alloc ?_ _) | (exact rfl))), trivial⟩ ?_
  rintro w5a ⟨hb, k0, -⟩
  refine (Spots_c (a := ((0, 0, 0), false)) (b := ((0, 0, 0), false)) (is64 (by omega) (by omega)) (is64 (by omega) (by omega))).mono ?_
  rintro e w5 ⟨v, rfl, ho, hb2⟩
  obtain ⟨A0, c0, rfl, _, _, _⟩ := own_len ho (show (rspots ((0, 0, 0), false) ((0, 0, 0), false)).length = 0 by kernel_rfl)
  clear ho
  have Bw5 := Lib.hid (below_t hb hb2)
  have hzw5 := Bw5.out.size
  have Hw5_0 := Lib.hid (k0.below hb2)
  clear hb hb2 k0 s_0 s_1 s_2 s_3 s_4 s_5 s_6 s_7 s_l
  go_wp2_with fail
  refine calls_named (S := fun W => Below w.heap.size w W ∧ True) ⟨by (repeat' (first | (with_reducible exact Below.refl _ _) | (with_reducible refine Below.setCell ?_ (by (first | omega | (simp; done) | (simp; omega))) _) | (with_reducible refine Below.alloc ?_ (by (first | omega | (simp; done) | (simp; omega))) _) | (with_reducible refine Below.drew ?_) | (with_reducible refine below_drewN ?_ _) | (with_reducible refine Below.trans ?_ (Below.mono Bw5.out (by (first | omega | (simp; done) | (simp; omega))))))), trivial⟩ ?_
  rintro w6a ⟨hb, -⟩
  refine (on_c _).mono ?_
  rintro e w6 ⟨rfl, hb2⟩
  have Bw6 := Lib.hid (below_t hb hb2)
  have hzw6 := Bw6.out.size
  clear hb hb2
  obtain ⟨t, ht⟩ : ∃ r, w6.heap.size = r := ⟨_, rfl⟩
  go_wp2_with fail
  have qe0 := fun w => run_neS w (-1, 0, -1) (-1, 0, -1) (r := true) (by decide)
  have qe1 := fun w => run_neS w (1, 3, 1) (1, 3, 1) (r := true) (by decide)
  simp only [Bool.not_true] at qe0 qe1
  refine calls_named (S := fun W => Below w.heap.size w W ∧ Blk W t TT [.int .i64 0, .int .i64 0, .int .i64 0, .bool true, .int .i64 0, .int .i64 0, .int .i64 0, .bool false] ∧ True) ⟨by (repeat' (first | (with_reducible exact Below.refl _ _) | (with_reducible refine Below.setCell ?_ (by (first | omega | (simp; done) | (simp; omega))) _) | (with_reducible refine Below.alloc ?_ (by (first | omega | (simp; done) | (simp; omega))) _) | (with_reducible refine Below.drew ?_) | (with_reducible refine below_drewN ?_ _) | (with_reducible refine Below.trans ?_ (Below.mono Bw6.out (by (first | omega | (simp; done) | (simp; omega))))))), by subst ht; (repeat' (first | (with_reducible refine BlkP.Blk.drew ?_) | (with_reducible refine BlkP.Blk.drewN ?_ _) | (with_reducible refine BlkP.Blk.setAt (us := ?_) (by first | omega | (simp; done) | (simp; omega)) rfl ?_ ?_) | (with_reducible refine BlkP.Blk.otherAt ?_ (by first | omega | (simp; done) | (simp; omega))) | (with_reducible refine BlkP.Blk.newA' (by first | omega | (simp; done) | (simp; omega)) rfl) | (with_reducible refine BlkP.Blk.alloc ?_ _) | (exact rfl))), trivial⟩ ?_
  rintro w7a ⟨hb, k0, -⟩
  refine (Spots_c (a := ((0, 0, 0), true)) (b := ((0, 0, 0), false)) (is64 (by omega) (by omega)) (is64 (by omega) (by omega))).mono ?_
  rintro e w7 ⟨v, rfl, ho, hb2⟩
  obtain ⟨L, hL⟩ : ∃ L, rspots ((0, 0, 0), true) ((0, 0, 0), false) = L := ⟨_, rfl⟩
  have hl36 : L.length = 36 := by rw [← hL]; kernel_rfl
  have hx0 : L[0]? = some (-1, 0, -1) := by rw [← hL]; kernel_rfl
  have hx1 : L[35]? = some (1, 3, 1) := by rw [← hL]; kernel_rfl
  rw [hL] at ho
  obtain ⟨A, c, rfl, _, _, hA⟩ := own_len ho hl36
  obtain ⟨g, rfl, _, _⟩ := hA (by omega)
  obtain ⟨x0, x1, x2⟩ := spot_at ho hx0
  obtain ⟨y0, y1, y2⟩ := spot_at ho hx1
  have gl := own_at ho hx1
  clear ho hA hx0 hx1 hl36
  have Bw7 := Lib.hid (below_t hb hb2)
  have hzw7 := Bw7.out.size
  have Hw7_0 := Lib.hid (k0.below hb2)
  clear hb hb2 k0
  go_wp2_with fail
  refine calls_named (S := fun W => Below w.heap.size w W ∧ Blk W t TT [.int .i64 0, .int .i64 0, .int .i64 0, .bool true, .int .i64 0, .int .i64 0, .int .i64 0, .bool false] ∧ True) ⟨by (repeat' (first | (with_reducible exact Below.refl _ _) | (with_reducible refine Below.setCell ?_ (by (first | omega | (simp; done) | (simp; omega))) _) | (with_reducible refine Below.alloc ?_ (by (first | omega | (simp; done) | (simp; omega))) _) | (with_reducible refine Below.drew ?_) | (with_reducible refine below_drewN ?_ _) | (with_reducible refine Below.trans ?_ (Below.mono Bw7.out (by (first | omega | (simp; done) | (simp; omega))))))), by (repeat' (first | (with_reducible exact Hw7_0.out) | (with_reducible refine BlkP.Blk.drew ?_) | (with_reducible refine BlkP.Blk.drewN ?_ _) | (with_reducible refine BlkP.Blk.setAt (us := ?_) (by first | omega | (simp; done) | (simp; omega)) rfl ?_ ?_) | (with_reducible refine BlkP.Blk.otherAt ?_ (by first | omega | (simp; done) | (simp; omega))) | (with_reducible refine BlkP.Blk.newA' (by first | omega | (simp; done) | (simp; omega)) rfl) | (with_reducible refine BlkP.Blk.alloc ?_ _) | (exact rfl))), trivial⟩ ?_
  rintro w8a ⟨hb, k0, -⟩
  refine (on_c _).mono ?_
  rintro e w8 ⟨rfl, hb2⟩
  have Bw8 := Lib.hid (below_t hb hb2)
  have hzw8 := Bw8.out.size
  have Hw8_0 := Lib.hid (k0.below hb2)
  clear hb hb2 k0 x0 x1 x2 y0 y1 y2 gl
  go_wp2_with fail
  refine calls_named (S := fun W => Below w.heap.size w W ∧ Blk W t TT [.int .i64 0, .int .i64 0, .int .i64 0, .bool true, .int .i64 0, .int .i64 0, .int .i64 0, .bool false] ∧ True) ⟨by (repeat' (first | (with_reducible exact Below.refl _ _) | (with_reducible refine Below.setCell ?_ (by (first | omega | (simp; done) | (simp; omega))) _) | (with_reducible refine Below.alloc ?_ (by (first | omega | (simp; done) | (simp; omega))) _) | (with_reducible refine Below.drew ?_) | (with_reducible refine below_drewN ?_ _) | (with_reducible refine Below.trans ?_ (Below.mono Bw8.out (by (first | omega | (simp; done) | (simp; omega))))))), by (repeat' (first | (with_reducible exact Hw8_0.out) | (with_reducible refine BlkP.Blk.drew ?_) | (with_reducible refine BlkP.Blk.drewN ?_ _) | (with_reducible refine BlkP.Blk.setAt (us := ?_) (by first | omega | (simp; done) | (simp; omega)) rfl ?_ ?_) | (with_reducible refine BlkP.Blk.otherAt ?_ (by first | omega | (simp; done) | (simp; omega))) | (with_reducible refine BlkP.Blk.newA' (by first | omega | (simp; done) | (simp; omega)) rfl) | (with_reducible refine BlkP.Blk.alloc ?_ _) | (exact rfl))), trivial⟩ ?_
  rintro w9a ⟨hb, k0, -⟩
  refine (Spots_c (a := ((-65536, 0, -65536), true)) (b := ((0, 0, 0), false)) (is64 (by omega) (by omega)) (is64 (by omega) (by omega))).mono ?_
  rintro e w9 ⟨v, rfl, ho, hb2⟩
  obtain ⟨A1, c1, rfl, _, _, _⟩ := own_len ho (show (rspots ((-65536, 0, -65536), true) ((0, 0, 0), false)).length = 16 by kernel_rfl)
  clear ho
  have Bw9 := Lib.hid (below_t hb hb2)
  have hzw9 := Bw9.out.size
  have Hw9_0 := Lib.hid (k0.below hb2)
  clear hb hb2 k0
  go_wp2_with fail
  refine calls_named (S := fun W => Below w.heap.size w W ∧ Blk W t TT [.int .i64 0, .int .i64 0, .int .i64 0, .bool true, .int .i64 0, .int .i64 0, .int .i64 0, .bool false] ∧ True) ⟨by (repeat' (first | (with_reducible exact Below.refl _ _) | (with_reducible refine Below.setCell ?_ (by (first | omega | (simp; done) | (simp; omega))) _) | (with_reducible refine Below.alloc ?_ (by (first | omega | (simp; done) | (simp; omega))) _) | (with_reducible refine Below.drew ?_) | (with_reducible refine below_drewN ?_ _) | (with_reducible refine Below.trans ?_ (Below.mono Bw9.out (by (first | omega | (simp; done) | (simp; omega))))))), by (repeat' (first | (with_reducible exact Hw9_0.out) | (with_reducible refine BlkP.Blk.drew ?_) | (with_reducible refine BlkP.Blk.drewN ?_ _) | (with_reducible refine BlkP.Blk.setAt (us := ?_) (by first | omega | (simp; done) | (simp; omega)) rfl ?_ ?_) | (with_reducible refine BlkP.Blk.otherAt ?_ (by first | omega | (simp; done) | (simp; omega))) | (with_reducible refine BlkP.Blk.newA' (by first | omega | (simp; done) | (simp; omega)) rfl) | (with_reducible refine BlkP.Blk.alloc ?_ _) | (exact rfl))), trivial⟩ ?_
  rintro w10a ⟨hb, k0, -⟩
  refine (on_c _).mono ?_
  rintro e w10 ⟨rfl, hb2⟩
  have Bw10 := Lib.hid (below_t hb hb2)
  have hzw10 := Bw10.out.size
  have Hw10_0 := Lib.hid (k0.below hb2)
  clear hb hb2 k0
  go_wp2_with fail
  refine calls_named (S := fun W => Below w.heap.size w W ∧ Blk W t TT [.int .i64 0, .int .i64 0, .int .i64 0, .bool true, .int .i64 0, .int .i64 0, .int .i64 0, .bool false] ∧ True) ⟨by (repeat' (first | (with_reducible exact Below.refl _ _) | (with_reducible refine Below.setCell ?_ (by (first | omega | (simp; done) | (simp; omega))) _) | (with_reducible refine Below.alloc ?_ (by (first | omega | (simp; done) | (simp; omega))) _) | (with_reducible refine Below.drew ?_) | (with_reducible refine below_drewN ?_ _) | (with_reducible refine Below.trans ?_ (Below.mono Bw10.out (by (first | omega | (simp; done) | (simp; omega))))))), by (repeat' (first | (with_reducible exact Hw10_0.out) | (with_reducible refine BlkP.Blk.drew ?_) | (with_reducible refine BlkP.Blk.drewN ?_ _) | (with_reducible refine BlkP.Blk.setAt (us := ?_) (by first | omega | (simp; done) | (simp; omega)) rfl ?_ ?_) | (with_reducible refine BlkP.Blk.otherAt ?_ (by first | omega | (simp; done) | (simp; omega))) | (with_reducible refine BlkP.Blk.newA' (by first | omega | (simp; done) | (simp; omega)) rfl) | (with_reducible refine BlkP.Blk.alloc ?_ _) | (exact rfl))), trivial⟩ ?_
  rintro w11a ⟨hb, k0, -⟩
  refine (on_c _).mono ?_
  rintro e w11 ⟨rfl, hb2⟩
  have Bw11 := Lib.hid (below_t hb hb2)
  have hzw11 := Bw11.out.size
  have Hw11_0 := Lib.hid (k0.below hb2)
  clear hb hb2 k0
  go_wp2_with fail
  refine calls_named (S := fun W => Below w.heap.size w W ∧ Blk W t TT [.int .i64 0, .int .i64 0, .int .i64 0, .bool true, .int .i64 0, .int .i64 0, .int .i64 0, .bool false] ∧ True) ⟨by (repeat' (first | (with_reducible exact Below.refl _ _) | (with_reducible refine Below.setCell ?_ (by (first | omega | (simp; done) | (simp; omega))) _) | (with_reducible refine Below.alloc ?_ (by (first | omega | (simp; done) | (simp; omega))) _) | (with_reducible refine Below.drew ?_) | (with_reducible refine below_drewN ?_ _) | (with_reducible refine Below.trans ?_ (Below.mono Bw11.out (by (first | omega | (simp; done) | (simp; omega))))))), by (repeat' (first | (with_reducible exact Hw11_0.out) | (with_reducible refine BlkP.Blk.drew ?_) | (with_reducible refine BlkP.Blk.drewN ?_ _) | (with_reducible refine BlkP.Blk.setAt (us := ?_) (by first | omega | (simp; done) | (simp; omega)) rfl ?_ ?_) | (with_reducible refine BlkP.Blk.otherAt ?_ (by first | omega | (simp; done) | (simp; omega))) | (with_reducible refine BlkP.Blk.newA' (by first | omega | (simp; done) | (simp; omega)) rfl) | (with_reducible refine BlkP.Blk.alloc ?_ _) | (exact rfl))), trivial⟩ ?_
  rintro w12a ⟨hb, k0, -⟩
  refine (Spots_c (a := ((0, 0, 0), true)) (b := ((1, 3, 0), true)) (is64 (by omega) (by omega)) (is64 (by omega) (by omega))).mono ?_
  rintro e w12 ⟨v, rfl, ho, hb2⟩
  obtain ⟨A2, c2, rfl, _, _, _⟩ := own_len ho (show (rspots ((0, 0, 0), true) ((1, 3, 0), true)).length = 48 by kernel_rfl)
  clear ho
  have Bw12 := Lib.hid (below_t hb hb2)
  have hzw12 := Bw12.out.size
  have Hw12_0 := Lib.hid (k0.below hb2)
  clear hb hb2 k0
  have t_0 := Hw12_0.out.cell (i := 0) rfl
  have t_1 := Hw12_0.out.cell (i := 1) rfl
  have t_2 := Hw12_0.out.cell (i := 2) rfl
  have t_3 := Hw12_0.out.cell (i := 3) rfl
  have t_4 := Hw12_0.out.cell (i := 4) rfl
  have t_5 := Hw12_0.out.cell (i := 5) rfl
  have t_6 := Hw12_0.out.cell (i := 6) rfl
  have t_7 := Hw12_0.out.cell (i := 7) rfl
  have t_l := Hw12_0.out.lt
  go_wp2_with fail
  refine calls_named (S := fun W => Below w.heap.size w W ∧ Blk W t TT [.int .i64 0, .int .i64 0, .int .i64 0, .bool true, .int .i64 0, .int .i64 0, .int .i64 0, .bool false] ∧ True) ⟨by (repeat' (first | (with_reducible exact Below.refl _ _) | (with_reducible refine Below.setCell ?_ (by (first | omega | (simp; done) | (simp; omega))) _) | (with_reducible refine Below.alloc ?_ (by (first | omega | (simp; done) | (simp; omega))) _) | (with_reducible refine Below.drew ?_) | (with_reducible refine below_drewN ?_ _) | (with_reducible refine Below.trans ?_ (Below.mono Bw12.out (by (first | omega | (simp; done) | (simp; omega))))))), by (repeat' (first | (with_reducible exact Hw12_0.out) | (with_reducible refine BlkP.Blk.drew ?_) | (with_reducible refine BlkP.Blk.drewN ?_ _) | (with_reducible refine BlkP.Blk.setAt (us := ?_) (by first | omega | (simp; done) | (simp; omega)) rfl ?_ ?_) | (with_reducible refine BlkP.Blk.otherAt ?_ (by first | omega | (simp; done) | (simp; omega))) | (with_reducible refine BlkP.Blk.newA' (by first | omega | (simp; done) | (simp; omega)) rfl) | (with_reducible refine BlkP.Blk.alloc ?_ _) | (exact rfl))), trivial⟩ ?_
  rintro w13a ⟨hb, k0, -⟩
  refine (In_c (a := ((0, 0, 0), true)) (b := ((0, 0, 0), false)) (r := true) (by decide)).mono ?_
  rintro e w13 ⟨rfl, hb2⟩
  have Bw13 := Lib.hid (below_t hb hb2)
  have hzw13 := Bw13.out.size
  have Hw13_0 := Lib.hid (k0.below hb2)
  clear hb hb2 k0 t_0 t_1 t_2 t_3 t_4 t_5 t_6 t_7 t_l
  have t_0 := Hw13_0.out.cell (i := 0) rfl
  have t_1 := Hw13_0.out.cell (i := 1) rfl
  have t_2 := Hw13_0.out.cell (i := 2) rfl
  have t_3 := Hw13_0.out.cell (i := 3) rfl
  have t_4 := Hw13_0.out.cell (i := 4) rfl
  have t_5 := Hw13_0.out.cell (i := 5) rfl
  have t_6 := Hw13_0.out.cell (i := 6) rfl
  have t_7 := Hw13_0.out.cell (i := 7) rfl
  have t_l := Hw13_0.out.lt
  go_wp2_with fail
  refine calls_named (S := fun W => Below w.heap.size w W ∧ Blk W t TT [.int .i64 0, .int .i64 0, .int .i64 0, .bool true, .int .i64 0, .int .i64 0, .int .i64 0, .bool false] ∧ True) ⟨by (repeat' (first | (with_reducible exact Below.refl _ _) | (with_reducible refine Below.setCell ?_ (by (first | omega | (simp; done) | (simp; omega))) _) | (with_reducible refine Below.alloc ?_ (by (first | omega | (simp; done) | (simp; omega))) _) | (with_reducible refine Below.drew ?_) | (with_reducible refine below_drewN ?_ _) | (with_reducible refine Below.trans ?_ (Below.mono Bw13.out (by (first | omega | (simp; done) | (simp; omega))))))), by (repeat' (first | (with_reducible exact Hw13_0.out) | (with_reducible refine BlkP.Blk.drew ?_) | (with_reducible refine BlkP.Blk.drewN ?_ _) | (with_reducible refine BlkP.Blk.setAt (us := ?_) (by first | omega | (simp; done) | (simp; omega)) rfl ?_ ?_) | (with_reducible refine BlkP.Blk.otherAt ?_ (by first | omega | (simp; done) | (simp; omega))) | (with_reducible refine BlkP.Blk.newA' (by first | omega | (simp; done) | (simp; omega)) rfl) | (with_reducible refine BlkP.Blk.alloc ?_ _) | (exact rfl))), trivial⟩ ?_
  rintro w14a ⟨hb, k0, -⟩
  refine (In_c (a := ((0, 0, 0), true)) (b := ((0, 0, 0), false)) (r := false) (by decide)).mono ?_
  rintro e w14 ⟨rfl, hb2⟩
  have Bw14 := Lib.hid (below_t hb hb2)
  have hzw14 := Bw14.out.size
  have Hw14_0 := Lib.hid (k0.below hb2)
  clear hb hb2 k0 t_0 t_1 t_2 t_3 t_4 t_5 t_6 t_7 t_l
  have t_0 := Hw14_0.out.cell (i := 0) rfl
  have t_1 := Hw14_0.out.cell (i := 1) rfl
  have t_2 := Hw14_0.out.cell (i := 2) rfl
  have t_3 := Hw14_0.out.cell (i := 3) rfl
  have t_4 := Hw14_0.out.cell (i := 4) rfl
  have t_5 := Hw14_0.out.cell (i := 5) rfl
  have t_6 := Hw14_0.out.cell (i := 6) rfl
  have t_7 := Hw14_0.out.cell (i := 7) rfl
  have t_l := Hw14_0.out.lt
  go_wp2_with fail
  refine calls_named (S := fun W => Below w.heap.size w W ∧ Blk W t TT [.int .i64 0, .int .i64 0, .int .i64 0, .bool true, .int .i64 0, .int .i64 0, .int .i64 0, .bool false] ∧ True) ⟨by (repeat' (first | (with_reducible exact Below.refl _ _) | (with_reducible refine Below.setCell ?_ (by (first | omega | (simp; done) | (simp; omega))) _) | (with_reducible refine Below.alloc ?_ (by (first | omega | (simp; done) | (simp; omega))) _) | (with_reducible refine Below.drew ?_) | (with_reducible refine below_drewN ?_ _) | (with_reducible refine Below.trans ?_ (Below.mono Bw14.out (by (first | omega | (simp; done) | (simp; omega))))))), by (repeat' (first | (with_reducible exact Hw14_0.out) | (with_reducible refine BlkP.Blk.drew ?_) | (with_reducible refine BlkP.Blk.drewN ?_ _) | (with_reducible refine BlkP.Blk.setAt (us := ?_) (by first | omega | (simp; done) | (simp; omega)) rfl ?_ ?_) | (with_reducible refine BlkP.Blk.otherAt ?_ (by first | omega | (simp; done) | (simp; omega))) | (with_reducible refine BlkP.Blk.newA' (by first | omega | (simp; done) | (simp; omega)) rfl) | (with_reducible refine BlkP.Blk.alloc ?_ _) | (exact rfl))), trivial⟩ ?_
  rintro w15a ⟨hb, k0, -⟩
  refine (In_c (a := ((0, 0, 0), true)) (b := ((0, 0, 0), false)) (r := false) (by decide)).mono ?_
  rintro e w15 ⟨rfl, hb2⟩
  have Bw15 := Lib.hid (below_t hb hb2)
  have hzw15 := Bw15.out.size
  have Hw15_0 := Lib.hid (k0.below hb2)
  clear hb hb2 k0 t_0 t_1 t_2 t_3 t_4 t_5 t_6 t_7 t_l
  have t_0 := Hw15_0.out.cell (i := 0) rfl
  have t_1 := Hw15_0.out.cell (i := 1) rfl
  have t_2 := Hw15_0.out.cell (i := 2) rfl
  have t_3 := Hw15_0.out.cell (i := 3) rfl
  have t_4 := Hw15_0.out.cell (i := 4) rfl
  have t_5 := Hw15_0.out.cell (i := 5) rfl
  have t_6 := Hw15_0.out.cell (i := 6) rfl
  have t_7 := Hw15_0.out.cell (i := 7) rfl
  have t_l := Hw15_0.out.lt
  go_wp2_with fail
  go_ret
  exact ⟨rfl, Bw15.out⟩
end AncW
end Go.Proofs.Ytcmmfihhnmhhgaa
