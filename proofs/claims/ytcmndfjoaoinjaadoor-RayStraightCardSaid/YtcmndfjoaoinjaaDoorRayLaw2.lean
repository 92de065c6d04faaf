/-
  The laws of ray: the chapter's examples; Way is as the document says, in new memory.
-/
import Derived.Test.YtcmndfjoaoinjaaDoorRayLaw1
namespace Go.Proofs.YtcmndfjoaoinjaaDoor
open Go.RowKit
set_option linter.unusedVariables false
set_option linter.unusedSimpArgs false
namespace RayP
open PlaceW BlkP
theorem kn_1 : errA ⟨0, 0, 20⟩ ⟨1, 0, 0⟩ (3) = 0 ∧ ansA ⟨0, 0, 20⟩ ⟨1, 0, 0⟩ (3) = [⟨1, 0, 20⟩, ⟨2, 0, 20⟩, ⟨3, 0, 20⟩] := ⟨by kernel_rfl, by kernel_rfl⟩
theorem kn_2 : errA ⟨0, 0, 20⟩ ⟨2, -1, 0⟩ (4) = 0 ∧ ansA ⟨0, 0, 20⟩ ⟨2, -1, 0⟩ (4) = [⟨1, 0, 20⟩, ⟨1, -1, 20⟩, ⟨2, -1, 20⟩, ⟨3, -1, 20⟩] := ⟨by kernel_rfl, by kernel_rfl⟩
theorem kn_3 : errA ⟨0, 0, 62⟩ ⟨0, 0, 1⟩ (9) = 0 ∧ ansA ⟨0, 0, 62⟩ ⟨0, 0, 1⟩ (9) = [⟨0, 0, 63⟩] := ⟨by kernel_rfl, by kernel_rfl⟩
theorem kn_4 : errA ⟨0, 0, 20⟩ ⟨0, 0, -5⟩ (0) = 0 ∧ ansA ⟨0, 0, 20⟩ ⟨0, 0, -5⟩ (0) = [] := ⟨by kernel_rfl, by kernel_rfl⟩
theorem kn_5 : errA ⟨0, 0, 0⟩ ⟨0, 0, 0⟩ (1) = 2 ∧ ansA ⟨0, 0, 0⟩ ⟨0, 0, 0⟩ (1) = [] := ⟨by kernel_rfl, by kernel_rfl⟩
theorem kn_6 : errA ⟨0, 0, 0⟩ ⟨1001, 0, 0⟩ (1) = 2 ∧ ansA ⟨0, 0, 0⟩ ⟨1001, 0, 0⟩ (1) = [] := ⟨by kernel_rfl, by kernel_rfl⟩
theorem kn_7 : errA ⟨0, 0, 0⟩ ⟨1, 0, 0⟩ (257) = 2 ∧ ansA ⟨0, 0, 0⟩ ⟨1, 0, 0⟩ (257) = [] := ⟨by kernel_rfl, by kernel_rfl⟩
theorem kn_8 : errA ⟨0, 0, 0⟩ ⟨1, 0, 0⟩ (-1) = 2 ∧ ansA ⟨0, 0, 0⟩ ⟨1, 0, 0⟩ (-1) = [] := ⟨by kernel_rfl, by kernel_rfl⟩
set_option maxRecDepth 100000 in
set_option maxHeartbeats 8000000 in
theorem law_known {w : World} (hT : ATab w) : Calls Tryd.prog 4 #[] w fun e w' => e = .returned (.bool true) ∧ Below w.heap.size w w' := by
  have HT := Lib.hid hT
  clear hT
  go_enter Tryd.func4, Tryd.ntmps4
  go_wp2_with fail
  go_at_call 10
  refine (awake_c (HT.out.below (by (repeat' (first | (with_reducible exact Below.refl _ _) | (with_reducible refine Below.setCell ?_ (by (first | omega | (simp; done) | (simp; omega))) _) | (with_reducible refine Below.alloc ?_ (by (first | omega | (simp; done) | (simp; omega))) _) | (with_reducible refine Below.drew ?_) | (with_reducible refine below_drewN ?_ _)))))).mono ?_
  rintro e w0 ⟨rfl, hb0⟩
  have hP0 : Blk w0 w.heap.size 23 [.int .i64 0, .int .i64 20, .int .i64 0] := BlkP.Blk.below (by (repeat' (first | (with_reducible refine BlkP.Blk.drew ?_) | (with_reducible refine BlkP.Blk.drewN ?_ _) | (with_reducible refine BlkP.Blk.setAt (us := ?_) (by first | omega | (simp; done) | (simp; omega)) rfl ?_ ?_) | (with_reducible refine BlkP.Blk.otherAt ?_ (by first | omega | (simp; done) | (simp; omega))) | (with_reducible refine BlkP.Blk.newA' (by first | omega | (simp; done) | (simp; omega)) rfl) | (with_reducible refine BlkP.Blk.alloc ?_ _) | (exact rfl)))) hb0
  have HB0 : Hid (Below w.heap.size w w0) := Lib.hid (by (repeat' (first | (with_reducible exact Below.refl _ _) | (with_reducible refine Below.setCell ?_ (by (first | omega | (simp; done) | (simp; omega))) _) | (with_reducible refine Below.alloc ?_ (by (first | omega | (simp; done) | (simp; omega))) _) | (with_reducible refine Below.drew ?_) | (with_reducible refine below_drewN ?_ _) | (with_reducible refine Below.trans ?_ (Below.mono hb0 (by (first | omega | (simp; done) | (simp; omega))))))))
  have HP0 := Lib.hid hP0
  clear hb0
  have c0 := hP0.cell (i := 0) (v := .int .i64 0) rfl
  have c1 := hP0.cell (i := 1) (v := .int .i64 20) rfl
  have c2 := hP0.cell (i := 2) (v := .int .i64 0) rfl
  have hl := hP0.lt
  clear hP0
  go_wp2_with fail
  go_at_call 11
  refine (goes_yes (p := ⟨0, 0, 20⟩) (d := ⟨1, 0, 0⟩) (n := 3) (HT.out.below (by (have hq := HB0.out; (repeat' (first | (with_reducible exact Below.refl _ _) | (with_reducible refine Below.setCell ?_ (by (first | omega | (simp; done) | (simp; omega))) _) | (with_reducible refine Below.alloc ?_ (by (first | omega | (simp; done) | (simp; omega))) _) | (with_reducible refine Below.drew ?_) | (with_reducible refine below_drewN ?_ _) | (with_reducible refine Below.trans ?_ (Below.mono hq (by (first | omega | (simp; done) | (simp; omega)))))))))) kn_1.1 kn_1.2 (by decide) (IntT.of (by (repeat' (first | (with_reducible refine BlkP.Blk.drew ?_) | (with_reducible refine BlkP.Blk.drewN ?_ _) | (with_reducible refine BlkP.Blk.setAt (us := ?_) (by first | omega | (simp; done) | (simp; omega)) rfl ?_ ?_) | (with_reducible refine BlkP.Blk.otherAt ?_ (by first | omega | (simp; done) | (simp; omega))) | (with_reducible refine BlkP.Blk.newA' (by first | omega | (simp; done) | (simp; omega)) rfl) | (with_reducible refine BlkP.Blk.alloc ?_ _) | (exact rfl)))) (by decide) rfl)).mono ?_
  rintro e w1 ⟨rfl, hb1⟩
  have hP1 : Blk w1 w.heap.size 23 [.int .i64 0, .int .i64 20, .int .i64 0] := BlkP.Blk.below (by (have hq := HP0.out; (repeat' (first | (with_reducible exact hq) | (with_reducible refine BlkP.Blk.drew ?_) | (with_reducible refine BlkP.Blk.drewN ?_ _) | (with_reducible refine BlkP.Blk.setAt (us := ?_) (by first | omega | (simp; done) | (simp; omega)) rfl ?_ ?_) | (with_reducible refine BlkP.Blk.otherAt ?_ (by first | omega | (simp; done) | (simp; omega))) | (with_reducible refine BlkP.Blk.newA' (by first | omega | (simp; done) | (simp; omega)) rfl) | (with_reducible refine BlkP.Blk.alloc ?_ _) | (exact rfl))))) hb1
  have HB1 : Hid (Below w.heap.size w w1) := Lib.hid (by (have hq := HB0.out; (repeat' (first | (with_reducible exact Below.refl _ _) | (with_reducible refine Below.setCell ?_ (by (first | omega | (simp; done) | (simp; omega))) _) | (with_reducible refine Below.alloc ?_ (by (first | omega | (simp; done) | (simp; omega))) _) | (with_reducible refine Below.drew ?_) | (with_reducible refine below_drewN ?_ _) | (with_reducible refine Below.trans ?_ (Below.mono hb1 (by (first | omega | (simp; done) | (simp; omega))))) | (with_reducible refine Below.trans ?_ (Below.mono hq (by (first | omega | (simp; done) | (simp; omega)))))))))
  have HP1 := Lib.hid hP1
  clear c0 c1 c2 hl hb1
  have c0 := hP1.cell (i := 0) (v := .int .i64 0) rfl
  have c1 := hP1.cell (i := 1) (v := .int .i64 20) rfl
  have c2 := hP1.cell (i := 2) (v := .int .i64 0) rfl
  have hl := hP1.lt
  clear hP1
  go_wp2_with fail
  go_at_call 11
  refine (goes_yes (p := ⟨0, 0, 20⟩) (d := ⟨2, -1, 0⟩) (n := 4) (HT.out.below (by (have hq := HB1.out; (repeat' (first | (with_reducible exact Below.refl _ _) | (with_reducible refine Below.setCell ?_ (by (first | omega | (simp; done) | (simp; omega))) _) | (with_reducible refine Below.alloc ?_ (by (first | omega | (simp; done) | (simp; omega))) _) | (with_reducible refine Below.drew ?_) | (with_reducible refine below_drewN ?_ _) | (with_reducible refine Below.trans ?_ (Below.mono hq (by (first | omega | (simp; done) | (simp; omega)))))))))) kn_2.1 kn_2.2 (by decide) (IntT.of (by (repeat' (first | (with_reducible refine BlkP.Blk.drew ?_) | (with_reducible refine BlkP.Blk.drewN ?_ _) | (with_reducible refine BlkP.Blk.setAt (us := ?_) (by first | omega | (simp; done) | (simp; omega)) rfl ?_ ?_) | (with_reducible refine BlkP.Blk.otherAt ?_ (by first | omega | (simp; done) | (simp; omega))) | (with_reducible refine BlkP.Blk.newA' (by first | omega | (simp; done) | (simp; omega)) rfl) | (with_reducible refine BlkP.Blk.alloc ?_ _) | (exact rfl)))) (by decide) rfl)).mono ?_
  rintro e w2 ⟨rfl, hb2⟩
  have hP2 : Blk w2 w.heap.size 23 [.int .i64 0, .int .i64 20, .int .i64 0] := BlkP.Blk.below (by (have hq := HP1.out; (repeat' (first | (with_reducible exact hq) | (with_reducible refine BlkP.Blk.drew ?_) | (with_reducible refine BlkP.Blk.drewN ?_ _) | (with_reducible refine BlkP.Blk.setAt (us := ?_) (by first | omega | (simp; done) | (simp; omega)) rfl ?_ ?_) | (with_reducible refine BlkP.Blk.otherAt ?_ (by first | omega | (simp; done) | (simp; omega))) | (with_reducible refine BlkP.Blk.newA' (by first | omega | (simp; done) | (simp; omega)) rfl) | (with_reducible refine BlkP.Blk.alloc ?_ _) | (exact rfl))))) hb2
  have HB2 : Hid (Below w.heap.size w w2) := Lib.hid (by (have hq := HB1.out; (repeat' (first | (with_reducible exact Below.refl _ _) | (with_reducible refine Below.setCell ?_ (by (first | omega | (simp; done) | (simp; omega))) _) | (with_reducible refine Below.alloc ?_ (by (first | omega | (simp; done) | (simp; omega))) _) | (with_reducible refine Below.drew ?_) | (with_reducible refine below_drewN ?_ _) | (with_reducible refine Below.trans ?_ (Below.mono hb2 (by (first | omega | (simp; done) | (simp; omega))))) | (with_reducible refine Below.trans ?_ (Below.mono hq (by (first | omega | (simp; done) | (simp; omega)))))))))
  have HP2 := Lib.hid hP2
  clear c0 c1 c2 hl hb2
  have c0 := hP2.cell (i := 0) (v := .int .i64 0) rfl
  have c1 := hP2.cell (i := 1) (v := .int .i64 20) rfl
  have c2 := hP2.cell (i := 2) (v := .int .i64 0) rfl
  have hl := hP2.lt
  clear hP2
  go_wp2_with fail
  go_at_call 11
  refine (goes_yes (p := ⟨0, 0, 62⟩) (d := ⟨0, 0, 1⟩) (n := 9) (HT.out.below (by (have hq := HB2.out; (repeat' (first | (with_reducible exact Below.refl _ _) | (with_reducible refine Below.setCell ?_ (by (first | omega | (simp; done) | (simp; omega))) _) | (with_reducible refine Below.alloc ?_ (by (first | omega | (simp; done) | (simp; omega))) _) | (with_reducible refine Below.drew ?_) | (with_reducible refine below_drewN ?_ _) | (with_reducible refine Below.trans ?_ (Below.mono hq (by (first | omega | (simp; done) | (simp; omega)))))))))) kn_3.1 kn_3.2 (by decide) (IntT.of (by (repeat' (first | (with_reducible refine BlkP.Blk.drew ?_) | (with_reducible refine BlkP.Blk.drewN ?_ _) | (with_reducible refine BlkP.Blk.setAt (us := ?_) (by first | omega | (simp; done) | (simp; omega)) rfl ?_ ?_) | (with_reducible refine BlkP.Blk.otherAt ?_ (by first | omega | (simp; done) | (simp; omega))) | (with_reducible refine BlkP.Blk.newA' (by first | omega | (simp; done) | (simp; omega)) rfl) | (with_reducible refine BlkP.Blk.alloc ?_ _) | (exact rfl)))) (by decide) rfl)).mono ?_
  rintro e w3 ⟨rfl, hb3⟩
  have hP3 : Blk w3 w.heap.size 23 [.int .i64 0, .int .i64 20, .int .i64 0] := BlkP.Blk.below (by (have hq := HP2.out; (repeat' (first | (with_reducible exact hq) | (with_reducible refine BlkP.Blk.drew ?_) | (with_reducible refine BlkP.Blk.drewN ?_ _) | (with_reducible refine BlkP.Blk.setAt (us := ?_) (by first | omega | (simp; done) | (simp; omega)) rfl ?_ ?_) | (with_reducible refine BlkP.Blk.otherAt ?_ (by first | omega | (simp; done) | (simp; omega))) | (with_reducible refine BlkP.Blk.newA' (by first | omega | (simp; done) | (simp; omega)) rfl) | (with_reducible refine BlkP.Blk.alloc ?_ _) | (exact rfl))))) hb3
  have HB3 : Hid (Below w.heap.size w w3) := Lib.hid (by (have hq := HB2.out; (repeat' (first | (with_reducible exact Below.refl _ _) | (with_reducible refine Below.setCell ?_ (by (first | omega | (simp; done) | (simp; omega))) _) | (with_reducible refine Below.alloc ?_ (by (first | omega | (simp; done) | (simp; omega))) _) | (with_reducible refine Below.drew ?_) | (with_reducible refine below_drewN ?_ _) | (with_reducible refine Below.trans ?_ (Below.mono hb3 (by (first | omega | (simp; done) | (simp; omega))))) | (with_reducible refine Below.trans ?_ (Below.mono hq (by (first | omega | (simp; done) | (simp; omega)))))))))
  have HP3 := Lib.hid hP3
  clear c0 c1 c2 hl hb3
  have c0 := hP3.cell (i := 0) (v := .int .i64 0) rfl
  have c1 := hP3.cell (i := 1) (v := .int .i64 20) rfl
  have c2 := hP3.cell (i := 2) (v := .int .i64 0) rfl
  have hl := hP3.lt
  clear hP3
  go_wp2_with fail
  go_at_call 11
  refine (goes_yes (p := ⟨0, 0, 20⟩) (d := ⟨0, 0, -5⟩) (n := 0) (HT.out.below (by (have hq := HB3.out; (repeat' (first | (with_reducible exact Below.refl _ _) | (with_reducible refine Below.setCell ?_ (by (first | omega | (simp; done) | (simp; omega))) _) | (with_reducible refine Below.alloc ?_ (by (first | omega | (simp; done) | (simp; omega))) _) | (with_reducible refine Below.drew ?_) | (with_reducible refine below_drewN ?_ _) | (with_reducible refine Below.trans ?_ (Below.mono hq (by (first | omega | (simp; done) | (simp; omega)))))))))) kn_4.1 kn_4.2 (by decide) (IntT.nil _)).mono ?_
  rintro e w4 ⟨rfl, hb4⟩
  have hP4 : Blk w4 w.heap.size 23 [.int .i64 0, .int .i64 20, .int .i64 0] := BlkP.Blk.below (by (have hq := HP3.out; (repeat' (first | (with_reducible exact hq) | (with_reducible refine BlkP.Blk.drew ?_) | (with_reducible refine BlkP.Blk.drewN ?_ _) | (with_reducible refine BlkP.Blk.setAt (us := ?_) (by first | omega | (simp; done) | (simp; omega)) rfl ?_ ?_) | (with_reducible refine BlkP.Blk.otherAt ?_ (by first | omega | (simp; done) | (simp; omega))) | (with_reducible refine BlkP.Blk.newA' (by first | omega | (simp; done) | (simp; omega)) rfl) | (with_reducible refine BlkP.Blk.alloc ?_ _) | (exact rfl))))) hb4
  have HB4 : Hid (Below w.heap.size w w4) := Lib.hid (by (have hq := HB3.out; (repeat' (first | (with_reducible exact Below.refl _ _) | (with_reducible refine Below.setCell ?_ (by (first | omega | (simp; done) | (simp; omega))) _) | (with_reducible refine Below.alloc ?_ (by (first | omega | (simp; done) | (simp; omega))) _) | (with_reducible refine Below.drew ?_) | (with_reducible refine below_drewN ?_ _) | (with_reducible refine Below.trans ?_ (Below.mono hb4 (by (first | omega | (simp; done) | (simp; omega))))) | (with_reducible refine Below.trans ?_ (Below.mono hq (by (first | omega | (simp; done) | (simp; omega)))))))))
  have HP4 := Lib.hid hP4
  clear c0 c1 c2 hl hb4
  have c0 := hP4.cell (i := 0) (v := .int .i64 0) rfl
  have c1 := hP4.cell (i := 1) (v := .int .i64 20) rfl
  have c2 := hP4.cell (i := 2) (v := .int .i64 0) rfl
  have hl := hP4.lt
  clear hP4
  go_wp2_with fail
  go_at_call 12
  refine (no_yes (p := ⟨0, 0, 0⟩) (d := ⟨0, 0, 0⟩) (n := 1) (HT.out.below (by (have hq := HB4.out; (repeat' (first | (with_reducible exact Below.refl _ _) | (with_reducible refine Below.setCell ?_ (by (first | omega | (simp; done) | (simp; omega))) _) | (with_reducible refine Below.alloc ?_ (by (first | omega | (simp; done) | (simp; omega))) _) | (with_reducible refine Below.drew ?_) | (with_reducible refine below_drewN ?_ _) | (with_reducible refine Below.trans ?_ (Below.mono hq (by (first | omega | (simp; done) | (simp; omega)))))))))) kn_5.1 kn_5.2).mono ?_
  rintro e w5 ⟨rfl, hb5⟩
  have hP5 : Blk w5 w.heap.size 23 [.int .i64 0, .int .i64 20, .int .i64 0] := BlkP.Blk.below (by (have hq := HP4.out; (repeat' (first | (with_reducible exact hq) | (with_reducible refine BlkP.Blk.drew ?_) | (with_reducible refine BlkP.Blk.drewN ?_ _) | (with_reducible refine BlkP.Blk.setAt (us := ?_) (by first | omega | (simp; done) | (simp; omega)) rfl ?_ ?_) | (with_reducible refine BlkP.Blk.otherAt ?_ (by first | omega | (simp; done) | (simp; omega))) | (with_reducible refine BlkP.Blk.newA' (by first | omega | (simp; done) | (simp; omega)) rfl) | (with_reducible refine BlkP.Blk.alloc ?_ _) | (exact rfl))))) hb5
  have HB5 : Hid (Below w.heap.size w w5) := Lib.hid (by (have hq := HB4.out; (repeat' (first | (with_reducible exact Below.refl _ _) | (with_reducible refine Below.setCell ?_ (by (first | omega | (simp; done) | (simp; omega))) _) | (with_reducible refine Below.alloc ?_ (by (first | omega | (simp; done) | (simp; omega))) _) | (with_reducible refine Below.drew ?_) | (with_reducible refine below_drewN ?_ _) | (with_reducible refine Below.trans ?_ (Below.mono hb5 (by (first | omega | (simp; done) | (simp; omega))))) | (with_reducible refine Below.trans ?_ (Below.mono hq (by (first | omega | (simp; done) | (simp; omega)))))))))
  have HP5 := Lib.hid hP5
  clear c0 c1 c2 hl hb5
  have c0 := hP5.cell (i := 0) (v := .int .i64 0) rfl
  have c1 := hP5.cell (i := 1) (v := .int .i64 20) rfl
  have c2 := hP5.cell (i := 2) (v := .int .i64 0) rfl
  have hl := hP5.lt
  clear hP5
  go_wp2_with fail
  go_at_call 12
  refine (no_yes (p := ⟨0, 0, 0⟩) (d := ⟨1001, 0, 0⟩) (n := 1) (HT.out.below (by (have hq := HB5.out; (repeat' (first | (with_reducible exact Below.refl _ _) | (with_reducible refine Below.setCell ?_ (by (first | omega | (simp; done) | (simp; omega))) _) | (with_reducible refine Below.alloc ?_ (by (first | omega | (simp; done) | (simp; omega))) _) | (with_reducible refine Below.drew ?_) | (with_reducible refine below_drewN ?_ _) | (with_reducible refine Below.trans ?_ (Below.mono hq (by (first | omega | (simp; done) | (simp; omega)))))))))) kn_6.1 kn_6.2).mono ?_
  rintro e w6 ⟨rfl, hb6⟩
  have hP6 : Blk w6 w.heap.size 23 [.int .i64 0, .int .i64 20, .int .i64 0] := BlkP.Blk.below (by (have hq := HP5.out; (repeat' (first | (with_reducible exact hq) | (with_reducible refine BlkP.Blk.drew ?_) | (with_reducible refine BlkP.Blk.drewN ?_ _) | (with_reducible refine BlkP.Blk.setAt (us := ?_) (by first | omega | (simp; done) | (simp; omega)) rfl ?_ ?_) | (with_reducible refine BlkP.Blk.otherAt ?_ (by first | omega | (simp; done) | (simp; omega))) | (with_reducible refine BlkP.Blk.newA' (by first | omega | (simp; done) | (simp; omega)) rfl) | (with_reducible refine BlkP.Blk.alloc ?_ _) | (exact rfl))))) hb6
  have HB6 : Hid (Below w.heap.size w w6) := Lib.hid (by (have hq := HB5.out; (repeat' (first | (with_reducible exact Below.refl _ _) | (with_reducible refine Below.setCell ?_ (by (first | omega | (simp; done) | (simp; omega))) _) | (with_reducible refine Below.alloc ?_ (by (first | omega | (simp; done) | (simp; omega))) _) | (with_reducible refine Below.drew ?_) | (with_reducible refine below_drewN ?_ _) | (with_reducible refine Below.trans ?_ (Below.mono hb6 (by (first | omega | (simp; done) | (simp; omega))))) | (with_reducible refine Below.trans ?_ (Below.mono hq (by (first | omega | (simp; done) | (simp; omega)))))))))
  have HP6 := Lib.hid hP6
  clear c0 c1 c2 hl hb6
  have c0 := hP6.cell (i := 0) (v := .int .i64 0) rfl
  have c1 := hP6.cell (i := 1) (v := .int .i64 20) rfl
  have c2 := hP6.cell (i := 2) (v := .int .i64 0) rfl
  have hl := hP6.lt
  clear hP6
  go_wp2_with fail
  go_at_call 12
  refine (no_yes (p := ⟨0, 0, 0⟩) (d := ⟨1, 0, 0⟩) (n := 257) (HT.out.below (by (have hq := HB6.out; (repeat' (first | (with_reducible exact Below.refl _ _) | (with_reducible refine Below.setCell ?_ (by (first | omega | (simp; done) | (simp; omega))) _) | (with_reducible refine Below.alloc ?_ (by (first | omega | (simp; done) | (simp; omega))) _) | (with_reducible refine Below.drew ?_) | (with_reducible refine below_drewN ?_ _) | (with_reducible refine Below.trans ?_ (Below.mono hq (by (first | omega | (simp; done) | (simp; omega)))))))))) kn_7.1 kn_7.2).mono ?_
  rintro e w7 ⟨rfl, hb7⟩
  have hP7 : Blk w7 w.heap.size 23 [.int .i64 0, .int .i64 20, .int .i64 0] := BlkP.Blk.below (by (have hq := HP6.out; (repeat' (first | (with_reducible exact hq) | (with_reducible refine BlkP.Blk.drew ?_) | (with_reducible refine BlkP.Blk.drewN ?_ _) | (with_reducible refine BlkP.Blk.setAt (us := ?_) (by first | omega | (simp; done) | (simp; omega)) rfl ?_ ?_) | (with_reducible refine BlkP.Blk.otherAt ?_ (by first | omega | (simp; done) | (simp; omega))) | (with_reducible refine BlkP.Blk.newA' (by first | omega | (simp; done) | (simp; omega)) rfl) | (with_reducible refine BlkP.Blk.alloc ?_ _) | (exact rfl))))) hb7
  have HB7 : Hid (Below w.heap.size w w7) := Lib.hid (by (have hq := HB6.out; (repeat' (first | (with_reducible exact Below.refl _ _) | (with_reducible refine Below.setCell ?_ (by (first | omega | (simp; done) | (simp; omega))) _) | (with_reducible refine Below.alloc ?_ (by (first | omega | (simp; done) | (simp; omega))) _) | (with_reducible refine Below.drew ?_) | (with_reducible refine below_drewN ?_ _) | (with_reducible refine Below.trans ?_ (Below.mono hb7 (by (first | omega | (simp; done) | (simp; omega))))) | (with_reducible refine Below.trans ?_ (Below.mono hq (by (first | omega | (simp; done) | (simp; omega)))))))))
  have HP7 := Lib.hid hP7
  clear c0 c1 c2 hl hb7
  have c0 := hP7.cell (i := 0) (v := .int .i64 0) rfl
  have c1 := hP7.cell (i := 1) (v := .int .i64 20) rfl
  have c2 := hP7.cell (i := 2) (v := .int .i64 0) rfl
  have hl := hP7.lt
  clear hP7
  go_wp2_with fail
  go_at_call 12
  refine (no_yes (p := ⟨0, 0, 0⟩) (d := ⟨1, 0, 0⟩) (n := -1) (HT.out.below (by (have hq := HB7.out; (repeat' (first | (with_reducible exact Below.refl _ _) | (with_reducible refine Below.setCell ?_ (by (first | omega | (simp; done) | (simp; omega))) _) | (with_reducible refine Below.alloc ?_ (by (first | omega | (simp; done) | (simp; omega))) _) | (with_reducible refine Below.drew ?_) | (with_reducible refine below_drewN ?_ _) | (with_reducible refine Below.trans ?_ (Below.mono hq (by (first | omega | (simp; done) | (simp; omega)))))))))) kn_8.1 kn_8.2).mono ?_
  rintro e w8 ⟨rfl, hb8⟩
  have hP8 : Blk w8 w.heap.size 23 [.int .i64 0, .int .i64 20, .int .i64 0] := BlkP.Blk.below (by (have hq := HP7.out; (repeat' (first | (with_reducible exact hq) | (with_reducible refine BlkP.Blk.drew ?_) | (with_reducible refine BlkP.Blk.drewN ?_ _) | (with_reducible refine BlkP.Blk.setAt (us := ?_) (by first | omega | (simp; done) | (simp; omega)) rfl ?_ ?_) | (with_reducible refine BlkP.Blk.otherAt ?_ (by first | omega | (simp; done) | (simp; omega))) | (with_reducible refine BlkP.Blk.newA' (by first | omega | (simp; done) | (simp; omega)) rfl) | (with_reducible refine BlkP.Blk.alloc ?_ _) | (exact rfl))))) hb8
  have HB8 : Hid (Below w.heap.size w w8) := Lib.hid (by (have hq := HB7.out; (repeat' (first | (with_reducible exact Below.refl _ _) | (with_reducible refine Below.setCell ?_ (by (first | omega | (simp; done) | (simp; omega))) _) | (with_reducible refine Below.alloc ?_ (by (first | omega | (simp; done) | (simp; omega))) _) | (with_reducible refine Below.drew ?_) | (with_reducible refine below_drewN ?_ _) | (with_reducible refine Below.trans ?_ (Below.mono hb8 (by (first | omega | (simp; done) | (simp; omega))))) | (with_reducible refine Below.trans ?_ (Below.mono hq (by (first | omega | (simp; done) | (simp; omega)))))))))
  have HP8 := Lib.hid hP8
  clear c0 c1 c2 hl hb8
  have c0 := hP8.cell (i := 0) (v := .int .i64 0) rfl
  have c1 := hP8.cell (i := 1) (v := .int .i64 20) rfl
  have c2 := hP8.cell (i := 2) (v := .int .i64 0) rfl
  have hl := hP8.lt
  clear hP8
  go_wp2_with fail
  go_ret
  exact ⟨rfl, HB8.out⟩
theorem ans_len (p d : T3) (n : Int) : (ansA p d n).length ≤ 256 := by
  unfold ansA
  split
  · rename_i h
    have hn : 0 ≤ n ∧ n ≤ 256 := by
      unfold errA at h
      split at h
      · split at h
        · rename_i q
          exact q.2
        · cases h
      · cases h
    have := way_len (p := p) (d := d) n.toNat ⟨0, 0, 0⟩
    unfold wayA
    omega
  · simp
set_option maxRecDepth 100000 in
set_option maxHeartbeats 8000000 in
theorem law_ways {p d : T3} {n : Int} {w : World} (hT : ATab w) : Calls Tryd.prog 3 #[.agg #[.int .i64 p.x, .int .i64 p.y, .int .i64 p.z], .agg #[.int .i64 d.x, .int .i64 d.y, .int .i64 d.z], .int .i64 n] w fun e w' => e = .returned (.bool true) ∧ Below w.heap.size w w' := by
  have HT := Lib.hid hT
  obtain ⟨er, her⟩ : ∃ er, errA p d n = er := ⟨_, rfl⟩
  obtain ⟨l, hl⟩ : ∃ l, ansA p d n = l := ⟨_, rfl⟩
  have HE := Lib.hid her
  have HL := Lib.hid hl
  have HLL : Hid (l.length ≤ 256) := Lib.hid (hl ▸ ans_len p d n)
  clear hT her hl
  go_enter Tryd.func3, Tryd.ntmps3
  go_wp2_with fail
  go_at_call 7
  refine (way_any (HT.out.below (by (repeat' (first | (with_reducible exact Below.refl _ _) | (with_reducible refine Below.setCell ?_ (by (first | omega | (simp; done) | (simp; omega))) _) | (with_reducible refine Below.alloc ?_ (by (first | omega | (simp; done) | (simp; omega))) _) | (with_reducible refine Below.drew ?_) | (with_reducible refine below_drewN ?_ _))))) HE.out HL.out).mono ?_
  rintro e w1 ⟨va, rfl, hOa, hb1⟩
  have hP1 : Blk w1 w.heap.size 23 (cellsT p) := BlkP.Blk.below (by (repeat' (first | (with_reducible refine BlkP.Blk.drew ?_) | (with_reducible refine BlkP.Blk.drewN ?_ _) | (with_reducible refine BlkP.Blk.setAt (us := ?_) (by first | omega | (simp; done) | (simp; omega)) rfl ?_ ?_) | (with_reducible refine BlkP.Blk.otherAt ?_ (by first | omega | (simp; done) | (simp; omega))) | (with_reducible refine BlkP.Blk.newA' (by first | omega | (simp; done) | (simp; omega)) rfl) | (with_reducible refine BlkP.Blk.alloc ?_ _) | (exact rfl)))) hb1
  have hD1 : Blk w1 (w.heap.size + 1) 24 [.int .i64 d.x, .int .i64 d.y, .int .i64 d.z] := BlkP.Blk.below (by (repeat' (first | (with_reducible refine BlkP.Blk.drew ?_) | (with_reducible refine BlkP.Blk.drewN ?_ _) | (with_reducible refine BlkP.Blk.setAt (us := ?_) (by first | omega | (simp; done) | (simp; omega)) rfl ?_ ?_) | (with_reducible refine BlkP.Blk.otherAt ?_ (by first | omega | (simp; done) | (simp; omega))) | (with_reducible refine BlkP.Blk.newA' (by first | omega | (simp; done) | (simp; omega)) rfl) | (with_reducible refine BlkP.Blk.alloc ?_ _) | (exact rfl)))) hb1
  have HB1 : Hid (Below w.heap.size w w1) := Lib.hid (by (repeat' (first | (with_reducible exact Below.refl _ _) | (with_reducible refine Below.setCell ?_ (by (first | omega | (simp; done) | (simp; omega))) _) | (with_reducible refine Below.alloc ?_ (by (first | omega | (simp; done) | (simp; omega))) _) | (with_reducible refine Below.drew ?_) | (with_reducible refine below_drewN ?_ _) | (with_reducible refine Below.trans ?_ (Below.mono hb1 (by (first | omega | (simp; done) | (simp; omega))))))))
  have HP1 := Lib.hid hP1
  have HD1 := Lib.hid hD1
  have c0 := hP1.cell (i := 0) (v := .int .i64 p.x) rfl
  have c1 := hP1.cell (i := 1) (v := .int .i64 p.y) rfl
  have c2 := hP1.cell (i := 2) (v := .int .i64 p.z) rfl
  have c3 := hD1.cell (i := 0) (v := .int .i64 d.x) rfl
  have c4 := hD1.cell (i := 1) (v := .int .i64 d.y) rfl
  have c5 := hD1.cell (i := 2) (v := .int .i64 d.z) rfl
  have hl := hD1.lt
  have hl0 := hP1.lt
  clear hP1 hD1
  have hlb1 := hb1.size
  try simp at hlb1
  have HOA := Lib.hid hOa
  clear hb1 hOa
  go_wp2_with fail
  go_at_call 7
  refine (way_any (HT.out.below HB1.out) HE.out HL.out).mono ?_
  rintro e w2 ⟨vb, rfl, hOb, hb2⟩
  clear c0 c1 c2 c3 c4 c5 hl hl0
  have hP2 : Blk w2 w.heap.size 23 (cellsT p) := BlkP.Blk.below (by exact HP1.out) hb2
  have hD2 : Blk w2 (w.heap.size + 1) 24 [.int .i64 d.x, .int .i64 d.y, .int .i64 d.z] := BlkP.Blk.below (by exact HD1.out) hb2
  have HB2 : Hid (Below w.heap.size w w2) := Lib.hid (by exact HB1.out.trans (hb2.mono HB1.out.size))
  have HP2 := Lib.hid hP2
  have HD2 := Lib.hid hD2
  have c0 := hP2.cell (i := 0) (v := .int .i64 p.x) rfl
  have c1 := hP2.cell (i := 1) (v := .int .i64 p.y) rfl
  have c2 := hP2.cell (i := 2) (v := .int .i64 p.z) rfl
  have c3 := hD2.cell (i := 0) (v := .int .i64 d.x) rfl
  have c4 := hD2.cell (i := 1) (v := .int .i64 d.y) rfl
  have c5 := hD2.cell (i := 2) (v := .int .i64 d.z) rfl
  have hl := hD2.lt
  have hl0 := hP2.lt
  clear hP2 hD2
  have HOA2 := Lib.hid (HOA.out.below hb2)
  have HOB := Lib.hid hOb
  have HAB : Hid (∀ g, va.ownBlock = some g → g < w1.heap.size) := Lib.hid (fun g hg => (World.ownsRow.lt HOA.out g hg).2)
  have hlb2 := hb2.size
  clear hb2 hOb
  go_wp2_with fail
  go_at_call 8
  refine (r_way_any HE.out HL.out).mono ?_
  rintro e w3 ⟨vc, rfl, hOc, hb3⟩
  clear c0 c1 c2 c3 c4 c5 hl hl0
  have HA3 := Lib.hid (HOA2.out.below hb3)
  have HB3 := Lib.hid (HOB.out.below hb3)
  have HC3 := Lib.hid hOc
  have HBB3 := Lib.hid (HB2.out.trans (hb3.mono HB2.out.size))
  have hlb3 := hb3.size
  clear hb3 hOc
  go_wp2_with fail
  go_at_call 9
  refine (same_yes HA3.out.rowT HC3.out.rowT (by have := HLL.out; omega)).mono ?_
  rintro e w4 ⟨rfl, hb4⟩
  have HA4 := Lib.hid (HA3.out.below hb4)
  have HB4 := Lib.hid (HB3.out.below hb4)
  have HC4 := Lib.hid (HC3.out.below hb4)
  have HBB4 := Lib.hid (HBB3.out.trans (hb4.mono HBB3.out.size))
  have hlb4 := hb4.size
  clear hb4
  obtain ⟨A, ca, hva, hca⟩ := HA4.out.form
  obtain ⟨nn, hnn⟩ : ∃ nn, l.length = nn := ⟨_, rfl⟩
  have hnn256 : nn ≤ 256 := hnn ▸ HLL.out
  have HAN : Hid (w4.ownsRow (w.heap.size + 2) 23 3 (.slice A nn ca) nn (cellsL l)) := Lib.hid (by
    have h := HA4.out
    unfold OwnL at h
    rw [hva, hnn] at h
    simpa using h)
  have HAB2 : Hid (∀ g, A = some ⟨g, 0, none⟩ → w.heap.size ≤ g ∧ g < w1.heap.size) := Lib.hid (fun g hg => by
    have q : va.ownBlock = some g := by rw [hva, hg]; rfl
    exact ⟨by have := ownBlock_ge HA4.out g q; simp at this; omega, HAB.out g q⟩)
  rw [hnn] at hva hca
  subst hva
  have HNN := Lib.hid hnn
  clear hnn HA4 HOA HOA2 HA3 HAB
  go_wp2_with fail
  go_loopw [13] (fun i wr => ∃ (k : Nat) (xs : List Value), k ≤ nn ∧ i = .int .i64 (k : Int) ∧ wr.ownsRow (w.heap.size + 2) 23 3 (.slice A nn ca) nn xs ∧ w4.grownBy wr (Value.slice A nn ca).ownBlock) (fun i _ => (nn - intOf i).toNat)
  case atStart => exact ⟨0, _, by omega, rfl, HAN.out, World.grownBy.refl _ _⟩
  case round =>
    obtain ⟨k, xs, hk, rfl, hO, hg⟩ := hrel
    by_cases hlt : k < nn
    · obtain ⟨g, rfl⟩ : ∃ g, A = some ⟨g, 0, none⟩ := by
        rcases hO.2 with ⟨h0, h1⟩ | ⟨g, cap, cur, h0, _⟩
        · omega
        · injection h0 with h0
          exact ⟨g, h0⟩
      have hxl : xs.length = nn * 3 := hO.1
      obtain ⟨x0, hx0⟩ : ∃ x, xs[k * 3]? = some x := ⟨_, List.getElem?_eq_getElem (by omega)⟩
      obtain ⟨x1, hx1⟩ : ∃ x, xs[k * 3 + 1]? = some x := ⟨_, List.getElem?_eq_getElem (by omega)⟩
      obtain ⟨x2, hx2⟩ : ∃ x, xs[k * 3 + 2]? = some x := ⟨_, List.getElem?_eq_getElem (by omega)⟩
      have c0 := (hO.cellAt (k * 3) (by omega)).trans hx0
      have c1 := (hO.cellAt (k * 3 + 1) (by omega)).trans hx1
      have c2 := (hO.cellAt (k * 3 + 2) (by omega)).trans hx2
      have f0 := hO.frozenAt (k * 3)
      have f1 := hO.frozenAt (k * 3 + 1)
      have f2 := hO.frozenAt (k * 3 + 2)
      have hI : (k : Int) < (nn : Int) := by omega
      have h0 : (0 : Int) ≤ (k : Int) := by omega
      have HO := Lib.hid hO
      have HG := Lib.hid hg
      clear hO hg hx0 hx1 hx2
      go_wp2_with fail
      go_roundw
      case rel =>
        obtain ⟨o1, g1⟩ := HO.out.stored (k * 3) (.int .i64 77)
        obtain ⟨o2, g2⟩ := o1.stored (k * 3 + 1) (.int .i64 0)
        obtain ⟨o3, g3⟩ := o2.stored (k * 3 + 2) (.int .i64 0)
        exact ⟨k + 1, _, by omega, by go_num, o3, World.grownBy.trans (World.grownBy.trans (World.grownBy.trans HG.out g1) g2) g3⟩
      case measure => (simp only [intOf]; omega)
    · obtain rfl : k = nn := by omega
      have hI : ¬ (k : Int) < (k : Int) := by omega
      have hgs := hg.size
      have HBw : Hid (OwnL wr w1.heap.size vb l) := Lib.hid (by
        have h := HB4.out
        unfold OwnL at h ⊢
        refine h.kept hg ?_
        by_cases q : vb.ownBlock = none
        · exact .inl q
        · refine .inr fun e => ?_
          obtain ⟨gb, hgb⟩ := Option.ne_none_iff_exists'.1 q
          have h1 := ownBlock_ge HB4.out gb hgb
          rw [hgb] at e
          rcases A with _ | ⟨ga, oa, sa⟩
          · simp [Value.ownBlock] at e
          · have h2 : (Value.slice (some ⟨ga, oa, sa⟩) k ca).ownBlock = some ga := rfl
            rw [h2] at e
            injection e with e
            have h3 := World.ownsRow.lt HAN.out ga rfl
            rcases HAN.out.2 with ⟨h4, _⟩ | ⟨g', cap', cur', h4, _⟩
            · cases h4
            · injection h4 with h4
              have h5 := (HAB2.out g' h4).2
              have h6 : ga = g' := by injection h4 with h4; injection h4
              omega)
      have HCw : Hid (OwnL wr w2.heap.size vc l) := Lib.hid (by
        have h := HC4.out
        unfold OwnL at h ⊢
        refine h.kept hg ?_
        by_cases q : vc.ownBlock = none
        · exact .inl q
        · refine .inr fun e => ?_
          obtain ⟨gb, hgb⟩ := Option.ne_none_iff_exists'.1 q
          have h1 := ownBlock_ge HC4.out gb hgb
          rw [hgb] at e
          rcases A with _ | ⟨ga, oa, sa⟩
          · simp [Value.ownBlock] at e
          · have h2 : (Value.slice (some ⟨ga, oa, sa⟩) k ca).ownBlock = some ga := rfl
            rw [h2] at e
            injection e with e
            rcases HAN.out.2 with ⟨h4, _⟩ | ⟨g', cap', cur', h4, _⟩
            · cases h4
            · injection h4 with h4
              have h5 := (HAB2.out g' h4).2
              have h6 : ga = g' := by injection h4 with h4; injection h4
              omega)
      have HBr : Hid (Below w.heap.size w wr) := Lib.hid (HBB4.out.grown hg HBB4.out.size (fun g hgw => by
        have := ownBlock_ge HAN.out g hgw
        omega))
      clear hO hg
      go_wp2_with fail
      go_at_call 9
      refine (same_yes HBw.out.rowT HCw.out.rowT (by have := HLL.out; omega)).mono ?_
      rintro e w5 ⟨rfl, hb5⟩
      have HB5 := Lib.hid (HBr.out.trans (hb5.mono HBr.out.size))
      clear hb5
      go_wp2_with fail
      go_at_call 10
      refine (awake_c (HT.out.below HB5.out)).mono ?_
      rintro e w6 ⟨rfl, hb6⟩
      have HB6 := Lib.hid (HB5.out.trans (hb6.mono HB5.out.size))
      clear hb6
      go_wp2_with fail
      go_ret
      exact ⟨rfl, HB6.out⟩
end RayP
end Go.Proofs.YtcmndfjoaoinjaaDoor
