/-
  AnchorPuts: Put and Lift, and the reference's.
-/
import Derived.BigQuiet
import Derived.BigRegion
import Derived.Lib.Hide
import Derived.Deep.RegionHeld3
import Derived.Deep.MidRow
import Derived.Laws.Tables
import Derived.Test.YtcmmfihhnmhhgaaAnchorAwake
namespace Go.Proofs.Ytcmmfihhnmhhgaa
open Go.RowKit
set_option linter.unusedVariables false
set_option linter.unusedSimpArgs false
namespace AncW
open BlkP RowG FrS PushG AncP
open PlaceW (bcell below_drewN)
set_option maxRecDepth 100000 in
set_option maxHeartbeats 16000000 in
theorem law_puts {w : World} {a b : An} {id x y z : Int} :
    Calls Try.prog 3 #[.agg #[.int .i64 a.1.1, .int .i64 a.1.2.1, .int .i64 a.1.2.2, .bool a.2, .int .i64 b.1.1, .int .i64 b.1.2.1, .int .i64 b.1.2.2, .bool b.2], .int .i64 id, .agg #[.int .i64 x, .int .i64 y, .int .i64 z]] w fun e w' => e = .returned (.bool true) ∧ Below w.heap.size w w' := by
  obtain ⟨⟨⟨c, d⟩, n⟩, hp⟩ : ∃ p, putA a b id (PlaceW.spotOf x y z) = p := ⟨_, rfl⟩
  obtain ⟨⟨⟨f, g⟩, m⟩, hq⟩ : ∃ p, liftA a b id = p := ⟨_, rfl⟩
  have HP := Lib.hid hp
  have HQ := Lib.hid hq
  have qe1 := fun w => run_sameAA w c d
  have qe2 := fun w => run_sameAA w f g
  have nn : (n == n) = true := by simp
  have mm : (m == m) = true := by simp
  obtain ⟨s, hs⟩ : ∃ s, w.heap.size = s := ⟨_, rfl⟩
  clear hp hq
  go_enter Try.func3, Try.ntmps3
  go_wp2_with fail
  refine calls_named (S := fun W => Below w.heap.size w W ∧ Blk W s TT [.int .i64 a.1.1, .int .i64 a.1.2.1, .int .i64 a.1.2.2, .bool a.2, .int .i64 b.1.1, .int .i64 b.1.2.1, .int .i64 b.1.2.2, .bool b.2] ∧ Blk W (s + 1) 27 [.int .i64 x, .int .i64 y, .int .i64 z]) ⟨by (repeat' (first | (with_reducible exact Below.refl _ _) | (with_reducible refine Below.setCell ?_ (by (first | omega | (simp; done) | (simp; omega))) _) | (with_reducible refine Below.alloc ?_ (by (first | omega | (simp; done) | (simp; omega))) _) | (with_reducible refine Below.drew ?_) | (with_reducible refine below_drewN ?_ _))), by subst hs; (repeat' (first | (with_reducible refine BlkP.Blk.drew ?_) | (with_reducible refine BlkP.Blk.drewN ?_ _) | (with_reducible refine BlkP.Blk.setAt (us := ?_) (by first | omega | (simp; done) | (simp; omega)) rfl ?_ ?_) | (with_reducible refine BlkP.Blk.otherAt ?_ (by first | omega | (simp; done) | (simp; omega))) | (with_reducible refine BlkP.Blk.newA' (by first | omega | (simp; done) | (simp; omega)) rfl) | (with_reducible refine BlkP.Blk.alloc ?_ _) | (exact rfl))), by subst hs; (repeat' (first | (with_reducible refine BlkP.Blk.drew ?_) | (with_reducible refine BlkP.Blk.drewN ?_ _) | (with_reducible refine BlkP.Blk.setAt (us := ?_) (by first | omega | (simp; done) | (simp; omega)) rfl ?_ ?_) | (with_reducible refine BlkP.Blk.otherAt ?_ (by first | omega | (simp; done) | (simp; omega))) | (with_reducible refine BlkP.Blk.newA' (by first | omega | (simp; done) | (simp; omega)) rfl) | (with_reducible refine BlkP.Blk.alloc ?_ _) | (exact rfl)))⟩ ?_
  rintro w1 ⟨hb, k0, k1⟩
  refine (Put_c HP.out _).mono ?_
  rintro e w2 ⟨rfl, hb2⟩
  have B0 := Lib.hid (below_t hb hb2)
  have H0_0 := Lib.hid (k0.below hb2)
  have H0_1 := Lib.hid (k1.below hb2)
  obtain ⟨r0, hr0⟩ : ∃ r, w2.heap.size = r := ⟨_, rfl⟩
  clear hb hb2 k0 k1
  have c0 := H0_0.out.cell (i := 0) rfl
  have c1 := H0_0.out.cell (i := 1) rfl
  have c2 := H0_0.out.cell (i := 2) rfl
  have c3 := H0_0.out.cell (i := 3) rfl
  have c4 := H0_0.out.cell (i := 4) rfl
  have c5 := H0_0.out.cell (i := 5) rfl
  have c6 := H0_0.out.cell (i := 6) rfl
  have c7 := H0_0.out.cell (i := 7) rfl
  have cl := H0_0.out.lt
  have p0 := H0_1.out.cell (i := 0) rfl
  have p1 := H0_1.out.cell (i := 1) rfl
  have p2 := H0_1.out.cell (i := 2) rfl
  have pl := H0_1.out.lt
  rw [hr0] at cl pl
  go_wp2_with fail
  refine calls_named (S := fun W => Below w.heap.size w W ∧ Blk W s TT [.int .i64 a.1.1, .int .i64 a.1.2.1, .int .i64 a.1.2.2, .bool a.2, .int .i64 b.1.1, .int .i64 b.1.2.1, .int .i64 b.1.2.2, .bool b.2] ∧ Blk W (s + 1) 27 [.int .i64 x, .int .i64 y, .int .i64 z] ∧ Blk W r0 TT [.int .i64 c.1.1, .int .i64 c.1.2.1, .int .i64 c.1.2.2, .bool c.2, .int .i64 d.1.1, .int .i64 d.1.2.1, .int .i64 d.1.2.2, .bool d.2]) ⟨by (repeat' (first | (with_reducible exact Below.refl _ _) | (with_reducible refine Below.setCell ?_ (by (first | omega | (simp; done) | (simp; omega))) _) | (with_reducible refine Below.alloc ?_ (by (first | omega | (simp; done) | (simp; omega))) _) | (with_reducible refine Below.drew ?_) | (with_reducible refine below_drewN ?_ _) | (with_reducible refine Below.trans ?_ (Below.mono B0.out (by (first | omega | (simp; done) | (simp; omega))))))), by (repeat' (first | (with_reducible exact H0_0.out) | (with_reducible refine BlkP.Blk.drew ?_) | (with_reducible refine BlkP.Blk.drewN ?_ _) | (with_reducible refine BlkP.Blk.setAt (us := ?_) (by first | omega | (simp; done) | (simp; omega)) rfl ?_ ?_) | (with_reducible refine BlkP.Blk.otherAt ?_ (by first | omega | (simp; done) | (simp; omega))) | (with_reducible refine BlkP.Blk.newA' (by first | omega | (simp; done) | (simp; omega)) rfl) | (with_reducible refine BlkP.Blk.alloc ?_ _) | (exact rfl))), by (repeat' (first | (with_reducible exact H0_1.out) | (with_reducible refine BlkP.Blk.drew ?_) | (with_reducible refine BlkP.Blk.drewN ?_ _) | (with_reducible refine BlkP.Blk.setAt (us := ?_) (by first | omega | (simp; done) | (simp; omega)) rfl ?_ ?_) | (with_reducible refine BlkP.Blk.otherAt ?_ (by first | omega | (simp; done) | (simp; omega))) | (with_reducible refine BlkP.Blk.newA' (by first | omega | (simp; done) | (simp; omega)) rfl) | (with_reducible refine BlkP.Blk.alloc ?_ _) | (exact rfl))), by subst hr0; (repeat' (first | (with_reducible refine BlkP.Blk.drew ?_) | (with_reducible refine BlkP.Blk.drewN ?_ _) | (with_reducible refine BlkP.Blk.setAt (us := ?_) (by first | omega | (simp; done) | (simp; omega)) rfl ?_ ?_) | (with_reducible refine BlkP.Blk.otherAt ?_ (by first | omega | (simp; done) | (simp; omega))) | (with_reducible refine BlkP.Blk.newA' (by first | omega | (simp; done) | (simp; omega)) rfl) | (with_reducible refine BlkP.Blk.alloc ?_ _) | (exact rfl)))⟩ ?_
  rintro w3 ⟨hb, k0, k1, k2⟩
  refine (rPut_c HP.out _).mono ?_
  rintro e w4 ⟨rfl, hb2⟩
  have B1 := Lib.hid (below_t hb hb2)
  have H1_0 := Lib.hid (k0.below hb2)
  have H1_1 := Lib.hid (k1.below hb2)
  have H1_2 := Lib.hid (k2.below hb2)
  obtain ⟨r1, hr1⟩ : ∃ r, w4.heap.size = r := ⟨_, rfl⟩
  clear hb hb2 k0 k1 k2 c0 c1 c2 c3 c4 c5 c6 c7 cl p0 p1 p2 pl
  have c0 := H1_0.out.cell (i := 0) rfl
  have c1 := H1_0.out.cell (i := 1) rfl
  have c2 := H1_0.out.cell (i := 2) rfl
  have c3 := H1_0.out.cell (i := 3) rfl
  have c4 := H1_0.out.cell (i := 4) rfl
  have c5 := H1_0.out.cell (i := 5) rfl
  have c6 := H1_0.out.cell (i := 6) rfl
  have c7 := H1_0.out.cell (i := 7) rfl
  have cl := H1_0.out.lt
  have p0 := H1_1.out.cell (i := 0) rfl
  have p1 := H1_1.out.cell (i := 1) rfl
  have p2 := H1_1.out.cell (i := 2) rfl
  have pl := H1_1.out.lt
  rw [hr1] at cl pl
  go_wp2_with fail
  refine calls_named (S := fun W => Below w.heap.size w W ∧ Blk W s TT [.int .i64 a.1.1, .int .i64 a.1.2.1, .int .i64 a.1.2.2, .bool a.2, .int .i64 b.1.1, .int .i64 b.1.2.1, .int .i64 b.1.2.2, .bool b.2] ∧ Blk W (s + 1) 27 [.int .i64 x, .int .i64 y, .int .i64 z] ∧ Blk W r0 TT [.int .i64 c.1.1, .int .i64 c.1.2.1, .int .i64 c.1.2.2, .bool c.2, .int .i64 d.1.1, .int .i64 d.1.2.1, .int .i64 d.1.2.2, .bool d.2] ∧ Blk W r1 TT [.int .i64 c.1.1, .int .i64 c.1.2.1, .int .i64 c.1.2.2, .bool c.2, .int .i64 d.1.1, .int .i64 d.1.2.1, .int .i64 d.1.2.2, .bool d.2]) ⟨by (repeat' (first | (with_reducible exact Below.refl _ _) | (with_reducible refine Below.setCell ?_ (by (first | omega | (simp; done) | (simp; omega))) _) | (with_reducible refine Below.alloc ?_ (by (first | omega | (simp; done) | (simp; omega))) _) | (with_reducible refine Below.drew ?_) | (with_reducible refine below_drewN ?_ _) | (with_reducible refine Below.trans ?_ (Below.mono B1.out (by (first | omega | (simp; done) | (simp; omega))))))), by (repeat' (first | (with_reducible exact H1_0.out) | (with_reducible refine BlkP.Blk.drew ?_) | (with_reducible refine BlkP.Blk.drewN ?_ _) | (with_reducible refine BlkP.Blk.setAt (us := ?_) (by first | omega | (simp; done) | (simp; omega)) rfl ?_ ?_) | (with_reducible refine BlkP.Blk.otherAt ?_ (by first | omega | (simp; done) | (simp; omega))) | (with_reducible refine BlkP.Blk.newA' (by first | omega | (simp; done) | (simp; omega)) rfl) | (with_reducible refine BlkP.Blk.alloc ?_ _) | (exact rfl))), by (repeat' (first | (with_reducible exact H1_1.out) | (with_reducible refine BlkP.Blk.drew ?_) | (with_reducible refine BlkP.Blk.drewN ?_ _) | (with_reducible refine BlkP.Blk.setAt (us := ?_) (by first | omega | (simp; done) | (simp; omega)) rfl ?_ ?_) | (with_reducible refine BlkP.Blk.otherAt ?_ (by first | omega | (simp; done) | (simp; omega))) | (with_reducible refine BlkP.Blk.newA' (by first | omega | (simp; done) | (simp; omega)) rfl) | (with_reducible refine BlkP.Blk.alloc ?_ _) | (exact rfl))), by (repeat' (first | (with_reducible exact H1_2.out) | (with_reducible refine BlkP.Blk.drew ?_) | (with_reducible refine BlkP.Blk.drewN ?_ _) | (with_reducible refine BlkP.Blk.setAt (us := ?_) (by first | omega | (simp; done) | (simp; omega)) rfl ?_ ?_) | (with_reducible refine BlkP.Blk.otherAt ?_ (by first | omega | (simp; done) | (simp; omega))) | (with_reducible refine BlkP.Blk.newA' (by first | omega | (simp; done) | (simp; omega)) rfl) | (with_reducible refine BlkP.Blk.alloc ?_ _) | (exact rfl))), by subst hr1; (repeat' (first | (with_reducible refine BlkP.Blk.drew ?_) | (with_reducible refine BlkP.Blk.drewN ?_ _) | (with_reducible refine BlkP.Blk.setAt (us := ?_) (by first | omega | (simp; done) | (simp; omega)) rfl ?_ ?_) | (with_reducible refine BlkP.Blk.otherAt ?_ (by first | omega | (simp; done) | (simp; omega))) | (with_reducible refine BlkP.Blk.newA' (by first | omega | (simp; done) | (simp; omega)) rfl) | (with_reducible refine BlkP.Blk.alloc ?_ _) | (exact rfl)))⟩ ?_
  rintro w5 ⟨hb, k0, k1, k2, k3⟩
  refine (Lift_c HQ.out _).mono ?_
  rintro e w6 ⟨rfl, hb2⟩
  have B2 := Lib.hid (below_t hb hb2)
  have H2_0 := Lib.hid (k0.below hb2)
  have H2_1 := Lib.hid (k1.below hb2)
  have H2_2 := Lib.hid (k2.below hb2)
  have H2_3 := Lib.hid (k3.below hb2)
  obtain ⟨r2, hr2⟩ : ∃ r, w6.heap.size = r := ⟨_, rfl⟩
  clear hb hb2 k0 k1 k2 k3 c0 c1 c2 c3 c4 c5 c6 c7 cl p0 p1 p2 pl
  have c0 := H2_0.out.cell (i := 0) rfl
  have c1 := H2_0.out.cell (i := 1) rfl
  have c2 := H2_0.out.cell (i := 2) rfl
  have c3 := H2_0.out.cell (i := 3) rfl
  have c4 := H2_0.out.cell (i := 4) rfl
  have c5 := H2_0.out.cell (i := 5) rfl
  have c6 := H2_0.out.cell (i := 6) rfl
  have c7 := H2_0.out.cell (i := 7) rfl
  have cl := H2_0.out.lt
  have p0 := H2_1.out.cell (i := 0) rfl
  have p1 := H2_1.out.cell (i := 1) rfl
  have p2 := H2_1.out.cell (i := 2) rfl
  have pl := H2_1.out.lt
  rw [hr2] at cl pl
  go_wp2_with fail
  refine calls_named (S := fun W => Below w.heap.size w W ∧ Blk W s TT [.int .i64 a.1.1, .int .i64 a.1.2.1, .int .i64 a.1.2.2, .bool a.2, .int .i64 b.1.1, .int .i64 b.1.2.1, .int .i64 b.1.2.2, .bool b.2] ∧ Blk W (s + 1) 27 [.int .i64 x, .int .i64 y, .int .i64 z] ∧ Blk W r0 TT [.int .i64 c.1.1, .int .i64 c.1.2.1, .int .i64 c.1.2.2, .bool c.2, .int .i64 d.1.1, .int .i64 d.1.2.1, .int .i64 d.1.2.2, .bool d.2] ∧ Blk W r1 TT [.int .i64 c.1.1, .int .i64 c.1.2.1, .int .i64 c.1.2.2, .bool c.2, .int .i64 d.1.1, .int .i64 d.1.2.1, .int .i64 d.1.2.2, .bool d.2] ∧ Blk W r2 TT [.int .i64 f.1.1, .int .i64 f.1.2.1, .int .i64 f.1.2.2, .bool f.2, .int .i64 g.1.1, .int .i64 g.1.2.1, .int .i64 g.1.2.2, .bool g.2]) ⟨by (repeat' (first | (with_reducible exact Below.refl _ _) | (with_reducible refine Below.setCell ?_ (by (first | omega | (simp; done) | (simp; omega))) _) | (with_reducible refine Below.alloc ?_ (by (first | omega | (simp; done) | (simp; omega))) _) | (with_reducible refine Below.drew ?_) | (with_reducible refine below_drewN ?_ _) | (with_reducible refine Below.trans ?_ (Below.mono B2.out (by (first | omega | (simp; done) | (simp; omega))))))), by (repeat' (first | (with_reducible exact H2_0.out) | (with_reducible refine BlkP.Blk.drew ?_) | (with_reducible refine BlkP.Blk.drewN ?_ _) | (with_reducible refine BlkP.Blk.setAt (us := ?_) (by first | omega | (simp; done) | (simp; omega)) rfl ?_ ?_) | (with_reducible refine BlkP.Blk.otherAt ?_ (by first | omega | (simp; done) | (simp; omega))) | (with_reducible refine BlkP.Blk.newA' (by first | omega | (simp; done) | (simp; omega)) rfl) | (with_reducible refine BlkP.Blk.alloc ?_ _) | (exact rfl))), by (repeat' (first | (with_reducible exact H2_1.out) | (with_reducible refine BlkP.Blk.drew ?_) | (with_reducible refine BlkP.Blk.drewN ?_ _) | (with_reducible refine BlkP.Blk.setAt (us := ?_) (by first | omega | (simp; done) | (simp; omega)) rfl ?_ ?_) | (with_reducible refine BlkP.Blk.otherAt ?_ (by first | omega | (simp; done) | (simp; omega))) | (with_reducible refine BlkP.Blk.newA' (by first | omega | (simp; done) | (simp; omega)) rfl) | (with_reducible refine BlkP.Blk.alloc ?_ _) | (exact rfl))), by (repeat' (first | (with_reducible exact H2_2.out) | (with_reducible refine BlkP.Blk.drew ?_) | (with_reducible refine BlkP.Blk.drewN ?_ _) | (with_reducible refine BlkP.Blk.setAt (us := ?_) (by first | omega | (simp; done) | (simp; omega)) rfl ?_ ?_) | (with_reducible refine BlkP.Blk.otherAt ?_ (by first | omega | (simp; done) | (simp; omega))) | (with_reducible refine BlkP.Blk.newA' (by first | omega | (simp; done) | (simp; omega)) rfl) | (with_reducible refine BlkP.Blk.alloc ?_ _) | (exact rfl))), by (repeat' (first | (with_reducible exact H2_3.out) | (with_reducible refine BlkP.Blk.drew ?_) | (with_reducible refine BlkP.Blk.drewN ?_ _) | (with_reducible refine BlkP.Blk.setAt (us := ?_) (by first | omega | (simp; done) | (simp; omega)) rfl ?_ ?_) | (with_reducible refine BlkP.Blk.otherAt ?_ (by first | omega | (simp; done) | (simp; omega))) | (with_reducible refine BlkP.Blk.newA' (by first | omega | (simp; done) | (simp; omega)) rfl) | (with_reducible refine BlkP.Blk.alloc ?_ _) | (exact rfl))), by subst hr2; (repeat' (first | (with_reducible refine BlkP.Blk.drew ?_) | (with_reducible refine BlkP.Blk.drewN ?_ _) | (with_reducible refine BlkP.Blk.setAt (us := ?_) (by first | omega | (simp; done) | (simp; omega)) rfl ?_ ?_) | (with_reducible refine BlkP.Blk.otherAt ?_ (by first | omega | (simp; done) | (simp; omega))) | (with_reducible refine BlkP.Blk.newA' (by first | omega | (simp; done) | (simp; omega)) rfl) | (with_reducible refine BlkP.Blk.alloc ?_ _) | (exact rfl)))⟩ ?_
  rintro w7 ⟨hb, k0, k1, k2, k3, k4⟩
  refine (rLift_c HQ.out _).mono ?_
  rintro e w8 ⟨rfl, hb2⟩
  have B3 := Lib.hid (below_t hb hb2)
  have H3_0 := Lib.hid (k0.below hb2)
  have H3_1 := Lib.hid (k1.below hb2)
  have H3_2 := Lib.hid (k2.below hb2)
  have H3_3 := Lib.hid (k3.below hb2)
  have H3_4 := Lib.hid (k4.below hb2)
  obtain ⟨r3, hr3⟩ : ∃ r, w8.heap.size = r := ⟨_, rfl⟩
  clear hb hb2 k0 k1 k2 k3 k4 c0 c1 c2 c3 c4 c5 c6 c7 cl p0 p1 p2 pl
  have hz3 := B3.out.size
  go_wp2_with ((with_reducible refine at_slot 41 ?_); refine Classical.byContradiction (fun hG => ?_))
  refine hG ?_
  clear hG
  refine list_named (S := fun W => Below w.heap.size w W ∧ Blk W r0 TT [.int .i64 c.1.1, .int .i64 c.1.2.1, .int .i64 c.1.2.2, .bool c.2, .int .i64 d.1.1, .int .i64 d.1.2.1, .int .i64 d.1.2.2, .bool d.2] ∧ Blk W r1 TT [.int .i64 c.1.1, .int .i64 c.1.2.1, .int .i64 c.1.2.2, .bool c.2, .int .i64 d.1.1, .int .i64 d.1.2.1, .int .i64 d.1.2.2, .bool d.2] ∧ Blk W r2 TT [.int .i64 f.1.1, .int .i64 f.1.2.1, .int .i64 f.1.2.2, .bool f.2, .int .i64 g.1.1, .int .i64 g.1.2.1, .int .i64 g.1.2.2, .bool g.2] ∧ Blk W r3 TT [.int .i64 f.1.1, .int .i64 f.1.2.1, .int .i64 f.1.2.2, .bool f.2, .int .i64 g.1.1, .int .i64 g.1.2.1, .int .i64 g.1.2.2, .bool g.2]) ⟨by (repeat' (first | (with_reducible exact Below.refl _ _) | (with_reducible refine Below.setCell ?_ (by (first | omega | (simp; done) | (simp; omega))) _) | (with_reducible refine Below.alloc ?_ (by (first | omega | (simp; done) | (simp; omega))) _) | (with_reducible refine Below.drew ?_) | (with_reducible refine below_drewN ?_ _) | (with_reducible refine Below.trans ?_ (Below.mono B3.out (by (first | omega | (simp; done) | (simp; omega))))))), by (repeat' (first | (with_reducible exact H3_2.out) | (with_reducible refine BlkP.Blk.drew ?_) | (with_reducible refine BlkP.Blk.drewN ?_ _) | (with_reducible refine BlkP.Blk.setAt (us := ?_) (by first | omega | (simp; done) | (simp; omega)) rfl ?_ ?_) | (with_reducible refine BlkP.Blk.otherAt ?_ (by first | omega | (simp; done) | (simp; omega))) | (with_reducible refine BlkP.Blk.newA' (by first | omega | (simp; done) | (simp; omega)) rfl) | (with_reducible refine BlkP.Blk.alloc ?_ _) | (exact rfl))), by (repeat' (first | (with_reducible exact H3_3.out) | (with_reducible refine BlkP.Blk.drew ?_) | (with_reducible refine BlkP.Blk.drewN ?_ _) | (with_reducible refine BlkP.Blk.setAt (us := ?_) (by first | omega | (simp; done) | (simp; omega)) rfl ?_ ?_) | (with_reducible refine BlkP.Blk.otherAt ?_ (by first | omega | (simp; done) | (simp; omega))) | (with_reducible refine BlkP.Blk.newA' (by first | omega | (simp; done) | (simp; omega)) rfl) | (with_reducible refine BlkP.Blk.alloc ?_ _) | (exact rfl))), by (repeat' (first | (with_reducible exact H3_4.out) | (with_reducible refine BlkP.Blk.drew ?_) | (with_reducible refine BlkP.Blk.drewN ?_ _) | (with_reducible refine BlkP.Blk.setAt (us := ?_) (by first | omega | (simp; done) | (simp; omega)) rfl ?_ ?_) | (with_reducible refine BlkP.Blk.otherAt ?_ (by first | omega | (simp; done) | (simp; omega))) | (with_reducible refine BlkP.Blk.newA' (by first | omega | (simp; done) | (simp; omega)) rfl) | (with_reducible refine BlkP.Blk.alloc ?_ _) | (exact rfl))), by subst hr3; (repeat' (first | (with_reducible refine BlkP.Blk.drew ?_) | (with_reducible refine BlkP.Blk.drewN ?_ _) | (with_reducible refine BlkP.Blk.setAt (us := ?_) (by first | omega | (simp; done) | (simp; omega)) rfl ?_ ?_) | (with_reducible refine BlkP.Blk.otherAt ?_ (by first | omega | (simp; done) | (simp; omega))) | (with_reducible refine BlkP.Blk.newA' (by first | omega | (simp; done) | (simp; omega)) rfl) | (with_reducible refine BlkP.Blk.alloc ?_ _) | (exact rfl)))⟩ ?_
  rintro w9 ⟨hb, k0, k1, k2, k3⟩
  try rw [hr3]
  have B9 := Lib.hid hb
  have e0_0 := k0.cell (i := 0) rfl
  have e0_1 := k0.cell (i := 1) rfl
  have e0_2 := k0.cell (i := 2) rfl
  have e0_3 := k0.cell (i := 3) rfl
  have e0_4 := k0.cell (i := 4) rfl
  have e0_5 := k0.cell (i := 5) rfl
  have e0_6 := k0.cell (i := 6) rfl
  have e0_7 := k0.cell (i := 7) rfl
  have l0 := k0.lt
  have e1_0 := k1.cell (i := 0) rfl
  have e1_1 := k1.cell (i := 1) rfl
  have e1_2 := k1.cell (i := 2) rfl
  have e1_3 := k1.cell (i := 3) rfl
  have e1_4 := k1.cell (i := 4) rfl
  have e1_5 := k1.cell (i := 5) rfl
  have e1_6 := k1.cell (i := 6) rfl
  have e1_7 := k1.cell (i := 7) rfl
  have l1 := k1.lt
  have e2_0 := k2.cell (i := 0) rfl
  have e2_1 := k2.cell (i := 1) rfl
  have e2_2 := k2.cell (i := 2) rfl
  have e2_3 := k2.cell (i := 3) rfl
  have e2_4 := k2.cell (i := 4) rfl
  have e2_5 := k2.cell (i := 5) rfl
  have e2_6 := k2.cell (i := 6) rfl
  have e2_7 := k2.cell (i := 7) rfl
  have l2 := k2.lt
  have e3_0 := k3.cell (i := 0) rfl
  have e3_1 := k3.cell (i := 1) rfl
  have e3_2 := k3.cell (i := 2) rfl
  have e3_3 := k3.cell (i := 3) rfl
  have e3_4 := k3.cell (i := 4) rfl
  have e3_5 := k3.cell (i := 5) rfl
  have e3_6 := k3.cell (i := 6) rfl
  have e3_7 := k3.cell (i := 7) rfl
  have l3 := k3.lt
  clear hb k0 k1 k2 k3
  go_wp2_with fail
  refine awake_c.mono ?_
  rintro e w10 ⟨rfl, hb⟩
  have B10 := Lib.hid (below_t B9.out hb)
  clear hb e0_0 e0_1 e0_2 e0_3 e0_4 e0_5 e0_6 e0_7 l0 e1_0 e1_1 e1_2 e1_3 e1_4 e1_5 e1_6 e1_7 l1 e2_0 e2_1 e2_2 e2_3 e2_4 e2_5 e2_6 e2_7 l2 e3_0 e3_1 e3_2 e3_3 e3_4 e3_5 e3_6 e3_7 l3
  go_wp2_with fail
  go_ret
  exact ⟨rfl, B10.out⟩
end AncW
end Go.Proofs.Ytcmmfihhnmhhgaa
