/-
  LineAnswers: errors' names, and answers as lines.
-/
import Derived.BigQuiet
import Derived.BigRegion
import Derived.Lib.Hide
import Derived.Deep.RegionHeld3
import Derived.Deep.MidRow
import Derived.Test.YtcfkdddflbdfaaaDoorLineW3
import Derived.Test.YtcfkdddflbdfaaaDoorLineRAns
namespace Go.Proofs.YtcfkdddflbdfaaaDoor
open Go.RowKit
set_option linter.unusedVariables false
set_option linter.unusedSimpArgs false
namespace LineW
open DigP LineP BlkP RowG FrS
open BaseP (bcell below_drewN)
set_option maxRecDepth 100000 in
set_option maxHeartbeats 8000000 in
theorem law_answers {k n : Int} {a : Ans} (ha : a.Ok) {w : World} (hE : Env w) :
    Calls Tryd.prog 5 #[.int .i64 k, .agg #[.int .i64 a.e, .int .i64 a.p.1, .int .i64 a.p.2.1, .int .i64 a.p.2.2, .int .u8 (a.c.1 : Int), .int .u8 (a.c.2 : Int), .int .u8 (a.l.1 : Int), .int .u8 (a.l.2 : Int), .int .i64 a.due, .int .i64 a.n, .int .i64 a.g.1, .int .i64 a.g.2.1, .int .i64 a.g.2.2.1, .int .i64 a.g.2.2.2], .int .i64 n] w fun e w' => e = .returned (.bool true) ∧ Below w.heap.size w w' := by
  have HA := Lib.hid ha
  have HE := Lib.hid hE
  obtain ⟨s, hs⟩ : ∃ s, w.heap.size = s := ⟨_, rfl⟩
  obtain ⟨X, hX⟩ : ∃ X, ansT k a = X := ⟨_, rfl⟩
  obtain ⟨Y, hY'⟩ : ∃ Y, txt errsL n = Y := ⟨_, rfl⟩
  have hY := Lib.hid hY'
  have HX := Lib.hid hX
  have SX := Lib.hid (show (X == X) = true by simp)
  have SY := Lib.hid (show (Y == Y) = true by simp)
  clear ha hE hX hY'
  go_enter Tryd.func5, Tryd.ntmps5
  go_wp2_with fail
  refine calls_named (S := fun W => Below w.heap.size w W ∧ Blk W s 41 [.int .i64 a.e, .int .i64 a.p.1, .int .i64 a.p.2.1, .int .i64 a.p.2.2, .int .u8 (a.c.1 : Int), .int .u8 (a.c.2 : Int), .int .u8 (a.l.1 : Int), .int .u8 (a.l.2 : Int), .int .i64 a.due, .int .i64 a.n, .int .i64 a.g.1, .int .i64 a.g.2.1, .int .i64 a.g.2.2.1, .int .i64 a.g.2.2.2]) ⟨by (repeat' (first | (with_reducible exact Below.refl _ _) | (with_reducible refine Below.setCell ?_ (by (first | omega | (simp; done) | (simp; omega))) _) | (with_reducible refine Below.alloc ?_ (by (first | omega | (simp; done) | (simp; omega))) _) | (with_reducible refine Below.drew ?_) | (with_reducible refine below_drewN ?_ _))), by subst hs; (repeat' (first | (with_reducible refine BlkP.Blk.drew ?_) | (with_reducible refine BlkP.Blk.drewN ?_ _) | (with_reducible refine BlkP.Blk.setAt (us := ?_) (by first | omega | (simp; done) | (simp; omega)) rfl ?_ ?_) | (with_reducible refine BlkP.Blk.otherAt ?_ (by first | omega | (simp; done) | (simp; omega))) | (with_reducible refine BlkP.Blk.newA' (by first | omega | (simp; done) | (simp; omega)) rfl) | (with_reducible refine BlkP.Blk.alloc ?_ _) | (exact rfl)))⟩ ?_
  try rw [hs]
  rintro wn ⟨hbn, hk⟩
  try rw [← hs] at hbn
  have HB := Lib.hid hbn
  have HK := Lib.hid hk
  clear hk hbn hs
  refine (Answer_c HA.out (HE.out.below HB.out)).mono ?_
  rw [HX.out]
  rintro e w1 ⟨rfl, hb1⟩
  have HB1 := Lib.hid (below_t HB.out hb1)
  have HK1 := Lib.hid (HK.out.below hb1)
  clear hb1
  have hk := HK1.out
  have c0 := hk.cell (i := 0) rfl
  have c1 := hk.cell (i := 1) rfl
  have c2 := hk.cell (i := 2) rfl
  have c3 := hk.cell (i := 3) rfl
  have c4 := hk.cell (i := 4) rfl
  have c5 := hk.cell (i := 5) rfl
  have c6 := hk.cell (i := 6) rfl
  have c7 := hk.cell (i := 7) rfl
  have c8 := hk.cell (i := 8) rfl
  have c9 := hk.cell (i := 9) rfl
  have c10 := hk.cell (i := 10) rfl
  have c11 := hk.cell (i := 11) rfl
  have c12 := hk.cell (i := 12) rfl
  have c13 := hk.cell (i := 13) rfl
  have ml := hk.lt
  clear hk
  go_wp2_with fail
  refine (rAnswer_c HA.out _).mono ?_
  rw [HX.out]
  rintro e w2 ⟨rfl, hb2⟩
  have HB2 := Lib.hid (below_t HB1.out hb2)
  clear hb2 c0 c1 c2 c3 c4 c5 c6 c7 c8 c9 c10 c11 c12 c13 ml
  go_wp2_with fail
  refine (Error_c (i := n) rfl).mono ?_
  rw [hY.out]
  rintro e w3 ⟨rfl, hb3⟩
  have HB3 := Lib.hid (below_t HB2.out hb3)
  have e1 := SY.out
  clear hb3
  go_wp2_with fail
  refine (rError_c (n := n) _).mono ?_
  rw [hY.out]
  rintro e w4 ⟨rfl, hb4⟩
  have HB4 := Lib.hid (below_t HB3.out hb4)
  clear hb4
  go_wp2_with fail
  refine (works_c (HE.out.below HB4.out)).mono ?_
  rintro e w5 ⟨rfl, hb5⟩
  have HB5 := Lib.hid (below_t HB4.out hb5)
  clear hb5
  go_wp2_with fail
  go_ret
  exact ⟨rfl, HB5.out⟩
end LineW
end Go.Proofs.YtcfkdddflbdfaaaDoor
