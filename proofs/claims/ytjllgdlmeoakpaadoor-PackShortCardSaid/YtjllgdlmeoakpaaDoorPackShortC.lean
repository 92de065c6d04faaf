/- PackShort's walk: lights that may not be. -/
import Derived.Test.YtjllgdlmeoakpaaDoorPackShortP
namespace Go.Proofs.YtjllgdlmeoakpaaDoor
open Go.RowKit
set_option linter.unusedVariables false
set_option linter.unusedSimpArgs false
namespace PackW
open BytesW RunsW

set_option maxRecDepth 100000 in
set_option maxHeartbeats 8000000 in
theorem short_c {w : World} {at_ o0 o1 o2 : Int} {c1 c2 l1 l2 d1 d2 m1 m2 : UInt8} (hT : KindW.Tab w) (hat : -9223372036854775808 ≤ at_ ∧ at_ ≤ 9223372036854775807) (g1 : mayC (c1, c2) = true) (g2 : mayC (d1, d2) = true) (g3 : ¬ l1.toNat ≤ 15) :
    Calls Tryd.prog 8 #[.agg #[.int .i64 o0, .int .i64 o1, .int .u8 (c1.toNat : Int), .int .u8 (c2.toNat : Int), .int .u8 (l1.toNat : Int), .int .u8 (l2.toNat : Int)], .agg #[.int .i64 at_, .int .i64 o2, .int .u8 (d1.toNat : Int), .int .u8 (d2.toNat : Int), .int .u8 (m1.toNat : Int), .int .u8 (m2.toNat : Int)]] w fun e w' => e = .returned (.bool true) ∧ Below w.heap.size w w' := by
  obtain ⟨X2, hX2⟩ : ∃ X : Int, X = (c1.toNat : Int) := ⟨_, rfl⟩
  obtain ⟨X3, hX3⟩ : ∃ X : Int, X = (c2.toNat : Int) := ⟨_, rfl⟩
  obtain ⟨X4, hX4⟩ : ∃ X : Int, X = (l1.toNat : Int) := ⟨_, rfl⟩
  obtain ⟨X5, hX5⟩ : ∃ X : Int, X = (l2.toNat : Int) := ⟨_, rfl⟩
  obtain ⟨Y2, hY2⟩ : ∃ X : Int, X = (d1.toNat : Int) := ⟨_, rfl⟩
  obtain ⟨Y3, hY3⟩ : ∃ X : Int, X = (d2.toNat : Int) := ⟨_, rfl⟩
  obtain ⟨Y4, hY4⟩ : ∃ X : Int, X = (m1.toNat : Int) := ⟨_, rfl⟩
  obtain ⟨Y5, hY5⟩ : ∃ X : Int, X = (m2.toNat : Int) := ⟨_, rfl⟩
  rw [← hX2, ← hX3, ← hX4, ← hX5, ← hY2, ← hY3, ← hY4, ← hY5]
  have HX2 := Lib.hid hX2
  have HX3 := Lib.hid hX3
  have HX4 := Lib.hid hX4
  have HX5 := Lib.hid hX5
  have HY2 := Lib.hid hY2
  have HY3 := Lib.hid hY3
  have HY4 := Lib.hid hY4
  have HY5 := Lib.hid hY5
  have hf0 : 15 < X4 := by omega
  have HT := Lib.hid hT
  have HG1 := Lib.hid g1
  have HG2 := Lib.hid g2
  clear hT hat g1 g2 g3 hX2 hX3 hX4 hX5 hY2 hY3 hY4 hY5
  go_enter Tryd.func8, Tryd.ntmps8
  go_wp2_with fail
  go_at_call 20
  refine calls_named (fun W => W.cell? ⟨w.heap.size, 0, none⟩ = some (.int .i64 0) ∧ W.cell? ⟨w.heap.size, 1, none⟩ = some (.int .i64 4096) ∧ W.cell? ⟨w.heap.size, 2, none⟩ = some (.int .u8 X2) ∧ W.cell? ⟨w.heap.size, 3, none⟩ = some (.int .u8 X3) ∧ W.cell? ⟨w.heap.size, 4, none⟩ = some (.int .u8 X4) ∧ W.cell? ⟨w.heap.size, 5, none⟩ = some (.int .u8 X5) ∧ W.cell? ⟨w.heap.size + 1, 0, none⟩ = some (.int .i64 at_) ∧ W.cell? ⟨w.heap.size + 1, 1, none⟩ = some (.int .i64 1) ∧ W.cell? ⟨w.heap.size + 1, 2, none⟩ = some (.int .u8 Y2) ∧ W.cell? ⟨w.heap.size + 1, 3, none⟩ = some (.int .u8 Y3) ∧ W.cell? ⟨w.heap.size + 1, 4, none⟩ = some (.int .u8 Y4) ∧ W.cell? ⟨w.heap.size + 1, 5, none⟩ = some (.int .u8 Y5) ∧ w.heap.size + 1 < W.heap.size ∧ Below w.heap.size w W) (by (refine ⟨?_, ?_, ?_, ?_, ?_, ?_, ?_, ?_, ?_, ?_, ?_, ?_, ?_, by (repeat' (first | (with_reducible exact Below.refl _ _) | (with_reducible refine Below.setCell ?_ (by (first | omega | (simp; done) | (simp; omega))) _) | (with_reducible refine Below.alloc ?_ (by (first | omega | (simp; done) | (simp; omega))) _) | (with_reducible refine Below.drew ?_) | (with_reducible refine below_drewN ?_ _)))⟩); all_goals (repeat' (first | (with_reducible assumption) | (with_reducible refine HeldP.c_drew ?_) | (with_reducible refine HeldP.c_drewN ?_) | (with_reducible refine HeldP.c_same (by omega) ?_) | (with_reducible refine HeldP.c_other ?_ ?_) | (with_reducible refine HeldP.c_new (by first | omega | (simp; done) | (simp; omega)) ?_) | (with_reducible refine HeldP.c_alloc ?_ ?_) | (with_reducible refine HeldP.e_drew ?_) | (with_reducible refine HeldP.e_drewN ?_) | (with_reducible refine HeldP.e_set ?_) | (with_reducible refine HeldP.e_new (by first | omega | (simp; done) | (simp; omega)) ⟨_, rfl⟩) | (with_reducible refine HeldP.e_alloc ?_ ?_) | (with_reducible refine HeldP.f_drew ?_) | (with_reducible refine HeldP.f_drewN ?_) | (with_reducible refine HeldP.f_set ?_) | (with_reducible refine HeldP.f_new (by first | omega | (simp; done) | (simp; omega))) | (with_reducible refine HeldP.f_alloc ?_ ?_) | (with_reducible refine HeldP.s_drew ?_) | (with_reducible refine HeldP.s_drewN ?_) | (with_reducible refine HeldP.s_set ?_) | (with_reducible refine HeldP.s_new (by first | omega | (simp; done) | (simp; omega))) | (with_reducible refine HeldP.s_alloc ?_) | (with_reducible exact ⟨_, by assumption⟩) | omega | (intro e; simp at e; done) | (intro e; simp at e; omega) | (exact rfl) | (simp; done) | (simp; omega)))) ?_
  rintro w1 ⟨e00, e01, e02, e03, e04, e05, e10, e11, e12, e13, e14, e15, hz1, hb1⟩
  have HE : Hid (w1.cell? ⟨w.heap.size, 0, none⟩ = some (.int .i64 0) ∧ w1.cell? ⟨w.heap.size, 1, none⟩ = some (.int .i64 4096) ∧ w1.cell? ⟨w.heap.size, 2, none⟩ = some (.int .u8 X2) ∧ w1.cell? ⟨w.heap.size, 3, none⟩ = some (.int .u8 X3) ∧ w1.cell? ⟨w.heap.size, 4, none⟩ = some (.int .u8 X4) ∧ w1.cell? ⟨w.heap.size, 5, none⟩ = some (.int .u8 X5) ∧ w1.cell? ⟨w.heap.size + 1, 0, none⟩ = some (.int .i64 at_) ∧ w1.cell? ⟨w.heap.size + 1, 1, none⟩ = some (.int .i64 1) ∧ w1.cell? ⟨w.heap.size + 1, 2, none⟩ = some (.int .u8 Y2) ∧ w1.cell? ⟨w.heap.size + 1, 3, none⟩ = some (.int .u8 Y3) ∧ w1.cell? ⟨w.heap.size + 1, 4, none⟩ = some (.int .u8 Y4) ∧ w1.cell? ⟨w.heap.size + 1, 5, none⟩ = some (.int .u8 Y5)) := Lib.hid ⟨e00, e01, e02, e03, e04, e05, e10, e11, e12, e13, e14, e15⟩
  have HB1 := Lib.hid hb1
  have hs1 := hb1.size
  clear e00 e01 e02 e03 e04 e05 e10 e11 e12 e13 e14 e15 hb1
  rw [HX2.out, HX3.out]
  refine (KindW.k_may c1.toNat c2.toNat w1 (HT.out.below HB1.out)).mono ?_
  rintro e w2 ⟨he, hb2⟩
  rw [show KindP.may c1.toNat c2.toNat = true from HG1.out] at he
  subst he
  rw [← HX2.out, ← HX3.out]
  have HB2 := Lib.hid (below_m HB1.out hb2)
  have hz2 := hb2.size
  have HE2 : Hid (w2.cell? ⟨w.heap.size, 0, none⟩ = some (.int .i64 0) ∧ w2.cell? ⟨w.heap.size, 1, none⟩ = some (.int .i64 4096) ∧ w2.cell? ⟨w.heap.size, 2, none⟩ = some (.int .u8 X2) ∧ w2.cell? ⟨w.heap.size, 3, none⟩ = some (.int .u8 X3) ∧ w2.cell? ⟨w.heap.size, 4, none⟩ = some (.int .u8 X4) ∧ w2.cell? ⟨w.heap.size, 5, none⟩ = some (.int .u8 X5) ∧ w2.cell? ⟨w.heap.size + 1, 0, none⟩ = some (.int .i64 at_) ∧ w2.cell? ⟨w.heap.size + 1, 1, none⟩ = some (.int .i64 1) ∧ w2.cell? ⟨w.heap.size + 1, 2, none⟩ = some (.int .u8 Y2) ∧ w2.cell? ⟨w.heap.size + 1, 3, none⟩ = some (.int .u8 Y3) ∧ w2.cell? ⟨w.heap.size + 1, 4, none⟩ = some (.int .u8 Y4) ∧ w2.cell? ⟨w.heap.size + 1, 5, none⟩ = some (.int .u8 Y5)) := Lib.hid (by
    obtain ⟨e00, e01, e02, e03, e04, e05, e10, e11, e12, e13, e14, e15⟩ := HE.out
    exact ⟨(hb2.cell (p := ⟨w.heap.size, 0, none⟩) (by simp only; omega)).trans e00, (hb2.cell (p := ⟨w.heap.size, 1, none⟩) (by simp only; omega)).trans e01, (hb2.cell (p := ⟨w.heap.size, 2, none⟩) (by simp only; omega)).trans e02, (hb2.cell (p := ⟨w.heap.size, 3, none⟩) (by simp only; omega)).trans e03, (hb2.cell (p := ⟨w.heap.size, 4, none⟩) (by simp only; omega)).trans e04, (hb2.cell (p := ⟨w.heap.size, 5, none⟩) (by simp only; omega)).trans e05, (hb2.cell (p := ⟨w.heap.size + 1, 0, none⟩) (by simp only; omega)).trans e10, (hb2.cell (p := ⟨w.heap.size + 1, 1, none⟩) (by simp only; omega)).trans e11, (hb2.cell (p := ⟨w.heap.size + 1, 2, none⟩) (by simp only; omega)).trans e12, (hb2.cell (p := ⟨w.heap.size + 1, 3, none⟩) (by simp only; omega)).trans e13, (hb2.cell (p := ⟨w.heap.size + 1, 4, none⟩) (by simp only; omega)).trans e14, (hb2.cell (p := ⟨w.heap.size + 1, 5, none⟩) (by simp only; omega)).trans e15⟩)
  clear hb2
  obtain ⟨e00, e01, e02, e03, e04, e05, e10, e11, e12, e13, e14, e15⟩ := HE2.out
  clear e00 e01 e10 e11
  go_wp2_with fail
  go_at_call 20
  rw [HY2.out, HY3.out]
  refine (KindW.k_may d1.toNat d2.toNat w2 (HT.out.below HB2.out)).mono ?_
  rintro e w3 ⟨he, hb3⟩
  rw [show KindP.may d1.toNat d2.toNat = true from HG2.out] at he
  subst he
  rw [← HY2.out, ← HY3.out]
  have HB3 := Lib.hid (below_m HB2.out hb3)
  have hz3 := hb3.size
  have HE3 : Hid (w3.cell? ⟨w.heap.size, 0, none⟩ = some (.int .i64 0) ∧ w3.cell? ⟨w.heap.size, 1, none⟩ = some (.int .i64 4096) ∧ w3.cell? ⟨w.heap.size, 2, none⟩ = some (.int .u8 X2) ∧ w3.cell? ⟨w.heap.size, 3, none⟩ = some (.int .u8 X3) ∧ w3.cell? ⟨w.heap.size, 4, none⟩ = some (.int .u8 X4) ∧ w3.cell? ⟨w.heap.size, 5, none⟩ = some (.int .u8 X5) ∧ w3.cell? ⟨w.heap.size + 1, 0, none⟩ = some (.int .i64 at_) ∧ w3.cell? ⟨w.heap.size + 1, 1, none⟩ = some (.int .i64 1) ∧ w3.cell? ⟨w.heap.size + 1, 2, none⟩ = some (.int .u8 Y2) ∧ w3.cell? ⟨w.heap.size + 1, 3, none⟩ = some (.int .u8 Y3) ∧ w3.cell? ⟨w.heap.size + 1, 4, none⟩ = some (.int .u8 Y4) ∧ w3.cell? ⟨w.heap.size + 1, 5, none⟩ = some (.int .u8 Y5)) := Lib.hid (by
    obtain ⟨e00, e01, e02, e03, e04, e05, e10, e11, e12, e13, e14, e15⟩ := HE2.out
    exact ⟨(hb3.cell (p := ⟨w.heap.size, 0, none⟩) (by simp only; omega)).trans e00, (hb3.cell (p := ⟨w.heap.size, 1, none⟩) (by simp only; omega)).trans e01, (hb3.cell (p := ⟨w.heap.size, 2, none⟩) (by simp only; omega)).trans e02, (hb3.cell (p := ⟨w.heap.size, 3, none⟩) (by simp only; omega)).trans e03, (hb3.cell (p := ⟨w.heap.size, 4, none⟩) (by simp only; omega)).trans e04, (hb3.cell (p := ⟨w.heap.size, 5, none⟩) (by simp only; omega)).trans e05, (hb3.cell (p := ⟨w.heap.size + 1, 0, none⟩) (by simp only; omega)).trans e10, (hb3.cell (p := ⟨w.heap.size + 1, 1, none⟩) (by simp only; omega)).trans e11, (hb3.cell (p := ⟨w.heap.size + 1, 2, none⟩) (by simp only; omega)).trans e12, (hb3.cell (p := ⟨w.heap.size + 1, 3, none⟩) (by simp only; omega)).trans e13, (hb3.cell (p := ⟨w.heap.size + 1, 4, none⟩) (by simp only; omega)).trans e14, (hb3.cell (p := ⟨w.heap.size + 1, 5, none⟩) (by simp only; omega)).trans e15⟩)
  clear hb3 e02 e03 e04 e05 e12 e13 e14 e15
  obtain ⟨e00, e01, e02, e03, e04, e05, e10, e11, e12, e13, e14, e15⟩ := HE3.out
  clear e00 e01 e10 e11
  go_wp2_with (go_at_call 15; refine (works_c (HT.out.below HB3.out)).mono ?_; rintro e w9 ⟨rfl, hb9⟩)
  go_ret
  exact ⟨rfl, below_m HB3.out hb9⟩
set_option maxRecDepth 100000 in
set_option maxHeartbeats 8000000 in
theorem short_d {w : World} {at_ o0 o1 o2 : Int} {c1 c2 l1 l2 d1 d2 m1 m2 : UInt8} (hT : KindW.Tab w) (hat : -9223372036854775808 ≤ at_ ∧ at_ ≤ 9223372036854775807) (g1 : mayC (c1, c2) = true) (g2 : mayC (d1, d2) = true) (g3 : l1.toNat ≤ 15) (g4 : ¬ l2.toNat ≤ 15) :
    Calls Tryd.prog 8 #[.agg #[.int .i64 o0, .int .i64 o1, .int .u8 (c1.toNat : Int), .int .u8 (c2.toNat : Int), .int .u8 (l1.toNat : Int), .int .u8 (l2.toNat : Int)], .agg #[.int .i64 at_, .int .i64 o2, .int .u8 (d1.toNat : Int), .int .u8 (d2.toNat : Int), .int .u8 (m1.toNat : Int), .int .u8 (m2.toNat : Int)]] w fun e w' => e = .returned (.bool true) ∧ Below w.heap.size w w' := by
  obtain ⟨X2, hX2⟩ : ∃ X : Int, X = (c1.toNat : Int) := ⟨_, rfl⟩
  obtain ⟨X3, hX3⟩ : ∃ X : Int, X = (c2.toNat : Int) := ⟨_, rfl⟩
  obtain ⟨X4, hX4⟩ : ∃ X : Int, X = (l1.toNat : Int) := ⟨_, rfl⟩
  obtain ⟨X5, hX5⟩ : ∃ X : Int, X = (l2.toNat : Int) := ⟨_, rfl⟩
  obtain ⟨Y2, hY2⟩ : ∃ X : Int, X = (d1.toNat : Int) := ⟨_, rfl⟩
  obtain ⟨Y3, hY3⟩ : ∃ X : Int, X = (d2.toNat : Int) := ⟨_, rfl⟩
  obtain ⟨Y4, hY4⟩ : ∃ X : Int, X = (m1.toNat : Int) := ⟨_, rfl⟩
  obtain ⟨Y5, hY5⟩ : ∃ X : Int, X = (m2.toNat : Int) := ⟨_, rfl⟩
  rw [← hX2, ← hX3, ← hX4, ← hX5, ← hY2, ← hY3, ← hY4, ← hY5]
  have HX2 := Lib.hid hX2
  have HX3 := Lib.hid hX3
  have HX4 := Lib.hid hX4
  have HX5 := Lib.hid hX5
  have HY2 := Lib.hid hY2
  have HY3 := Lib.hid hY3
  have HY4 := Lib.hid hY4
  have HY5 := Lib.hid hY5
  have hf0 : ¬ 15 < X4 := by omega
  have hf1 : 15 < X5 := by omega
  have HT := Lib.hid hT
  have HG1 := Lib.hid g1
  have HG2 := Lib.hid g2
  clear hT hat g1 g2 g3 g4 hX2 hX3 hX4 hX5 hY2 hY3 hY4 hY5
  go_enter Tryd.func8, Tryd.ntmps8
  go_wp2_with fail
  go_at_call 20
  refine calls_named (fun W => W.cell? ⟨w.heap.size, 0, none⟩ = some (.int .i64 0) ∧ W.cell? ⟨w.heap.size, 1, none⟩ = some (.int .i64 4096) ∧ W.cell? ⟨w.heap.size, 2, none⟩ = some (.int .u8 X2) ∧ W.cell? ⟨w.heap.size, 3, none⟩ = some (.int .u8 X3) ∧ W.cell? ⟨w.heap.size, 4, none⟩ = some (.int .u8 X4) ∧ W.cell? ⟨w.heap.size, 5, none⟩ = some (.int .u8 X5) ∧ W.cell? ⟨w.heap.size + 1, 0, none⟩ = some (.int .i64 at_) ∧ W.cell? ⟨w.heap.size + 1, 1, none⟩ = some (.int .i64 1) ∧ W.cell? ⟨w.heap.size + 1, 2, none⟩ = some (.int .u8 Y2) ∧ W.cell? ⟨w.heap.size + 1, 3, none⟩ = some (.int .u8 Y3) ∧ W.cell? ⟨w.heap.size + 1, 4, none⟩ = some (.int .u8 Y4) ∧ W.cell? ⟨w.heap.size + 1, 5, none⟩ = some (.int .u8 Y5) ∧ w.heap.size + 1 < W.heap.size ∧ Below w.heap.size w W) (by (refine ⟨?_, ?_, ?_, ?_, ?_, ?_, ?_, ?_, ?_, ?_, ?_, ?_, ?_, by (repeat' (first | (with_reducible exact Below.refl _ _) | (with_reducible refine Below.setCell ?_ (by (first | omega | (simp; done) | (simp; omega))) _) | (with_reducible refine Below.alloc ?_ (by (first | omega | (simp; done) | (simp; omega))) _) | (with_reducible refine Below.drew ?_) | (with_reducible refine below_drewN ?_ _)))⟩); all_goals (repeat' (first | (with_reducible assumption) | (with_reducible refine HeldP.c_drew ?_) | (with_reducible refine HeldP.c_drewN ?_) | (with_reducible refine HeldP.c_same (by omega) ?_) | (with_reducible refine HeldP.c_other ?_ ?_) | (with_reducible refine HeldP.c_new (by first | omega | (simp; done) | (simp; omega)) ?_) | (with_reducible refine HeldP.c_alloc ?_ ?_) | (with_reducible refine HeldP.e_drew ?_) | (with_reducible refine HeldP.e_drewN ?_) | (with_reducible refine HeldP.e_set ?_) | (with_reducible refine HeldP.e_new (by first | omega | (simp; done) | (simp; omega)) ⟨_, rfl⟩) | (with_reducible refine HeldP.e_alloc ?_ ?_) | (with_reducible refine HeldP.f_drew ?_) | (with_reducible refine HeldP.f_drewN ?_) | (with_reducible refine HeldP.f_set ?_) | (with_reducible refine HeldP.f_new (by first | omega | (simp; done) | (simp; omega))) | (with_reducible refine HeldP.f_alloc ?_ ?_) | (with_reducible refine HeldP.s_drew ?_) | (with_reducible refine HeldP.s_drewN ?_) | (with_reducible refine HeldP.s_set ?_) | (with_reducible refine HeldP.s_new (by first | omega | (simp; done) | (simp; omega))) | (with_reducible refine HeldP.s_alloc ?_) | (with_reducible exact ⟨_, by assumption⟩) | omega | (intro e; simp at e; done) | (intro e; simp at e; omega) | (exact rfl) | (simp; done) | (simp; omega)))) ?_
  rintro w1 ⟨e00, e01, e02, e03, e04, e05, e10, e11, e12, e13, e14, e15, hz1, hb1⟩
  have HE : Hid (w1.cell? ⟨w.heap.size, 0, none⟩ = some (.int .i64 0) ∧ w1.cell? ⟨w.heap.size, 1, none⟩ = some (.int .i64 4096) ∧ w1.cell? ⟨w.heap.size, 2, none⟩ = some (.int .u8 X2) ∧ w1.cell? ⟨w.heap.size, 3, none⟩ = some (.int .u8 X3) ∧ w1.cell? ⟨w.heap.size, 4, none⟩ = some (.int .u8 X4) ∧ w1.cell? ⟨w.heap.size, 5, none⟩ = some (.int .u8 X5) ∧ w1.cell? ⟨w.heap.size + 1, 0, none⟩ = some (.int .i64 at_) ∧ w1.cell? ⟨w.heap.size + 1, 1, none⟩ = some (.int .i64 1) ∧ w1.cell? ⟨w.heap.size + 1, 2, none⟩ = some (.int .u8 Y2) ∧ w1.cell? ⟨w.heap.size + 1, 3, none⟩ = some (.int .u8 Y3) ∧ w1.cell? ⟨w.heap.size + 1, 4, none⟩ = some (.int .u8 Y4) ∧ w1.cell? ⟨w.heap.size + 1, 5, none⟩ = some (.int .u8 Y5)) := Lib.hid ⟨e00, e01, e02, e03, e04, e05, e10, e11, e12, e13, e14, e15⟩
  have HB1 := Lib.hid hb1
  have hs1 := hb1.size
  clear e00 e01 e02 e03 e04 e05 e10 e11 e12 e13 e14 e15 hb1
  rw [HX2.out, HX3.out]
  refine (KindW.k_may c1.toNat c2.toNat w1 (HT.out.below HB1.out)).mono ?_
  rintro e w2 ⟨he, hb2⟩
  rw [show KindP.may c1.toNat c2.toNat = true from HG1.out] at he
  subst he
  rw [← HX2.out, ← HX3.out]
  have HB2 := Lib.hid (below_m HB1.out hb2)
  have hz2 := hb2.size
  have HE2 : Hid (w2.cell? ⟨w.heap.size, 0, none⟩ = some (.int .i64 0) ∧ w2.cell? ⟨w.heap.size, 1, none⟩ = some (.int .i64 4096) ∧ w2.cell? ⟨w.heap.size, 2, none⟩ = some (.int .u8 X2) ∧ w2.cell? ⟨w.heap.size, 3, none⟩ = some (.int .u8 X3) ∧ w2.cell? ⟨w.heap.size, 4, none⟩ = some (.int .u8 X4) ∧ w2.cell? ⟨w.heap.size, 5, none⟩ = some (.int .u8 X5) ∧ w2.cell? ⟨w.heap.size + 1, 0, none⟩ = some (.int .i64 at_) ∧ w2.cell? ⟨w.heap.size + 1, 1, none⟩ = some (.int .i64 1) ∧ w2.cell? ⟨w.heap.size + 1, 2, none⟩ = some (.int .u8 Y2) ∧ w2.cell? ⟨w.heap.size + 1, 3, none⟩ = some (.int .u8 Y3) ∧ w2.cell? ⟨w.heap.size + 1, 4, none⟩ = some (.int .u8 Y4) ∧ w2.cell? ⟨w.heap.size + 1, 5, none⟩ = some (.int .u8 Y5)) := Lib.hid (by
    obtain ⟨e00, e01, e02, e03, e04, e05, e10, e11, e12, e13, e14, e15⟩ := HE.out
    exact ⟨(hb2.cell (p := ⟨w.heap.size, 0, none⟩) (by simp only; omega)).trans e00, (hb2.cell (p := ⟨w.heap.size, 1, none⟩) (by simp only; omega)).trans e01, (hb2.cell (p := ⟨w.heap.size, 2, none⟩) (by simp only; omega)).trans e02, (hb2.cell (p := ⟨w.heap.size, 3, none⟩) (by simp only; omega)).trans e03, (hb2.cell (p := ⟨w.heap.size, 4, none⟩) (by simp only; omega)).trans e04, (hb2.cell (p := ⟨w.heap.size, 5, none⟩) (by simp only; omega)).trans e05, (hb2.cell (p := ⟨w.heap.size + 1, 0, none⟩) (by simp only; omega)).trans e10, (hb2.cell (p := ⟨w.heap.size + 1, 1, none⟩) (by simp only; omega)).trans e11, (hb2.cell (p := ⟨w.heap.size + 1, 2, none⟩) (by simp only; omega)).trans e12, (hb2.cell (p := ⟨w.heap.size + 1, 3, none⟩) (by simp only; omega)).trans e13, (hb2.cell (p := ⟨w.heap.size + 1, 4, none⟩) (by simp only; omega)).trans e14, (hb2.cell (p := ⟨w.heap.size + 1, 5, none⟩) (by simp only; omega)).trans e15⟩)
  clear hb2
  obtain ⟨e00, e01, e02, e03, e04, e05, e10, e11, e12, e13, e14, e15⟩ := HE2.out
  clear e00 e01 e10 e11
  go_wp2_with fail
  go_at_call 20
  rw [HY2.out, HY3.out]
  refine (KindW.k_may d1.toNat d2.toNat w2 (HT.out.below HB2.out)).mono ?_
  rintro e w3 ⟨he, hb3⟩
  rw [show KindP.may d1.toNat d2.toNat = true from HG2.out] at he
  subst he
  rw [← HY2.out, ← HY3.out]
  have HB3 := Lib.hid (below_m HB2.out hb3)
  have hz3 := hb3.size
  have HE3 : Hid (w3.cell? ⟨w.heap.size, 0, none⟩ = some (.int .i64 0) ∧ w3.cell? ⟨w.heap.size, 1, none⟩ = some (.int .i64 4096) ∧ w3.cell? ⟨w.heap.size, 2, none⟩ = some (.int .u8 X2) ∧ w3.cell? ⟨w.heap.size, 3, none⟩ = some (.int .u8 X3) ∧ w3.cell? ⟨w.heap.size, 4, none⟩ = some (.int .u8 X4) ∧ w3.cell? ⟨w.heap.size, 5, none⟩ = some (.int .u8 X5) ∧ w3.cell? ⟨w.heap.size + 1, 0, none⟩ = some (.int .i64 at_) ∧ w3.cell? ⟨w.heap.size + 1, 1, none⟩ = some (.int .i64 1) ∧ w3.cell? ⟨w.heap.size + 1, 2, none⟩ = some (.int .u8 Y2) ∧ w3.cell? ⟨w.heap.size + 1, 3, none⟩ = some (.int .u8 Y3) ∧ w3.cell? ⟨w.heap.size + 1, 4, none⟩ = some (.int .u8 Y4) ∧ w3.cell? ⟨w.heap.size + 1, 5, none⟩ = some (.int .u8 Y5)) := Lib.hid (by
    obtain ⟨e00, e01, e02, e03, e04, e05, e10, e11, e12, e13, e14, e15⟩ := HE2.out
    exact ⟨(hb3.cell (p := ⟨w.heap.size, 0, none⟩) (by simp only; omega)).trans e00, (hb3.cell (p := ⟨w.heap.size, 1, none⟩) (by simp only; omega)).trans e01, (hb3.cell (p := ⟨w.heap.size, 2, none⟩) (by simp only; omega)).trans e02, (hb3.cell (p := ⟨w.heap.size, 3, none⟩) (by simp only; omega)).trans e03, (hb3.cell (p := ⟨w.heap.size, 4, none⟩) (by simp only; omega)).trans e04, (hb3.cell (p := ⟨w.heap.size, 5, none⟩) (by simp only; omega)).trans e05, (hb3.cell (p := ⟨w.heap.size + 1, 0, none⟩) (by simp only; omega)).trans e10, (hb3.cell (p := ⟨w.heap.size + 1, 1, none⟩) (by simp only; omega)).trans e11, (hb3.cell (p := ⟨w.heap.size + 1, 2, none⟩) (by simp only; omega)).trans e12, (hb3.cell (p := ⟨w.heap.size + 1, 3, none⟩) (by simp only; omega)).trans e13, (hb3.cell (p := ⟨w.heap.size + 1, 4, none⟩) (by simp only; omega)).trans e14, (hb3.cell (p := ⟨w.heap.size + 1, 5, none⟩) (by simp only; omega)).trans e15⟩)
  clear hb3 e02 e03 e04 e05 e12 e13 e14 e15
  obtain ⟨e00, e01, e02, e03, e04, e05, e10, e11, e12, e13, e14, e15⟩ := HE3.out
  clear e00 e01 e10 e11
  go_wp2_with (go_at_call 15; refine (works_c (HT.out.below HB3.out)).mono ?_; rintro e w9 ⟨rfl, hb9⟩)
  go_ret
  exact ⟨rfl, below_m HB3.out hb9⟩
set_option maxRecDepth 100000 in
set_option maxHeartbeats 8000000 in
theorem short_e {w : World} {at_ o0 o1 o2 : Int} {c1 c2 l1 l2 d1 d2 m1 m2 : UInt8} (hT : KindW.Tab w) (hat : -9223372036854775808 ≤ at_ ∧ at_ ≤ 9223372036854775807) (g1 : mayC (c1, c2) = true) (g2 : mayC (d1, d2) = true) (g3 : l1.toNat ≤ 15) (g4 : l2.toNat ≤ 15) (g5 : ¬ m1.toNat ≤ 15) :
    Calls Tryd.prog 8 #[.agg #[.int .i64 o0, .int .i64 o1, .int .u8 (c1.toNat : Int), .int .u8 (c2.toNat : Int), .int .u8 (l1.toNat : Int), .int .u8 (l2.toNat : Int)], .agg #[.int .i64 at_, .int .i64 o2, .int .u8 (d1.toNat : Int), .int .u8 (d2.toNat : Int), .int .u8 (m1.toNat : Int), .int .u8 (m2.toNat : Int)]] w fun e w' => e = .returned (.bool true) ∧ Below w.heap.size w w' := by
  obtain ⟨X2, hX2⟩ : ∃ X : Int, X = (c1.toNat : Int) := ⟨_, rfl⟩
  obtain ⟨X3, hX3⟩ : ∃ X : Int, X = (c2.toNat : Int) := ⟨_, rfl⟩
  obtain ⟨X4, hX4⟩ : ∃ X : Int, X = (l1.toNat : Int) := ⟨_, rfl⟩
  obtain ⟨X5, hX5⟩ : ∃ X : Int, X = (l2.toNat : Int) := ⟨_, rfl⟩
  obtain ⟨Y2, hY2⟩ : ∃ X : Int, X = (d1.toNat : Int) := ⟨_, rfl⟩
  obtain ⟨Y3, hY3⟩ : ∃ X : Int, X = (d2.toNat : Int) := ⟨_, rfl⟩
  obtain ⟨Y4, hY4⟩ : ∃ X : Int, X = (m1.toNat : Int) := ⟨_, rfl⟩
  obtain ⟨Y5, hY5⟩ : ∃ X : Int, X = (m2.toNat : Int) := ⟨_, rfl⟩
  rw [← hX2, ← hX3, ← hX4, ← hX5, ← hY2, ← hY3, ← hY4, ← hY5]
  have HX2 := Lib.hid hX2
  have HX3 := Lib.hid hX3
  have HX4 := Lib.hid hX4
  have HX5 := Lib.hid hX5
  have HY2 := Lib.hid hY2
  have HY3 := Lib.hid hY3
  have HY4 := Lib.hid hY4
  have HY5 := Lib.hid hY5
  have hf0 : ¬ 15 < X4 := by omega
  have hf1 : ¬ 15 < X5 := by omega
  have hf2 : 15 < Y4 := by omega
  have HT := Lib.hid hT
  have HG1 := Lib.hid g1
  have HG2 := Lib.hid g2
  clear hT hat g1 g2 g3 g4 g5 hX2 hX3 hX4 hX5 hY2 hY3 hY4 hY5
  go_enter Tryd.func8, Tryd.ntmps8
  go_wp2_with fail
  go_at_call 20
  refine calls_named (fun W => W.cell? ⟨w.heap.size, 0, none⟩ = some (.int .i64 0) ∧ W.cell? ⟨w.heap.size, 1, none⟩ = some (.int .i64 4096) ∧ W.cell? ⟨w.heap.size, 2, none⟩ = some (.int .u8 X2) ∧ W.cell? ⟨w.heap.size, 3, none⟩ = some (.int .u8 X3) ∧ W.cell? ⟨w.heap.size, 4, none⟩ = some (.int .u8 X4) ∧ W.cell? ⟨w.heap.size, 5, none⟩ = some (.int .u8 X5) ∧ W.cell? ⟨w.heap.size + 1, 0, none⟩ = some (.int .i64 at_) ∧ W.cell? ⟨w.heap.size + 1, 1, none⟩ = some (.int .i64 1) ∧ W.cell? ⟨w.heap.size + 1, 2, none⟩ = some (.int .u8 Y2) ∧ W.cell? ⟨w.heap.size + 1, 3, none⟩ = some (.int .u8 Y3) ∧ W.cell? ⟨w.heap.size + 1, 4, none⟩ = some (.int .u8 Y4) ∧ W.cell? ⟨w.heap.size + 1, 5, none⟩ = some (.int .u8 Y5) ∧ w.heap.size + 1 < W.heap.size ∧ Below w.heap.size w W) (by (refine ⟨?_, ?_, ?_, ?_, ?_, ?_, ?_, ?_, ?_, ?_, ?_, ?_, ?_, by (repeat' (first | (with_reducible exact Below.refl _ _) | (with_reducible refine Below.setCell ?_ (by (first | omega | (simp; done) | (simp; omega))) _) | (with_reducible refine Below.alloc ?_ (by (first | omega | (simp; done) | (simp; omega))) _) | (with_reducible refine Below.drew ?_) | (with_reducible refine below_drewN ?_ _)))⟩); all_goals (repeat' (first | (with_reducible assumption) | (with_reducible refine HeldP.c_drew ?_) | (with_reducible refine HeldP.c_drewN ?_) | (with_reducible refine HeldP.c_same (by omega) ?_) | (with_reducible refine HeldP.c_other ?_ ?_) | (with_reducible refine HeldP.c_new (by first | omega | (simp; done) | (simp; omega)) ?_) | (with_reducible refine HeldP.c_alloc ?_ ?_) | (with_reducible refine HeldP.e_drew ?_) | (with_reducible refine HeldP.e_drewN ?_) | (with_reducible refine HeldP.e_set ?_) | (with_reducible refine HeldP.e_new (by first | omega | (simp; done) | (simp; omega)) ⟨_, rfl⟩) | (with_reducible refine HeldP.e_alloc ?_ ?_) | (with_reducible refine HeldP.f_drew ?_) | (with_reducible refine HeldP.f_drewN ?_) | (with_reducible refine HeldP.f_set ?_) | (with_reducible refine HeldP.f_new (by first | omega | (simp; done) | (simp; omega))) | (with_reducible refine HeldP.f_alloc ?_ ?_) | (with_reducible refine HeldP.s_drew ?_) | (with_reducible refine HeldP.s_drewN ?_) | (with_reducible refine HeldP.s_set ?_) | (with_reducible refine HeldP.s_new (by first | omega | (simp; done) | (simp; omega))) | (with_reducible refine HeldP.s_alloc ?_) | (with_reducible exact ⟨_, by assumption⟩) | omega | (intro e; simp at e; done) | (intro e; simp at e; omega) | (exact rfl) | (simp; done) | (simp; omega)))) ?_
  rintro w1 ⟨e00, e01, e02, e03, e04, e05, e10, e11, e12, e13, e14, e15, hz1, hb1⟩
  have HE : Hid (w1.cell? ⟨w.heap.size, 0, none⟩ = some (.int .i64 0) ∧ w1.cell? ⟨w.heap.size, 1, none⟩ = some (.int .i64 4096) ∧ w1.cell? ⟨w.heap.size, 2, none⟩ = some (.int .u8 X2) ∧ w1.cell? ⟨w.heap.size, 3, none⟩ = some (.int .u8 X3) ∧ w1.cell? ⟨w.heap.size, 4, none⟩ = some (.int .u8 X4) ∧ w1.cell? ⟨w.heap.size, 5, none⟩ = some (.int .u8 X5) ∧ w1.cell? ⟨w.heap.size + 1, 0, none⟩ = some (.int .i64 at_) ∧ w1.cell? ⟨w.heap.size + 1, 1, none⟩ = some (.int .i64 1) ∧ w1.cell? ⟨w.heap.size + 1, 2, none⟩ = some (.int .u8 Y2) ∧ w1.cell? ⟨w.heap.size + 1, 3, none⟩ = some (.int .u8 Y3) ∧ w1.cell? ⟨w.heap.size + 1, 4, none⟩ = some (.int .u8 Y4) ∧ w1.cell? ⟨w.heap.size + 1, 5, none⟩ = some (.int .u8 Y5)) := Lib.hid ⟨e00, e01, e02, e03, e04, e05, e10, e11, e12, e13, e14, e15⟩
  have HB1 := Lib.hid hb1
  have hs1 := hb1.size
  clear e00 e01 e02 e03 e04 e05 e10 e11 e12 e13 e14 e15 hb1
  rw [HX2.out, HX3.out]
  refine (KindW.k_may c1.toNat c2.toNat w1 (HT.out.below HB1.out)).mono ?_
  rintro e w2 ⟨he, hb2⟩
  rw [show KindP.may c1.toNat c2.toNat = true from HG1.out] at he
  subst he
  rw [← HX2.out, ← HX3.out]
  have HB2 := Lib.hid (below_m HB1.out hb2)
  have hz2 := hb2.size
  have HE2 : Hid (w2.cell? ⟨w.heap.size, 0, none⟩ = some (.int .i64 0) ∧ w2.cell? ⟨w.heap.size, 1, none⟩ = some (.int .i64 4096) ∧ w2.cell? ⟨w.heap.size, 2, none⟩ = some (.int .u8 X2) ∧ w2.cell? ⟨w.heap.size, 3, none⟩ = some (.int .u8 X3) ∧ w2.cell? ⟨w.heap.size, 4, none⟩ = some (.int .u8 X4) ∧ w2.cell? ⟨w.heap.size, 5, none⟩ = some (.int .u8 X5) ∧ w2.cell? ⟨w.heap.size + 1, 0, none⟩ = some (.int .i64 at_) ∧ w2.cell? ⟨w.heap.size + 1, 1, none⟩ = some (.int .i64 1) ∧ w2.cell? ⟨w.heap.size + 1, 2, none⟩ = some (.int .u8 Y2) ∧ w2.cell? ⟨w.heap.size + 1, 3, none⟩ = some (.int .u8 Y3) ∧ w2.cell? ⟨w.heap.size + 1, 4, none⟩ = some (.int .u8 Y4) ∧ w2.cell? ⟨w.heap.size + 1, 5, none⟩ = some (.int .u8 Y5)) := Lib.hid (by
    obtain ⟨e00, e01, e02, e03, e04, e05, e10, e11, e12, e13, e14, e15⟩ := HE.out
    exact ⟨(hb2.cell (p := ⟨w.heap.size, 0, none⟩) (by simp only; omega)).trans e00, (hb2.cell (p := ⟨w.heap.size, 1, none⟩) (by simp only; omega)).trans e01, (hb2.cell (p := ⟨w.heap.size, 2, none⟩) (by simp only; omega)).trans e02, (hb2.cell (p := ⟨w.heap.size, 3, none⟩) (by simp only; omega)).trans e03, (hb2.cell (p := ⟨w.heap.size, 4, none⟩) (by simp only; omega)).trans e04, (hb2.cell (p := ⟨w.heap.size, 5, none⟩) (by simp only; omega)).trans e05, (hb2.cell (p := ⟨w.heap.size + 1, 0, none⟩) (by simp only; omega)).trans e10, (hb2.cell (p := ⟨w.heap.size + 1, 1, none⟩) (by simp only; omega)).trans e11, (hb2.cell (p := ⟨w.heap.size + 1, 2, none⟩) (by simp only; omega)).trans e12, (hb2.cell (p := ⟨w.heap.size + 1, 3, none⟩) (by simp only; omega)).trans e13, (hb2.cell (p := ⟨w.heap.size + 1, 4, none⟩) (by simp only; omega)).trans e14, (hb2.cell (p := ⟨w.heap.size + 1, 5, none⟩) (by simp only; omega)).trans e15⟩)
  clear hb2
  obtain ⟨e00, e01, e02, e03, e04, e05, e10, e11, e12, e13, e14, e15⟩ := HE2.out
  clear e00 e01 e10 e11
  go_wp2_with fail
  go_at_call 20
  rw [HY2.out, HY3.out]
  refine (KindW.k_may d1.toNat d2.toNat w2 (HT.out.below HB2.out)).mono ?_
  rintro e w3 ⟨he, hb3⟩
  rw [show KindP.may d1.toNat d2.toNat = true from HG2.out] at he
  subst he
  rw [← HY2.out, ← HY3.out]
  have HB3 := Lib.hid (below_m HB2.out hb3)
  have hz3 := hb3.size
  have HE3 : Hid (w3.cell? ⟨w.heap.size, 0, none⟩ = some (.int .i64 0) ∧ w3.cell? ⟨w.heap.size, 1, none⟩ = some (.int .i64 4096) ∧ w3.cell? ⟨w.heap.size, 2, none⟩ = some (.int .u8 X2) ∧ w3.cell? ⟨w.heap.size, 3, none⟩ = some (.int .u8 X3) ∧ w3.cell? ⟨w.heap.size, 4, none⟩ = some (.int .u8 X4) ∧ w3.cell? ⟨w.heap.size, 5, none⟩ = some (.int .u8 X5) ∧ w3.cell? ⟨w.heap.size + 1, 0, none⟩ = some (.int .i64 at_) ∧ w3.cell? ⟨w.heap.size + 1, 1, none⟩ = some (.int .i64 1) ∧ w3.cell? ⟨w.heap.size + 1, 2, none⟩ = some (.int .u8 Y2) ∧ w3.cell? ⟨w.heap.size + 1, 3, none⟩ = some (.int .u8 Y3) ∧ w3.cell? ⟨w.heap.size + 1, 4, none⟩ = some (.int .u8 Y4) ∧ w3.cell? ⟨w.heap.size + 1, 5, none⟩ = some (.int .u8 Y5)) := Lib.hid (by
    obtain ⟨e00, e01, e02, e03, e04, e05, e10, e11, e12, e13, e14, e15⟩ := HE2.out
    exact ⟨(hb3.cell (p := ⟨w.heap.size, 0, none⟩) (by simp only; omega)).trans e00, (hb3.cell (p := ⟨w.heap.size, 1, none⟩) (by simp only; omega)).trans e01, (hb3.cell (p := ⟨w.heap.size, 2, none⟩) (by simp only; omega)).trans e02, (hb3.cell (p := ⟨w.heap.size, 3, none⟩) (by simp only; omega)).trans e03, (hb3.cell (p := ⟨w.heap.size, 4, none⟩) (by simp only; omega)).trans e04, (hb3.cell (p := ⟨w.heap.size, 5, none⟩) (by simp only; omega)).trans e05, (hb3.cell (p := ⟨w.heap.size + 1, 0, none⟩) (by simp only; omega)).trans e10, (hb3.cell (p := ⟨w.heap.size + 1, 1, none⟩) (by simp only; omega)).trans e11, (hb3.cell (p := ⟨w.heap.size + 1, 2, none⟩) (by simp only; omega)).trans e12, (hb3.cell (p := ⟨w.heap.size + 1, 3, none⟩) (by simp only; omega)).trans e13, (hb3.cell (p := ⟨w.heap.size + 1, 4, none⟩) (by simp only; omega)).trans e14, (hb3.cell (p := ⟨w.heap.size + 1, 5, none⟩) (by simp only; omega)).trans e15⟩)
  clear hb3 e02 e03 e04 e05 e12 e13 e14 e15
  obtain ⟨e00, e01, e02, e03, e04, e05, e10, e11, e12, e13, e14, e15⟩ := HE3.out
  clear e00 e01 e10 e11
  go_wp2_with (go_at_call 15; refine (works_c (HT.out.below HB3.out)).mono ?_; rintro e w9 ⟨rfl, hb9⟩)
  go_ret
  exact ⟨rfl, below_m HB3.out hb9⟩
set_option maxRecDepth 100000 in
set_option maxHeartbeats 8000000 in
theorem short_f {w : World} {at_ o0 o1 o2 : Int} {c1 c2 l1 l2 d1 d2 m1 m2 : UInt8} (hT : KindW.Tab w) (hat : -9223372036854775808 ≤ at_ ∧ at_ ≤ 9223372036854775807) (g1 : mayC (c1, c2) = true) (g2 : mayC (d1, d2) = true) (g3 : l1.toNat ≤ 15) (g4 : l2.toNat ≤ 15) (g5 : m1.toNat ≤ 15) (g6 : ¬ m2.toNat ≤ 15) :
    Calls Tryd.prog 8 #[.agg #[.int .i64 o0, .int .i64 o1, .int .u8 (c1.toNat : Int), .int .u8 (c2.toNat : Int), .int .u8 (l1.toNat : Int), .int .u8 (l2.toNat : Int)], .agg #[.int .i64 at_, .int .i64 o2, .int .u8 (d1.toNat : Int), .int .u8 (d2.toNat : Int), .int .u8 (m1.toNat : Int), .int .u8 (m2.toNat : Int)]] w fun e w' => e = .returned (.bool true) ∧ Below w.heap.size w w' := by
  obtain ⟨X2, hX2⟩ : ∃ X : Int, X = (c1.toNat : Int) := ⟨_, rfl⟩
  obtain ⟨X3, hX3⟩ : ∃ X : Int, X = (c2.toNat : Int) := ⟨_, rfl⟩
  obtain ⟨X4, hX4⟩ : ∃ X : Int, X = (l1.toNat : Int) := ⟨_, rfl⟩
  obtain ⟨X5, hX5⟩ : ∃ X : Int, X = (l2.toNat : Int) := ⟨_, rfl⟩
  obtain ⟨Y2, hY2⟩ : ∃ X : Int, X = (d1.toNat : Int) := ⟨_, rfl⟩
  obtain ⟨Y3, hY3⟩ : ∃ X : Int, X = (d2.toNat : Int) := ⟨_, rfl⟩
  obtain ⟨Y4, hY4⟩ : ∃ X : Int, X = (m1.toNat : Int) := ⟨_, rfl⟩
  obtain ⟨Y5, hY5⟩ : ∃ X : Int, X = (m2.toNat : Int) := ⟨_, rfl⟩
  rw [← hX2, ← hX3, ← hX4, ← hX5, ← hY2, ← hY3, ← hY4, ← hY5]
  have HX2 := Lib.hid hX2
  have HX3 := Lib.hid hX3
  have HX4 := Lib.hid hX4
  have HX5 := Lib.hid hX5
  have HY2 := Lib.hid hY2
  have HY3 := Lib.hid hY3
  have HY4 := Lib.hid hY4
  have HY5 := Lib.hid hY5
  have hf0 : ¬ 15 < X4 := by omega
  have hf1 : ¬ 15 < X5 := by omega
  have hf2 : ¬ 15 < Y4 := by omega
  have hf3 : 15 < Y5 := by omega
  have HT := Lib.hid hT
  have HG1 := Lib.hid g1
  have HG2 := Lib.hid g2
  clear hT hat g1 g2 g3 g4 g5 g6 hX2 hX3 hX4 hX5 hY2 hY3 hY4 hY5
  go_enter Tryd.func8, Tryd.ntmps8
  go_wp2_with fail
  go_at_call 20
  refine calls_named (fun W => W.cell? ⟨w.heap.size, 0, none⟩ = some (.int .i64 0) ∧ W.cell? ⟨w.heap.size, 1, none⟩ = some (.int .i64 4096) ∧ W.cell? ⟨w.heap.size, 2, none⟩ = some (.int .u8 X2) ∧ W.cell? ⟨w.heap.size, 3, none⟩ = some (.int .u8 X3) ∧ W.cell? ⟨w.heap.size, 4, none⟩ = some (.int .u8 X4) ∧ W.cell? ⟨w.heap.size, 5, none⟩ = some (.int .u8 X5) ∧ W.cell? ⟨w.heap.size + 1, 0, none⟩ = some (.int .i64 at_) ∧ W.cell? ⟨w.heap.size + 1, 1, none⟩ = some (.int .i64 1) ∧ W.cell? ⟨w.heap.size + 1, 2, none⟩ = some (.int .u8 Y2) ∧ W.cell? ⟨w.heap.size + 1, 3, none⟩ = some (.int .u8 Y3) ∧ W.cell? ⟨w.heap.size + 1, 4, none⟩ = some (.int .u8 Y4) ∧ W.cell? ⟨w.heap.size + 1, 5, none⟩ = some (.int .u8 Y5) ∧ w.heap.size + 1 < W.heap.size ∧ Below w.heap.size w W) (by (refine ⟨?_, ?_, ?_, ?_, ?_, ?_, ?_, ?_, ?_, ?_, ?_, ?_, ?_, by (repeat' (first | (with_reducible exact Below.refl _ _) | (with_reducible refine Below.setCell ?_ (by (first | omega | (simp; done) | (simp; omega))) _) | (with_reducible refine Below.alloc ?_ (by (first | omega | (simp; done) | (simp; omega))) _) | (with_reducible refine Below.drew ?_) | (with_reducible refine below_drewN ?_ _)))⟩); all_goals (repeat' (first | (with_reducible assumption) | (with_reducible refine HeldP.c_drew ?_) | (with_reducible refine HeldP.c_drewN ?_) | (with_reducible refine HeldP.c_same (by omega) ?_) | (with_reducible refine HeldP.c_other ?_ ?_) | (with_reducible refine HeldP.c_new (by first | omega | (simp; done) | (simp; omega)) ?_) | (with_reducible refine HeldP.c_alloc ?_ ?_) | (with_reducible refine HeldP.e_drew ?_) | (with_reducible refine HeldP.e_drewN ?_) | (with_reducible refine HeldP.e_set ?_) | (with_reducible refine HeldP.e_new (by first | omega | (simp; done) | (simp; omega)) ⟨_, rfl⟩) | (with_reducible refine HeldP.e_alloc ?_ ?_) | (with_reducible refine HeldP.f_drew ?_) | (with_reducible refine HeldP.f_drewN ?_) | (with_reducible refine HeldP.f_set ?_) | (with_reducible refine HeldP.f_new (by first | omega | (simp; done) | (simp; omega))) | (with_reducible refine HeldP.f_alloc ?_ ?_) | (with_reducible refine HeldP.s_drew ?_) | (with_reducible refine HeldP.s_drewN ?_) | (with_reducible refine HeldP.s_set ?_) | (with_reducible refine HeldP.s_new (by first | omega | (simp; done) | (simp; omega))) | (with_reducible refine HeldP.s_alloc ?_) | (with_reducible exact ⟨_, by assumption⟩) | omega | (intro e; simp at e; done) | (intro e; simp at e; omega) | (exact rfl) | (simp; done) | (simp; omega)))) ?_
  rintro w1 ⟨e00, e01, e02, e03, e04, e05, e10, e11, e12, e13, e14, e15, hz1, hb1⟩
  have HE : Hid (w1.cell? ⟨w.heap.size, 0, none⟩ = some (.int .i64 0) ∧ w1.cell? ⟨w.heap.size, 1, none⟩ = some (.int .i64 4096) ∧ w1.cell? ⟨w.heap.size, 2, none⟩ = some (.int .u8 X2) ∧ w1.cell? ⟨w.heap.size, 3, none⟩ = some (.int .u8 X3) ∧ w1.cell? ⟨w.heap.size, 4, none⟩ = some (.int .u8 X4) ∧ w1.cell? ⟨w.heap.size, 5, none⟩ = some (.int .u8 X5) ∧ w1.cell? ⟨w.heap.size + 1, 0, none⟩ = some (.int .i64 at_) ∧ w1.cell? ⟨w.heap.size + 1, 1, none⟩ = some (.int .i64 1) ∧ w1.cell? ⟨w.heap.size + 1, 2, none⟩ = some (.int .u8 Y2) ∧ w1.cell? ⟨w.heap.size + 1, 3, none⟩ = some (.int .u8 Y3) ∧ w1.cell? ⟨w.heap.size + 1, 4, none⟩ = some (.int .u8 Y4) ∧ w1.cell? ⟨w.heap.size + 1, 5, none⟩ = some (.int .u8 Y5)) := Lib.hid ⟨e00, e01, e02, e03, e04, e05, e10, e11, e12, e13, e14, e15⟩
  have HB1 := Lib.hid hb1
  have hs1 := hb1.size
  clear e00 e01 e02 e03 e04 e05 e10 e11 e12 e13 e14 e15 hb1
  rw [HX2.out, HX3.out]
  refine (KindW.k_may c1.toNat c2.toNat w1 (HT.out.below HB1.out)).mono ?_
  rintro e w2 ⟨he, hb2⟩
  rw [show KindP.may c1.toNat c2.toNat = true from HG1.out] at he
  subst he
  rw [← HX2.out, ← HX3.out]
  have HB2 := Lib.hid (below_m HB1.out hb2)
  have hz2 := hb2.size
  have HE2 : Hid (w2.cell? ⟨w.heap.size, 0, none⟩ = some (.int .i64 0) ∧ w2.cell? ⟨w.heap.size, 1, none⟩ = some (.int .i64 4096) ∧ w2.cell? ⟨w.heap.size, 2, none⟩ = some (.int .u8 X2) ∧ w2.cell? ⟨w.heap.size, 3, none⟩ = some (.int .u8 X3) ∧ w2.cell? ⟨w.heap.size, 4, none⟩ = some (.int .u8 X4) ∧ w2.cell? ⟨w.heap.size, 5, none⟩ = some (.int .u8 X5) ∧ w2.cell? ⟨w.heap.size + 1, 0, none⟩ = some (.int .i64 at_) ∧ w2.cell? ⟨w.heap.size + 1, 1, none⟩ = some (.int .i64 1) ∧ w2.cell? ⟨w.heap.size + 1, 2, none⟩ = some (.int .u8 Y2) ∧ w2.cell? ⟨w.heap.size + 1, 3, none⟩ = some (.int .u8 Y3) ∧ w2.cell? ⟨w.heap.size + 1, 4, none⟩ = some (.int .u8 Y4) ∧ w2.cell? ⟨w.heap.size + 1, 5, none⟩ = some (.int .u8 Y5)) := Lib.hid (by
    obtain ⟨e00, e01, e02, e03, e04, e05, e10, e11, e12, e13, e14, e15⟩ := HE.out
    exact ⟨(hb2.cell (p := ⟨w.heap.size, 0, none⟩) (by simp only; omega)).trans e00, (hb2.cell (p := ⟨w.heap.size, 1, none⟩) (by simp only; omega)).trans e01, (hb2.cell (p := ⟨w.heap.size, 2, none⟩) (by simp only; omega)).trans e02, (hb2.cell (p := ⟨w.heap.size, 3, none⟩) (by simp only; omega)).trans e03, (hb2.cell (p := ⟨w.heap.size, 4, none⟩) (by simp only; omega)).trans e04, (hb2.cell (p := ⟨w.heap.size, 5, none⟩) (by simp only; omega)).trans e05, (hb2.cell (p := ⟨w.heap.size + 1, 0, none⟩) (by simp only; omega)).trans e10, (hb2.cell (p := ⟨w.heap.size + 1, 1, none⟩) (by simp only; omega)).trans e11, (hb2.cell (p := ⟨w.heap.size + 1, 2, none⟩) (by simp only; omega)).trans e12, (hb2.cell (p := ⟨w.heap.size + 1, 3, none⟩) (by simp only; omega)).trans e13, (hb2.cell (p := ⟨w.heap.size + 1, 4, none⟩) (by simp only; omega)).trans e14, (hb2.cell (p := ⟨w.heap.size + 1, 5, none⟩) (by simp only; omega)).trans e15⟩)
  clear hb2
  obtain ⟨e00, e01, e02, e03, e04, e05, e10, e11, e12, e13, e14, e15⟩ := HE2.out
  clear e00 e01 e10 e11
  go_wp2_with fail
  go_at_call 20
  rw [HY2.out, HY3.out]
  refine (KindW.k_may d1.toNat d2.toNat w2 (HT.out.below HB2.out)).mono ?_
  rintro e w3 ⟨he, hb3⟩
  rw [show KindP.may d1.toNat d2.toNat = true from HG2.out] at he
  subst he
  rw [← HY2.out, ← HY3.out]
  have HB3 := Lib.hid (below_m HB2.out hb3)
  have hz3 := hb3.size
  have HE3 : Hid (w3.cell? ⟨w.heap.size, 0, none⟩ = some (.int .i64 0) ∧ w3.cell? ⟨w.heap.size, 1, none⟩ = some (.int .i64 4096) ∧ w3.cell? ⟨w.heap.size, 2, none⟩ = some (.int .u8 X2) ∧ w3.cell? ⟨w.heap.size, 3, none⟩ = some (.int .u8 X3) ∧ w3.cell? ⟨w.heap.size, 4, none⟩ = some (.int .u8 X4) ∧ w3.cell? ⟨w.heap.size, 5, none⟩ = some (.int .u8 X5) ∧ w3.cell? ⟨w.heap.size + 1, 0, none⟩ = some (.int .i64 at_) ∧ w3.cell? ⟨w.heap.size + 1, 1, none⟩ = some (.int .i64 1) ∧ w3.cell? ⟨w.heap.size + 1, 2, none⟩ = some (.int .u8 Y2) ∧ w3.cell? ⟨w.heap.size + 1, 3, none⟩ = some (.int .u8 Y3) ∧ w3.cell? ⟨w.heap.size + 1, 4, none⟩ = some (.int .u8 Y4) ∧ w3.cell? ⟨w.heap.size + 1, 5, none⟩ = some (.int .u8 Y5)) := Lib.hid (by
    obtain ⟨e00, e01, e02, e03, e04, e05, e10, e11, e12, e13, e14, e15⟩ := HE2.out
    exact ⟨(hb3.cell (p := ⟨w.heap.size, 0, none⟩) (by simp only; omega)).trans e00, (hb3.cell (p := ⟨w.heap.size, 1, none⟩) (by simp only; omega)).trans e01, (hb3.cell (p := ⟨w.heap.size, 2, none⟩) (by simp only; omega)).trans e02, (hb3.cell (p := ⟨w.heap.size, 3, none⟩) (by simp only; omega)).trans e03, (hb3.cell (p := ⟨w.heap.size, 4, none⟩) (by simp only; omega)).trans e04, (hb3.cell (p := ⟨w.heap.size, 5, none⟩) (by simp only; omega)).trans e05, (hb3.cell (p := ⟨w.heap.size + 1, 0, none⟩) (by simp only; omega)).trans e10, (hb3.cell (p := ⟨w.heap.size + 1, 1, none⟩) (by simp only; omega)).trans e11, (hb3.cell (p := ⟨w.heap.size + 1, 2, none⟩) (by simp only; omega)).trans e12, (hb3.cell (p := ⟨w.heap.size + 1, 3, none⟩) (by simp only; omega)).trans e13, (hb3.cell (p := ⟨w.heap.size + 1, 4, none⟩) (by simp only; omega)).trans e14, (hb3.cell (p := ⟨w.heap.size + 1, 5, none⟩) (by simp only; omega)).trans e15⟩)
  clear hb3 e02 e03 e04 e05 e12 e13 e14 e15
  obtain ⟨e00, e01, e02, e03, e04, e05, e10, e11, e12, e13, e14, e15⟩ := HE3.out
  clear e00 e01 e10 e11
  go_wp2_with (go_at_call 15; refine (works_c (HT.out.below HB3.out)).mono ?_; rintro e w9 ⟨rfl, hb9⟩)
  go_ret
  exact ⟨rfl, below_m HB3.out hb9⟩
end PackW
end Go.Proofs.YtjllgdlmeoakpaaDoor
