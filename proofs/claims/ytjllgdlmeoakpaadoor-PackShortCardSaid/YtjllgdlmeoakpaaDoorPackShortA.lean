/- PackShort's walk: the longest way. -/
import Derived.Test.YtjllgdlmeoakpaaDoorPackShortP
namespace Go.Proofs.YtjllgdlmeoakpaaDoor
open Go.RowKit
set_option linter.unusedVariables false
set_option linter.unusedSimpArgs false
namespace PackW
open BytesW RunsW

set_option maxRecDepth 100000 in
set_option maxHeartbeats 8000000 in
theorem short_g {w : World} {at_ o0 o1 o2 : Int} {c1 c2 l1 l2 d1 d2 m1 m2 : UInt8} (hT : KindW.Tab w) (hat : -9223372036854775808 ≤ at_ ∧ at_ ≤ 9223372036854775807) (g1 : mayC (c1, c2) = true) (g2 : mayC (d1, d2) = true) (g3 : l1.toNat ≤ 15) (g4 : l2.toNat ≤ 15) (g5 : m1.toNat ≤ 15) (g6 : m2.toNat ≤ 15) :
    Calls Tryd.prog 8 #[.agg #[.int .i64 o0, .int .i64 o1, .int .u8 (c1.toNat : Int), .int .u8 (c2.toNat : Int), .int .u8 (l1.toNat : Int), .int .u8 (l2.toNat : Int)], .agg #[.int .i64 at_, .int .i64 o2, .int .u8 (d1.toNat : Int), .int .u8 (d2.toNat : Int), .int .u8 (m1.toNat : Int), .int .u8 (m2.toNat : Int)]] w fun e w' => e = .returned (.bool true) ∧ Below w.heap.size w w' := by
  obtain ⟨X2, hX2⟩ : ∃ X : Int, X = (c1.toNat : Int) := ⟨_, rfl⟩
  obtain ⟨X3, hX3⟩ : ∃ X : Int, X = (c2.toNat : Int) := ⟨_, rfl⟩
  obtain ⟨X4, hX4⟩ : ∃ X : Int, X = (l1.toNat : Int) := ⟨_, rfl⟩
  obtain ⟨X5, hX5⟩ : ∃ X : Int, X = (l2.toNat : Int) := ⟨_, rfl⟩
  obtain ⟨Y2, hY2⟩ : ∃ X : Int, X = (d1.toNat : Int) := ⟨_, rfl⟩
  obtain ⟨Y3, hY3⟩ : ∃ X : Int, X = (d2.toNat : Int) := ⟨_, rfl⟩
  obtain ⟨Y4, hY4⟩ : ∃ X : Int, X = (m1.toNat : Int) := ⟨_, rfl⟩
  obtain ⟨Y5, hY5⟩ : ∃ X : Int, X = (m2.toNat : Int) := ⟨_, rfl⟩
  rw [← hX2, ← hX3, ← hX4, ← hX5, ← hY2, ← hY3, ← hY4, ← hY5]
  have HX2 := Lib.hid hX2
  have HX3 := Lib.hid hX3
  have HX4 := Lib.hid hX4
  have HX5 := Lib.hid hX5
  have HY2 := Lib.hid hY2
  have HY3 := Lib.hid hY3
  have HY4 := Lib.hid hY4
  have HY5 := Lib.hid hY5
  have hf0 : ¬ 15 < X4 := by omega
  have hf1 : ¬ 15 < X5 := by omega
  have hf2 : ¬ 15 < Y4 := by omega
  have hf3 : ¬ 15 < Y5 := by omega
  have HT := Lib.hid hT
  have hmc : mayL (l1, l2) = true := by simp only [mayL, g3, g4, decide_true, Bool.and_true]
  have hmm : mayL (m1, m2) = true := by simp only [mayL, g5, g6, decide_true, Bool.and_true]
  obtain ⟨a, hae⟩ : ∃ a, a = atOf ⟨at_, 1, (d1, d2), (m1, m2)⟩ := ⟨_, rfl⟩
  have ha : a < 4096 := by rw [hae]; exact atOf_lt _
  obtain ⟨k1, hk1⟩ : ∃ k : Ck, k = ⟨List.replicate 4096 (c1, c2), List.replicate 4096 (l1, l2), []⟩ := ⟨_, rfl⟩
  obtain ⟨k2, hk2⟩ : ∃ k : Ck, k = ⟨(List.replicate 4096 (c1, c2)).set a (d1, d2), (List.replicate 4096 (l1, l2)).set a (m1, m2), []⟩ := ⟨_, rfl⟩
  obtain ⟨bs, hbs⟩ : ∃ bs, bs = putC k2 := ⟨_, rfl⟩
  have hlen : 10 ≤ bs.length ∧ bs.length ≤ 22 := by rw [hbs, hk2]; exact put_two ha
  have hI1 : (10 : Int) ≤ (bs.length : Int) := by omega
  have hI2 : (bs.length : Int) ≤ 22 := by omega
  have HP1 : Hid (putA k1 = ([1, c1, c2, 128, 32, 0, 128, 32, lnum (l1, l2), 0], 0)) := Lib.hid (by rw [putA, hk1, if_pos (can_one g1 hmc), put_one])
  have HP2 : Hid (putA k2 = (bs, 0)) := Lib.hid (by rw [putA, hbs, hk2, if_pos (can_twoC ha g1 g2 hmc hmm)])
  have HM1 : Hid (madeP 300 [⟨0, 4096, (c1, c2), (l1, l2)⟩] = (k1.cs, k1.ls) ∧ k1.ts = []) := Lib.hid (by rw [hk1]; exact ⟨made_one _ _, rfl⟩)
  have HM2 : Hid (madeP 300 [⟨0, 4096, (c1, c2), (l1, l2)⟩, ⟨at_, 1, (d1, d2), (m1, m2)⟩] = (k2.cs, k2.ls) ∧ k2.ts = []) := Lib.hid (by rw [hk2]; exact ⟨made_two hae, rfl⟩)
  have hok1 : PtOk ⟨0, 4096, (c1, c2), (l1, l2)⟩ := by unfold PtOk; simp only; omega
  have hok2 : PtOk ⟨at_, 1, (d1, d2), (m1, m2)⟩ := by unfold PtOk; simp only; omega
  have HO1 : Hid (∀ q ∈ [(⟨0, 4096, (c1, c2), (l1, l2)⟩ : Pt)], PtOk q) := Lib.hid (fun q hq => by rw [List.mem_singleton.1 hq]; exact hok1)
  have HO2 : Hid (∀ q ∈ [(⟨0, 4096, (c1, c2), (l1, l2)⟩ : Pt), ⟨at_, 1, (d1, d2), (m1, m2)⟩], PtOk q) := Lib.hid (fun q hq => by
    rcases List.mem_cons.1 hq with rfl | hq
    · exact hok1
    · rw [List.mem_singleton.1 hq]; exact hok2)
  clear hk1 hk2 hbs hae hok1 hok2 hmc hmm hlen
  have HG1 := Lib.hid g1
  have HG2 := Lib.hid g2
  clear hT hat g1 g2 g3 g4 g5 g6 hX2 hX3 hX4 hX5 hY2 hY3 hY4 hY5
  go_enter Tryd.func8, Tryd.ntmps8
  go_wp2_with fail
  go_at_call 20
  refine calls_named (fun W => W.cell? ⟨w.heap.size, 0, none⟩ = some (.int .i64 0) ∧ W.cell? ⟨w.heap.size, 1, none⟩ = some (.int .i64 4096) ∧ W.cell? ⟨w.heap.size, 2, none⟩ = some (.int .u8 X2) ∧ W.cell? ⟨w.heap.size, 3, none⟩ = some (.int .u8 X3) ∧ W.cell? ⟨w.heap.size, 4, none⟩ = some (.int .u8 X4) ∧ W.cell? ⟨w.heap.size, 5, none⟩ = some (.int .u8 X5) ∧ W.cell? ⟨w.heap.size + 1, 0, none⟩ = some (.int .i64 at_) ∧ W.cell? ⟨w.heap.size + 1, 1, none⟩ = some (.int .i64 1) ∧ W.cell? ⟨w.heap.size + 1, 2, none⟩ = some (.int .u8 Y2) ∧ W.cell? ⟨w.heap.size + 1, 3, none⟩ = some (.int .u8 Y3) ∧ W.cell? ⟨w.heap.size + 1, 4, none⟩ = some (.int .u8 Y4) ∧ W.cell? ⟨w.heap.size + 1, 5, none⟩ = some (.int .u8 Y5) ∧ w.heap.size + 1 < W.heap.size ∧ Below w.heap.size w W) (by (refine ⟨?_, ?_, ?_, ?_, ?_, ?_, ?_, ?_, ?_, ?_, ?_, ?_, ?_, by (repeat' (first | (with_reducible exact Below.refl _ _) | (with_reducible refine Below.setCell ?_ (by (first | omega | (simp; done) | (simp; omega))) _) | (with_reducible refine Below.alloc ?_ (by (first | omega | (simp; done) | (simp; omega))) _) | (with_reducible refine Below.drew ?_) | (with_reducible refine below_drewN ?_ _)))⟩); all_goals (repeat' (first | (with_reducible assumption) | (with_reducible refine HeldP.c_drew ?_) | (with_reducible refine HeldP.c_drewN ?_) | (with_reducible refine HeldP.c_same (by omega) ?_) | (with_reducible refine HeldP.c_other ?_ ?_) | (with_reducible refine HeldP.c_new (by first | omega | (simp; done) | (simp; omega)) ?_) | (with_reducible refine HeldP.c_alloc ?_ ?_) | (with_reducible refine HeldP.e_drew ?_) | (with_reducible refine HeldP.e_drewN ?_) | (with_reducible refine HeldP.e_set ?_) | (with_reducible refine HeldP.e_new (by first | omega | (simp; done) | (simp; omega)) ⟨_, rfl⟩) | (with_reducible refine HeldP.e_alloc ?_ ?_) | (with_reducible refine HeldP.f_drew ?_) | (with_reducible refine HeldP.f_drewN ?_) | (with_reducible refine HeldP.f_set ?_) | (with_reducible refine HeldP.f_new (by first | omega | (simp; done) | (simp; omega))) | (with_reducible refine HeldP.f_alloc ?_ ?_) | (with_reducible refine HeldP.s_drew ?_) | (with_reducible refine HeldP.s_drewN ?_) | (with_reducible refine HeldP.s_set ?_) | (with_reducible refine HeldP.s_new (by first | omega | (simp; done) | (simp; omega))) | (with_reducible refine HeldP.s_alloc ?_) | (with_reducible exact ⟨_, by assumption⟩) | omega | (intro e; simp at e; done) | (intro e; simp at e; omega) | (exact rfl) | (simp; done) | (simp; omega)))) ?_
  rintro w1 ⟨e00, e01, e02, e03, e04, e05, e10, e11, e12, e13, e14, e15, hz1, hb1⟩
  have HE : Hid (w1.cell? ⟨w.heap.size, 0, none⟩ = some (.int .i64 0) ∧ w1.cell? ⟨w.heap.size, 1, none⟩ = some (.int .i64 4096) ∧ w1.cell? ⟨w.heap.size, 2, none⟩ = some (.int .u8 X2) ∧ w1.cell? ⟨w.heap.size, 3, none⟩ = some (.int .u8 X3) ∧ w1.cell? ⟨w.heap.size, 4, none⟩ = some (.int .u8 X4) ∧ w1.cell? ⟨w.heap.size, 5, none⟩ = some (.int .u8 X5) ∧ w1.cell? ⟨w.heap.size + 1, 0, none⟩ = some (.int .i64 at_) ∧ w1.cell? ⟨w.heap.size + 1, 1, none⟩ = some (.int .i64 1) ∧ w1.cell? ⟨w.heap.size + 1, 2, none⟩ = some (.int .u8 Y2) ∧ w1.cell? ⟨w.heap.size + 1, 3, none⟩ = some (.int .u8 Y3) ∧ w1.cell? ⟨w.heap.size + 1, 4, none⟩ = some (.int .u8 Y4) ∧ w1.cell? ⟨w.heap.size + 1, 5, none⟩ = some (.int .u8 Y5)) := Lib.hid ⟨e00, e01, e02, e03, e04, e05, e10, e11, e12, e13, e14, e15⟩
  have HB1 := Lib.hid hb1
  have hs1 := hb1.size
  clear e00 e01 e02 e03 e04 e05 e10 e11 e12 e13 e14 e15 hb1
  rw [HX2.out, HX3.out]
  refine (KindW.k_may c1.toNat c2.toNat w1 (HT.out.below HB1.out)).mono ?_
  rintro e w2 ⟨he, hb2⟩
  rw [show KindP.may c1.toNat c2.toNat = true from HG1.out] at he
  subst he
  rw [← HX2.out, ← HX3.out]
  have HB2 := Lib.hid (below_m HB1.out hb2)
  have hz2 := hb2.size
  have HE2 : Hid (w2.cell? ⟨w.heap.size, 0, none⟩ = some (.int .i64 0) ∧ w2.cell? ⟨w.heap.size, 1, none⟩ = some (.int .i64 4096) ∧ w2.cell? ⟨w.heap.size, 2, none⟩ = some (.int .u8 X2) ∧ w2.cell? ⟨w.heap.size, 3, none⟩ = some (.int .u8 X3) ∧ w2.cell? ⟨w.heap.size, 4, none⟩ = some (.int .u8 X4) ∧ w2.cell? ⟨w.heap.size, 5, none⟩ = some (.int .u8 X5) ∧ w2.cell? ⟨w.heap.size + 1, 0, none⟩ = some (.int .i64 at_) ∧ w2.cell? ⟨w.heap.size + 1, 1, none⟩ = some (.int .i64 1) ∧ w2.cell? ⟨w.heap.size + 1, 2, none⟩ = some (.int .u8 Y2) ∧ w2.cell? ⟨w.heap.size + 1, 3, none⟩ = some (.int .u8 Y3) ∧ w2.cell? ⟨w.heap.size + 1, 4, none⟩ = some (.int .u8 Y4) ∧ w2.cell? ⟨w.heap.size + 1, 5, none⟩ = some (.int .u8 Y5)) := Lib.hid (by
    obtain ⟨e00, e01, e02, e03, e04, e05, e10, e11, e12, e13, e14, e15⟩ := HE.out
    exact ⟨(hb2.cell (p := ⟨w.heap.size, 0, none⟩) (by simp only; omega)).trans e00, (hb2.cell (p := ⟨w.heap.size, 1, none⟩) (by simp only; omega)).trans e01, (hb2.cell (p := ⟨w.heap.size, 2, none⟩) (by simp only; omega)).trans e02, (hb2.cell (p := ⟨w.heap.size, 3, none⟩) (by simp only; omega)).trans e03, (hb2.cell (p := ⟨w.heap.size, 4, none⟩) (by simp only; omega)).trans e04, (hb2.cell (p := ⟨w.heap.size, 5, none⟩) (by simp only; omega)).trans e05, (hb2.cell (p := ⟨w.heap.size + 1, 0, none⟩) (by simp only; omega)).trans e10, (hb2.cell (p := ⟨w.heap.size + 1, 1, none⟩) (by simp only; omega)).trans e11, (hb2.cell (p := ⟨w.heap.size + 1, 2, none⟩) (by simp only; omega)).trans e12, (hb2.cell (p := ⟨w.heap.size + 1, 3, none⟩) (by simp only; omega)).trans e13, (hb2.cell (p := ⟨w.heap.size + 1, 4, none⟩) (by simp only; omega)).trans e14, (hb2.cell (p := ⟨w.heap.size + 1, 5, none⟩) (by simp only; omega)).trans e15⟩)
  clear hb2
  obtain ⟨e00, e01, e02, e03, e04, e05, e10, e11, e12, e13, e14, e15⟩ := HE2.out
  clear e00 e01 e10 e11
  go_wp2_with fail
  go_at_call 20
  rw [HY2.out, HY3.out]
  refine (KindW.k_may d1.toNat d2.toNat w2 (HT.out.below HB2.out)).mono ?_
  rintro e w3 ⟨he, hb3⟩
  rw [show KindP.may d1.toNat d2.toNat = true from HG2.out] at he
  subst he
  rw [← HY2.out, ← HY3.out]
  have HB3 := Lib.hid (below_m HB2.out hb3)
  have hz3 := hb3.size
  have HE3 : Hid (w3.cell? ⟨w.heap.size, 0, none⟩ = some (.int .i64 0) ∧ w3.cell? ⟨w.heap.size, 1, none⟩ = some (.int .i64 4096) ∧ w3.cell? ⟨w.heap.size, 2, none⟩ = some (.int .u8 X2) ∧ w3.cell? ⟨w.heap.size, 3, none⟩ = some (.int .u8 X3) ∧ w3.cell? ⟨w.heap.size, 4, none⟩ = some (.int .u8 X4) ∧ w3.cell? ⟨w.heap.size, 5, none⟩ = some (.int .u8 X5) ∧ w3.cell? ⟨w.heap.size + 1, 0, none⟩ = some (.int .i64 at_) ∧ w3.cell? ⟨w.heap.size + 1, 1, none⟩ = some (.int .i64 1) ∧ w3.cell? ⟨w.heap.size + 1, 2, none⟩ = some (.int .u8 Y2) ∧ w3.cell? ⟨w.heap.size + 1, 3, none⟩ = some (.int .u8 Y3) ∧ w3.cell? ⟨w.heap.size + 1, 4, none⟩ = some (.int .u8 Y4) ∧ w3.cell? ⟨w.heap.size + 1, 5, none⟩ = some (.int .u8 Y5)) := Lib.hid (by
    obtain ⟨e00, e01, e02, e03, e04, e05, e10, e11, e12, e13, e14, e15⟩ := HE2.out
    exact ⟨(hb3.cell (p := ⟨w.heap.size, 0, none⟩) (by simp only; omega)).trans e00, (hb3.cell (p := ⟨w.heap.size, 1, none⟩) (by simp only; omega)).trans e01, (hb3.cell (p := ⟨w.heap.size, 2, none⟩) (by simp only; omega)).trans e02, (hb3.cell (p := ⟨w.heap.size, 3, none⟩) (by simp only; omega)).trans e03, (hb3.cell (p := ⟨w.heap.size, 4, none⟩) (by simp only; omega)).trans e04, (hb3.cell (p := ⟨w.heap.size, 5, none⟩) (by simp only; omega)).trans e05, (hb3.cell (p := ⟨w.heap.size + 1, 0, none⟩) (by simp only; omega)).trans e10, (hb3.cell (p := ⟨w.heap.size + 1, 1, none⟩) (by simp only; omega)).trans e11, (hb3.cell (p := ⟨w.heap.size + 1, 2, none⟩) (by simp only; omega)).trans e12, (hb3.cell (p := ⟨w.heap.size + 1, 3, none⟩) (by simp only; omega)).trans e13, (hb3.cell (p := ⟨w.heap.size + 1, 4, none⟩) (by simp only; omega)).trans e14, (hb3.cell (p := ⟨w.heap.size + 1, 5, none⟩) (by simp only; omega)).trans e15⟩)
  clear hb3 e02 e03 e04 e05 e12 e13 e14 e15
  obtain ⟨e00, e01, e02, e03, e04, e05, e10, e11, e12, e13, e14, e15⟩ := HE3.out
  go_wp2_with fail
  go_at_call 18
  refine calls_named (fun W => PtAt W w3.heap.size 0 ⟨0, 4096, (c1, c2), (l1, l2)⟩ ∧ w3.heap.size < W.heap.size ∧ Below w3.heap.size w3 W) (by (refine ⟨?_, ?_, by (repeat' (first | (with_reducible exact Below.refl _ _) | (with_reducible refine Below.setCell ?_ (by (first | omega | (simp; done) | (simp; omega))) _) | (with_reducible refine Below.alloc ?_ (by (first | omega | (simp; done) | (simp; omega))) _) | (with_reducible refine Below.drew ?_) | (with_reducible refine below_drewN ?_ _)))⟩); (unfold PtAt; simp only [bv]; rw [← HX2.out, ← HX3.out, ← HX4.out, ← HX5.out]; exact ⟨(cell_of_row _ _ 0 _ _ _ (heap_alloc_new w3 _)).trans rfl, (cell_of_row _ _ 1 _ _ _ (heap_alloc_new w3 _)).trans rfl, (cell_of_row _ _ 2 _ _ _ (heap_alloc_new w3 _)).trans rfl, (cell_of_row _ _ 3 _ _ _ (heap_alloc_new w3 _)).trans rfl, (cell_of_row _ _ 4 _ _ _ (heap_alloc_new w3 _)).trans rfl, (cell_of_row _ _ 5 _ _ _ (heap_alloc_new w3 _)).trans rfl⟩); exact lt_of_heap (heap_alloc_new w3 _)) ?_
  rintro w4 ⟨hpt, hz4, hb4⟩
  have hma := makeL_c (w := w4) (c := 1) (B := none) (ts := []) (d := 0) (part_one hz4 hpt) HO1.out (by simp) PairC.nil (by simp) (by omega)
  rw [HM1.out.1, List.take_nil, show (⟨(k1.cs, k1.ls).1, (k1.cs, k1.ls).2, []⟩ : Ck) = k1 by rw [← HM1.out.2]] at hma
  refine hma.mono ?_
  rintro e w5 ⟨p, rfl, hk1, hp1, hb5⟩
  have HB5 := Lib.hid (below_m (below_m HB3.out hb4) hb5)
  have hs5 := hb5.size
  have HK1 := Lib.hid hk1
  have hb35 : Below w3.heap.size w3 w5 := below_m hb4 hb5
  have HE5 : Hid (w5.cell? ⟨w.heap.size, 0, none⟩ = some (.int .i64 0) ∧ w5.cell? ⟨w.heap.size, 1, none⟩ = some (.int .i64 4096) ∧ w5.cell? ⟨w.heap.size, 2, none⟩ = some (.int .u8 X2) ∧ w5.cell? ⟨w.heap.size, 3, none⟩ = some (.int .u8 X3) ∧ w5.cell? ⟨w.heap.size, 4, none⟩ = some (.int .u8 X4) ∧ w5.cell? ⟨w.heap.size, 5, none⟩ = some (.int .u8 X5) ∧ w5.cell? ⟨w.heap.size + 1, 0, none⟩ = some (.int .i64 at_) ∧ w5.cell? ⟨w.heap.size + 1, 1, none⟩ = some (.int .i64 1) ∧ w5.cell? ⟨w.heap.size + 1, 2, none⟩ = some (.int .u8 Y2) ∧ w5.cell? ⟨w.heap.size + 1, 3, none⟩ = some (.int .u8 Y3) ∧ w5.cell? ⟨w.heap.size + 1, 4, none⟩ = some (.int .u8 Y4) ∧ w5.cell? ⟨w.heap.size + 1, 5, none⟩ = some (.int .u8 Y5)) := Lib.hid (by
    obtain ⟨e00, e01, e02, e03, e04, e05, e10, e11, e12, e13, e14, e15⟩ := HE3.out
    exact ⟨(hb35.cell (p := ⟨w.heap.size, 0, none⟩) (by simp only; omega)).trans e00, (hb35.cell (p := ⟨w.heap.size, 1, none⟩) (by simp only; omega)).trans e01, (hb35.cell (p := ⟨w.heap.size, 2, none⟩) (by simp only; omega)).trans e02, (hb35.cell (p := ⟨w.heap.size, 3, none⟩) (by simp only; omega)).trans e03, (hb35.cell (p := ⟨w.heap.size, 4, none⟩) (by simp only; omega)).trans e04, (hb35.cell (p := ⟨w.heap.size, 5, none⟩) (by simp only; omega)).trans e05, (hb35.cell (p := ⟨w.heap.size + 1, 0, none⟩) (by simp only; omega)).trans e10, (hb35.cell (p := ⟨w.heap.size + 1, 1, none⟩) (by simp only; omega)).trans e11, (hb35.cell (p := ⟨w.heap.size + 1, 2, none⟩) (by simp only; omega)).trans e12, (hb35.cell (p := ⟨w.heap.size + 1, 3, none⟩) (by simp only; omega)).trans e13, (hb35.cell (p := ⟨w.heap.size + 1, 4, none⟩) (by simp only; omega)).trans e14, (hb35.cell (p := ⟨w.heap.size + 1, 5, none⟩) (by simp only; omega)).trans e15⟩)
  clear hma hpt hb4 hb5 hk1 hb35 e00 e01 e02 e03 e04 e05 e10 e11 e12 e13 e14 e15
  obtain ⟨e00, e01, e02, e03, e04, e05, e10, e11, e12, e13, e14, e15⟩ := HE5.out
  go_wp2_with fail
  go_at_call 18
  refine calls_named (fun W => PtAt W w5.heap.size 0 ⟨0, 4096, (c1, c2), (l1, l2)⟩ ∧ PtAt W w5.heap.size 6 ⟨at_, 1, (d1, d2), (m1, m2)⟩ ∧ w5.heap.size < W.heap.size ∧ Below w5.heap.size w5 W) (by (refine ⟨?_, ?_, ?_, by (repeat' (first | (with_reducible exact Below.refl _ _) | (with_reducible refine Below.setCell ?_ (by (first | omega | (simp; done) | (simp; omega))) _) | (with_reducible refine Below.alloc ?_ (by (first | omega | (simp; done) | (simp; omega))) _) | (with_reducible refine Below.drew ?_) | (with_reducible refine below_drewN ?_ _)))⟩); (unfold PtAt; simp only [bv]; rw [← HX2.out, ← HX3.out, ← HX4.out, ← HX5.out]; exact ⟨(cell_of_row _ _ 0 _ _ _ (heap_alloc_new w5 _)).trans rfl, (cell_of_row _ _ 1 _ _ _ (heap_alloc_new w5 _)).trans rfl, (cell_of_row _ _ 2 _ _ _ (heap_alloc_new w5 _)).trans rfl, (cell_of_row _ _ 3 _ _ _ (heap_alloc_new w5 _)).trans rfl, (cell_of_row _ _ 4 _ _ _ (heap_alloc_new w5 _)).trans rfl, (cell_of_row _ _ 5 _ _ _ (heap_alloc_new w5 _)).trans rfl⟩); (unfold PtAt; simp only [bv]; rw [← HY2.out, ← HY3.out, ← HY4.out, ← HY5.out]; exact ⟨(cell_of_row _ _ 6 _ _ _ (heap_alloc_new w5 _)).trans rfl, (cell_of_row _ _ 7 _ _ _ (heap_alloc_new w5 _)).trans rfl, (cell_of_row _ _ 8 _ _ _ (heap_alloc_new w5 _)).trans rfl, (cell_of_row _ _ 9 _ _ _ (heap_alloc_new w5 _)).trans rfl, (cell_of_row _ _ 10 _ _ _ (heap_alloc_new w5 _)).trans rfl, (cell_of_row _ _ 11 _ _ _ (heap_alloc_new w5 _)).trans rfl⟩); exact lt_of_heap (heap_alloc_new w5 _)) ?_
  rintro w6 ⟨hpt, hpt2, hz6, hb6⟩
  have hma := makeL_c (w := w6) (c := 2) (B := none) (ts := []) (d := 0) (part_two hz6 hpt hpt2) HO2.out (by simp) PairC.nil (by simp) (by omega)
  rw [HM2.out.1, List.take_nil, show (⟨(k2.cs, k2.ls).1, (k2.cs, k2.ls).2, []⟩ : Ck) = k2 by rw [← HM2.out.2]] at hma
  refine hma.mono ?_
  rintro e w7 ⟨p2, rfl, hk2, hp2, hb7⟩
  have HK12 := Lib.hid ((HK1.out.below hb6).below hb7)
  have HK2 := Lib.hid hk2
  have HB7 := Lib.hid (below_m (below_m HB5.out hb6) hb7)
  clear hma hpt hpt2 hb6 hb7 hk2 e00 e01 e02 e03 e04 e05 e10 e11 e12 e13 e14 e15
  go_wp2_with fail
  go_at_call 12
  refine (put6_c (HT.out.below HB7.out) HK12.out HP1.out).mono ?_
  rintro e w8 ⟨v8, rfl, hown8, hb8⟩
  dsimp only at hown8
  obtain ⟨A8, c8, rfl, hA8, hc8, hm8⟩ := hown8.sl
  have HB8 := Lib.hid (below_m HB7.out hb8)
  have HK28 := Lib.hid (HK2.out.below hb8)
  clear hb8 hown8 hA8
  go_wp2_with fail
  go_at_call 12
  refine (put6_c (HT.out.below HB8.out) HK28.out HP2.out).mono ?_
  rintro e w10 ⟨v10, rfl, hown10, hb10⟩
  dsimp only at hown10
  obtain ⟨A10, c10, rfl, hA10, hc10, hm10⟩ := hown10.sl
  have HB10 := Lib.hid (below_m HB8.out hb10)
  clear hb10 hown10 hA10
  go_wp2_with (go_at_call 15; refine (works_c (HT.out.below HB10.out)).mono ?_; rintro e w9 ⟨rfl, hb9⟩)
  go_ret
  exact ⟨rfl, below_m HB10.out hb9⟩
end PackW
end Go.Proofs.YtjllgdlmeoakpaaDoor
