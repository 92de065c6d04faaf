/-
  LandOther.
-/
import Derived.Test.YtjjnmkbjohiekaaDoorLandLaws5
import Derived.Test.YtjjnmkbjohiekaaDoorLandLaws4
namespace Go.Proofs.YtjjnmkbjohiekaaDoor
open Go.RowKit
set_option linter.unusedVariables false
set_option linter.unusedSimpArgs false
namespace LandP
open BytesW PackW PlaceW ChunkW

set_option maxRecDepth 100000 in
set_option maxHeartbeats 4000000 in
theorem law_other_no {w : World} {x y z i d : Int} {kc kl : Cell} (hT : LTab w) (hd : spotB x y z = false ∨ i < 0 ∨ 4096 ≤ i) :
    Calls Tryd.prog 7 #[.agg #[.int .i64 x, .int .i64 y, .int .i64 z], .agg #[.int .i64 i, bv kc.1, bv kc.2, bv kl.1, bv kl.2, .int .i64 d]] w fun e w' => e = .returned (.bool true) ∧ Below w.heap.size w w' := by
  have HT := Lib.hid hT
  obtain ⟨k1, hk1⟩ : ∃ v : Int, v = (kc.1.toNat : Int) := ⟨_, rfl⟩
  obtain ⟨k2, hk2⟩ : ∃ v : Int, v = (kc.2.toNat : Int) := ⟨_, rfl⟩
  obtain ⟨k3, hk3⟩ : ∃ v : Int, v = (kl.1.toNat : Int) := ⟨_, rfl⟩
  obtain ⟨k4, hk4⟩ : ∃ v : Int, v = (kl.2.toNat : Int) := ⟨_, rfl⟩
  rw [bv, bv, bv, bv, ← hk1, ← hk2, ← hk3, ← hk4]
  clear hk1 hk2 hk3 hk4 hT
  cases hs : spotB x y z with
  | false =>
    have H := Lib.hid hs
    clear hs hd
    go_enter Tryd.func7, Tryd.ntmps7
    go_wp2_with (first | (go_at_call 15; refine (chunk_no H.out).mono ?_; rintro e w1 ⟨rfl, hb1⟩; have HW1 := Lib.hid (show Below w.heap.size w w1 by (repeat' (first | (with_reducible exact Below.refl _ _) | (with_reducible refine Below.setCell ?_ (by (first | omega | (simp; done) | (simp; omega))) _) | (with_reducible refine Below.alloc ?_ (by (first | omega | (simp; done) | (simp; omega))) _) | (with_reducible refine Below.drew ?_) | (with_reducible refine below_drewN ?_ _) | (with_reducible refine Below.trans ?_ (Below.mono hb1 (by (first | omega | (simp; done) | (simp; omega))))))))) | (go_at_call 14; refine (works_c (HT.out.below HW1.out)).mono ?_; rintro e w2 ⟨rfl, hb2⟩))
    go_ret
    exact ⟨rfl, below_t HW1.out hb2⟩
  | true =>
    have H := Lib.hid hs
    have hd' : i < 0 ∨ 4096 ≤ i := by rcases hd with h | h; (rw [hs] at h; cases h); exact h
    clear hs hd
    by_cases hi : i < 0
    · clear hd'
      go_enter Tryd.func7, Tryd.ntmps7
      go_wp2_with fail
      go_at_call 15
      refine (chunk_c (HT.out.below (by (repeat' (first | (with_reducible exact Below.refl _ _) | (with_reducible refine Below.setCell ?_ (by (first | omega | (simp; done) | (simp; omega))) _) | (with_reducible refine Below.alloc ?_ (by (first | omega | (simp; done) | (simp; omega))) _) | (with_reducible refine Below.drew ?_) | (with_reducible refine below_drewN ?_ _))))) H.out).mono ?_
      rintro e w1 ⟨p, rfl, hp, hpl, hb1⟩
      have s1 := hb1.size
      try simp at s1
      have HW1 := Lib.hid (show Below w.heap.size w w1 by (repeat' (first | (with_reducible exact Below.refl _ _) | (with_reducible refine Below.setCell ?_ (by (first | omega | (simp; done) | (simp; omega))) _) | (with_reducible refine Below.alloc ?_ (by (first | omega | (simp; done) | (simp; omega))) _) | (with_reducible refine Below.drew ?_) | (with_reducible refine below_drewN ?_ _) | (with_reducible refine Below.trans ?_ (Below.mono hb1 (by (first | omega | (simp; done) | (simp; omega))))))))
      have q0 : w1.cell? ⟨w.heap.size + 1, 0, none⟩ = some (.int .i64 i) := by (repeat' (first | (with_reducible assumption) | (with_reducible refine HeldP.c_below hb1 ?_ ?_) | (with_reducible refine HeldP.f_below hb1 ?_ ?_) | (with_reducible refine HeldP.c_drew ?_) | (with_reducible refine HeldP.c_drewN ?_) | (with_reducible refine HeldP.c_same (by omega) ?_) | (with_reducible refine HeldP.c_other ?_ ?_) | (with_reducible refine HeldP.c_new (by first | omega | (simp; done) | (simp; omega)) ?_) | (with_reducible refine HeldP.c_alloc ?_ ?_) | (with_reducible refine HeldP.e_drew ?_) | (with_reducible refine HeldP.e_drewN ?_) | (with_reducible refine HeldP.e_set ?_) | (with_reducible refine HeldP.e_new (by first | omega | (simp; done) | (simp; omega)) ⟨_, rfl⟩) | (with_reducible refine HeldP.e_alloc ?_ ?_) | (with_reducible refine HeldP.f_drew ?_) | (with_reducible refine HeldP.f_drewN ?_) | (with_reducible refine HeldP.f_set ?_) | (with_reducible refine HeldP.f_new (by first | omega | (simp; done) | (simp; omega))) | (with_reducible refine HeldP.f_alloc ?_ ?_) | (with_reducible refine HeldP.s_drew ?_) | (with_reducible refine HeldP.s_drewN ?_) | (with_reducible refine HeldP.s_set ?_) | (with_reducible refine HeldP.s_new (by first | omega | (simp; done) | (simp; omega))) | (with_reducible refine HeldP.s_alloc ?_) | (with_reducible exact ⟨_, by assumption⟩) | omega | (intro e; simp at e; done) | (intro e; simp at e; omega) | (exact rfl) | (simp; done) | (simp; omega)))
      clear hb1 hp hpl
      go_wp2_with (go_at_call 14; refine (works_c (HT.out.below HW1.out)).mono ?_; rintro e w2 ⟨rfl, hb2⟩)
      go_ret
      exact ⟨rfl, below_t HW1.out hb2⟩
    · have hi2 : i ≥ 4096 := by omega
      clear hd'
      go_enter Tryd.func7, Tryd.ntmps7
      go_wp2_with fail
      go_at_call 15
      refine (chunk_c (HT.out.below (by (repeat' (first | (with_reducible exact Below.refl _ _) | (with_reducible refine Below.setCell ?_ (by (first | omega | (simp; done) | (simp; omega))) _) | (with_reducible refine Below.alloc ?_ (by (first | omega | (simp; done) | (simp; omega))) _) | (with_reducible refine Below.drew ?_) | (with_reducible refine below_drewN ?_ _))))) H.out).mono ?_
      rintro e w1 ⟨p, rfl, hp, hpl, hb1⟩
      have s1 := hb1.size
      try simp at s1
      have HW1 := Lib.hid (show Below w.heap.size w w1 by (repeat' (first | (with_reducible exact Below.refl _ _) | (with_reducible refine Below.setCell ?_ (by (first | omega | (simp; done) | (simp; omega))) _) | (with_reducible refine Below.alloc ?_ (by (first | omega | (simp; done) | (simp; omega))) _) | (with_reducible refine Below.drew ?_) | (with_reducible refine below_drewN ?_ _) | (with_reducible refine Below.trans ?_ (Below.mono hb1 (by (first | omega | (simp; done) | (simp; omega))))))))
      have q0 : w1.cell? ⟨w.heap.size + 1, 0, none⟩ = some (.int .i64 i) := by (repeat' (first | (with_reducible assumption) | (with_reducible refine HeldP.c_below hb1 ?_ ?_) | (with_reducible refine HeldP.f_below hb1 ?_ ?_) | (with_reducible refine HeldP.c_drew ?_) | (with_reducible refine HeldP.c_drewN ?_) | (with_reducible refine HeldP.c_same (by omega) ?_) | (with_reducible refine HeldP.c_other ?_ ?_) | (with_reducible refine HeldP.c_new (by first | omega | (simp; done) | (simp; omega)) ?_) | (with_reducible refine HeldP.c_alloc ?_ ?_) | (with_reducible refine HeldP.e_drew ?_) | (with_reducible refine HeldP.e_drewN ?_) | (with_reducible refine HeldP.e_set ?_) | (with_reducible refine HeldP.e_new (by first | omega | (simp; done) | (simp; omega)) ⟨_, rfl⟩) | (with_reducible refine HeldP.e_alloc ?_ ?_) | (with_reducible refine HeldP.f_drew ?_) | (with_reducible refine HeldP.f_drewN ?_) | (with_reducible refine HeldP.f_set ?_) | (with_reducible refine HeldP.f_new (by first | omega | (simp; done) | (simp; omega))) | (with_reducible refine HeldP.f_alloc ?_ ?_) | (with_reducible refine HeldP.s_drew ?_) | (with_reducible refine HeldP.s_drewN ?_) | (with_reducible refine HeldP.s_set ?_) | (with_reducible refine HeldP.s_new (by first | omega | (simp; done) | (simp; omega))) | (with_reducible refine HeldP.s_alloc ?_) | (with_reducible exact ⟨_, by assumption⟩) | omega | (intro e; simp at e; done) | (intro e; simp at e; omega) | (exact rfl) | (simp; done) | (simp; omega)))
      clear hb1 hp hpl
      go_wp2_with (go_at_call 14; refine (works_c (HT.out.below HW1.out)).mono ?_; rintro e w2 ⟨rfl, hb2⟩)
      go_ret
      exact ⟨rfl, below_t HW1.out hb2⟩

set_option maxRecDepth 100000 in
set_option maxHeartbeats 8000000 in
theorem law_other_yes {w : World} {x y z d : Int} {j : Nat} {kc kl : Cell} (hT : LTab w) (hs : spotB x y z = true) (hj : j < 4096) :
    Calls Tryd.prog 7 #[.agg #[.int .i64 x, .int .i64 y, .int .i64 z], .agg #[.int .i64 (j : Int), bv kc.1, bv kc.2, bv kl.1, bv kl.2, .int .i64 d]] w fun e w' => e = .returned (.bool true) ∧ Below w.heap.size w w' := by
  have HT := Lib.hid hT
  have H := Lib.hid hs
  obtain ⟨c0, hc0⟩ : ∃ c, cellY (yOf y j) = c := ⟨_, rfl⟩
  obtain ⟨l0, hl0⟩ : ∃ c, lightY (yOf y j) = c := ⟨_, rfl⟩
  have hcj : (landC y)[j]? = some c0 := by rw [landC_get hj, hc0]
  have hlj : (landL y)[j]? = some l0 := by rw [landL_get hj, hl0]
  obtain ⟨rc, hrc⟩ : ∃ r, decide (kc = c0) = r := ⟨_, rfl⟩
  obtain ⟨rl, hrl⟩ : ∃ r, decide (kl = l0) = r := ⟨_, rfl⟩
  have HRC := Lib.hid hrc
  have HRL := Lib.hid hrl
  have I1 : Hid (isL ⟨(landC y).set j kc, landL y, []⟩ y = rc) := Lib.hid (by simp only [isL, set_is hcj, hrc, List.length_nil, decide_true, Bool.and_true])
  have I2 : Hid (isL ⟨landC y, (landL y).set j kl, []⟩ y = rl) := Lib.hid (by simp only [isL, set_is hlj, hrl, List.length_nil, decide_true, Bool.and_true, Bool.true_and])
  have I3 : Hid (isL ⟨landC y, landL y, [((j : Int), d)]⟩ y = false) := Lib.hid (by simp only [isL, List.length_cons, List.length_nil, decide_true, Bool.true_and]; rfl)
  have I4 : Hid (isL ⟨landC y, landL y, []⟩ y = true) := Lib.hid (isL_mk y)
  have HCJ := Lib.hid hcj
  have HLJ := Lib.hid hlj
  have HCL := Lib.hid (landC_len y)
  have HLL := Lib.hid (landL_len y)
  have G1 : Hid (∀ (W : World) (p : Nat) (L : List Cell) (v : Value), Chk W p (landC y) L v → W.cell? ⟨p, j * 2, none⟩ = some (bv c0.1) ∧ W.cell? ⟨p, j * 2 + 1, none⟩ = some (bv c0.2)) := Lib.hid (fun W p L v h => ⟨(h.cell _).trans (ckV_c (landC_len y) hcj).1, (h.cell _).trans (ckV_c (landC_len y) hcj).2⟩)
  have G2 : Hid (∀ (W : World) (p : Nat) (C : List Cell) (v : Value), Chk W p C (landL y) v → W.cell? ⟨p, 8192 + j * 2, none⟩ = some (bv l0.1) ∧ W.cell? ⟨p, 8192 + j * 2 + 1, none⟩ = some (bv l0.2)) := Lib.hid (fun W p C v h => ⟨(h.cell _).trans (ckV_l h.2.1 hlj).1, (h.cell _).trans (ckV_l h.2.1 hlj).2⟩)
  have G3 : Hid (∀ (W : World) (p : Nat) (L : List Cell) (v : Value), Chk W p ((landC y).set j kc) L v → W.cell? ⟨p, j * 2, none⟩ = some (bv kc.1) ∧ W.cell? ⟨p, j * 2 + 1, none⟩ = some (bv kc.2)) := Lib.hid (fun W p L v h => by
    have e : ((landC y).set j kc)[j]? = some kc := List.getElem?_set_self (by rw [landC_len]; exact hj)
    exact ⟨(h.cell _).trans (ckV_c h.2.1 e).1, (h.cell _).trans (ckV_c h.2.1 e).2⟩)
  have G4 : Hid (∀ (W : World) (p : Nat) (C : List Cell) (v : Value), Chk W p C ((landL y).set j kl) v → W.cell? ⟨p, 8192 + j * 2, none⟩ = some (bv kl.1) ∧ W.cell? ⟨p, 8192 + j * 2 + 1, none⟩ = some (bv kl.2)) := Lib.hid (fun W p C v h => by
    have e : ((landL y).set j kl)[j]? = some kl := List.getElem?_set_self (by rw [landL_len]; exact hj)
    exact ⟨(h.cell _).trans (ckV_l h.2.1 e).1, (h.cell _).trans (ckV_l h.2.1 e).2⟩)
  obtain ⟨k1, ek1⟩ : ∃ v : Int, bv kc.1 = .int .u8 v := ⟨_, rfl⟩
  obtain ⟨k2, ek2⟩ : ∃ v : Int, bv kc.2 = .int .u8 v := ⟨_, rfl⟩
  obtain ⟨k3, ek3⟩ : ∃ v : Int, bv kl.1 = .int .u8 v := ⟨_, rfl⟩
  obtain ⟨k4, ek4⟩ : ∃ v : Int, bv kl.2 = .int .u8 v := ⟨_, rfl⟩
  obtain ⟨X1, eX1⟩ : ∃ v : Int, bv c0.1 = .int .u8 v := ⟨_, rfl⟩
  obtain ⟨X2, eX2⟩ : ∃ v : Int, bv c0.2 = .int .u8 v := ⟨_, rfl⟩
  obtain ⟨X3, eX3⟩ : ∃ v : Int, bv l0.1 = .int .u8 v := ⟨_, rfl⟩
  obtain ⟨X4, eX4⟩ : ∃ v : Int, bv l0.2 = .int .u8 v := ⟨_, rfl⟩
  have HV : Hid ((bv kc.1 = .int .u8 k1 ∧ bv kc.2 = .int .u8 k2) ∧ (bv kl.1 = .int .u8 k3 ∧ bv kl.2 = .int .u8 k4) ∧ (bv c0.1 = .int .u8 X1 ∧ bv c0.2 = .int .u8 X2) ∧ (bv l0.1 = .int .u8 X3 ∧ bv l0.2 = .int .u8 X4)) := Lib.hid ⟨⟨ek1, ek2⟩, ⟨ek3, ek4⟩, ⟨eX1, eX2⟩, eX3, eX4⟩
  simp only [ek1, ek2, ek3, ek4, eX1, eX2, eX3, eX4] at G1 G2 G3 G4 ⊢
  have hjI : ¬ (j : Int) ≥ 4096 := by omega
  have hjI2 : (j : Int) < 4096 := by omega
  have hjI0 : ¬ (j : Int) < 0 := by omega
  have hj0 : (0 : Int) ≤ j := by omega
  clear hT hs hc0 hl0 hcj hlj hrc hrl ek1 ek2 ek3 ek4 eX1 eX2 eX3 eX4
  go_enter Tryd.func7, Tryd.ntmps7
  go_wp2_with fail
  go_at_call 15
  refine (chunk_c (HT.out.below (by (repeat' (first | (with_reducible exact Below.refl _ _) | (with_reducible refine Below.setCell ?_ (by (first | omega | (simp; done) | (simp; omega))) _) | (with_reducible refine Below.alloc ?_ (by (first | omega | (simp; done) | (simp; omega))) _) | (with_reducible refine Below.drew ?_) | (with_reducible refine below_drewN ?_ _))))) H.out).mono ?_
  rintro e w1 ⟨p, rfl, ⟨TA, tc, g1, g2, g3, g4, g5⟩, hpl, hb1⟩
  have s1 := hb1.size
  simp at s1 hpl
  have HW1 := Lib.hid (show Below w.heap.size w w1 by (repeat' (first | (with_reducible exact Below.refl _ _) | (with_reducible refine Below.setCell ?_ (by (first | omega | (simp; done) | (simp; omega))) _) | (with_reducible refine Below.alloc ?_ (by (first | omega | (simp; done) | (simp; omega))) _) | (with_reducible refine Below.drew ?_) | (with_reducible refine below_drewN ?_ _) | (with_reducible refine Below.trans ?_ (Below.mono hb1 (by (first | omega | (simp; done) | (simp; omega))))))))
  have HS1 : Hid (Box w1 w.heap.size [.int .i64 x, .int .i64 y, .int .i64 z]) := Lib.hid (Box.of3 (by omega) (by (repeat' (first | (with_reducible assumption) | (with_reducible refine HeldP.c_below hb1 ?_ ?_) | (with_reducible refine HeldP.f_below hb1 ?_ ?_) | (with_reducible refine HeldP.c_drew ?_) | (with_reducible refine HeldP.c_drewN ?_) | (with_reducible refine HeldP.c_same (by omega) ?_) | (with_reducible refine HeldP.c_other ?_ ?_) | (with_reducible refine HeldP.c_new (by first | omega | (simp; done) | (simp; omega)) ?_) | (with_reducible refine HeldP.c_alloc ?_ ?_) | (with_reducible refine HeldP.e_drew ?_) | (with_reducible refine HeldP.e_drewN ?_) | (with_reducible refine HeldP.e_set ?_) | (with_reducible refine HeldP.e_new (by first | omega | (simp; done) | (simp; omega)) ⟨_, rfl⟩) | (with_reducible refine HeldP.e_alloc ?_ ?_) | (with_reducible refine HeldP.f_drew ?_) | (with_reducible refine HeldP.f_drewN ?_) | (with_reducible refine HeldP.f_set ?_) | (with_reducible refine HeldP.f_new (by first | omega | (simp; done) | (simp; omega))) | (with_reducible refine HeldP.f_alloc ?_ ?_) | (with_reducible refine HeldP.s_drew ?_) | (with_reducible refine HeldP.s_drewN ?_) | (with_reducible refine HeldP.s_set ?_) | (with_reducible refine HeldP.s_new (by first | omega | (simp; done) | (simp; omega))) | (with_reducible refine HeldP.s_alloc ?_) | (with_reducible exact ⟨_, by assumption⟩) | omega | (intro e; simp at e; done) | (intro e; simp at e; omega) | (exact rfl) | (simp; done) | (simp; omega)))) (by (repeat' (first | (with_reducible assumption) | (with_reducible refine HeldP.c_below hb1 ?_ ?_) | (with_reducible refine HeldP.f_below hb1 ?_ ?_) | (with_reducible refine HeldP.c_drew ?_) | (with_reducible refine HeldP.c_drewN ?_) | (with_reducible refine HeldP.c_same (by omega) ?_) | (with_reducible refine HeldP.c_other ?_ ?_) | (with_reducible refine HeldP.c_new (by first | omega | (simp; done) | (simp; omega)) ?_) | (with_reducible refine HeldP.c_alloc ?_ ?_) | (with_reducible refine HeldP.e_drew ?_) | (with_reducible refine HeldP.e_drewN ?_) | (with_reducible refine HeldP.e_set ?_) | (with_reducible refine HeldP.e_new (by first | omega | (simp; done) | (simp; omega)) ⟨_, rfl⟩) | (with_reducible refine HeldP.e_alloc ?_ ?_) | (with_reducible refine HeldP.f_drew ?_) | (with_reducible refine HeldP.f_drewN ?_) | (with_reducible refine HeldP.f_set ?_) | (with_reducible refine HeldP.f_new (by first | omega | (simp; done) | (simp; omega))) | (with_reducible refine HeldP.f_alloc ?_ ?_) | (with_reducible refine HeldP.s_drew ?_) | (with_reducible refine HeldP.s_drewN ?_) | (with_reducible refine HeldP.s_set ?_) | (with_reducible refine HeldP.s_new (by first | omega | (simp; done) | (simp; omega))) | (with_reducible refine HeldP.s_alloc ?_) | (with_reducible exact ⟨_, by assumption⟩) | omega | (intro e; simp at e; done) | (intro e; simp at e; omega) | (exact rfl) | (simp; done) | (simp; omega)))) (by (repeat' (first | (with_reducible assumption) | (with_reducible refine HeldP.c_below hb1 ?_ ?_) | (with_reducible refine HeldP.f_below hb1 ?_ ?_) | (with_reducible refine HeldP.c_drew ?_) | (with_reducible refine HeldP.c_drewN ?_) | (with_reducible refine HeldP.c_same (by omega) ?_) | (with_reducible refine HeldP.c_other ?_ ?_) | (with_reducible refine HeldP.c_new (by first | omega | (simp; done) | (simp; omega)) ?_) | (with_reducible refine HeldP.c_alloc ?_ ?_) | (with_reducible refine HeldP.e_drew ?_) | (with_reducible refine HeldP.e_drewN ?_) | (with_reducible refine HeldP.e_set ?_) | (with_reducible refine HeldP.e_new (by first | omega | (simp; done) | (simp; omega)) ⟨_, rfl⟩) | (with_reducible refine HeldP.e_alloc ?_ ?_) | (with_reducible refine HeldP.f_drew ?_) | (with_reducible refine HeldP.f_drewN ?_) | (with_reducible refine HeldP.f_set ?_) | (with_reducible refine HeldP.f_new (by first | omega | (simp; done) | (simp; omega))) | (with_reducible refine HeldP.f_alloc ?_ ?_) | (with_reducible refine HeldP.s_drew ?_) | (with_reducible refine HeldP.s_drewN ?_) | (with_reducible refine HeldP.s_set ?_) | (with_reducible refine HeldP.s_new (by first | omega | (simp; done) | (simp; omega))) | (with_reducible refine HeldP.s_alloc ?_) | (with_reducible exact ⟨_, by assumption⟩) | omega | (intro e; simp at e; done) | (intro e; simp at e; omega) | (exact rfl) | (simp; done) | (simp; omega)))))
  have HO1 : Hid (Box w1 (w.heap.size + 1) [.int .i64 (j : Int), .int .u8 k1, .int .u8 k2, .int .u8 k3, .int .u8 k4, .int .i64 d]) := Lib.hid (Box.of6 (by omega) (by (repeat' (first | (with_reducible assumption) | (with_reducible refine HeldP.c_below hb1 ?_ ?_) | (with_reducible refine HeldP.f_below hb1 ?_ ?_) | (with_reducible refine HeldP.c_drew ?_) | (with_reducible refine HeldP.c_drewN ?_) | (with_reducible refine HeldP.c_same (by omega) ?_) | (with_reducible refine HeldP.c_other ?_ ?_) | (with_reducible refine HeldP.c_new (by first | omega | (simp; done) | (simp; omega)) ?_) | (with_reducible refine HeldP.c_alloc ?_ ?_) | (with_reducible refine HeldP.e_drew ?_) | (with_reducible refine HeldP.e_drewN ?_) | (with_reducible refine HeldP.e_set ?_) | (with_reducible refine HeldP.e_new (by first | omega | (simp; done) | (simp; omega)) ⟨_, rfl⟩) | (with_reducible refine HeldP.e_alloc ?_ ?_) | (with_reducible refine HeldP.f_drew ?_) | (with_reducible refine HeldP.f_drewN ?_) | (with_reducible refine HeldP.f_set ?_) | (with_reducible refine HeldP.f_new (by first | omega | (simp; done) | (simp; omega))) | (with_reducible refine HeldP.f_alloc ?_ ?_) | (with_reducible refine HeldP.s_drew ?_) | (with_reducible refine HeldP.s_drewN ?_) | (with_reducible refine HeldP.s_set ?_) | (with_reducible refine HeldP.s_new (by first | omega | (simp; done) | (simp; omega))) | (with_reducible refine HeldP.s_alloc ?_) | (with_reducible exact ⟨_, by assumption⟩) | omega | (intro e; simp at e; done) | (intro e; simp at e; omega) | (exact rfl) | (simp; done) | (simp; omega)))) (by (repeat' (first | (with_reducible assumption) | (with_reducible refine HeldP.c_below hb1 ?_ ?_) | (with_reducible refine HeldP.f_below hb1 ?_ ?_) | (with_reducible refine HeldP.c_drew ?_) | (with_reducible refine HeldP.c_drewN ?_) | (with_reducible refine HeldP.c_same (by omega) ?_) | (with_reducible refine HeldP.c_other ?_ ?_) | (with_reducible refine HeldP.c_new (by first | omega | (simp; done) | (simp; omega)) ?_) | (with_reducible refine HeldP.c_alloc ?_ ?_) | (with_reducible refine HeldP.e_drew ?_) | (with_reducible refine HeldP.e_drewN ?_) | (with_reducible refine HeldP.e_set ?_) | (with_reducible refine HeldP.e_new (by first | omega | (simp; done) | (simp; omega)) ⟨_, rfl⟩) | (with_reducible refine HeldP.e_alloc ?_ ?_) | (with_reducible refine HeldP.f_drew ?_) | (with_reducible refine HeldP.f_drewN ?_) | (with_reducible refine HeldP.f_set ?_) | (with_reducible refine HeldP.f_new (by first | omega | (simp; done) | (simp; omega))) | (with_reducible refine HeldP.f_alloc ?_ ?_) | (with_reducible refine HeldP.s_drew ?_) | (with_reducible refine HeldP.s_drewN ?_) | (with_reducible refine HeldP.s_set ?_) | (with_reducible refine HeldP.s_new (by first | omega | (simp; done) | (simp; omega))) | (with_reducible refine HeldP.s_alloc ?_) | (with_reducible exact ⟨_, by assumption⟩) | omega | (intro e; simp at e; done) | (intro e; simp at e; omega) | (exact rfl) | (simp; done) | (simp; omega)))) (by (repeat' (first | (with_reducible assumption) | (with_reducible refine HeldP.c_below hb1 ?_ ?_) | (with_reducible refine HeldP.f_below hb1 ?_ ?_) | (with_reducible refine HeldP.c_drew ?_) | (with_reducible refine HeldP.c_drewN ?_) | (with_reducible refine HeldP.c_same (by omega) ?_) | (with_reducible refine HeldP.c_other ?_ ?_) | (with_reducible refine HeldP.c_new (by first | omega | (simp; done) | (simp; omega)) ?_) | (with_reducible refine HeldP.c_alloc ?_ ?_) | (with_reducible refine HeldP.e_drew ?_) | (with_reducible refine HeldP.e_drewN ?_) | (with_reducible refine HeldP.e_set ?_) | (with_reducible refine HeldP.e_new (by first | omega | (simp; done) | (simp; omega)) ⟨_, rfl⟩) | (with_reducible refine HeldP.e_alloc ?_ ?_) | (with_reducible refine HeldP.f_drew ?_) | (with_reducible refine HeldP.f_drewN ?_) | (with_reducible refine HeldP.f_set ?_) | (with_reducible refine HeldP.f_new (by first | omega | (simp; done) | (simp; omega))) | (with_reducible refine HeldP.f_alloc ?_ ?_) | (with_reducible refine HeldP.s_drew ?_) | (with_reducible refine HeldP.s_drewN ?_) | (with_reducible refine HeldP.s_set ?_) | (with_reducible refine HeldP.s_new (by first | omega | (simp; done) | (simp; omega))) | (with_reducible refine HeldP.s_alloc ?_) | (with_reducible exact ⟨_, by assumption⟩) | omega | (intro e; simp at e; done) | (intro e; simp at e; omega) | (exact rfl) | (simp; done) | (simp; omega)))) (by (repeat' (first | (with_reducible assumption) | (with_reducible refine HeldP.c_below hb1 ?_ ?_) | (with_reducible refine HeldP.f_below hb1 ?_ ?_) | (with_reducible refine HeldP.c_drew ?_) | (with_reducible refine HeldP.c_drewN ?_) | (with_reducible refine HeldP.c_same (by omega) ?_) | (with_reducible refine HeldP.c_other ?_ ?_) | (with_reducible refine HeldP.c_new (by first | omega | (simp; done) | (simp; omega)) ?_) | (with_reducible refine HeldP.c_alloc ?_ ?_) | (with_reducible refine HeldP.e_drew ?_) | (with_reducible refine HeldP.e_drewN ?_) | (with_reducible refine HeldP.e_set ?_) | (with_reducible refine HeldP.e_new (by first | omega | (simp; done) | (simp; omega)) ⟨_, rfl⟩) | (with_reducible refine HeldP.e_alloc ?_ ?_) | (with_reducible refine HeldP.f_drew ?_) | (with_reducible refine HeldP.f_drewN ?_) | (with_reducible refine HeldP.f_set ?_) | (with_reducible refine HeldP.f_new (by first | omega | (simp; done) | (simp; omega))) | (with_reducible refine HeldP.f_alloc ?_ ?_) | (with_reducible refine HeldP.s_drew ?_) | (with_reducible refine HeldP.s_drewN ?_) | (with_reducible refine HeldP.s_set ?_) | (with_reducible refine HeldP.s_new (by first | omega | (simp; done) | (simp; omega))) | (with_reducible refine HeldP.s_alloc ?_) | (with_reducible exact ⟨_, by assumption⟩) | omega | (intro e; simp at e; done) | (intro e; simp at e; omega) | (exact rfl) | (simp; done) | (simp; omega)))) (by (repeat' (first | (with_reducible assumption) | (with_reducible refine HeldP.c_below hb1 ?_ ?_) | (with_reducible refine HeldP.f_below hb1 ?_ ?_) | (with_reducible refine HeldP.c_drew ?_) | (with_reducible refine HeldP.c_drewN ?_) | (with_reducible refine HeldP.c_same (by omega) ?_) | (with_reducible refine HeldP.c_other ?_ ?_) | (with_reducible refine HeldP.c_new (by first | omega | (simp; done) | (simp; omega)) ?_) | (with_reducible refine HeldP.c_alloc ?_ ?_) | (with_reducible refine HeldP.e_drew ?_) | (with_reducible refine HeldP.e_drewN ?_) | (with_reducible refine HeldP.e_set ?_) | (with_reducible refine HeldP.e_new (by first | omega | (simp; done) | (simp; omega)) ⟨_, rfl⟩) | (with_reducible refine HeldP.e_alloc ?_ ?_) | (with_reducible refine HeldP.f_drew ?_) | (with_reducible refine HeldP.f_drewN ?_) | (with_reducible refine HeldP.f_set ?_) | (with_reducible refine HeldP.f_new (by first | omega | (simp; done) | (simp; omega))) | (with_reducible refine HeldP.f_alloc ?_ ?_) | (with_reducible refine HeldP.s_drew ?_) | (with_reducible refine HeldP.s_drewN ?_) | (with_reducible refine HeldP.s_set ?_) | (with_reducible refine HeldP.s_new (by first | omega | (simp; done) | (simp; omega))) | (with_reducible refine HeldP.s_alloc ?_) | (with_reducible exact ⟨_, by assumption⟩) | omega | (intro e; simp at e; done) | (intro e; simp at e; omega) | (exact rfl) | (simp; done) | (simp; omega)))) (by (repeat' (first | (with_reducible assumption) | (with_reducible refine HeldP.c_below hb1 ?_ ?_) | (with_reducible refine HeldP.f_below hb1 ?_ ?_) | (with_reducible refine HeldP.c_drew ?_) | (with_reducible refine HeldP.c_drewN ?_) | (with_reducible refine HeldP.c_same (by omega) ?_) | (with_reducible refine HeldP.c_other ?_ ?_) | (with_reducible refine HeldP.c_new (by first | omega | (simp; done) | (simp; omega)) ?_) | (with_reducible refine HeldP.c_alloc ?_ ?_) | (with_reducible refine HeldP.e_drew ?_) | (with_reducible refine HeldP.e_drewN ?_) | (with_reducible refine HeldP.e_set ?_) | (with_reducible refine HeldP.e_new (by first | omega | (simp; done) | (simp; omega)) ⟨_, rfl⟩) | (with_reducible refine HeldP.e_alloc ?_ ?_) | (with_reducible refine HeldP.f_drew ?_) | (with_reducible refine HeldP.f_drewN ?_) | (with_reducible refine HeldP.f_set ?_) | (with_reducible refine HeldP.f_new (by first | omega | (simp; done) | (simp; omega))) | (with_reducible refine HeldP.f_alloc ?_ ?_) | (with_reducible refine HeldP.s_drew ?_) | (with_reducible refine HeldP.s_drewN ?_) | (with_reducible refine HeldP.s_set ?_) | (with_reducible refine HeldP.s_new (by first | omega | (simp; done) | (simp; omega))) | (with_reducible refine HeldP.s_alloc ?_) | (with_reducible exact ⟨_, by assumption⟩) | omega | (intro e; simp at e; done) | (intro e; simp at e; omega) | (exact rfl) | (simp; done) | (simp; omega)))))
  have HK1 : Hid (Chk w1 p (landC y) (landL y) (.slice TA 0 tc)) := Lib.hid g1
  have HTC := Lib.hid g4
  have hpw : w.heap.size ≤ p := by omega
  have hn0 : w.heap.size ≠ p := by omega
  have hn1 : w.heap.size + 1 ≠ p := by omega
  have hplt := g1.lt
  clear hb1 g1 g2 g3 g4 g5
  have o0 := HO1.out.2 0 _ rfl
  go_wp2_with fail
  refine HeldP.wp_named (fun W => Box W w.heap.size [.int .i64 x, .int .i64 y, .int .i64 z] ∧ Box W (w.heap.size + 1) [.int .i64 (j : Int), .int .u8 k1, .int .u8 k2, .int .u8 k3, .int .u8 k4, .int .i64 d] ∧ Chk W p (landC y) (landL y) (.slice TA 0 tc) ∧ Below w.heap.size w W) ⟨HS1.out, HO1.out, HK1.out, HW1.out⟩ ?_
  clear o0
  rintro wn ⟨hsn, hon, hkn, hbn⟩
  have HSn := Lib.hid hsn
  have HOn := Lib.hid hon
  have HKn := Lib.hid hkn
  have HBn := Lib.hid hbn
  have o0 := hon.2 0 _ rfl
  have kl_ := hon.1
  obtain ⟨p0, p1⟩ := G1.out _ _ _ _ hkn
  obtain ⟨p2, p3⟩ := G2.out _ _ _ _ hkn
  have pl := hkn.lt
  have sn : w.heap.size + 1 < wn.heap.size := hon.1
  clear hsn hon hkn hbn
  refine wp_region_noPanic ?_
  refine wp_region_held_drew (S := fun W => Below wn.heap.size wn W) (by kernel_rfl) ((Below.refl _ wn).drew) (fun hHeld => ?_)
  refine wpAnyH_take (i := 0) (oi := ⟨some 27, _, _, _, _, _⟩) (v := .pointer (some ⟨p, 0, none⟩)) rfl (by kernel_rfl) (by kernel_rfl) (by kernel_rfl) (fun _ _ _ h => h) (Or.inl ⟨by rfl, fun W hSW => by go_simp⟩) hHeld ?_
  simp only [Act.put, List.setIfInBounds_toArray, List.set_cons_zero, List.set_cons_succ]
  refine wpAnyH_take (i := 1) (oi := ⟨some 28, _, _, _, _, _⟩) (v := .pointer (some ⟨w.heap.size + 1, 0, none⟩)) rfl (by kernel_rfl) (by kernel_rfl) (by kernel_rfl) (fun _ _ _ h => h) (Or.inl ⟨by rfl, fun W hSW => by go_simp⟩) hHeld ?_
  simp only [Act.put, List.setIfInBounds_toArray, List.set_cons_zero, List.set_cons_succ]
  refine wpAnyH_take (i := 2) (oi := ⟨some 29, _, _, _, _, _⟩) (v := .int .i64 (j : Int)) rfl (by kernel_rfl) (by kernel_rfl) (by kernel_rfl) (fun _ _ _ h => h) (Or.inl ⟨by rfl, fun W hSW => by have a0 := (hSW.cell (p := ⟨w.heap.size + 1, 0, none⟩) kl_).trans o0; go_simp⟩) hHeld ?_
  simp only [Act.put, List.setIfInBounds_toArray, List.set_cons_zero, List.set_cons_succ]
  refine wpAnyH_take (i := 3) (oi := ⟨some 30, _, _, _, _, _⟩) (v := .pointer (some ⟨p, 0, none⟩)) rfl (by kernel_rfl) (by kernel_rfl) (by kernel_rfl) (fun _ _ _ h => h) (Or.inl ⟨by rfl, fun W hSW => by go_simp⟩) hHeld ?_
  simp only [Act.put, List.setIfInBounds_toArray, List.set_cons_zero, List.set_cons_succ]
  refine wpAnyH_take (i := 4) (oi := ⟨some 31, _, _, _, _, _⟩) (v := .pointer (some ⟨p, 0, none⟩)) rfl (by kernel_rfl) (by kernel_rfl) (by kernel_rfl) (fun _ _ _ h => h) (Or.inl ⟨by rfl, fun W hSW => by go_simp⟩) hHeld ?_
  simp only [Act.put, List.setIfInBounds_toArray, List.set_cons_zero, List.set_cons_succ]
  refine wpAnyH_take (i := 5) (oi := ⟨some 32, _, _, _, _, _⟩) (v := .pointer (some ⟨p, j * 2, none⟩)) rfl (by kernel_rfl) (by kernel_rfl) (by kernel_rfl) (fun _ _ _ h => h) (Or.inl ⟨by rfl, fun W hSW => by go_simp⟩) hHeld ?_
  simp only [Act.put, List.setIfInBounds_toArray, List.set_cons_zero, List.set_cons_succ]
  refine wpAnyH_take (i := 6) (oi := ⟨some 33, _, _, _, _, _⟩) (v := .agg #[.int .u8 X1, .int .u8 X2]) rfl (by kernel_rfl) (by kernel_rfl) (by kernel_rfl) (fun _ _ _ h => h) (Or.inl ⟨by rfl, fun W hSW => by have a0 := (hSW.cell (p := ⟨p, j * 2, none⟩) pl).trans p0; have a1 := (hSW.cell (p := ⟨p, j * 2 + 1, none⟩) pl).trans p1; go_simp⟩) hHeld ?_
  simp only [Act.put, List.setIfInBounds_toArray, List.set_cons_zero, List.set_cons_succ]
  refine wpAnyH_take (i := 7) (oi := ⟨some 34, _, _, _, _, _⟩) (v := .pointer (some ⟨p, 0, none⟩)) rfl (by kernel_rfl) (by kernel_rfl) (by kernel_rfl) (fun _ _ _ h => h) (Or.inl ⟨by rfl, fun W hSW => by go_simp⟩) hHeld ?_
  simp only [Act.put, List.setIfInBounds_toArray, List.set_cons_zero, List.set_cons_succ]
  refine wpAnyH_take (i := 8) (oi := ⟨some 35, _, _, _, _, _⟩) (v := .pointer (some ⟨w.heap.size + 1, 0, none⟩)) rfl (by kernel_rfl) (by kernel_rfl) (by kernel_rfl) (fun _ _ _ h => h) (Or.inl ⟨by rfl, fun W hSW => by go_simp⟩) hHeld ?_
  simp only [Act.put, List.setIfInBounds_toArray, List.set_cons_zero, List.set_cons_succ]
  refine wpAnyH_take (i := 9) (oi := ⟨some 36, _, _, _, _, _⟩) (v := .int .i64 (j : Int)) rfl (by kernel_rfl) (by kernel_rfl) (by kernel_rfl) (fun _ _ _ h => h) (Or.inl ⟨by rfl, fun W hSW => by have a0 := (hSW.cell (p := ⟨w.heap.size + 1, 0, none⟩) kl_).trans o0; go_simp⟩) hHeld ?_
  simp only [Act.put, List.setIfInBounds_toArray, List.set_cons_zero, List.set_cons_succ]
  refine wpAnyH_take (i := 10) (oi := ⟨some 37, _, _, _, _, _⟩) (v := .pointer (some ⟨p, 0, none⟩)) rfl (by kernel_rfl) (by kernel_rfl) (by kernel_rfl) (fun _ _ _ h => h) (Or.inl ⟨by rfl, fun W hSW => by go_simp⟩) hHeld ?_
  simp only [Act.put, List.setIfInBounds_toArray, List.set_cons_zero, List.set_cons_succ]
  refine wpAnyH_take (i := 11) (oi := ⟨some 38, _, _, _, _, _⟩) (v := .pointer (some ⟨p, 8192, none⟩)) rfl (by kernel_rfl) (by kernel_rfl) (by kernel_rfl) (fun _ _ _ h => h) (Or.inl ⟨by rfl, fun W hSW => by go_simp⟩) hHeld ?_
  simp only [Act.put, List.setIfInBounds_toArray, List.set_cons_zero, List.set_cons_succ]
  refine wpAnyH_take (i := 12) (oi := ⟨some 39, _, _, _, _, _⟩) (v := .pointer (some ⟨p, 8192 + j * 2, none⟩)) rfl (by kernel_rfl) (by kernel_rfl) (by kernel_rfl) (fun _ _ _ h => h) (Or.inl ⟨by rfl, fun W hSW => by go_simp⟩) hHeld ?_
  simp only [Act.put, List.setIfInBounds_toArray, List.set_cons_zero, List.set_cons_succ]
  refine wpAnyH_take (i := 13) (oi := ⟨some 40, _, _, _, _, _⟩) (v := .agg #[.int .u8 X3, .int .u8 X4]) rfl (by kernel_rfl) (by kernel_rfl) (by kernel_rfl) (fun _ _ _ h => h) (Or.inl ⟨by rfl, fun W hSW => by have a0 := (hSW.cell (p := ⟨p, 8192 + j * 2, none⟩) pl).trans p2; have a1 := (hSW.cell (p := ⟨p, 8192 + j * 2 + 1, none⟩) pl).trans p3; go_simp⟩) hHeld ?_
  simp only [Act.put, List.setIfInBounds_toArray, List.set_cons_zero, List.set_cons_succ]
  refine wpAnyH_ready (rs := [14, 15]) (by kernel_rfl) (by simp) ?_
  refine AllReadyH.cons (o := ⟨some 7, _, _, _, _, _⟩) rfl (fun K hK => ?_) (AllReadyH.cons (o := ⟨some 8, _, _, _, _, _⟩) rfl (fun K hK => ?_) AllReadyH.nil)
  · go_simp
    refine hK.out _ _ (Below.alloc hHeld (by first | omega | (simp; done) | (simp; omega)) _) (fun hHeld => ?_)
    clear hK K
    refine wpAnyH_ready (rs := [15]) (by kernel_rfl) (by simp) ?_
    refine AllReadyH.cons (o := ⟨some 8, _, _, _, _, _⟩) rfl (fun K hK => ?_) AllReadyH.nil
    go_simp
    refine hK.out _ _ (Below.alloc hHeld (by first | omega | (simp; done) | (simp; omega)) _) (fun hHeld => ?_)
    clear hK K
    refine wpAnyH_ready (rs := [16]) (by kernel_rfl) (by simp) ?_
    refine AllReadyH.cons (o := ⟨none, _, _, _, _, _⟩) rfl (fun K hK => ?_) AllReadyH.nil
    go_simp
    refine hK.out _ _ (by (repeat' (first | (with_reducible exact Below.refl _ _) | (with_reducible refine Below.setCell ?_ (by (first | omega | (simp; done) | (simp; omega))) _) | (with_reducible refine Below.alloc ?_ (by (first | omega | (simp; done) | (simp; omega))) _) | (with_reducible refine Below.drew ?_) | (with_reducible refine below_drewN ?_ _) | (with_reducible refine Below.trans ?_ (Below.mono hHeld (by (first | omega | (simp; done) | (simp; omega)))))))) (fun hHeld => ?_)
    clear hK K
    refine wpAnyH_ready (rs := [17]) (by kernel_rfl) (by simp) ?_
    refine AllReadyH.cons (o := ⟨none, _, _, _, _, _⟩) rfl (fun K hK => ?_) AllReadyH.nil
    go_simp
    refine hK.out _ _ (by (repeat' (first | (with_reducible exact Below.refl _ _) | (with_reducible refine Below.setCell ?_ (by (first | omega | (simp; done) | (simp; omega))) _) | (with_reducible refine Below.alloc ?_ (by (first | omega | (simp; done) | (simp; omega))) _) | (with_reducible refine Below.drew ?_) | (with_reducible refine below_drewN ?_ _) | (with_reducible refine Below.trans ?_ (Below.mono hHeld (by (first | omega | (simp; done) | (simp; omega)))))))) (fun hHeld => ?_)
    clear hK K
    refine wpAnyH_done (by kernel_rfl) ?_ _
    refine NoPanic.normal ?_
    refine HeldP.then_named (fun W => Oth w W w.heap.size (wn.heap.size) (wn.heap.size + 1) p [.int .i64 x, .int .i64 y, .int .i64 z] [.int .i64 (j : Int), .int .u8 k1, .int .u8 k2, .int .u8 k3, .int .u8 k4, .int .i64 d] [.int .u8 X1, .int .u8 X2] [.int .u8 X3, .int .u8 X4] (landC y) (landL y) (.slice TA 0 tc)) ⟨HSn.out.below hHeld, HOn.out.below hHeld, Box.of2 (by (repeat' (first | (with_reducible assumption) | (with_reducible refine HeldP.c_drew ?_) | (with_reducible refine HeldP.c_drewN ?_) | (with_reducible refine HeldP.c_same (by omega) ?_) | (with_reducible refine HeldP.c_other ?_ ?_) | (with_reducible refine HeldP.c_new (by first | omega | (simp; done) | (simp; omega)) ?_) | (with_reducible refine HeldP.c_alloc ?_ ?_) | (with_reducible refine HeldP.e_drew ?_) | (with_reducible refine HeldP.e_drewN ?_) | (with_reducible refine HeldP.e_set ?_) | (with_reducible refine HeldP.e_new (by first | omega | (simp; done) | (simp; omega)) ⟨_, rfl⟩) | (with_reducible refine HeldP.e_alloc ?_ ?_) | (with_reducible refine HeldP.f_drew ?_) | (with_reducible refine HeldP.f_drewN ?_) | (with_reducible refine HeldP.f_set ?_) | (with_reducible refine HeldP.f_new (by first | omega | (simp; done) | (simp; omega))) | (with_reducible refine HeldP.f_alloc ?_ ?_) | (with_reducible refine HeldP.s_drew ?_) | (with_reducible refine HeldP.s_drewN ?_) | (with_reducible refine HeldP.s_set ?_) | (with_reducible refine HeldP.s_new (by first | omega | (simp; done) | (simp; omega))) | (with_reducible refine HeldP.s_alloc ?_) | (with_reducible exact ⟨_, by assumption⟩) | omega | (intro e; simp at e; done) | (intro e; simp at e; omega) | (exact rfl) | (simp; done) | (simp; omega)))) (by (repeat' (first | (with_reducible assumption) | (with_reducible refine HeldP.c_drew ?_) | (with_reducible refine HeldP.c_drewN ?_) | (with_reducible refine HeldP.c_same (by omega) ?_) | (with_reducible refine HeldP.c_other ?_ ?_) | (with_reducible refine HeldP.c_new (by first | omega | (simp; done) | (simp; omega)) ?_) | (with_reducible refine HeldP.c_alloc ?_ ?_) | (with_reducible refine HeldP.e_drew ?_) | (with_reducible refine HeldP.e_drewN ?_) | (with_reducible refine HeldP.e_set ?_) | (with_reducible refine HeldP.e_new (by first | omega | (simp; done) | (simp; omega)) ⟨_, rfl⟩) | (with_reducible refine HeldP.e_alloc ?_ ?_) | (with_reducible refine HeldP.f_drew ?_) | (with_reducible refine HeldP.f_drewN ?_) | (with_reducible refine HeldP.f_set ?_) | (with_reducible refine HeldP.f_new (by first | omega | (simp; done) | (simp; omega))) | (with_reducible refine HeldP.f_alloc ?_ ?_) | (with_reducible refine HeldP.s_drew ?_) | (with_reducible refine HeldP.s_drewN ?_) | (with_reducible refine HeldP.s_set ?_) | (with_reducible refine HeldP.s_new (by first | omega | (simp; done) | (simp; omega))) | (with_reducible refine HeldP.s_alloc ?_) | (with_reducible exact ⟨_, by assumption⟩) | omega | (intro e; simp at e; done) | (intro e; simp at e; omega) | (exact rfl) | (simp; done) | (simp; omega)))) (by (repeat' (first | (with_reducible assumption) | (with_reducible refine HeldP.c_drew ?_) | (with_reducible refine HeldP.c_drewN ?_) | (with_reducible refine HeldP.c_same (by omega) ?_) | (with_reducible refine HeldP.c_other ?_ ?_) | (with_reducible refine HeldP.c_new (by first | omega | (simp; done) | (simp; omega)) ?_) | (with_reducible refine HeldP.c_alloc ?_ ?_) | (with_reducible refine HeldP.e_drew ?_) | (with_reducible refine HeldP.e_drewN ?_) | (with_reducible refine HeldP.e_set ?_) | (with_reducible refine HeldP.e_new (by first | omega | (simp; done) | (simp; omega)) ⟨_, rfl⟩) | (with_reducible refine HeldP.e_alloc ?_ ?_) | (with_reducible refine HeldP.f_drew ?_) | (with_reducible refine HeldP.f_drewN ?_) | (with_reducible refine HeldP.f_set ?_) | (with_reducible refine HeldP.f_new (by first | omega | (simp; done) | (simp; omega))) | (with_reducible refine HeldP.f_alloc ?_ ?_) | (with_reducible refine HeldP.s_drew ?_) | (with_reducible refine HeldP.s_drewN ?_) | (with_reducible refine HeldP.s_set ?_) | (with_reducible refine HeldP.s_new (by first | omega | (simp; done) | (simp; omega))) | (with_reducible refine HeldP.s_alloc ?_) | (with_reducible exact ⟨_, by assumption⟩) | omega | (intro e; simp at e; done) | (intro e; simp at e; omega) | (exact rfl) | (simp; done) | (simp; omega)))), Box.of2 (by (repeat' (first | (with_reducible assumption) | (with_reducible refine HeldP.c_drew ?_) | (with_reducible refine HeldP.c_drewN ?_) | (with_reducible refine HeldP.c_same (by omega) ?_) | (with_reducible refine HeldP.c_other ?_ ?_) | (with_reducible refine HeldP.c_new (by first | omega | (simp; done) | (simp; omega)) ?_) | (with_reducible refine HeldP.c_alloc ?_ ?_) | (with_reducible refine HeldP.e_drew ?_) | (with_reducible refine HeldP.e_drewN ?_) | (with_reducible refine HeldP.e_set ?_) | (with_reducible refine HeldP.e_new (by first | omega | (simp; done) | (simp; omega)) ⟨_, rfl⟩) | (with_reducible refine HeldP.e_alloc ?_ ?_) | (with_reducible refine HeldP.f_drew ?_) | (with_reducible refine HeldP.f_drewN ?_) | (with_reducible refine HeldP.f_set ?_) | (with_reducible refine HeldP.f_new (by first | omega | (simp; done) | (simp; omega))) | (with_reducible refine HeldP.f_alloc ?_ ?_) | (with_reducible refine HeldP.s_drew ?_) | (with_reducible refine HeldP.s_drewN ?_) | (with_reducible refine HeldP.s_set ?_) | (with_reducible refine HeldP.s_new (by first | omega | (simp; done) | (simp; omega))) | (with_reducible refine HeldP.s_alloc ?_) | (with_reducible exact ⟨_, by assumption⟩) | omega | (intro e; simp at e; done) | (intro e; simp at e; omega) | (exact rfl) | (simp; done) | (simp; omega)))) (by (repeat' (first | (with_reducible assumption) | (with_reducible refine HeldP.c_drew ?_) | (with_reducible refine HeldP.c_drewN ?_) | (with_reducible refine HeldP.c_same (by omega) ?_) | (with_reducible refine HeldP.c_other ?_ ?_) | (with_reducible refine HeldP.c_new (by first | omega | (simp; done) | (simp; omega)) ?_) | (with_reducible refine HeldP.c_alloc ?_ ?_) | (with_reducible refine HeldP.e_drew ?_) | (with_reducible refine HeldP.e_drewN ?_) | (with_reducible refine HeldP.e_set ?_) | (with_reducible refine HeldP.e_new (by first | omega | (simp; done) | (simp; omega)) ⟨_, rfl⟩) | (with_reducible refine HeldP.e_alloc ?_ ?_) | (with_reducible refine HeldP.f_drew ?_) | (with_reducible refine HeldP.f_drewN ?_) | (with_reducible refine HeldP.f_set ?_) | (with_reducible refine HeldP.f_new (by first | omega | (simp; done) | (simp; omega))) | (with_reducible refine HeldP.f_alloc ?_ ?_) | (with_reducible refine HeldP.s_drew ?_) | (with_reducible refine HeldP.s_drewN ?_) | (with_reducible refine HeldP.s_set ?_) | (with_reducible refine HeldP.s_new (by first | omega | (simp; done) | (simp; omega))) | (with_reducible refine HeldP.s_alloc ?_) | (with_reducible exact ⟨_, by assumption⟩) | omega | (intro e; simp at e; done) | (intro e; simp at e; omega) | (exact rfl) | (simp; done) | (simp; omega)))) (by (repeat' (first | (with_reducible assumption) | (with_reducible refine HeldP.c_drew ?_) | (with_reducible refine HeldP.c_drewN ?_) | (with_reducible refine HeldP.c_same (by omega) ?_) | (with_reducible refine HeldP.c_other ?_ ?_) | (with_reducible refine HeldP.c_new (by first | omega | (simp; done) | (simp; omega)) ?_) | (with_reducible refine HeldP.c_alloc ?_ ?_) | (with_reducible refine HeldP.e_drew ?_) | (with_reducible refine HeldP.e_drewN ?_) | (with_reducible refine HeldP.e_set ?_) | (with_reducible refine HeldP.e_new (by first | omega | (simp; done) | (simp; omega)) ⟨_, rfl⟩) | (with_reducible refine HeldP.e_alloc ?_ ?_) | (with_reducible refine HeldP.f_drew ?_) | (with_reducible refine HeldP.f_drewN ?_) | (with_reducible refine HeldP.f_set ?_) | (with_reducible refine HeldP.f_new (by first | omega | (simp; done) | (simp; omega))) | (with_reducible refine HeldP.f_alloc ?_ ?_) | (with_reducible refine HeldP.s_drew ?_) | (with_reducible refine HeldP.s_drewN ?_) | (with_reducible refine HeldP.s_set ?_) | (with_reducible refine HeldP.s_new (by first | omega | (simp; done) | (simp; omega))) | (with_reducible refine HeldP.s_alloc ?_) | (with_reducible exact ⟨_, by assumption⟩) | omega | (intro e; simp at e; done) | (intro e; simp at e; omega) | (exact rfl) | (simp; done) | (simp; omega)))), HKn.out.below hHeld, below_t HBn.out hHeld⟩ ?_
    clear o0 kl_ p0 p1 p2 p3 hHeld
    rintro wa ha
    have HA := Lib.hid ha
    have h7p : wn.heap.size ≠ p := by omega
    have h8p : wn.heap.size + 1 ≠ p := by omega
    clear ha
    go_wp2_with fail
    have o0f := HA.out.o.2 0 _ rfl
    have o1f := HA.out.o.2 1 _ rfl
    have o2f := HA.out.o.2 2 _ rfl
    obtain ⟨g0, g1⟩ := G1.out _ _ _ _ HA.out.k
    have f0 := HA.out.k.frozen (j * 2)
    have f1 := HA.out.k.frozen (j * 2 + 1)
    go_region
    refine HeldP.then_named (fun W => Oth w W w.heap.size (wn.heap.size) (wn.heap.size + 1) p [.int .i64 x, .int .i64 y, .int .i64 z] [.int .i64 (j : Int), .int .u8 k1, .int .u8 k2, .int .u8 k3, .int .u8 k4, .int .i64 d] [.int .u8 X1, .int .u8 X2] [.int .u8 X3, .int .u8 X4] ((landC y).set j kc) (landL y) (.slice TA 0 tc)) ?_ ?_
    · refine Oth.grown HA.out ?_ ?_ hpw hn0 hn1 h7p h8p
      · (repeat' (first | (with_reducible exact World.grownBy.refl _ _) | (with_reducible refine gdrew ?_) | (with_reducible refine gr_set ?_)))
      · have h := HA.out.k.setC hj kc
        rw [HV.out.1.1, HV.out.1.2] at h
        exact h
    clear g0 g1 f0 f1 o0f o1f o2f
    rintro wb hn
    have HB := Lib.hid hn
    clear hn
    go_wp2_with fail
    have s0f := HB.out.s.2 0 _ rfl
    have s1f := HB.out.s.2 1 _ rfl
    have s2f := HB.out.s.2 2 _ rfl
    have o1f := HB.out.o.2 1 _ rfl
    have o2f := HB.out.o.2 2 _ rfl
    have c0f := HB.out.c.2 0 _ rfl
    have c1f := HB.out.c.2 1 _ rfl
    have sl := HB.out.s.1
    have ol := HB.out.o.1
    have cl := HB.out.c.1
    have ll := HB.out.l.1
    refine wp_region_noPanic ?_
    refine wp_region_held_drew (S := fun W => Below wb.heap.size wb W) (by kernel_rfl) ((Below.refl _ wb).drew) (fun hHeld => ?_)
    refine wpAnyH_take (i := 0) (oi := ⟨some 49, _, _, _, _, _⟩) (v := .pointer (some ⟨p, 0, none⟩)) rfl (by kernel_rfl) (by kernel_rfl) (by kernel_rfl) (fun _ _ _ h => h) (Or.inl ⟨by rfl, fun W hSW => by go_simp⟩) hHeld ?_
    simp only [Act.put, List.setIfInBounds_toArray, List.set_cons_zero, List.set_cons_succ]
    refine wpAnyH_take (i := 1) (oi := ⟨some 50, _, _, _, _, _⟩) (v := .agg #[.int .i64 x, .int .i64 y, .int .i64 z]) rfl (by kernel_rfl) (by kernel_rfl) (by kernel_rfl) (fun _ _ _ h => h) (Or.inl ⟨by rfl, fun W hSW => by have a0 := (hSW.cell (p := ⟨w.heap.size, 0, none⟩) sl).trans s0f; have a1 := (hSW.cell (p := ⟨w.heap.size, 1, none⟩) sl).trans s1f; have a2 := (hSW.cell (p := ⟨w.heap.size, 2, none⟩) sl).trans s2f; go_simp⟩) hHeld ?_
    simp only [Act.put, List.setIfInBounds_toArray, List.set_cons_zero, List.set_cons_succ]
    refine wpAnyH_take (i := 3) (oi := ⟨some 52, _, _, _, _, _⟩) (v := .pointer (some ⟨w.heap.size + 1, 1, none⟩)) rfl (by kernel_rfl) (by kernel_rfl) (by kernel_rfl) (fun _ _ _ h => h) (Or.inl ⟨by rfl, fun W hSW => by go_simp⟩) hHeld ?_
    simp only [Act.put, List.setIfInBounds_toArray, List.set_cons_zero, List.set_cons_succ]
    refine wpAnyH_take (i := 4) (oi := ⟨some 53, _, _, _, _, _⟩) (v := .agg #[.int .u8 k1, .int .u8 k2]) rfl (by kernel_rfl) (by kernel_rfl) (by kernel_rfl) (fun _ _ _ h => h) (Or.inl ⟨by rfl, fun W hSW => by have a0 := (hSW.cell (p := ⟨w.heap.size + 1, 1, none⟩) ol).trans o1f; have a1 := (hSW.cell (p := ⟨w.heap.size + 1, 2, none⟩) ol).trans o2f; go_simp⟩) hHeld ?_
    simp only [Act.put, List.setIfInBounds_toArray, List.set_cons_zero, List.set_cons_succ]
    refine wpAnyH_take (i := 5) (oi := ⟨some 54, _, _, _, _, _⟩) (v := .agg #[.int .u8 X1, .int .u8 X2]) rfl (by kernel_rfl) (by kernel_rfl) (by kernel_rfl) (fun _ _ _ h => h) (Or.inl ⟨by rfl, fun W hSW => by have a0 := (hSW.cell (p := ⟨wn.heap.size, 0, none⟩) cl).trans c0f; have a1 := (hSW.cell (p := ⟨wn.heap.size, 1, none⟩) cl).trans c1f; go_simp⟩) hHeld ?_
    simp only [Act.put, List.setIfInBounds_toArray, List.set_cons_zero, List.set_cons_succ]
    refine wpAnyH_take (i := 6) (oi := ⟨some 55, _, _, _, _, _⟩) (v := .bool rc) rfl (by kernel_rfl) (by kernel_rfl) (by kernel_rfl) (fun _ _ _ h => h) (Or.inl ⟨by rfl, fun W hSW => by exact yield_eq1 (c := kc) (d := c0) rfl (by rw [HV.out.1.1, HV.out.1.2]; rfl) (by rw [HV.out.2.2.1.1, HV.out.2.2.1.2]; rfl) HRC.out⟩) hHeld ?_
    simp only [Act.put, List.setIfInBounds_toArray, List.set_cons_zero, List.set_cons_succ]
    refine wpAnyH_ready (rs := [2]) (by kernel_rfl) (by simp) ?_
    refine AllReadyH.cons (o := ⟨some 51, _, _, _, _, _⟩) rfl (fun K hK => ?_) AllReadyH.nil
    go_simp
    refine (is_c (HT.out.below (below_t HB.out.b hHeld)) (ckk_of (HB.out.k.below hHeld) HTC.out) H.out I1.out).mono ?_
    rintro e w2 ⟨rfl, hb2⟩
    go_wp2_with fail
    refine hK.out _ _ (below_t hHeld hb2) (fun hHeld => ?_)
    clear hK K hb2
    refine wpAnyH_take (i := 7) (oi := ⟨some 56, _, _, _, _, _⟩) (v := .bool false) rfl (by kernel_rfl) (by kernel_rfl) (by kernel_rfl) (fun _ _ _ h => h) (Or.inl ⟨by rfl, fun W hSW => by cases rc <;> go_simp⟩) hHeld ?_
    simp only [Act.put, List.setIfInBounds_toArray, List.set_cons_zero, List.set_cons_succ]
    refine wpAnyH_done (by kernel_rfl) ?_ _
    refine NoPanic.normal ?_
    refine HeldP.then_named (fun W => Oth w W w.heap.size (wn.heap.size) (wn.heap.size + 1) p [.int .i64 x, .int .i64 y, .int .i64 z] [.int .i64 (j : Int), .int .u8 k1, .int .u8 k2, .int .u8 k3, .int .u8 k4, .int .i64 d] [.int .u8 X1, .int .u8 X2] [.int .u8 X3, .int .u8 X4] ((landC y).set j kc) (landL y) (.slice TA 0 tc)) (HB.out.below hHeld) ?_
    clear s0f s1f s2f o1f o2f c0f c1f sl ol cl ll hHeld
    rintro wc hn
    have HC := Lib.hid hn
    clear hn
    go_wp2_with fail
    have o0f := HC.out.o.2 0 _ rfl
    have c0f := HC.out.c.2 0 _ rfl
    have c1f := HC.out.c.2 1 _ rfl
    obtain ⟨g0, g1⟩ := G3.out _ _ _ _ HC.out.k
    have f0 := HC.out.k.frozen (j * 2)
    have f1 := HC.out.k.frozen (j * 2 + 1)
    go_region
    refine HeldP.then_named (fun W => Oth w W w.heap.size (wn.heap.size) (wn.heap.size + 1) p [.int .i64 x, .int .i64 y, .int .i64 z] [.int .i64 (j : Int), .int .u8 k1, .int .u8 k2, .int .u8 k3, .int .u8 k4, .int .i64 d] [.int .u8 X1, .int .u8 X2] [.int .u8 X3, .int .u8 X4] (landC y) (landL y) (.slice TA 0 tc)) ?_ ?_
    · refine Oth.grown HC.out ?_ ?_ hpw hn0 hn1 h7p h8p
      · (repeat' (first | (with_reducible exact World.grownBy.refl _ _) | (with_reducible refine gdrew ?_) | (with_reducible refine gr_set ?_)))
      · have h := HC.out.k.setC hj c0
        rw [HV.out.2.2.1.1, HV.out.2.2.1.2, set_back HCJ.out] at h
        exact h
    clear g0 g1 f0 f1 o0f c0f c1f
    rintro wd hn
    have HD := Lib.hid hn
    clear hn
    go_wp2_with fail
    have o0f := HD.out.o.2 0 _ rfl
    have o3f := HD.out.o.2 3 _ rfl
    have o4f := HD.out.o.2 4 _ rfl
    obtain ⟨g0, g1⟩ := G2.out _ _ _ _ HD.out.k
    have f0 := HD.out.k.frozen (8192 + j * 2)
    have f1 := HD.out.k.frozen (8192 + j * 2 + 1)
    go_region
    refine HeldP.then_named (fun W => Oth w W w.heap.size (wn.heap.size) (wn.heap.size + 1) p [.int .i64 x, .int .i64 y, .int .i64 z] [.int .i64 (j : Int), .int .u8 k1, .int .u8 k2, .int .u8 k3, .int .u8 k4, .int .i64 d] [.int .u8 X1, .int .u8 X2] [.int .u8 X3, .int .u8 X4] (landC y) ((landL y).set j kl) (.slice TA 0 tc)) ?_ ?_
    · refine Oth.grown HD.out ?_ ?_ hpw hn0 hn1 h7p h8p
      · (repeat' (first | (with_reducible exact World.grownBy.refl _ _) | (with_reducible refine gdrew ?_) | (with_reducible refine gr_set ?_)))
      · have h := HD.out.k.setL hj kl
        rw [HV.out.2.1.1, HV.out.2.1.2] at h
        exact h
    clear g0 g1 f0 f1 o0f o3f o4f
    rintro we hn
    have HE := Lib.hid hn
    clear hn
    go_wp2_with fail
    have s0f := HE.out.s.2 0 _ rfl
    have s1f := HE.out.s.2 1 _ rfl
    have s2f := HE.out.s.2 2 _ rfl
    have o3f := HE.out.o.2 3 _ rfl
    have o4f := HE.out.o.2 4 _ rfl
    have l0f := HE.out.l.2 0 _ rfl
    have l1f := HE.out.l.2 1 _ rfl
    have sl := HE.out.s.1
    have ol := HE.out.o.1
    have cl := HE.out.c.1
    have ll := HE.out.l.1
    refine wp_region_noPanic ?_
    refine wp_region_held_drew (S := fun W => Below we.heap.size we W) (by kernel_rfl) ((Below.refl _ we).drew) (fun hHeld => ?_)
    refine wpAnyH_take (i := 0) (oi := ⟨some 72, _, _, _, _, _⟩) (v := .pointer (some ⟨p, 0, none⟩)) rfl (by kernel_rfl) (by kernel_rfl) (by kernel_rfl) (fun _ _ _ h => h) (Or.inl ⟨by rfl, fun W hSW => by go_simp⟩) hHeld ?_
    simp only [Act.put, List.setIfInBounds_toArray, List.set_cons_zero, List.set_cons_succ]
    refine wpAnyH_take (i := 1) (oi := ⟨some 73, _, _, _, _, _⟩) (v := .agg #[.int .i64 x, .int .i64 y, .int .i64 z]) rfl (by kernel_rfl) (by kernel_rfl) (by kernel_rfl) (fun _ _ _ h => h) (Or.inl ⟨by rfl, fun W hSW => by have a0 := (hSW.cell (p := ⟨w.heap.size, 0, none⟩) sl).trans s0f; have a1 := (hSW.cell (p := ⟨w.heap.size, 1, none⟩) sl).trans s1f; have a2 := (hSW.cell (p := ⟨w.heap.size, 2, none⟩) sl).trans s2f; go_simp⟩) hHeld ?_
    simp only [Act.put, List.setIfInBounds_toArray, List.set_cons_zero, List.set_cons_succ]
    refine wpAnyH_take (i := 3) (oi := ⟨some 75, _, _, _, _, _⟩) (v := .pointer (some ⟨w.heap.size + 1, 3, none⟩)) rfl (by kernel_rfl) (by kernel_rfl) (by kernel_rfl) (fun _ _ _ h => h) (Or.inl ⟨by rfl, fun W hSW => by go_simp⟩) hHeld ?_
    simp only [Act.put, List.setIfInBounds_toArray, List.set_cons_zero, List.set_cons_succ]
    refine wpAnyH_take (i := 4) (oi := ⟨some 76, _, _, _, _, _⟩) (v := .agg #[.int .u8 k3, .int .u8 k4]) rfl (by kernel_rfl) (by kernel_rfl) (by kernel_rfl) (fun _ _ _ h => h) (Or.inl ⟨by rfl, fun W hSW => by have a0 := (hSW.cell (p := ⟨w.heap.size + 1, 3, none⟩) ol).trans o3f; have a1 := (hSW.cell (p := ⟨w.heap.size + 1, 4, none⟩) ol).trans o4f; go_simp⟩) hHeld ?_
    simp only [Act.put, List.setIfInBounds_toArray, List.set_cons_zero, List.set_cons_succ]
    refine wpAnyH_take (i := 5) (oi := ⟨some 77, _, _, _, _, _⟩) (v := .agg #[.int .u8 X3, .int .u8 X4]) rfl (by kernel_rfl) (by kernel_rfl) (by kernel_rfl) (fun _ _ _ h => h) (Or.inl ⟨by rfl, fun W hSW => by have a0 := (hSW.cell (p := ⟨wn.heap.size + 1, 0, none⟩) ll).trans l0f; have a1 := (hSW.cell (p := ⟨wn.heap.size + 1, 1, none⟩) ll).trans l1f; go_simp⟩) hHeld ?_
    simp only [Act.put, List.setIfInBounds_toArray, List.set_cons_zero, List.set_cons_succ]
    refine wpAnyH_take (i := 6) (oi := ⟨some 78, _, _, _, _, _⟩) (v := .bool rl) rfl (by kernel_rfl) (by kernel_rfl) (by kernel_rfl) (fun _ _ _ h => h) (Or.inl ⟨by rfl, fun W hSW => by exact yield_eq2 (c := kl) (d := l0) rfl (by rw [HV.out.2.1.1, HV.out.2.1.2]; rfl) (by rw [HV.out.2.2.2.1, HV.out.2.2.2.2]; rfl) HRL.out⟩) hHeld ?_
    simp only [Act.put, List.setIfInBounds_toArray, List.set_cons_zero, List.set_cons_succ]
    refine wpAnyH_ready (rs := [2]) (by kernel_rfl) (by simp) ?_
    refine AllReadyH.cons (o := ⟨some 74, _, _, _, _, _⟩) rfl (fun K hK => ?_) AllReadyH.nil
    go_simp
    refine (is_c (HT.out.below (below_t HE.out.b hHeld)) (ckk_of (HE.out.k.below hHeld) HTC.out) H.out I2.out).mono ?_
    rintro e w3 ⟨rfl, hb3⟩
    go_wp2_with fail
    refine hK.out _ _ (below_t hHeld hb3) (fun hHeld => ?_)
    clear hK K hb3
    refine wpAnyH_take (i := 7) (oi := ⟨some 79, _, _, _, _, _⟩) (v := .bool false) rfl (by kernel_rfl) (by kernel_rfl) (by kernel_rfl) (fun _ _ _ h => h) (Or.inl ⟨by rfl, fun W hSW => by cases rl <;> go_simp⟩) hHeld ?_
    simp only [Act.put, List.setIfInBounds_toArray, List.set_cons_zero, List.set_cons_succ]
    refine wpAnyH_done (by kernel_rfl) ?_ _
    refine NoPanic.normal ?_
    refine HeldP.then_named (fun W => Oth w W w.heap.size (wn.heap.size) (wn.heap.size + 1) p [.int .i64 x, .int .i64 y, .int .i64 z] [.int .i64 (j : Int), .int .u8 k1, .int .u8 k2, .int .u8 k3, .int .u8 k4, .int .i64 d] [.int .u8 X1, .int .u8 X2] [.int .u8 X3, .int .u8 X4] (landC y) ((landL y).set j kl) (.slice TA 0 tc)) (HE.out.below hHeld) ?_
    clear s0f s1f s2f o3f o4f l0f l1f sl ol cl ll hHeld
    rintro wf hn
    have HF := Lib.hid hn
    clear hn
    go_wp2_with fail
    have o0f := HF.out.o.2 0 _ rfl
    have l0f := HF.out.l.2 0 _ rfl
    have l1f := HF.out.l.2 1 _ rfl
    obtain ⟨g0, g1⟩ := G4.out _ _ _ _ HF.out.k
    have f0 := HF.out.k.frozen (8192 + j * 2)
    have f1 := HF.out.k.frozen (8192 + j * 2 + 1)
    go_region
    refine HeldP.then_named (fun W => Oth w W w.heap.size (wn.heap.size) (wn.heap.size + 1) p [.int .i64 x, .int .i64 y, .int .i64 z] [.int .i64 (j : Int), .int .u8 k1, .int .u8 k2, .int .u8 k3, .int .u8 k4, .int .i64 d] [.int .u8 X1, .int .u8 X2] [.int .u8 X3, .int .u8 X4] (landC y) (landL y) (.slice TA 0 tc)) ?_ ?_
    · refine Oth.grown HF.out ?_ ?_ hpw hn0 hn1 h7p h8p
      · (repeat' (first | (with_reducible exact World.grownBy.refl _ _) | (with_reducible refine gdrew ?_) | (with_reducible refine gr_set ?_)))
      · have h := HF.out.k.setL hj l0
        rw [HV.out.2.2.2.1, HV.out.2.2.2.2, set_back HLJ.out] at h
        exact h
    clear g0 g1 f0 f1 o0f l0f l1f
    rintro wg hn
    have HG := Lib.hid hn
    clear hn
    have o0f := HG.out.o.2 0 _ rfl
    have o5f := HG.out.o.2 5 _ rfl
    have s0f := HG.out.s.2 0 _ rfl
    have s1f := HG.out.s.2 1 _ rfl
    have s2f := HG.out.s.2 2 _ rfl
    have f0 := HG.out.k.frozen 16384
    have q0 := HG.out.k.t
    have gl := HG.out.k.lt
    have gs : w.heap.size < wg.heap.size := HG.out.s.1
    have gn : w.heap.size ≠ wg.heap.size := by omega
    have go_ : w.heap.size + 1 < wg.heap.size := HG.out.o.1
    have gp : p ≠ wg.heap.size := by omega
    go_wp2_with fail
    go_at_call 21
    refine calls_namedW (fun W => (Oth w W w.heap.size (wn.heap.size) (wn.heap.size + 1) p [.int .i64 x, .int .i64 y, .int .i64 z] [.int .i64 (j : Int), .int .u8 k1, .int .u8 k2, .int .u8 k3, .int .u8 k4, .int .i64 d] [.int .u8 X1, .int .u8 X2] [.int .u8 X3, .int .u8 X4] (landC y) (landL y) (.slice (some ⟨wg.heap.size, 0, none⟩) 1 1)) ∧ wg.heap.size < W.heap.size ∧ W.cell? ⟨wg.heap.size, 0, none⟩ = some (.int .i64 (j : Int)) ∧ W.cell? ⟨wg.heap.size, 1, none⟩ = some (.int .i64 d)) ⟨(HG.out.grown (grown_set _ _ _ _) (HG.out.k.setT _) hpw hn0 hn1 h7p h8p).below (Below.alloc (Below.refl _ _) (Nat.le_refl _) _), by simp [World.setCell], by (repeat' (first | (with_reducible assumption) | (with_reducible refine HeldP.c_drew ?_) | (with_reducible refine HeldP.c_drewN ?_) | (with_reducible refine HeldP.c_same (by omega) ?_) | (with_reducible refine HeldP.c_other ?_ ?_) | (with_reducible refine HeldP.c_new (by first | omega | (simp; done) | (simp; omega)) ?_) | (with_reducible refine HeldP.c_alloc ?_ ?_) | (with_reducible refine HeldP.e_drew ?_) | (with_reducible refine HeldP.e_drewN ?_) | (with_reducible refine HeldP.e_set ?_) | (with_reducible refine HeldP.e_new (by first | omega | (simp; done) | (simp; omega)) ⟨_, rfl⟩) | (with_reducible refine HeldP.e_alloc ?_ ?_) | (with_reducible refine HeldP.f_drew ?_) | (with_reducible refine HeldP.f_drewN ?_) | (with_reducible refine HeldP.f_set ?_) | (with_reducible refine HeldP.f_new (by first | omega | (simp; done) | (simp; omega))) | (with_reducible refine HeldP.f_alloc ?_ ?_) | (with_reducible refine HeldP.s_drew ?_) | (with_reducible refine HeldP.s_drewN ?_) | (with_reducible refine HeldP.s_set ?_) | (with_reducible refine HeldP.s_new (by first | omega | (simp; done) | (simp; omega))) | (with_reducible refine HeldP.s_alloc ?_) | (with_reducible exact ⟨_, by assumption⟩) | omega | (intro e; simp at e; done) | (intro e; simp at e; omega) | (exact rfl) | (simp; done) | (simp; omega))), by (repeat' (first | (with_reducible assumption) | (with_reducible refine HeldP.c_drew ?_) | (with_reducible refine HeldP.c_drewN ?_) | (with_reducible refine HeldP.c_same (by omega) ?_) | (with_reducible refine HeldP.c_other ?_ ?_) | (with_reducible refine HeldP.c_new (by first | omega | (simp; done) | (simp; omega)) ?_) | (with_reducible refine HeldP.c_alloc ?_ ?_) | (with_reducible refine HeldP.e_drew ?_) | (with_reducible refine HeldP.e_drewN ?_) | (with_reducible refine HeldP.e_set ?_) | (with_reducible refine HeldP.e_new (by first | omega | (simp; done) | (simp; omega)) ⟨_, rfl⟩) | (with_reducible refine HeldP.e_alloc ?_ ?_) | (with_reducible refine HeldP.f_drew ?_) | (with_reducible refine HeldP.f_drewN ?_) | (with_reducible refine HeldP.f_set ?_) | (with_reducible refine HeldP.f_new (by first | omega | (simp; done) | (simp; omega))) | (with_reducible refine HeldP.f_alloc ?_ ?_) | (with_reducible refine HeldP.s_drew ?_) | (with_reducible refine HeldP.s_drewN ?_) | (with_reducible refine HeldP.s_set ?_) | (with_reducible refine HeldP.s_new (by first | omega | (simp; done) | (simp; omega))) | (with_reducible refine HeldP.s_alloc ?_) | (with_reducible exact ⟨_, by assumption⟩) | omega | (intro e; simp at e; done) | (intro e; simp at e; omega) | (exact rfl) | (simp; done) | (simp; omega)))⟩ ?_
    clear o0f o5f s0f s1f s2f f0 q0 gs gn go_ gp
    rintro wh ⟨hn, hgl, t0, t1⟩
    have HH := Lib.hid hn
    clear hn
    have hkk : ChkK wh p ⟨landC y, landL y, [((j : Int), d)]⟩ := ⟨_, 1, HH.out.k, one_pair hgl t0 t1, by simp, by simp [maxLen], by simp⟩
    refine (is_c (HT.out.below HH.out.b) hkk H.out I3.out).mono ?_
    rintro e wi ⟨rfl, hb⟩
    have HI := Lib.hid (HH.out.below hb)
    clear hb hkk hgl t0 t1 gl
    have s0f := HI.out.s.2 0 _ rfl
    have s1f := HI.out.s.2 1 _ rfl
    have s2f := HI.out.s.2 2 _ rfl
    have f0 := HI.out.k.frozen 16384
    have q0 := HI.out.k.t
    go_wp2_with fail
    go_at_call 21
    refine calls_namedW (fun W => Oth w W w.heap.size (wn.heap.size) (wn.heap.size + 1) p [.int .i64 x, .int .i64 y, .int .i64 z] [.int .i64 (j : Int), .int .u8 k1, .int .u8 k2, .int .u8 k3, .int .u8 k4, .int .i64 d] [.int .u8 X1, .int .u8 X2] [.int .u8 X3, .int .u8 X4] (landC y) (landL y) (.slice none 0 0)) (HI.out.grown (grown_set _ _ _ _) (HI.out.k.setT _) hpw hn0 hn1 h7p h8p) ?_
    clear s0f s1f s2f f0 q0
    rintro wj hn
    have HJ := Lib.hid hn
    clear hn
    refine (is_c (HT.out.below HJ.out.b) (ckk_of HJ.out.k (by simp [maxLen])) H.out I4.out).mono ?_
    rintro e wk ⟨rfl, hb⟩
    have HB9 := Lib.hid (below_t HJ.out.b hb)
    clear hb
    go_wp2_with (go_at_call 14; refine (works_c (HT.out.below HB9.out)).mono ?_; rintro e wl ⟨rfl, hb⟩)
    go_ret
    exact ⟨rfl, below_t HB9.out hb⟩
  · go_simp
    refine hK.out _ _ (Below.alloc hHeld (by first | omega | (simp; done) | (simp; omega)) _) (fun hHeld => ?_)
    clear hK K
    refine wpAnyH_ready (rs := [14]) (by kernel_rfl) (by simp) ?_
    refine AllReadyH.cons (o := ⟨some 7, _, _, _, _, _⟩) rfl (fun K hK => ?_) AllReadyH.nil
    go_simp
    refine hK.out _ _ (Below.alloc hHeld (by first | omega | (simp; done) | (simp; omega)) _) (fun hHeld => ?_)
    clear hK K
    refine wpAnyH_ready (rs := [16]) (by kernel_rfl) (by simp) ?_
    refine AllReadyH.cons (o := ⟨none, _, _, _, _, _⟩) rfl (fun K hK => ?_) AllReadyH.nil
    go_simp
    refine hK.out _ _ (by (repeat' (first | (with_reducible exact Below.refl _ _) | (with_reducible refine Below.setCell ?_ (by (first | omega | (simp; done) | (simp; omega))) _) | (with_reducible refine Below.alloc ?_ (by (first | omega | (simp; done) | (simp; omega))) _) | (with_reducible refine Below.drew ?_) | (with_reducible refine below_drewN ?_ _) | (with_reducible refine Below.trans ?_ (Below.mono hHeld (by (first | omega | (simp; done) | (simp; omega)))))))) (fun hHeld => ?_)
    clear hK K
    refine wpAnyH_ready (rs := [17]) (by kernel_rfl) (by simp) ?_
    refine AllReadyH.cons (o := ⟨none, _, _, _, _, _⟩) rfl (fun K hK => ?_) AllReadyH.nil
    go_simp
    refine hK.out _ _ (by (repeat' (first | (with_reducible exact Below.refl _ _) | (with_reducible refine Below.setCell ?_ (by (first | omega | (simp; done) | (simp; omega))) _) | (with_reducible refine Below.alloc ?_ (by (first | omega | (simp; done) | (simp; omega))) _) | (with_reducible refine Below.drew ?_) | (with_reducible refine below_drewN ?_ _) | (with_reducible refine Below.trans ?_ (Below.mono hHeld (by (first | omega | (simp; done) | (simp; omega)))))))) (fun hHeld => ?_)
    clear hK K
    refine wpAnyH_done (by kernel_rfl) ?_ _
    refine NoPanic.normal ?_
    refine HeldP.then_named (fun W => Oth w W w.heap.size (wn.heap.size + 1) (wn.heap.size) p [.int .i64 x, .int .i64 y, .int .i64 z] [.int .i64 (j : Int), .int .u8 k1, .int .u8 k2, .int .u8 k3, .int .u8 k4, .int .i64 d] [.int .u8 X1, .int .u8 X2] [.int .u8 X3, .int .u8 X4] (landC y) (landL y) (.slice TA 0 tc)) ⟨HSn.out.below hHeld, HOn.out.below hHeld, Box.of2 (by (repeat' (first | (with_reducible assumption) | (with_reducible refine HeldP.c_drew ?_) | (with_reducible refine HeldP.c_drewN ?_) | (with_reducible refine HeldP.c_same (by omega) ?_) | (with_reducible refine HeldP.c_other ?_ ?_) | (with_reducible refine HeldP.c_new (by first | omega | (simp; done) | (simp; omega)) ?_) | (with_reducible refine HeldP.c_alloc ?_ ?_) | (with_reducible refine HeldP.e_drew ?_) | (with_reducible refine HeldP.e_drewN ?_) | (with_reducible refine HeldP.e_set ?_) | (with_reducible refine HeldP.e_new (by first | omega | (simp; done) | (simp; omega)) ⟨_, rfl⟩) | (with_reducible refine HeldP.e_alloc ?_ ?_) | (with_reducible refine HeldP.f_drew ?_) | (with_reducible refine HeldP.f_drewN ?_) | (with_reducible refine HeldP.f_set ?_) | (with_reducible refine HeldP.f_new (by first | omega | (simp; done) | (simp; omega))) | (with_reducible refine HeldP.f_alloc ?_ ?_) | (with_reducible refine HeldP.s_drew ?_) | (with_reducible refine HeldP.s_drewN ?_) | (with_reducible refine HeldP.s_set ?_) | (with_reducible refine HeldP.s_new (by first | omega | (simp; done) | (simp; omega))) | (with_reducible refine HeldP.s_alloc ?_) | (with_reducible exact ⟨_, by assumption⟩) | omega | (intro e; simp at e; done) | (intro e; simp at e; omega) | (exact rfl) | (simp; done) | (simp; omega)))) (by (repeat' (first | (with_reducible assumption) | (with_reducible refine HeldP.c_drew ?_) | (with_reducible refine HeldP.c_drewN ?_) | (with_reducible refine HeldP.c_same (by omega) ?_) | (with_reducible refine HeldP.c_other ?_ ?_) | (with_reducible refine HeldP.c_new (by first | omega | (simp; done) | (simp; omega)) ?_) | (with_reducible refine HeldP.c_alloc ?_ ?_) | (with_reducible refine HeldP.e_drew ?_) | (with_reducible refine HeldP.e_drewN ?_) | (with_reducible refine HeldP.e_set ?_) | (with_reducible refine HeldP.e_new (by first | omega | (simp; done) | (simp; omega)) ⟨_, rfl⟩) | (with_reducible refine HeldP.e_alloc ?_ ?_) | (with_reducible refine HeldP.f_drew ?_) | (with_reducible refine HeldP.f_drewN ?_) | (with_reducible refine HeldP.f_set ?_) | (with_reducible refine HeldP.f_new (by first | omega | (simp; done) | (simp; omega))) | (with_reducible refine HeldP.f_alloc ?_ ?_) | (with_reducible refine HeldP.s_drew ?_) | (with_reducible refine HeldP.s_drewN ?_) | (with_reducible refine HeldP.s_set ?_) | (with_reducible refine HeldP.s_new (by first | omega | (simp; done) | (simp; omega))) | (with_reducible refine HeldP.s_alloc ?_) | (with_reducible exact ⟨_, by assumption⟩) | omega | (intro e; simp at e; done) | (intro e; simp at e; omega) | (exact rfl) | (simp; done) | (simp; omega)))) (by (repeat' (first | (with_reducible assumption) | (with_reducible refine HeldP.c_drew ?_) | (with_reducible refine HeldP.c_drewN ?_) | (with_reducible refine HeldP.c_same (by omega) ?_) | (with_reducible refine HeldP.c_other ?_ ?_) | (with_reducible refine HeldP.c_new (by first | omega | (simp; done) | (simp; omega)) ?_) | (with_reducible refine HeldP.c_alloc ?_ ?_) | (with_reducible refine HeldP.e_drew ?_) | (with_reducible refine HeldP.e_drewN ?_) | (with_reducible refine HeldP.e_set ?_) | (with_reducible refine HeldP.e_new (by first | omega | (simp; done) | (simp; omega)) ⟨_, rfl⟩) | (with_reducible refine HeldP.e_alloc ?_ ?_) | (with_reducible refine HeldP.f_drew ?_) | (with_reducible refine HeldP.f_drewN ?_) | (with_reducible refine HeldP.f_set ?_) | (with_reducible refine HeldP.f_new (by first | omega | (simp; done) | (simp; omega))) | (with_reducible refine HeldP.f_alloc ?_ ?_) | (with_reducible refine HeldP.s_drew ?_) | (with_reducible refine HeldP.s_drewN ?_) | (with_reducible refine HeldP.s_set ?_) | (with_reducible refine HeldP.s_new (by first | omega | (simp; done) | (simp; omega))) | (with_reducible refine HeldP.s_alloc ?_) | (with_reducible exact ⟨_, by assumption⟩) | omega | (intro e; simp at e; done) | (intro e; simp at e; omega) | (exact rfl) | (simp; done) | (simp; omega)))), Box.of2 (by (repeat' (first | (with_reducible assumption) | (with_reducible refine HeldP.c_drew ?_) | (with_reducible refine HeldP.c_drewN ?_) | (with_reducible refine HeldP.c_same (by omega) ?_) | (with_reducible refine HeldP.c_other ?_ ?_) | (with_reducible refine HeldP.c_new (by first | omega | (simp; done) | (simp; omega)) ?_) | (with_reducible refine HeldP.c_alloc ?_ ?_) | (with_reducible refine HeldP.e_drew ?_) | (with_reducible refine HeldP.e_drewN ?_) | (with_reducible refine HeldP.e_set ?_) | (with_reducible refine HeldP.e_new (by first | omega | (simp; done) | (simp; omega)) ⟨_, rfl⟩) | (with_reducible refine HeldP.e_alloc ?_ ?_) | (with_reducible refine HeldP.f_drew ?_) | (with_reducible refine HeldP.f_drewN ?_) | (with_reducible refine HeldP.f_set ?_) | (with_reducible refine HeldP.f_new (by first | omega | (simp; done) | (simp; omega))) | (with_reducible refine HeldP.f_alloc ?_ ?_) | (with_reducible refine HeldP.s_drew ?_) | (with_reducible refine HeldP.s_drewN ?_) | (with_reducible refine HeldP.s_set ?_) | (with_reducible refine HeldP.s_new (by first | omega | (simp; done) | (simp; omega))) | (with_reducible refine HeldP.s_alloc ?_) | (with_reducible exact ⟨_, by assumption⟩) | omega | (intro e; simp at e; done) | (intro e; simp at e; omega) | (exact rfl) | (simp; done) | (simp; omega)))) (by (repeat' (first | (with_reducible assumption) | (with_reducible refine HeldP.c_drew ?_) | (with_reducible refine HeldP.c_drewN ?_) | (with_reducible refine HeldP.c_same (by omega) ?_) | (with_reducible refine HeldP.c_other ?_ ?_) | (with_reducible refine HeldP.c_new (by first | omega | (simp; done) | (simp; omega)) ?_) | (with_reducible refine HeldP.c_alloc ?_ ?_) | (with_reducible refine HeldP.e_drew ?_) | (with_reducible refine HeldP.e_drewN ?_) | (with_reducible refine HeldP.e_set ?_) | (with_reducible refine HeldP.e_new (by first | omega | (simp; done) | (simp; omega)) ⟨_, rfl⟩) | (with_reducible refine HeldP.e_alloc ?_ ?_) | (with_reducible refine HeldP.f_drew ?_) | (with_reducible refine HeldP.f_drewN ?_) | (with_reducible refine HeldP.f_set ?_) | (with_reducible refine HeldP.f_new (by first | omega | (simp; done) | (simp; omega))) | (with_reducible refine HeldP.f_alloc ?_ ?_) | (with_reducible refine HeldP.s_drew ?_) | (with_reducible refine HeldP.s_drewN ?_) | (with_reducible refine HeldP.s_set ?_) | (with_reducible refine HeldP.s_new (by first | omega | (simp; done) | (simp; omega))) | (with_reducible refine HeldP.s_alloc ?_) | (with_reducible exact ⟨_, by assumption⟩) | omega | (intro e; simp at e; done) | (intro e; simp at e; omega) | (exact rfl) | (simp; done) | (simp; omega)))) (by (repeat' (first | (with_reducible assumption) | (with_reducible refine HeldP.c_drew ?_) | (with_reducible refine HeldP.c_drewN ?_) | (with_reducible refine HeldP.c_same (by omega) ?_) | (with_reducible refine HeldP.c_other ?_ ?_) | (with_reducible refine HeldP.c_new (by first | omega | (simp; done) | (simp; omega)) ?_) | (with_reducible refine HeldP.c_alloc ?_ ?_) | (with_reducible refine HeldP.e_drew ?_) | (with_reducible refine HeldP.e_drewN ?_) | (with_reducible refine HeldP.e_set ?_) | (with_reducible refine HeldP.e_new (by first | omega | (simp; done) | (simp; omega)) ⟨_, rfl⟩) | (with_reducible refine HeldP.e_alloc ?_ ?_) | (with_reducible refine HeldP.f_drew ?_) | (with_reducible refine HeldP.f_drewN ?_) | (with_reducible refine HeldP.f_set ?_) | (with_reducible refine HeldP.f_new (by first | omega | (simp; done) | (simp; omega))) | (with_reducible refine HeldP.f_alloc ?_ ?_) | (with_reducible refine HeldP.s_drew ?_) | (with_reducible refine HeldP.s_drewN ?_) | (with_reducible refine HeldP.s_set ?_) | (with_reducible refine HeldP.s_new (by first | omega | (simp; done) | (simp; omega))) | (with_reducible refine HeldP.s_alloc ?_) | (with_reducible exact ⟨_, by assumption⟩) | omega | (intro e; simp at e; done) | (intro e; simp at e; omega) | (exact rfl) | (simp; done) | (simp; omega)))), HKn.out.below hHeld, below_t HBn.out hHeld⟩ ?_
    clear o0 kl_ p0 p1 p2 p3 hHeld
    rintro wa ha
    have HA := Lib.hid ha
    have h7p : wn.heap.size + 1 ≠ p := by omega
    have h8p : wn.heap.size ≠ p := by omega
    clear ha
    go_wp2_with fail
    have o0f := HA.out.o.2 0 _ rfl
    have o1f := HA.out.o.2 1 _ rfl
    have o2f := HA.out.o.2 2 _ rfl
    obtain ⟨g0, g1⟩ := G1.out _ _ _ _ HA.out.k
    have f0 := HA.out.k.frozen (j * 2)
    have f1 := HA.out.k.frozen (j * 2 + 1)
    go_region
    refine HeldP.then_named (fun W => Oth w W w.heap.size (wn.heap.size + 1) (wn.heap.size) p [.int .i64 x, .int .i64 y, .int .i64 z] [.int .i64 (j : Int), .int .u8 k1, .int .u8 k2, .int .u8 k3, .int .u8 k4, .int .i64 d] [.int .u8 X1, .int .u8 X2] [.int .u8 X3, .int .u8 X4] ((landC y).set j kc) (landL y) (.slice TA 0 tc)) ?_ ?_
    · refine Oth.grown HA.out ?_ ?_ hpw hn0 hn1 h7p h8p
      · (repeat' (first | (with_reducible exact World.grownBy.refl _ _) | (with_reducible refine gdrew ?_) | (with_reducible refine gr_set ?_)))
      · have h := HA.out.k.setC hj kc
        rw [HV.out.1.1, HV.out.1.2] at h
        exact h
    clear g0 g1 f0 f1 o0f o1f o2f
    rintro wb hn
    have HB := Lib.hid hn
    clear hn
    go_wp2_with fail
    have s0f := HB.out.s.2 0 _ rfl
    have s1f := HB.out.s.2 1 _ rfl
    have s2f := HB.out.s.2 2 _ rfl
    have o1f := HB.out.o.2 1 _ rfl
    have o2f := HB.out.o.2 2 _ rfl
    have c0f := HB.out.c.2 0 _ rfl
    have c1f := HB.out.c.2 1 _ rfl
    have sl := HB.out.s.1
    have ol := HB.out.o.1
    have cl := HB.out.c.1
    have ll := HB.out.l.1
    refine wp_region_noPanic ?_
    refine wp_region_held_drew (S := fun W => Below wb.heap.size wb W) (by kernel_rfl) ((Below.refl _ wb).drew) (fun hHeld => ?_)
    refine wpAnyH_take (i := 0) (oi := ⟨some 49, _, _, _, _, _⟩) (v := .pointer (some ⟨p, 0, none⟩)) rfl (by kernel_rfl) (by kernel_rfl) (by kernel_rfl) (fun _ _ _ h => h) (Or.inl ⟨by rfl, fun W hSW => by go_simp⟩) hHeld ?_
    simp only [Act.put, List.setIfInBounds_toArray, List.set_cons_zero, List.set_cons_succ]
    refine wpAnyH_take (i := 1) (oi := ⟨some 50, _, _, _, _, _⟩) (v := .agg #[.int .i64 x, .int .i64 y, .int .i64 z]) rfl (by kernel_rfl) (by kernel_rfl) (by kernel_rfl) (fun _ _ _ h => h) (Or.inl ⟨by rfl, fun W hSW => by have a0 := (hSW.cell (p := ⟨w.heap.size, 0, none⟩) sl).trans s0f; have a1 := (hSW.cell (p := ⟨w.heap.size, 1, none⟩) sl).trans s1f; have a2 := (hSW.cell (p := ⟨w.heap.size, 2, none⟩) sl).trans s2f; go_simp⟩) hHeld ?_
    simp only [Act.put, List.setIfInBounds_toArray, List.set_cons_zero, List.set_cons_succ]
    refine wpAnyH_take (i := 3) (oi := ⟨some 52, _, _, _, _, _⟩) (v := .pointer (some ⟨w.heap.size + 1, 1, none⟩)) rfl (by kernel_rfl) (by kernel_rfl) (by kernel_rfl) (fun _ _ _ h => h) (Or.inl ⟨by rfl, fun W hSW => by go_simp⟩) hHeld ?_
    simp only [Act.put, List.setIfInBounds_toArray, List.set_cons_zero, List.set_cons_succ]
    refine wpAnyH_take (i := 4) (oi := ⟨some 53, _, _, _, _, _⟩) (v := .agg #[.int .u8 k1, .int .u8 k2]) rfl (by kernel_rfl) (by kernel_rfl) (by kernel_rfl) (fun _ _ _ h => h) (Or.inl ⟨by rfl, fun W hSW => by have a0 := (hSW.cell (p := ⟨w.heap.size + 1, 1, none⟩) ol).trans o1f; have a1 := (hSW.cell (p := ⟨w.heap.size + 1, 2, none⟩) ol).trans o2f; go_simp⟩) hHeld ?_
    simp only [Act.put, List.setIfInBounds_toArray, List.set_cons_zero, List.set_cons_succ]
    refine wpAnyH_take (i := 5) (oi := ⟨some 54, _, _, _, _, _⟩) (v := .agg #[.int .u8 X1, .int .u8 X2]) rfl (by kernel_rfl) (by kernel_rfl) (by kernel_rfl) (fun _ _ _ h => h) (Or.inl ⟨by rfl, fun W hSW => by have a0 := (hSW.cell (p := ⟨wn.heap.size + 1, 0, none⟩) cl).trans c0f; have a1 := (hSW.cell (p := ⟨wn.heap.size + 1, 1, none⟩) cl).trans c1f; go_simp⟩) hHeld ?_
    simp only [Act.put, List.setIfInBounds_toArray, List.set_cons_zero, List.set_cons_succ]
    refine wpAnyH_take (i := 6) (oi := ⟨some 55, _, _, _, _, _⟩) (v := .bool rc) rfl (by kernel_rfl) (by kernel_rfl) (by kernel_rfl) (fun _ _ _ h => h) (Or.inl ⟨by rfl, fun W hSW => by exact yield_eq1 (c := kc) (d := c0) rfl (by rw [HV.out.1.1, HV.out.1.2]; rfl) (by rw [HV.out.2.2.1.1, HV.out.2.2.1.2]; rfl) HRC.out⟩) hHeld ?_
    simp only [Act.put, List.setIfInBounds_toArray, List.set_cons_zero, List.set_cons_succ]
    refine wpAnyH_ready (rs := [2]) (by kernel_rfl) (by simp) ?_
    refine AllReadyH.cons (o := ⟨some 51, _, _, _, _, _⟩) rfl (fun K hK => ?_) AllReadyH.nil
    go_simp
    refine (is_c (HT.out.below (below_t HB.out.b hHeld)) (ckk_of (HB.out.k.below hHeld) HTC.out) H.out I1.out).mono ?_
    rintro e w2 ⟨rfl, hb2⟩
    go_wp2_with fail
    refine hK.out _ _ (below_t hHeld hb2) (fun hHeld => ?_)
    clear hK K hb2
    refine wpAnyH_take (i := 7) (oi := ⟨some 56, _, _, _, _, _⟩) (v := .bool false) rfl (by kernel_rfl) (by kernel_rfl) (by kernel_rfl) (fun _ _ _ h => h) (Or.inl ⟨by rfl, fun W hSW => by cases rc <;> go_simp⟩) hHeld ?_
    simp only [Act.put, List.setIfInBounds_toArray, List.set_cons_zero, List.set_cons_succ]
    refine wpAnyH_done (by kernel_rfl) ?_ _
    refine NoPanic.normal ?_
    refine HeldP.then_named (fun W => Oth w W w.heap.size (wn.heap.size + 1) (wn.heap.size) p [.int .i64 x, .int .i64 y, .int .i64 z] [.int .i64 (j : Int), .int .u8 k1, .int .u8 k2, .int .u8 k3, .int .u8 k4, .int .i64 d] [.int .u8 X1, .int .u8 X2] [.int .u8 X3, .int .u8 X4] ((landC y).set j kc) (landL y) (.slice TA 0 tc)) (HB.out.below hHeld) ?_
    clear s0f s1f s2f o1f o2f c0f c1f sl ol cl ll hHeld
    rintro wc hn
    have HC := Lib.hid hn
    clear hn
    go_wp2_with fail
    have o0f := HC.out.o.2 0 _ rfl
    have c0f := HC.out.c.2 0 _ rfl
    have c1f := HC.out.c.2 1 _ rfl
    obtain ⟨g0, g1⟩ := G3.out _ _ _ _ HC.out.k
    have f0 := HC.out.k.frozen (j * 2)
    have f1 := HC.out.k.frozen (j * 2 + 1)
    go_region
    refine HeldP.then_named (fun W => Oth w W w.heap.size (wn.heap.size + 1) (wn.heap.size) p [.int .i64 x, .int .i64 y, .int .i64 z] [.int .i64 (j : Int), .int .u8 k1, .int .u8 k2, .int .u8 k3, .int .u8 k4, .int .i64 d] [.int .u8 X1, .int .u8 X2] [.int .u8 X3, .int .u8 X4] (landC y) (landL y) (.slice TA 0 tc)) ?_ ?_
    · refine Oth.grown HC.out ?_ ?_ hpw hn0 hn1 h7p h8p
      · (repeat' (first | (with_reducible exact World.grownBy.refl _ _) | (with_reducible refine gdrew ?_) | (with_reducible refine gr_set ?_)))
      · have h := HC.out.k.setC hj c0
        rw [HV.out.2.2.1.1, HV.out.2.2.1.2, set_back HCJ.out] at h
        exact h
    clear g0 g1 f0 f1 o0f c0f c1f
    rintro wd hn
    have HD := Lib.hid hn
    clear hn
    go_wp2_with fail
    have o0f := HD.out.o.2 0 _ rfl
    have o3f := HD.out.o.2 3 _ rfl
    have o4f := HD.out.o.2 4 _ rfl
    obtain ⟨g0, g1⟩ := G2.out _ _ _ _ HD.out.k
    have f0 := HD.out.k.frozen (8192 + j * 2)
    have f1 := HD.out.k.frozen (8192 + j * 2 + 1)
    go_region
    refine HeldP.then_named (fun W => Oth w W w.heap.size (wn.heap.size + 1) (wn.heap.size) p [.int .i64 x, .int .i64 y, .int .i64 z] [.int .i64 (j : Int), .int .u8 k1, .int .u8 k2, .int .u8 k3, .int .u8 k4, .int .i64 d] [.int .u8 X1, .int .u8 X2] [.int .u8 X3, .int .u8 X4] (landC y) ((landL y).set j kl) (.slice TA 0 tc)) ?_ ?_
    · refine Oth.grown HD.out ?_ ?_ hpw hn0 hn1 h7p h8p
      · (repeat' (first | (with_reducible exact World.grownBy.refl _ _) | (with_reducible refine gdrew ?_) | (with_reducible refine gr_set ?_)))
      · have h := HD.out.k.setL hj kl
        rw [HV.out.2.1.1, HV.out.2.1.2] at h
        exact h
    clear g0 g1 f0 f1 o0f o3f o4f
    rintro we hn
    have HE := Lib.hid hn
    clear hn
    go_wp2_with fail
    have s0f := HE.out.s.2 0 _ rfl
    have s1f := HE.out.s.2 1 _ rfl
    have s2f := HE.out.s.2 2 _ rfl
    have o3f := HE.out.o.2 3 _ rfl
    have o4f := HE.out.o.2 4 _ rfl
    have l0f := HE.out.l.2 0 _ rfl
    have l1f := HE.out.l.2 1 _ rfl
    have sl := HE.out.s.1
    have ol := HE.out.o.1
    have cl := HE.out.c.1
    have ll := HE.out.l.1
    refine wp_region_noPanic ?_
    refine wp_region_held_drew (S := fun W => Below we.heap.size we W) (by kernel_rfl) ((Below.refl _ we).drew) (fun hHeld => ?_)
    refine wpAnyH_take (i := 0) (oi := ⟨some 72, _, _, _, _, _⟩) (v := .pointer (some ⟨p, 0, none⟩)) rfl (by kernel_rfl) (by kernel_rfl) (by kernel_rfl) (fun _ _ _ h => h) (Or.inl ⟨by rfl, fun W hSW => by go_simp⟩) hHeld ?_
    simp only [Act.put, List.setIfInBounds_toArray, List.set_cons_zero, List.set_cons_succ]
    refine wpAnyH_take (i := 1) (oi := ⟨some 73, _, _, _, _, _⟩) (v := .agg #[.int .i64 x, .int .i64 y, .int .i64 z]) rfl (by kernel_rfl) (by kernel_rfl) (by kernel_rfl) (fun _ _ _ h => h) (Or.inl ⟨by rfl, fun W hSW => by have a0 := (hSW.cell (p := ⟨w.heap.size, 0, none⟩) sl).trans s0f; have a1 := (hSW.cell (p := ⟨w.heap.size, 1, none⟩) sl).trans s1f; have a2 := (hSW.cell (p := ⟨w.heap.size, 2, none⟩) sl).trans s2f; go_simp⟩) hHeld ?_
    simp only [Act.put, List.setIfInBounds_toArray, List.set_cons_zero, List.set_cons_succ]
    refine wpAnyH_take (i := 3) (oi := ⟨some 75, _, _, _, _, _⟩) (v := .pointer (some ⟨w.heap.size + 1, 3, none⟩)) rfl (by kernel_rfl) (by kernel_rfl) (by kernel_rfl) (fun _ _ _ h => h) (Or.inl ⟨by rfl, fun W hSW => by go_simp⟩) hHeld ?_
    simp only [Act.put, List.setIfInBounds_toArray, List.set_cons_zero, List.set_cons_succ]
    refine wpAnyH_take (i := 4) (oi := ⟨some 76, _, _, _, _, _⟩) (v := .agg #[.int .u8 k3, .int .u8 k4]) rfl (by kernel_rfl) (by kernel_rfl) (by kernel_rfl) (fun _ _ _ h => h) (Or.inl ⟨by rfl, fun W hSW => by have a0 := (hSW.cell (p := ⟨w.heap.size + 1, 3, none⟩) ol).trans o3f; have a1 := (hSW.cell (p := ⟨w.heap.size + 1, 4, none⟩) ol).trans o4f; go_simp⟩) hHeld ?_
    simp only [Act.put, List.setIfInBounds_toArray, List.set_cons_zero, List.set_cons_succ]
    refine wpAnyH_take (i := 5) (oi := ⟨some 77, _, _, _, _, _⟩) (v := .agg #[.int .u8 X3, .int .u8 X4]) rfl (by kernel_rfl) (by kernel_rfl) (by kernel_rfl) (fun _ _ _ h => h) (Or.inl ⟨by rfl, fun W hSW => by have a0 := (hSW.cell (p := ⟨wn.heap.size, 0, none⟩) ll).trans l0f; have a1 := (hSW.cell (p := ⟨wn.heap.size, 1, none⟩) ll).trans l1f; go_simp⟩) hHeld ?_
    simp only [Act.put, List.setIfInBounds_toArray, List.set_cons_zero, List.set_cons_succ]
    refine wpAnyH_take (i := 6) (oi := ⟨some 78, _, _, _, _, _⟩) (v := .bool rl) rfl (by kernel_rfl) (by kernel_rfl) (by kernel_rfl) (fun _ _ _ h => h) (Or.inl ⟨by rfl, fun W hSW => by exact yield_eq2 (c := kl) (d := l0) rfl (by rw [HV.out.2.1.1, HV.out.2.1.2]; rfl) (by rw [HV.out.2.2.2.1, HV.out.2.2.2.2]; rfl) HRL.out⟩) hHeld ?_
    simp only [Act.put, List.setIfInBounds_toArray, List.set_cons_zero, List.set_cons_succ]
    refine wpAnyH_ready (rs := [2]) (by kernel_rfl) (by simp) ?_
    refine AllReadyH.cons (o := ⟨some 74, _, _, _, _, _⟩) rfl (fun K hK => ?_) AllReadyH.nil
    go_simp
    refine (is_c (HT.out.below (below_t HE.out.b hHeld)) (ckk_of (HE.out.k.below hHeld) HTC.out) H.out I2.out).mono ?_
    rintro e w3 ⟨rfl, hb3⟩
    go_wp2_with fail
    refine hK.out _ _ (below_t hHeld hb3) (fun hHeld => ?_)
    clear hK K hb3
    refine wpAnyH_take (i := 7) (oi := ⟨some 79, _, _, _, _, _⟩) (v := .bool false) rfl (by kernel_rfl) (by kernel_rfl) (by kernel_rfl) (fun _ _ _ h => h) (Or.inl ⟨by rfl, fun W hSW => by cases rl <;> go_simp⟩) hHeld ?_
    simp only [Act.put, List.setIfInBounds_toArray, List.set_cons_zero, List.set_cons_succ]
    refine wpAnyH_done (by kernel_rfl) ?_ _
    refine NoPanic.normal ?_
    refine HeldP.then_named (fun W => Oth w W w.heap.size (wn.heap.size + 1) (wn.heap.size) p [.int .i64 x, .int .i64 y, .int .i64 z] [.int .i64 (j : Int), .int .u8 k1, .int .u8 k2, .int .u8 k3, .int .u8 k4, .int .i64 d] [.int .u8 X1, .int .u8 X2] [.int .u8 X3, .int .u8 X4] (landC y) ((landL y).set j kl) (.slice TA 0 tc)) (HE.out.below hHeld) ?_
    clear s0f s1f s2f o3f o4f l0f l1f sl ol cl ll hHeld
    rintro wf hn
    have HF := Lib.hid hn
    clear hn
    go_wp2_with fail
    have o0f := HF.out.o.2 0 _ rfl
    have l0f := HF.out.l.2 0 _ rfl
    have l1f := HF.out.l.2 1 _ rfl
    obtain ⟨g0, g1⟩ := G4.out _ _ _ _ HF.out.k
    have f0 := HF.out.k.frozen (8192 + j * 2)
    have f1 := HF.out.k.frozen (8192 + j * 2 + 1)
    go_region
    refine HeldP.then_named (fun W => Oth w W w.heap.size (wn.heap.size + 1) (wn.heap.size) p [.int .i64 x, .int .i64 y, .int .i64 z] [.int .i64 (j : Int), .int .u8 k1, .int .u8 k2, .int .u8 k3, .int .u8 k4, .int .i64 d] [.int .u8 X1, .int .u8 X2] [.int .u8 X3, .int .u8 X4] (landC y) (landL y) (.slice TA 0 tc)) ?_ ?_
    · refine Oth.grown HF.out ?_ ?_ hpw hn0 hn1 h7p h8p
      · (repeat' (first | (with_reducible exact World.grownBy.refl _ _) | (with_reducible refine gdrew ?_) | (with_reducible refine gr_set ?_)))
      · have h := HF.out.k.setL hj l0
        rw [HV.out.2.2.2.1, HV.out.2.2.2.2, set_back HLJ.out] at h
        exact h
    clear g0 g1 f0 f1 o0f l0f l1f
    rintro wg hn
    have HG := Lib.hid hn
    clear hn
    have o0f := HG.out.o.2 0 _ rfl
    have o5f := HG.out.o.2 5 _ rfl
    have s0f := HG.out.s.2 0 _ rfl
    have s1f := HG.out.s.2 1 _ rfl
    have s2f := HG.out.s.2 2 _ rfl
    have f0 := HG.out.k.frozen 16384
    have q0 := HG.out.k.t
    have gl := HG.out.k.lt
    have gs : w.heap.size < wg.heap.size := HG.out.s.1
    have gn : w.heap.size ≠ wg.heap.size := by omega
    have go_ : w.heap.size + 1 < wg.heap.size := HG.out.o.1
    have gp : p ≠ wg.heap.size := by omega
    go_wp2_with fail
    go_at_call 21
    refine calls_namedW (fun W => (Oth w W w.heap.size (wn.heap.size + 1) (wn.heap.size) p [.int .i64 x, .int .i64 y, .int .i64 z] [.int .i64 (j : Int), .int .u8 k1, .int .u8 k2, .int .u8 k3, .int .u8 k4, .int .i64 d] [.int .u8 X1, .int .u8 X2] [.int .u8 X3, .int .u8 X4] (landC y) (landL y) (.slice (some ⟨wg.heap.size, 0, none⟩) 1 1)) ∧ wg.heap.size < W.heap.size ∧ W.cell? ⟨wg.heap.size, 0, none⟩ = some (.int .i64 (j : Int)) ∧ W.cell? ⟨wg.heap.size, 1, none⟩ = some (.int .i64 d)) ⟨(HG.out.grown (grown_set _ _ _ _) (HG.out.k.setT _) hpw hn0 hn1 h7p h8p).below (Below.alloc (Below.refl _ _) (Nat.le_refl _) _), by simp [World.setCell], by (repeat' (first | (with_reducible assumption) | (with_reducible refine HeldP.c_drew ?_) | (with_reducible refine HeldP.c_drewN ?_) | (with_reducible refine HeldP.c_same (by omega) ?_) | (with_reducible refine HeldP.c_other ?_ ?_) | (with_reducible refine HeldP.c_new (by first | omega | (simp; done) | (simp; omega)) ?_) | (with_reducible refine HeldP.c_alloc ?_ ?_) | (with_reducible refine HeldP.e_drew ?_) | (with_reducible refine HeldP.e_drewN ?_) | (with_reducible refine HeldP.e_set ?_) | (with_reducible refine HeldP.e_new (by first | omega | (simp; done) | (simp; omega)) ⟨_, rfl⟩) | (with_reducible refine HeldP.e_alloc ?_ ?_) | (with_reducible refine HeldP.f_drew ?_) | (with_reducible refine HeldP.f_drewN ?_) | (with_reducible refine HeldP.f_set ?_) | (with_reducible refine HeldP.f_new (by first | omega | (simp; done) | (simp; omega))) | (with_reducible refine HeldP.f_alloc ?_ ?_) | (with_reducible refine HeldP.s_drew ?_) | (with_reducible refine HeldP.s_drewN ?_) | (with_reducible refine HeldP.s_set ?_) | (with_reducible refine HeldP.s_new (by first | omega | (simp; done) | (simp; omega))) | (with_reducible refine HeldP.s_alloc ?_) | (with_reducible exact ⟨_, by assumption⟩) | omega | (intro e; simp at e; done) | (intro e; simp at e; omega) | (exact rfl) | (simp; done) | (simp; omega))), by (repeat' (first | (with_reducible assumption) | (with_reducible refine HeldP.c_drew ?_) | (with_reducible refine HeldP.c_drewN ?_) | (with_reducible refine HeldP.c_same (by omega) ?_) | (with_reducible refine HeldP.c_other ?_ ?_) | (with_reducible refine HeldP.c_new (by first | omega | (simp; done) | (simp; omega)) ?_) | (with_reducible refine HeldP.c_alloc ?_ ?_) | (with_reducible refine HeldP.e_drew ?_) | (with_reducible refine HeldP.e_drewN ?_) | (with_reducible refine HeldP.e_set ?_) | (with_reducible refine HeldP.e_new (by first | omega | (simp; done) | (simp; omega)) ⟨_, rfl⟩) | (with_reducible refine HeldP.e_alloc ?_ ?_) | (with_reducible refine HeldP.f_drew ?_) | (with_reducible refine HeldP.f_drewN ?_) | (with_reducible refine HeldP.f_set ?_) | (with_reducible refine HeldP.f_new (by first | omega | (simp; done) | (simp; omega))) | (with_reducible refine HeldP.f_alloc ?_ ?_) | (with_reducible refine HeldP.s_drew ?_) | (with_reducible refine HeldP.s_drewN ?_) | (with_reducible refine HeldP.s_set ?_) | (with_reducible refine HeldP.s_new (by first | omega | (simp; done) | (simp; omega))) | (with_reducible refine HeldP.s_alloc ?_) | (with_reducible exact ⟨_, by assumption⟩) | omega | (intro e; simp at e; done) | (intro e; simp at e; omega) | (exact rfl) | (simp; done) | (simp; omega)))⟩ ?_
    clear o0f o5f s0f s1f s2f f0 q0 gs gn go_ gp
    rintro wh ⟨hn, hgl, t0, t1⟩
    have HH := Lib.hid hn
    clear hn
    have hkk : ChkK wh p ⟨landC y, landL y, [((j : Int), d)]⟩ := ⟨_, 1, HH.out.k, one_pair hgl t0 t1, by simp, by simp [maxLen], by simp⟩
    refine (is_c (HT.out.below HH.out.b) hkk H.out I3.out).mono ?_
    rintro e wi ⟨rfl, hb⟩
    have HI := Lib.hid (HH.out.below hb)
    clear hb hkk hgl t0 t1 gl
    have s0f := HI.out.s.2 0 _ rfl
    have s1f := HI.out.s.2 1 _ rfl
    have s2f := HI.out.s.2 2 _ rfl
    have f0 := HI.out.k.frozen 16384
    have q0 := HI.out.k.t
    go_wp2_with fail
    go_at_call 21
    refine calls_namedW (fun W => Oth w W w.heap.size (wn.heap.size + 1) (wn.heap.size) p [.int .i64 x, .int .i64 y, .int .i64 z] [.int .i64 (j : Int), .int .u8 k1, .int .u8 k2, .int .u8 k3, .int .u8 k4, .int .i64 d] [.int .u8 X1, .int .u8 X2] [.int .u8 X3, .int .u8 X4] (landC y) (landL y) (.slice none 0 0)) (HI.out.grown (grown_set _ _ _ _) (HI.out.k.setT _) hpw hn0 hn1 h7p h8p) ?_
    clear s0f s1f s2f f0 q0
    rintro wj hn
    have HJ := Lib.hid hn
    clear hn
    refine (is_c (HT.out.below HJ.out.b) (ckk_of HJ.out.k (by simp [maxLen])) H.out I4.out).mono ?_
    rintro e wk ⟨rfl, hb⟩
    have HB9 := Lib.hid (below_t HJ.out.b hb)
    clear hb
    go_wp2_with (go_at_call 14; refine (works_c (HT.out.below HB9.out)).mono ?_; rintro e wl ⟨rfl, hb⟩)
    go_ret
    exact ⟨rfl, below_t HB9.out hb⟩

theorem law_other' {w : World} {x y z i k1 k2 k3 k4 d : Int} (hT : LTab w) (hi : -9223372036854775808 ≤ i ∧ i ≤ 9223372036854775807) (l1 : 0 ≤ k1) (u1 : k1 ≤ 255) (l2 : 0 ≤ k2) (u2 : k2 ≤ 255) (l3 : 0 ≤ k3) (u3 : k3 ≤ 255) (l4 : 0 ≤ k4) (u4 : k4 ≤ 255) (hd : -9223372036854775808 ≤ d ∧ d ≤ 9223372036854775807) :
    Calls Tryd.prog 7 #[.agg #[.int .i64 x, .int .i64 y, .int .i64 z], .agg #[.int .i64 i, .int .u8 k1, .int .u8 k2, .int .u8 k3, .int .u8 k4, .int .i64 d]] w fun e w' => e = .returned (.bool true) ∧ Below w.heap.size w w' := by
  have tu : ∀ k : Int, 0 ≤ k → k ≤ 255 → ∃ c : UInt8, bv c = .int .u8 k := fun k h0 h1 => ⟨UInt8.ofNat k.toNat, by rw [bv, UInt8.toNat_ofNat', Nat.mod_eq_of_lt (by omega), Int.toNat_of_nonneg h0]⟩
  obtain ⟨a1, e1⟩ := tu k1 l1 u1
  obtain ⟨a2, e2⟩ := tu k2 l2 u2
  obtain ⟨a3, e3⟩ := tu k3 l3 u3
  obtain ⟨a4, e4⟩ := tu k4 l4 u4
  rw [← e1, ← e2, ← e3, ← e4]
  by_cases h : spotB x y z = true ∧ 0 ≤ i ∧ i < 4096
  · obtain ⟨hs, h0, h4⟩ := h
    obtain ⟨j, rfl⟩ : ∃ j : Nat, i = j := ⟨i.toNat, by omega⟩
    exact law_other_yes (kc := (a1, a2)) (kl := (a3, a4)) hT hs (by omega)
  · refine law_other_no (kc := (a1, a2)) (kl := (a3, a4)) hT ?_
    cases hs : spotB x y z with
    | false => exact .inl rfl
    | true =>
      right
      have : ¬ (0 ≤ i ∧ i < 4096) := fun q => h ⟨hs, q⟩
      omega
end LandP
end Go.Proofs.YtjjnmkbjohiekaaDoor
