/-
  GlowTurned: a box that is turned about has its light turned about.
-/
import Derived.Test.YtbkadecfmjjadaaDoorGlowSides
import Derived.Test.YtbkadecfmjjadaaDoorGlowTurnP
import Derived.Deep.RegionHeld3
namespace Go.Proofs.YtbkadecfmjjadaaDoor
open Go.RowKit
set_option linter.unusedVariables false
set_option linter.unusedSimpArgs false
namespace GlowW
open BlkP RowG KindP KindW
def CntT (w4 : World) (n : Nat) (v : Value) (wr : World) : Prop := ∃ j : Nat, v = .int .i64 j ∧ j ≤ n ∧ Below w4.heap.size w4 wr
def TurnRel (w1 : World) (gw ga X Z n : Nat) (cs : List (Nat × Nat)) (v : Value) (W : World) : Prop := ∃ j : Nat, v = .int .i64 j ∧ j ≤ n ∧ Blk W gw 32 (flat enc2 (turnL (GlowP.tW X Z) cs j)) ∧ Blk W ga 32 (flat enc2 (turnL (GlowP.tA X Z) cs j)) ∧ Below w1.heap.size w1 W
theorem far_cell {w0 W : World} {b g o : Nat} {v : Value} (h : w0.grownBy W (some g)) (hl : b < w0.heap.size) (hne : b ≠ g) (hc : w0.cell? ⟨b, o, none⟩ = some v) : W.cell? ⟨b, o, none⟩ = some v :=
  (World.cell?_of_block (h.block b hl (fun e => hne (Option.some.inj e)))).trans hc
theorem drew_by (w : World) (b : Nat) : w.grownBy w.drew (some b) := ⟨rfl, rfl, rfl, Nat.le_refl _, fun _ _ _ => rfl⟩
theorem lit2' {w : World} {g : Nat} {T : TypeId} {l : List (Nat × Nat)} (h : Blk w g T (flat enc2 l)) {i a b : Nat} (hi : l[i]? = some (a, b)) : w.cell? ⟨g, i * 2, none⟩ = some (.int .u8 a) ∧ w.cell? ⟨g, i * 2 + 1, none⟩ = some (.int .u8 b) :=
  ⟨h.cell (flat2_get hi).1, h.cell (flat2_get hi).2⟩
theorem turn_nums {X Y Z j n : Nat} (hX : X ≤ 256) (hn : X * Y * Z = n) (hn2 : n ≤ 3000) (hj : j < n) : ∃ x d z y p1 p2 p3 p4 p5 p6 r1 r2 r3 r4 : Nat, ((j : Int).tmod X = x) ∧ ((j : Int) / (X : Int) = d) ∧ ((d : Int).tmod Z = z) ∧ ((d : Int) / (Z : Int) = y) ∧ ((y : Int) * (Z : Int) = p1) ∧ ((p1 : Int) + (z : Int) = p2) ∧ ((p2 : Int) * (X : Int) = p3) ∧ ((p3 : Int) + (X : Int) = p4) ∧ ((p4 : Int) - 1 = p5) ∧ ((p5 : Int) - (x : Int) = p6) ∧ (p6 = GlowP.tW X Z j) ∧ ((y : Int) * (X : Int) = r1) ∧ ((r1 : Int) + (x : Int) = r2) ∧ ((r2 : Int) * (Z : Int) = r3) ∧ ((r3 : Int) + (z : Int) = r4) ∧ (r4 = GlowP.tA X Z j) ∧ (p6 < n) ∧ (r4 < n) ∧ (IntKind.i64.wrap (d : Int) = (d : Int)) ∧ (IntKind.i64.wrap (y : Int) = (y : Int)) ∧ (IntKind.i64.wrap (p1 : Int) = (p1 : Int)) ∧ (IntKind.i64.wrap (p2 : Int) = (p2 : Int)) ∧ (IntKind.i64.wrap (p3 : Int) = (p3 : Int)) ∧ (IntKind.i64.wrap (p4 : Int) = (p4 : Int)) ∧ (IntKind.i64.wrap (p5 : Int) = (p5 : Int)) ∧ (IntKind.i64.wrap (p6 : Int) = (p6 : Int)) ∧ (IntKind.i64.wrap (r1 : Int) = (r1 : Int)) ∧ (IntKind.i64.wrap (r2 : Int) = (r2 : Int)) ∧ (IntKind.i64.wrap (r3 : Int) = (r3 : Int)) ∧ (IntKind.i64.wrap (r4 : Int) = (r4 : Int)) ∧ x ≤ 10000 ∧ d ≤ 10000 ∧ z ≤ 10000 ∧ y ≤ 10000 ∧ p1 ≤ 10000 ∧ p2 ≤ 10000 ∧ p3 ≤ 10000 ∧ p4 ≤ 10000 ∧ p5 ≤ 10000 ∧ p6 ≤ 10000 ∧ r1 ≤ 10000 ∧ r2 ≤ 10000 ∧ r3 ≤ 10000 ∧ r4 ≤ 10000 := by
  have hi : j < X * Y * Z := by omega
  obtain ⟨hx, hz, hy⟩ := GlowP.at_box hi
  have hs := GlowP.at_self (X := X) (Z := Z) (i := j)
  have hA := GlowP.tA_lt hi
  have hW := GlowP.tW_lt hi
  rw [hn] at hA hW
  obtain ⟨tw, htw⟩ : ∃ t, GlowP.tW X Z j = t := ⟨_, rfl⟩
  obtain ⟨ta, hta⟩ : ∃ t, GlowP.tA X Z j = t := ⟨_, rfl⟩
  rw [htw] at hW ⊢
  rw [hta] at hA ⊢
  unfold GlowP.tW GlowP.at_ at htw
  unfold GlowP.tA GlowP.at_ at hta
  unfold GlowP.at_ at hs
  have m1 : (j : Int).tmod X = ((j % X : Nat) : Int) := by rw [Int.tmod_eq_emod_of_nonneg (Int.natCast_nonneg _)]; rfl
  have q1 : (j : Int) / (X : Int) = ((j / X : Nat) : Int) := rfl
  have m2 : ((j / X : Nat) : Int).tmod Z = ((j / X % Z : Nat) : Int) := by rw [Int.tmod_eq_emod_of_nonneg (Int.natCast_nonneg _)]; rfl
  have q2 : ((j / X : Nat) : Int) / (Z : Int) = ((j / X / Z : Nat) : Int) := rfl
  have hdj : j / X ≤ j := Nat.div_le_self _ _
  generalize j % X = x at *
  generalize hd : j / X = d at *
  have hyd : d / Z ≤ d := Nat.div_le_self _ _
  generalize d % Z = z at *
  generalize d / Z = y at *
  clear hd
  have e1 : (y : Int) * (Z : Int) = ((y * Z : Nat) : Int) := (Int.natCast_mul _ _).symm
  have f1 : (y : Int) * (X : Int) = ((y * X : Nat) : Int) := (Int.natCast_mul _ _).symm
  generalize y * Z = p1 at *
  generalize y * X = r1 at *
  have e3 : ((p1 + z : Nat) : Int) * (X : Int) = (((p1 + z) * X : Nat) : Int) := (Int.natCast_mul _ _).symm
  have f3 : ((r1 + x : Nat) : Int) * (Z : Int) = (((r1 + x) * Z : Nat) : Int) := (Int.natCast_mul _ _).symm
  have l3 : p1 + z ≤ (p1 + z) * X := Nat.le_mul_of_pos_right _ (by omega)
  have k3 : r1 + x ≤ (r1 + x) * Z := Nat.le_mul_of_pos_right _ (by omega)
  obtain ⟨p2, hp2⟩ : ∃ p2, p1 + z = p2 := ⟨_, rfl⟩
  obtain ⟨r2, hr2⟩ : ∃ r2, r1 + x = r2 := ⟨_, rfl⟩
  rw [hp2] at htw hs e3 l3
  rw [hr2] at hta f3 k3
  generalize p2 * X = p3 at *
  generalize r2 * Z = r3 at *
  refine ⟨x, d, z, y, p1, p2, p3, p3 + X, p3 + X - 1, tw, r1, r2, r3, ta, m1, q1, m2, q2, e1, ?_⟩
  clear m1 q1 m2 q2
  refine ⟨by omega, e3, by omega, by omega, by omega, rfl, f1, by omega, f3, by omega, rfl, hW, hA, ?_⟩
  clear e1 f1 e3 f3
  refine ⟨wrap_small (by omega), wrap_small (by omega), wrap_small (by omega), wrap_small (by omega), wrap_small (by omega), wrap_small (by omega), wrap_small (by omega), wrap_small (by omega), wrap_small (by omega), wrap_small (by omega), wrap_small (by omega), wrap_small (by omega), ?_⟩
  omega
set_option maxRecDepth 100000 in
set_option maxHeartbeats 16000000 in
theorem law_turned {w : World} {X Y Z : Int} {A : Option Addr} {c : Nat} {cs : List (Nat × Nat)} (hT : Tab w) (h : Rd enc2 w (.slice A cs.length c) cs ∧ (∀ x ∈ cs, x.1 < 256 ∧ x.2 < 256) ∧ True) :
    Calls Tryd.prog 9 #[.agg #[.int .i64 X, .int .i64 Y, .int .i64 Z, .slice A cs.length c]] w (HoldsP w) := by
  have HT := Lib.hid hT
  have HR := Lib.hid h.1
  obtain ⟨n, hn⟩ : ∃ n, n = cs.length := ⟨_, rfl⟩
  have hform := h.1.form hn.symm
  rw [← hn] at HR ⊢
  have HN := Lib.hid hn
  have hnc : n ≤ c := by
    obtain ⟨A', c', he, h1, _⟩ := hform
    injection he with _ _ h3
    rw [h3]
    exact h1
  clear hT h hn hform
  by_cases hs : n ≤ 3000
  · have hnM : (n : Int) ≤ 3000 := by omega
    by_cases hck : checkN X Y Z n = 0
    · obtain ⟨X, Y, Z, rfl, rfl, rfl, hX, hY, hZ, hxyz, hn2⟩ := check_zero hck
      have HXYZ := Lib.hid hxyz
      have hn0 : 0 < n := by rw [← hxyz]; exact Nat.mul_pos (Nat.mul_pos (by omega) (by omega)) (by omega)
      obtain ⟨⟨kz, lz⟩, hx0⟩ : ∃ x, cs[0]? = some x := ⟨_, List.getElem?_eq_getElem (by have := HN.out; omega)⟩
      obtain ⟨bb, oo, rfl, hbl, _, _⟩ := rd2 HR.out hx0
      have hXN : ¬ X = 0 := by omega
      have hZN : ¬ Z = 0 := by omega
      have hXI : ¬ (X : Int) = 0 := by omega
      have hZI : ¬ (Z : Int) = 0 := by omega
      clear hck hxyz hx0
      go_enter Tryd.func9, Tryd.ntmps9
      go_wp2_with (go_at_call 14; refine Classical.byContradiction (fun hG => ?_))
      refine hG ?_
      clear hG
      refine (light_c (HT.out.below (by (repeat' (first | (with_reducible exact Below.refl _ _) | (with_reducible refine Below.setCell ?_ (by (first | omega | (simp; done) | (simp; omega))) _) | (with_reducible refine Below.alloc ?_ (by (first | omega | (simp; done) | (simp; omega))) _) | (with_reducible refine Below.drew ?_) | (with_reducible refine below_drewN ?_ _))))) (HR.out.below (by (repeat' (first | (with_reducible exact Below.refl _ _) | (with_reducible refine Below.setCell ?_ (by (first | omega | (simp; done) | (simp; omega))) _) | (with_reducible refine Below.alloc ?_ (by (first | omega | (simp; done) | (simp; omega))) _) | (with_reducible refine Below.drew ?_) | (with_reducible refine below_drewN ?_ _))))) HN.out hX hY hZ HXYZ.out hn2).mono ?_
      rintro e w1 ⟨g, rfl, hg1, hge1, hb1⟩
      have HG1 := Lib.hid hg1
      have k0 : w1.cell? ⟨w.heap.size, 0, none⟩ = some (.int .i64 X) := (by (repeat' (first | (with_reducible assumption) | (with_reducible refine HeldP.c_below hb1 ?_ ?_) | (with_reducible refine HeldP.f_below hb1 ?_ ?_) | (with_reducible refine HeldP.c_drew ?_) | (with_reducible refine HeldP.c_drewN ?_) | (with_reducible refine HeldP.c_same (by omega) ?_) | (with_reducible refine HeldP.c_other ?_ ?_) | (with_reducible refine HeldP.c_new (by first | omega | (simp; done) | (simp; omega)) ?_) | (with_reducible refine HeldP.c_alloc ?_ ?_) | (with_reducible refine HeldP.e_drew ?_) | (with_reducible refine HeldP.e_drewN ?_) | (with_reducible refine HeldP.e_set ?_) | (with_reducible refine HeldP.e_new (by first | omega | (simp; done) | (simp; omega)) ⟨_, rfl⟩) | (with_reducible refine HeldP.e_alloc ?_ ?_) | (with_reducible refine HeldP.f_drew ?_) | (with_reducible refine HeldP.f_drewN ?_) | (with_reducible refine HeldP.f_set ?_) | (with_reducible refine HeldP.f_new (by first | omega | (simp; done) | (simp; omega))) | (with_reducible refine HeldP.f_alloc ?_ ?_) | (with_reducible refine HeldP.s_drew ?_) | (with_reducible refine HeldP.s_drewN ?_) | (with_reducible refine HeldP.s_set ?_) | (with_reducible refine HeldP.s_new (by first | omega | (simp; done) | (simp; omega))) | (with_reducible refine HeldP.s_alloc ?_) | (with_reducible exact ⟨_, by assumption⟩) | omega | (intro e; simp at e; done) | (intro e; simp at e; omega) | (exact rfl) | (simp; done) | (simp; omega))))
      have k1 : w1.cell? ⟨w.heap.size, 1, none⟩ = some (.int .i64 Y) := (by (repeat' (first | (with_reducible assumption) | (with_reducible refine HeldP.c_below hb1 ?_ ?_) | (with_reducible refine HeldP.f_below hb1 ?_ ?_) | (with_reducible refine HeldP.c_drew ?_) | (with_reducible refine HeldP.c_drewN ?_) | (with_reducible refine HeldP.c_same (by omega) ?_) | (with_reducible refine HeldP.c_other ?_ ?_) | (with_reducible refine HeldP.c_new (by first | omega | (simp; done) | (simp; omega)) ?_) | (with_reducible refine HeldP.c_alloc ?_ ?_) | (with_reducible refine HeldP.e_drew ?_) | (with_reducible refine HeldP.e_drewN ?_) | (with_reducible refine HeldP.e_set ?_) | (with_reducible refine HeldP.e_new (by first | omega | (simp; done) | (simp; omega)) ⟨_, rfl⟩) | (with_reducible refine HeldP.e_alloc ?_ ?_) | (with_reducible refine HeldP.f_drew ?_) | (with_reducible refine HeldP.f_drewN ?_) | (with_reducible refine HeldP.f_set ?_) | (with_reducible refine HeldP.f_new (by first | omega | (simp; done) | (simp; omega))) | (with_reducible refine HeldP.f_alloc ?_ ?_) | (with_reducible refine HeldP.s_drew ?_) | (with_reducible refine HeldP.s_drewN ?_) | (with_reducible refine HeldP.s_set ?_) | (with_reducible refine HeldP.s_new (by first | omega | (simp; done) | (simp; omega))) | (with_reducible refine HeldP.s_alloc ?_) | (with_reducible exact ⟨_, by assumption⟩) | omega | (intro e; simp at e; done) | (intro e; simp at e; omega) | (exact rfl) | (simp; done) | (simp; omega))))
      have k2 : w1.cell? ⟨w.heap.size, 2, none⟩ = some (.int .i64 Z) := (by (repeat' (first | (with_reducible assumption) | (with_reducible refine HeldP.c_below hb1 ?_ ?_) | (with_reducible refine HeldP.f_below hb1 ?_ ?_) | (with_reducible refine HeldP.c_drew ?_) | (with_reducible refine HeldP.c_drewN ?_) | (with_reducible refine HeldP.c_same (by omega) ?_) | (with_reducible refine HeldP.c_other ?_ ?_) | (with_reducible refine HeldP.c_new (by first | omega | (simp; done) | (simp; omega)) ?_) | (with_reducible refine HeldP.c_alloc ?_ ?_) | (with_reducible refine HeldP.e_drew ?_) | (with_reducible refine HeldP.e_drewN ?_) | (with_reducible refine HeldP.e_set ?_) | (with_reducible refine HeldP.e_new (by first | omega | (simp; done) | (simp; omega)) ⟨_, rfl⟩) | (with_reducible refine HeldP.e_alloc ?_ ?_) | (with_reducible refine HeldP.f_drew ?_) | (with_reducible refine HeldP.f_drewN ?_) | (with_reducible refine HeldP.f_set ?_) | (with_reducible refine HeldP.f_new (by first | omega | (simp; done) | (simp; omega))) | (with_reducible refine HeldP.f_alloc ?_ ?_) | (with_reducible refine HeldP.s_drew ?_) | (with_reducible refine HeldP.s_drewN ?_) | (with_reducible refine HeldP.s_set ?_) | (with_reducible refine HeldP.s_new (by first | omega | (simp; done) | (simp; omega))) | (with_reducible refine HeldP.s_alloc ?_) | (with_reducible exact ⟨_, by assumption⟩) | omega | (intro e; simp at e; done) | (intro e; simp at e; omega) | (exact rfl) | (simp; done) | (simp; omega))))
      have k3 : w1.cell? ⟨w.heap.size, 3, none⟩ = some (.slice (some ⟨bb, oo, none⟩) n c) := (by (repeat' (first | (with_reducible assumption) | (with_reducible refine HeldP.c_below hb1 ?_ ?_) | (with_reducible refine HeldP.f_below hb1 ?_ ?_) | (with_reducible refine HeldP.c_drew ?_) | (with_reducible refine HeldP.c_drewN ?_) | (with_reducible refine HeldP.c_same (by omega) ?_) | (with_reducible refine HeldP.c_other ?_ ?_) | (with_reducible refine HeldP.c_new (by first | omega | (simp; done) | (simp; omega)) ?_) | (with_reducible refine HeldP.c_alloc ?_ ?_) | (with_reducible refine HeldP.e_drew ?_) | (with_reducible refine HeldP.e_drewN ?_) | (with_reducible refine HeldP.e_set ?_) | (with_reducible refine HeldP.e_new (by first | omega | (simp; done) | (simp; omega)) ⟨_, rfl⟩) | (with_reducible refine HeldP.e_alloc ?_ ?_) | (with_reducible refine HeldP.f_drew ?_) | (with_reducible refine HeldP.f_drewN ?_) | (with_reducible refine HeldP.f_set ?_) | (with_reducible refine HeldP.f_new (by first | omega | (simp; done) | (simp; omega))) | (with_reducible refine HeldP.f_alloc ?_ ?_) | (with_reducible refine HeldP.s_drew ?_) | (with_reducible refine HeldP.s_drewN ?_) | (with_reducible refine HeldP.s_set ?_) | (with_reducible refine HeldP.s_new (by first | omega | (simp; done) | (simp; omega))) | (with_reducible refine HeldP.s_alloc ?_) | (with_reducible exact ⟨_, by assumption⟩) | omega | (intro e; simp at e; done) | (intro e; simp at e; omega) | (exact rfl) | (simp; done) | (simp; omega))))
      have hz1 : w.heap.size < w1.heap.size := (by have h := hb1.size; simp at h; omega)
      have HW1 := Lib.hid (show Below w.heap.size w w1 by (repeat' (first | (with_reducible exact Below.refl _ _) | (with_reducible refine Below.setCell ?_ (by (first | omega | (simp; done) | (simp; omega))) _) | (with_reducible refine Below.alloc ?_ (by (first | omega | (simp; done) | (simp; omega))) _) | (with_reducible refine Below.drew ?_) | (with_reducible refine below_drewN ?_ _) | (with_reducible refine Below.trans ?_ (Below.mono hb1 (by (first | omega | (simp; done) | (simp; omega))))))))
      clear hb1 hg1
      have K0 := Lib.hid k0
      have K1 := Lib.hid k1
      have K2 := Lib.hid k2
      have K3 := Lib.hid k3
      have hg1l := HG1.out.lt
      go_wp2_with ((with_reducible refine at_slot 35 ?_); refine Classical.byContradiction (fun hG => ?_))
      refine hG ?_
      clear hG
      refine wp_makeC _ rfl _ _ rfl n rfl rfl (by omega) ?_
      intro w2 hd2 hb2
      obtain ⟨gw, hgw⟩ : ∃ gw, w1.heap.size = gw := ⟨_, rfl⟩
      rw [hgw] at hd2 ⊢
      have HGW := Lib.hid hgw
      have HB2 := Lib.hid hb2
      have HD2 := Lib.hid hd2
      have hw1gw : w1.heap.size ≤ gw := by omega
      have hz2 := hb2.size
      have hw2l := hd2.lt
      replace k0 := (hb2.cell (p := ⟨w.heap.size, 0, none⟩) hz1).trans k0
      replace k1 := (hb2.cell (p := ⟨w.heap.size, 1, none⟩) hz1).trans k1
      replace k2 := (hb2.cell (p := ⟨w.heap.size, 2, none⟩) hz1).trans k2
      replace k3 := (hb2.cell (p := ⟨w.heap.size, 3, none⟩) hz1).trans k3
      clear hb2 hd2 hgw
      go_wp2_with ((with_reducible refine at_slot 39 ?_); refine Classical.byContradiction (fun hG => ?_))
      refine hG ?_
      clear hG
      refine wp_makeC _ rfl _ _ rfl n rfl rfl (by omega) ?_
      intro w4 hd4 hb4
      obtain ⟨ga, hga⟩ : ∃ ga, w2.heap.size = ga := ⟨_, rfl⟩
      rw [hga] at hd4 ⊢
      have hw1ga : w1.heap.size ≤ ga := by omega
      have hwga : gw ≠ ga := by omega
      have hagw : ga ≠ gw := by omega
      have hwgw : w.heap.size ≠ gw := by omega
      have hwga' : w.heap.size ≠ ga := by omega
      have hbgw : bb ≠ gw := by omega
      have hbga : bb ≠ ga := by omega
      have HB4 := Lib.hid (HB2.out.trans (hb4.mono HB2.out.size))
      have DW := Lib.hid (show Blk w4 gw 32 (flat enc2 (turnL (GlowP.tW X Z) cs 0)) by
        have h := HD2.out.below hb4
        rw [HN.out] at h
        exact h)
      have DA := Lib.hid (show Blk w4 ga 32 (flat enc2 (turnL (GlowP.tA X Z) cs 0)) by
        have h := hd4
        rw [HN.out] at h
        exact h)
      have hz4 := hb4.size
      replace k0 := (HB4.out.cell (p := ⟨w.heap.size, 0, none⟩) hz1).trans K0.out
      replace k1 := (HB4.out.cell (p := ⟨w.heap.size, 1, none⟩) hz1).trans K1.out
      replace k2 := (HB4.out.cell (p := ⟨w.heap.size, 2, none⟩) hz1).trans K2.out
      replace k3 := (HB4.out.cell (p := ⟨w.heap.size, 3, none⟩) hz1).trans K3.out
      clear hb4 hd4 hga
      go_wp2_with fail
      go_loopw [7] (TurnRel w1 gw ga X Z n cs) (fun v _ => n - (intOf v).toNat)
      case atStart => exact ⟨0, rfl, by omega, DW.out, DA.out, HB4.out⟩
      case round =>
        clear k0 k1 k2 k3
        obtain ⟨j, rfl, hj, hdw, hda, hb⟩ := hrel
        have HB := Lib.hid hb
        have HDW := Lib.hid hdw
        have HDA := Lib.hid hda
        have hzr := hb.size
        have k0 := (hb.cell (p := ⟨w.heap.size, 0, none⟩) hz1).trans K0.out
        have k1 := (hb.cell (p := ⟨w.heap.size, 1, none⟩) hz1).trans K1.out
        have k2 := (hb.cell (p := ⟨w.heap.size, 2, none⟩) hz1).trans K2.out
        have k3 := (hb.cell (p := ⟨w.heap.size, 3, none⟩) hz1).trans K3.out
        by_cases hlt : j < n
        · have hjI : (j : Int) < n := by omega
          have hj0 : (0 : Int) ≤ (j : Int) := by omega
          obtain ⟨⟨kk, ll⟩, hx⟩ : ∃ x, cs[j]? = some x := ⟨_, List.getElem?_eq_getElem (by have := HN.out; omega)⟩
          obtain ⟨b', o', hbo, hblw, c0, c1⟩ := rd2 ((HR.out.below HW1.out).below hb) hx
          obtain ⟨rfl, rfl⟩ : bb = b' ∧ oo = o' := by injection hbo with hbo; injection hbo with e1 e2 e3; exact ⟨e1, e2⟩
          have HX := Lib.hid hx
          have C0 := Lib.hid c0
          have C1 := Lib.hid c1
          obtain ⟨x, d, z, y, p1, p2, p3, p4, p5, p6, r1, r2, r3, r4, hM1, hQ1, hM2, hQ2, hE1, hE2, hE3, hE4, hE5, hE6, hTW, hF1, hF2, hF3, hF4, hTA, hB6, hBA, hVD, hVY, hV1, hV2, hV3, hV4, hV5, hV6, hU1, hU2, hU3, hU4, bd_x, bd_d, bd_z, bd_y, bd_p1, bd_p2, bd_p3, bd_p4, bd_p5, bd_p6, bd_r1, bd_r2, bd_r3, bd_r4⟩ := turn_nums (j := j) hX.2 HXYZ.out (by omega) hlt
          have M1 := Lib.hid hM1
          have Q1 := Lib.hid hQ1
          have M2 := Lib.hid hM2
          have Q2 := Lib.hid hQ2
          have E1 := Lib.hid hE1
          have E2 := Lib.hid hE2
          have E3 := Lib.hid hE3
          have E4 := Lib.hid hE4
          have E5 := Lib.hid hE5
          have E6 := Lib.hid hE6
          have TW := Lib.hid hTW
          have F1 := Lib.hid hF1
          have F2 := Lib.hid hF2
          have F3 := Lib.hid hF3
          have F4 := Lib.hid hF4
          have TA := Lib.hid hTA
          have B6 := Lib.hid hB6
          have BA := Lib.hid hBA
          have VD := Lib.hid hVD
          have VY := Lib.hid hVY
          have V1 := Lib.hid hV1
          have V2 := Lib.hid hV2
          have V3 := Lib.hid hV3
          have V4 := Lib.hid hV4
          have V5 := Lib.hid hV5
          have V6 := Lib.hid hV6
          have U1 := Lib.hid hU1
          have U2 := Lib.hid hU2
          have U3 := Lib.hid hU3
          have U4 := Lib.hid hU4
          have hp6I : (p6 : Int) < n := by omega
          have hr4I : (r4 : Int) < n := by omega
          have hp60 : (0 : Int) ≤ (p6 : Int) := by omega
          have hr40 : (0 : Int) ≤ (r4 : Int) := by omega
          clear hE1 hE2 hE3 hE4 hE5 hE6 hTW hF1 hF2 hF3 hF4 hTA hB6 hBA hVD hVY hV1 hV2 hV3 hV4 hV5 hV6 hU1 hU2 hU3 hU4
          have hzn : w.heap.size < wr.heap.size := by omega
          clear hx hbo hb hdw hda c0 c1
          go_wp2_with fail
          refine wp_region_noPanic ?_
          refine wp_region_held_drew (S := fun W => Below wr.heap.size wr W) (by kernel_rfl) ((Below.refl _ wr).drew) (fun hHeld => ?_)
          refine wpAnyH_take (i := 0) (oi := ⟨some 47, _, _, _, _, _⟩) (v := .int .i64 j) rfl (by kernel_rfl) (by kernel_rfl) (by kernel_rfl) (fun _ _ _ h => h) (Or.inl ⟨by rfl, fun W hSW => by go_simp⟩) hHeld ?_
          simp only [Act.put, List.setIfInBounds_toArray, List.set_cons_zero, List.set_cons_succ]
          refine wpAnyH_take (i := 1) (oi := ⟨some 48, _, _, _, _, _⟩) (v := .pointer (some ⟨w.heap.size, 0, none⟩)) rfl (by kernel_rfl) (by kernel_rfl) (by kernel_rfl) (fun _ _ _ h => h) (Or.inl ⟨by rfl, fun W hSW => by go_simp⟩) hHeld ?_
          simp only [Act.put, List.setIfInBounds_toArray, List.set_cons_zero, List.set_cons_succ]
          refine wpAnyH_take (i := 2) (oi := ⟨some 49, _, _, _, _, _⟩) (v := .int .i64 X) rfl (by kernel_rfl) (by kernel_rfl) (by kernel_rfl) (fun _ _ _ h => h) (Or.inl ⟨by rfl, fun W hSW => by have a0 := (hSW.cell (p := ⟨w.heap.size, 0, none⟩) hzn).trans k0; go_simp⟩) hHeld ?_
          simp only [Act.put, List.setIfInBounds_toArray, List.set_cons_zero, List.set_cons_succ]
          refine wpAnyH_take (i := 3) (oi := ⟨some 50, _, _, _, _, _⟩) (v := .int .i64 x) rfl (by kernel_rfl) (by kernel_rfl) (by kernel_rfl) (fun _ _ _ h => h) (Or.inl ⟨by rfl, fun W hSW => by go_simp⟩) hHeld ?_
          simp only [Act.put, List.setIfInBounds_toArray, List.set_cons_zero, List.set_cons_succ]
          refine wpAnyH_take (i := 4) (oi := ⟨some 51, _, _, _, _, _⟩) (v := .int .i64 j) rfl (by kernel_rfl) (by kernel_rfl) (by kernel_rfl) (fun _ _ _ h => h) (Or.inl ⟨by rfl, fun W hSW => by go_simp⟩) hHeld ?_
          simp only [Act.put, List.setIfInBounds_toArray, List.set_cons_zero, List.set_cons_succ]
          refine wpAnyH_take (i := 5) (oi := ⟨some 52, _, _, _, _, _⟩) (v := .pointer (some ⟨w.heap.size, 0, none⟩)) rfl (by kernel_rfl) (by kernel_rfl) (by kernel_rfl) (fun _ _ _ h => h) (Or.inl ⟨by rfl, fun W hSW => by go_simp⟩) hHeld ?_
          simp only [Act.put, List.setIfInBounds_toArray, List.set_cons_zero, List.set_cons_succ]
          refine wpAnyH_take (i := 6) (oi := ⟨some 53, _, _, _, _, _⟩) (v := .int .i64 X) rfl (by kernel_rfl) (by kernel_rfl) (by kernel_rfl) (fun _ _ _ h => h) (Or.inl ⟨by rfl, fun W hSW => by have a0 := (hSW.cell (p := ⟨w.heap.size, 0, none⟩) hzn).trans k0; go_simp⟩) hHeld ?_
          simp only [Act.put, List.setIfInBounds_toArray, List.set_cons_zero, List.set_cons_succ]
          refine wpAnyH_take (i := 7) (oi := ⟨some 54, _, _, _, _, _⟩) (v := .int .i64 d) rfl (by kernel_rfl) (by kernel_rfl) (by kernel_rfl) (fun _ _ _ h => h) (Or.inl ⟨by rfl, fun W hSW => by go_simp <;> exact VD.out⟩) hHeld ?_
          simp only [Act.put, List.setIfInBounds_toArray, List.set_cons_zero, List.set_cons_succ]
          refine wpAnyH_take (i := 8) (oi := ⟨some 55, _, _, _, _, _⟩) (v := .pointer (some ⟨w.heap.size, 2, none⟩)) rfl (by kernel_rfl) (by kernel_rfl) (by kernel_rfl) (fun _ _ _ h => h) (Or.inl ⟨by rfl, fun W hSW => by go_simp⟩) hHeld ?_
          simp only [Act.put, List.setIfInBounds_toArray, List.set_cons_zero, List.set_cons_succ]
          refine wpAnyH_take (i := 9) (oi := ⟨some 56, _, _, _, _, _⟩) (v := .int .i64 Z) rfl (by kernel_rfl) (by kernel_rfl) (by kernel_rfl) (fun _ _ _ h => h) (Or.inl ⟨by rfl, fun W hSW => by have a0 := (hSW.cell (p := ⟨w.heap.size, 2, none⟩) hzn).trans k2; go_simp⟩) hHeld ?_
          simp only [Act.put, List.setIfInBounds_toArray, List.set_cons_zero, List.set_cons_succ]
          refine wpAnyH_take (i := 10) (oi := ⟨some 57, _, _, _, _, _⟩) (v := .int .i64 z) rfl (by kernel_rfl) (by kernel_rfl) (by kernel_rfl) (fun _ _ _ h => h) (Or.inl ⟨by rfl, fun W hSW => by go_simp⟩) hHeld ?_
          simp only [Act.put, List.setIfInBounds_toArray, List.set_cons_zero, List.set_cons_succ]
          refine wpAnyH_take (i := 11) (oi := ⟨some 58, _, _, _, _, _⟩) (v := .int .i64 j) rfl (by kernel_rfl) (by kernel_rfl) (by kernel_rfl) (fun _ _ _ h => h) (Or.inl ⟨by rfl, fun W hSW => by go_simp⟩) hHeld ?_
          simp only [Act.put, List.setIfInBounds_toArray, List.set_cons_zero, List.set_cons_succ]
          refine wpAnyH_take (i := 12) (oi := ⟨some 59, _, _, _, _, _⟩) (v := .pointer (some ⟨w.heap.size, 0, none⟩)) rfl (by kernel_rfl) (by kernel_rfl) (by kernel_rfl) (fun _ _ _ h => h) (Or.inl ⟨by rfl, fun W hSW => by go_simp⟩) hHeld ?_
          simp only [Act.put, List.setIfInBounds_toArray, List.set_cons_zero, List.set_cons_succ]
          refine wpAnyH_take (i := 13) (oi := ⟨some 60, _, _, _, _, _⟩) (v := .int .i64 X) rfl (by kernel_rfl) (by kernel_rfl) (by kernel_rfl) (fun _ _ _ h => h) (Or.inl ⟨by rfl, fun W hSW => by have a0 := (hSW.cell (p := ⟨w.heap.size, 0, none⟩) hzn).trans k0; go_simp⟩) hHeld ?_
          simp only [Act.put, List.setIfInBounds_toArray, List.set_cons_zero, List.set_cons_succ]
          refine wpAnyH_take (i := 14) (oi := ⟨some 61, _, _, _, _, _⟩) (v := .int .i64 d) rfl (by kernel_rfl) (by kernel_rfl) (by kernel_rfl) (fun _ _ _ h => h) (Or.inl ⟨by rfl, fun W hSW => by go_simp <;> exact VD.out⟩) hHeld ?_
          simp only [Act.put, List.setIfInBounds_toArray, List.set_cons_zero, List.set_cons_succ]
          refine wpAnyH_take (i := 15) (oi := ⟨some 62, _, _, _, _, _⟩) (v := .pointer (some ⟨w.heap.size, 2, none⟩)) rfl (by kernel_rfl) (by kernel_rfl) (by kernel_rfl) (fun _ _ _ h => h) (Or.inl ⟨by rfl, fun W hSW => by go_simp⟩) hHeld ?_
          simp only [Act.put, List.setIfInBounds_toArray, List.set_cons_zero, List.set_cons_succ]
          refine wpAnyH_take (i := 16) (oi := ⟨some 63, _, _, _, _, _⟩) (v := .int .i64 Z) rfl (by kernel_rfl) (by kernel_rfl) (by kernel_rfl) (fun _ _ _ h => h) (Or.inl ⟨by rfl, fun W hSW => by have a0 := (hSW.cell (p := ⟨w.heap.size, 2, none⟩) hzn).trans k2; go_simp⟩) hHeld ?_
          simp only [Act.put, List.setIfInBounds_toArray, List.set_cons_zero, List.set_cons_succ]
          refine wpAnyH_take (i := 17) (oi := ⟨some 64, _, _, _, _, _⟩) (v := .int .i64 y) rfl (by kernel_rfl) (by kernel_rfl) (by kernel_rfl) (fun _ _ _ h => h) (Or.inl ⟨by rfl, fun W hSW => by go_simp <;> exact VY.out⟩) hHeld ?_
          simp only [Act.put, List.setIfInBounds_toArray, List.set_cons_zero, List.set_cons_succ]
          refine wpAnyH_ready (rs := [18]) (by kernel_rfl) (by simp) ?_
          refine AllReadyH.cons (o := ⟨some 8, _, _, _, _, _⟩) rfl (fun K hK => ?_) AllReadyH.nil
          go_simp
          refine hK.out _ _ hHeld (fun hHeld => ?_)
          clear hK K
          refine wpAnyH_ready (rs := [19]) (by kernel_rfl) (by simp) ?_
          refine AllReadyH.cons (o := ⟨some 9, _, _, _, _, _⟩) rfl (fun K hK => ?_) AllReadyH.nil
          go_simp
          refine hK.out _ _ hHeld (fun hHeld => ?_)
          clear hK K
          refine wpAnyH_ready (rs := [20]) (by kernel_rfl) (by simp) ?_
          refine AllReadyH.cons (o := ⟨some 10, _, _, _, _, _⟩) rfl (fun K hK => ?_) AllReadyH.nil
          go_simp
          refine hK.out _ _ hHeld (fun hHeld => ?_)
          clear hK K
          refine wpAnyH_done (by kernel_rfl) ?_ _
          refine NoPanic.normal ?_
          clear hM1 hQ1 hM2 hQ2 hHeld k0 k1 k2 k3 hzn
          go_wp2_with fail
          refine HeldP.wp_named (fun W => Blk W gw 32 (flat enc2 (turnL (GlowP.tW X Z) cs j)) ∧ Blk W ga 32 (flat enc2 (turnL (GlowP.tA X Z) cs j)) ∧ Below wr.heap.size wr W) ⟨HDW.out, HDA.out, (Below.refl _ _).drew⟩ ?_
          rintro wn ⟨hdw, hda, hbn⟩
          have HDW := Lib.hid hdw
          have HDA := Lib.hid hda
          have HBN := Lib.hid (HB.out.trans (hbn.mono HB.out.size))
          have hb := HBN.out
          have k0 := (hb.cell (p := ⟨w.heap.size, 0, none⟩) hz1).trans K0.out
          have k1 := (hb.cell (p := ⟨w.heap.size, 1, none⟩) hz1).trans K1.out
          have k2 := (hb.cell (p := ⟨w.heap.size, 2, none⟩) hz1).trans K2.out
          have k3 := (hb.cell (p := ⟨w.heap.size, 3, none⟩) hz1).trans K3.out
          have c0 := (hbn.cell (p := ⟨bb, oo + j * 2, none⟩) hblw).trans C0.out
          have c1 := (hbn.cell (p := ⟨bb, oo + j * 2 + 1, none⟩) hblw).trans C1.out
          have hzn : w.heap.size < wn.heap.size := by have := hb.size; omega
          have hbn' : bb < wn.heap.size := by have := hbn.size; omega
          obtain ⟨⟨ow0, ow1⟩, how⟩ : ∃ x, (turnL (GlowP.tW X Z) cs j)[p6]? = some x := ⟨_, List.getElem?_eq_getElem (by rw [turn_len]; have := HN.out; omega)⟩
          obtain ⟨s0, s1⟩ := lit2' hdw how
          have q0 := hdw.frozen (p6 * 2)
          have q1 := hdw.frozen (p6 * 2 + 1)
          have HOW := Lib.hid how
          have HBC := Lib.hid hbn
          clear how hdw hda hbn hb
          refine wp_region_noPanic ?_
          refine wp_region_held_drew (S := fun W => wn.grownBy W (some gw)) (by kernel_rfl) (drew_by _ _) (fun hHeld => ?_)
          refine wpAnyH_take (i := 0) (oi := ⟨some 65, _, _, _, _, _⟩) (v := .slice (some ⟨gw, 0, none⟩) n n) rfl (by kernel_rfl) (by kernel_rfl) (by kernel_rfl) (fun _ _ _ h => h) (Or.inl ⟨by rfl, fun W hSW => by go_simp⟩) hHeld ?_
          simp only [Act.put, List.setIfInBounds_toArray, List.set_cons_zero, List.set_cons_succ]
          refine wpAnyH_take (i := 1) (oi := ⟨some 66, _, _, _, _, _⟩) (v := .int .i64 y) rfl (by kernel_rfl) (by kernel_rfl) (by kernel_rfl) (fun _ _ _ h => h) (Or.inl ⟨by rfl, fun W hSW => by go_simp⟩) hHeld ?_
          simp only [Act.put, List.setIfInBounds_toArray, List.set_cons_zero, List.set_cons_succ]
          refine wpAnyH_take (i := 2) (oi := ⟨some 67, _, _, _, _, _⟩) (v := .pointer (some ⟨w.heap.size, 2, none⟩)) rfl (by kernel_rfl) (by kernel_rfl) (by kernel_rfl) (fun _ _ _ h => h) (Or.inl ⟨by rfl, fun W hSW => by go_simp⟩) hHeld ?_
          simp only [Act.put, List.setIfInBounds_toArray, List.set_cons_zero, List.set_cons_succ]
          refine wpAnyH_take (i := 3) (oi := ⟨some 68, _, _, _, _, _⟩) (v := .int .i64 Z) rfl (by kernel_rfl) (by kernel_rfl) (by kernel_rfl) (fun _ _ _ h => h) (Or.inl ⟨by rfl, fun W hSW => by have a0 := far_cell hSW hzn hwgw k2; clear hSW; go_simp⟩) hHeld ?_
          simp only [Act.put, List.setIfInBounds_toArray, List.set_cons_zero, List.set_cons_succ]
          refine wpAnyH_take (i := 4) (oi := ⟨some 69, _, _, _, _, _⟩) (v := .int .i64 p1) rfl (by kernel_rfl) (by kernel_rfl) (by kernel_rfl) (fun _ _ _ h => h) (Or.inl ⟨by rfl, fun W hSW => by go_simp <;> first | exact V1.out | exact E1.out | (rw [E1.out]; exact V1.out)⟩) hHeld ?_
          simp only [Act.put, List.setIfInBounds_toArray, List.set_cons_zero, List.set_cons_succ]
          refine wpAnyH_take (i := 5) (oi := ⟨some 70, _, _, _, _, _⟩) (v := .int .i64 z) rfl (by kernel_rfl) (by kernel_rfl) (by kernel_rfl) (fun _ _ _ h => h) (Or.inl ⟨by rfl, fun W hSW => by go_simp⟩) hHeld ?_
          simp only [Act.put, List.setIfInBounds_toArray, List.set_cons_zero, List.set_cons_succ]
          refine wpAnyH_take (i := 6) (oi := ⟨some 71, _, _, _, _, _⟩) (v := .int .i64 p2) rfl (by kernel_rfl) (by kernel_rfl) (by kernel_rfl) (fun _ _ _ h => h) (Or.inl ⟨by rfl, fun W hSW => by go_simp <;> first | exact V2.out | exact E2.out | (rw [E2.out]; exact V2.out)⟩) hHeld ?_
          simp only [Act.put, List.setIfInBounds_toArray, List.set_cons_zero, List.set_cons_succ]
          refine wpAnyH_take (i := 7) (oi := ⟨some 72, _, _, _, _, _⟩) (v := .pointer (some ⟨w.heap.size, 0, none⟩)) rfl (by kernel_rfl) (by kernel_rfl) (by kernel_rfl) (fun _ _ _ h => h) (Or.inl ⟨by rfl, fun W hSW => by go_simp⟩) hHeld ?_
          simp only [Act.put, List.setIfInBounds_toArray, List.set_cons_zero, List.set_cons_succ]
          refine wpAnyH_take (i := 8) (oi := ⟨some 73, _, _, _, _, _⟩) (v := .int .i64 X) rfl (by kernel_rfl) (by kernel_rfl) (by kernel_rfl) (fun _ _ _ h => h) (Or.inl ⟨by rfl, fun W hSW => by have a0 := far_cell hSW hzn hwgw k0; clear hSW; go_simp⟩) hHeld ?_
          simp only [Act.put, List.setIfInBounds_toArray, List.set_cons_zero, List.set_cons_succ]
          refine wpAnyH_take (i := 9) (oi := ⟨some 74, _, _, _, _, _⟩) (v := .int .i64 p3) rfl (by kernel_rfl) (by kernel_rfl) (by kernel_rfl) (fun _ _ _ h => h) (Or.inl ⟨by rfl, fun W hSW => by go_simp <;> first | exact V3.out | exact E3.out | (rw [E3.out]; exact V3.out)⟩) hHeld ?_
          simp only [Act.put, List.setIfInBounds_toArray, List.set_cons_zero, List.set_cons_succ]
          refine wpAnyH_take (i := 10) (oi := ⟨some 75, _, _, _, _, _⟩) (v := .pointer (some ⟨w.heap.size, 0, none⟩)) rfl (by kernel_rfl) (by kernel_rfl) (by kernel_rfl) (fun _ _ _ h => h) (Or.inl ⟨by rfl, fun W hSW => by go_simp⟩) hHeld ?_
          simp only [Act.put, List.setIfInBounds_toArray, List.set_cons_zero, List.set_cons_succ]
          refine wpAnyH_take (i := 11) (oi := ⟨some 76, _, _, _, _, _⟩) (v := .int .i64 X) rfl (by kernel_rfl) (by kernel_rfl) (by kernel_rfl) (fun _ _ _ h => h) (Or.inl ⟨by rfl, fun W hSW => by have a0 := far_cell hSW hzn hwgw k0; clear hSW; go_simp⟩) hHeld ?_
          simp only [Act.put, List.setIfInBounds_toArray, List.set_cons_zero, List.set_cons_succ]
          refine wpAnyH_take (i := 12) (oi := ⟨some 77, _, _, _, _, _⟩) (v := .int .i64 p4) rfl (by kernel_rfl) (by kernel_rfl) (by kernel_rfl) (fun _ _ _ h => h) (Or.inl ⟨by rfl, fun W hSW => by go_simp <;> first | exact V4.out | exact E4.out | (rw [E4.out]; exact V4.out)⟩) hHeld ?_
          simp only [Act.put, List.setIfInBounds_toArray, List.set_cons_zero, List.set_cons_succ]
          refine wpAnyH_take (i := 13) (oi := ⟨some 78, _, _, _, _, _⟩) (v := .int .i64 p5) rfl (by kernel_rfl) (by kernel_rfl) (by kernel_rfl) (fun _ _ _ h => h) (Or.inl ⟨by rfl, fun W hSW => by go_simp <;> first | exact V5.out | exact E5.out | (rw [E5.out]; exact V5.out)⟩) hHeld ?_
          simp only [Act.put, List.setIfInBounds_toArray, List.set_cons_zero, List.set_cons_succ]
          refine wpAnyH_take (i := 14) (oi := ⟨some 79, _, _, _, _, _⟩) (v := .int .i64 x) rfl (by kernel_rfl) (by kernel_rfl) (by kernel_rfl) (fun _ _ _ h => h) (Or.inl ⟨by rfl, fun W hSW => by go_simp⟩) hHeld ?_
          simp only [Act.put, List.setIfInBounds_toArray, List.set_cons_zero, List.set_cons_succ]
          refine wpAnyH_take (i := 15) (oi := ⟨some 80, _, _, _, _, _⟩) (v := .int .i64 p6) rfl (by kernel_rfl) (by kernel_rfl) (by kernel_rfl) (fun _ _ _ h => h) (Or.inl ⟨by rfl, fun W hSW => by go_simp <;> first | exact V6.out | exact E6.out | (rw [E6.out]; exact V6.out)⟩) hHeld ?_
          simp only [Act.put, List.setIfInBounds_toArray, List.set_cons_zero, List.set_cons_succ]
          refine wpAnyH_take (i := 16) (oi := ⟨some 81, _, _, _, _, _⟩) (v := .pointer (some ⟨w.heap.size, 3, none⟩)) rfl (by kernel_rfl) (by kernel_rfl) (by kernel_rfl) (fun _ _ _ h => h) (Or.inl ⟨by rfl, fun W hSW => by go_simp⟩) hHeld ?_
          simp only [Act.put, List.setIfInBounds_toArray, List.set_cons_zero, List.set_cons_succ]
          refine wpAnyH_take (i := 17) (oi := ⟨some 82, _, _, _, _, _⟩) (v := .slice (some ⟨bb, oo, none⟩) n c) rfl (by kernel_rfl) (by kernel_rfl) (by kernel_rfl) (fun _ _ _ h => h) (Or.inl ⟨by rfl, fun W hSW => by have a0 := far_cell hSW hzn hwgw k3; clear hSW; go_simp⟩) hHeld ?_
          simp only [Act.put, List.setIfInBounds_toArray, List.set_cons_zero, List.set_cons_succ]
          refine wpAnyH_take (i := 18) (oi := ⟨some 83, _, _, _, _, _⟩) (v := .int .i64 j) rfl (by kernel_rfl) (by kernel_rfl) (by kernel_rfl) (fun _ _ _ h => h) (Or.inl ⟨by rfl, fun W hSW => by go_simp⟩) hHeld ?_
          simp only [Act.put, List.setIfInBounds_toArray, List.set_cons_zero, List.set_cons_succ]
          refine wpAnyH_take (i := 19) (oi := ⟨some 84, _, _, _, _, _⟩) (v := .pointer (some ⟨bb, oo + j * 2, none⟩)) rfl (by kernel_rfl) (by kernel_rfl) (by kernel_rfl) (fun _ _ _ h => h) (Or.inl ⟨by rfl, fun W hSW => by go_simp⟩) hHeld ?_
          simp only [Act.put, List.setIfInBounds_toArray, List.set_cons_zero, List.set_cons_succ]
          refine wpAnyH_take (i := 20) (oi := ⟨some 85, _, _, _, _, _⟩) (v := .agg #[.int .u8 kk, .int .u8 ll]) rfl (by kernel_rfl) (by kernel_rfl) (by kernel_rfl) (fun _ _ _ h => h) (Or.inl ⟨by rfl, fun W hSW => by have a0 := far_cell hSW hbn' hbgw c0; have a1 := far_cell hSW hbn' hbgw c1; clear hSW; go_simp⟩) hHeld ?_
          simp only [Act.put, List.setIfInBounds_toArray, List.set_cons_zero, List.set_cons_succ]
          refine wpAnyH_take (i := 21) (oi := ⟨some 86, _, _, _, _, _⟩) (v := .pointer (some ⟨gw, p6 * 2, none⟩)) rfl (by kernel_rfl) (by kernel_rfl) (by kernel_rfl) (fun _ _ _ h => h) (Or.inl ⟨by rfl, fun W hSW => by go_simp⟩) hHeld ?_
          simp only [Act.put, List.setIfInBounds_toArray, List.set_cons_zero, List.set_cons_succ]
          refine wpAnyH_ready (rs := [22]) (by kernel_rfl) (by simp) ?_
          refine AllReadyH.cons (o := ⟨none, _, _, _, _, _⟩) rfl (fun K hK => ?_) AllReadyH.nil
          go_simp
          refine hK.out _ _ (((hHeld).trans (setCell_grown _ _ _ _)).trans (setCell_grown _ _ _ _)) (fun hHeld => ?_)
          clear hK K
          refine wpAnyH_done (by kernel_rfl) ?_ _
          refine NoPanic.normal ?_
          clear hHeld k0 k1 k2 k3 c0 c1 s0 s1 q0 q1
          go_wp2_with fail
          refine HeldP.wp_named (fun W => Blk W gw 32 (flat enc2 (turnL (GlowP.tW X Z) cs (j + 1))) ∧ Blk W ga 32 (flat enc2 (turnL (GlowP.tA X Z) cs j)) ∧ Below w1.heap.size w1 W ∧ wn.grownBy W (some gw)) ⟨?_, (HDA.out.other hagw _).other hagw _, ((HBN.out.drew).setCell hw1gw _).setCell hw1gw _, ((drew_by _ _).trans (setCell_grown _ _ _ _)).trans (setCell_grown _ _ _ _)⟩ ?_
          · rw [turn_succ HX.out, ← TW.out]
            have e1 : (flat enc2 (turnL (GlowP.tW X Z) cs j)).set (p6 * 2) (.int .u8 kk) = flat enc2 ((turnL (GlowP.tW X Z) cs j).set p6 (kk, ow1)) := flat_set (e := enc2) (j := 0) (x := (ow0, ow1)) (y := (kk, ow1)) HOW.out (by decide) rfl
            have e2 : (flat enc2 ((turnL (GlowP.tW X Z) cs j).set p6 (kk, ow1))).set (p6 * 2 + 1) (.int .u8 ll) = flat enc2 ((turnL (GlowP.tW X Z) cs j).set p6 (kk, ll)) := by
              have h := flat_set (e := enc2) (j := 1) (x := (kk, ow1)) (y := (kk, ll)) (u := .int .u8 ll) (show ((turnL (GlowP.tW X Z) cs j).set p6 (kk, ow1))[p6]? = some (kk, ow1) from List.getElem?_set_self (List.getElem?_eq_some_iff.1 HOW.out).1) (by decide) rfl
              rw [List.set_set] at h
              exact h
            exact (HDW.out.setTo e1).setTo e2
          rintro wm ⟨hdw, hda, hbn, hgm⟩
          have HDW := Lib.hid hdw
          have HDA := Lib.hid hda
          have HBN := Lib.hid hbn
          have hb := HBN.out
          have k0 := (hb.cell (p := ⟨w.heap.size, 0, none⟩) hz1).trans K0.out
          have k1 := (hb.cell (p := ⟨w.heap.size, 1, none⟩) hz1).trans K1.out
          have k2 := (hb.cell (p := ⟨w.heap.size, 2, none⟩) hz1).trans K2.out
          have k3 := (hb.cell (p := ⟨w.heap.size, 3, none⟩) hz1).trans K3.out
          have c0 := far_cell hgm hbn' hbgw ((HBC.out.cell (p := ⟨bb, oo + j * 2, none⟩) hblw).trans C0.out)
          have c1 := far_cell hgm hbn' hbgw ((HBC.out.cell (p := ⟨bb, oo + j * 2 + 1, none⟩) hblw).trans C1.out)
          clear hbn' hzn
          have hzn : w.heap.size < wm.heap.size := by have := hb.size; omega
          have hbn' : bb < wm.heap.size := by have := hb.size; omega
          obtain ⟨⟨oa0, oa1⟩, hoa⟩ : ∃ x, (turnL (GlowP.tA X Z) cs j)[r4]? = some x := ⟨_, List.getElem?_eq_getElem (by rw [turn_len]; have := HN.out; omega)⟩
          obtain ⟨s0, s1⟩ := lit2' hda hoa
          have q0 := hda.frozen (r4 * 2)
          have q1 := hda.frozen (r4 * 2 + 1)
          have HOA := Lib.hid hoa
          clear hoa hdw hda hbn hb hgm
          refine wp_region_noPanic ?_
          refine wp_region_held_drew (S := fun W => wm.grownBy W (some ga)) (by kernel_rfl) (drew_by _ _) (fun hHeld => ?_)
          refine wpAnyH_take (i := 0) (oi := ⟨some 87, _, _, _, _, _⟩) (v := .slice (some ⟨ga, 0, none⟩) n n) rfl (by kernel_rfl) (by kernel_rfl) (by kernel_rfl) (fun _ _ _ h => h) (Or.inl ⟨by rfl, fun W hSW => by go_simp⟩) hHeld ?_
          simp only [Act.put, List.setIfInBounds_toArray, List.set_cons_zero, List.set_cons_succ]
          refine wpAnyH_take (i := 1) (oi := ⟨some 88, _, _, _, _, _⟩) (v := .int .i64 y) rfl (by kernel_rfl) (by kernel_rfl) (by kernel_rfl) (fun _ _ _ h => h) (Or.inl ⟨by rfl, fun W hSW => by go_simp⟩) hHeld ?_
          simp only [Act.put, List.setIfInBounds_toArray, List.set_cons_zero, List.set_cons_succ]
          refine wpAnyH_take (i := 2) (oi := ⟨some 89, _, _, _, _, _⟩) (v := .pointer (some ⟨w.heap.size, 0, none⟩)) rfl (by kernel_rfl) (by kernel_rfl) (by kernel_rfl) (fun _ _ _ h => h) (Or.inl ⟨by rfl, fun W hSW => by go_simp⟩) hHeld ?_
          simp only [Act.put, List.setIfInBounds_toArray, List.set_cons_zero, List.set_cons_succ]
          refine wpAnyH_take (i := 3) (oi := ⟨some 90, _, _, _, _, _⟩) (v := .int .i64 X) rfl (by kernel_rfl) (by kernel_rfl) (by kernel_rfl) (fun _ _ _ h => h) (Or.inl ⟨by rfl, fun W hSW => by have a0 := far_cell hSW hzn hwga' k0; clear hSW; go_simp⟩) hHeld ?_
          simp only [Act.put, List.setIfInBounds_toArray, List.set_cons_zero, List.set_cons_succ]
          refine wpAnyH_take (i := 4) (oi := ⟨some 91, _, _, _, _, _⟩) (v := .int .i64 r1) rfl (by kernel_rfl) (by kernel_rfl) (by kernel_rfl) (fun _ _ _ h => h) (Or.inl ⟨by rfl, fun W hSW => by go_simp <;> first | exact U1.out | exact F1.out | (rw [F1.out]; exact U1.out)⟩) hHeld ?_
          simp only [Act.put, List.setIfInBounds_toArray, List.set_cons_zero, List.set_cons_succ]
          refine wpAnyH_take (i := 5) (oi := ⟨some 92, _, _, _, _, _⟩) (v := .int .i64 x) rfl (by kernel_rfl) (by kernel_rfl) (by kernel_rfl) (fun _ _ _ h => h) (Or.inl ⟨by rfl, fun W hSW => by go_simp⟩) hHeld ?_
          simp only [Act.put, List.setIfInBounds_toArray, List.set_cons_zero, List.set_cons_succ]
          refine wpAnyH_take (i := 6) (oi := ⟨some 93, _, _, _, _, _⟩) (v := .int .i64 r2) rfl (by kernel_rfl) (by kernel_rfl) (by kernel_rfl) (fun _ _ _ h => h) (Or.inl ⟨by rfl, fun W hSW => by go_simp <;> first | exact U2.out | exact F2.out | (rw [F2.out]; exact U2.out)⟩) hHeld ?_
          simp only [Act.put, List.setIfInBounds_toArray, List.set_cons_zero, List.set_cons_succ]
          refine wpAnyH_take (i := 7) (oi := ⟨some 94, _, _, _, _, _⟩) (v := .pointer (some ⟨w.heap.size, 2, none⟩)) rfl (by kernel_rfl) (by kernel_rfl) (by kernel_rfl) (fun _ _ _ h => h) (Or.inl ⟨by rfl, fun W hSW => by go_simp⟩) hHeld ?_
          simp only [Act.put, List.setIfInBounds_toArray, List.set_cons_zero, List.set_cons_succ]
          refine wpAnyH_take (i := 8) (oi := ⟨some 95, _, _, _, _, _⟩) (v := .int .i64 Z) rfl (by kernel_rfl) (by kernel_rfl) (by kernel_rfl) (fun _ _ _ h => h) (Or.inl ⟨by rfl, fun W hSW => by have a0 := far_cell hSW hzn hwga' k2; clear hSW; go_simp⟩) hHeld ?_
          simp only [Act.put, List.setIfInBounds_toArray, List.set_cons_zero, List.set_cons_succ]
          refine wpAnyH_take (i := 9) (oi := ⟨some 96, _, _, _, _, _⟩) (v := .int .i64 r3) rfl (by kernel_rfl) (by kernel_rfl) (by kernel_rfl) (fun _ _ _ h => h) (Or.inl ⟨by rfl, fun W hSW => by go_simp <;> first | exact U3.out | exact F3.out | (rw [F3.out]; exact U3.out)⟩) hHeld ?_
          simp only [Act.put, List.setIfInBounds_toArray, List.set_cons_zero, List.set_cons_succ]
          refine wpAnyH_take (i := 10) (oi := ⟨some 97, _, _, _, _, _⟩) (v := .int .i64 z) rfl (by kernel_rfl) (by kernel_rfl) (by kernel_rfl) (fun _ _ _ h => h) (Or.inl ⟨by rfl, fun W hSW => by go_simp⟩) hHeld ?_
          simp only [Act.put, List.setIfInBounds_toArray, List.set_cons_zero, List.set_cons_succ]
          refine wpAnyH_take (i := 11) (oi := ⟨some 98, _, _, _, _, _⟩) (v := .int .i64 r4) rfl (by kernel_rfl) (by kernel_rfl) (by kernel_rfl) (fun _ _ _ h => h) (Or.inl ⟨by rfl, fun W hSW => by go_simp <;> first | exact U4.out | exact F4.out | (rw [F4.out]; exact U4.out)⟩) hHeld ?_
          simp only [Act.put, List.setIfInBounds_toArray, List.set_cons_zero, List.set_cons_succ]
          refine wpAnyH_take (i := 12) (oi := ⟨some 99, _, _, _, _, _⟩) (v := .pointer (some ⟨w.heap.size, 3, none⟩)) rfl (by kernel_rfl) (by kernel_rfl) (by kernel_rfl) (fun _ _ _ h => h) (Or.inl ⟨by rfl, fun W hSW => by go_simp⟩) hHeld ?_
          simp only [Act.put, List.setIfInBounds_toArray, List.set_cons_zero, List.set_cons_succ]
          refine wpAnyH_take (i := 13) (oi := ⟨some 100, _, _, _, _, _⟩) (v := .slice (some ⟨bb, oo, none⟩) n c) rfl (by kernel_rfl) (by kernel_rfl) (by kernel_rfl) (fun _ _ _ h => h) (Or.inl ⟨by rfl, fun W hSW => by have a0 := far_cell hSW hzn hwga' k3; clear hSW; go_simp⟩) hHeld ?_
          simp only [Act.put, List.setIfInBounds_toArray, List.set_cons_zero, List.set_cons_succ]
          refine wpAnyH_take (i := 14) (oi := ⟨some 101, _, _, _, _, _⟩) (v := .int .i64 j) rfl (by kernel_rfl) (by kernel_rfl) (by kernel_rfl) (fun _ _ _ h => h) (Or.inl ⟨by rfl, fun W hSW => by go_simp⟩) hHeld ?_
          simp only [Act.put, List.setIfInBounds_toArray, List.set_cons_zero, List.set_cons_succ]
          refine wpAnyH_take (i := 15) (oi := ⟨some 102, _, _, _, _, _⟩) (v := .pointer (some ⟨bb, oo + j * 2, none⟩)) rfl (by kernel_rfl) (by kernel_rfl) (by kernel_rfl) (fun _ _ _ h => h) (Or.inl ⟨by rfl, fun W hSW => by go_simp⟩) hHeld ?_
          simp only [Act.put, List.setIfInBounds_toArray, List.set_cons_zero, List.set_cons_succ]
          refine wpAnyH_take (i := 16) (oi := ⟨some 103, _, _, _, _, _⟩) (v := .agg #[.int .u8 kk, .int .u8 ll]) rfl (by kernel_rfl) (by kernel_rfl) (by kernel_rfl) (fun _ _ _ h => h) (Or.inl ⟨by rfl, fun W hSW => by have a0 := far_cell hSW hbn' hbga c0; have a1 := far_cell hSW hbn' hbga c1; clear hSW; go_simp⟩) hHeld ?_
          simp only [Act.put, List.setIfInBounds_toArray, List.set_cons_zero, List.set_cons_succ]
          refine wpAnyH_take (i := 17) (oi := ⟨some 104, _, _, _, _, _⟩) (v := .pointer (some ⟨ga, r4 * 2, none⟩)) rfl (by kernel_rfl) (by kernel_rfl) (by kernel_rfl) (fun _ _ _ h => h) (Or.inl ⟨by rfl, fun W hSW => by go_simp⟩) hHeld ?_
          simp only [Act.put, List.setIfInBounds_toArray, List.set_cons_zero, List.set_cons_succ]
          refine wpAnyH_ready (rs := [18]) (by kernel_rfl) (by simp) ?_
          refine AllReadyH.cons (o := ⟨none, _, _, _, _, _⟩) rfl (fun K hK => ?_) AllReadyH.nil
          go_simp
          refine hK.out _ _ (((hHeld).trans (setCell_grown _ _ _ _)).trans (setCell_grown _ _ _ _)) (fun hHeld => ?_)
          clear hK K
          refine wpAnyH_done (by kernel_rfl) ?_ _
          refine NoPanic.normal ?_
          clear hHeld k0 k1 k2 k3 c0 c1 s0 s1 q0 q1
          go_wp2_with fail
          go_roundw
          case rel =>
            refine ⟨j + 1, by go_num, by omega, (HDW.out.other hwga _).other hwga _, ?_, ((HBN.out.drew).setCell hw1ga _).setCell hw1ga _⟩
            rw [turn_succ HX.out, ← TA.out]
            have e1 : (flat enc2 (turnL (GlowP.tA X Z) cs j)).set (r4 * 2) (.int .u8 kk) = flat enc2 ((turnL (GlowP.tA X Z) cs j).set r4 (kk, oa1)) := flat_set (e := enc2) (j := 0) (x := (oa0, oa1)) (y := (kk, oa1)) HOA.out (by decide) rfl
            have e2 : (flat enc2 ((turnL (GlowP.tA X Z) cs j).set r4 (kk, oa1))).set (r4 * 2 + 1) (.int .u8 ll) = flat enc2 ((turnL (GlowP.tA X Z) cs j).set r4 (kk, ll)) := by
              have h := flat_set (e := enc2) (j := 1) (x := (kk, oa1)) (y := (kk, ll)) (u := .int .u8 ll) (show ((turnL (GlowP.tA X Z) cs j).set r4 (kk, oa1))[r4]? = some (kk, oa1) from List.getElem?_set_self (List.getElem?_eq_some_iff.1 HOA.out).1) (by decide) rfl
              rw [List.set_set] at h
              exact h
            exact (HDA.out.setTo e1).setTo e2
          case measure => first | (simp [intOf]; done) | (simp [intOf]; omega)
        · obtain rfl : n = j := by omega
          have HLW := Lib.hid (show n = (turnL (GlowP.tW X Z) cs n).length by rw [turn_len]; exact HN.out)
          have HLA := Lib.hid (show n = (turnL (GlowP.tA X Z) cs n).length by rw [turn_len]; exact HN.out)
          have HZYX := Lib.hid (show Z * Y * X = n by rw [← HXYZ.out]; ac_rfl)
          have HG2 := Lib.hid (HG1.out.below hb)
          clear hb hdw hda
          go_wp2_with (go_at_call 14; refine Classical.byContradiction (fun hG => ?_))
          refine hG ?_
          clear hG
          refine (light_c ((HT.out.below HW1.out).below HB.out) (rd_blk HDW.out HLW.out (by omega)) HLW.out hX hY hZ HXYZ.out hn2).mono ?_
          rintro e w5 ⟨gm, rfl, hgm, hgem, hb5⟩
          have HGM := Lib.hid hgm
          have HB5 := Lib.hid (HB.out.trans (hb5.mono HB.out.size))
          have HDA5 := Lib.hid (HDA.out.below hb5)
          have HG5 := Lib.hid (HG2.out.below hb5)
          have hb := HB5.out
          have hr5 := hb5.size
          clear k0 k1 k2 k3
          have k0 := (hb.cell (p := ⟨w.heap.size, 0, none⟩) hz1).trans K0.out
          have k1 := (hb.cell (p := ⟨w.heap.size, 1, none⟩) hz1).trans K1.out
          have k2 := (hb.cell (p := ⟨w.heap.size, 2, none⟩) hz1).trans K2.out
          have k3 := (hb.cell (p := ⟨w.heap.size, 3, none⟩) hz1).trans K3.out
          clear hb hgm hb5
          go_wp2_with (go_at_call 14; refine Classical.byContradiction (fun hG => ?_))
          refine hG ?_
          clear hG
          refine (light_c ((HT.out.below HW1.out).below HB5.out) (rd_blk HDA5.out HLA.out (by omega)) HLA.out hZ hY hX HZYX.out hn2).mono ?_
          rintro e w6 ⟨gn, rfl, hgn, hgen, hb6⟩
          have HGN := Lib.hid hgn
          have HGM6 := Lib.hid (HGM.out.below hb6)
          have HG6 := Lib.hid (HG5.out.below hb6)
          have HB6 := Lib.hid (HB5.out.trans (hb6.mono HB5.out.size))
          have hr6 := hb6.size
          have hb := HB6.out
          clear k0 k1 k2 k3
          have k0 := (hb.cell (p := ⟨w.heap.size, 0, none⟩) hz1).trans K0.out
          have k1 := (hb.cell (p := ⟨w.heap.size, 1, none⟩) hz1).trans K1.out
          have k2 := (hb.cell (p := ⟨w.heap.size, 2, none⟩) hz1).trans K2.out
          have k3 := (hb.cell (p := ⟨w.heap.size, 3, none⟩) hz1).trans K3.out
          have K0 := Lib.hid k0
          have K1 := Lib.hid k1
          have K2 := Lib.hid k2
          have K3 := Lib.hid k3
          have hz6 : w.heap.size < w6.heap.size := by have := hb.size; omega
          clear hb hgn hb6
          have hg6 := HG6.out.lt
          have hgm6 := HGM6.out.lt
          have hgn6 := HGN.out.lt
          go_wp2_with fail
          go_loopw [15] (CntT w6 n) (fun v _ => n - (intOf v).toNat)
          case atStart => exact ⟨0, rfl, by omega, Below.refl _ _⟩
          case round =>
            clear k0 k1 k2 k3
            obtain ⟨j, rfl, hj, hb⟩ := hrel
            have HB := Lib.hid hb
            have hzr := hb.size
            have k0 := (hb.cell (p := ⟨w.heap.size, 0, none⟩) hz6).trans K0.out
            have k1 := (hb.cell (p := ⟨w.heap.size, 1, none⟩) hz6).trans K1.out
            have k2 := (hb.cell (p := ⟨w.heap.size, 2, none⟩) hz6).trans K2.out
            have k3 := (hb.cell (p := ⟨w.heap.size, 3, none⟩) hz6).trans K3.out
            by_cases hlt : j < n
            · have hjI : (j : Int) < n := by omega
              have hj0 : (0 : Int) ≤ (j : Int) := by omega
              obtain ⟨x, d, z, y, p1, p2, p3, p4, p5, p6, r1, r2, r3, r4, hM1, hQ1, hM2, hQ2, hE1, hE2, hE3, hE4, hE5, hE6, hTW, hF1, hF2, hF3, hF4, hTA, hB6, hBA, hVD, hVY, hV1, hV2, hV3, hV4, hV5, hV6, hU1, hU2, hU3, hU4, bd_x, bd_d, bd_z, bd_y, bd_p1, bd_p2, bd_p3, bd_p4, bd_p5, bd_p6, bd_r1, bd_r2, bd_r3, bd_r4⟩ := turn_nums (j := j) hX.2 HXYZ.out (by omega) hlt
              have M1 := Lib.hid hM1
              have Q1 := Lib.hid hQ1
              have M2 := Lib.hid hM2
              have Q2 := Lib.hid hQ2
              have E1 := Lib.hid hE1
              have E2 := Lib.hid hE2
              have E3 := Lib.hid hE3
              have E4 := Lib.hid hE4
              have E5 := Lib.hid hE5
              have E6 := Lib.hid hE6
              have TW := Lib.hid hTW
              have F1 := Lib.hid hF1
              have F2 := Lib.hid hF2
              have F3 := Lib.hid hF3
              have F4 := Lib.hid hF4
              have TA := Lib.hid hTA
              have B6 := Lib.hid hB6
              have BA := Lib.hid hBA
              have VD := Lib.hid hVD
              have VY := Lib.hid hVY
              have V1 := Lib.hid hV1
              have V2 := Lib.hid hV2
              have V3 := Lib.hid hV3
              have V4 := Lib.hid hV4
              have V5 := Lib.hid hV5
              have V6 := Lib.hid hV6
              have U1 := Lib.hid hU1
              have U2 := Lib.hid hU2
              have U3 := Lib.hid hU3
              have U4 := Lib.hid hU4
              have hp6I : (p6 : Int) < n := by omega
              have hr4I : (r4 : Int) < n := by omega
              have hp60 : (0 : Int) ≤ (p6 : Int) := by omega
              have hr40 : (0 : Int) ≤ (r4 : Int) := by omega
              clear hE1 hE2 hE3 hE4 hE5 hE6 hTW hF1 hF2 hF3 hF4 hTA hB6 hBA hVD hVY hV1 hV2 hV3 hV4 hV5 hV6 hU1 hU2 hU3 hU4
              obtain ⟨a, ha⟩ : ∃ a, (lightA X Y Z cs)[j]? = some a := ⟨_, List.getElem?_eq_getElem (by rw [lightA_len, HXYZ.out]; exact hlt)⟩
              obtain ⟨a0, a1⟩ := a
              have hcl : cs.length = X * Y * Z := by have := HN.out; have := HXYZ.out; omega
              have hjl : j < X * Y * Z := by have := HXYZ.out; omega
              have hw := west_light hcl hjl
              have hab := about_light hcl hjl
              rw [← TW.out, ← HN.out, ha] at hw
              rw [← TA.out, ← HN.out, ha] at hab
              obtain ⟨y0, y1⟩ := lit2 (HG6.out.below hb) ha
              obtain ⟨m0, m1⟩ := lit2 (HGM6.out.below hb) hw
              obtain ⟨n0, n1⟩ := lit2 (HGN.out.below hb) hab
              have hzn : w.heap.size < wr.heap.size := by omega
              have HS := Lib.hid (And.intro y0 (And.intro y1 (And.intro m0 (And.intro m1 (And.intro n0 n1)))))
              clear ha hw hab hcl hjl hb y0 y1 m0 m1 n0 n1
              go_wp2_with fail
              refine wp_region_noPanic ?_
              refine wp_region_held_drew (S := fun W => Below wr.heap.size wr W) (by kernel_rfl) ((Below.refl _ wr).drew) (fun hHeld => ?_)
              refine wpAnyH_take (i := 0) (oi := ⟨some 155, _, _, _, _, _⟩) (v := .int .i64 j) rfl (by kernel_rfl) (by kernel_rfl) (by kernel_rfl) (fun _ _ _ h => h) (Or.inl ⟨by rfl, fun W hSW => by go_simp⟩) hHeld ?_
              simp only [Act.put, List.setIfInBounds_toArray, List.set_cons_zero, List.set_cons_succ]
              refine wpAnyH_take (i := 1) (oi := ⟨some 156, _, _, _, _, _⟩) (v := .pointer (some ⟨w.heap.size, 0, none⟩)) rfl (by kernel_rfl) (by kernel_rfl) (by kernel_rfl) (fun _ _ _ h => h) (Or.inl ⟨by rfl, fun W hSW => by go_simp⟩) hHeld ?_
              simp only [Act.put, List.setIfInBounds_toArray, List.set_cons_zero, List.set_cons_succ]
              refine wpAnyH_take (i := 2) (oi := ⟨some 157, _, _, _, _, _⟩) (v := .int .i64 X) rfl (by kernel_rfl) (by kernel_rfl) (by kernel_rfl) (fun _ _ _ h => h) (Or.inl ⟨by rfl, fun W hSW => by have a0 := (hSW.cell (p := ⟨w.heap.size, 0, none⟩) hzn).trans k0; go_simp⟩) hHeld ?_
              simp only [Act.put, List.setIfInBounds_toArray, List.set_cons_zero, List.set_cons_succ]
              refine wpAnyH_take (i := 3) (oi := ⟨some 158, _, _, _, _, _⟩) (v := .int .i64 x) rfl (by kernel_rfl) (by kernel_rfl) (by kernel_rfl) (fun _ _ _ h => h) (Or.inl ⟨by rfl, fun W hSW => by go_simp⟩) hHeld ?_
              simp only [Act.put, List.setIfInBounds_toArray, List.set_cons_zero, List.set_cons_succ]
              refine wpAnyH_take (i := 4) (oi := ⟨some 159, _, _, _, _, _⟩) (v := .int .i64 j) rfl (by kernel_rfl) (by kernel_rfl) (by kernel_rfl) (fun _ _ _ h => h) (Or.inl ⟨by rfl, fun W hSW => by go_simp⟩) hHeld ?_
              simp only [Act.put, List.setIfInBounds_toArray, List.set_cons_zero, List.set_cons_succ]
              refine wpAnyH_take (i := 5) (oi := ⟨some 160, _, _, _, _, _⟩) (v := .pointer (some ⟨w.heap.size, 0, none⟩)) rfl (by kernel_rfl) (by kernel_rfl) (by kernel_rfl) (fun _ _ _ h => h) (Or.inl ⟨by rfl, fun W hSW => by go_simp⟩) hHeld ?_
              simp only [Act.put, List.setIfInBounds_toArray, List.set_cons_zero, List.set_cons_succ]
              refine wpAnyH_take (i := 6) (oi := ⟨some 161, _, _, _, _, _⟩) (v := .int .i64 X) rfl (by kernel_rfl) (by kernel_rfl) (by kernel_rfl) (fun _ _ _ h => h) (Or.inl ⟨by rfl, fun W hSW => by have a0 := (hSW.cell (p := ⟨w.heap.size, 0, none⟩) hzn).trans k0; go_simp⟩) hHeld ?_
              simp only [Act.put, List.setIfInBounds_toArray, List.set_cons_zero, List.set_cons_succ]
              refine wpAnyH_take (i := 7) (oi := ⟨some 162, _, _, _, _, _⟩) (v := .int .i64 d) rfl (by kernel_rfl) (by kernel_rfl) (by kernel_rfl) (fun _ _ _ h => h) (Or.inl ⟨by rfl, fun W hSW => by go_simp <;> exact VD.out⟩) hHeld ?_
              simp only [Act.put, List.setIfInBounds_toArray, List.set_cons_zero, List.set_cons_succ]
              refine wpAnyH_take (i := 8) (oi := ⟨some 163, _, _, _, _, _⟩) (v := .pointer (some ⟨w.heap.size, 2, none⟩)) rfl (by kernel_rfl) (by kernel_rfl) (by kernel_rfl) (fun _ _ _ h => h) (Or.inl ⟨by rfl, fun W hSW => by go_simp⟩) hHeld ?_
              simp only [Act.put, List.setIfInBounds_toArray, List.set_cons_zero, List.set_cons_succ]
              refine wpAnyH_take (i := 9) (oi := ⟨some 164, _, _, _, _, _⟩) (v := .int .i64 Z) rfl (by kernel_rfl) (by kernel_rfl) (by kernel_rfl) (fun _ _ _ h => h) (Or.inl ⟨by rfl, fun W hSW => by have a0 := (hSW.cell (p := ⟨w.heap.size, 2, none⟩) hzn).trans k2; go_simp⟩) hHeld ?_
              simp only [Act.put, List.setIfInBounds_toArray, List.set_cons_zero, List.set_cons_succ]
              refine wpAnyH_take (i := 10) (oi := ⟨some 165, _, _, _, _, _⟩) (v := .int .i64 z) rfl (by kernel_rfl) (by kernel_rfl) (by kernel_rfl) (fun _ _ _ h => h) (Or.inl ⟨by rfl, fun W hSW => by go_simp⟩) hHeld ?_
              simp only [Act.put, List.setIfInBounds_toArray, List.set_cons_zero, List.set_cons_succ]
              refine wpAnyH_take (i := 11) (oi := ⟨some 166, _, _, _, _, _⟩) (v := .int .i64 j) rfl (by kernel_rfl) (by kernel_rfl) (by kernel_rfl) (fun _ _ _ h => h) (Or.inl ⟨by rfl, fun W hSW => by go_simp⟩) hHeld ?_
              simp only [Act.put, List.setIfInBounds_toArray, List.set_cons_zero, List.set_cons_succ]
              refine wpAnyH_take (i := 12) (oi := ⟨some 167, _, _, _, _, _⟩) (v := .pointer (some ⟨w.heap.size, 0, none⟩)) rfl (by kernel_rfl) (by kernel_rfl) (by kernel_rfl) (fun _ _ _ h => h) (Or.inl ⟨by rfl, fun W hSW => by go_simp⟩) hHeld ?_
              simp only [Act.put, List.setIfInBounds_toArray, List.set_cons_zero, List.set_cons_succ]
              refine wpAnyH_take (i := 13) (oi := ⟨some 168, _, _, _, _, _⟩) (v := .int .i64 X) rfl (by kernel_rfl) (by kernel_rfl) (by kernel_rfl) (fun _ _ _ h => h) (Or.inl ⟨by rfl, fun W hSW => by have a0 := (hSW.cell (p := ⟨w.heap.size, 0, none⟩) hzn).trans k0; go_simp⟩) hHeld ?_
              simp only [Act.put, List.setIfInBounds_toArray, List.set_cons_zero, List.set_cons_succ]
              refine wpAnyH_take (i := 14) (oi := ⟨some 169, _, _, _, _, _⟩) (v := .int .i64 d) rfl (by kernel_rfl) (by kernel_rfl) (by kernel_rfl) (fun _ _ _ h => h) (Or.inl ⟨by rfl, fun W hSW => by go_simp <;> exact VD.out⟩) hHeld ?_
              simp only [Act.put, List.setIfInBounds_toArray, List.set_cons_zero, List.set_cons_succ]
              refine wpAnyH_take (i := 15) (oi := ⟨some 170, _, _, _, _, _⟩) (v := .pointer (some ⟨w.heap.size, 2, none⟩)) rfl (by kernel_rfl) (by kernel_rfl) (by kernel_rfl) (fun _ _ _ h => h) (Or.inl ⟨by rfl, fun W hSW => by go_simp⟩) hHeld ?_
              simp only [Act.put, List.setIfInBounds_toArray, List.set_cons_zero, List.set_cons_succ]
              refine wpAnyH_take (i := 16) (oi := ⟨some 171, _, _, _, _, _⟩) (v := .int .i64 Z) rfl (by kernel_rfl) (by kernel_rfl) (by kernel_rfl) (fun _ _ _ h => h) (Or.inl ⟨by rfl, fun W hSW => by have a0 := (hSW.cell (p := ⟨w.heap.size, 2, none⟩) hzn).trans k2; go_simp⟩) hHeld ?_
              simp only [Act.put, List.setIfInBounds_toArray, List.set_cons_zero, List.set_cons_succ]
              refine wpAnyH_take (i := 17) (oi := ⟨some 172, _, _, _, _, _⟩) (v := .int .i64 y) rfl (by kernel_rfl) (by kernel_rfl) (by kernel_rfl) (fun _ _ _ h => h) (Or.inl ⟨by rfl, fun W hSW => by go_simp <;> exact VY.out⟩) hHeld ?_
              simp only [Act.put, List.setIfInBounds_toArray, List.set_cons_zero, List.set_cons_succ]
              refine wpAnyH_ready (rs := [18]) (by kernel_rfl) (by simp) ?_
              refine AllReadyH.cons (o := ⟨some 16, _, _, _, _, _⟩) rfl (fun K hK => ?_) AllReadyH.nil
              go_simp
              refine hK.out _ _ hHeld (fun hHeld => ?_)
              clear hK K
              refine wpAnyH_ready (rs := [19]) (by kernel_rfl) (by simp) ?_
              refine AllReadyH.cons (o := ⟨some 17, _, _, _, _, _⟩) rfl (fun K hK => ?_) AllReadyH.nil
              go_simp
              refine hK.out _ _ hHeld (fun hHeld => ?_)
              clear hK K
              refine wpAnyH_ready (rs := [20]) (by kernel_rfl) (by simp) ?_
              refine AllReadyH.cons (o := ⟨some 18, _, _, _, _, _⟩) rfl (fun K hK => ?_) AllReadyH.nil
              go_simp
              refine hK.out _ _ hHeld (fun hHeld => ?_)
              clear hK K
              refine wpAnyH_done (by kernel_rfl) ?_ _
              refine NoPanic.normal ?_
              clear hM1 hQ1 hM2 hQ2 hHeld k0 k1 k2 k3 hzn
              go_wp2_with fail
              refine HeldP.wp_named (fun W => Below wr.heap.size wr W) ((Below.refl _ _).drew) ?_
              rintro wn hbn
              have HBN := Lib.hid (HB.out.trans (hbn.mono HB.out.size))
              have hb := HBN.out
              have k0 := (hb.cell (p := ⟨w.heap.size, 0, none⟩) hz6).trans K0.out
              have k1 := (hb.cell (p := ⟨w.heap.size, 1, none⟩) hz6).trans K1.out
              have k2 := (hb.cell (p := ⟨w.heap.size, 2, none⟩) hz6).trans K2.out
              have k3 := (hb.cell (p := ⟨w.heap.size, 3, none⟩) hz6).trans K3.out
              obtain ⟨y0, y1, m0, m1, n0, n1⟩ := HS.out
              replace y0 := (hbn.cell (p := ⟨g, j * 2, none⟩) (by show g < _; omega)).trans y0
              replace y1 := (hbn.cell (p := ⟨g, j * 2 + 1, none⟩) (by show g < _; omega)).trans y1
              replace m0 := (hbn.cell (p := ⟨gm, p6 * 2, none⟩) (by show gm < _; omega)).trans m0
              replace m1 := (hbn.cell (p := ⟨gm, p6 * 2 + 1, none⟩) (by show gm < _; omega)).trans m1
              replace n0 := (hbn.cell (p := ⟨gn, r4 * 2, none⟩) (by show gn < _; omega)).trans n0
              replace n1 := (hbn.cell (p := ⟨gn, r4 * 2 + 1, none⟩) (by show gn < _; omega)).trans n1
              have hzn : w.heap.size < wn.heap.size := by have := hb.size; omega
              have hgnL : g < wn.heap.size := by have := hb.size; omega
              have hgmn : gm < wn.heap.size := by have := hb.size; omega
              have hgnn : gn < wn.heap.size := by have := hb.size; omega
              clear hbn hb
              refine wp_region_noPanic ?_
              refine wp_region_held_drew (S := fun W => Below wn.heap.size wn W) (by kernel_rfl) ((Below.refl _ wn).drew) (fun hHeld => ?_)
              refine wpAnyH_take (i := 0) (oi := ⟨some 173, _, _, _, _, _⟩) (v := .slice (some ⟨gm, 0, none⟩) n n) rfl (by kernel_rfl) (by kernel_rfl) (by kernel_rfl) (fun _ _ _ h => h) (Or.inl ⟨by rfl, fun W hSW => by go_simp⟩) hHeld ?_
              simp only [Act.put, List.setIfInBounds_toArray, List.set_cons_zero, List.set_cons_succ]
              refine wpAnyH_take (i := 1) (oi := ⟨some 174, _, _, _, _, _⟩) (v := .int .i64 y) rfl (by kernel_rfl) (by kernel_rfl) (by kernel_rfl) (fun _ _ _ h => h) (Or.inl ⟨by rfl, fun W hSW => by go_simp⟩) hHeld ?_
              simp only [Act.put, List.setIfInBounds_toArray, List.set_cons_zero, List.set_cons_succ]
              refine wpAnyH_take (i := 2) (oi := ⟨some 175, _, _, _, _, _⟩) (v := .pointer (some ⟨w.heap.size, 2, none⟩)) rfl (by kernel_rfl) (by kernel_rfl) (by kernel_rfl) (fun _ _ _ h => h) (Or.inl ⟨by rfl, fun W hSW => by go_simp⟩) hHeld ?_
              simp only [Act.put, List.setIfInBounds_toArray, List.set_cons_zero, List.set_cons_succ]
              refine wpAnyH_take (i := 3) (oi := ⟨some 176, _, _, _, _, _⟩) (v := .int .i64 Z) rfl (by kernel_rfl) (by kernel_rfl) (by kernel_rfl) (fun _ _ _ h => h) (Or.inl ⟨by rfl, fun W hSW => by have a0 := (hSW.cell (p := ⟨w.heap.size, 2, none⟩) hzn).trans k2; go_simp⟩) hHeld ?_
              simp only [Act.put, List.setIfInBounds_toArray, List.set_cons_zero, List.set_cons_succ]
              refine wpAnyH_take (i := 4) (oi := ⟨some 177, _, _, _, _, _⟩) (v := .int .i64 p1) rfl (by kernel_rfl) (by kernel_rfl) (by kernel_rfl) (fun _ _ _ h => h) (Or.inl ⟨by rfl, fun W hSW => by go_simp <;> first | exact V1.out | exact E1.out | (rw [E1.out]; exact V1.out)⟩) hHeld ?_
              simp only [Act.put, List.setIfInBounds_toArray, List.set_cons_zero, List.set_cons_succ]
              refine wpAnyH_take (i := 5) (oi := ⟨some 178, _, _, _, _, _⟩) (v := .int .i64 z) rfl (by kernel_rfl) (by kernel_rfl) (by kernel_rfl) (fun _ _ _ h => h) (Or.inl ⟨by rfl, fun W hSW => by go_simp⟩) hHeld ?_
              simp only [Act.put, List.setIfInBounds_toArray, List.set_cons_zero, List.set_cons_succ]
              refine wpAnyH_take (i := 6) (oi := ⟨some 179, _, _, _, _, _⟩) (v := .int .i64 p2) rfl (by kernel_rfl) (by kernel_rfl) (by kernel_rfl) (fun _ _ _ h => h) (Or.inl ⟨by rfl, fun W hSW => by go_simp <;> first | exact V2.out | exact E2.out | (rw [E2.out]; exact V2.out)⟩) hHeld ?_
              simp only [Act.put, List.setIfInBounds_toArray, List.set_cons_zero, List.set_cons_succ]
              refine wpAnyH_take (i := 7) (oi := ⟨some 180, _, _, _, _, _⟩) (v := .pointer (some ⟨w.heap.size, 0, none⟩)) rfl (by kernel_rfl) (by kernel_rfl) (by kernel_rfl) (fun _ _ _ h => h) (Or.inl ⟨by rfl, fun W hSW => by go_simp⟩) hHeld ?_
              simp only [Act.put, List.setIfInBounds_toArray, List.set_cons_zero, List.set_cons_succ]
              refine wpAnyH_take (i := 8) (oi := ⟨some 181, _, _, _, _, _⟩) (v := .int .i64 X) rfl (by kernel_rfl) (by kernel_rfl) (by kernel_rfl) (fun _ _ _ h => h) (Or.inl ⟨by rfl, fun W hSW => by have a0 := (hSW.cell (p := ⟨w.heap.size, 0, none⟩) hzn).trans k0; go_simp⟩) hHeld ?_
              simp only [Act.put, List.setIfInBounds_toArray, List.set_cons_zero, List.set_cons_succ]
              refine wpAnyH_take (i := 9) (oi := ⟨some 182, _, _, _, _, _⟩) (v := .int .i64 p3) rfl (by kernel_rfl) (by kernel_rfl) (by kernel_rfl) (fun _ _ _ h => h) (Or.inl ⟨by rfl, fun W hSW => by go_simp <;> first | exact V3.out | exact E3.out | (rw [E3.out]; exact V3.out)⟩) hHeld ?_
              simp only [Act.put, List.setIfInBounds_toArray, List.set_cons_zero, List.set_cons_succ]
              refine wpAnyH_take (i := 10) (oi := ⟨some 183, _, _, _, _, _⟩) (v := .pointer (some ⟨w.heap.size, 0, none⟩)) rfl (by kernel_rfl) (by kernel_rfl) (by kernel_rfl) (fun _ _ _ h => h) (Or.inl ⟨by rfl, fun W hSW => by go_simp⟩) hHeld ?_
              simp only [Act.put, List.setIfInBounds_toArray, List.set_cons_zero, List.set_cons_succ]
              refine wpAnyH_take (i := 11) (oi := ⟨some 184, _, _, _, _, _⟩) (v := .int .i64 X) rfl (by kernel_rfl) (by kernel_rfl) (by kernel_rfl) (fun _ _ _ h => h) (Or.inl ⟨by rfl, fun W hSW => by have a0 := (hSW.cell (p := ⟨w.heap.size, 0, none⟩) hzn).trans k0; go_simp⟩) hHeld ?_
              simp only [Act.put, List.setIfInBounds_toArray, List.set_cons_zero, List.set_cons_succ]
              refine wpAnyH_take (i := 12) (oi := ⟨some 185, _, _, _, _, _⟩) (v := .int .i64 p4) rfl (by kernel_rfl) (by kernel_rfl) (by kernel_rfl) (fun _ _ _ h => h) (Or.inl ⟨by rfl, fun W hSW => by go_simp <;> first | exact V4.out | exact E4.out | (rw [E4.out]; exact V4.out)⟩) hHeld ?_
              simp only [Act.put, List.setIfInBounds_toArray, List.set_cons_zero, List.set_cons_succ]
              refine wpAnyH_take (i := 13) (oi := ⟨some 186, _, _, _, _, _⟩) (v := .int .i64 p5) rfl (by kernel_rfl) (by kernel_rfl) (by kernel_rfl) (fun _ _ _ h => h) (Or.inl ⟨by rfl, fun W hSW => by go_simp <;> first | exact V5.out | exact E5.out | (rw [E5.out]; exact V5.out)⟩) hHeld ?_
              simp only [Act.put, List.setIfInBounds_toArray, List.set_cons_zero, List.set_cons_succ]
              refine wpAnyH_take (i := 14) (oi := ⟨some 187, _, _, _, _, _⟩) (v := .int .i64 x) rfl (by kernel_rfl) (by kernel_rfl) (by kernel_rfl) (fun _ _ _ h => h) (Or.inl ⟨by rfl, fun W hSW => by go_simp⟩) hHeld ?_
              simp only [Act.put, List.setIfInBounds_toArray, List.set_cons_zero, List.set_cons_succ]
              refine wpAnyH_take (i := 15) (oi := ⟨some 188, _, _, _, _, _⟩) (v := .int .i64 p6) rfl (by kernel_rfl) (by kernel_rfl) (by kernel_rfl) (fun _ _ _ h => h) (Or.inl ⟨by rfl, fun W hSW => by go_simp <;> first | exact V6.out | exact E6.out | (rw [E6.out]; exact V6.out)⟩) hHeld ?_
              simp only [Act.put, List.setIfInBounds_toArray, List.set_cons_zero, List.set_cons_succ]
              refine wpAnyH_take (i := 16) (oi := ⟨some 189, _, _, _, _, _⟩) (v := .pointer (some ⟨gm, p6 * 2, none⟩)) rfl (by kernel_rfl) (by kernel_rfl) (by kernel_rfl) (fun _ _ _ h => h) (Or.inl ⟨by rfl, fun W hSW => by go_simp⟩) hHeld ?_
              simp only [Act.put, List.setIfInBounds_toArray, List.set_cons_zero, List.set_cons_succ]
              refine wpAnyH_take (i := 17) (oi := ⟨some 190, _, _, _, _, _⟩) (v := .agg #[.int .u8 a0, .int .u8 a1]) rfl (by kernel_rfl) (by kernel_rfl) (by kernel_rfl) (fun _ _ _ h => h) (Or.inl ⟨by rfl, fun W hSW => by have a0 := (hSW.cell (p := ⟨gm, p6 * 2, none⟩) hgmn).trans m0; have a1 := (hSW.cell (p := ⟨gm, p6 * 2 + 1, none⟩) hgmn).trans m1; go_simp⟩) hHeld ?_
              simp only [Act.put, List.setIfInBounds_toArray, List.set_cons_zero, List.set_cons_succ]
              refine wpAnyH_take (i := 18) (oi := ⟨some 191, _, _, _, _, _⟩) (v := .slice (some ⟨g, 0, none⟩) n n) rfl (by kernel_rfl) (by kernel_rfl) (by kernel_rfl) (fun _ _ _ h => h) (Or.inl ⟨by rfl, fun W hSW => by go_simp⟩) hHeld ?_
              simp only [Act.put, List.setIfInBounds_toArray, List.set_cons_zero, List.set_cons_succ]
              refine wpAnyH_take (i := 19) (oi := ⟨some 192, _, _, _, _, _⟩) (v := .int .i64 j) rfl (by kernel_rfl) (by kernel_rfl) (by kernel_rfl) (fun _ _ _ h => h) (Or.inl ⟨by rfl, fun W hSW => by go_simp⟩) hHeld ?_
              simp only [Act.put, List.setIfInBounds_toArray, List.set_cons_zero, List.set_cons_succ]
              refine wpAnyH_take (i := 20) (oi := ⟨some 193, _, _, _, _, _⟩) (v := .pointer (some ⟨g, j * 2, none⟩)) rfl (by kernel_rfl) (by kernel_rfl) (by kernel_rfl) (fun _ _ _ h => h) (Or.inl ⟨by rfl, fun W hSW => by go_simp⟩) hHeld ?_
              simp only [Act.put, List.setIfInBounds_toArray, List.set_cons_zero, List.set_cons_succ]
              refine wpAnyH_take (i := 21) (oi := ⟨some 194, _, _, _, _, _⟩) (v := .agg #[.int .u8 a0, .int .u8 a1]) rfl (by kernel_rfl) (by kernel_rfl) (by kernel_rfl) (fun _ _ _ h => h) (Or.inl ⟨by rfl, fun W hSW => by have a0 := (hSW.cell (p := ⟨g, j * 2, none⟩) hgnL).trans y0; have a1 := (hSW.cell (p := ⟨g, j * 2 + 1, none⟩) hgnL).trans y1; go_simp⟩) hHeld ?_
              simp only [Act.put, List.setIfInBounds_toArray, List.set_cons_zero, List.set_cons_succ]
              refine wpAnyH_take (i := 22) (oi := ⟨some 195, _, _, _, _, _⟩) (v := .bool false) rfl (by kernel_rfl) (by kernel_rfl) (by kernel_rfl) (fun _ _ _ h => h) (Or.inl ⟨by rfl, fun W hSW => by go_simp⟩) hHeld ?_
              simp only [Act.put, List.setIfInBounds_toArray, List.set_cons_zero, List.set_cons_succ]
              refine wpAnyH_take (i := 23) (oi := ⟨some 196, _, _, _, _, _⟩) (v := .bool false) rfl (by kernel_rfl) (by kernel_rfl) (by kernel_rfl) (fun _ _ _ h => h) (Or.inl ⟨by rfl, fun W hSW => by go_simp⟩) hHeld ?_
              simp only [Act.put, List.setIfInBounds_toArray, List.set_cons_zero, List.set_cons_succ]
              refine wpAnyH_take (i := 24) (oi := ⟨some 197, _, _, _, _, _⟩) (v := .slice (some ⟨gn, 0, none⟩) n n) rfl (by kernel_rfl) (by kernel_rfl) (by kernel_rfl) (fun _ _ _ h => h) (Or.inl ⟨by rfl, fun W hSW => by go_simp⟩) hHeld ?_
              simp only [Act.put, List.setIfInBounds_toArray, List.set_cons_zero, List.set_cons_succ]
              refine wpAnyH_take (i := 25) (oi := ⟨some 198, _, _, _, _, _⟩) (v := .int .i64 y) rfl (by kernel_rfl) (by kernel_rfl) (by kernel_rfl) (fun _ _ _ h => h) (Or.inl ⟨by rfl, fun W hSW => by go_simp⟩) hHeld ?_
              simp only [Act.put, List.setIfInBounds_toArray, List.set_cons_zero, List.set_cons_succ]
              refine wpAnyH_take (i := 26) (oi := ⟨some 199, _, _, _, _, _⟩) (v := .pointer (some ⟨w.heap.size, 0, none⟩)) rfl (by kernel_rfl) (by kernel_rfl) (by kernel_rfl) (fun _ _ _ h => h) (Or.inl ⟨by rfl, fun W hSW => by go_simp⟩) hHeld ?_
              simp only [Act.put, List.setIfInBounds_toArray, List.set_cons_zero, List.set_cons_succ]
              refine wpAnyH_take (i := 27) (oi := ⟨some 200, _, _, _, _, _⟩) (v := .int .i64 X) rfl (by kernel_rfl) (by kernel_rfl) (by kernel_rfl) (fun _ _ _ h => h) (Or.inl ⟨by rfl, fun W hSW => by have a0 := (hSW.cell (p := ⟨w.heap.size, 0, none⟩) hzn).trans k0; go_simp⟩) hHeld ?_
              simp only [Act.put, List.setIfInBounds_toArray, List.set_cons_zero, List.set_cons_succ]
              refine wpAnyH_take (i := 28) (oi := ⟨some 201, _, _, _, _, _⟩) (v := .int .i64 r1) rfl (by kernel_rfl) (by kernel_rfl) (by kernel_rfl) (fun _ _ _ h => h) (Or.inl ⟨by rfl, fun W hSW => by go_simp <;> first | exact U1.out | exact F1.out | (rw [F1.out]; exact U1.out)⟩) hHeld ?_
              simp only [Act.put, List.setIfInBounds_toArray, List.set_cons_zero, List.set_cons_succ]
              refine wpAnyH_take (i := 29) (oi := ⟨some 202, _, _, _, _, _⟩) (v := .int .i64 x) rfl (by kernel_rfl) (by kernel_rfl) (by kernel_rfl) (fun _ _ _ h => h) (Or.inl ⟨by rfl, fun W hSW => by go_simp⟩) hHeld ?_
              simp only [Act.put, List.setIfInBounds_toArray, List.set_cons_zero, List.set_cons_succ]
              refine wpAnyH_take (i := 30) (oi := ⟨some 203, _, _, _, _, _⟩) (v := .int .i64 r2) rfl (by kernel_rfl) (by kernel_rfl) (by kernel_rfl) (fun _ _ _ h => h) (Or.inl ⟨by rfl, fun W hSW => by go_simp <;> first | exact U2.out | exact F2.out | (rw [F2.out]; exact U2.out)⟩) hHeld ?_
              simp only [Act.put, List.setIfInBounds_toArray, List.set_cons_zero, List.set_cons_succ]
              refine wpAnyH_take (i := 31) (oi := ⟨some 204, _, _, _, _, _⟩) (v := .pointer (some ⟨w.heap.size, 2, none⟩)) rfl (by kernel_rfl) (by kernel_rfl) (by kernel_rfl) (fun _ _ _ h => h) (Or.inl ⟨by rfl, fun W hSW => by go_simp⟩) hHeld ?_
              simp only [Act.put, List.setIfInBounds_toArray, List.set_cons_zero, List.set_cons_succ]
              refine wpAnyH_take (i := 32) (oi := ⟨some 205, _, _, _, _, _⟩) (v := .int .i64 Z) rfl (by kernel_rfl) (by kernel_rfl) (by kernel_rfl) (fun _ _ _ h => h) (Or.inl ⟨by rfl, fun W hSW => by have a0 := (hSW.cell (p := ⟨w.heap.size, 2, none⟩) hzn).trans k2; go_simp⟩) hHeld ?_
              simp only [Act.put, List.setIfInBounds_toArray, List.set_cons_zero, List.set_cons_succ]
              refine wpAnyH_take (i := 33) (oi := ⟨some 206, _, _, _, _, _⟩) (v := .int .i64 r3) rfl (by kernel_rfl) (by kernel_rfl) (by kernel_rfl) (fun _ _ _ h => h) (Or.inl ⟨by rfl, fun W hSW => by go_simp <;> first | exact U3.out | exact F3.out | (rw [F3.out]; exact U3.out)⟩) hHeld ?_
              simp only [Act.put, List.setIfInBounds_toArray, List.set_cons_zero, List.set_cons_succ]
              refine wpAnyH_take (i := 34) (oi := ⟨some 207, _, _, _, _, _⟩) (v := .int .i64 z) rfl (by kernel_rfl) (by kernel_rfl) (by kernel_rfl) (fun _ _ _ h => h) (Or.inl ⟨by rfl, fun W hSW => by go_simp⟩) hHeld ?_
              simp only [Act.put, List.setIfInBounds_toArray, List.set_cons_zero, List.set_cons_succ]
              refine wpAnyH_take (i := 35) (oi := ⟨some 208, _, _, _, _, _⟩) (v := .int .i64 r4) rfl (by kernel_rfl) (by kernel_rfl) (by kernel_rfl) (fun _ _ _ h => h) (Or.inl ⟨by rfl, fun W hSW => by go_simp <;> first | exact U4.out | exact F4.out | (rw [F4.out]; exact U4.out)⟩) hHeld ?_
              simp only [Act.put, List.setIfInBounds_toArray, List.set_cons_zero, List.set_cons_succ]
              refine wpAnyH_take (i := 36) (oi := ⟨some 209, _, _, _, _, _⟩) (v := .pointer (some ⟨gn, r4 * 2, none⟩)) rfl (by kernel_rfl) (by kernel_rfl) (by kernel_rfl) (fun _ _ _ h => h) (Or.inl ⟨by rfl, fun W hSW => by go_simp⟩) hHeld ?_
              simp only [Act.put, List.setIfInBounds_toArray, List.set_cons_zero, List.set_cons_succ]
              refine wpAnyH_take (i := 37) (oi := ⟨some 210, _, _, _, _, _⟩) (v := .agg #[.int .u8 a0, .int .u8 a1]) rfl (by kernel_rfl) (by kernel_rfl) (by kernel_rfl) (fun _ _ _ h => h) (Or.inl ⟨by rfl, fun W hSW => by have a0 := (hSW.cell (p := ⟨gn, r4 * 2, none⟩) hgnn).trans n0; have a1 := (hSW.cell (p := ⟨gn, r4 * 2 + 1, none⟩) hgnn).trans n1; go_simp⟩) hHeld ?_
              simp only [Act.put, List.setIfInBounds_toArray, List.set_cons_zero, List.set_cons_succ]
              refine wpAnyH_take (i := 38) (oi := ⟨some 211, _, _, _, _, _⟩) (v := .slice (some ⟨g, 0, none⟩) n n) rfl (by kernel_rfl) (by kernel_rfl) (by kernel_rfl) (fun _ _ _ h => h) (Or.inl ⟨by rfl, fun W hSW => by go_simp⟩) hHeld ?_
              simp only [Act.put, List.setIfInBounds_toArray, List.set_cons_zero, List.set_cons_succ]
              refine wpAnyH_take (i := 39) (oi := ⟨some 212, _, _, _, _, _⟩) (v := .int .i64 j) rfl (by kernel_rfl) (by kernel_rfl) (by kernel_rfl) (fun _ _ _ h => h) (Or.inl ⟨by rfl, fun W hSW => by go_simp⟩) hHeld ?_
              simp only [Act.put, List.setIfInBounds_toArray, List.set_cons_zero, List.set_cons_succ]
              refine wpAnyH_take (i := 40) (oi := ⟨some 213, _, _, _, _, _⟩) (v := .pointer (some ⟨g, j * 2, none⟩)) rfl (by kernel_rfl) (by kernel_rfl) (by kernel_rfl) (fun _ _ _ h => h) (Or.inl ⟨by rfl, fun W hSW => by go_simp⟩) hHeld ?_
              simp only [Act.put, List.setIfInBounds_toArray, List.set_cons_zero, List.set_cons_succ]
              refine wpAnyH_take (i := 41) (oi := ⟨some 214, _, _, _, _, _⟩) (v := .agg #[.int .u8 a0, .int .u8 a1]) rfl (by kernel_rfl) (by kernel_rfl) (by kernel_rfl) (fun _ _ _ h => h) (Or.inl ⟨by rfl, fun W hSW => by have a0 := (hSW.cell (p := ⟨g, j * 2, none⟩) hgnL).trans y0; have a1 := (hSW.cell (p := ⟨g, j * 2 + 1, none⟩) hgnL).trans y1; go_simp⟩) hHeld ?_
              simp only [Act.put, List.setIfInBounds_toArray, List.set_cons_zero, List.set_cons_succ]
              refine wpAnyH_take (i := 42) (oi := ⟨some 215, _, _, _, _, _⟩) (v := .bool false) rfl (by kernel_rfl) (by kernel_rfl) (by kernel_rfl) (fun _ _ _ h => h) (Or.inl ⟨by rfl, fun W hSW => by go_simp⟩) hHeld ?_
              simp only [Act.put, List.setIfInBounds_toArray, List.set_cons_zero, List.set_cons_succ]
              refine wpAnyH_take (i := 43) (oi := ⟨some 216, _, _, _, _, _⟩) (v := .bool false) rfl (by kernel_rfl) (by kernel_rfl) (by kernel_rfl) (fun _ _ _ h => h) (Or.inl ⟨by rfl, fun W hSW => by go_simp⟩) hHeld ?_
              simp only [Act.put, List.setIfInBounds_toArray, List.set_cons_zero, List.set_cons_succ]
              refine wpAnyH_done (by kernel_rfl) ?_ _
              refine NoPanic.normal ?_
              go_wp2_with fail
              go_roundw
              case rel => exact ⟨j + 1, by go_num, by omega, HBN.out.trans (hHeld.mono HBN.out.size)⟩
              case measure => first | (simp [intOf]; done) | (simp [intOf]; omega)
            · obtain rfl : n = j := by omega
              have HWr := Lib.hid (show Below w.heap.size w wr from HW1.out.trans ((HB6.out.trans (hb.mono HB6.out.size)).mono HW1.out.size))
              clear hb
              go_wp2_with (go_at_call 13; refine (works_c (HT.out.below (by have hbo := HWr.out; (repeat' (first | (with_reducible exact Below.refl _ _) | (with_reducible refine Below.setCell ?_ (by (first | omega | (simp; done) | (simp; omega))) _) | (with_reducible refine Below.alloc ?_ (by (first | omega | (simp; done) | (simp; omega))) _) | (with_reducible refine Below.drew ?_) | (with_reducible refine below_drewN ?_ _) | (with_reducible refine Below.trans ?_ (Below.mono hbo (by (first | omega | (simp; done) | (simp; omega)))))))))).mono ?_; rintro e wz ⟨rfl, hbz⟩)
              go_ret
              have hbo := HWr.out
              exact ⟨rfl, hbo.trans (hbz.mono hbo.size)⟩
    · obtain ⟨r, hr⟩ : ∃ r, checkN X Y Z n = r := ⟨_, rfl⟩
      have hr0 : r ≠ 0 := by rw [← hr]; exact hck
      have HRR := Lib.hid hr
      have hrI : ((r : Int) != 0) = true := by simp; omega
      clear hck hr
      go_enter Tryd.func9, Tryd.ntmps9
      go_wp2_with (first | (go_at_call 14; refine (light_no HRR.out hr0).mono ?_; rintro e w1 ⟨rfl, hb1⟩; have HB1 := Lib.hid (show Below w.heap.size w w1 by (repeat' (first | (with_reducible exact Below.refl _ _) | (with_reducible refine Below.setCell ?_ (by (first | omega | (simp; done) | (simp; omega))) _) | (with_reducible refine Below.alloc ?_ (by (first | omega | (simp; done) | (simp; omega))) _) | (with_reducible refine Below.drew ?_) | (with_reducible refine below_drewN ?_ _) | (with_reducible refine Below.trans ?_ (Below.mono hb1 (by (first | omega | (simp; done) | (simp; omega)))))))); clear hb1) | (go_at_call 13; refine (works_c (HT.out.below HB1.out)).mono ?_; rintro e wz ⟨rfl, hbz⟩))
      go_ret
      have hbo := HB1.out
      exact ⟨rfl, hbo.trans (hbz.mono hbo.size)⟩
  · have h1I : (3000 : Int) < n := by omega
    go_enter Tryd.func9, Tryd.ntmps9
    go_wp2_with (go_at_call 13; refine (works_c (HT.out.below (by (repeat' (first | (with_reducible exact Below.refl _ _) | (with_reducible refine Below.setCell ?_ (by (first | omega | (simp; done) | (simp; omega))) _) | (with_reducible refine Below.alloc ?_ (by (first | omega | (simp; done) | (simp; omega))) _) | (with_reducible refine Below.drew ?_) | (with_reducible refine below_drewN ?_ _)))))).mono ?_; rintro e wz ⟨rfl, hbz⟩)
    go_ret
    exact ⟨rfl, by (repeat' (first | (with_reducible exact Below.refl _ _) | (with_reducible refine Below.setCell ?_ (by (first | omega | (simp; done) | (simp; omega))) _) | (with_reducible refine Below.alloc ?_ (by (first | omega | (simp; done) | (simp; omega))) _) | (with_reducible refine Below.drew ?_) | (with_reducible refine below_drewN ?_ _) | (with_reducible refine Below.trans ?_ (Below.mono hbz (by (first | omega | (simp; done) | (simp; omega)))))))⟩
end GlowW
end Go.Proofs.YtbkadecfmjjadaaDoor
