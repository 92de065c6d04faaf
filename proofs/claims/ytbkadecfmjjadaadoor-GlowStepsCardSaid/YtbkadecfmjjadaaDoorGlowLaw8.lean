/-
  GlowSteps: each light is told by the others.
-/
import Derived.Test.YtbkadecfmjjadaaDoorGlowSides
import Derived.Test.YtbkadecfmjjadaaDoorGlowStepsP
import Derived.Deep.RegionHeld3
namespace Go.Proofs.YtbkadecfmjjadaaDoor
open Go.RowKit
set_option linter.unusedVariables false
set_option linter.unusedSimpArgs false
namespace GlowW
open BlkP RowG KindP KindW
def CntS (w4 : World) (n : Nat) (v : Value) (wr : World) : Prop := ∃ j : Nat, v = .int .i64 j ∧ j ≤ n ∧ Below w4.heap.size w4 wr
def UpRel (wo : World) (c6 lm j S : Nat) (cl : Nat → Bool) (v : Value) (W : World) : Prop := ∃ u q : Nat, v = .int .i64 u ∧ u = j + q * S ∧ (∀ i, i < q → cl (j + i * S) = true) ∧ Blk W c6 37 [u8v 0, u8v lm] ∧ Below wo.heap.size wo W
def NearRel (wo : World) (c6 : Nat) (vn : Value) (near : List Nat) (F : Nat → Nat × Nat) (m : Nat) (v : Value) (W : World) : Prop := ∃ i : Nat, v = .int .i64 i ∧ i ≤ m ∧ Blk W c6 37 [u8v (F i).1, u8v (F i).2] ∧ RowG.Own encN 3 W (c6 + 1) vn near ∧ Below wo.heap.size wo W
theorem bel_then {w0 w w' : World} {B : Nat} (hb : Below B w0 w) (h : Below w.heap.size w w') (hB : B ≤ w.heap.size) : Below B w0 w' := hb.trans (h.mono hB)
theorem own_set {w : World} {c6 o : Nat} {x v : Value} {l : List Nat} (h : RowG.Own encN 3 w (c6 + 1) v l) : RowG.Own encN 3 (w.setCell ⟨c6, o, none⟩ x) (c6 + 1) v l := h.other (Nat.lt_succ_self c6)
theorem add8 {k le : Nat} (h : (k : Int) + 1 = le) (h2 : le < 256) : ∀ w, (binOp .add 5 (.int .u8 k) (.int .u8 1)).run Tryd.prog w = .ok (.int .u8 le) w := fun w => by
  have e : (binOp .add 5 (.int .u8 k) (.int .u8 1)).run Tryd.prog w = .ok (.int .u8 (IntKind.u8.wrap ((k : Int) + 1))) w := by kernel_rfl
  rw [e, h, IntKind.wrap_u8]
  congr 2
  omega
set_option maxRecDepth 100000 in
set_option maxHeartbeats 16000000 in
theorem law_steps {w : World} {X Y Z : Int} {A : Option Addr} {c : Nat} {cs : List (Nat × Nat)} (hT : Tab w) (h : Rd enc2 w (.slice A cs.length c) cs ∧ (∀ x ∈ cs, x.1 < 256 ∧ x.2 < 256) ∧ True) :
    Calls Tryd.prog 4 #[.agg #[.int .i64 X, .int .i64 Y, .int .i64 Z, .slice A cs.length c]] w (HoldsP w) := by
  have HT := Lib.hid hT
  have HR := Lib.hid h.1
  obtain ⟨n, hn⟩ : ∃ n, n = cs.length := ⟨_, rfl⟩
  have hform := h.1.form hn.symm
  rw [← hn] at HR ⊢
  have HN := Lib.hid hn
  have hnc : n ≤ c := by
    obtain ⟨A', c', he, h1, _⟩ := hform
    injection he with _ _ h3
    rw [h3]
    exact h1
  clear hT h hn hform
  by_cases hs : n ≤ 6000
  · have hnM : (n : Int) ≤ 6000 := by omega
    by_cases hck : checkN X Y Z n = 0
    · obtain ⟨x, y, z, rfl, rfl, rfl, hX, hY, hZ, hxyz, hn2⟩ := check_zero hck
      have HXYZ := Lib.hid hxyz
      have hn0 : 0 < n := by rw [← hxyz]; exact Nat.mul_pos (Nat.mul_pos (by omega) (by omega)) (by omega)
      obtain ⟨⟨kz, lz⟩, hx0⟩ : ∃ x, cs[0]? = some x := ⟨_, List.getElem?_eq_getElem (by have := HN.out; omega)⟩
      obtain ⟨bb, oo, rfl, hbl, _, _⟩ := rd2 HR.out hx0
      clear hck hxyz hx0
      go_enter Tryd.func4, Tryd.ntmps4
      go_wp2_with (go_at_call 14; refine Classical.byContradiction (fun hG => ?_))
      refine hG ?_
      clear hG
      refine (light_c (HT.out.below (by (repeat' (first | (with_reducible exact Below.refl _ _) | (with_reducible refine Below.setCell ?_ (by (first | omega | (simp; done) | (simp; omega))) _) | (with_reducible refine Below.alloc ?_ (by (first | omega | (simp; done) | (simp; omega))) _) | (with_reducible refine Below.drew ?_) | (with_reducible refine below_drewN ?_ _))))) (HR.out.below (by (repeat' (first | (with_reducible exact Below.refl _ _) | (with_reducible refine Below.setCell ?_ (by (first | omega | (simp; done) | (simp; omega))) _) | (with_reducible refine Below.alloc ?_ (by (first | omega | (simp; done) | (simp; omega))) _) | (with_reducible refine Below.drew ?_) | (with_reducible refine below_drewN ?_ _))))) HN.out hX hY hZ HXYZ.out hn2).mono ?_
      rintro e w1 ⟨g, rfl, hg1, hge1, hb1⟩
      have HG1 := Lib.hid hg1
      have k0 : w1.cell? ⟨w.heap.size, 0, none⟩ = some (.int .i64 x) := (by (repeat' (first | (with_reducible assumption) | (with_reducible refine HeldP.c_below hb1 ?_ ?_) | (with_reducible refine HeldP.f_below hb1 ?_ ?_) | (with_reducible refine HeldP.c_drew ?_) | (with_reducible refine HeldP.c_drewN ?_) | (with_reducible refine HeldP.c_same (by omega) ?_) | (with_reducible refine HeldP.c_other ?_ ?_) | (with_reducible refine HeldP.c_new (by first | omega | (simp; done) | (simp; omega)) ?_) | (with_reducible refine HeldP.c_alloc ?_ ?_) | (with_reducible refine HeldP.e_drew ?_) | (with_reducible refine HeldP.e_drewN ?_) | (with_reducible refine HeldP.e_set ?_) | (with_reducible refine HeldP.e_new (by first | omega | (simp; done) | (simp; omega)) ⟨_, rfl⟩) | (with_reducible refine HeldP.e_alloc ?_ ?_) | (with_reducible refine HeldP.f_drew ?_) | (with_reducible refine HeldP.f_drewN ?_) | (with_reducible refine HeldP.f_set ?_) | (with_reducible refine HeldP.f_new (by first | omega | (simp; done) | (simp; omega))) | (with_reducible refine HeldP.f_alloc ?_ ?_) | (with_reducible refine HeldP.s_drew ?_) | (with_reducible refine HeldP.s_drewN ?_) | (with_reducible refine HeldP.s_set ?_) | (with_reducible refine HeldP.s_new (by first | omega | (simp; done) | (simp; omega))) | (with_reducible refine HeldP.s_alloc ?_) | (with_reducible exact ⟨_, by assumption⟩) | omega | (intro e; simp at e; done) | (intro e; simp at e; omega) | (exact rfl) | (simp; done) | (simp; omega))))
      have k1 : w1.cell? ⟨w.heap.size, 1, none⟩ = some (.int .i64 y) := (by (repeat' (first | (with_reducible assumption) | (with_reducible refine HeldP.c_below hb1 ?_ ?_) | (with_reducible refine HeldP.f_below hb1 ?_ ?_) | (with_reducible refine HeldP.c_drew ?_) | (with_reducible refine HeldP.c_drewN ?_) | (with_reducible refine HeldP.c_same (by omega) ?_) | (with_reducible refine HeldP.c_other ?_ ?_) | (with_reducible refine HeldP.c_new (by first | omega | (simp; done) | (simp; omega)) ?_) | (with_reducible refine HeldP.c_alloc ?_ ?_) | (with_reducible refine HeldP.e_drew ?_) | (with_reducible refine HeldP.e_drewN ?_) | (with_reducible refine HeldP.e_set ?_) | (with_reducible refine HeldP.e_new (by first | omega | (simp; done) | (simp; omega)) ⟨_, rfl⟩) | (with_reducible refine HeldP.e_alloc ?_ ?_) | (with_reducible refine HeldP.f_drew ?_) | (with_reducible refine HeldP.f_drewN ?_) | (with_reducible refine HeldP.f_set ?_) | (with_reducible refine HeldP.f_new (by first | omega | (simp; done) | (simp; omega))) | (with_reducible refine HeldP.f_alloc ?_ ?_) | (with_reducible refine HeldP.s_drew ?_) | (with_reducible refine HeldP.s_drewN ?_) | (with_reducible refine HeldP.s_set ?_) | (with_reducible refine HeldP.s_new (by first | omega | (simp; done) | (simp; omega))) | (with_reducible refine HeldP.s_alloc ?_) | (with_reducible exact ⟨_, by assumption⟩) | omega | (intro e; simp at e; done) | (intro e; simp at e; omega) | (exact rfl) | (simp; done) | (simp; omega))))
      have k2 : w1.cell? ⟨w.heap.size, 2, none⟩ = some (.int .i64 z) := (by (repeat' (first | (with_reducible assumption) | (with_reducible refine HeldP.c_below hb1 ?_ ?_) | (with_reducible refine HeldP.f_below hb1 ?_ ?_) | (with_reducible refine HeldP.c_drew ?_) | (with_reducible refine HeldP.c_drewN ?_) | (with_reducible refine HeldP.c_same (by omega) ?_) | (with_reducible refine HeldP.c_other ?_ ?_) | (with_reducible refine HeldP.c_new (by first | omega | (simp; done) | (simp; omega)) ?_) | (with_reducible refine HeldP.c_alloc ?_ ?_) | (with_reducible refine HeldP.e_drew ?_) | (with_reducible refine HeldP.e_drewN ?_) | (with_reducible refine HeldP.e_set ?_) | (with_reducible refine HeldP.e_new (by first | omega | (simp; done) | (simp; omega)) ⟨_, rfl⟩) | (with_reducible refine HeldP.e_alloc ?_ ?_) | (with_reducible refine HeldP.f_drew ?_) | (with_reducible refine HeldP.f_drewN ?_) | (with_reducible refine HeldP.f_set ?_) | (with_reducible refine HeldP.f_new (by first | omega | (simp; done) | (simp; omega))) | (with_reducible refine HeldP.f_alloc ?_ ?_) | (with_reducible refine HeldP.s_drew ?_) | (with_reducible refine HeldP.s_drewN ?_) | (with_reducible refine HeldP.s_set ?_) | (with_reducible refine HeldP.s_new (by first | omega | (simp; done) | (simp; omega))) | (with_reducible refine HeldP.s_alloc ?_) | (with_reducible exact ⟨_, by assumption⟩) | omega | (intro e; simp at e; done) | (intro e; simp at e; omega) | (exact rfl) | (simp; done) | (simp; omega))))
      have k3 : w1.cell? ⟨w.heap.size, 3, none⟩ = some (.slice (some ⟨bb, oo, none⟩) n c) := (by (repeat' (first | (with_reducible assumption) | (with_reducible refine HeldP.c_below hb1 ?_ ?_) | (with_reducible refine HeldP.f_below hb1 ?_ ?_) | (with_reducible refine HeldP.c_drew ?_) | (with_reducible refine HeldP.c_drewN ?_) | (with_reducible refine HeldP.c_same (by omega) ?_) | (with_reducible refine HeldP.c_other ?_ ?_) | (with_reducible refine HeldP.c_new (by first | omega | (simp; done) | (simp; omega)) ?_) | (with_reducible refine HeldP.c_alloc ?_ ?_) | (with_reducible refine HeldP.e_drew ?_) | (with_reducible refine HeldP.e_drewN ?_) | (with_reducible refine HeldP.e_set ?_) | (with_reducible refine HeldP.e_new (by first | omega | (simp; done) | (simp; omega)) ⟨_, rfl⟩) | (with_reducible refine HeldP.e_alloc ?_ ?_) | (with_reducible refine HeldP.f_drew ?_) | (with_reducible refine HeldP.f_drewN ?_) | (with_reducible refine HeldP.f_set ?_) | (with_reducible refine HeldP.f_new (by first | omega | (simp; done) | (simp; omega))) | (with_reducible refine HeldP.f_alloc ?_ ?_) | (with_reducible refine HeldP.s_drew ?_) | (with_reducible refine HeldP.s_drewN ?_) | (with_reducible refine HeldP.s_set ?_) | (with_reducible refine HeldP.s_new (by first | omega | (simp; done) | (simp; omega))) | (with_reducible refine HeldP.s_alloc ?_) | (with_reducible exact ⟨_, by assumption⟩) | omega | (intro e; simp at e; done) | (intro e; simp at e; omega) | (exact rfl) | (simp; done) | (simp; omega))))
      have hz1 : w.heap.size < w1.heap.size := (by have h := hb1.size; simp at h; omega)
      have HW1 := Lib.hid (show Below w.heap.size w w1 by (repeat' (first | (with_reducible exact Below.refl _ _) | (with_reducible refine Below.setCell ?_ (by (first | omega | (simp; done) | (simp; omega))) _) | (with_reducible refine Below.alloc ?_ (by (first | omega | (simp; done) | (simp; omega))) _) | (with_reducible refine Below.drew ?_) | (with_reducible refine below_drewN ?_ _) | (with_reducible refine Below.trans ?_ (Below.mono hb1 (by (first | omega | (simp; done) | (simp; omega))))))))
      clear hb1 hg1
      have K0 := Lib.hid k0
      have K1 := Lib.hid k1
      have K2 := Lib.hid k2
      have K3 := Lib.hid k3
      have hg1l := HG1.out.lt
      have HQ := Lib.hid (steps_q x y z cs)
      clear k0 k1 k2
      go_wp2_with fail
      go_loopw [5] (CntS w1 n) (fun v _ => n - (intOf v).toNat)
      case atStart => exact ⟨0, rfl, by omega, Below.refl _ _⟩
      case round =>
        clear k3
        obtain ⟨j, rfl, hj, hb⟩ := hrel
        obtain ⟨wo, hwo⟩ : ∃ wo, wo = wr := ⟨_, rfl⟩
        subst hwo
        have HB := Lib.hid hb
        have hzr := hb.size
        have k3 := (hb.cell (p := ⟨w.heap.size, 3, none⟩) hz1).trans K3.out
        have k0 := (hb.cell (p := ⟨w.heap.size, 0, none⟩) hz1).trans K0.out
        have k1 := (hb.cell (p := ⟨w.heap.size, 1, none⟩) hz1).trans K1.out
        have k2 := (hb.cell (p := ⟨w.heap.size, 2, none⟩) hz1).trans K2.out
        have K0o := Lib.hid k0
        have K1o := Lib.hid k1
        have K2o := Lib.hid k2
        have K3o := Lib.hid k3
        by_cases hlt : j < n
        · have hjI : (j : Int) < n := by omega
          have hj0 : (0 : Int) ≤ (j : Int) := by omega
          obtain ⟨a, ha⟩ : ∃ a, (lightA x y z cs)[j]? = some a := ⟨_, List.getElem?_eq_getElem (by rw [lightA_len, HXYZ.out]; exact hlt)⟩
          obtain ⟨⟨kk, ll⟩, hx⟩ : ∃ x, cs[j]? = some x := ⟨_, List.getElem?_eq_getElem (by have := HN.out; omega)⟩
          obtain ⟨a0, a1⟩ := a
          have HA := Lib.hid ha
          have HX := Lib.hid hx
          obtain ⟨y0, y1⟩ := lit2 (HG1.out.below hb) ha
          have Y0 := Lib.hid y0
          have Y1 := Lib.hid y1
          obtain ⟨b', o', hbo, hblw, p0, p1⟩ := rd2 ((HR.out.below HW1.out).below hb) hx
          obtain ⟨rfl, rfl⟩ : bb = b' ∧ oo = o' := by injection hbo with hbo; injection hbo with e1 e2 e3; exact ⟨e1, e2⟩
          have HTo := Lib.hid ((HT.out.below HW1.out).below hb)
          obtain ⟨oa, hoa⟩ : ∃ oa, openA (kk, ll) = oa := ⟨_, rfl⟩
          have HOA := Lib.hid hoa
          have hglo : g < wo.heap.size := by omega
          have hwlo : w.heap.size < wo.heap.size := by omega
          have P0o := Lib.hid p0
          have P1o := Lib.hid p1
          clear ha hx hbo hb hoa y0 y1
          go_wp2_with (go_at_call 17; refine Classical.byContradiction (fun hG => ?_))
          refine hG ?_
          clear hG
          refine (open_c (HTo.out.below (by (repeat' (first | (with_reducible exact Below.refl _ _) | (with_reducible refine Below.setCell ?_ (by (first | omega | (simp; done) | (simp; omega))) _) | (with_reducible refine Below.alloc ?_ (by (first | omega | (simp; done) | (simp; omega))) _) | (with_reducible refine Below.drew ?_) | (with_reducible refine below_drewN ?_ _))))) HOA.out).mono ?_
          rintro e w5 ⟨rfl, hb5⟩
          have BK5 := Lib.hid (show Blk w5 wo.heap.size 37 [u8v 0, u8v 0] from (Blk.newA' rfl rfl).below hb5)
          have HB5 := Lib.hid (show Below wo.heap.size wo w5 by (repeat' (first | (with_reducible exact Below.refl _ _) | (with_reducible refine Below.setCell ?_ (by (first | omega | (simp; done) | (simp; omega))) _) | (with_reducible refine Below.alloc ?_ (by (first | omega | (simp; done) | (simp; omega))) _) | (with_reducible refine Below.drew ?_) | (with_reducible refine below_drewN ?_ _) | (with_reducible refine Below.trans ?_ (Below.mono hb5 (by (first | omega | (simp; done) | (simp; omega))))))))
          have h5l := hb5.size
          obtain ⟨c6, hc6⟩ : ∃ c6, c6 = wo.heap.size := ⟨_, rfl⟩
          rw [← hc6] at BK5 ⊢
          have HC6 := Lib.hid hc6
          have hcw : w.heap.size < c6 := by omega
          have hcg : g < c6 := by omega
          have hcb : bb < c6 := by omega
          have hgne : g ≠ c6 := by omega
          have hbne : bb ≠ c6 := by omega
          replace k0 := (HB5.out.cell (p := ⟨w.heap.size, 0, none⟩) hwlo).trans k0
          replace k1 := (HB5.out.cell (p := ⟨w.heap.size, 1, none⟩) hwlo).trans k1
          replace k2 := (HB5.out.cell (p := ⟨w.heap.size, 2, none⟩) hwlo).trans k2
          replace k3 := (HB5.out.cell (p := ⟨w.heap.size, 3, none⟩) hwlo).trans k3
          replace p0 := (HB5.out.cell (p := ⟨bb, oo + j * 2, none⟩) hblw).trans p0
          replace p1 := (HB5.out.cell (p := ⟨bb, oo + j * 2 + 1, none⟩) hblw).trans p1
          clear hb5 hc6
          cases oa
          · obtain ⟨rfl, rfl⟩ : a0 = 0 ∧ a1 = 0 := by
              have := HQ.out.dark j (a0, a1) (kk, ll) HA.out HX.out HOA.out
              injection this with e1 e2
              exact ⟨e1, e2⟩
            have x0 : w5.cell? ⟨c6, 0, none⟩ = some (.int .u8 0) := BK5.out.cell (i := 0) rfl
            have x1 : w5.cell? ⟨c6, 1, none⟩ = some (.int .u8 0) := BK5.out.cell (i := 1) rfl
            have y0 := (HB5.out.cell (p := ⟨g, j * 2, none⟩) hglo).trans Y0.out
            have y1 := (HB5.out.cell (p := ⟨g, j * 2 + 1, none⟩) hglo).trans Y1.out
            have hcL := BK5.out.lt
            have hgL : g < w5.heap.size := by omega
            have HBL := HB5
            go_wp2_with fail
            refine wp_region_noPanic ?_
            refine wp_region_held_drew (S := fun W => Below w5.heap.size w5 W) (by kernel_rfl) ((Below.refl _ w5).drew) (fun hHeld => ?_)
            refine wpAnyH_take (i := 0) (oi := ⟨some 113, _, _, _, _, _⟩) (v := .slice (some ⟨g, 0, none⟩) n n) rfl (by kernel_rfl) (by kernel_rfl) (by kernel_rfl) (fun _ _ _ h => h) (Or.inl ⟨by rfl, fun W hSW => by go_simp⟩) hHeld ?_
            simp only [Act.put, List.setIfInBounds_toArray, List.set_cons_zero, List.set_cons_succ]
            refine wpAnyH_take (i := 1) (oi := ⟨some 114, _, _, _, _, _⟩) (v := .int .i64 j) rfl (by kernel_rfl) (by kernel_rfl) (by kernel_rfl) (fun _ _ _ h => h) (Or.inl ⟨by rfl, fun W hSW => by go_simp⟩) hHeld ?_
            simp only [Act.put, List.setIfInBounds_toArray, List.set_cons_zero, List.set_cons_succ]
            refine wpAnyH_take (i := 2) (oi := ⟨some 115, _, _, _, _, _⟩) (v := .pointer (some ⟨g, j * 2, none⟩)) rfl (by kernel_rfl) (by kernel_rfl) (by kernel_rfl) (fun _ _ _ h => h) (Or.inl ⟨by rfl, fun W hSW => by go_simp⟩) hHeld ?_
            simp only [Act.put, List.setIfInBounds_toArray, List.set_cons_zero, List.set_cons_succ]
            refine wpAnyH_take (i := 3) (oi := ⟨some 116, _, _, _, _, _⟩) (v := .agg #[.int .u8 0, .int .u8 0]) rfl (by kernel_rfl) (by kernel_rfl) (by kernel_rfl) (fun _ _ _ h => h) (Or.inl ⟨by rfl, fun W hSW => by have a0 := (hSW.cell (p := ⟨g, j * 2, none⟩) hgL).trans y0; have a1 := (hSW.cell (p := ⟨g, j * 2 + 1, none⟩) hgL).trans y1; go_simp⟩) hHeld ?_
            simp only [Act.put, List.setIfInBounds_toArray, List.set_cons_zero, List.set_cons_succ]
            refine wpAnyH_take (i := 4) (oi := ⟨some 117, _, _, _, _, _⟩) (v := .agg #[.int .u8 0, .int .u8 0]) rfl (by kernel_rfl) (by kernel_rfl) (by kernel_rfl) (fun _ _ _ h => h) (Or.inl ⟨by rfl, fun W hSW => by have a0 := (hSW.cell (p := ⟨c6, 0, none⟩) hcL).trans x0; have a1 := (hSW.cell (p := ⟨c6, 1, none⟩) hcL).trans x1; go_simp⟩) hHeld ?_
            simp only [Act.put, List.setIfInBounds_toArray, List.set_cons_zero, List.set_cons_succ]
            refine wpAnyH_take (i := 5) (oi := ⟨some 118, _, _, _, _, _⟩) (v := .bool false) rfl (by kernel_rfl) (by kernel_rfl) (by kernel_rfl) (fun _ _ _ h => h) (Or.inl ⟨by rfl, fun W hSW => by go_simp⟩) hHeld ?_
            simp only [Act.put, List.setIfInBounds_toArray, List.set_cons_zero, List.set_cons_succ]
            refine wpAnyH_done (by kernel_rfl) ?_ _
            refine NoPanic.normal ?_
            go_wp2_with fail
            go_roundw
            case rel => exact ⟨j + 1, by go_num, by omega, HB.out.trans ((HBL.out.trans (hHeld.mono HBL.out.size)).mono HB.out.size)⟩
            case measure => first | (simp [intOf]; done) | (simp [intOf]; omega)
          · go_wp2_with (go_at_call 18; refine Classical.byContradiction (fun hG => ?_))
            refine hG ?_
            clear hG
            obtain ⟨lm, hlm⟩ : ∃ lm, lampA (kk, ll) = lm := ⟨_, rfl⟩
            have HLM := Lib.hid hlm
            have HL15 := Lib.hid (show lm ≤ 15 by rw [← hlm]; exact HQ.out.own j (kk, ll) HX.out)
            refine (k_lamp_b (show lamp kk ll = lm from hlm) _ (HTo.out.below HB5.out)).mono ?_
            rintro e w6 ⟨rfl, hb6⟩
            have bk6 := BK5.out.below hb6
            have HB6 := Lib.hid (bel_then HB5.out hb6 HB5.out.size)
            have BK6 := Lib.hid bk6
            have x1 : w6.cell? ⟨c6, 1, none⟩ = some (.int .u8 0) := bk6.cell (i := 1) rfl
            have f1 := bk6.frozen 1
            clear hlm hb6 bk6 k0 k2 k3 p0 p1
            go_wp2_with fail
            obtain ⟨S, hS⟩ : ∃ S, x * z = S := ⟨_, rfl⟩
            have hSM : S ≤ 65536 := by have := Nat.mul_le_mul hX.2 hZ.2; omega
            have hS1 : 1 ≤ S := by have := Nat.mul_le_mul hX.1 hZ.1; omega
            have HE1 := Lib.hid (show (x : Int) * (z : Int) = (S : Int) by rw [← hS]; simp)
            have HSS := Lib.hid hS
            have HCL := Lib.hid (show ∀ (u : Nat) (k l : Nat), cs[u]? = some (k, l) → GlowP.clO (cs.map openA) u = openA (k, l) from fun u k l h => by rw [openL, h])
            have hcN : x * y * z = n := HXYZ.out
            have HSUN := Lib.hid (show sunA x y z cs j = GlowP.skyO S n (GlowP.clO (cs.map openA)) j by rw [← hS, ← hcN]; rfl)
            clear hS hcN
            go_loopw [7] (UpRel wo c6 lm j S (GlowP.clO (cs.map openA))) (fun v _ => n - (intOf v).toNat)
            case atStart => exact ⟨j, 0, rfl, by omega, fun i h => by omega, BK6.out.setTo rfl, (HB6.out).setCell (show wo.heap.size ≤ c6 by have := HC6.out; omega) _⟩
            case round =>
              obtain ⟨u, q, rfl, hu, hq, hbk, hbr⟩ := hrel
              have HU := Lib.hid hu
              have HQC := Lib.hid hq
              have BKU := Lib.hid hbk
              have HBU := Lib.hid hbr
              have hcu := hbk.lt
              have hru := hbr.size
              have k3 := (hbr.cell (p := ⟨w.heap.size, 3, none⟩) hwlo).trans K3o.out
              by_cases hltu : u < n
              · have huI : (u : Int) < n := by omega
                have hu0 : (0 : Int) ≤ (u : Int) := by omega
                obtain ⟨⟨ku, lu⟩, hxu⟩ : ∃ x, cs[u]? = some x := ⟨_, List.getElem?_eq_getElem (by have := HN.out; omega)⟩
                obtain ⟨b', o', hbo, hblw, p0, p1⟩ := rd2 (((HR.out.below HW1.out).below HB.out).below hbr) hxu
                obtain ⟨rfl, rfl⟩ : bb = b' ∧ oo = o' := by injection hbo with hbo; injection hbo with e1 e2 e3; exact ⟨e1, e2⟩
                obtain ⟨ou, hou⟩ : ∃ ou, openA (ku, lu) = ou := ⟨_, rfl⟩
                have HOU := Lib.hid hou
                have HXU := Lib.hid hxu
                have HTU := Lib.hid (HTo.out.below hbr)
                clear hu hq hbk hbr hbo hxu hou
                cases ou
                · have HSN := Lib.hid (show sunA x y z cs j = 0 by
                    rw [HSUN.out]
                    have hu := HU.out
                    refine sun_no (k := q) (by omega) (by omega) ?_
                    rw [← hu, HCL.out u ku lu HXU.out, HOU.out])
                  go_wp2_with (go_at_call 17; refine Classical.byContradiction (fun hG => ?_))
                  refine hG ?_
                  clear hG
                  refine (open_c HTU.out HOU.out).mono ?_
                  rintro e w8 ⟨rfl, hb8⟩
                  have HB8 := Lib.hid (bel_then HBU.out hb8 HBU.out.size)
                  have BK8 := Lib.hid (BKU.out.below hb8)
                  have h8l := hb8.size
                  replace k3 := (hb8.cell (p := ⟨w.heap.size, 3, none⟩) (by show w.heap.size < _; omega)).trans k3
                  have k0 := (HB8.out.cell (p := ⟨w.heap.size, 0, none⟩) hwlo).trans K0o.out
                  have k1 := (HB8.out.cell (p := ⟨w.heap.size, 1, none⟩) hwlo).trans K1o.out
                  have k2 := (HB8.out.cell (p := ⟨w.heap.size, 2, none⟩) hwlo).trans K2o.out
                  clear hb8 p0 p1
                  go_wp2_with (go_at_call 19; refine Classical.byContradiction (fun hG => ?_))
                  refine hG ?_
                  clear hG
                  refine (sides_c hX hY hZ (by have := HXYZ.out; omega)).mono ?_
                  rintro e w9 ⟨vn, rfl, hon, hb9⟩
                  have HB9 := Lib.hid (show Below wo.heap.size wo w9 from bel_then HB8.out hb9 (by omega))
                  have BK9 := Lib.hid (show Blk w9 c6 37 [u8v 0, u8v lm] from (BK8.out).below hb9)
                  have OW9 := Lib.hid (show RowG.Own encN 3 w9 (c6 + 1) vn (GlowP.sides x y z j) from hon.mono (by omega))
                  obtain ⟨m, hm⟩ : ∃ m, (GlowP.sides x y z j).length = m := ⟨_, rfl⟩
                  obtain ⟨An, cn, rfl, hmc, _, hAn⟩ := OW9.out.form hm
                  have HM := Lib.hid hm
                  have HAN := Lib.hid hAn
                  obtain ⟨near, hnear⟩ : ∃ near, GlowP.sides x y z j = near := ⟨_, rfl⟩
                  obtain ⟨F, hF⟩ : ∃ F : Nat → Nat × Nat, F = uptoS (lightA x y z cs) near (0, lm) := ⟨_, rfl⟩
                  have HST := Lib.hid (show (a0, a1) = F m by
                    have h := HQ.out.steps j (a0, a1) (kk, ll) HA.out HX.out HOA.out
                    rw [HSN.out, HLM.out, HM.out, hnear] at h
                    rw [hF]
                    exact h)
                  rw [hnear] at OW9 HM
                  have HNR := Lib.hid hnear
                  have HF := Lib.hid hF
                  have h9l := HB9.out.size
                  clear hon hb9 hm hAn hnear hF
                  go_wp2_with fail
                  go_loopw [9] (NearRel wo c6 (.slice An m cn) near F m) (fun v _ => m - (intOf v).toNat)
                  case atStart => exact ⟨0, rfl, by omega, by rw [HF.out, upto_zero]; exact BK9.out, OW9.out, HB9.out⟩
                  case round =>
                    obtain ⟨i, rfl, hi, hbk, how, hbr⟩ := hrel
                    have BKR := Lib.hid hbk
                    have OWR := Lib.hid how
                    have HBR := Lib.hid hbr
                    have hcr := hbk.lt
                    by_cases hlti : i < m
                    · have hiI : (i : Int) < m := by omega
                      have hi0 : (0 : Int) ≤ (i : Int) := by omega
                      obtain ⟨s, hs⟩ : ∃ s, near[i]? = some s := ⟨_, List.getElem?_eq_getElem (by have := HM.out; omega)⟩
                      have hsn : s < n := by
                        have h1 := List.mem_of_getElem? hs
                        rw [← HNR.out] at h1
                        have := GlowP.sides_lt (show j < x * y * z by have := HXYZ.out; omega) h1
                        have := HXYZ.out
                        omega
                      have hsI : (s : Int) < n := by omega
                      have hs0 : (0 : Int) ≤ (s : Int) := by omega
                      obtain ⟨gn, rfl, hgnB, _⟩ := HAN.out (by omega)
                      have nc : wr.cell? ⟨gn, i, none⟩ = some (.int .i64 s) := by
                        have h := how.cell (j := 0) hs rfl
                        rw [show i * encN.k + 0 = i from (by show i * 1 + 0 = i; omega)] at h
                        exact h
                      obtain ⟨b, hbb⟩ : ∃ b, (lightA x y z cs)[s]? = some b := ⟨_, List.getElem?_eq_getElem (by rw [lightA_len, HXYZ.out]; exact hsn)⟩
                      obtain ⟨b0, b1⟩ := b
                      have hgr : g < wr.heap.size := by omega
                      obtain ⟨v0, v1⟩ := lit2 ((HG1.out.below HB.out).below hbr) hbb
                      obtain ⟨⟨q0, q1⟩, hq⟩ : ∃ q, F i = q := ⟨_, rfl⟩
                      have hq15 : q0 ≤ 15 ∧ q1 ≤ 15 := by
                        have h := upto_le (near := near) (q := (0, lm)) HQ.out.top ⟨by show 0 ≤ 15; omega, HL15.out⟩ i
                        rw [← HF.out, hq] at h
                        exact h
                      obtain ⟨hb15a, hb15b⟩ : b0 ≤ 15 ∧ b1 ≤ 15 := HQ.out.top s (b0, b1) hbb
                      rw [hq] at hbk
                      have x0 : wr.cell? ⟨c6, 0, none⟩ = some (.int .u8 q0) := hbk.cell (i := 0) rfl
                      have x1 : wr.cell? ⟨c6, 1, none⟩ = some (.int .u8 q1) := hbk.cell (i := 1) rfl
                      have f0 := hbk.frozen 0
                      have f1 := hbk.frozen 1
                      have BKR := Lib.hid hbk
                      have HNX := Lib.hid (show F (i + 1) = (max q0 (b0 - 1), max q1 (b1 - 1)) by
                        have h := upto_succ (q := (0, lm)) hs hbb
                        rw [← HF.out, hq] at h
                        exact h)
                      obtain ⟨r0, hr0⟩ : ∃ r0 : Nat, (q0 : Int) + 1 = r0 := ⟨q0 + 1, by omega⟩
                      obtain ⟨r1, hr1⟩ : ∃ r1 : Nat, (q1 : Int) + 1 = r1 := ⟨q1 + 1, by omega⟩
                      have s0 := add8 hr0 (by omega)
                      have s1 := add8 hr1 (by omega)
                      have hcn : c6 ≠ wr.heap.size := by omega
                      have LE := Lib.hid (show wo.heap.size ≤ c6 by have := HC6.out; omega)
                      clear hs hq hbb hbk how hbr
                      by_cases c0 : r0 < b0
                      · have c0I : (r0 : Int) < b0 := by omega
                        obtain ⟨d0, hd0⟩ : ∃ d0 : Nat, (b0 : Int) - 1 = d0 := ⟨b0 - 1, by omega⟩
                        have t0 := sub8 hd0 (by omega)
                        by_cases c1 : r1 < b1
                        · have c1I : (r1 : Int) < b1 := by omega
                          obtain ⟨d1, hd1⟩ : ∃ d1 : Nat, (b1 : Int) - 1 = d1 := ⟨b1 - 1, by omega⟩
                          have t1 := sub8 hd1 (by omega)
                          have m0 : max q0 (b0 - 1) = d0 := by omega
                          have m1 : max q1 (b1 - 1) = d1 := by omega
                          have M0 := Lib.hid m0
                          have M1 := Lib.hid m1
                          clear m0 m1
                          go_wp2_with fail
                          go_roundw
                          case rel =>
                            refine ⟨i + 1, by go_num, by omega, ?_, ?_, ?_⟩
                            · rw [HNX.out, M0.out, M1.out]
                              have hbk := BKR.out
                              (repeat' (first | (with_reducible exact hbk) | (with_reducible refine BlkP.Blk.drew ?_) | (with_reducible refine BlkP.Blk.drewN ?_ _) | (with_reducible refine BlkP.Blk.setAt (us := ?_) (by first | omega | (simp; done) | (simp; omega)) rfl ?_ ?_) | (with_reducible refine BlkP.Blk.otherAt ?_ (by first | omega | (simp; done) | (simp; omega))) | (with_reducible refine BlkP.Blk.newA' (by first | omega | (simp; done) | (simp; omega)) rfl) | (with_reducible refine BlkP.Blk.alloc ?_ _) | (exact rfl)))
                            · have ho := OWR.out
                              repeat' (first | exact ho | refine own_set ?_ | refine RowG.Own.alloc ?_ _)
                            · have hbo := HBR.out
                              have hle := LE.out
                              (repeat' (first | (with_reducible exact Below.refl _ _) | (with_reducible refine Below.setCell ?_ (by (first | omega | (simp; done) | (simp; omega))) _) | (with_reducible refine Below.alloc ?_ (by (first | omega | (simp; done) | (simp; omega))) _) | (with_reducible refine Below.drew ?_) | (with_reducible refine below_drewN ?_ _) | (with_reducible refine Below.trans ?_ (Below.mono hbo (by (first | omega | (simp; done) | (simp; omega)))))))
                          case measure => first | (simp [intOf]; done) | (simp [intOf]; omega)
                        · have c1I : ¬ (r1 : Int) < b1 := by omega
                          have m0 : max q0 (b0 - 1) = d0 := by omega
                          have m1 : max q1 (b1 - 1) = q1 := by omega
                          have M0 := Lib.hid m0
                          have M1 := Lib.hid m1
                          clear m0 m1
                          go_wp2_with fail
                          go_roundw
                          case rel =>
                            refine ⟨i + 1, by go_num, by omega, ?_, ?_, ?_⟩
                            · rw [HNX.out, M0.out, M1.out]
                              have hbk := BKR.out
                              (repeat' (first | (with_reducible exact hbk) | (with_reducible refine BlkP.Blk.drew ?_) | (with_reducible refine BlkP.Blk.drewN ?_ _) | (with_reducible refine BlkP.Blk.setAt (us := ?_) (by first | omega | (simp; done) | (simp; omega)) rfl ?_ ?_) | (with_reducible refine BlkP.Blk.otherAt ?_ (by first | omega | (simp; done) | (simp; omega))) | (with_reducible refine BlkP.Blk.newA' (by first | omega | (simp; done) | (simp; omega)) rfl) | (with_reducible refine BlkP.Blk.alloc ?_ _) | (exact rfl)))
                            · have ho := OWR.out
                              repeat' (first | exact ho | refine own_set ?_ | refine RowG.Own.alloc ?_ _)
                            · have hbo := HBR.out
                              have hle := LE.out
                              (repeat' (first | (with_reducible exact Below.refl _ _) | (with_reducible refine Below.setCell ?_ (by (first | omega | (simp; done) | (simp; omega))) _) | (with_reducible refine Below.alloc ?_ (by (first | omega | (simp; done) | (simp; omega))) _) | (with_reducible refine Below.drew ?_) | (with_reducible refine below_drewN ?_ _) | (with_reducible refine Below.trans ?_ (Below.mono hbo (by (first | omega | (simp; done) | (simp; omega)))))))
                          case measure => first | (simp [intOf]; done) | (simp [intOf]; omega)
                      · have c0I : ¬ (r0 : Int) < b0 := by omega
                        by_cases c1 : r1 < b1
                        · have c1I : (r1 : Int) < b1 := by omega
                          obtain ⟨d1, hd1⟩ : ∃ d1 : Nat, (b1 : Int) - 1 = d1 := ⟨b1 - 1, by omega⟩
                          have t1 := sub8 hd1 (by omega)
                          have m0 : max q0 (b0 - 1) = q0 := by omega
                          have m1 : max q1 (b1 - 1) = d1 := by omega
                          have M0 := Lib.hid m0
                          have M1 := Lib.hid m1
                          clear m0 m1
                          go_wp2_with fail
                          go_roundw
                          case rel =>
                            refine ⟨i + 1, by go_num, by omega, ?_, ?_, ?_⟩
                            · rw [HNX.out, M0.out, M1.out]
                              have hbk := BKR.out
                              (repeat' (first | (with_reducible exact hbk) | (with_reducible refine BlkP.Blk.drew ?_) | (with_reducible refine BlkP.Blk.drewN ?_ _) | (with_reducible refine BlkP.Blk.setAt (us := ?_) (by first | omega | (simp; done) | (simp; omega)) rfl ?_ ?_) | (with_reducible refine BlkP.Blk.otherAt ?_ (by first | omega | (simp; done) | (simp; omega))) | (with_reducible refine BlkP.Blk.newA' (by first | omega | (simp; done) | (simp; omega)) rfl) | (with_reducible refine BlkP.Blk.alloc ?_ _) | (exact rfl)))
                            · have ho := OWR.out
                              repeat' (first | exact ho | refine own_set ?_ | refine RowG.Own.alloc ?_ _)
                            · have hbo := HBR.out
                              have hle := LE.out
                              (repeat' (first | (with_reducible exact Below.refl _ _) | (with_reducible refine Below.setCell ?_ (by (first | omega | (simp; done) | (simp; omega))) _) | (with_reducible refine Below.alloc ?_ (by (first | omega | (simp; done) | (simp; omega))) _) | (with_reducible refine Below.drew ?_) | (with_reducible refine below_drewN ?_ _) | (with_reducible refine Below.trans ?_ (Below.mono hbo (by (first | omega | (simp; done) | (simp; omega)))))))
                          case measure => first | (simp [intOf]; done) | (simp [intOf]; omega)
                        · have c1I : ¬ (r1 : Int) < b1 := by omega
                          have m0 : max q0 (b0 - 1) = q0 := by omega
                          have m1 : max q1 (b1 - 1) = q1 := by omega
                          have M0 := Lib.hid m0
                          have M1 := Lib.hid m1
                          clear m0 m1
                          go_wp2_with fail
                          go_roundw
                          case rel =>
                            refine ⟨i + 1, by go_num, by omega, ?_, ?_, ?_⟩
                            · rw [HNX.out, M0.out, M1.out]
                              have hbk := BKR.out
                              (repeat' (first | (with_reducible exact hbk) | (with_reducible refine BlkP.Blk.drew ?_) | (with_reducible refine BlkP.Blk.drewN ?_ _) | (with_reducible refine BlkP.Blk.setAt (us := ?_) (by first | omega | (simp; done) | (simp; omega)) rfl ?_ ?_) | (with_reducible refine BlkP.Blk.otherAt ?_ (by first | omega | (simp; done) | (simp; omega))) | (with_reducible refine BlkP.Blk.newA' (by first | omega | (simp; done) | (simp; omega)) rfl) | (with_reducible refine BlkP.Blk.alloc ?_ _) | (exact rfl)))
                            · have ho := OWR.out
                              repeat' (first | exact ho | refine own_set ?_ | refine RowG.Own.alloc ?_ _)
                            · have hbo := HBR.out
                              have hle := LE.out
                              (repeat' (first | (with_reducible exact Below.refl _ _) | (with_reducible refine Below.setCell ?_ (by (first | omega | (simp; done) | (simp; omega))) _) | (with_reducible refine Below.alloc ?_ (by (first | omega | (simp; done) | (simp; omega))) _) | (with_reducible refine Below.drew ?_) | (with_reducible refine below_drewN ?_ _) | (with_reducible refine Below.trans ?_ (Below.mono hbo (by (first | omega | (simp; done) | (simp; omega)))))))
                          case measure => first | (simp [intOf]; done) | (simp [intOf]; omega)
                    · obtain rfl : m = i := by omega
                      rw [← HST.out] at hbk
                      have x0 : wr.cell? ⟨c6, 0, none⟩ = some (.int .u8 a0) := hbk.cell (i := 0) rfl
                      have x1 : wr.cell? ⟨c6, 1, none⟩ = some (.int .u8 a1) := hbk.cell (i := 1) rfl
                      have y0 := (hbr.cell (p := ⟨g, j * 2, none⟩) hglo).trans Y0.out
                      have y1 := (hbr.cell (p := ⟨g, j * 2 + 1, none⟩) hglo).trans Y1.out
                      have hcL := hbk.lt
                      have hgL : g < wr.heap.size := by omega
                      have HBL := HBR
                      clear hbk how hbr
                      go_wp2_with fail
                      refine wp_region_noPanic ?_
                      refine wp_region_held_drew (S := fun W => Below wr.heap.size wr W) (by kernel_rfl) ((Below.refl _ wr).drew) (fun hHeld => ?_)
                      refine wpAnyH_take (i := 0) (oi := ⟨some 113, _, _, _, _, _⟩) (v := .slice (some ⟨g, 0, none⟩) n n) rfl (by kernel_rfl) (by kernel_rfl) (by kernel_rfl) (fun _ _ _ h => h) (Or.inl ⟨by rfl, fun W hSW => by go_simp⟩) hHeld ?_
                      simp only [Act.put, List.setIfInBounds_toArray, List.set_cons_zero, List.set_cons_succ]
                      refine wpAnyH_take (i := 1) (oi := ⟨some 114, _, _, _, _, _⟩) (v := .int .i64 j) rfl (by kernel_rfl) (by kernel_rfl) (by kernel_rfl) (fun _ _ _ h => h) (Or.inl ⟨by rfl, fun W hSW => by go_simp⟩) hHeld ?_
                      simp only [Act.put, List.setIfInBounds_toArray, List.set_cons_zero, List.set_cons_succ]
                      refine wpAnyH_take (i := 2) (oi := ⟨some 115, _, _, _, _, _⟩) (v := .pointer (some ⟨g, j * 2, none⟩)) rfl (by kernel_rfl) (by kernel_rfl) (by kernel_rfl) (fun _ _ _ h => h) (Or.inl ⟨by rfl, fun W hSW => by go_simp⟩) hHeld ?_
                      simp only [Act.put, List.setIfInBounds_toArray, List.set_cons_zero, List.set_cons_succ]
                      refine wpAnyH_take (i := 3) (oi := ⟨some 116, _, _, _, _, _⟩) (v := .agg #[.int .u8 a0, .int .u8 a1]) rfl (by kernel_rfl) (by kernel_rfl) (by kernel_rfl) (fun _ _ _ h => h) (Or.inl ⟨by rfl, fun W hSW => by have a0 := (hSW.cell (p := ⟨g, j * 2, none⟩) hgL).trans y0; have a1 := (hSW.cell (p := ⟨g, j * 2 + 1, none⟩) hgL).trans y1; go_simp⟩) hHeld ?_
                      simp only [Act.put, List.setIfInBounds_toArray, List.set_cons_zero, List.set_cons_succ]
                      refine wpAnyH_take (i := 4) (oi := ⟨some 117, _, _, _, _, _⟩) (v := .agg #[.int .u8 a0, .int .u8 a1]) rfl (by kernel_rfl) (by kernel_rfl) (by kernel_rfl) (fun _ _ _ h => h) (Or.inl ⟨by rfl, fun W hSW => by have a0 := (hSW.cell (p := ⟨c6, 0, none⟩) hcL).trans x0; have a1 := (hSW.cell (p := ⟨c6, 1, none⟩) hcL).trans x1; go_simp⟩) hHeld ?_
                      simp only [Act.put, List.setIfInBounds_toArray, List.set_cons_zero, List.set_cons_succ]
                      refine wpAnyH_take (i := 5) (oi := ⟨some 118, _, _, _, _, _⟩) (v := .bool false) rfl (by kernel_rfl) (by kernel_rfl) (by kernel_rfl) (fun _ _ _ h => h) (Or.inl ⟨by rfl, fun W hSW => by go_simp⟩) hHeld ?_
                      simp only [Act.put, List.setIfInBounds_toArray, List.set_cons_zero, List.set_cons_succ]
                      refine wpAnyH_done (by kernel_rfl) ?_ _
                      refine NoPanic.normal ?_
                      go_wp2_with fail
                      go_roundw
                      case rel => exact ⟨j + 1, by go_num, by omega, HB.out.trans ((HBL.out.trans (hHeld.mono HBL.out.size)).mono HB.out.size)⟩
                      case measure => first | (simp [intOf]; done) | (simp [intOf]; omega)
                · go_wp2_with (go_at_call 17; refine Classical.byContradiction (fun hG => ?_))
                  refine hG ?_
                  clear hG
                  refine (open_c HTU.out HOU.out).mono ?_
                  rintro e w8 ⟨rfl, hb8⟩
                  have HB8 := Lib.hid (bel_then HBU.out hb8 HBU.out.size)
                  have BK8 := Lib.hid (BKU.out.below hb8)
                  have k0 := (HB8.out.cell (p := ⟨w.heap.size, 0, none⟩) hwlo).trans K0o.out
                  have k2 := (HB8.out.cell (p := ⟨w.heap.size, 2, none⟩) hwlo).trans K2o.out
                  have e1 := HE1.out
                  clear hb8 p0 p1 k3
                  go_wp2_with fail
                  go_roundw
                  case rel =>
                    refine ⟨u + S, q + 1, by go_num, ?_, fun i hi => ?_, BK8.out, HB8.out⟩
                    · have := HU.out
                      rw [Nat.succ_mul]
                      omega
                    · by_cases e : i < q
                      · exact HQC.out i e
                      · obtain rfl : i = q := by omega
                        rw [← HU.out, HCL.out u ku lu HXU.out, HOU.out]
                  case measure => first | (simp [intOf]; done) | (simp [intOf]; omega)
              · have huI : ¬ (u : Int) < n := by omega
                have huI2 : (n : Int) ≤ (u : Int) := by omega
                have HSN := Lib.hid (show sunA x y z cs j = 15 by
                  rw [HSUN.out]
                  exact sun_yes (k := q) (by omega) (by omega) HQC.out (by rw [← HU.out]; omega))
                have k0 := (hbr.cell (p := ⟨w.heap.size, 0, none⟩) hwlo).trans K0o.out
                have k1 := (hbr.cell (p := ⟨w.heap.size, 1, none⟩) hwlo).trans K1o.out
                have k2 := (hbr.cell (p := ⟨w.heap.size, 2, none⟩) hwlo).trans K2o.out
                have x0 : wr.cell? ⟨c6, 0, none⟩ = some (.int .u8 0) := hbk.cell (i := 0) rfl
                have f0 := hbk.frozen 0
                have hcwne : w.heap.size ≠ c6 := by omega
                have hcwne' : c6 ≠ w.heap.size := by omega
                have hle6 : wo.heap.size ≤ c6 := by have := HC6.out; omega
                clear hu hq hbk hbr
                go_wp2_with (go_at_call 19; refine Classical.byContradiction (fun hG => ?_))
                refine hG ?_
                clear hG
                refine (sides_c hX hY hZ (by have := HXYZ.out; omega)).mono ?_
                rintro e w9 ⟨vn, rfl, hon, hb9⟩
                have HB9 := Lib.hid (show Below wo.heap.size wo w9 from bel_then (HBU.out.setCell hle6 _) hb9 (by simp; omega))
                have BK9 := Lib.hid (show Blk w9 c6 37 [u8v 15, u8v lm] from (BKU.out.setTo rfl).below hb9)
                have OW9 := Lib.hid (show RowG.Own encN 3 w9 (c6 + 1) vn (GlowP.sides x y z j) from hon.mono (by simp; omega))
                obtain ⟨m, hm⟩ : ∃ m, (GlowP.sides x y z j).length = m := ⟨_, rfl⟩
                obtain ⟨An, cn, rfl, hmc, _, hAn⟩ := OW9.out.form hm
                have HM := Lib.hid hm
                have HAN := Lib.hid hAn
                obtain ⟨near, hnear⟩ : ∃ near, GlowP.sides x y z j = near := ⟨_, rfl⟩
                obtain ⟨F, hF⟩ : ∃ F : Nat → Nat × Nat, F = uptoS (lightA x y z cs) near (15, lm) := ⟨_, rfl⟩
                have HST := Lib.hid (show (a0, a1) = F m by
                  have h := HQ.out.steps j (a0, a1) (kk, ll) HA.out HX.out HOA.out
                  rw [HSN.out, HLM.out, HM.out, hnear] at h
                  rw [hF]
                  exact h)
                rw [hnear] at OW9 HM
                have HNR := Lib.hid hnear
                have HF := Lib.hid hF
                have h9l := HB9.out.size
                clear hon hb9 hm hAn hnear hF
                go_wp2_with fail
                go_loopw [9] (NearRel wo c6 (.slice An m cn) near F m) (fun v _ => m - (intOf v).toNat)
                case atStart => exact ⟨0, rfl, by omega, by rw [HF.out, upto_zero]; exact BK9.out, OW9.out, HB9.out⟩
                case round =>
                  obtain ⟨i, rfl, hi, hbk, how, hbr⟩ := hrel
                  have BKR := Lib.hid hbk
                  have OWR := Lib.hid how
                  have HBR := Lib.hid hbr
                  have hcr := hbk.lt
                  by_cases hlti : i < m
                  · have hiI : (i : Int) < m := by omega
                    have hi0 : (0 : Int) ≤ (i : Int) := by omega
                    obtain ⟨s, hs⟩ : ∃ s, near[i]? = some s := ⟨_, List.getElem?_eq_getElem (by have := HM.out; omega)⟩
                    have hsn : s < n := by
                      have h1 := List.mem_of_getElem? hs
                      rw [← HNR.out] at h1
                      have := GlowP.sides_lt (show j < x * y * z by have := HXYZ.out; omega) h1
                      have := HXYZ.out
                      omega
                    have hsI : (s : Int) < n := by omega
                    have hs0 : (0 : Int) ≤ (s : Int) := by omega
                    obtain ⟨gn, rfl, hgnB, _⟩ := HAN.out (by omega)
                    have nc : wr.cell? ⟨gn, i, none⟩ = some (.int .i64 s) := by
                      have h := how.cell (j := 0) hs rfl
                      rw [show i * encN.k + 0 = i from (by show i * 1 + 0 = i; omega)] at h
                      exact h
                    obtain ⟨b, hbb⟩ : ∃ b, (lightA x y z cs)[s]? = some b := ⟨_, List.getElem?_eq_getElem (by rw [lightA_len, HXYZ.out]; exact hsn)⟩
                    obtain ⟨b0, b1⟩ := b
                    have hgr : g < wr.heap.size := by omega
                    obtain ⟨v0, v1⟩ := lit2 ((HG1.out.below HB.out).below hbr) hbb
                    obtain ⟨⟨q0, q1⟩, hq⟩ : ∃ q, F i = q := ⟨_, rfl⟩
                    have hq15 : q0 ≤ 15 ∧ q1 ≤ 15 := by
                      have h := upto_le (near := near) (q := (15, lm)) HQ.out.top ⟨by show 15 ≤ 15; omega, HL15.out⟩ i
                      rw [← HF.out, hq] at h
                      exact h
                    obtain ⟨hb15a, hb15b⟩ : b0 ≤ 15 ∧ b1 ≤ 15 := HQ.out.top s (b0, b1) hbb
                    rw [hq] at hbk
                    have x0 : wr.cell? ⟨c6, 0, none⟩ = some (.int .u8 q0) := hbk.cell (i := 0) rfl
                    have x1 : wr.cell? ⟨c6, 1, none⟩ = some (.int .u8 q1) := hbk.cell (i := 1) rfl
                    have f0 := hbk.frozen 0
                    have f1 := hbk.frozen 1
                    have BKR := Lib.hid hbk
                    have HNX := Lib.hid (show F (i + 1) = (max q0 (b0 - 1), max q1 (b1 - 1)) by
                      have h := upto_succ (q := (15, lm)) hs hbb
                      rw [← HF.out, hq] at h
                      exact h)
                    obtain ⟨r0, hr0⟩ : ∃ r0 : Nat, (q0 : Int) + 1 = r0 := ⟨q0 + 1, by omega⟩
                    obtain ⟨r1, hr1⟩ : ∃ r1 : Nat, (q1 : Int) + 1 = r1 := ⟨q1 + 1, by omega⟩
                    have s0 := add8 hr0 (by omega)
                    have s1 := add8 hr1 (by omega)
                    have hcn : c6 ≠ wr.heap.size := by omega
                    have LE := Lib.hid (show wo.heap.size ≤ c6 by have := HC6.out; omega)
                    clear hs hq hbb hbk how hbr
                    by_cases c0 : r0 < b0
                    · have c0I : (r0 : Int) < b0 := by omega
                      obtain ⟨d0, hd0⟩ : ∃ d0 : Nat, (b0 : Int) - 1 = d0 := ⟨b0 - 1, by omega⟩
                      have t0 := sub8 hd0 (by omega)
                      by_cases c1 : r1 < b1
                      · have c1I : (r1 : Int) < b1 := by omega
                        obtain ⟨d1, hd1⟩ : ∃ d1 : Nat, (b1 : Int) - 1 = d1 := ⟨b1 - 1, by omega⟩
                        have t1 := sub8 hd1 (by omega)
                        have m0 : max q0 (b0 - 1) = d0 := by omega
                        have m1 : max q1 (b1 - 1) = d1 := by omega
                        have M0 := Lib.hid m0
                        have M1 := Lib.hid m1
                        clear m0 m1
                        go_wp2_with fail
                        go_roundw
                        case rel =>
                          refine ⟨i + 1, by go_num, by omega, ?_, ?_, ?_⟩
                          · rw [HNX.out, M0.out, M1.out]
                            have hbk := BKR.out
                            (repeat' (first | (with_reducible exact hbk) | (with_reducible refine BlkP.Blk.drew ?_) | (with_reducible refine BlkP.Blk.drewN ?_ _) | (with_reducible refine BlkP.Blk.setAt (us := ?_) (by first | omega | (simp; done) | (simp; omega)) rfl ?_ ?_) | (with_reducible refine BlkP.Blk.otherAt ?_ (by first | omega | (simp; done) | (simp; omega))) | (with_reducible refine BlkP.Blk.newA' (by first | omega | (simp; done) | (simp; omega)) rfl) | (with_reducible refine BlkP.Blk.alloc ?_ _) | (exact rfl)))
                          · have ho := OWR.out
                            repeat' (first | exact ho | refine own_set ?_ | refine RowG.Own.alloc ?_ _)
                          · have hbo := HBR.out
                            have hle := LE.out
                            (repeat' (first | (with_reducible exact Below.refl _ _) | (with_reducible refine Below.setCell ?_ (by (first | omega | (simp; done) | (simp; omega))) _) | (with_reducible refine Below.alloc ?_ (by (first | omega | (simp; done) | (simp; omega))) _) | (with_reducible refine Below.drew ?_) | (with_reducible refine below_drewN ?_ _) | (with_reducible refine Below.trans ?_ (Below.mono hbo (by (first | omega | (simp; done) | (simp; omega)))))))
                        case measure => first | (simp [intOf]; done) | (simp [intOf]; omega)
                      · have c1I : ¬ (r1 : Int) < b1 := by omega
                        have m0 : max q0 (b0 - 1) = d0 := by omega
                        have m1 : max q1 (b1 - 1) = q1 := by omega
                        have M0 := Lib.hid m0
                        have M1 := Lib.hid m1
                        clear m0 m1
                        go_wp2_with fail
                        go_roundw
                        case rel =>
                          refine ⟨i + 1, by go_num, by omega, ?_, ?_, ?_⟩
                          · rw [HNX.out, M0.out, M1.out]
                            have hbk := BKR.out
                            (repeat' (first | (with_reducible exact hbk) | (with_reducible refine BlkP.Blk.drew ?_) | (with_reducible refine BlkP.Blk.drewN ?_ _) | (with_reducible refine BlkP.Blk.setAt (us := ?_) (by first | omega | (simp; done) | (simp; omega)) rfl ?_ ?_) | (with_reducible refine BlkP.Blk.otherAt ?_ (by first | omega | (simp; done) | (simp; omega))) | (with_reducible refine BlkP.Blk.newA' (by first | omega | (simp; done) | (simp; omega)) rfl) | (with_reducible refine BlkP.Blk.alloc ?_ _) | (exact rfl)))
                          · have ho := OWR.out
                            repeat' (first | exact ho | refine own_set ?_ | refine RowG.Own.alloc ?_ _)
                          · have hbo := HBR.out
                            have hle := LE.out
                            (repeat' (first | (with_reducible exact Below.refl _ _) | (with_reducible refine Below.setCell ?_ (by (first | omega | (simp; done) | (simp; omega))) _) | (with_reducible refine Below.alloc ?_ (by (first | omega | (simp; done) | (simp; omega))) _) | (with_reducible refine Below.drew ?_) | (with_reducible refine below_drewN ?_ _) | (with_reducible refine Below.trans ?_ (Below.mono hbo (by (first | omega | (simp; done) | (simp; omega)))))))
                        case measure => first | (simp [intOf]; done) | (simp [intOf]; omega)
                    · have c0I : ¬ (r0 : Int) < b0 := by omega
                      by_cases c1 : r1 < b1
                      · have c1I : (r1 : Int) < b1 := by omega
                        obtain ⟨d1, hd1⟩ : ∃ d1 : Nat, (b1 : Int) - 1 = d1 := ⟨b1 - 1, by omega⟩
                        have t1 := sub8 hd1 (by omega)
                        have m0 : max q0 (b0 - 1) = q0 := by omega
                        have m1 : max q1 (b1 - 1) = d1 := by omega
                        have M0 := Lib.hid m0
                        have M1 := Lib.hid m1
                        clear m0 m1
                        go_wp2_with fail
                        go_roundw
                        case rel =>
                          refine ⟨i + 1, by go_num, by omega, ?_, ?_, ?_⟩
                          · rw [HNX.out, M0.out, M1.out]
                            have hbk := BKR.out
                            (repeat' (first | (with_reducible exact hbk) | (with_reducible refine BlkP.Blk.drew ?_) | (with_reducible refine BlkP.Blk.drewN ?_ _) | (with_reducible refine BlkP.Blk.setAt (us := ?_) (by first | omega | (simp; done) | (simp; omega)) rfl ?_ ?_) | (with_reducible refine BlkP.Blk.otherAt ?_ (by first | omega | (simp; done) | (simp; omega))) | (with_reducible refine BlkP.Blk.newA' (by first | omega | (simp; done) | (simp; omega)) rfl) | (with_reducible refine BlkP.Blk.alloc ?_ _) | (exact rfl)))
                          · have ho := OWR.out
                            repeat' (first | exact ho | refine own_set ?_ | refine RowG.Own.alloc ?_ _)
                          · have hbo := HBR.out
                            have hle := LE.out
                            (repeat' (first | (with_reducible exact Below.refl _ _) | (with_reducible refine Below.setCell ?_ (by (first | omega | (simp; done) | (simp; omega))) _) | (with_reducible refine Below.alloc ?_ (by (first | omega | (simp; done) | (simp; omega))) _) | (with_reducible refine Below.drew ?_) | (with_reducible refine below_drewN ?_ _) | (with_reducible refine Below.trans ?_ (Below.mono hbo (by (first | omega | (simp; done) | (simp; omega)))))))
                        case measure => first | (simp [intOf]; done) | (simp [intOf]; omega)
                      · have c1I : ¬ (r1 : Int) < b1 := by omega
                        have m0 : max q0 (b0 - 1) = q0 := by omega
                        have m1 : max q1 (b1 - 1) = q1 := by omega
                        have M0 := Lib.hid m0
                        have M1 := Lib.hid m1
                        clear m0 m1
                        go_wp2_with fail
                        go_roundw
                        case rel =>
                          refine ⟨i + 1, by go_num, by omega, ?_, ?_, ?_⟩
                          · rw [HNX.out, M0.out, M1.out]
                            have hbk := BKR.out
                            (repeat' (first | (with_reducible exact hbk) | (with_reducible refine BlkP.Blk.drew ?_) | (with_reducible refine BlkP.Blk.drewN ?_ _) | (with_reducible refine BlkP.Blk.setAt (us := ?_) (by first | omega | (simp; done) | (simp; omega)) rfl ?_ ?_) | (with_reducible refine BlkP.Blk.otherAt ?_ (by first | omega | (simp; done) | (simp; omega))) | (with_reducible refine BlkP.Blk.newA' (by first | omega | (simp; done) | (simp; omega)) rfl) | (with_reducible refine BlkP.Blk.alloc ?_ _) | (exact rfl)))
                          · have ho := OWR.out
                            repeat' (first | exact ho | refine own_set ?_ | refine RowG.Own.alloc ?_ _)
                          · have hbo := HBR.out
                            have hle := LE.out
                            (repeat' (first | (with_reducible exact Below.refl _ _) | (with_reducible refine Below.setCell ?_ (by (first | omega | (simp; done) | (simp; omega))) _) | (with_reducible refine Below.alloc ?_ (by (first | omega | (simp; done) | (simp; omega))) _) | (with_reducible refine Below.drew ?_) | (with_reducible refine below_drewN ?_ _) | (with_reducible refine Below.trans ?_ (Below.mono hbo (by (first | omega | (simp; done) | (simp; omega)))))))
                        case measure => first | (simp [intOf]; done) | (simp [intOf]; omega)
                  · obtain rfl : m = i := by omega
                    rw [← HST.out] at hbk
                    have x0 : wr.cell? ⟨c6, 0, none⟩ = some (.int .u8 a0) := hbk.cell (i := 0) rfl
                    have x1 : wr.cell? ⟨c6, 1, none⟩ = some (.int .u8 a1) := hbk.cell (i := 1) rfl
                    have y0 := (hbr.cell (p := ⟨g, j * 2, none⟩) hglo).trans Y0.out
                    have y1 := (hbr.cell (p := ⟨g, j * 2 + 1, none⟩) hglo).trans Y1.out
                    have hcL := hbk.lt
                    have hgL : g < wr.heap.size := by omega
                    have HBL := HBR
                    clear hbk how hbr
                    go_wp2_with fail
                    refine wp_region_noPanic ?_
                    refine wp_region_held_drew (S := fun W => Below wr.heap.size wr W) (by kernel_rfl) ((Below.refl _ wr).drew) (fun hHeld => ?_)
                    refine wpAnyH_take (i := 0) (oi := ⟨some 113, _, _, _, _, _⟩) (v := .slice (some ⟨g, 0, none⟩) n n) rfl (by kernel_rfl) (by kernel_rfl) (by kernel_rfl) (fun _ _ _ h => h) (Or.inl ⟨by rfl, fun W hSW => by go_simp⟩) hHeld ?_
                    simp only [Act.put, List.setIfInBounds_toArray, List.set_cons_zero, List.set_cons_succ]
                    refine wpAnyH_take (i := 1) (oi := ⟨some 114, _, _, _, _, _⟩) (v := .int .i64 j) rfl (by kernel_rfl) (by kernel_rfl) (by kernel_rfl) (fun _ _ _ h => h) (Or.inl ⟨by rfl, fun W hSW => by go_simp⟩) hHeld ?_
                    simp only [Act.put, List.setIfInBounds_toArray, List.set_cons_zero, List.set_cons_succ]
                    refine wpAnyH_take (i := 2) (oi := ⟨some 115, _, _, _, _, _⟩) (v := .pointer (some ⟨g, j * 2, none⟩)) rfl (by kernel_rfl) (by kernel_rfl) (by kernel_rfl) (fun _ _ _ h => h) (Or.inl ⟨by rfl, fun W hSW => by go_simp⟩) hHeld ?_
                    simp only [Act.put, List.setIfInBounds_toArray, List.set_cons_zero, List.set_cons_succ]
                    refine wpAnyH_take (i := 3) (oi := ⟨some 116, _, _, _, _, _⟩) (v := .agg #[.int .u8 a0, .int .u8 a1]) rfl (by kernel_rfl) (by kernel_rfl) (by kernel_rfl) (fun _ _ _ h => h) (Or.inl ⟨by rfl, fun W hSW => by have a0 := (hSW.cell (p := ⟨g, j * 2, none⟩) hgL).trans y0; have a1 := (hSW.cell (p := ⟨g, j * 2 + 1, none⟩) hgL).trans y1; go_simp⟩) hHeld ?_
                    simp only [Act.put, List.setIfInBounds_toArray, List.set_cons_zero, List.set_cons_succ]
                    refine wpAnyH_take (i := 4) (oi := ⟨some 117, _, _, _, _, _⟩) (v := .agg #[.int .u8 a0, .int .u8 a1]) rfl (by kernel_rfl) (by kernel_rfl) (by kernel_rfl) (fun _ _ _ h => h) (Or.inl ⟨by rfl, fun W hSW => by have a0 := (hSW.cell (p := ⟨c6, 0, none⟩) hcL).trans x0; have a1 := (hSW.cell (p := ⟨c6, 1, none⟩) hcL).trans x1; go_simp⟩) hHeld ?_
                    simp only [Act.put, List.setIfInBounds_toArray, List.set_cons_zero, List.set_cons_succ]
                    refine wpAnyH_take (i := 5) (oi := ⟨some 118, _, _, _, _, _⟩) (v := .bool false) rfl (by kernel_rfl) (by kernel_rfl) (by kernel_rfl) (fun _ _ _ h => h) (Or.inl ⟨by rfl, fun W hSW => by go_simp⟩) hHeld ?_
                    simp only [Act.put, List.setIfInBounds_toArray, List.set_cons_zero, List.set_cons_succ]
                    refine wpAnyH_done (by kernel_rfl) ?_ _
                    refine NoPanic.normal ?_
                    go_wp2_with fail
                    go_roundw
                    case rel => exact ⟨j + 1, by go_num, by omega, HB.out.trans ((HBL.out.trans (hHeld.mono HBL.out.size)).mono HB.out.size)⟩
                    case measure => first | (simp [intOf]; done) | (simp [intOf]; omega)
        · obtain rfl : n = j := by omega
          have HWr := Lib.hid (show Below w.heap.size w wo from HW1.out.trans (hb.mono HW1.out.size))
          clear hb
          go_wp2_with (go_at_call 13; refine (works_c (HT.out.below (by have hbo := HWr.out; (repeat' (first | (with_reducible exact Below.refl _ _) | (with_reducible refine Below.setCell ?_ (by (first | omega | (simp; done) | (simp; omega))) _) | (with_reducible refine Below.alloc ?_ (by (first | omega | (simp; done) | (simp; omega))) _) | (with_reducible refine Below.drew ?_) | (with_reducible refine below_drewN ?_ _) | (with_reducible refine Below.trans ?_ (Below.mono hbo (by (first | omega | (simp; done) | (simp; omega)))))))))).mono ?_; rintro e wz ⟨rfl, hbz⟩)
          go_ret
          have hbo := HWr.out
          exact ⟨rfl, hbo.trans (hbz.mono hbo.size)⟩
    · obtain ⟨r, hr⟩ : ∃ r, checkN X Y Z n = r := ⟨_, rfl⟩
      have hr0 : r ≠ 0 := by rw [← hr]; exact hck
      have HRR := Lib.hid hr
      have hrI : ((r : Int) != 0) = true := by simp; omega
      clear hck hr
      go_enter Tryd.func4, Tryd.ntmps4
      go_wp2_with (first | (go_at_call 14; refine (light_no HRR.out hr0).mono ?_; rintro e w1 ⟨rfl, hb1⟩; have HB1 := Lib.hid (show Below w.heap.size w w1 by (repeat' (first | (with_reducible exact Below.refl _ _) | (with_reducible refine Below.setCell ?_ (by (first | omega | (simp; done) | (simp; omega))) _) | (with_reducible refine Below.alloc ?_ (by (first | omega | (simp; done) | (simp; omega))) _) | (with_reducible refine Below.drew ?_) | (with_reducible refine below_drewN ?_ _) | (with_reducible refine Below.trans ?_ (Below.mono hb1 (by (first | omega | (simp; done) | (simp; omega)))))))); clear hb1) | (go_at_call 13; refine (works_c (HT.out.below HB1.out)).mono ?_; rintro e wz ⟨rfl, hbz⟩))
      go_ret
      have hbo := HB1.out
      exact ⟨rfl, hbo.trans (hbz.mono hbo.size)⟩
  · have h1I : (6000 : Int) < n := by omega
    go_enter Tryd.func4, Tryd.ntmps4
    go_wp2_with (go_at_call 13; refine (works_c (HT.out.below (by (repeat' (first | (with_reducible exact Below.refl _ _) | (with_reducible refine Below.setCell ?_ (by (first | omega | (simp; done) | (simp; omega))) _) | (with_reducible refine Below.alloc ?_ (by (first | omega | (simp; done) | (simp; omega))) _) | (with_reducible refine Below.drew ?_) | (with_reducible refine below_drewN ?_ _)))))).mono ?_; rintro e wz ⟨rfl, hbz⟩)
    go_ret
    exact ⟨rfl, by (repeat' (first | (with_reducible exact Below.refl _ _) | (with_reducible refine Below.setCell ?_ (by (first | omega | (simp; done) | (simp; omega))) _) | (with_reducible refine Below.alloc ?_ (by (first | omega | (simp; done) | (simp; omega))) _) | (with_reducible refine Below.drew ?_) | (with_reducible refine below_drewN ?_ _) | (with_reducible refine Below.trans ?_ (Below.mono hbz (by (first | omega | (simp; done) | (simp; omega)))))))⟩
end GlowW
end Go.Proofs.YtbkadecfmjjadaaDoor
