/-
  GlowLamp: a torch in the place of Air makes none darker, and leaves the sky's light as it is.
-/
import Derived.Test.YtbkadecfmjjadaaDoorGlowCells
import Derived.Test.YtbkadecfmjjadaaDoorGlowLitP
import Derived.BigQuiet
namespace Go.Proofs.YtbkadecfmjjadaaDoor
open Go.RowKit
set_option linter.unusedVariables false
set_option linter.unusedSimpArgs false
namespace GlowW
open BlkP RowG KindP KindW
def lampRel (w7 : World) (n : Nat) (v : Value) (wr : World) : Prop := ∃ j : Nat, v = .int .i64 j ∧ j ≤ n ∧ Below w7.heap.size w7 wr
set_option maxRecDepth 100000 in
set_option maxHeartbeats 16000000 in
theorem law_lamp {w : World} {X Y Z p : Int} {A : Option Addr} {c : Nat} {cs : List (Nat × Nat)} (hT : Tab w) (h : Rd enc2 w (.slice A cs.length c) cs ∧ (∀ x ∈ cs, x.1 < 256 ∧ x.2 < 256) ∧ True) (l1 : -9223372036854775808 ≤ p) (u1 : p ≤ 9223372036854775807) :
    Calls Tryd.prog 8 #[.agg #[.int .i64 X, .int .i64 Y, .int .i64 Z, .slice A cs.length c], .int .i64 p] w (HoldsP w) := by
  have HT := Lib.hid hT
  have HR := Lib.hid h.1
  obtain ⟨n, hn⟩ : ∃ n, n = cs.length := ⟨_, rfl⟩
  have hform := h.1.form hn.symm
  rw [← hn] at HR ⊢
  have HN := Lib.hid hn
  have hnc : n ≤ c := by
    obtain ⟨A', c', he, h1, _⟩ := hform
    injection he with _ _ h3
    rw [h3]
    exact h1
  clear hT h hn hform
  have hnI : (0 : Int) ≤ n := by omega
  by_cases hs : n ≤ 3000 ∧ 0 ≤ p ∧ p < n
  · obtain ⟨q, rfl⟩ := Int.eq_ofNat_of_zero_le hs.2.1
    have hq : q < n := by omega
    have hqI : (q : Int) < n := by omega
    have hq0 : (0 : Int) ≤ (q : Int) := by omega
    have hnM : n ≤ 3000 := hs.1
    have hnMI : (n : Int) ≤ 3000 := by omega
    have hnM2 : n ≤ 1000000 := by omega
    clear hs
    obtain ⟨⟨kq, lq⟩, hx⟩ : ∃ x, cs[q]? = some x := ⟨_, List.getElem?_eq_getElem (by have := HN.out; omega)⟩
    have HX := Lib.hid hx
    obtain ⟨bb, oo, rfl, hbl, r0, r1⟩ := rd2 HR.out hx
    have hbn : bb ≠ w.heap.size := by omega
    clear hx
    by_cases hair : kq = 0 ∧ lq = 0
    · obtain ⟨rfl, rfl⟩ := hair
      by_cases hck : checkN X Y Z n = 0
      · obtain ⟨x, y, z, rfl, rfl, rfl, hX, hY, hZ, hxyz, hn2⟩ := check_zero hck
        have HXYZ := Lib.hid hxyz
        clear hck hxyz
        go_enter Tryd.func8, Tryd.ntmps8
        go_wp2_with (go_at_call 14; refine (light_c (HT.out.below (by (repeat' (first | (with_reducible exact Below.refl _ _) | (with_reducible refine Below.setCell ?_ (by (first | omega | (simp; done) | (simp; omega))) _) | (with_reducible refine Below.alloc ?_ (by (first | omega | (simp; done) | (simp; omega))) _) | (with_reducible refine Below.drew ?_) | (with_reducible refine below_drewN ?_ _))))) (HR.out.below (by (repeat' (first | (with_reducible exact Below.refl _ _) | (with_reducible refine Below.setCell ?_ (by (first | omega | (simp; done) | (simp; omega))) _) | (with_reducible refine Below.alloc ?_ (by (first | omega | (simp; done) | (simp; omega))) _) | (with_reducible refine Below.drew ?_) | (with_reducible refine below_drewN ?_ _))))) HN.out hX hY hZ HXYZ.out hn2).mono ?_; rintro e w1 ⟨g1, rfl, hg1, hge1, hb1⟩; have HG1 := Lib.hid hg1; have HB1 := Lib.hid hb1; have k0 : w1.cell? ⟨w.heap.size, 0, none⟩ = some (.int .i64 x) := (by (repeat' (first | (with_reducible assumption) | (with_reducible refine HeldP.c_below hb1 ?_ ?_) | (with_reducible refine HeldP.f_below hb1 ?_ ?_) | (with_reducible refine HeldP.c_drew ?_) | (with_reducible refine HeldP.c_drewN ?_) | (with_reducible refine HeldP.c_same (by omega) ?_) | (with_reducible refine HeldP.c_other ?_ ?_) | (with_reducible refine HeldP.c_new (by first | omega | (simp; done) | (simp; omega)) ?_) | (with_reducible refine HeldP.c_alloc ?_ ?_) | (with_reducible refine HeldP.e_drew ?_) | (with_reducible refine HeldP.e_drewN ?_) | (with_reducible refine HeldP.e_set ?_) | (with_reducible refine HeldP.e_new (by first | omega | (simp; done) | (simp; omega)) ⟨_, rfl⟩) | (with_reducible refine HeldP.e_alloc ?_ ?_) | (with_reducible refine HeldP.f_drew ?_) | (with_reducible refine HeldP.f_drewN ?_) | (with_reducible refine HeldP.f_set ?_) | (with_reducible refine HeldP.f_new (by first | omega | (simp; done) | (simp; omega))) | (with_reducible refine HeldP.f_alloc ?_ ?_) | (with_reducible refine HeldP.s_drew ?_) | (with_reducible refine HeldP.s_drewN ?_) | (with_reducible refine HeldP.s_set ?_) | (with_reducible refine HeldP.s_new (by first | omega | (simp; done) | (simp; omega))) | (with_reducible refine HeldP.s_alloc ?_) | (with_reducible exact ⟨_, by assumption⟩) | omega | (intro e; simp at e; done) | (intro e; simp at e; omega) | (exact rfl) | (simp; done) | (simp; omega)))); have k1 : w1.cell? ⟨w.heap.size, 1, none⟩ = some (.int .i64 y) := (by (repeat' (first | (with_reducible assumption) | (with_reducible refine HeldP.c_below hb1 ?_ ?_) | (with_reducible refine HeldP.f_below hb1 ?_ ?_) | (with_reducible refine HeldP.c_drew ?_) | (with_reducible refine HeldP.c_drewN ?_) | (with_reducible refine HeldP.c_same (by omega) ?_) | (with_reducible refine HeldP.c_other ?_ ?_) | (with_reducible refine HeldP.c_new (by first | omega | (simp; done) | (simp; omega)) ?_) | (with_reducible refine HeldP.c_alloc ?_ ?_) | (with_reducible refine HeldP.e_drew ?_) | (with_reducible refine HeldP.e_drewN ?_) | (with_reducible refine HeldP.e_set ?_) | (with_reducible refine HeldP.e_new (by first | omega | (simp; done) | (simp; omega)) ⟨_, rfl⟩) | (with_reducible refine HeldP.e_alloc ?_ ?_) | (with_reducible refine HeldP.f_drew ?_) | (with_reducible refine HeldP.f_drewN ?_) | (with_reducible refine HeldP.f_set ?_) | (with_reducible refine HeldP.f_new (by first | omega | (simp; done) | (simp; omega))) | (with_reducible refine HeldP.f_alloc ?_ ?_) | (with_reducible refine HeldP.s_drew ?_) | (with_reducible refine HeldP.s_drewN ?_) | (with_reducible refine HeldP.s_set ?_) | (with_reducible refine HeldP.s_new (by first | omega | (simp; done) | (simp; omega))) | (with_reducible refine HeldP.s_alloc ?_) | (with_reducible exact ⟨_, by assumption⟩) | omega | (intro e; simp at e; done) | (intro e; simp at e; omega) | (exact rfl) | (simp; done) | (simp; omega)))); have k2 : w1.cell? ⟨w.heap.size, 2, none⟩ = some (.int .i64 z) := (by (repeat' (first | (with_reducible assumption) | (with_reducible refine HeldP.c_below hb1 ?_ ?_) | (with_reducible refine HeldP.f_below hb1 ?_ ?_) | (with_reducible refine HeldP.c_drew ?_) | (with_reducible refine HeldP.c_drewN ?_) | (with_reducible refine HeldP.c_same (by omega) ?_) | (with_reducible refine HeldP.c_other ?_ ?_) | (with_reducible refine HeldP.c_new (by first | omega | (simp; done) | (simp; omega)) ?_) | (with_reducible refine HeldP.c_alloc ?_ ?_) | (with_reducible refine HeldP.e_drew ?_) | (with_reducible refine HeldP.e_drewN ?_) | (with_reducible refine HeldP.e_set ?_) | (with_reducible refine HeldP.e_new (by first | omega | (simp; done) | (simp; omega)) ⟨_, rfl⟩) | (with_reducible refine HeldP.e_alloc ?_ ?_) | (with_reducible refine HeldP.f_drew ?_) | (with_reducible refine HeldP.f_drewN ?_) | (with_reducible refine HeldP.f_set ?_) | (with_reducible refine HeldP.f_new (by first | omega | (simp; done) | (simp; omega))) | (with_reducible refine HeldP.f_alloc ?_ ?_) | (with_reducible refine HeldP.s_drew ?_) | (with_reducible refine HeldP.s_drewN ?_) | (with_reducible refine HeldP.s_set ?_) | (with_reducible refine HeldP.s_new (by first | omega | (simp; done) | (simp; omega))) | (with_reducible refine HeldP.s_alloc ?_) | (with_reducible exact ⟨_, by assumption⟩) | omega | (intro e; simp at e; done) | (intro e; simp at e; omega) | (exact rfl) | (simp; done) | (simp; omega)))); have k3 : w1.cell? ⟨w.heap.size, 3, none⟩ = some (.slice (some ⟨bb, oo, none⟩) n c) := (by (repeat' (first | (with_reducible assumption) | (with_reducible refine HeldP.c_below hb1 ?_ ?_) | (with_reducible refine HeldP.f_below hb1 ?_ ?_) | (with_reducible refine HeldP.c_drew ?_) | (with_reducible refine HeldP.c_drewN ?_) | (with_reducible refine HeldP.c_same (by omega) ?_) | (with_reducible refine HeldP.c_other ?_ ?_) | (with_reducible refine HeldP.c_new (by first | omega | (simp; done) | (simp; omega)) ?_) | (with_reducible refine HeldP.c_alloc ?_ ?_) | (with_reducible refine HeldP.e_drew ?_) | (with_reducible refine HeldP.e_drewN ?_) | (with_reducible refine HeldP.e_set ?_) | (with_reducible refine HeldP.e_new (by first | omega | (simp; done) | (simp; omega)) ⟨_, rfl⟩) | (with_reducible refine HeldP.e_alloc ?_ ?_) | (with_reducible refine HeldP.f_drew ?_) | (with_reducible refine HeldP.f_drewN ?_) | (with_reducible refine HeldP.f_set ?_) | (with_reducible refine HeldP.f_new (by first | omega | (simp; done) | (simp; omega))) | (with_reducible refine HeldP.f_alloc ?_ ?_) | (with_reducible refine HeldP.s_drew ?_) | (with_reducible refine HeldP.s_drewN ?_) | (with_reducible refine HeldP.s_set ?_) | (with_reducible refine HeldP.s_new (by first | omega | (simp; done) | (simp; omega))) | (with_reducible refine HeldP.s_alloc ?_) | (with_reducible exact ⟨_, by assumption⟩) | omega | (intro e; simp at e; done) | (intro e; simp at e; omega) | (exact rfl) | (simp; done) | (simp; omega)))); have hz1 : w.heap.size < w1.heap.size := (by have h := hb1.size; simp at h; omega); have HW1 := Lib.hid (show Below w.heap.size w w1 by (repeat' (first | (with_reducible exact Below.refl _ _) | (with_reducible refine Below.setCell ?_ (by (first | omega | (simp; done) | (simp; omega))) _) | (with_reducible refine Below.alloc ?_ (by (first | omega | (simp; done) | (simp; omega))) _) | (with_reducible refine Below.drew ?_) | (with_reducible refine below_drewN ?_ _) | (with_reducible refine Below.trans ?_ (Below.mono hb1 (by (first | omega | (simp; done) | (simp; omega)))))))); clear hb1 hg1; refine Classical.byContradiction (fun hG => ?_))
        refine hG ?_
        clear hG
        go_wp2_with ((with_reducible refine at_slot 47 ?_); refine Classical.byContradiction (fun hG => ?_))
        refine hG ?_
        clear hG
        have HR1 := Lib.hid (HR.out.below HW1.out)
        refine wp_copyC rfl _ _ rfl rfl rfl HR1.out HN.out hnM2 ?_
        intro v2 w2 ho2 hb2
        have HB2 := Lib.hid hb2
        obtain ⟨A2, c2, rfl, hc2, hc2m, hA2⟩ := ho2.form HN.out.symm
        obtain ⟨g2, rfl, hg2a, hg2b⟩ := hA2 (by omega)
        have HO2 := Lib.hid ho2
        replace k0 := (hb2.cell (p := ⟨w.heap.size, 0, none⟩) hz1).trans k0
        replace k1 := (hb2.cell (p := ⟨w.heap.size, 1, none⟩) hz1).trans k1
        replace k2 := (hb2.cell (p := ⟨w.heap.size, 2, none⟩) hz1).trans k2
        replace k3 := (hb2.cell (p := ⟨w.heap.size, 3, none⟩) hz1).trans k3
        have s0 : w2.cell? ⟨g2, q * 2, none⟩ = some (.int .u8 0) := ho2.cell (j := 0) HX.out rfl
        have s1 : w2.cell? ⟨g2, q * 2 + 1, none⟩ = some (.int .u8 0) := ho2.cell (j := 1) HX.out rfl
        have f0 := ho2.frozen (q * 2)
        have f1 := ho2.frozen (q * 2 + 1)
        have hz2 := hb2.size
        have hg2w : g2 ≠ w.heap.size := by omega
        clear ho2 hb2
        go_wp2_with fail
        obtain ⟨w3, hw3⟩ : ∃ w3, w3 = (w2.setCell ⟨g2, q * 2, none⟩ (.int .u8 11)).setCell ⟨g2, q * 2 + 1, none⟩ (.int .u8 15) := ⟨_, rfl⟩
        have HO3 := Lib.hid (show RowG.Own enc2 32 w3 w1.heap.size (.slice (some ⟨g2, 0, none⟩) n c2) (cs.set q (11, 15)) ∧ Below w1.heap.size w1 w3 by
          obtain ⟨h1, h2⟩ := HO2.out.store (i := q) (j := 0) (y := (11, 0)) HX.out (by decide) rfl
          obtain ⟨h3, h4⟩ := h1.store (i := q) (j := 1) (y := (11, 15)) (x := (11, 0)) (by rw [List.getElem?_set_self (List.getElem?_eq_some_iff.1 HX.out).1]) (by decide) rfl
          rw [List.set_set] at h3
          rw [hw3]
          exact ⟨h3, (HB2.out.setCell (by omega) _).setCell (by omega) _⟩)
        have HW3 := Lib.hid (show Below w.heap.size w w3 from HW1.out.trans (HO3.out.2.mono HW1.out.size))
        have hz3 := HO3.out.2.size
        have k3' := (HO3.out.2.cell (p := ⟨w.heap.size, 3, none⟩) hz1).trans (show w1.cell? ⟨w.heap.size, 3, none⟩ = some (.slice (some ⟨bb, oo, none⟩) n c) by rw [← HB2.out.cell (p := ⟨w.heap.size, 3, none⟩) hz1]; exact k3)
        rw [← hw3]
        have hlen3 : n = (cs.set q (11, 15)).length := by rw [List.length_set]; exact HN.out
        have HL3 := Lib.hid hlen3
        clear hw3 k0 k1 k2 k3 s0 s1 f0 f1 hlen3
        refine (light_c (HT.out.below HW3.out) HO3.out.1.rd HL3.out hX hY hZ HXYZ.out hn2).mono ?_
        rintro e w4 ⟨g4, rfl, hg4, hge4, hb4⟩
        have HG4 := Lib.hid hg4
        have HW4 := Lib.hid (show Below w.heap.size w w4 from HW3.out.trans (hb4.mono HW3.out.size))
        have k3 := (hb4.cell (p := ⟨w.heap.size, 3, none⟩) (by show w.heap.size < _; omega)).trans k3'
        have HG14 := Lib.hid ((HG1.out.below HO3.out.2).below hb4)
        have hg1l := HG14.out.lt
        have hg4l := hg4.lt
        obtain ⟨hall, hend⟩ := lamp_plain (X := x) (Y := y) (Z := z) (cs := cs) (q := q) (HXYZ.out.trans HN.out) (by have := HN.out; omega) HX.out
        have HA15 := Lib.hid hall
        have HEND := Lib.hid hend
        clear hg4 hb4 k3' hall hend
        go_wp2_with fail
        go_loopw [10] (lampRel w4 n) (fun v _ => n - (intOf v).toNat)
        case atStart => exact ⟨0, rfl, by omega, Below.refl _ _⟩
        case round =>
          obtain ⟨j, rfl, hj, hb⟩ := hrel
          have HB := Lib.hid hb
          have hzr := hb.size
          by_cases hlt : j < n
          · have hjI : (j : Int) < n := by omega
            have hj0 : (0 : Int) ≤ (j : Int) := by omega
            obtain ⟨a, ha⟩ : ∃ a, (lightA x y z cs)[j]? = some a := ⟨_, List.getElem?_eq_getElem (by rw [lightA_len, HXYZ.out]; exact hlt)⟩
            obtain ⟨b, hbb⟩ : ∃ b, (lightA x y z (cs.set q (11, 15)))[j]? = some b := ⟨_, List.getElem?_eq_getElem (by rw [lightA_len, HXYZ.out]; exact hlt)⟩
            have hcmp := HA15.out j a b ha hbb
            obtain ⟨a0, a1⟩ := a
            obtain ⟨b0, b1⟩ := b
            obtain ⟨c0, c1⟩ := lit2 HG14.out ha
            obtain ⟨d0, d1⟩ := lit2 HG4.out hbb
            replace c0 := (hb.cell (p := ⟨g1, j * 2, none⟩) hg1l).trans c0
            replace c1 := (hb.cell (p := ⟨g1, j * 2 + 1, none⟩) hg1l).trans c1
            replace d0 := (hb.cell (p := ⟨g4, j * 2, none⟩) hg4l).trans d0
            replace d1 := (hb.cell (p := ⟨g4, j * 2 + 1, none⟩) hg4l).trans d1
            obtain ⟨rfl, hle⟩ := hcmp
            have hd1 : ¬ (b1 : Int) < a1 := by omega
            have hdd1 : decide ((b1 : Int) < (a1 : Int)) = false := decide_eq_false hd1
            have hdn1 : decide (b1 < a1) = false := decide_eq_false (by omega)
            clear ha hbb hb hle
            go_wp2_with fail
            go_quiet (fail)
            go_wp2_with fail
            go_roundw
            case rel => exact ⟨j + 1, by go_num, by omega, by have HBo := HB.out; (repeat' (first | (with_reducible exact Below.refl _ _) | (with_reducible refine Below.setCell ?_ (by (first | omega | (simp; done) | (simp; omega))) _) | (with_reducible refine Below.alloc ?_ (by (first | omega | (simp; done) | (simp; omega))) _) | (with_reducible refine Below.drew ?_) | (with_reducible refine below_drewN ?_ _) | (with_reducible refine Below.trans ?_ (Below.mono HBo (by (first | omega | (simp; done) | (simp; omega)))))))⟩
            case measure => first | (simp [intOf]; done) | (simp [intOf]; omega)
          · obtain rfl : n = j := by omega
            obtain ⟨b, hbb⟩ : ∃ b, (lightA x y z (cs.set q (11, 15)))[q]? = some b := ⟨_, List.getElem?_eq_getElem (by rw [lightA_len, HXYZ.out]; exact hq)⟩
            have he := HEND.out b hbb
            obtain ⟨b0, b1⟩ := b
            obtain rfl : b1 = 15 := he
            obtain ⟨d0, d1⟩ := lit2 HG4.out hbb
            replace d0 := (hb.cell (p := ⟨g4, q * 2, none⟩) hg4l).trans d0
            replace d1 := (hb.cell (p := ⟨g4, q * 2 + 1, none⟩) hg4l).trans d1
            have HWr := Lib.hid (show Below w.heap.size w wr from HW4.out.trans (hb.mono HW4.out.size))
            clear hb hbb
            go_wp2_with (go_at_call 13; refine (works_c (HT.out.below (by have hbo := HWr.out; (repeat' (first | (with_reducible exact Below.refl _ _) | (with_reducible refine Below.setCell ?_ (by (first | omega | (simp; done) | (simp; omega))) _) | (with_reducible refine Below.alloc ?_ (by (first | omega | (simp; done) | (simp; omega))) _) | (with_reducible refine Below.drew ?_) | (with_reducible refine below_drewN ?_ _) | (with_reducible refine Below.trans ?_ (Below.mono hbo (by (first | omega | (simp; done) | (simp; omega)))))))))).mono ?_; rintro e wz ⟨rfl, hbz⟩)
            go_ret
            have hbo := HWr.out
            exact ⟨rfl, hbo.trans (hbz.mono hbo.size)⟩
      · obtain ⟨r, hr⟩ : ∃ r, checkN X Y Z n = r := ⟨_, rfl⟩
        have hr0 : r ≠ 0 := by rw [← hr]; exact hck
        have HRR := Lib.hid hr
        have hrI : ((r : Int) != 0) = true := by simp; omega
        clear hck hr
        go_enter Tryd.func8, Tryd.ntmps8
        go_wp2_with (first | (go_at_call 14; refine (light_no HRR.out hr0).mono ?_; rintro e w1 ⟨rfl, hb1⟩; have HB1 := Lib.hid (show Below w.heap.size w w1 by (repeat' (first | (with_reducible exact Below.refl _ _) | (with_reducible refine Below.setCell ?_ (by (first | omega | (simp; done) | (simp; omega))) _) | (with_reducible refine Below.alloc ?_ (by (first | omega | (simp; done) | (simp; omega))) _) | (with_reducible refine Below.drew ?_) | (with_reducible refine below_drewN ?_ _) | (with_reducible refine Below.trans ?_ (Below.mono hb1 (by (first | omega | (simp; done) | (simp; omega)))))))); clear hb1) | (go_at_call 13; refine (works_c (HT.out.below HB1.out)).mono ?_; rintro e wz ⟨rfl, hbz⟩))
        go_ret
        have hbo := HB1.out
        exact ⟨rfl, hbo.trans (hbz.mono hbo.size)⟩
    · by_cases hkz : kq = 0
      · subst hkz
        have hlz : lq ≠ 0 := fun e => hair ⟨rfl, e⟩
        have hlI : ((lq : Int) == 0) = false := by simp; omega
        have hlI2 : ¬ (lq : Int) = 0 := by omega
        clear hair
        go_enter Tryd.func8, Tryd.ntmps8
        go_wp2_with (go_at_call 13; refine (works_c (HT.out.below (by (repeat' (first | (with_reducible exact Below.refl _ _) | (with_reducible refine Below.setCell ?_ (by (first | omega | (simp; done) | (simp; omega))) _) | (with_reducible refine Below.alloc ?_ (by (first | omega | (simp; done) | (simp; omega))) _) | (with_reducible refine Below.drew ?_) | (with_reducible refine below_drewN ?_ _)))))).mono ?_; rintro e wz ⟨rfl, hbz⟩)
        go_ret
        exact ⟨rfl, by (repeat' (first | (with_reducible exact Below.refl _ _) | (with_reducible refine Below.setCell ?_ (by (first | omega | (simp; done) | (simp; omega))) _) | (with_reducible refine Below.alloc ?_ (by (first | omega | (simp; done) | (simp; omega))) _) | (with_reducible refine Below.drew ?_) | (with_reducible refine below_drewN ?_ _) | (with_reducible refine Below.trans ?_ (Below.mono hbz (by (first | omega | (simp; done) | (simp; omega)))))))⟩
      · have hkI : ((kq : Int) == 0) = false := by simp; omega
        have hkI2 : ¬ (kq : Int) = 0 := by omega
        clear hair
        go_enter Tryd.func8, Tryd.ntmps8
        go_wp2_with (go_at_call 13; refine (works_c (HT.out.below (by (repeat' (first | (with_reducible exact Below.refl _ _) | (with_reducible refine Below.setCell ?_ (by (first | omega | (simp; done) | (simp; omega))) _) | (with_reducible refine Below.alloc ?_ (by (first | omega | (simp; done) | (simp; omega))) _) | (with_reducible refine Below.drew ?_) | (with_reducible refine below_drewN ?_ _)))))).mono ?_; rintro e wz ⟨rfl, hbz⟩)
        go_ret
        exact ⟨rfl, by (repeat' (first | (with_reducible exact Below.refl _ _) | (with_reducible refine Below.setCell ?_ (by (first | omega | (simp; done) | (simp; omega))) _) | (with_reducible refine Below.alloc ?_ (by (first | omega | (simp; done) | (simp; omega))) _) | (with_reducible refine Below.drew ?_) | (with_reducible refine below_drewN ?_ _) | (with_reducible refine Below.trans ?_ (Below.mono hbz (by (first | omega | (simp; done) | (simp; omega)))))))⟩
  · have hbad : 3000 < n ∨ p < 0 ∨ (n : Int) ≤ p := by omega
    clear hs
    by_cases h1 : 3000 < n
    · have h1I : (3000 : Int) < n := by omega
      clear hbad
      go_enter Tryd.func8, Tryd.ntmps8
      go_wp2_with (go_at_call 13; refine (works_c (HT.out.below (by (repeat' (first | (with_reducible exact Below.refl _ _) | (with_reducible refine Below.setCell ?_ (by (first | omega | (simp; done) | (simp; omega))) _) | (with_reducible refine Below.alloc ?_ (by (first | omega | (simp; done) | (simp; omega))) _) | (with_reducible refine Below.drew ?_) | (with_reducible refine below_drewN ?_ _)))))).mono ?_; rintro e wz ⟨rfl, hbz⟩)
      go_ret
      exact ⟨rfl, by (repeat' (first | (with_reducible exact Below.refl _ _) | (with_reducible refine Below.setCell ?_ (by (first | omega | (simp; done) | (simp; omega))) _) | (with_reducible refine Below.alloc ?_ (by (first | omega | (simp; done) | (simp; omega))) _) | (with_reducible refine Below.drew ?_) | (with_reducible refine below_drewN ?_ _) | (with_reducible refine Below.trans ?_ (Below.mono hbz (by (first | omega | (simp; done) | (simp; omega)))))))⟩
    · have h1I : ¬ (3000 : Int) < n := by omega
      by_cases h2 : p < 0
      · clear hbad
        go_enter Tryd.func8, Tryd.ntmps8
        go_wp2_with (go_at_call 13; refine (works_c (HT.out.below (by (repeat' (first | (with_reducible exact Below.refl _ _) | (with_reducible refine Below.setCell ?_ (by (first | omega | (simp; done) | (simp; omega))) _) | (with_reducible refine Below.alloc ?_ (by (first | omega | (simp; done) | (simp; omega))) _) | (with_reducible refine Below.drew ?_) | (with_reducible refine below_drewN ?_ _)))))).mono ?_; rintro e wz ⟨rfl, hbz⟩)
        go_ret
        exact ⟨rfl, by (repeat' (first | (with_reducible exact Below.refl _ _) | (with_reducible refine Below.setCell ?_ (by (first | omega | (simp; done) | (simp; omega))) _) | (with_reducible refine Below.alloc ?_ (by (first | omega | (simp; done) | (simp; omega))) _) | (with_reducible refine Below.drew ?_) | (with_reducible refine below_drewN ?_ _) | (with_reducible refine Below.trans ?_ (Below.mono hbz (by (first | omega | (simp; done) | (simp; omega)))))))⟩
      · have h3 : (n : Int) ≤ p := by omega
        clear hbad
        go_enter Tryd.func8, Tryd.ntmps8
        go_wp2_with (go_at_call 13; refine (works_c (HT.out.below (by (repeat' (first | (with_reducible exact Below.refl _ _) | (with_reducible refine Below.setCell ?_ (by (first | omega | (simp; done) | (simp; omega))) _) | (with_reducible refine Below.alloc ?_ (by (first | omega | (simp; done) | (simp; omega))) _) | (with_reducible refine Below.drew ?_) | (with_reducible refine below_drewN ?_ _)))))).mono ?_; rintro e wz ⟨rfl, hbz⟩)
        go_ret
        exact ⟨rfl, by (repeat' (first | (with_reducible exact Below.refl _ _) | (with_reducible refine Below.setCell ?_ (by (first | omega | (simp; done) | (simp; omega))) _) | (with_reducible refine Below.alloc ?_ (by (first | omega | (simp; done) | (simp; omega))) _) | (with_reducible refine Below.drew ?_) | (with_reducible refine below_drewN ?_ _) | (with_reducible refine Below.trans ?_ (Below.mono hbz (by (first | omega | (simp; done) | (simp; omega)))))))⟩
end GlowW
end Go.Proofs.YtbkadecfmjjadaaDoor
