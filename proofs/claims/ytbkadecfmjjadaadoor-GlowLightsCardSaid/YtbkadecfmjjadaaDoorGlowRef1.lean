/-
  The reference's side, Check, Clear, from.
-/
import Derived.Test.YtbkadecfmjjadaaDoorGlowSides
import Derived.Test.YtbkadecfmjjadaaDoorGlowLitP
import Derived.Deep.Cut
import Derived.Deep.CutRange
namespace Go.Proofs.YtbkadecfmjjadaaDoor
open Go.RowKit
set_option linter.unusedVariables false
set_option linter.unusedSimpArgs false
namespace GlowW
open BlkP RowG KindP KindW
theorem rside_c {w : World} {n : Int} {b : Bool} (h : sideB n = b) : Calls Tryd.prog 23 #[.int .i64 n] w fun e w' => e = .returned (.bool b) ∧ w = w' := by
  subst h
  by_cases h1 : n < 1
  · go_enter Tryd.func23, Tryd.ntmps23
    go_wp2_with fail
    go_ret
    exact ⟨by simp [sideB, show ¬ 1 ≤ n by omega], rfl⟩
  · by_cases h2 : 256 < n
    · go_enter Tryd.func23, Tryd.ntmps23
      go_wp2_with fail
      go_ret
      exact ⟨by simp [sideB, show ¬ n ≤ 256 by omega], rfl⟩
    · go_enter Tryd.func23, Tryd.ntmps23
      go_wp2_with fail
      go_ret
      exact ⟨by simp [sideB, show 1 ≤ n by omega, show n ≤ 256 by omega], rfl⟩
theorem rside_any {w : World} {n : Int} : Calls Tryd.prog 23 #[.int .i64 n] w fun e w' => e = .returned (.bool (sideB n)) ∧ w = w' := rside_c rfl
theorem r_clear_b {k : Nat} {b : Bool} (h : clear k = b) (w : World) : Calls Tryd.prog 45 #[.int .u8 k] w fun e w' => e = .returned (.bool b) ∧ Below w.heap.size w w' := h ▸ r_clear k w
set_option maxHeartbeats 4000000 in
theorem rclear_c {w : World} {k l : Nat} {r : Bool} (h : openA (k, l) = r) : Calls Tryd.prog 40 #[.agg #[.int .u8 k, .int .u8 l]] w fun e w' => e = .returned (.bool r) ∧ Below w.heap.size w w' := by
  obtain ⟨mb, hm⟩ : ∃ mb, may k l = mb := ⟨_, rfl⟩
  obtain ⟨cb, hc⟩ : ∃ cb, clear k = cb := ⟨_, rfl⟩
  have HM := Lib.hid hm
  have HC := Lib.hid hc
  have HR := Lib.hid (show r = (mb && cb) by rw [← h, ← hm, ← hc]; rfl)
  clear hm hc h
  cases mb
  · go_enter Tryd.func40, Tryd.ntmps40
    go_wp2_with fail
    refine (r_may_b HM.out _).mono ?_
    rintro e w1 ⟨rfl, hb1⟩
    have d0 : w1.cell? ⟨w.heap.size, 0, none⟩ = some (.int .u8 k) := by (repeat' (first | (with_reducible assumption) | (with_reducible refine HeldP.c_below hb1 ?_ ?_) | (with_reducible refine HeldP.f_below hb1 ?_ ?_) | (with_reducible refine HeldP.c_drew ?_) | (with_reducible refine HeldP.c_drewN ?_) | (with_reducible refine HeldP.c_same (by omega) ?_) | (with_reducible refine HeldP.c_other ?_ ?_) | (with_reducible refine HeldP.c_new (by first | omega | (simp; done) | (simp; omega)) ?_) | (with_reducible refine HeldP.c_alloc ?_ ?_) | (with_reducible refine HeldP.e_drew ?_) | (with_reducible refine HeldP.e_drewN ?_) | (with_reducible refine HeldP.e_set ?_) | (with_reducible refine HeldP.e_new (by first | omega | (simp; done) | (simp; omega)) ⟨_, rfl⟩) | (with_reducible refine HeldP.e_alloc ?_ ?_) | (with_reducible refine HeldP.f_drew ?_) | (with_reducible refine HeldP.f_drewN ?_) | (with_reducible refine HeldP.f_set ?_) | (with_reducible refine HeldP.f_new (by first | omega | (simp; done) | (simp; omega))) | (with_reducible refine HeldP.f_alloc ?_ ?_) | (with_reducible refine HeldP.s_drew ?_) | (with_reducible refine HeldP.s_drewN ?_) | (with_reducible refine HeldP.s_set ?_) | (with_reducible refine HeldP.s_new (by first | omega | (simp; done) | (simp; omega))) | (with_reducible refine HeldP.s_alloc ?_) | (with_reducible exact ⟨_, by assumption⟩) | omega | (intro e; simp at e; done) | (intro e; simp at e; omega) | (exact rfl) | (simp; done) | (simp; omega)))
    have HK1 := Lib.hid (show Below w.heap.size w w1 by (repeat' (first | (with_reducible exact Below.refl _ _) | (with_reducible refine Below.setCell ?_ (by (first | omega | (simp; done) | (simp; omega))) _) | (with_reducible refine Below.alloc ?_ (by (first | omega | (simp; done) | (simp; omega))) _) | (with_reducible refine Below.drew ?_) | (with_reducible refine below_drewN ?_ _) | (with_reducible refine Below.trans ?_ (Below.mono hb1 (by (first | omega | (simp; done) | (simp; omega))))))))
    clear hb1
    go_wp2_with fail
    go_ret
    exact ⟨by rw [HR.out]; rfl, HK1.out⟩
  · go_enter Tryd.func40, Tryd.ntmps40
    go_wp2_with fail
    refine (r_may_b HM.out _).mono ?_
    rintro e w1 ⟨rfl, hb1⟩
    have d0 : w1.cell? ⟨w.heap.size, 0, none⟩ = some (.int .u8 k) := by (repeat' (first | (with_reducible assumption) | (with_reducible refine HeldP.c_below hb1 ?_ ?_) | (with_reducible refine HeldP.f_below hb1 ?_ ?_) | (with_reducible refine HeldP.c_drew ?_) | (with_reducible refine HeldP.c_drewN ?_) | (with_reducible refine HeldP.c_same (by omega) ?_) | (with_reducible refine HeldP.c_other ?_ ?_) | (with_reducible refine HeldP.c_new (by first | omega | (simp; done) | (simp; omega)) ?_) | (with_reducible refine HeldP.c_alloc ?_ ?_) | (with_reducible refine HeldP.e_drew ?_) | (with_reducible refine HeldP.e_drewN ?_) | (with_reducible refine HeldP.e_set ?_) | (with_reducible refine HeldP.e_new (by first | omega | (simp; done) | (simp; omega)) ⟨_, rfl⟩) | (with_reducible refine HeldP.e_alloc ?_ ?_) | (with_reducible refine HeldP.f_drew ?_) | (with_reducible refine HeldP.f_drewN ?_) | (with_reducible refine HeldP.f_set ?_) | (with_reducible refine HeldP.f_new (by first | omega | (simp; done) | (simp; omega))) | (with_reducible refine HeldP.f_alloc ?_ ?_) | (with_reducible refine HeldP.s_drew ?_) | (with_reducible refine HeldP.s_drewN ?_) | (with_reducible refine HeldP.s_set ?_) | (with_reducible refine HeldP.s_new (by first | omega | (simp; done) | (simp; omega))) | (with_reducible refine HeldP.s_alloc ?_) | (with_reducible exact ⟨_, by assumption⟩) | omega | (intro e; simp at e; done) | (intro e; simp at e; omega) | (exact rfl) | (simp; done) | (simp; omega)))
    have HK1 := Lib.hid (show Below w.heap.size w w1 by (repeat' (first | (with_reducible exact Below.refl _ _) | (with_reducible refine Below.setCell ?_ (by (first | omega | (simp; done) | (simp; omega))) _) | (with_reducible refine Below.alloc ?_ (by (first | omega | (simp; done) | (simp; omega))) _) | (with_reducible refine Below.drew ?_) | (with_reducible refine below_drewN ?_ _) | (with_reducible refine Below.trans ?_ (Below.mono hb1 (by (first | omega | (simp; done) | (simp; omega))))))))
    clear hb1
    go_wp2_with (go_at_call 45; refine (r_clear_b HC.out _).mono ?_; rintro e2 w2 ⟨rfl, hb2⟩; have HB2 := Lib.hid hb2; clear hb2)
    go_ret
    exact ⟨by rw [HR.out]; rfl, HK1.out.trans (HB2.out.mono HK1.out.size)⟩
set_option maxHeartbeats 4000000 in
theorem rcheck_c {w : World} {X Y Z : Int} {A : Option Addr} {n c : Nat} {r : Nat} (h : checkN X Y Z n = r) :
    Calls Tryd.prog 12 #[.agg #[.int .i64 X, .int .i64 Y, .int .i64 Z, .slice A n c]] w fun e w' => e = .returned (.int .i64 r) ∧ Below w.heap.size w w' := by
  have H := Lib.hid h
  clear h
  obtain ⟨sx, hsx⟩ : ∃ s, sideB X = s := ⟨_, rfl⟩
  obtain ⟨sy, hsy⟩ : ∃ s, sideB Y = s := ⟨_, rfl⟩
  obtain ⟨sz, hsz⟩ : ∃ s, sideB Z = s := ⟨_, rfl⟩
  have HX := Lib.hid hsx
  have HY := Lib.hid hsy
  have HZ := Lib.hid hsz
  clear hsx hsy hsz
  cases sx
  · have HH := Lib.hid (show checkN X Y Z n = 2 by unfold checkN; rw [if_neg (by simp [HX.out])])
    go_enter Tryd.func12, Tryd.ntmps12
    go_wp2_with (go_at_call 23; refine rside_any.mono ?_; (first | rw [HX.out] | rw [HY.out] | rw [HZ.out]); rintro e w1 ⟨rfl, rfl⟩)
    go_ret
    exact ⟨by rw [← H.out, HH.out]; rfl, by (repeat' (first | (with_reducible exact Below.refl _ _) | (with_reducible refine Below.setCell ?_ (by (first | omega | (simp; done) | (simp; omega))) _) | (with_reducible refine Below.alloc ?_ (by (first | omega | (simp; done) | (simp; omega))) _) | (with_reducible refine Below.drew ?_) | (with_reducible refine below_drewN ?_ _)))⟩
  · cases sy
    · have HH := Lib.hid (show checkN X Y Z n = 2 by unfold checkN; rw [if_neg (by simp [HX.out, HY.out])])
      go_enter Tryd.func12, Tryd.ntmps12
      go_wp2_with (go_at_call 23; refine rside_any.mono ?_; (first | rw [HX.out] | rw [HY.out] | rw [HZ.out]); rintro e w1 ⟨rfl, rfl⟩)
      go_ret
      exact ⟨by rw [← H.out, HH.out]; rfl, by (repeat' (first | (with_reducible exact Below.refl _ _) | (with_reducible refine Below.setCell ?_ (by (first | omega | (simp; done) | (simp; omega))) _) | (with_reducible refine Below.alloc ?_ (by (first | omega | (simp; done) | (simp; omega))) _) | (with_reducible refine Below.drew ?_) | (with_reducible refine below_drewN ?_ _)))⟩
    · cases sz
      · have HH := Lib.hid (show checkN X Y Z n = 2 by unfold checkN; rw [if_neg (by simp [HX.out, HY.out, HZ.out])])
        go_enter Tryd.func12, Tryd.ntmps12
        go_wp2_with (go_at_call 23; refine rside_any.mono ?_; (first | rw [HX.out] | rw [HY.out] | rw [HZ.out]); rintro e w1 ⟨rfl, rfl⟩)
        go_ret
        exact ⟨by rw [← H.out, HH.out]; rfl, by (repeat' (first | (with_reducible exact Below.refl _ _) | (with_reducible refine Below.setCell ?_ (by (first | omega | (simp; done) | (simp; omega))) _) | (with_reducible refine Below.alloc ?_ (by (first | omega | (simp; done) | (simp; omega))) _) | (with_reducible refine Below.drew ?_) | (with_reducible refine below_drewN ?_ _)))⟩
      · obtain ⟨p, hp⟩ : ∃ p, X * Y = p := ⟨_, rfl⟩
        obtain ⟨q, hq⟩ : ∃ q, p * Z = q := ⟨_, rfl⟩
        have hX2 : 1 ≤ X ∧ X ≤ 256 := by simpa [sideB] using HX.out
        have hY2 : 1 ≤ Y ∧ Y ≤ 256 := by simpa [sideB] using HY.out
        have hZ2 : 1 ≤ Z ∧ Z ≤ 256 := by simpa [sideB] using HZ.out
        have b1 := mul_le (X := X) (Y := Y) (a := 256) (b := 256) (by omega) (by omega) (by omega) (by omega)
        rw [hp] at b1
        have b2 := mul_le (X := p) (Y := Z) (a := 65536) (b := 256) (by omega) (by omega) (by omega) (by omega)
        rw [hq] at b2
        have hw1 : IntKind.i64.wrap p = p := BitsP.wrapI_small (by omega) (by omega)
        have hw2 : IntKind.i64.wrap q = q := BitsP.wrapI_small (by omega) (by omega)
        have HH : Hid (checkN X Y Z n = if q > 262144 then 3 else if (n : Int) ≠ q then 2 else 0) := Lib.hid (by unfold checkN; rw [HX.out, HY.out, HZ.out, hp, hq]; rfl)
        have HP := Lib.hid (And.intro hp (And.intro hq (And.intro hw1 (And.intro hw2 (And.intro b1 b2)))))
        clear hX2 hY2 hZ2 hp hq hw1 hw2 b1 b2
        by_cases h1 : 262144 < q
        · go_enter Tryd.func12, Tryd.ntmps12
          go_wp2_with (first | (go_at_call 23; refine rside_any.mono ?_; (first | rw [HX.out] | rw [HY.out] | rw [HZ.out]); rintro e w1 ⟨rfl, rfl⟩) | ((with_reducible refine at_slot 23 ?_); refine Classical.byContradiction (fun hG => ?_)))
          refine hG ?_
          clear hG
          obtain ⟨hp, hq, hw1, hw2, b1, b2⟩ := HP.out
          go_wp2_with fail
          go_ret
          exact ⟨by rw [← H.out, HH.out, if_pos h1]; rfl, by (repeat' (first | (with_reducible exact Below.refl _ _) | (with_reducible refine Below.setCell ?_ (by (first | omega | (simp; done) | (simp; omega))) _) | (with_reducible refine Below.alloc ?_ (by (first | omega | (simp; done) | (simp; omega))) _) | (with_reducible refine Below.drew ?_) | (with_reducible refine below_drewN ?_ _)))⟩
        · by_cases h2 : (n : Int) = q
          · have e2 : ((n : Int) != q) = false := by simp [h2]
            have H2 := Lib.hid h2
            clear h2
            go_enter Tryd.func12, Tryd.ntmps12
            go_wp2_with (first | (go_at_call 23; refine rside_any.mono ?_; (first | rw [HX.out] | rw [HY.out] | rw [HZ.out]); rintro e w1 ⟨rfl, rfl⟩) | ((with_reducible refine at_slot 23 ?_); refine Classical.byContradiction (fun hG => ?_)))
            refine hG ?_
            clear hG
            obtain ⟨hp, hq, hw1, hw2, b1, b2⟩ := HP.out
            go_wp2_with fail
            go_ret
            exact ⟨by rw [← H.out, HH.out, if_neg (by omega), if_neg (by simp [H2.out])]; rfl, by (repeat' (first | (with_reducible exact Below.refl _ _) | (with_reducible refine Below.setCell ?_ (by (first | omega | (simp; done) | (simp; omega))) _) | (with_reducible refine Below.alloc ?_ (by (first | omega | (simp; done) | (simp; omega))) _) | (with_reducible refine Below.drew ?_) | (with_reducible refine below_drewN ?_ _)))⟩
          · have e2 : ((n : Int) != q) = true := by simp [h2]
            go_enter Tryd.func12, Tryd.ntmps12
            go_wp2_with (first | (go_at_call 23; refine rside_any.mono ?_; (first | rw [HX.out] | rw [HY.out] | rw [HZ.out]); rintro e w1 ⟨rfl, rfl⟩) | ((with_reducible refine at_slot 23 ?_); refine Classical.byContradiction (fun hG => ?_)))
            refine hG ?_
            clear hG
            obtain ⟨hp, hq, hw1, hw2, b1, b2⟩ := HP.out
            go_wp2_with fail
            go_ret
            exact ⟨by rw [← H.out, HH.out, if_neg (by omega), if_pos h2]; rfl, by (repeat' (first | (with_reducible exact Below.refl _ _) | (with_reducible refine Below.setCell ?_ (by (first | omega | (simp; done) | (simp; omega))) _) | (with_reducible refine Below.alloc ?_ (by (first | omega | (simp; done) | (simp; omega))) _) | (with_reducible refine Below.drew ?_) | (with_reducible refine below_drewN ?_ _)))⟩
end GlowW
end Go.Proofs.YtbkadecfmjjadaaDoor
