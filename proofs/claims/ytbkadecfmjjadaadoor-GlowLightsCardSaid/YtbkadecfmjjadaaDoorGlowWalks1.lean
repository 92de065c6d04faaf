/-
  glow.check, opens, lamps, skies.
-/
import Derived.Test.YtbkadecfmjjadaaDoorGlowMem
import Derived.Test.YtbkadecfmjjadaaDoorKindLamp
import Derived.Test.YtbkadecfmjjadaaDoorBitsP
namespace Go.Proofs.YtbkadecfmjjadaaDoor
open Go.RowKit
set_option linter.unusedVariables false
set_option linter.unusedSimpArgs false
namespace GlowW
open BlkP RowG

def sideB (n : Int) : Bool := decide (1 ≤ n) && decide (n ≤ 256)
def checkN (X Y Z : Int) (n : Nat) : Nat := if (sideB X && sideB Y && sideB Z) = true then (if X * Y * Z > 262144 then 3 else if (n : Int) ≠ X * Y * Z then 2 else 0) else 2
theorem mul_le {X Y a b : Int} (h0 : 0 ≤ X) (h1 : 0 ≤ Y) (ha : X ≤ a) (hb : Y ≤ b) : 0 ≤ X * Y ∧ X * Y ≤ a * b :=
  ⟨Int.mul_nonneg h0 h1, Int.mul_le_mul ha hb h1 (by omega)⟩

def CkRel (X Y Z : Int) (w1 : World) (v : Value) (wr : World) : Prop := wr = w1 ∧ ((v = .int .i64 0) ∨ (v = .int .i64 1 ∧ sideB X = true) ∨ (v = .int .i64 2 ∧ sideB X = true ∧ sideB Y = true) ∨ (v = .int .i64 3 ∧ sideB X = true ∧ sideB Y = true ∧ sideB Z = true))
theorem idx3 (X Y Z : Int) : (∀ w, (Instr.index 67 (.agg #[.int .i64 X, .int .i64 Y, .int .i64 Z]) (.int .i64 0)).run Tryd.prog w = .ok (.int .i64 X) w) ∧ (∀ w, (Instr.index 67 (.agg #[.int .i64 X, .int .i64 Y, .int .i64 Z]) (.int .i64 1)).run Tryd.prog w = .ok (.int .i64 Y) w) ∧ (∀ w, (Instr.index 67 (.agg #[.int .i64 X, .int .i64 Y, .int .i64 Z]) (.int .i64 2)).run Tryd.prog w = .ok (.int .i64 Z) w) :=
  ⟨fun _ => by kernel_rfl, fun _ => by kernel_rfl, fun _ => by kernel_rfl⟩
set_option maxHeartbeats 4000000 in
theorem check_c {w : World} {X Y Z : Int} {A : Option Addr} {n c : Nat} {r : Nat} (h : checkN X Y Z n = r) :
    Calls Tryd.prog 24 #[.agg #[.int .i64 X, .int .i64 Y, .int .i64 Z, .slice A n c]] w fun e w' => e = .returned (.int .i64 r) ∧ Below w.heap.size w w' := by
  have H := Lib.hid h
  clear h
  obtain ⟨i0, i1, i2⟩ := idx3 X Y Z
  go_enter Tryd.func24, Tryd.ntmps24
  go_wp2_with fail
  go_loopw [13] (CkRel X Y Z (w.alloc (.cells #[.int .i64 X, .int .i64 Y, .int .i64 Z, .slice A n c] 24))) (fun v _ => 3 - (intOf v).toNat)
  case atStart => exact ⟨rfl, .inl rfl⟩
  case round =>
    obtain ⟨rfl, hk⟩ := hrel
    rcases hk with rfl | ⟨rfl, hX⟩ | ⟨rfl, hX, hY⟩ | ⟨rfl, hX, hY, hZ⟩
    · by_cases h1 : X < 1
      · go_wp2_with fail
        go_ret
        exact ⟨by rw [← H.out]; simp [checkN, sideB, show ¬ 1 ≤ X by omega], by (repeat' (first | (with_reducible exact Below.refl _ _) | (with_reducible refine Below.setCell ?_ (by (first | omega | (simp; done) | (simp; omega))) _) | (with_reducible refine Below.alloc ?_ (by (first | omega | (simp; done) | (simp; omega))) _) | (with_reducible refine Below.drew ?_) | (with_reducible refine below_drewN ?_ _)))⟩
      · by_cases h2 : 256 < X
        · go_wp2_with fail
          go_ret
          exact ⟨by rw [← H.out]; simp [checkN, sideB, show ¬ X ≤ 256 by omega], by (repeat' (first | (with_reducible exact Below.refl _ _) | (with_reducible refine Below.setCell ?_ (by (first | omega | (simp; done) | (simp; omega))) _) | (with_reducible refine Below.alloc ?_ (by (first | omega | (simp; done) | (simp; omega))) _) | (with_reducible refine Below.drew ?_) | (with_reducible refine below_drewN ?_ _)))⟩
        · go_wp2_with fail
          go_roundw
          case rel => exact ⟨rfl, .inr (.inl ⟨rfl, by simp [sideB]; omega⟩)⟩
          case measure => simp [intOf]
    · by_cases h1 : Y < 1
      · go_wp2_with fail
        go_ret
        exact ⟨by rw [← H.out]; simp [checkN, sideB, show ¬ 1 ≤ Y by omega], by (repeat' (first | (with_reducible exact Below.refl _ _) | (with_reducible refine Below.setCell ?_ (by (first | omega | (simp; done) | (simp; omega))) _) | (with_reducible refine Below.alloc ?_ (by (first | omega | (simp; done) | (simp; omega))) _) | (with_reducible refine Below.drew ?_) | (with_reducible refine below_drewN ?_ _)))⟩
      · by_cases h2 : 256 < Y
        · go_wp2_with fail
          go_ret
          exact ⟨by rw [← H.out]; simp [checkN, sideB, show ¬ Y ≤ 256 by omega], by (repeat' (first | (with_reducible exact Below.refl _ _) | (with_reducible refine Below.setCell ?_ (by (first | omega | (simp; done) | (simp; omega))) _) | (with_reducible refine Below.alloc ?_ (by (first | omega | (simp; done) | (simp; omega))) _) | (with_reducible refine Below.drew ?_) | (with_reducible refine below_drewN ?_ _)))⟩
        · go_wp2_with fail
          go_roundw
          case rel => exact ⟨rfl, .inr (.inr (.inl ⟨rfl, hX, by simp [sideB]; omega⟩))⟩
          case measure => simp [intOf]
    · by_cases h1 : Z < 1
      · go_wp2_with fail
        go_ret
        exact ⟨by rw [← H.out]; simp [checkN, sideB, show ¬ 1 ≤ Z by omega], by (repeat' (first | (with_reducible exact Below.refl _ _) | (with_reducible refine Below.setCell ?_ (by (first | omega | (simp; done) | (simp; omega))) _) | (with_reducible refine Below.alloc ?_ (by (first | omega | (simp; done) | (simp; omega))) _) | (with_reducible refine Below.drew ?_) | (with_reducible refine below_drewN ?_ _)))⟩
      · by_cases h2 : 256 < Z
        · go_wp2_with fail
          go_ret
          exact ⟨by rw [← H.out]; simp [checkN, sideB, show ¬ Z ≤ 256 by omega], by (repeat' (first | (with_reducible exact Below.refl _ _) | (with_reducible refine Below.setCell ?_ (by (first | omega | (simp; done) | (simp; omega))) _) | (with_reducible refine Below.alloc ?_ (by (first | omega | (simp; done) | (simp; omega))) _) | (with_reducible refine Below.drew ?_) | (with_reducible refine below_drewN ?_ _)))⟩
        · go_wp2_with fail
          go_roundw
          case rel => exact ⟨rfl, .inr (.inr (.inr ⟨rfl, hX, hY, by simp [sideB]; omega⟩))⟩
          case measure => simp [intOf]
    · have HX := Lib.hid hX
      have HY := Lib.hid hY
      have HZ := Lib.hid hZ
      obtain ⟨p, hp⟩ : ∃ p, X * Y = p := ⟨_, rfl⟩
      obtain ⟨q, hq⟩ : ∃ q, p * Z = q := ⟨_, rfl⟩
      have hX2 : 1 ≤ X ∧ X ≤ 256 := by simpa [sideB] using hX
      have hY2 : 1 ≤ Y ∧ Y ≤ 256 := by simpa [sideB] using hY
      have hZ2 : 1 ≤ Z ∧ Z ≤ 256 := by simpa [sideB] using hZ
      have b1 := mul_le (X := X) (Y := Y) (a := 256) (b := 256) (by omega) (by omega) (by omega) (by omega)
      rw [hp] at b1
      have b2 := mul_le (X := p) (Y := Z) (a := 65536) (b := 256) (by omega) (by omega) (by omega) (by omega)
      rw [hq] at b2
      have hw1 : IntKind.i64.wrap p = p := BitsP.wrapI_small (by omega) (by omega)
      have hw2 : IntKind.i64.wrap q = q := BitsP.wrapI_small (by omega) (by omega)
      have HH : Hid (checkN X Y Z n = if q > 262144 then 3 else if (n : Int) ≠ q then 2 else 0) := Lib.hid (by unfold checkN; rw [hX, hY, hZ, hp, hq]; rfl)
      clear hX hY hZ hX2 hY2 hZ2
      by_cases h1 : 262144 < q
      · go_wp2_with fail
        go_ret
        exact ⟨by rw [← H.out, HH.out, if_pos h1]; rfl, by (repeat' (first | (with_reducible exact Below.refl _ _) | (with_reducible refine Below.setCell ?_ (by (first | omega | (simp; done) | (simp; omega))) _) | (with_reducible refine Below.alloc ?_ (by (first | omega | (simp; done) | (simp; omega))) _) | (with_reducible refine Below.drew ?_) | (with_reducible refine below_drewN ?_ _)))⟩
      · by_cases h2 : (n : Int) = q
        · have e2 : ((n : Int) != q) = false := by simp [h2]
          have H2 := Lib.hid h2
          clear h2
          go_wp2_with fail
          go_ret
          exact ⟨by rw [← H.out, HH.out, if_neg (by omega), if_neg (by simp [H2.out])]; rfl, by (repeat' (first | (with_reducible exact Below.refl _ _) | (with_reducible refine Below.setCell ?_ (by (first | omega | (simp; done) | (simp; omega))) _) | (with_reducible refine Below.alloc ?_ (by (first | omega | (simp; done) | (simp; omega))) _) | (with_reducible refine Below.drew ?_) | (with_reducible refine below_drewN ?_ _)))⟩
        · have e2 : ((n : Int) != q) = true := by simp [h2]
          go_wp2_with fail
          go_ret
          exact ⟨by rw [← H.out, HH.out, if_neg (by omega), if_pos h2]; rfl, by (repeat' (first | (with_reducible exact Below.refl _ _) | (with_reducible refine Below.setCell ?_ (by (first | omega | (simp; done) | (simp; omega))) _) | (with_reducible refine Below.alloc ?_ (by (first | omega | (simp; done) | (simp; omega))) _) | (with_reducible refine Below.drew ?_) | (with_reducible refine below_drewN ?_ _)))⟩
end GlowW
end Go.Proofs.YtbkadecfmjjadaaDoor
