/-
  The land's columns, plainly: what Light answers.
-/
import Derived.Test.YtbkadecfmjjadaaDoorGlowTorchP
namespace Go.Proofs.YtbkadecfmjjadaaDoor
set_option linter.unusedVariables false
set_option linter.unusedSimpArgs false
namespace GlowW
open RowG KindP
def colC (y : Nat) : Nat × Nat := (if y < 1 then 1 else if y < 12 then 2 else if y < 16 then 3 else 0, 0)
def colL (y : Nat) : Nat × Nat := (if y < 16 then 0 else 15, 0)
/-- The cells of a box of the land. -/
def landB (X Z : Nat) : List (Nat × Nat) := (List.range (X * 64 * Z)).map fun i => colC (i / X / Z)
theorem landB_len (X Z : Nat) : (landB X Z).length = X * 64 * Z := by simp [landB]
theorem landB_get {X Z i : Nat} (h : i < X * 64 * Z) : (landB X Z)[i]? = some (colC (i / X / Z)) := by simp [landB, h]
theorem col_open (y : Nat) : openA (colC y) = decide (16 ≤ y) := by
  unfold colC
  by_cases h1 : y < 1
  · rw [if_pos h1, show decide (16 ≤ y) = false by simp; omega]
    decide
  · rw [if_neg h1]
    by_cases h2 : y < 12
    · rw [if_pos h2, show decide (16 ≤ y) = false by simp; omega]
      decide
    · rw [if_neg h2]
      by_cases h3 : y < 16
      · rw [if_pos h3, show decide (16 ≤ y) = false by simp; omega]
        decide
      · rw [if_neg h3, show decide (16 ≤ y) = true by simp; omega]
        decide
theorem col_lamp (y : Nat) : lampA (colC y) = 0 := by
  unfold colC
  by_cases h1 : y < 1
  · rw [if_pos h1]
    decide
  · rw [if_neg h1]
    by_cases h2 : y < 12
    · rw [if_pos h2]
      decide
    · rw [if_neg h2]
      by_cases h3 : y < 16
      · rw [if_pos h3]
        decide
      · rw [if_neg h3]
        decide
theorem land_plain {X Z i : Nat} (hi : i < X * 64 * Z) : (lightA X 64 Z (landB X Z))[i]? = some (colL (i / X / Z)) := by
  obtain ⟨cs, hcs⟩ : ∃ cs, landB X Z = cs := ⟨_, rfl⟩
  have hget : ∀ j, j < X * 64 * Z → cs[j]? = some (colC (j / X / Z)) := fun j hj => by rw [← hcs]; exact landB_get hj
  have hout : ∀ j, ¬ j < X * 64 * Z → cs[j]? = none := fun j hj => List.getElem?_eq_none (by rw [← hcs, landB_len]; omega)
  rw [hcs]
  have hS : 0 < X * Z := by
    apply Nat.pos_of_ne_zero
    intro h
    have : X * 64 * Z = 0 := by rw [Nat.mul_right_comm, h, Nat.zero_mul]
    omega
  have hcl : ∀ j, GlowP.clO (cs.map openA) j = decide (j < X * 64 * Z ∧ 16 ≤ j / X / Z) := fun j => by
    rw [openL]
    by_cases hj : j < X * 64 * Z
    · rw [hget j hj]
      simp only [col_open]
      simp [hj]
    · rw [hout j hj]
      simp [hj]
  have hlm : ∀ j, (cs.map lampA).getD j 0 = 0 := fun j => by
    rw [lampLD]
    by_cases hj : j < X * 64 * Z
    · rw [hget j hj]
      exact col_lamp _
    · rw [hout j hj]
  have hup : ∀ j k, 16 ≤ j / X / Z → 16 ≤ (j + k * (X * Z)) / X / Z := fun j k h => by
    rw [Nat.div_div_eq_div_mul] at h ⊢
    exact Nat.le_trans h (Nat.div_le_div_right (Nat.le_add_right _ _))
  have hsk : ∀ j, (skyL X 64 Z (cs.map openA)).getD j 0 = if GlowP.clO (cs.map openA) j = true then 15 else 0 := fun j => by
    rw [skyL_getD]
    by_cases hj : j < X * 64 * Z
    · rw [if_pos hj]
      by_cases hc : 16 ≤ j / X / Z
      · rw [if_pos (by rw [hcl]; simp [hj, hc])]
        unfold GlowP.skyO
        rw [if_pos ((GlowP.sky_iff hS).2 ⟨by rw [hcl]; simp [hj, hc], fun k hk => by rw [hcl]; simp only [decide_eq_true_eq]; exact ⟨hk, hup j k hc⟩⟩)]
      · have : GlowP.clO (cs.map openA) j = false := by rw [hcl]; simp [hc]
        rw [GlowP.sky_clear this, if_neg (by rw [this]; simp)]
    · rw [if_neg hj, if_neg (by rw [hcl]; simp [hj])]
  obtain ⟨s3, b3⟩ := lit_sol (X := X) (Y := 64) (Z := Z) (lamp_src cs).1 (lamp_src cs).2
  have hd := GlowP.sol_dark (side := GlowP.sideX X 64 Z) (cl := GlowP.clO (cs.map openA)) (own := fun j => (cs.map lampA).getD j 0) hlm
  have hu := GlowP.unique (K := 15) b3 (fun j => Nat.zero_le _) s3 hd
  rw [lightA, List.getElem?_map, List.getElem?_range hi]
  simp only [Option.map_some]
  rw [sky_self hsk, hsk, hcl, congrFun hu i]
  unfold colL
  by_cases hc : 16 ≤ i / X / Z
  · rw [if_pos (by simp [hi, hc]), if_neg (by omega)]
  · rw [if_neg (by simp [hc]), if_pos (by omega)]
end GlowW
end Go.Proofs.YtbkadecfmjjadaaDoor
