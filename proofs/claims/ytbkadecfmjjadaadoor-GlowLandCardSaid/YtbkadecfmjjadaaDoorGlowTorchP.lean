/-
  A torch in a box of Air, plainly: what Light answers.
-/
import Derived.Test.YtbkadecfmjjadaaDoorGlowLitP
namespace Go.Proofs.YtbkadecfmjjadaaDoor
set_option linter.unusedVariables false
set_option linter.unusedSimpArgs false
namespace GlowW
open RowG KindP
theorem sky_all {X Y Z i : Nat} {cl : Nat → Bool} (hS : 0 < X * Z) (hcl : ∀ i, i < X * Y * Z → cl i = true) (hi : i < X * Y * Z) : GlowP.skyO (X * Z) (X * Y * Z) cl i = 15 := by
  unfold GlowP.skyO
  rw [if_pos ((GlowP.sky_iff hS).2 ⟨hcl i hi, fun k hk => hcl _ hk⟩)]
/-- Where the sky's sources are all that is clear, they are the light. -/
theorem sky_self {X Y Z : Nat} {O : List Bool} (h : ∀ i, (skyL X Y Z O).getD i 0 = if GlowP.clO O i = true then 15 else 0) (i : Nat) : litA X Y Z O (skyL X Y Z O) i = (skyL X Y Z O).getD i 0 := by
  obtain ⟨s1, b1⟩ := lit_sol (X := X) (Y := Y) (Z := Z) (sky_src X Y Z O).1 (sky_src X Y Z O).2
  have := GlowP.unique b1 (sky_src X Y Z O).1 s1 (GlowP.sol_self (side := GlowP.sideX X Y Z) (cl := GlowP.clO O) h)
  exact congrFun this i
theorem torch_plain {X Y Z k T : Nat} (hn : k < X * Y * Z) (hT : 1 ≤ T) (hT2 : T ≤ 15) {i : Nat} (hi : i < X * Y * Z) :
    (lightA X Y Z ((List.replicate (X * Y * Z) (0, 0)).set k (11, T)))[i]? = some (15, T - GlowP.far X Z k i) := by
  obtain ⟨cs, hcs⟩ : ∃ cs, (List.replicate (X * Y * Z) (0, 0)).set k (11, T) = cs := ⟨_, rfl⟩
  rw [hcs]
  have hlen : cs.length = X * Y * Z := by rw [← hcs]; simp
  have hget : ∀ j, j < X * Y * Z → cs[j]? = some (if j = k then (11, T) else (0, 0)) := fun j hj => by
    rw [← hcs]
    by_cases e : j = k
    · subst e
      rw [List.getElem?_set_self (by simpa using hj), if_pos rfl]
    · rw [List.getElem?_set_ne (fun x => e x.symm), List.getElem?_replicate, if_pos hj, if_neg e]
  have hout : ∀ j, ¬ j < X * Y * Z → cs[j]? = none := fun j hj => List.getElem?_eq_none (by omega)
  have hop : openA (11, T) = true := by
    simp only [openA, may, clear]
    simp only [Bool.and_eq_true, decide_eq_true_eq]
    refine ⟨⟨⟨by omega, ?_⟩, ?_⟩, rfl⟩
    · show least 11 ≤ T
      exact hT
    · show T ≤ most 11
      exact hT2
  have hcl : ∀ j, GlowP.clO (cs.map openA) j = decide (j < X * Y * Z) := fun j => by
    rw [openL]
    by_cases hj : j < X * Y * Z
    · rw [hget j hj]
      by_cases e : j = k
      · simp [e, hop, hn]
      · simp only [if_neg e, decide_eq_true hj]
        rfl
    · rw [hout j hj]
      simp [hj]
  have hlm : ∀ j, (cs.map lampA).getD j 0 = if j = k then T else 0 := fun j => by
    rw [lampLD]
    by_cases hj : j < X * Y * Z
    · rw [hget j hj]
      by_cases e : j = k
      · simp only [if_pos e, lampA, lamp]
        have : may 11 T = true := by
          have := hop
          simp only [openA, Bool.and_eq_true] at this
          exact this.1
        rw [this]
        rfl
      · simp only [if_neg e]
        rfl
    · rw [hout j hj, if_neg (by omega)]
  have hS : 0 < X * Z := by
    apply Nat.pos_of_ne_zero
    intro h
    have : X * Y * Z = 0 := by rw [Nat.mul_right_comm, h, Nat.zero_mul]
    omega
  have hsk : ∀ j, (skyL X Y Z (cs.map openA)).getD j 0 = if GlowP.clO (cs.map openA) j = true then 15 else 0 := fun j => by
    rw [skyL_getD, hcl]
    by_cases hj : j < X * Y * Z
    · rw [if_pos hj, if_pos (by simpa using hj), sky_all hS (fun i hi => by rw [hcl]; simpa using hi) hj]
    · rw [if_neg hj, if_neg (by simpa using hj)]
  obtain ⟨s3, b3⟩ := lit_sol (X := X) (Y := Y) (Z := Z) (lamp_src cs).1 (lamp_src cs).2
  have ecl : GlowP.clO (cs.map openA) = fun j => decide (j < X * Y * Z) := funext hcl
  have eow : (fun j => (cs.map lampA).getD j 0) = fun j => if j = k then T else 0 := funext hlm
  rw [ecl, eow] at s3
  have ht := GlowP.torch_sol (X := X) (Y := Y) (Z := Z) (k := k) (T := T) hn
  have hu := GlowP.unique (K := 15) b3 (fun j => by unfold GlowP.torchL; split <;> omega) s3 ht
  rw [lightA, List.getElem?_map, List.getElem?_range hi]
  simp only [Option.map_some]
  rw [sky_self hsk, hsk, hcl, if_pos (by simpa using hi), congrFun hu i]
  simp only [GlowP.torchL, if_pos hi]
end GlowW
end Go.Proofs.YtbkadecfmjjadaaDoor
