/-
  Lights side by side, plainly.
-/
import Derived.Test.YtbkadecfmjjadaaDoorGlowLitP
namespace Go.Proofs.YtbkadecfmjjadaaDoor
set_option linter.unusedVariables false
set_option linter.unusedSimpArgs false
namespace GlowW
open RowG KindP
structure NearQ (X Y Z : Nat) (cs ls : List (Nat × Nat)) : Prop where
  top : ∀ (i : Nat) (a : Nat × Nat), ls[i]? = some a → a.1 ≤ 15 ∧ a.2 ≤ 15
  dark : ∀ (i : Nat) (a x : Nat × Nat), ls[i]? = some a → cs[i]? = some x → openA x = false → a = (0, 0)
  near : ∀ (i s : Nat) (a b x : Nat × Nat), ls[i]? = some a → ls[s]? = some b → s ∈ GlowP.sides X Y Z i → cs[i]? = some x → openA x = true → b.1 ≤ a.1 + 1 ∧ b.2 ≤ a.2 + 1
theorem near_q (X Y Z : Nat) (cs : List (Nat × Nat)) : NearQ X Y Z cs (lightA X Y Z cs) := by
  obtain ⟨s1, b1⟩ := lit_sol (X := X) (Y := Y) (Z := Z) (sky_src X Y Z (cs.map openA)).1 (sky_src X Y Z (cs.map openA)).2
  obtain ⟨s3, b3⟩ := lit_sol (X := X) (Y := Y) (Z := Z) (lamp_src cs).1 (lamp_src cs).2
  refine ⟨fun i a ha => ?_, fun i a x ha hx ho => ?_, fun i s a b x ha hb hs hx ho => ?_⟩
  · obtain ⟨_, rfl⟩ := lightA_get ha
    exact ⟨b1 i, b3 i⟩
  · obtain ⟨_, rfl⟩ := lightA_get ha
    have hc : GlowP.clO (cs.map openA) i = false := by
      rw [openL, hx]
      exact ho
    have e1 := s1 i
    have e2 := s3 i
    rw [if_neg (by rw [hc]; simp)] at e1 e2
    rw [e1, e2]
  · obtain ⟨hi, rfl⟩ := lightA_get ha
    obtain ⟨_, rfl⟩ := lightA_get hb
    have hc : GlowP.clO (cs.map openA) i = true := by
      rw [openL, hx]
      exact ho
    have hs2 : s ∈ GlowP.sideX X Y Z i := by
      unfold GlowP.sideX
      rw [if_pos hi]
      exact hs
    exact ⟨GlowP.near s1 hc hs2, GlowP.near s3 hc hs2⟩
end GlowW
end Go.Proofs.YtbkadecfmjjadaaDoor
