/-
  A box that is turned about, plainly: its cells, its light.
-/
import Derived.Test.YtbkadecfmjjadaaDoorGlowLitP
namespace Go.Proofs.YtbkadecfmjjadaaDoor
set_option linter.unusedVariables false
set_option linter.unusedSimpArgs false
namespace GlowW
open RowG KindP
/-- The cells at their new numbers, the first j of them. -/
def turnL (t : Nat → Nat) (cs : List (Nat × Nat)) : Nat → List (Nat × Nat)
  | 0 => List.replicate cs.length (0, 0)
  | j + 1 => (turnL t cs j).set (t j) (cs.getD j (0, 0))
theorem turn_len (t : Nat → Nat) (cs : List (Nat × Nat)) : ∀ j, (turnL t cs j).length = cs.length
  | 0 => by simp [turnL]
  | j + 1 => by rw [turnL, List.length_set, turn_len t cs j]
theorem turn_succ {t : Nat → Nat} {cs : List (Nat × Nat)} {j : Nat} {x : Nat × Nat} (h : cs[j]? = some x) : turnL t cs (j + 1) = (turnL t cs j).set (t j) x := by
  simp [turnL, List.getD, h]
theorem turn_get {t : Nat → Nat} {cs : List (Nat × Nat)} (ht : ∀ i, i < cs.length → t i < cs.length) (hi : ∀ i k, i < cs.length → k < cs.length → t i = t k → i = k) : ∀ j i, j ≤ cs.length → i < j → (turnL t cs j)[t i]? = cs[i]?
  | 0, i, _, h => by omega
  | j + 1, i, hj, h => by
    have hjl : j < cs.length := by omega
    by_cases e : i = j
    · subst e
      rw [turnL, List.getElem?_set_self (by rw [turn_len]; exact ht i hjl)]
      simp [List.getD, List.getElem?_eq_getElem hjl]
    · rw [turnL, List.getElem?_set_ne (fun q => e (hi j i hjl (by omega) q).symm)]
      exact turn_get ht hi j i (by omega) (by omega)
theorem tW_tW {X Y Z i : Nat} (h : i < X * Y * Z) : GlowP.tW X Z (GlowP.tW X Z i) = i := by
  obtain ⟨hx, hz, hy⟩ := GlowP.at_box h
  have ei := GlowP.at_self (X := X) (Z := Z) (i := i)
  generalize i % X = x at *
  generalize i / X % Z = z at *
  generalize i / X / Z = y at *
  subst ei
  rw [GlowP.tW_at hx hz, GlowP.tW_at (by omega) hz]
  congr 1
  omega
theorem tA_tA {X Y Z i : Nat} (h : i < X * Y * Z) : GlowP.tA Z X (GlowP.tA X Z i) = i := by
  obtain ⟨hx, hz, hy⟩ := GlowP.at_box h
  have ei := GlowP.at_self (X := X) (Z := Z) (i := i)
  generalize i % X = x at *
  generalize i / X % Z = z at *
  generalize i / X / Z = y at *
  subst ei
  rw [GlowP.tA_at hx hz, GlowP.tA_at hz hx]
theorem turn_light {X Y Z X' Z' : Nat} {t : Nat → Nat} {cs ds : List (Nat × Nat)} (hc : cs.length = X * Y * Z) (hN : X' * Y * Z' = X * Y * Z) (hS' : X' * Z' = X * Z)
    (ht : ∀ x z y, x < X → z < Z → ∃ x' z', x' < X' ∧ z' < Z' ∧ ∀ k, t (GlowP.at_ X Z x z (y + k)) = GlowP.at_ X' Z' x' z' (y + k))
    (htl : ∀ i, i < X * Y * Z → t i < X * Y * Z) (hside : ∀ i, i < X * Y * Z → ∀ s', s' ∈ GlowP.sides X' Y Z' (t i) ↔ ∃ s ∈ GlowP.sides X Y Z i, s' = t s)
    (hget : ∀ i, i < X * Y * Z → ds[t i]? = cs[i]?) {i : Nat} (hi : i < X * Y * Z) : (lightA X' Y Z' ds)[t i]? = (lightA X Y Z cs)[i]? := by
  have hS : 0 < X * Z := by
    apply Nat.pos_of_ne_zero
    intro h
    have : X * Y * Z = 0 := by rw [Nat.mul_right_comm, h, Nat.zero_mul]
    omega
  have hcl : ∀ i, i < X * Y * Z → GlowP.clO (ds.map openA) (t i) = GlowP.clO (cs.map openA) i := fun i hi => by rw [openL, openL, hget i hi]
  have hlm : ∀ i, i < X * Y * Z → (ds.map lampA).getD (t i) 0 = (cs.map lampA).getD i 0 := fun i hi => by rw [lampLD, lampLD, hget i hi]
  have hsk : ∀ i, i < X * Y * Z → (skyL X' Y Z' (ds.map openA)).getD (t i) 0 = (skyL X Y Z (cs.map openA)).getD i 0 := fun i hi => by
    rw [skyL_getD, skyL_getD, if_pos hi, if_pos (by rw [hN]; exact htl i hi)]
    exact GlowP.sky_turn hN hS hS' ht hcl hi
  have hout : ∀ i, X * Y * Z ≤ i → GlowP.clO (cs.map openA) i = false := fun i hi => by
    rw [openL, List.getElem?_eq_none (by omega)]
  have hin : ∀ i, i < X * Y * Z → ∀ s ∈ GlowP.sideX X Y Z i, s < X * Y * Z := fun i hi s hs => (GlowP.sideX_lt hs).2
  have hsd : ∀ i, i < X * Y * Z → ∀ s', s' ∈ GlowP.sideX X' Y Z' (t i) ↔ ∃ s ∈ GlowP.sideX X Y Z i, s' = t s := fun i hi s' => by
    unfold GlowP.sideX
    rw [if_pos hi, if_pos (by rw [hN]; exact htl i hi)]
    exact hside i hi s'
  obtain ⟨s1, b1⟩ := lit_sol (X := X) (Y := Y) (Z := Z) (sky_src X Y Z (cs.map openA)).1 (sky_src X Y Z (cs.map openA)).2
  obtain ⟨s2, b2⟩ := lit_sol (X := X') (Y := Y) (Z := Z') (sky_src X' Y Z' (ds.map openA)).1 (sky_src X' Y Z' (ds.map openA)).2
  obtain ⟨s3, b3⟩ := lit_sol (X := X) (Y := Y) (Z := Z) (lamp_src cs).1 (lamp_src cs).2
  obtain ⟨s4, b4⟩ := lit_sol (X := X') (Y := Y) (Z := Z') (lamp_src ds).1 (lamp_src ds).2
  have r1 := GlowP.turned b1 b2 s1 s2 hout hin hsd hcl hsk i hi
  have r2 := GlowP.turned b3 b4 s3 s4 hout hin hsd hcl hlm i hi
  rw [lightA, lightA, List.getElem?_map, List.getElem?_map, List.getElem?_range hi, List.getElem?_range (by rw [hN]; exact htl i hi)]
  simp only [Option.map_some]
  rw [r1, r2]
/-- East for west. -/
theorem west_light {X Y Z : Nat} {cs : List (Nat × Nat)} (hc : cs.length = X * Y * Z) {i : Nat} (hi : i < X * Y * Z) : (lightA X Y Z (turnL (GlowP.tW X Z) cs cs.length))[GlowP.tW X Z i]? = (lightA X Y Z cs)[i]? := by
  refine turn_light (t := GlowP.tW X Z) hc rfl rfl (fun x z y hx hz => ⟨X - 1 - x, z, by omega, hz, fun k => GlowP.tW_at hx hz⟩) (fun i h => GlowP.tW_lt h) (fun i h s' => GlowP.sides_tW h) (fun i h => ?_) hi
  refine turn_get (fun i h => ?_) (fun i k hi hk e => ?_) _ _ (Nat.le_refl _) (by rw [hc]; exact h)
  · rw [hc] at h ⊢
    exact GlowP.tW_lt h
  · rw [hc] at hi hk
    rw [← tW_tW hi, e, tW_tW hk]
/-- X and Z changed about. -/
theorem about_light {X Y Z : Nat} {cs : List (Nat × Nat)} (hc : cs.length = X * Y * Z) {i : Nat} (hi : i < X * Y * Z) : (lightA Z Y X (turnL (GlowP.tA X Z) cs cs.length))[GlowP.tA X Z i]? = (lightA X Y Z cs)[i]? := by
  refine turn_light (t := GlowP.tA X Z) hc (by ac_rfl) (by ac_rfl) (fun x z y hx hz => ⟨z, x, hz, hx, fun k => GlowP.tA_at hx hz⟩) (fun i h => GlowP.tA_lt h) (fun i h s' => GlowP.sides_tA h) (fun i h => ?_) hi
  refine turn_get (fun i h => ?_) (fun i k hi hk e => ?_) _ _ (Nat.le_refl _) (by rw [hc]; exact h)
  · rw [hc] at h ⊢
    exact GlowP.tA_lt h
  · rw [hc] at hi hk
    rw [← tA_tA hi, e, tA_tA hk]
end GlowW
end Go.Proofs.YtbkadecfmjjadaaDoor
