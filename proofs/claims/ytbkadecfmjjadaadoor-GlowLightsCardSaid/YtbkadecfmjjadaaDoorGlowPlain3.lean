/-
  Light, plainly, continued: a box turned east for west, and by changing X and Z about; its sky.
-/
import Derived.Test.YtbkadecfmjjadaaDoorGlowPlain2
namespace Go.Proofs.YtbkadecfmjjadaaDoor
set_option linter.unusedVariables false
set_option linter.unusedSimpArgs false
namespace GlowP

theorem mem_sides {X Y Z x z y s : Nat} (hx : x < X) (hz : z < Z) (hy : y < Y) : s ∈ sides X Y Z (at_ X Z x z y) ↔
    (0 < x ∧ s = at_ X Z (x - 1) z y) ∨ (x + 1 < X ∧ s = at_ X Z (x + 1) z y) ∨ (0 < z ∧ s = at_ X Z x (z - 1) y) ∨ (z + 1 < Z ∧ s = at_ X Z x (z + 1) y) ∨ (0 < y ∧ s = at_ X Z x z (y - 1)) ∨ (y + 1 < Y ∧ s = at_ X Z x z (y + 1)) := by
  rw [sides_at hx hz hy]
  simp only [List.mem_append]
  have one : ∀ (p : Prop) [Decidable p] (v : Nat), s ∈ (if p then [v] else []) ↔ p ∧ s = v := fun p _ v => by
    by_cases h : p
    · simp [h]
    · simp [h]
  rw [one, one, one, one, one, one]
/-- East for west. -/
def tW (X Z i : Nat) : Nat := at_ X Z (X - 1 - i % X) (i / X % Z) (i / X / Z)
/-- X and Z changed about. -/
def tA (X Z i : Nat) : Nat := at_ Z X (i / X % Z) (i % X) (i / X / Z)
theorem tW_at {X Z x z y : Nat} (hx : x < X) (hz : z < Z) : tW X Z (at_ X Z x z y) = at_ X Z (X - 1 - x) z y := by rw [tW, at_x hx, at_z hx hz, at_y hx hz]
theorem tA_at {X Z x z y : Nat} (hx : x < X) (hz : z < Z) : tA X Z (at_ X Z x z y) = at_ Z X z x y := by rw [tA, at_x hx, at_z hx hz, at_y hx hz]
theorem tW_lt {X Y Z i : Nat} (h : i < X * Y * Z) : tW X Z i < X * Y * Z := by
  obtain ⟨hx, hz, hy⟩ := at_box h
  exact at_lt (by omega) hz hy
theorem tA_lt {X Y Z i : Nat} (h : i < X * Y * Z) : tA X Z i < X * Y * Z := by
  obtain ⟨hx, hz, hy⟩ := at_box h
  have := at_lt (X := Z) (Y := Y) (Z := X) hz hx hy
  rw [show X * Y * Z = Z * Y * X by ac_rfl]
  exact this
theorem sides_tW {X Y Z i s' : Nat} (h : i < X * Y * Z) : s' ∈ sides X Y Z (tW X Z i) ↔ ∃ s ∈ sides X Y Z i, s' = tW X Z s := by
  obtain ⟨hx, hz, hy⟩ := at_box h
  have ei := at_self (X := X) (Z := Z) (i := i)
  generalize i % X = x at *
  generalize i / X % Z = z at *
  generalize i / X / Z = y at *
  subst ei
  rw [tW_at hx hz, mem_sides (by omega) hz hy]
  constructor
  · rintro (⟨q, rfl⟩ | ⟨q, rfl⟩ | ⟨q, rfl⟩ | ⟨q, rfl⟩ | ⟨q, rfl⟩ | ⟨q, rfl⟩)
    · exact ⟨at_ X Z (x + 1) z y, (mem_sides hx hz hy).2 (.inr (.inl ⟨by omega, rfl⟩)), by rw [tW_at (by omega) hz]; congr 1 <;> omega⟩
    · exact ⟨at_ X Z (x - 1) z y, (mem_sides hx hz hy).2 (.inl ⟨by omega, rfl⟩), by rw [tW_at (by omega) hz]; congr 1 <;> omega⟩
    · exact ⟨at_ X Z x (z - 1) y, (mem_sides hx hz hy).2 (.inr (.inr (.inl ⟨q, rfl⟩))), by rw [tW_at hx (by omega)]⟩
    · exact ⟨at_ X Z x (z + 1) y, (mem_sides hx hz hy).2 (.inr (.inr (.inr (.inl ⟨q, rfl⟩)))), by rw [tW_at hx (by omega)]⟩
    · exact ⟨at_ X Z x z (y - 1), (mem_sides hx hz hy).2 (.inr (.inr (.inr (.inr (.inl ⟨q, rfl⟩))))), by rw [tW_at hx hz]⟩
    · exact ⟨at_ X Z x z (y + 1), (mem_sides hx hz hy).2 (.inr (.inr (.inr (.inr (.inr ⟨q, rfl⟩))))), by rw [tW_at hx hz]⟩
  · rintro ⟨s, hs, rfl⟩
    rcases (mem_sides hx hz hy).1 hs with ⟨q, rfl⟩ | ⟨q, rfl⟩ | ⟨q, rfl⟩ | ⟨q, rfl⟩ | ⟨q, rfl⟩ | ⟨q, rfl⟩
    · exact .inr (.inl ⟨by omega, by rw [tW_at (by omega) hz]; congr 1 <;> omega⟩)
    · exact .inl ⟨by omega, by rw [tW_at (by omega) hz]; congr 1 <;> omega⟩
    · exact .inr (.inr (.inl ⟨q, by rw [tW_at hx (by omega)]⟩))
    · exact .inr (.inr (.inr (.inl ⟨q, by rw [tW_at hx (by omega)]⟩)))
    · exact .inr (.inr (.inr (.inr (.inl ⟨q, by rw [tW_at hx hz]⟩))))
    · exact .inr (.inr (.inr (.inr (.inr ⟨q, by rw [tW_at hx hz]⟩))))
theorem sides_tA {X Y Z i s' : Nat} (h : i < X * Y * Z) : s' ∈ sides Z Y X (tA X Z i) ↔ ∃ s ∈ sides X Y Z i, s' = tA X Z s := by
  obtain ⟨hx, hz, hy⟩ := at_box h
  have ei := at_self (X := X) (Z := Z) (i := i)
  generalize i % X = x at *
  generalize i / X % Z = z at *
  generalize i / X / Z = y at *
  subst ei
  rw [tA_at hx hz, mem_sides hz hx hy]
  constructor
  · rintro (⟨q, rfl⟩ | ⟨q, rfl⟩ | ⟨q, rfl⟩ | ⟨q, rfl⟩ | ⟨q, rfl⟩ | ⟨q, rfl⟩)
    · exact ⟨at_ X Z x (z - 1) y, (mem_sides hx hz hy).2 (.inr (.inr (.inl ⟨q, rfl⟩))), by rw [tA_at hx (by omega)]⟩
    · exact ⟨at_ X Z x (z + 1) y, (mem_sides hx hz hy).2 (.inr (.inr (.inr (.inl ⟨q, rfl⟩)))), by rw [tA_at hx (by omega)]⟩
    · exact ⟨at_ X Z (x - 1) z y, (mem_sides hx hz hy).2 (.inl ⟨q, rfl⟩), by rw [tA_at (by omega) hz]⟩
    · exact ⟨at_ X Z (x + 1) z y, (mem_sides hx hz hy).2 (.inr (.inl ⟨q, rfl⟩)), by rw [tA_at (by omega) hz]⟩
    · exact ⟨at_ X Z x z (y - 1), (mem_sides hx hz hy).2 (.inr (.inr (.inr (.inr (.inl ⟨q, rfl⟩))))), by rw [tA_at hx hz]⟩
    · exact ⟨at_ X Z x z (y + 1), (mem_sides hx hz hy).2 (.inr (.inr (.inr (.inr (.inr ⟨q, rfl⟩))))), by rw [tA_at hx hz]⟩
  · rintro ⟨s, hs, rfl⟩
    rcases (mem_sides hx hz hy).1 hs with ⟨q, rfl⟩ | ⟨q, rfl⟩ | ⟨q, rfl⟩ | ⟨q, rfl⟩ | ⟨q, rfl⟩ | ⟨q, rfl⟩
    · exact .inr (.inr (.inl ⟨q, by rw [tA_at (by omega) hz]⟩))
    · exact .inr (.inr (.inr (.inl ⟨q, by rw [tA_at (by omega) hz]⟩)))
    · exact .inl ⟨q, by rw [tA_at hx (by omega)]⟩
    · exact .inr (.inl ⟨q, by rw [tA_at hx (by omega)]⟩)
    · exact .inr (.inr (.inr (.inr (.inl ⟨q, by rw [tA_at hx hz]⟩))))
    · exact .inr (.inr (.inr (.inr (.inr ⟨q, by rw [tA_at hx hz]⟩))))
/-- k storeys up. -/
theorem at_up {X Z x z y k : Nat} : at_ X Z x z y + k * (X * Z) = at_ X Z x z (y + k) := by
  unfold at_
  rw [Nat.add_mul y k Z, show y * Z + k * Z + z = (y * Z + z) + k * Z by omega, Nat.add_mul (y * Z + z) (k * Z) X, Nat.mul_assoc k Z X, Nat.mul_comm Z X]
  omega
theorem at_up_lt {X Y Z x z y : Nat} (hx : x < X) (hz : z < Z) : at_ X Z x z y < X * Y * Z ↔ y < Y := by
  constructor
  · intro h
    have := (at_box h).2.2
    rwa [at_y hx hz] at this
  · exact at_lt hx hz
/-- The sky's sources are turned about with the box. -/
theorem sky_turn {X Y Z X' Z' : Nat} {cl cl' : Nat → Bool} {t : Nat → Nat} (hN : X' * Y * Z' = X * Y * Z) (hS : 0 < X * Z) (hS' : X' * Z' = X * Z) (ht : ∀ x z y, x < X → z < Z → ∃ x' z', x' < X' ∧ z' < Z' ∧ ∀ k, t (at_ X Z x z (y + k)) = at_ X' Z' x' z' (y + k)) (hc : ∀ i, i < X * Y * Z → cl' (t i) = cl i) {i : Nat} (hi : i < X * Y * Z) : skyO (X' * Z') (X' * Y * Z') cl' (t i) = skyO (X * Z) (X * Y * Z) cl i := by
  obtain ⟨hx, hz, hy⟩ := at_box hi
  have ei := at_self (X := X) (Z := Z) (i := i)
  generalize i % X = x at *
  generalize i / X % Z = z at *
  generalize i / X / Z = y at *
  subst ei
  obtain ⟨x', z', hx', hz', htk⟩ := ht x z y hx hz
  have h0 := htk 0
  rw [Nat.add_zero] at h0
  have hiff : (cl' (t (at_ X Z x z y)) = true ∧ ∀ k, t (at_ X Z x z y) + k * (X' * Z') < X' * Y * Z' → cl' (t (at_ X Z x z y) + k * (X' * Z')) = true) ↔ (cl (at_ X Z x z y) = true ∧ ∀ k, at_ X Z x z y + k * (X * Z) < X * Y * Z → cl (at_ X Z x z y + k * (X * Z)) = true) := by
    rw [hc _ hi]
    refine and_congr_right fun _ => forall_congr' fun k => ?_
    rw [h0, at_up, at_up, at_up_lt hx' hz', at_up_lt hx hz, ← htk k]
    by_cases hk : y + k < Y
    · rw [hc _ (at_lt hx hz hk)]
    · simp [hk]
  unfold skyO
  by_cases h : cl (at_ X Z x z y) = true ∧ ∀ k, at_ X Z x z y + k * (X * Z) < X * Y * Z → cl (at_ X Z x z y + k * (X * Z)) = true
  · rw [if_pos ((sky_iff (by omega)).2 (hiff.2 h)), if_pos ((sky_iff hS).2 h)]
  · rw [if_neg (fun q => h (hiff.1 ((sky_iff (by omega)).1 q))), if_neg (fun q => h ((sky_iff hS).1 q))]
end GlowP
end Go.Proofs.YtbkadecfmjjadaaDoor
