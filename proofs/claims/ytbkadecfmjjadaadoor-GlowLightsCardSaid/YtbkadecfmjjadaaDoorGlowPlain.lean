/-
  Light, plainly: of cells that light goes through or not, each with a source of its own, there is just one light that each cell has from its own source and from its brightest side, less one; what fifteen rounds make is it; fewer clear cells, or weaker sources, make none brighter; the geometry of a box.
-/
import Derived.Test.YtbkadecfmjjadaaDoorRows
namespace Go.Proofs.YtbkadecfmjjadaaDoor
set_option linter.unusedVariables false
set_option linter.unusedSimpArgs false
namespace GlowP

/-- What comes into a cell from its sides. -/
def inL (side : Nat → List Nat) (L : Nat → Nat) (i : Nat) : Nat := (side i).foldl (fun a s => max a (L s - 1)) 0
theorem fold_le {L : Nat → Nat} : ∀ (l : List Nat) (a v : Nat), l.foldl (fun a s => max a (L s - 1)) a ≤ v ↔ a ≤ v ∧ ∀ s ∈ l, L s - 1 ≤ v
  | [], a, v => by simp
  | x :: r, a, v => by
    rw [List.foldl_cons, fold_le r]
    constructor
    · rintro ⟨h1, h2⟩
      refine ⟨by omega, fun s hs => ?_⟩
      rcases List.mem_cons.1 hs with rfl | hs
      · omega
      · exact h2 s hs
    · rintro ⟨h1, h2⟩
      have := h2 x (by simp)
      exact ⟨by omega, fun s hs => h2 s (by simp [hs])⟩
theorem in_le {side : Nat → List Nat} {L : Nat → Nat} {i v : Nat} : inL side L i ≤ v ↔ ∀ s ∈ side i, L s - 1 ≤ v := by
  rw [inL, fold_le]
  simp
theorem in_ge {side : Nat → List Nat} {L : Nat → Nat} {i s : Nat} (h : s ∈ side i) : L s - 1 ≤ inL side L i := in_le.1 (Nat.le_refl _) s h
/-- Where something comes in, some side gives it. -/
theorem in_some {side : Nat → List Nat} {L : Nat → Nat} {i v : Nat} (hv : 0 < v) (h : v ≤ inL side L i) : ∃ s ∈ side i, v + 1 ≤ L s := by
  apply Classical.byContradiction
  intro hn
  have : inL side L i ≤ v - 1 := in_le.2 fun s hs => by
    have : ¬ v + 1 ≤ L s := fun q => hn ⟨s, hs, q⟩
    omega
  omega
section
variable {side : Nat → List Nat} {cl cl' : Nat → Bool} {own own' L M : Nat → Nat} {K : Nat}
/-- No cell is brighter than its source and its sides make it. -/
def Sub (side : Nat → List Nat) (cl : Nat → Bool) (own M : Nat → Nat) : Prop := ∀ i, M i ≤ if cl i = true then max (own i) (inL side M i) else 0
/-- No clear cell is darker than its source and its sides make it. -/
def Super (side : Nat → List Nat) (cl : Nat → Bool) (own L : Nat → Nat) : Prop := ∀ i, cl i = true → max (own i) (inL side L i) ≤ L i
/-- The light: just what the source and the sides make. -/
def Sol (side : Nat → List Nat) (cl : Nat → Bool) (own L : Nat → Nat) : Prop := ∀ i, L i = if cl i = true then max (own i) (inL side L i) else 0
theorem Sol.sub (h : Sol side cl own L) : Sub side cl own L := fun i => Nat.le_of_eq (h i)
theorem Sol.super (h : Sol side cl own L) : Super side cl own L := fun i hi => by
  have := h i
  rw [if_pos hi] at this
  omega
/-- What is lit less is nowhere brighter. -/
theorem cmp (hK : ∀ i, M i ≤ K) (hM : Sub side cl' own' M) (hL : Super side cl own L) (hc : ∀ i, cl' i = true → cl i = true) (ho : ∀ i, cl' i = true → own' i ≤ own i) : ∀ i, M i ≤ L i := by
  have key : ∀ n i, K - M i ≤ n → M i ≤ L i := by
    intro n
    induction n with
    | zero =>
      intro i hi
      have h0 := hK i
      have h1 := hM i
      split at h1
      · rename_i hci
        have h2 := hL i (hc i hci)
        have h3 := ho i hci
        by_cases hv : M i ≤ own' i
        · omega
        · by_cases hz : M i = 0
          · omega
          · obtain ⟨s, hs, hs2⟩ := in_some (side := side) (L := M) (i := i) (v := M i) (by omega) (by omega)
            have := hK s
            omega
      · omega
    | succ n ih =>
      intro i hi
      have h0 := hK i
      have h1 := hM i
      split at h1
      · rename_i hci
        have h2 := hL i (hc i hci)
        have h3 := ho i hci
        by_cases hv : M i ≤ own' i
        · omega
        · by_cases hz : M i = 0
          · omega
          · obtain ⟨s, hs, hs2⟩ := in_some (side := side) (L := M) (i := i) (v := M i) (by omega) (by omega)
            have h4 := ih s (by have := hK s; omega)
            have h5 := in_ge (L := L) hs
            omega
      · omega
  exact fun i => key _ i (Nat.le_refl _)
/-- There is just one light. -/
theorem unique (hK : ∀ i, M i ≤ K) (hK' : ∀ i, L i ≤ K) (hM : Sol side cl own M) (hL : Sol side cl own L) : M = L := by
  funext i
  exact Nat.le_antisymm (cmp hK hM.sub hL.super (fun _ h => h) (fun _ _ => Nat.le_refl _) i) (cmp hK' hL.sub hM.super (fun _ h => h) (fun _ _ => Nat.le_refl _) i)
/-- Two clear cells side by side are unlike by one at most. -/
theorem near (hL : Sol side cl own L) {i s : Nat} (hi : cl i = true) (hs : s ∈ side i) : L s ≤ L i + 1 := by
  have h1 := hL.super i hi
  have h2 := in_ge (L := L) hs
  omega

/-- One round. -/
def round (side : Nat → List Nat) (cl : Nat → Bool) (own l : Nat → Nat) : Nat → Nat := fun i => if cl i = true then max (own i) (inL side l i) else 0
def rounds (side : Nat → List Nat) (cl : Nat → Bool) (own : Nat → Nat) : Nat → Nat → Nat
  | 0 => own
  | k + 1 => round side cl own (rounds side cl own k)
theorem in_mono (h : ∀ i, L i ≤ M i) (i : Nat) : inL side L i ≤ inL side M i := in_le.2 fun s hs => by
  have h1 := h s
  have h2 := in_ge (L := M) hs
  omega
theorem rounds_up (h0 : ∀ i, cl i = false → own i = 0) : ∀ k i, rounds side cl own k i ≤ rounds side cl own (k + 1) i
  | 0, i => by
    show own i ≤ round side cl own own i
    unfold round
    cases hc : cl i with
    | true => simp only [if_true]; omega
    | false => simp [h0 i hc]
  | k + 1, i => by
    show round side cl own (rounds side cl own k) i ≤ round side cl own (rounds side cl own (k + 1)) i
    unfold round
    have := in_mono (side := side) (rounds_up h0 k) i
    split <;> omega
/-- What the next round changes is dark by then. -/
theorem rounds_dark (hB : ∀ i, own i ≤ K) : ∀ k i, rounds side cl own (k + 1) i ≠ rounds side cl own k i → (∀ i, cl i = false → own i = 0) → rounds side cl own (k + 1) i + (k + 1) ≤ K
  | 0, i, h, h0 => by
    have hup := rounds_up (side := side) h0 0 i
    have hne : own i < rounds side cl own 1 i := Nat.lt_of_le_of_ne hup (fun e => h e.symm)
    have e : rounds side cl own 1 i = if cl i = true then max (own i) (inL side own i) else 0 := rfl
    rw [e] at hne ⊢
    split at hne
    · rename_i hc
      rw [if_pos hc]
      obtain ⟨s, hs, hs2⟩ := in_some (side := side) (L := own) (i := i) (v := inL side own i) (by omega) (Nat.le_refl _)
      have := hB s
      omega
    · omega
  | k + 1, i, h, h0 => by
    have hup := rounds_up (side := side) h0 (k + 1) i
    have hne : rounds side cl own (k + 1) i < rounds side cl own (k + 1 + 1) i := Nat.lt_of_le_of_ne hup (fun e => h e.symm)
    have e2 : rounds side cl own (k + 1 + 1) i = if cl i = true then max (own i) (inL side (rounds side cl own (k + 1)) i) else 0 := rfl
    have e1 : rounds side cl own (k + 1) i = if cl i = true then max (own i) (inL side (rounds side cl own k) i) else 0 := rfl
    rw [e2] at hne ⊢
    rw [e1] at hne
    split at hne
    · rename_i hc
      rw [if_pos hc]
      obtain ⟨s, hs, hs2⟩ := in_some (side := side) (L := rounds side cl own (k + 1)) (i := i) (v := inL side (rounds side cl own (k + 1)) i) (by omega) (Nat.le_refl _)
      have hse : rounds side cl own (k + 1) s ≠ rounds side cl own k s := fun e => by
        have := in_ge (L := rounds side cl own k) hs
        omega
      have := rounds_dark hB k s hse h0
      omega
    · omega
/-- As many rounds as the brightest source are enough. -/
theorem rounds_sol (hB : ∀ i, own i ≤ K) (h0 : ∀ i, cl i = false → own i = 0) : Sol side cl own (rounds side cl own K) := by
  intro i
  have e : rounds side cl own (K + 1) i = rounds side cl own K i := by
    apply Classical.byContradiction
    intro h
    have := rounds_dark hB K i h h0
    omega
  exact e.symm
theorem rounds_le (hB : ∀ i, own i ≤ K) : ∀ k i, rounds side cl own k i ≤ K
  | 0, i => hB i
  | k + 1, i => by
    show round side cl own (rounds side cl own k) i ≤ K
    unfold round
    have h1 := hB i
    have h2 : inL side (rounds side cl own k) i ≤ K := in_le.2 fun s _ => by have := rounds_le hB k s; omega
    split <;> omega
end

/-! ### A box -/
/-- The number of the cell at x, z, y. -/
def at_ (X Z x z y : Nat) : Nat := (y * Z + z) * X + x
theorem at_lt {X Y Z x z y : Nat} (hx : x < X) (hz : z < Z) (hy : y < Y) : at_ X Z x z y < X * Y * Z := by
  have h1 : y * Z + z < Y * Z := by
    have : y * Z + Z ≤ Y * Z := by rw [← Nat.succ_mul]; exact Nat.mul_le_mul_right _ hy
    omega
  have h2 : (y * Z + z) * X + X ≤ (Y * Z) * X := by rw [← Nat.succ_mul]; exact Nat.mul_le_mul_right _ h1
  have e : X * Y * Z = (Y * Z) * X := by ac_rfl
  unfold at_
  omega
theorem at_x {X Z x z y : Nat} (hx : x < X) : at_ X Z x z y % X = x := by
  unfold at_
  rw [Nat.mul_comm, Nat.mul_add_mod, Nat.mod_eq_of_lt hx]
theorem at_q {X Z x z y : Nat} (hx : x < X) : at_ X Z x z y / X = y * Z + z := by
  unfold at_
  rw [Nat.mul_comm, Nat.mul_add_div (by omega), Nat.div_eq_of_lt hx, Nat.add_zero]
theorem at_z {X Z x z y : Nat} (hx : x < X) (hz : z < Z) : at_ X Z x z y / X % Z = z := by rw [at_q hx, Nat.mul_comm, Nat.mul_add_mod, Nat.mod_eq_of_lt hz]
theorem at_y {X Z x z y : Nat} (hx : x < X) (hz : z < Z) : at_ X Z x z y / X / Z = y := by rw [at_q hx, Nat.mul_comm, Nat.mul_add_div (by omega), Nat.div_eq_of_lt hz, Nat.add_zero]
theorem at_self {X Z i : Nat} : at_ X Z (i % X) (i / X % Z) (i / X / Z) = i := by
  unfold at_
  rw [Nat.mul_comm (i / X / Z) Z, Nat.div_add_mod, Nat.mul_comm, Nat.div_add_mod]
theorem at_box {X Y Z i : Nat} (h : i < X * Y * Z) : i % X < X ∧ i / X % Z < Z ∧ i / X / Z < Y := by
  have hX : 0 < X := Nat.pos_of_ne_zero fun e => by subst e; simp at h
  have hZ : 0 < Z := Nat.pos_of_ne_zero fun e => by subst e; simp at h
  refine ⟨Nat.mod_lt _ hX, Nat.mod_lt _ hZ, ?_⟩
  rw [Nat.div_div_eq_div_mul]
  refine Nat.div_lt_of_lt_mul ?_
  rw [show X * Z * Y = X * Y * Z by ac_rfl]
  exact h
/-- The sides in the box. -/
def sides (X Y Z i : Nat) : List Nat :=
  (if 0 < i % X then [i - 1] else []) ++ ((if i % X + 1 < X then [i + 1] else []) ++ ((if 0 < i / X % Z then [i - X] else []) ++ ((if i / X % Z + 1 < Z then [i + X] else []) ++ ((if 0 < i / X / Z then [i - X * Z] else []) ++ (if i / X / Z + 1 < Y then [i + X * Z] else [])))))
/-- By coordinates. -/
theorem sides_at {X Y Z x z y : Nat} (hx : x < X) (hz : z < Z) (hy : y < Y) : sides X Y Z (at_ X Z x z y) =
    (if 0 < x then [at_ X Z (x - 1) z y] else []) ++ ((if x + 1 < X then [at_ X Z (x + 1) z y] else []) ++ ((if 0 < z then [at_ X Z x (z - 1) y] else []) ++ ((if z + 1 < Z then [at_ X Z x (z + 1) y] else []) ++ ((if 0 < y then [at_ X Z x z (y - 1)] else []) ++ (if y + 1 < Y then [at_ X Z x z (y + 1)] else []))))) := by
  unfold sides
  rw [at_x hx, at_z hx hz, at_y hx hz]
  have e1 : 0 < x → at_ X Z x z y - 1 = at_ X Z (x - 1) z y := fun h => by unfold at_; omega
  have e2 : at_ X Z x z y + 1 = at_ X Z (x + 1) z y := by unfold at_; omega
  have e3 : 0 < z → at_ X Z x z y - X = at_ X Z x (z - 1) y := fun h => by
    unfold at_
    obtain ⟨u, rfl⟩ : ∃ u, z = u + 1 := ⟨z - 1, by omega⟩
    rw [show u + 1 - 1 = u from rfl, show y * Z + (u + 1) = (y * Z + u) + 1 by omega, Nat.succ_mul]
    omega
  have e4 : at_ X Z x z y + X = at_ X Z x (z + 1) y := by
    unfold at_
    rw [show y * Z + (z + 1) = (y * Z + z) + 1 by omega, Nat.succ_mul]
    omega
  have e5 : 0 < y → at_ X Z x z y - X * Z = at_ X Z x z (y - 1) := fun h => by
    unfold at_
    obtain ⟨u, rfl⟩ : ∃ u, y = u + 1 := ⟨y - 1, by omega⟩
    rw [show u + 1 - 1 = u from rfl, show (u + 1) * Z + z = (u * Z + z) + Z by rw [Nat.succ_mul]; omega, Nat.add_mul, Nat.mul_comm X Z]
    omega
  have e6 : at_ X Z x z y + X * Z = at_ X Z x z (y + 1) := by
    unfold at_
    rw [show (y + 1) * Z + z = (y * Z + z) + Z by rw [Nat.succ_mul]; omega, Nat.add_mul (y * Z + z) Z X, Nat.mul_comm X Z]
    omega
  rw [e2, e4, e6]
  by_cases hx0 : 0 < x <;> by_cases hz0 : 0 < z <;> by_cases hy0 : 0 < y <;> simp only [hx0, hz0, hy0, if_true, if_false, e1, e3, e5]
theorem sides_lt {X Y Z i s : Nat} (h : i < X * Y * Z) (hs : s ∈ sides X Y Z i) : s < X * Y * Z := by
  obtain ⟨hx, hz, hy⟩ := at_box h
  rw [← at_self (X := X) (Z := Z) (i := i), sides_at hx hz hy] at hs
  simp only [List.mem_append] at hs
  rcases hs with hs | hs | hs | hs | hs | hs <;> split at hs <;> simp only [List.mem_cons, List.not_mem_nil, or_false] at hs <;> subst hs <;> exact at_lt (by omega) (by omega) (by omega)
end GlowP
end Go.Proofs.YtbkadecfmjjadaaDoor
