/-
  Light, plainly, continued: the sky's sources; a torch in a box of air; a stone more, a lamp more; boxes that are turned about; columns that are clear from a height on.
-/
import Derived.Test.YtbkadecfmjjadaaDoorGlowPlain
namespace Go.Proofs.YtbkadecfmjjadaaDoor
set_option linter.unusedVariables false
set_option linter.unusedSimpArgs false
namespace GlowP

/-- The sky's source: all above are clear, up to the box's top (S cells a storey, N in all). -/
def skyO (S N : Nat) (cl : Nat → Bool) (i : Nat) : Nat := if (cl i && (List.range N).all fun k => decide (N ≤ i + k * S) || cl (i + k * S)) = true then 15 else 0
theorem sky_iff {S N : Nat} {cl : Nat → Bool} {i : Nat} (hS : 0 < S) : (cl i && (List.range N).all fun k => decide (N ≤ i + k * S) || cl (i + k * S)) = true ↔ cl i = true ∧ ∀ k, i + k * S < N → cl (i + k * S) = true := by
  rw [Bool.and_eq_true, List.all_eq_true]
  refine and_congr_right fun _ => ⟨fun h k hk => ?_, fun h k hk => ?_⟩
  · have hkN : k < N := by
      have : k * 1 ≤ k * S := Nat.mul_le_mul_left k hS
      omega
    have := h k (List.mem_range.2 hkN)
    simp only [Bool.or_eq_true, decide_eq_true_eq] at this
    rcases this with h' | h'
    · omega
    · exact h'
  · simp only [Bool.or_eq_true, decide_eq_true_eq]
    by_cases hlt : N ≤ i + k * S
    · exact .inl hlt
    · exact .inr (h k (by omega))
theorem sky_le (S N : Nat) (cl : Nat → Bool) (i : Nat) : skyO S N cl i ≤ 15 := by
  unfold skyO
  split <;> omega
theorem sky_clear {S N : Nat} {cl : Nat → Bool} {i : Nat} (h : cl i = false) : skyO S N cl i = 0 := by
  unfold skyO
  rw [h]
  rfl
theorem sky_mono {S N : Nat} {cl cl' : Nat → Bool} (hS : 0 < S) (hc : ∀ i, cl' i = true → cl i = true) (i : Nat) : skyO S N cl' i ≤ skyO S N cl i := by
  unfold skyO
  by_cases h : (cl' i && (List.range N).all fun k => decide (N ≤ i + k * S) || cl' (i + k * S)) = true
  · have h2 := (sky_iff hS).1 h
    rw [if_pos h, if_pos ((sky_iff hS).2 ⟨hc _ h2.1, fun k hk => hc _ (h2.2 k hk)⟩)]
    exact Nat.le_refl _
  · rw [if_neg h]
    exact Nat.zero_le _
/-- Where each column is clear from some height on, and no further, the sky's light is its sources. -/
theorem sol_self {side : Nat → List Nat} {cl : Nat → Bool} {own : Nat → Nat} (h : ∀ i, own i = if cl i = true then 15 else 0) : Sol side cl own own := fun i => by
  have h1 : inL side own i ≤ 15 := in_le.2 fun s _ => by
    have := h s
    split at this <;> omega
  have := h i
  split <;> rename_i hc
  · rw [if_pos hc] at this
    omega
  · rw [if_neg hc] at this
    exact this
theorem sol_dark {side : Nat → List Nat} {cl : Nat → Bool} {own : Nat → Nat} (h : ∀ i, own i = 0) : Sol side cl own (fun _ => 0) := fun i => by
  have h1 : inL side (fun _ => 0) i ≤ 0 := in_le.2 fun s _ => by simp
  have h2 : inL side (fun _ => 0) i = 0 := by omega
  simp only [h i, h2]
  split <;> rfl

/-! ### A torch in a box of air -/
def gap (a b : Nat) : Nat := max a b - min a b
def far (X Z k i : Nat) : Nat := gap (i % X) (k % X) + (gap (i / X % Z) (k / X % Z) + gap (i / X / Z) (k / X / Z))
def torchL (X Y Z k T i : Nat) : Nat := if i < X * Y * Z then T - far X Z k i else 0
theorem far_at {X Y Z x z y a c b : Nat} (hx : x < X) (hz : z < Z) (ha : a < X) (hc : c < Z) : far X Z (at_ X Z a c b) (at_ X Z x z y) = gap x a + (gap z c + gap y b) := by
  unfold far
  rw [at_x hx, at_x ha, at_z hx hz, at_z ha hc, at_y hx hz, at_y ha hc]
theorem torch_sol {X Y Z k T : Nat} (hk : k < X * Y * Z) : Sol (fun i => if i < X * Y * Z then sides X Y Z i else []) (fun i => decide (i < X * Y * Z)) (fun i => if i = k then T else 0) (torchL X Y Z k T) := by
  intro i
  by_cases hi : i < X * Y * Z
  · obtain ⟨hx, hz, hy⟩ := at_box hi
    obtain ⟨ha, hc, hb⟩ := at_box hk
    have ei := at_self (X := X) (Z := Z) (i := i)
    have ek := at_self (X := X) (Z := Z) (i := k)
    generalize i % X = x at *
    generalize i / X % Z = z at *
    generalize i / X / Z = y at *
    generalize k % X = a at *
    generalize k / X % Z = c at *
    generalize k / X / Z = b at *
    subst ei ek
    have hL : ∀ x' z' y', x' < X → z' < Z → y' < Y → torchL X Y Z (at_ X Z a c b) T (at_ X Z x' z' y') = T - (gap x' a + (gap z' c + gap y' b)) := fun x' z' y' h1 h2 h3 => by
      unfold torchL
      rw [if_pos (at_lt h1 h2 h3), far_at (Y := Y) h1 h2 ha hc]
    rw [hL x z y hx hz hy]
    simp only [decide_eq_true_eq, if_pos hi]
    have hin : ∀ v, inL (fun i => if i < X * Y * Z then sides X Y Z i else []) (torchL X Y Z (at_ X Z a c b) T) (at_ X Z x z y) ≤ v ↔ ∀ s ∈ sides X Y Z (at_ X Z x z y), torchL X Y Z (at_ X Z a c b) T s - 1 ≤ v := fun v => by
      rw [in_le]
      simp only [if_pos hi]
    have up : inL (fun i => if i < X * Y * Z then sides X Y Z i else []) (torchL X Y Z (at_ X Z a c b) T) (at_ X Z x z y) ≤ T - (gap x a + (gap z c + gap y b)) := by
      rw [hin]
      intro s hs
      rw [sides_at hx hz hy] at hs
      simp only [List.mem_append] at hs
      rcases hs with hs | hs | hs | hs | hs | hs <;> split at hs <;> simp only [List.mem_cons, List.not_mem_nil, or_false] at hs <;> subst hs <;> rw [hL _ _ _ (by omega) (by omega) (by omega)] <;> unfold gap <;> omega
    have ge : ∀ x' z' y', x' < X → z' < Z → y' < Y → at_ X Z x' z' y' ∈ sides X Y Z (at_ X Z x z y) → T - (gap x' a + (gap z' c + gap y' b)) - 1 ≤ inL (fun i => if i < X * Y * Z then sides X Y Z i else []) (torchL X Y Z (at_ X Z a c b) T) (at_ X Z x z y) := fun x' z' y' h1 h2 h3 hs => by
      have := (hin _).1 (Nat.le_refl _) _ hs
      rw [hL x' z' y' h1 h2 h3] at this
      exact this
    have ms : ∀ s, (0 < x ∧ s = at_ X Z (x - 1) z y) ∨ (x + 1 < X ∧ s = at_ X Z (x + 1) z y) ∨ (0 < z ∧ s = at_ X Z x (z - 1) y) ∨ (z + 1 < Z ∧ s = at_ X Z x (z + 1) y) ∨ (0 < y ∧ s = at_ X Z x z (y - 1)) ∨ (y + 1 < Y ∧ s = at_ X Z x z (y + 1)) → s ∈ sides X Y Z (at_ X Z x z y) := fun s h => by
      rw [sides_at hx hz hy]
      simp only [List.mem_append]
      rcases h with ⟨h, rfl⟩ | ⟨h, rfl⟩ | ⟨h, rfl⟩ | ⟨h, rfl⟩ | ⟨h, rfl⟩ | ⟨h, rfl⟩ <;> simp only [if_pos h, List.mem_cons, true_or, or_true]
    by_cases he : at_ X Z x z y = at_ X Z a c b
    · have e1 : x = a := by rw [← at_x (Z := Z) (z := z) (y := y) hx, he, at_x ha]
      have e2 : z = c := by rw [← at_z (y := y) hx hz, he, at_z ha hc]
      have e3 : y = b := by rw [← at_y hx hz (y := y), he, at_y ha hc]
      rw [if_pos he]
      subst e1 e2 e3
      have g0 : ∀ u, gap u u = 0 := fun u => by unfold gap; omega
      rw [g0, g0, g0] at up ⊢
      omega
    · rw [if_neg he]
      have hne : x ≠ a ∨ z ≠ c ∨ y ≠ b := by
        by_cases q1 : x = a
        · by_cases q2 : z = c
          · refine .inr (.inr fun q3 => he ?_)
            rw [q1, q2, q3]
          · exact .inr (.inl q2)
        · exact .inl q1
      have main : T - (gap x a + (gap z c + gap y b)) ≤ inL (fun i => if i < X * Y * Z then sides X Y Z i else []) (torchL X Y Z (at_ X Z a c b) T) (at_ X Z x z y) := by
        by_cases q1 : x < a
        · have h := ge (x + 1) z y (by omega) hz hy (ms _ (.inr (.inl ⟨by omega, rfl⟩)))
          unfold gap at h ⊢
          omega
        · by_cases q2 : a < x
          · have h := ge (x - 1) z y (by omega) hz hy (ms _ (.inl ⟨by omega, rfl⟩))
            unfold gap at h ⊢
            omega
          · by_cases q3 : z < c
            · have h := ge x (z + 1) y hx (by omega) hy (ms _ (.inr (.inr (.inr (.inl ⟨by omega, rfl⟩)))))
              unfold gap at h ⊢
              omega
            · by_cases q4 : c < z
              · have h := ge x (z - 1) y hx (by omega) hy (ms _ (.inr (.inr (.inl ⟨by omega, rfl⟩))))
                unfold gap at h ⊢
                omega
              · by_cases q5 : y < b
                · have h := ge x z (y + 1) hx hz (by omega) (ms _ (.inr (.inr (.inr (.inr (.inr ⟨by omega, rfl⟩))))))
                  unfold gap at h ⊢
                  omega
                · have h := ge x z (y - 1) hx hz (by omega) (ms _ (.inr (.inr (.inr (.inr (.inl ⟨by omega, rfl⟩))))))
                  unfold gap at h ⊢
                  omega
      omega
  · simp [torchL, hi]

/-! ### A box that is turned about -/
/-- Light is turned about with the box: where t tells each cell's new number. -/
theorem turned {side side' : Nat → List Nat} {cl cl' : Nat → Bool} {own own' L M : Nat → Nat} {N K : Nat} {t : Nat → Nat} (hK : ∀ i, L i ≤ K) (hK' : ∀ i, M i ≤ K) (hL : Sol side cl own L) (hM : Sol side' cl' own' M)
    (hout : ∀ i, N ≤ i → cl i = false) (hin : ∀ i, i < N → ∀ s ∈ side i, s < N) (hs : ∀ i, i < N → ∀ s', s' ∈ side' (t i) ↔ ∃ s ∈ side i, s' = t s) (hc : ∀ i, i < N → cl' (t i) = cl i) (ho : ∀ i, i < N → own' (t i) = own i) : ∀ i, i < N → M (t i) = L i := by
  have hT : Sol side cl own (fun i => if i < N then M (t i) else 0) := fun i => by
    by_cases hi : i < N
    · simp only [if_pos hi]
      rw [hM (t i), hc i hi, ho i hi]
      have e : inL side' M (t i) = inL side (fun i => if i < N then M (t i) else 0) i := by
        apply Nat.le_antisymm
        · refine in_le.2 fun s' hs' => ?_
          obtain ⟨s, h1, rfl⟩ := (hs i hi s').1 hs'
          have := in_ge (L := fun i => if i < N then M (t i) else 0) h1
          simp only [if_pos (hin i hi s h1)] at this
          exact this
        · refine in_le.2 fun s h1 => ?_
          simp only [if_pos (hin i hi s h1)]
          exact in_ge ((hs i hi (t s)).2 ⟨s, h1, rfl⟩)
      rw [e]
    · simp only [if_neg hi]
      rw [hout i (by omega)]
      rfl
  have := unique (K := K) (fun i => by split; exact hK' _; omega) hK hT hL
  intro i hi
  have := congrFun this i
  simpa only [if_pos hi] using this
end GlowP
end Go.Proofs.YtbkadecfmjjadaaDoor
