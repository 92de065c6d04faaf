/-
  Plain facts on the places of a box, one by one: by Y, then Z, then X. No Go in sight.
-/
namespace Go.Proofs.Ytokkomglbddgcaa
set_option linter.unusedSimpArgs false
namespace PlaceW

/-- The first j places of a row. -/
def rowX (l1 y z : Int) (j : Nat) : List (Int × Int × Int) := (List.range j).map fun (i : Nat) => (l1 + (i : Int), y, z)
/-- The first m rows of a layer. -/
def layZ (l1 l3 y : Int) (nx m : Nat) : List (Int × Int × Int) := (List.range m).flatMap fun (i : Nat) => rowX l1 y (l3 + (i : Int)) nx
/-- The first k layers of a box. -/
def boxL (l1 l2 l3 : Int) (nx nz k : Nat) : List (Int × Int × Int) := (List.range k).flatMap fun (i : Nat) => layZ l1 l3 (l2 + (i : Int)) nx nz

theorem rowX_succ (l1 y z : Int) (j : Nat) : rowX l1 y z (j + 1) = rowX l1 y z j ++ [(l1 + (j : Int), y, z)] := by
  simp [rowX, List.range_succ]
theorem layZ_succ (l1 l3 y : Int) (nx m : Nat) : layZ l1 l3 y nx (m + 1) = layZ l1 l3 y nx m ++ rowX l1 y (l3 + (m : Int)) nx := by
  simp [layZ, List.range_succ]
theorem boxL_succ (l1 l2 l3 : Int) (nx nz k : Nat) : boxL l1 l2 l3 nx nz (k + 1) = boxL l1 l2 l3 nx nz k ++ layZ l1 l3 (l2 + (k : Int)) nx nz := by
  simp [boxL, List.range_succ]
theorem flat_prefix {α : Type} (f : Nat → List α) {k n : Nat} (h : k ≤ n) : (List.range k).flatMap f <+: (List.range n).flatMap f := by
  obtain ⟨d, rfl⟩ := Nat.exists_eq_add_of_le h
  rw [List.range_add, List.flatMap_append]
  exact List.prefix_append _ _
theorem rowX_prefix (l1 y z : Int) {j n : Nat} (h : j ≤ n) : rowX l1 y z j <+: rowX l1 y z n := by
  unfold rowX
  obtain ⟨d, rfl⟩ := Nat.exists_eq_add_of_le h
  rw [List.range_add, List.map_append]
  exact List.prefix_append _ _
theorem layZ_prefix (l1 l3 y : Int) (nx : Nat) {m n : Nat} (h : m ≤ n) : layZ l1 l3 y nx m <+: layZ l1 l3 y nx n := flat_prefix _ h
theorem boxL_prefix (l1 l2 l3 : Int) (nx nz : Nat) {k n : Nat} (h : k ≤ n) : boxL l1 l2 l3 nx nz k <+: boxL l1 l2 l3 nx nz n := flat_prefix _ h
/-- A place that is come to, behind those that have come. -/
theorem box_here (l1 l2 l3 : Int) {nx nz ny j m k : Nat} (hj : j < nx) (hm : m < nz) (hk : k < ny) :
    (boxL l1 l2 l3 nx nz k ++ (layZ l1 l3 (l2 + (k : Int)) nx m ++ rowX l1 (l2 + (k : Int)) (l3 + (m : Int)) j)) ++ [(l1 + (j : Int), l2 + (k : Int), l3 + (m : Int))] <+: boxL l1 l2 l3 nx nz ny := by
  have h1 := (List.prefix_append_right_inj (layZ l1 l3 (l2 + (k : Int)) nx m)).2 (rowX_prefix l1 (l2 + (k : Int)) (l3 + (m : Int)) (show j + 1 ≤ nx from hj))
  rw [← layZ_succ] at h1
  have h2 := h1.trans (layZ_prefix l1 l3 (l2 + (k : Int)) nx (show m + 1 ≤ nz from hm))
  have h3 := (List.prefix_append_right_inj (boxL l1 l2 l3 nx nz k)).2 h2
  rw [← boxL_succ] at h3
  have h4 := h3.trans (boxL_prefix l1 l2 l3 nx nz (show k + 1 ≤ ny from hk))
  rw [rowX_succ] at h4
  simpa [List.append_assoc] using h4
theorem rowX_length (l1 y z : Int) (j : Nat) : (rowX l1 y z j).length = j := by simp [rowX]
theorem layZ_length (l1 l3 y : Int) (nx m : Nat) : (layZ l1 l3 y nx m).length = m * nx := by
  induction m with
  | zero => simp [layZ]
  | succ m ih => rw [layZ_succ, List.length_append, ih, rowX_length, Nat.succ_mul]
theorem boxL_length (l1 l2 l3 : Int) (nx nz k : Nat) : (boxL l1 l2 l3 nx nz k).length = k * (nz * nx) := by
  induction k with
  | zero => simp [boxL]
  | succ k ih => rw [boxL_succ, List.length_append, ih, layZ_length, Nat.succ_mul]
theorem mem_boxL {l1 l2 l3 : Int} {nx nz k : Nat} {p : Int × Int × Int} : p ∈ boxL l1 l2 l3 nx nz k ↔ (l1 ≤ p.1 ∧ p.1 < l1 + nx) ∧ (l2 ≤ p.2.1 ∧ p.2.1 < l2 + k) ∧ (l3 ≤ p.2.2 ∧ p.2.2 < l3 + nz) := by
  obtain ⟨x, y, z⟩ := p
  simp only [boxL, layZ, rowX, List.mem_flatMap, List.mem_map, List.mem_range, Prod.mk.injEq]
  constructor
  · rintro ⟨i, hi, m, hm, j, hj, rfl, rfl, rfl⟩
    omega
  · rintro ⟨hx, hy, hz⟩
    exact ⟨(y - l2).toNat, by omega, (z - l3).toNat, by omega, (x - l1).toNat, by omega, by omega, by omega, by omega⟩
theorem rowX_count {l1 y z : Int} (p : Int × Int × Int) : ∀ j, (rowX l1 y z j).count p ≤ 1
  | 0 => by simp [rowX]
  | j + 1 => by
    rw [rowX_succ, List.count_append]
    by_cases h : p = (l1 + (j : Int), y, z)
    · have : (rowX l1 y z j).count p = 0 := by
        rw [List.count_eq_zero]
        intro hm
        simp only [rowX, List.mem_map, List.mem_range] at hm
        obtain ⟨i, hi, he⟩ := hm
        rw [h] at he
        simp only [Prod.mk.injEq] at he
        omega
      rw [this, Nat.zero_add]
      exact List.count_le_length
    · have : [(l1 + (j : Int), y, z)].count p = 0 := by
        rw [List.count_eq_zero, List.mem_singleton]
        exact h
      have := rowX_count (l1 := l1) (y := y) (z := z) p j
      omega
theorem layZ_count {l1 l3 y : Int} {nx : Nat} (p : Int × Int × Int) : ∀ m, (layZ l1 l3 y nx m).count p ≤ 1
  | 0 => by simp [layZ]
  | m + 1 => by
    rw [layZ_succ, List.count_append]
    by_cases h : p.2.2 = l3 + (m : Int)
    · have : (layZ l1 l3 y nx m).count p = 0 := by
        rw [List.count_eq_zero]
        intro hm
        simp only [layZ, rowX, List.mem_flatMap, List.mem_map, List.mem_range] at hm
        obtain ⟨i, hi, j, hj, rfl⟩ := hm
        simp only at h
        omega
      have := rowX_count (l1 := l1) (y := y) (z := l3 + (m : Int)) p nx
      omega
    · have : (rowX l1 y (l3 + (m : Int)) nx).count p = 0 := by
        rw [List.count_eq_zero]
        intro hm
        simp only [rowX, List.mem_map, List.mem_range] at hm
        obtain ⟨j, hj, rfl⟩ := hm
        exact h rfl
      have := layZ_count (l1 := l1) (l3 := l3) (y := y) (nx := nx) p m
      omega
theorem boxL_count {l1 l2 l3 : Int} {nx nz : Nat} (p : Int × Int × Int) : ∀ k, (boxL l1 l2 l3 nx nz k).count p ≤ 1
  | 0 => by simp [boxL]
  | k + 1 => by
    rw [boxL_succ, List.count_append]
    by_cases h : p.2.1 = l2 + (k : Int)
    · have : (boxL l1 l2 l3 nx nz k).count p = 0 := by
        rw [List.count_eq_zero]
        intro hm
        simp only [boxL, layZ, rowX, List.mem_flatMap, List.mem_map, List.mem_range] at hm
        obtain ⟨i, hi, i2, hi2, j, hj, rfl⟩ := hm
        simp only at h
        omega
      have := layZ_count (l1 := l1) (l3 := l3) (y := l2 + (k : Int)) (nx := nx) p nz
      omega
    · have : (layZ l1 l3 (l2 + (k : Int)) nx nz).count p = 0 := by
        rw [List.count_eq_zero]
        intro hm
        simp only [layZ, rowX, List.mem_flatMap, List.mem_map, List.mem_range] at hm
        obtain ⟨i, hi, j, hj, rfl⟩ := hm
        exact h rfl
      have := boxL_count (l1 := l1) (l2 := l2) (l3 := l3) (nx := nx) (nz := nz) p k
      omega
end PlaceW
end Go.Proofs.Ytokkomglbddgcaa
