/-
  Ways through cells, plainly: the crossings that come together at the least time, one axis after the other, are what is crossed next.
-/
import Derived.Test.YtcmndfjoaoinjaaDoorRayPlain
import Derived.Test.YtcmndfjoaoinjaaDoorPlaceWalks6
namespace Go.Proofs.YtcmndfjoaoinjaaDoor
set_option linter.unusedVariables false
set_option linter.unusedSimpArgs false
open Go.RowKit
namespace RayP
open PlaceW
/-- When axis k is crossed next, as a fraction's upper number. -/
def od (m : T3) (k : Nat) : Int := 2 * nA m k + 1
/-- Which of the first axes comes first. -/
def soonI (s m : T3) : Nat → Nat
  | 0 => 0
  | k + 1 => if od m k * nA s (soonI s m k) < od m (soonI s m k) * nA s k then k else soonI s m k
def tog (s m : T3) (k : Nat) : Bool := decide (od m k * nA s (soonI s m 3) = od m (soonI s m 3) * nA s k)
/-- Behind the first k axes of a round. -/
def stepK (s m : T3) : Nat → T3
  | 0 => m
  | k + 1 => if tog s m k = true then bump (stepK s m k) k else stepK s m k
def cntK (s m : T3) : Nat → Nat
  | 0 => 0
  | k + 1 => if tog s m k = true then cntK s m k + 1 else cntK s m k
def Pos3 (s : T3) : Prop := 0 ≤ s.x ∧ 0 ≤ s.z ∧ 0 ≤ s.y
theorem nA_pos {s : T3} (h : Pos3 s) (k : Nat) : 0 ≤ nA s k := by
  obtain ⟨h1, h2, h3⟩ := h
  unfold nA
  split
  · exact h1
  · split
    · exact h2
    · exact h3
theorem od_pos {m : T3} (h : Pos3 m) (k : Nat) : 0 < od m k := by
  have := nA_pos h k
  unfold od
  omega
theorem soon_lt {s m : T3} : ∀ {k : Nat}, 0 < k → soonI s m k < k
  | k + 1, _ => by
    rw [soonI]
    split
    · omega
    · rcases Nat.eq_zero_or_pos k with rfl | h
      · simp [soonI]
      · have := soon_lt (s := s) (m := m) h
        omega
theorem soon_inv {s m : T3} (hs : Pos3 s) (hm : Pos3 m) : ∀ k : Nat,
    (nA s (soonI s m k) = 0 ∧ ∀ i, i < k → nA s i = 0) ∨ (0 < nA s (soonI s m k) ∧ ∀ i, i < k → od m (soonI s m k) * nA s i ≤ od m i * nA s (soonI s m k))
  | 0 => by
    rcases Int.lt_or_eq_of_le (nA_pos hs 0) with h | h
    · exact .inr ⟨by simpa [soonI] using h, fun i hi => absurd hi (by omega)⟩
    · exact .inl ⟨by simpa [soonI] using h.symm, fun i hi => absurd hi (by omega)⟩
  | k + 1 => by
    obtain ⟨j, hj⟩ : ∃ j, soonI s m k = j := ⟨_, rfl⟩
    have ih := soon_inv hs hm k
    rw [soonI]
    rw [hj] at ih ⊢
    have ok := od_pos hm k
    have oj := od_pos hm j
    have sk := nA_pos hs k
    rcases ih with ⟨h0, hall⟩ | ⟨h0, hall⟩
    · rw [h0, Int.mul_zero]
      rcases Int.lt_or_eq_of_le sk with h | h
      · rw [if_pos (Int.mul_pos oj h)]
        refine .inr ⟨h, fun i hi => ?_⟩
        rcases Nat.lt_or_eq_of_le (Nat.le_of_lt_succ hi) with h1 | rfl
        · rw [hall i h1, Int.mul_zero]
          exact Int.mul_nonneg (Int.le_of_lt (od_pos hm i)) sk
        · exact Int.le_refl _
      · rw [← h, Int.mul_zero, if_neg (by omega)]
        refine .inl ⟨h0, fun i hi => ?_⟩
        rcases Nat.lt_or_eq_of_le (Nat.le_of_lt_succ hi) with h1 | rfl
        · exact hall i h1
        · exact h.symm
    · by_cases hlt : od m k * nA s j < od m j * nA s k
      · rw [if_pos hlt]
        have hk : 0 < nA s k := by
          rcases Int.lt_or_eq_of_le sk with h | h
          · exact h
          · rw [← h, Int.mul_zero] at hlt
            have := Int.mul_nonneg (Int.le_of_lt ok) (Int.le_of_lt h0)
            omega
        refine .inr ⟨hk, fun i hi => ?_⟩
        rcases Nat.lt_or_eq_of_le (Nat.le_of_lt_succ hi) with h1 | rfl
        · exact mul_chain (A := od m j) (B := od m i) (C := od m k) (a := nA s j) (b := nA s i) (c := nA s k) oj h0 (Int.le_of_lt ok) (nA_pos hs i) (Int.le_of_lt (od_pos hm i)) sk (Int.le_of_lt hlt) (hall i h1)
        · exact Int.le_refl _
      · rw [if_neg hlt]
        refine .inr ⟨h0, fun i hi => ?_⟩
        rcases Nat.lt_or_eq_of_le (Nat.le_of_lt_succ hi) with h1 | rfl
        · exact hall i h1
        · omega
theorem soon_min {s m : T3} (hs : Pos3 s) (hm : Pos3 m) (h3 : Some3 s) : 0 < nA s (soonI s m 3) ∧ ∀ i, i < 3 → od m (soonI s m 3) * nA s i ≤ od m i * nA s (soonI s m 3) := by
  rcases soon_inv hs hm 3 with ⟨_, h⟩ | h
  · exfalso
    have a := h 0 (by omega)
    have b := h 1 (by omega)
    have c := h 2 (by omega)
    simp [nA] at a b c
    rcases h3 with g | g | g
    · exact g a
    · exact g b
    · exact g c
  · exact h
theorem tog_soon (s m : T3) : tog s m (soonI s m 3) = true := by simp [tog]
theorem nA_bump (m : T3) (k j : Nat) (hk : k < 3) (hj : j < 3) : nA (bump m k) j = if j = k then nA m j + 1 else nA m j := by
  match k, hk, j, hj with
  | 0, _, 0, _ => rfl
  | 0, _, 1, _ => rfl
  | 0, _, 2, _ => rfl
  | 1, _, 0, _ => rfl
  | 1, _, 1, _ => rfl
  | 1, _, 2, _ => rfl
  | 2, _, 0, _ => rfl
  | 2, _, 1, _ => rfl
  | 2, _, 2, _ => rfl
theorem nA_stepK (s m : T3) : ∀ {k j : Nat}, k ≤ 3 → j < 3 → nA (stepK s m k) j = if j < k ∧ tog s m j = true then nA m j + 1 else nA m j
  | 0, j, _, _ => by rw [if_neg (by omega)]; rfl
  | k + 1, j, hk, hj => by
    have ih := nA_stepK s m (k := k) (j := j) (by omega) hj
    rw [stepK]
    split
    · rename_i ht
      rw [nA_bump _ k j (by omega) hj, ih]
      by_cases e : j = k
      · subst e
        rw [if_pos rfl, if_neg (by omega), if_pos ⟨by omega, ht⟩]
      · rw [if_neg e]
        by_cases h : j < k ∧ tog s m j = true
        · rw [if_pos h, if_pos ⟨by omega, h.2⟩]
        · rw [if_neg h, if_neg (fun q => h ⟨by omega, q.2⟩)]
    · rename_i ht
      rw [ih]
      by_cases h : j < k ∧ tog s m j = true
      · rw [if_pos h, if_pos ⟨by omega, h.2⟩]
      · rw [if_neg h, if_neg (fun q => h ⟨by
          rcases Nat.lt_or_eq_of_le (Nat.le_of_lt_succ q.1) with h1 | rfl
          · exact h1
          · exact absurd q.2 ht, q.2⟩)]
theorem next_0 {s m : T3} (h0 : s.x ≠ 0) (h1 : (2 * m.x + 1) * s.z ≤ (2 * m.z + 1) * s.x) (h2 : (2 * m.x + 1) * s.y ≤ (2 * m.y + 1) * s.x) : nextA s m = 0 := by
  simp [nextA, leA, h0, h1, h2]
theorem next_1 {s m : T3} (hs : Pos3 s) (hm : Pos3 m) (h0 : s.z ≠ 0) (h1 : (2 * m.z + 1) * s.x < (2 * m.x + 1) * s.z) (h2 : (2 * m.z + 1) * s.y ≤ (2 * m.y + 1) * s.z) : nextA s m = 1 := by
  have e1 : ¬ (2 * m.x + 1) * s.z ≤ (2 * m.z + 1) * s.x := by omega
  simp [nextA, leA, ltA, h0, h1, h2, e1]
theorem next_2 {s m : T3} (hs : Pos3 s) (hm : Pos3 m) (h0 : s.y ≠ 0) (h1 : (2 * m.y + 1) * s.x < (2 * m.x + 1) * s.y) (h2 : (2 * m.y + 1) * s.z < (2 * m.z + 1) * s.y) : nextA s m = 2 := by
  have e1 : ¬ (2 * m.x + 1) * s.y ≤ (2 * m.y + 1) * s.x := by omega
  have e2 : ¬ (2 * m.z + 1) * s.y ≤ (2 * m.y + 1) * s.z := by omega
  simp [nextA, leA, ltA, h0, e1, e2]
theorem le_of_min {oa sa ob sb o s : Int} (hs : 0 < s) (hsa : 0 ≤ sa) (h : oa * s = o * sa) (h2 : o * sb ≤ ob * s) : oa * sb ≤ ob * sa := by
  have e1 : (oa * sb) * s = sa * (o * sb) := by rw [show (oa * sb) * s = (oa * s) * sb by ac_rfl, h]; ac_rfl
  have e2 : (ob * sa) * s = sa * (ob * s) := by ac_rfl
  have : (oa * sb) * s ≤ (ob * sa) * s := by
    rw [e1, e2]
    exact Int.mul_le_mul_of_nonneg_left h2 hsa
  exact Int.le_of_mul_le_mul_right this hs
theorem lt_of_min {oa sa ob sb o s : Int} (hs : 0 < s) (hsa : 0 < sa) (h : oa * s = o * sa) (h2 : o * sb < ob * s) : oa * sb < ob * sa := by
  have e1 : (oa * sb) * s = sa * (o * sb) := by rw [show (oa * sb) * s = (oa * s) * sb by ac_rfl, h]; ac_rfl
  have e2 : (ob * sa) * s = sa * (ob * s) := by ac_rfl
  have : (oa * sb) * s < (ob * sa) * s := by
    rw [e1, e2]
    exact Int.mul_lt_mul_of_pos_left h2 hsa
  exact Int.lt_of_mul_lt_mul_right this (Int.le_of_lt hs)
/-- An axis that comes together with the first one is crossed. -/
theorem tog_pos {s m : T3} (hs : Pos3 s) (hm : Pos3 m) (h3 : Some3 s) {k : Nat} (ht : tog s m k = true) : 0 < nA s k := by
  obtain ⟨h0, hmin⟩ := soon_min hs hm h3
  have e := of_decide_eq_true ht
  rcases Int.lt_or_eq_of_le (nA_pos hs k) with h | h
  · exact h
  · rw [← h, Int.mul_zero] at e
    have := Int.mul_pos (od_pos hm k) h0
    omega
/-- Of an axis that comes together: those ahead of it have been crossed, or come behind it; those behind it do not come ahead. -/
theorem tog_le {s m : T3} (hs : Pos3 s) (hm : Pos3 m) (h3 : Some3 s) {k j : Nat} (hk : k < 3) (hj : j < 3) (ht : tog s m k = true) : od m k * nA s j ≤ od m j * nA s k := by
  obtain ⟨h0, hmin⟩ := soon_min hs hm h3
  exact le_of_min h0 (nA_pos hs k) (of_decide_eq_true ht) (hmin j hj)
theorem tog_lt {s m : T3} (hs : Pos3 s) (hm : Pos3 m) (h3 : Some3 s) {k j : Nat} (hk : k < 3) (hj : j < k) (ht : tog s m k = true) :
    (2 * nA (stepK s m k) k + 1) * nA s j < (2 * nA (stepK s m k) j + 1) * nA s k := by
  obtain ⟨h0, hmin⟩ := soon_min hs hm h3
  have hp := tog_pos hs hm h3 ht
  rw [nA_stepK s m (by omega) hk, if_neg (by omega), nA_stepK s m (by omega) (by omega)]
  cases htj : tog s m j with
  | true =>
    rw [if_pos ⟨hj, rfl⟩]
    have h1 := tog_le hs hm h3 hk (by omega : j < 3) ht
    unfold od at h1
    have e : (2 * (nA m j + 1) + 1) * nA s k = (2 * nA m j + 1) * nA s k + 2 * nA s k := by
      rw [show 2 * (nA m j + 1) + 1 = (2 * nA m j + 1) + 2 by omega, Int.add_mul]
    omega
  | false =>
    rw [if_neg (by simp)]
    have hne := of_decide_eq_false htj
    have hle := hmin j (by omega)
    show od m k * nA s j < od m j * nA s k
    exact lt_of_min h0 hp (of_decide_eq_true ht) (by omega)
theorem tog_ge {s m : T3} (hs : Pos3 s) (hm : Pos3 m) (h3 : Some3 s) {k j : Nat} (hk : k < j) (hj : j < 3) (ht : tog s m k = true) :
    (2 * nA (stepK s m k) k + 1) * nA s j ≤ (2 * nA (stepK s m k) j + 1) * nA s k := by
  rw [nA_stepK s m (by omega) (by omega), if_neg (by omega), nA_stepK s m (by omega) hj, if_neg (by omega)]
  exact tog_le hs hm h3 (by omega) hj ht
theorem pos_bump {m : T3} (hm : Pos3 m) (k : Nat) : Pos3 (bump m k) := by
  obtain ⟨h1, h2, h3⟩ := hm
  unfold bump
  split
  · exact ⟨by show 0 ≤ m.x + 1; omega, h2, h3⟩
  · split
    · exact ⟨h1, by show 0 ≤ m.z + 1; omega, h3⟩
    · exact ⟨h1, h2, by show 0 ≤ m.y + 1; omega⟩
theorem pos_stepK {s m : T3} (hm : Pos3 m) : ∀ k, Pos3 (stepK s m k)
  | 0 => hm
  | k + 1 => by
    rw [stepK]
    split
    · exact pos_bump (pos_stepK hm k) k
    · exact pos_stepK hm k
/-- It is what is crossed next. -/
theorem next_tog {s m : T3} (hs : Pos3 s) (hm : Pos3 m) (h3 : Some3 s) {k : Nat} (hk : k < 3) (ht : tog s m k = true) : nextA s (stepK s m k) = k := by
  have hp := tog_pos hs hm h3 ht
  have hm' := pos_stepK (s := s) hm k
  match k, hk with
  | 0, _ => exact next_0 (by have : 0 < s.x := hp; omega) (tog_ge hs hm h3 (k := 0) (j := 1) (by omega) (by omega) ht) (tog_ge hs hm h3 (k := 0) (j := 2) (by omega) (by omega) ht)
  | 1, _ => exact next_1 hs hm' (by have : 0 < s.z := hp; omega) (tog_lt hs hm h3 (k := 1) (j := 0) (by omega) (by omega) ht) (tog_ge hs hm h3 (k := 1) (j := 2) (by omega) (by omega) ht)
  | 2, _ => exact next_2 hs hm' (by have : 0 < s.y := hp; omega) (tog_lt hs hm h3 (k := 2) (j := 0) (by omega) (by omega) ht) (tog_lt hs hm h3 (k := 2) (j := 1) (by omega) (by omega) ht)
theorem pos_at (d : T3) : ∀ i, Pos3 (mAt d i)
  | 0 => ⟨by simp [mAt], by simp [mAt], by simp [mAt]⟩
  | i + 1 => pos_bump (pos_at d i) _
theorem stepK_at {d : T3} (h3 : Some3 (szT d)) (i : Nat) : ∀ {k : Nat}, k ≤ 3 → stepK (szT d) (mAt d i) k = mAt d (i + cntK (szT d) (mAt d i) k)
  | 0, _ => rfl
  | k + 1, hk => by
    have ih := stepK_at h3 i (k := k) (by omega)
    rw [stepK, cntK]
    split
    · rename_i ht
      have hn := next_tog (szT_nonneg d) (pos_at d i) h3 (by omega : k < 3) ht
      rw [show i + (cntK (szT d) (mAt d i) k + 1) = (i + cntK (szT d) (mAt d i) k) + 1 by omega, stepM_at, stepM, ← ih, hn]
    · exact ih
theorem cnt_mono (s m : T3) (k : Nat) : cntK s m k ≤ cntK s m (k + 1) := by
  rw [cntK]
  split <;> omega
theorem cnt_le (s m : T3) : ∀ k, cntK s m k ≤ k
  | 0 => Nat.le_refl _
  | k + 1 => by
    have := cnt_le s m k
    rw [cntK]
    split <;> omega
theorem cnt_pos (s m : T3) : 0 < cntK s m 3 := by
  have hl := soon_lt (s := s) (m := m) (k := 3) (by omega)
  have ht := tog_soon s m
  have h1 : cntK s m 0 ≤ cntK s m 1 := cnt_mono s m 0
  have h2 : cntK s m 1 ≤ cntK s m 2 := cnt_mono s m 1
  have h3 : cntK s m 2 ≤ cntK s m 3 := cnt_mono s m 2
  match h : soonI s m 3, hl with
  | 0, _ =>
    rw [h] at ht
    have : cntK s m 1 = cntK s m 0 + 1 := by
      show (if tog s m 0 = true then cntK s m 0 + 1 else cntK s m 0) = _
      rw [if_pos ht]
    omega
  | 1, _ =>
    rw [h] at ht
    have : cntK s m 2 = cntK s m 1 + 1 := by
      show (if tog s m 1 = true then cntK s m 1 + 1 else cntK s m 1) = _
      rw [if_pos ht]
    omega
  | 2, _ =>
    rw [h] at ht
    have : cntK s m 3 = cntK s m 2 + 1 := by
      show (if tog s m 2 = true then cntK s m 2 + 1 else cntK s m 2) = _
      rw [if_pos ht]
    omega
/-- A place's three numbers, as they stand in memory. -/
def tr (p : T3) : Int × Int × Int := (p.x, p.y, p.z)
/-- The places that the first i crossings lead to. -/
def lst (p d : T3) (i : Nat) : List T3 := (List.range i).map fun j => posA p d (mAt d (j + 1))
theorem lst_succ (p d : T3) (i : Nat) : lst p d (i + 1) = lst p d i ++ [posA p d (mAt d (i + 1))] := by simp [lst, List.range_succ]
theorem lst_len (p d : T3) (i : Nat) : (lst p d i).length = i := by simp [lst]
/-- All of the first i are places. -/
def AllM (p d : T3) (i : Nat) : Prop := ∀ j, j < i → mayT (posA p d (mAt d (j + 1))) = true
theorem AllM.succ {p d : T3} {i : Nat} (h : AllM p d i) (hm : mayT (posA p d (mAt d (i + 1))) = true) : AllM p d (i + 1) := fun j hj => by
  rcases Nat.lt_or_eq_of_le (Nat.le_of_lt_succ hj) with h1 | rfl
  · exact h j h1
  · exact hm
theorem way_drop {p d : T3} : ∀ {n k : Nat} (i : Nat), AllM p d (i + k) → k ≤ n → wayFrom p d n (mAt d i) = (List.range k).map (fun j => posA p d (mAt d (i + j + 1))) ++ wayFrom p d (n - k) (mAt d (i + k))
  | n, 0, i, _, _ => by simp
  | 0, k + 1, i, _, h => by omega
  | n + 1, k + 1, i, ha, h => by
    rw [way_step, if_pos (ha i (by omega)), way_drop (n := n) (k := k) (i + 1) (by rw [show i + 1 + k = i + (k + 1) by omega]; exact ha) (by omega)]
    rw [List.range_succ_eq_map, List.map_cons, List.map_map, List.cons_append]
    congr 1
    rw [show n + 1 - (k + 1) = n - k by omega, show i + 1 + k = i + (k + 1) by omega]
    congr 1
    apply List.map_congr_left
    intro a _
    show posA p d (mAt d (i + 1 + a + 1)) = posA p d (mAt d (i + (a + 1) + 1))
    rw [show i + 1 + a + 1 = i + (a + 1) + 1 by omega]
/-- Where i crossings lead to places, and the way is as long, or the next one leads to none, that is the way. -/
theorem way_is {p d : T3} {n i : Nat} (hi : i ≤ n) (ha : AllM p d i) (h : i = n ∨ mayT (posA p d (mAt d (i + 1))) = false) : wayA p d n = lst p d i := by
  have e := way_drop (p := p) (d := d) (n := n) (k := i) 0 (by simpa using ha) hi
  show wayFrom p d n (mAt d 0) = _
  rw [e]
  have e2 : wayFrom p d (n - i) (mAt d (0 + i)) = [] := by
    rcases h with rfl | h
    · rw [Nat.sub_self]
      rfl
    · cases hn : n - i with
      | zero => rfl
      | succ k =>
        rw [Nat.zero_add, way_step, if_neg (by rw [h]; simp)]
  rw [e2, List.append_nil]
  unfold lst
  apply List.map_congr_left
  intro a _
  rw [Nat.zero_add]
/-- The direction in which axis k is crossed. -/
def dirA (d : T3) (k : Nat) : Int := if nA d k < 0 then (if k = 0 then 1 else if k = 1 then 3 else 5) else (if k = 0 then 0 else if k = 1 then 2 else 4)
theorem mayT_true {p : T3} (h : mayT p = true) : -1048576 ≤ p.x ∧ p.x < 1048576 ∧ 0 ≤ p.y ∧ p.y < 64 ∧ -1048576 ≤ p.z ∧ p.z < 1048576 := mayB_true h
theorem wrap_small {a : Int} (h1 : -2000000 ≤ a) (h2 : a ≤ 2000000) : wrap64 a = a := IntWalk.wrap64_in a ⟨by omega, by omega⟩
theorem nA_sz (d : T3) (k : Nat) : nA (szT d) k = sz (nA d k) := by
  unfold nA szT
  split
  · rfl
  · split <;> rfl
theorem mul_succ' (a b c : Int) : a + b * (c + 1) = a + b * c + b := by rw [Int.mul_add, Int.mul_one]; omega
theorem step_fin {v : Int × Int × Int × Bool} {X Y Z : Int} (h : v = (X, Y, Z, true)) : (if v.2.2.2 = true ∧ mayB v.1 v.2.1 v.2.2.1 = true then v else (0, 0, 0, false)) = if mayB X Y Z = true then (X, Y, Z, true) else (0, 0, 0, false) := by
  subst h
  by_cases q : mayB X Y Z = true <;> simp [q]
/-- A step along an axis that is crossed. -/
theorem step_is {p d m : T3} {k : Nat} (hk : k < 3) (hd : nA d k ≠ 0) (hm : mayT (posA p d m) = true) :
    stepOf (posA p d m).x (posA p d m).y (posA p d m).z (dirA d k) =
      if mayT (posA p d (bump m k)) = true then ((posA p d (bump m k)).x, (posA p d (bump m k)).y, (posA p d (bump m k)).z, true) else (0, 0, 0, false) := by
  obtain ⟨b1, b2, b3, b4, b5, b6⟩ := mayT_true hm
  obtain ⟨X, hX⟩ : ∃ X, (posA p d m).x = X := ⟨_, rfl⟩
  obtain ⟨Y, hY⟩ : ∃ Y, (posA p d m).y = Y := ⟨_, rfl⟩
  obtain ⟨Z, hZ⟩ : ∃ Z, (posA p d m).z = Z := ⟨_, rfl⟩
  have hm' : mayB X Y Z = true := by rw [← hX, ← hY, ← hZ]; exact hm
  rw [hX, hY, hZ]
  rw [hX] at b1 b2
  rw [hY] at b3 b4
  rw [hZ] at b5 b6
  unfold stepOf
  rw [if_pos hm']
  have hX' : p.x + sgn d.x * m.x = X := hX
  have hY' : p.y + sgn d.y * m.y = Y := hY
  have hZ' : p.z + sgn d.z * m.z = Z := hZ
  match k, hk with
  | 0, _ =>
    have hd' : d.x ≠ 0 := hd
    have e : posA p d (bump m 0) = ⟨X + sgn d.x, Z, Y⟩ := by
      simp only [bump, posA, if_true, mul_succ', hX', hY', hZ']
    rw [e]
    by_cases hn : d.x < 0
    · have q1 : dirA d 0 = 1 := by simp [dirA, nA, hn]
      have q2 : sgn d.x = -1 := by simp [sgn, hn]
      rw [q1, q2]
      rw [show X + -1 = X - 1 by omega]
      exact step_fin (by simp [mv, wrap_small (show (-2000000 : Int) ≤ X - 1 by omega) (by omega)])
    · have q1 : dirA d 0 = 0 := by simp [dirA, nA, hn]
      have q2 : sgn d.x = 1 := by simp [sgn, hn, hd']
      rw [q1, q2]
      exact step_fin (by simp [mv, wrap_small (show (-2000000 : Int) ≤ X + 1 by omega) (by omega)])
  | 1, _ =>
    have hd' : d.z ≠ 0 := hd
    have e : posA p d (bump m 1) = ⟨X, Z + sgn d.z, Y⟩ := by
      simp only [bump, posA, Nat.one_ne_zero, if_false, if_true, mul_succ', hX', hY', hZ']
    rw [e]
    by_cases hn : d.z < 0
    · have q1 : dirA d 1 = 3 := by simp [dirA, nA, hn]
      have q2 : sgn d.z = -1 := by simp [sgn, hn]
      rw [q1, q2]
      rw [show Z + -1 = Z - 1 by omega]
      exact step_fin (by simp [mv, wrap_small (show (-2000000 : Int) ≤ Z - 1 by omega) (by omega)])
    · have q1 : dirA d 1 = 2 := by simp [dirA, nA, hn]
      have q2 : sgn d.z = 1 := by simp [sgn, hn, hd']
      rw [q1, q2]
      exact step_fin (by simp [mv, wrap_small (show (-2000000 : Int) ≤ Z + 1 by omega) (by omega)])
  | 2, _ =>
    have hd' : d.y ≠ 0 := hd
    have e : posA p d (bump m 2) = ⟨X, Z, Y + sgn d.y⟩ := by
      simp [bump, posA, mul_succ', hX', hY', hZ']
    rw [e]
    by_cases hn : d.y < 0
    · have q1 : dirA d 2 = 5 := by simp [dirA, nA, hn]
      have q2 : sgn d.y = -1 := by simp [sgn, hn]
      rw [q1, q2]
      rw [show Y + -1 = Y - 1 by omega]
      exact step_fin (by simp [mv, wrap_small (show (-2000000 : Int) ≤ Y - 1 by omega) (by omega)])
    · have q1 : dirA d 2 = 4 := by simp [dirA, nA, hn]
      have q2 : sgn d.y = 1 := by simp [sgn, hn, hd']
      rw [q1, q2]
      exact step_fin (by simp [mv, wrap_small (show (-2000000 : Int) ≤ Y + 1 by omega) (by omega)])
end RayP
end Go.Proofs.YtcmndfjoaoinjaaDoor
