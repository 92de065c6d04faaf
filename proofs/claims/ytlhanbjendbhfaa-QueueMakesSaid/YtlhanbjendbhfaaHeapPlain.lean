/-
  A heap, plainly (container/heap's way): what stands at each place; up, down, and where both may be wrong; the first is the least.
-/
namespace Go.Proofs.Ytlhanbjendbhfaa
set_option linter.unusedVariables false
namespace HeapP
section
variable {T : Type} {lt : T → T → Prop}
/-- Not the other way round; and through: what a strict order of all gives. -/
structure Ord (lt : T → T → Prop) : Prop where
  asym : ∀ {a b}, lt a b → ¬ lt b a
  thru : ∀ {a b c}, ¬ lt b a → ¬ lt c b → ¬ lt c a
def sw (f : Nat → T) (i j : Nat) : Nat → T := fun k => if k = i then f j else if k = j then f i else f k
theorem sw_l (f : Nat → T) (i j : Nat) : sw f i j i = f j := by simp [sw]
theorem sw_r (f : Nat → T) (i j : Nat) : sw f i j j = f i := by
  simp only [sw]
  by_cases h : j = i
  · subst h
    simp
  · simp [h]
theorem sw_o (f : Nat → T) {i j k : Nat} (h1 : k ≠ i) (h2 : k ≠ j) : sw f i j k = f k := by simp [sw, h1, h2]
def par (k : Nat) : Nat := (k - 1) / 2
theorem par_lt {k : Nat} (h : 0 < k) : par k < k := by unfold par; omega
theorem par_kid {k i : Nat} (h : 0 < k) : par k = i ↔ k = 2 * i + 1 ∨ k = 2 * i + 2 := by unfold par; omega
/-- Nothing goes ahead of what stands over it. -/
def Heap (lt : T → T → Prop) (f : Nat → T) (n : Nat) : Prop := ∀ k, 0 < k → k < n → ¬ lt (f k) (f (par k))
/-- So but for one place, whose kids are right with what stands over it. -/
def Both (lt : T → T → Prop) (f : Nat → T) (n i : Nat) : Prop := (∀ k, 0 < k → k < n → k ≠ i → par k ≠ i → ¬ lt (f k) (f (par k))) ∧ (∀ k, 0 < k → k < n → par k = i → 0 < i → ¬ lt (f k) (f (par i)))
/-- It may be too low. -/
def Up (lt : T → T → Prop) (f : Nat → T) (n i : Nat) : Prop := (∀ k, 0 < k → k < n → k ≠ i → ¬ lt (f k) (f (par k))) ∧ (∀ k, 0 < k → k < n → par k = i → 0 < i → ¬ lt (f k) (f (par i)))
/-- It may be too high. -/
def Down (lt : T → T → Prop) (f : Nat → T) (n i : Nat) : Prop := (∀ k, 0 < k → k < n → par k ≠ i → ¬ lt (f k) (f (par k))) ∧ (∀ k, 0 < k → k < n → par k = i → 0 < i → ¬ lt (f k) (f (par i)))
theorem Heap.up {f : Nat → T} {n : Nat} (o : Ord lt) (h : Heap lt f n) (i : Nat) (hi : i < n) : Up lt f n i :=
  ⟨fun k h0 hk _ => h k h0 hk, fun k h0 hk hp hi0 => o.thru (h i hi0 hi) (by have := h k h0 hk; rw [hp] at this; exact this)⟩
theorem Heap.both {f g : Nat → T} {n i : Nat} (o : Ord lt) (h : Heap lt f n) (hi : i < n) (hg : ∀ k, k < n → k ≠ i → g k = f k) : Both lt g n i := by
  refine ⟨fun k h0 hk h1 h2 => ?_, fun k h0 hk hp hi0 => ?_⟩
  · have hl := par_lt h0
    rw [hg k hk h1, hg (par k) (by omega) h2]
    exact h k h0 hk
  · have hl := par_lt h0
    have hl2 := par_lt hi0
    rw [hg k hk (by omega), hg (par i) (by omega) (by omega)]
    refine o.thru (h i hi0 hi) ?_
    have := h k h0 hk
    rw [hp] at this
    exact this
/-- One step up. -/
theorem up_step {f : Nat → T} {n j : Nat} (o : Ord lt) (h : Up lt f n j) (h0 : 0 < j) (hj : j < n) (hlt : lt (f j) (f (par j))) : Up lt (sw f (par j) j) n (par j) := by
  have hp := par_lt h0
  refine ⟨fun k hk0 hkn hne => ?_, fun k hk0 hkn hpk hp0 => ?_⟩
  · by_cases e : k = j
    · subst e
      rw [sw_r, sw_l]
      exact o.asym hlt
    · have hkl := par_lt hk0
      by_cases e2 : par k = par j
      · rw [sw_o f hne e, e2, sw_l]
        have := h.1 k hk0 hkn e
        rw [e2] at this
        exact o.thru (o.asym hlt) this
      · by_cases e3 : par k = j
        · rw [sw_o f hne e, e3, sw_r]
          exact h.2 k hk0 hkn e3 h0
        · rw [sw_o f hne e, sw_o f e2 e3]
          exact h.1 k hk0 hkn e
  · have hpl := par_lt hp0
    have hpp := h.1 (par j) hp0 (by omega) (by omega)
    rw [sw_o f (k := par (par j)) (by omega) (by omega)]
    by_cases e : k = j
    · subst e
      rw [sw_r]
      exact hpp
    · have hkl := par_lt hk0
      rw [sw_o f (by omega) e]
      have := h.1 k hk0 hkn e
      rw [hpk] at this
      exact o.thru hpp this
theorem up_stop {f : Nat → T} {n j : Nat} (h : Up lt f n j) (hs : j = 0 ∨ ¬ lt (f j) (f (par j))) : Heap lt f n := by
  intro k h0 hk
  by_cases e : k = j
  · subst e
    rcases hs with hs | hs
    · omega
    · exact hs
  · exact h.1 k h0 hk e
/-- One step down, to the lesser kid. -/
theorem down_both {f : Nat → T} {n i j : Nat} (o : Ord lt) (h : Both lt f n i) (h0 : 0 < j) (hj : j < n) (hp : par j = i) (hmin : ∀ k, 0 < k → k < n → par k = i → ¬ lt (f k) (f j)) (hlt : lt (f j) (f i)) : Down lt (sw f i j) n j := by
  have hjl := par_lt h0
  refine ⟨fun k hk0 hkn hne => ?_, fun k hk0 hkn hpk _ => ?_⟩
  · have hkl := par_lt hk0
    by_cases e : k = i
    · subst e
      rw [sw_l, sw_o f (k := par k) (by omega) (by omega)]
      exact h.2 j h0 hj hp hk0
    · by_cases e1 : k = j
      · subst e1
        rw [sw_r, hp, sw_l]
        exact o.asym hlt
      · by_cases e2 : par k = i
        · rw [sw_o f e e1, e2, sw_l]
          exact hmin k hk0 hkn e2
        · rw [sw_o f e e1, sw_o f e2 hne]
          exact h.1 k hk0 hkn e e2
  · have hkl := par_lt hk0
    rw [sw_o f (by omega) (by omega), hp, sw_l]
    have := h.1 k hk0 hkn (by omega) (by omega)
    rw [hpk] at this
    exact this
theorem Down.both {f : Nat → T} {n i : Nat} (h : Down lt f n i) : Both lt f n i := ⟨fun k h0 hk _ hp => h.1 k h0 hk hp, h.2⟩
theorem down_step {f : Nat → T} {n i j : Nat} (o : Ord lt) (h : Down lt f n i) (h0 : 0 < j) (hj : j < n) (hp : par j = i) (hmin : ∀ k, 0 < k → k < n → par k = i → ¬ lt (f k) (f j)) (hlt : lt (f j) (f i)) : Down lt (sw f i j) n j := down_both o h.both h0 hj hp hmin hlt
theorem down_stop {f : Nat → T} {n i : Nat} (h : Down lt f n i) (hs : ∀ k, 0 < k → k < n → par k = i → ¬ lt (f k) (f i)) : Heap lt f n := by
  intro k h0 hk
  by_cases e : par k = i
  · rw [e]
    exact hs k h0 hk e
  · exact h.1 k h0 hk e
theorem both_stop {f : Nat → T} {n i : Nat} (h : Both lt f n i) (hs : ∀ k, 0 < k → k < n → par k = i → ¬ lt (f k) (f i)) : Up lt f n i := by
  refine ⟨fun k h0 hk hne => ?_, h.2⟩
  by_cases e : par k = i
  · rw [e]
    exact hs k h0 hk e
  · exact h.1 k h0 hk hne e
/-- The lesser of two kids. -/
theorem kids_min {f : Nat → T} {n i j : Nat} (o : Ord lt) (hj : (j = 2 * i + 1 ∧ (2 * i + 2 < n → ¬ lt (f (2 * i + 2)) (f (2 * i + 1)))) ∨ (j = 2 * i + 2 ∧ lt (f (2 * i + 2)) (f (2 * i + 1)))) (hirr : ∀ a : T, ¬ lt a a) : ∀ k, 0 < k → k < n → par k = i → ¬ lt (f k) (f j) := by
  intro k h0 hk hp
  rcases (par_kid h0).1 hp with e | e
  · subst e
    rcases hj with ⟨rfl, _⟩ | ⟨rfl, h⟩
    · exact hirr _
    · exact o.asym h
  · subst e
    rcases hj with ⟨rfl, h⟩ | ⟨rfl, _⟩
    · exact h hk
    · exact hirr _
theorem no_kids {f : Nat → T} {n i : Nat} (h : n ≤ 2 * i + 1) {P : Prop} : ∀ k, 0 < k → k < n → par k = i → P := by
  intro k h0 hk hp
  rcases (par_kid h0).1 hp with e | e <;> omega
/-- Nothing goes ahead of the first. -/
theorem heap_first {f : Nat → T} {n : Nat} (o : Ord lt) (hirr : ∀ a : T, ¬ lt a a) (h : Heap lt f n) : ∀ k, k < n → ¬ lt (f k) (f 0) := by
  intro k
  induction k using Nat.strongRecOn with
  | ind k ih =>
    intro hk
    by_cases h0 : k = 0
    · subst h0
      exact hirr _
    · have hp := par_lt (k := k) (by omega)
      exact o.thru (ih (par k) hp (by omega)) (h k (by omega) hk)
theorem heap_less {f : Nat → T} {n m : Nat} (h : Heap lt f n) (hm : m ≤ n) : Heap lt f m := fun k h0 hk => h k h0 (by omega)
/-- One more at the end. -/
theorem heap_push {f : Nat → T} {n : Nat} (h : Heap lt f n) : Up lt f (n + 1) n := by
  refine ⟨fun k h0 hk hne => h k h0 (by omega), fun k h0 hk hp _ => ?_⟩
  have := par_lt h0
  omega
/-- A heap that is begun from nothing: from the last kids up. -/
def From (lt : T → T → Prop) (f : Nat → T) (n i : Nat) : Prop := ∀ k, 0 < k → k < n → i ≤ par k → ¬ lt (f k) (f (par k))
theorem from_end {f : Nat → T} {n : Nat} : From lt f n (n / 2) := by
  intro k h0 hk hp
  unfold par at hp
  omega
theorem from_zero {f : Nat → T} {n : Nat} (h : From lt f n 0) : Heap lt f n := fun k h0 hk => h k h0 hk (Nat.zero_le _)
/-- Down, above what is a heap from i on: the place j that may be too high lies at i or below it. -/
def DownF (lt : T → T → Prop) (f : Nat → T) (n i j : Nat) : Prop := i ≤ j ∧ (∀ k, 0 < k → k < n → i ≤ par k → par k ≠ j → ¬ lt (f k) (f (par k))) ∧ (∀ k, 0 < k → k < n → par k = j → i < j → i ≤ par j → ¬ lt (f k) (f (par j)))
theorem downF_begin {f : Nat → T} {n i : Nat} (h : From lt f n (i + 1)) : DownF lt f n i i := ⟨Nat.le_refl _, fun k h0 hk hi hne => h k h0 hk (by omega), fun k h0 hk hp hi => by omega⟩
theorem downF_step {f : Nat → T} {n i q j : Nat} (o : Ord lt) (h : DownF lt f n i q) (h0 : 0 < j) (hj : j < n) (hp : par j = q) (hmin : ∀ k, 0 < k → k < n → par k = q → ¬ lt (f k) (f j)) (hlt : lt (f j) (f q)) : DownF lt (sw f q j) n i j := by
  have hjl := par_lt h0
  obtain ⟨ha, hb, hc⟩ := h
  refine ⟨by omega, fun k hk0 hkn hik hne => ?_, fun k hk0 hkn hpk hij hip => ?_⟩
  · have hkl := par_lt hk0
    by_cases e : k = q
    · subst e
      rw [sw_l, sw_o f (k := par k) (by omega) (by omega)]
      exact hc j h0 hj hp (by omega) hik
    · by_cases e1 : k = j
      · subst e1
        rw [sw_r, hp, sw_l]
        exact o.asym hlt
      · by_cases e2 : par k = q
        · rw [sw_o f e e1, e2, sw_l]
          exact hmin k hk0 hkn e2
        · rw [sw_o f e e1, sw_o f e2 hne]
          exact hb k hk0 hkn hik e2
  · have hkl := par_lt hk0
    rw [sw_o f (by omega) (by omega), hp, sw_l]
    have := hb k hk0 hkn (by omega) (by omega)
    rw [hpk] at this
    exact this
theorem downF_stop {f : Nat → T} {n i q : Nat} (h : DownF lt f n i q) (hs : ∀ k, 0 < k → k < n → par k = q → ¬ lt (f k) (f q)) : From lt f n i := by
  intro k h0 hk hi
  by_cases e : par k = q
  · rw [e]
    exact hs k h0 hk e
  · exact h.2.1 k h0 hk hi e
end
/-- Ticks: by when they are due, then by where. -/
abbrev Tick := Int × Int
def tl (a b : Tick) : Prop := a.2 < b.2 ∨ (a.2 = b.2 ∧ a.1 < b.1)
theorem tl_ord : Ord tl := ⟨fun h => by unfold tl at *; omega, fun h k => by unfold tl at *; omega⟩
theorem tl_irr (a : Tick) : ¬ tl a a := by unfold tl; omega
/-- Which ticks a heap has: those that stand at the first n places. -/
def Has (f : Nat → Tick) (n : Nat) (t : Tick) : Prop := ∃ k, k < n ∧ f k = t
/-- No two of one index. -/
def One (f : Nat → Tick) (n : Nat) : Prop := ∀ i j, i < n → j < n → (f i).1 = (f j).1 → i = j
theorem has_sw {f : Nat → Tick} {n i j : Nat} (hi : i < n) (hj : j < n) (t : Tick) : Has (sw f i j) n t ↔ Has f n t := by
  constructor
  · rintro ⟨k, hk, e⟩
    by_cases h1 : k = i
    · subst h1
      rw [sw_l] at e
      exact ⟨j, hj, e⟩
    · by_cases h2 : k = j
      · subst h2
        rw [sw_r] at e
        exact ⟨i, hi, e⟩
      · rw [sw_o f h1 h2] at e
        exact ⟨k, hk, e⟩
  · rintro ⟨k, hk, e⟩
    by_cases h1 : k = i
    · subst h1
      exact ⟨j, hj, by rw [sw_r]; exact e⟩
    · by_cases h2 : k = j
      · subst h2
        exact ⟨i, hi, by rw [sw_l]; exact e⟩
      · exact ⟨k, hk, by rw [sw_o f h1 h2]; exact e⟩
theorem one_sw {f : Nat → Tick} {n i j : Nat} (hi : i < n) (hj : j < n) (h : One f n) : One (sw f i j) n := by
  have inj : ∀ k, k < n → ∃ k', k' < n ∧ sw f i j k = f k' ∧ (k = i → k' = j) ∧ (k ≠ i → k = j → k' = i) ∧ (k ≠ i → k ≠ j → k' = k) := fun k hk => by
    by_cases h1 : k = i
    · subst h1
      exact ⟨j, hj, sw_l _ _ _, fun _ => rfl, fun q => absurd rfl q, fun q => absurd rfl q⟩
    · by_cases h2 : k = j
      · subst h2
        exact ⟨i, hi, sw_r _ _ _, fun q => absurd q h1, fun _ _ => rfl, fun _ q => absurd rfl q⟩
      · exact ⟨k, hk, sw_o f h1 h2, fun q => absurd q h1, fun _ q => absurd q h2, fun _ _ => rfl⟩
  intro a b ha hb e
  obtain ⟨a', ha', ea, a1, a2, a3⟩ := inj a ha
  obtain ⟨b', hb', eb, b1, b2, b3⟩ := inj b hb
  rw [ea, eb] at e
  have := h a' b' ha' hb' e
  by_cases h1 : a = i <;> by_cases h2 : b = i <;> by_cases h3 : a = j <;> by_cases h4 : b = j <;> simp_all <;> omega
end HeapP
end Go.Proofs.Ytlhanbjendbhfaa
