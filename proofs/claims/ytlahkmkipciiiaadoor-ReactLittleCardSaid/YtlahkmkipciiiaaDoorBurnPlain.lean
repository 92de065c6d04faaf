/-
  Fire and plants, plainly: what a cell counts as; what stands beside; the deeds; what follows of them.
-/
import Derived.Test.YtlahkmkipciiiaaDoorNearMem
namespace Go.Proofs.YtlahkmkipciiiaaDoor
set_option linter.unusedVariables false
namespace BurnP
open NearW
/-- The kind that a cell counts as, and the cell. -/
def kd (c : Cl) : Nat := if KindP.may c.1 c.2 then c.1 else 1
def sure (c : Cl) : Cl := if KindP.may c.1 c.2 then c else (1, 0)
theorem sure_kd (c : Cl) : (sure c).1 = kd c := by
  unfold sure kd
  split <;> rfl
/-- What is near, as it counts. -/
def snd (n : Nr) : Nr := {n with s := sure n.s, sd := fun i => sure (n.sd i)}
theorem may_of {c : Cl} (h : kd c ≠ 1) : KindP.may c.1 c.2 = true := by
  unfold kd at h
  split at h
  · assumption
  · exact absurd rfl h
theorem kd_of {c : Cl} (h : kd c ≠ 1) : c.1 = kd c := by
  unfold kd
  rw [if_pos (may_of h)]
theorem sure_of {c : Cl} (h : kd c ≠ 1) : sure c = c := by
  unfold sure
  rw [if_pos (may_of h)]
/-- Does it hold of one of the first so many sides? -/
def anyTo (p : Cl → Bool) (f : Nat → Cl) : Nat → Bool
  | 0 => false
  | j + 1 => anyTo p f j || p (f j)
theorem any_no {p : Cl → Bool} {f : Nat → Cl} : ∀ {j : Nat}, (∀ i, i < j → p (f i) = false) → anyTo p f j = false
  | 0, _ => rfl
  | j + 1, h => by
    simp only [anyTo]
    rw [any_no (fun i hi => h i (by omega)), h j (by omega)]
    rfl
theorem any_yes {p : Cl → Bool} {f : Nat → Cl} : ∀ {j i : Nat}, i < j → p (f i) = true → anyTo p f j = true
  | j + 1, i, hi, h => by
    simp only [anyTo]
    by_cases e : i = j
    · subst e
      rw [h, Bool.or_true]
    · rw [any_yes (i := i) (by omega) h, Bool.true_or]
theorem any_is {p : Cl → Bool} {f : Nat → Cl} : ∀ {j : Nat}, anyTo p f j = true → ∃ i, i < j ∧ p (f i) = true
  | j + 1, h => by
    simp only [anyTo, Bool.or_eq_true] at h
    rcases h with h | h
    · obtain ⟨i, hi, hp⟩ := any_is h
      exact ⟨i, by omega, hp⟩
    · exact ⟨j, by omega, h⟩
theorem any_not {p : Cl → Bool} {f : Nat → Cl} {j i : Nat} (h : anyTo p f j = false) (hi : i < j) : p (f i) = false := by
  cases e : p (f i) with
  | false => rfl
  | true => rw [any_yes hi e] at h; cases h
theorem any_eq {p q : Cl → Bool} {f g : Nat → Cl} : ∀ {j : Nat}, (∀ i, i < j → p (f i) = q (g i)) → anyTo p f j = anyTo q g j
  | 0, _ => rfl
  | j + 1, h => by
    simp only [anyTo]
    rw [any_eq (fun i hi => h i (by omega)), h j (by omega)]
/-- A deed: the changes, when again, how many more are movable. -/
structure Dd where
  l : List (Nat × Cl)
  ag : Int
  dl : Int
def mv (k : Nat) : Int := if KindP.movable k then 1 else 0
def isWater (c : Cl) : Bool := kd c == 13
def isFuel (c : Cl) : Bool := KindP.burns (kd c)
def flame (k : Nat) : Cl := if k = 6 then (14, 1) else (14, 0)
def left (l : Nat) : Cl := if l = 1 then (8, 0) else (0, 0)
def wet (n : Nr) : Bool := anyTo isWater n.sd 6
def fuel (n : Nr) : Bool := anyTo isFuel n.sd 6
def burn1 (n : Nr) (d : Nat) : Dd := ⟨[(d % 6 + 1, flame (kd (n.sd (d % 6))))], 3, - mv (kd (n.sd (d % 6)))⟩
def over1 (n : Nr) : Dd := ⟨[(0, left n.s.2)], 0, mv (left n.s.2).1⟩
/-- P14.1: the draw is d. -/
def fire (n : Nr) (d : Nat) : Dd :=
  if kd n.s = 14 then
    if wet n = true then over1 n
    else if isFuel (n.sd (d % 6)) = true then burn1 n d
    else if fuel n = true ∧ d / 6 % 4 ≠ 0 then ⟨[], 3, 0⟩
    else over1 n
  else ⟨[], 0, 0⟩
/-- P14.2. -/
def plant (n : Nr) (d : Nat) : Dd :=
  if kd n.s = 12 then
    if kd (n.sd 5) = 3 then
      if n.lt < 9 ∨ d % 4 ≠ 0 then ⟨[], 5, 0⟩
      else if n.s.2 < 3 then ⟨[(0, (12, n.s.2 + 1))], 0, 0⟩
      else ⟨[(0, (7, 0))], 0, 1⟩
    else ⟨[(0, (0, 0))], 0, 0⟩
  else ⟨[], 0, 0⟩
theorem may14 {l : Nat} : KindP.may 14 l = true → l ≤ 1 := by
  intro h
  simp [KindP.may, KindP.most, KindP.mosts] at h
  omega
theorem may12 {l : Nat} : KindP.may 12 l = true → l ≤ 3 := by
  intro h
  simp [KindP.may, KindP.most, KindP.mosts] at h
  omega
theorem kd_lev14 {c : Cl} (h : kd c = 14) : c.1 = 14 ∧ c.2 ≤ 1 := by
  have h1 := kd_of (c := c) (by omega)
  have h2 := may_of (c := c) (by omega)
  rw [h] at h1
  rw [h1] at h2
  exact ⟨h1, may14 h2⟩
theorem kd_lev12 {c : Cl} (h : kd c = 12) : c.1 = 12 ∧ c.2 ≤ 3 := by
  have h1 := kd_of (c := c) (by omega)
  have h2 := may_of (c := c) (by omega)
  rw [h] at h1
  rw [h1] at h2
  exact ⟨h1, may12 h2⟩
theorem burns_in {k : Nat} (h : KindP.burns k = true) : k = 6 ∨ k = 7 ∨ k = 12 := by
  simpa [KindP.burns, KindP.inL] using h
theorem burns_mv {k : Nat} (h : KindP.burns k = true) : mv k = if k = 12 then 0 else 1 := by
  rcases burns_in h with rfl | rfl | rfl <;> decide
theorem mv_flame (k : Nat) : mv (flame k).1 = 0 := by
  unfold flame
  split <;> decide
theorem mv_14 : mv 14 = 0 := by decide
theorem mv_12 : mv 12 = 0 := by decide
theorem mv_le (k : Nat) : 0 ≤ mv k ∧ mv k ≤ 1 := by
  unfold mv
  split <;> omega
/-- Which cell a change turns. -/
def was (n : Nr) (d : Nat) : Cl := if 1 ≤ d ∧ d ≤ 6 then n.sd (d - 1) else n.s
/-- By how many more cells are movable behind the changes. -/
def more (n : Nr) : List (Nat × Cl) → Int
  | [] => 0
  | x :: r => more n r + (mv x.2.1 - mv (was n x.1).1)
theorem isFuel_raw {c : Cl} (h : isFuel c = true) : kd c = c.1 ∧ KindP.may c.1 c.2 = true ∧ KindP.burns c.1 = true := by
  have h0 : kd c ≠ 1 := by
    intro q
    unfold isFuel at h
    rw [q] at h
    cases h
  exact ⟨(kd_of h0).symm, may_of h0, by rw [kd_of h0]; exact h⟩
/-- P14.3: what fire says of movable cells is so. -/
theorem fire_more (n : Nr) (d : Nat) : more n (fire n d).l = (fire n d).dl := by
  have ho : kd n.s = 14 → more n (over1 n).l = (over1 n).dl := fun h => by
    have h1 := (kd_lev14 h).1
    simp only [over1, more, was, show ¬ (1 ≤ 0 ∧ 0 ≤ 6) by omega, if_false, h1, mv_14]
    omega
  unfold fire
  split
  · rename_i h0
    split
    · exact ho h0
    · split
      · rename_i hf
        obtain ⟨e, _, _⟩ := isFuel_raw hf
        have hd : d % 6 < 6 := Nat.mod_lt _ (by omega)
        simp only [burn1, more, was, show 1 ≤ d % 6 + 1 ∧ d % 6 + 1 ≤ 6 by omega, and_self, if_true, mv_flame, Nat.add_sub_cancel, e]
        omega
      · split
        · rfl
        · exact ho h0
  · rfl
theorem plant_more (n : Nr) (d : Nat) : more n (plant n d).l = (plant n d).dl := by
  unfold plant
  split
  · rename_i h0
    have h1 := (kd_lev12 h0).1
    split
    · split
      · rfl
      · split
        · simp only [more, was, show ¬ (1 ≤ 0 ∧ 0 ≤ 6) by omega, if_false, h1, mv_12]
          omega
        · simp only [more, was, show ¬ (1 ≤ 0 ∧ 0 ≤ 6) by omega, if_false, h1, mv_12]
          decide
    · simp only [more, was, show ¬ (1 ≤ 0 ∧ 0 ≤ 6) by omega, if_false, h1, mv_12]
      decide
  · rfl
theorem fire_len (n : Nr) (d : Nat) : (fire n d).l.length ≤ 1 := by
  unfold fire over1 burn1
  repeat' (first | split | (simp; done))
theorem plant_len (n : Nr) (d : Nat) : (plant n d).l.length ≤ 1 := by
  unfold plant
  repeat' (first | split | (simp; done))
/-- One change of fire, as it may be. -/
def fireOk (n : Nr) (x : Nat × Cl) : Prop := x.1 ≤ 6 ∧ KindP.may x.2.1 x.2.2 = true ∧ n.s.1 = 14 ∧ ((x.1 = 0 ∧ (x.2.1 = 0 ∨ x.2.1 = 8)) ∨ (1 ≤ x.1 ∧ x.2.1 = 14 ∧ KindP.burns (n.sd (x.1 - 1)).1 = true))
theorem over_ok {n : Nr} (h : kd n.s = 14) (x : Nat × Cl) (hx : x ∈ (over1 n).l) : fireOk n x := by
  simp only [over1, List.mem_cons, List.not_mem_nil, or_false] at hx
  subst hx
  refine ⟨by simp, ?_, (kd_lev14 h).1, .inl ⟨rfl, ?_⟩⟩
  · simp only [left]
    split <;> decide
  · simp only [left]
    split <;> simp
theorem fire_ok (n : Nr) (d : Nat) (x : Nat × Cl) (hx : x ∈ (fire n d).l) : fireOk n x := by
  unfold fire at hx
  split at hx
  · rename_i h0
    split at hx
    · exact over_ok h0 x hx
    · split at hx
      · rename_i hf
        have hd : d % 6 < 6 := Nat.mod_lt _ (by omega)
        simp only [burn1, List.mem_cons, List.not_mem_nil, or_false] at hx
        subst hx
        refine ⟨by simp; omega, ?_, (kd_lev14 h0).1, .inr ⟨by simp, ?_, ?_⟩⟩
        · simp only [flame]
          split <;> decide
        · simp only [flame]
          split <;> rfl
        · simp only [Nat.add_sub_cancel]
          exact (isFuel_raw hf).2.2
      · split at hx
        · cases hx
        · exact over_ok h0 x hx
  · cases hx
def plantOk (n : Nr) (x : Nat × Cl) : Prop := x.1 = 0 ∧ KindP.may x.2.1 x.2.2 = true ∧ n.s.1 = 12 ∧ x.2 ≠ n.s
theorem plant_ok (n : Nr) (d : Nat) (x : Nat × Cl) (hx : x ∈ (plant n d).l) : plantOk n x := by
  unfold plant at hx
  split at hx
  · rename_i h0
    have h1 := (kd_lev12 h0).1
    split at hx
    · split at hx
      · cases hx
      · split at hx
        · rename_i hl
          simp only [List.mem_cons, List.not_mem_nil, or_false] at hx
          subst hx
          refine ⟨rfl, ?_, h1, fun q => ?_⟩
          · have : ∀ l, l < 3 → KindP.may 12 (l + 1) = true := by decide
            exact this _ hl
          · have := congrArg Prod.snd q
            simp at this
        · simp only [List.mem_cons, List.not_mem_nil, or_false] at hx
          subst hx
          refine ⟨rfl, by decide, h1, fun q => ?_⟩
          have := congrArg Prod.fst q
          simp only [h1] at this
          omega
    · simp only [List.mem_cons, List.not_mem_nil, or_false] at hx
      subst hx
      refine ⟨rfl, by decide, h1, fun q => ?_⟩
      have := congrArg Prod.fst q
      simp only [h1] at this
      omega
  · cases hx
end BurnP
end Go.Proofs.YtlahkmkipciiiaaDoor
