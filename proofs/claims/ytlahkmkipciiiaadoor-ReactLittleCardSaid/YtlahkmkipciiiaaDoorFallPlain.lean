/-
  Falling, and rows that are pushed, plainly: how many cells stand at a row's beginning; what Lands and Row answer; a column that comes down step by step.
-/
import Derived.Test.YtlahkmkipciiiaaDoorKindPlain
namespace Go.Proofs.YtlahkmkipciiiaaDoor
set_option linter.unusedVariables false
namespace FallP
abbrev Cl := Nat × Nat
/-- The kind that a cell counts as. -/
def kd (c : Cl) : Nat := if KindP.may c.1 c.2 then c.1 else 1
def falls (c : Cl) : Bool := KindP.falls (kd c)
def yields (c : Cl) : Bool := KindP.yields (kd c)
def movable (c : Cl) : Bool := KindP.movable (kd c)
/-- How many stand at the beginning of which p holds. -/
def lead (p : Cl → Bool) : List Cl → Nat
  | [] => 0
  | x :: r => if p x then lead p r + 1 else 0
theorem lead_le (p : Cl → Bool) : ∀ l, lead p l ≤ l.length
  | [] => Nat.le_refl _
  | x :: r => by
    have := lead_le p r
    simp only [lead, List.length_cons]
    split <;> omega
theorem lead_all (p : Cl → Bool) : ∀ (l : List Cl) (i : Nat) (x : Cl), i < lead p l → l[i]? = some x → p x = true
  | y :: r, i, x, h, hx => by
    simp only [lead] at h
    split at h
    · rename_i hp
      cases i with
      | zero =>
        obtain rfl : y = x := by simpa using hx
        exact hp
      | succ i => exact lead_all p r i x (by omega) (by simpa using hx)
    · omega
theorem lead_end (p : Cl → Bool) : ∀ (l : List Cl) (x : Cl), l[lead p l]? = some x → p x = false
  | y :: r, x, hx => by
    simp only [lead] at hx
    split at hx
    · exact lead_end p r x (by simpa using hx)
    · rename_i hp
      obtain rfl : y = x := by simpa using hx
      simpa using hp
/-- So many, if it holds of so many and not of the next, or there is none. -/
theorem lead_is {p : Cl → Bool} : ∀ {l : List Cl} {n : Nat}, n ≤ l.length → (∀ i x, i < n → l[i]? = some x → p x = true) → (∀ x, l[n]? = some x → p x = false) → lead p l = n
  | [], n, h, _, _ => by simp at h; simp [lead, h]
  | y :: r, 0, _, _, he => by simp [lead, he y (by simp)]
  | y :: r, n + 1, h, ha, he => by
    have hy : p y = true := ha 0 y (by omega) (by simp)
    have ih := lead_is (p := p) (l := r) (n := n) (by simpa using h) (fun i x hi hx => ha (i + 1) x (by omega) (by simpa using hx)) (fun x hx => he x (by simpa using hx))
    simp [lead, hy, ih]
/-- What stands behind does not count, where it ends within. -/
theorem lead_app (p : Cl → Bool) (m : List Cl) : ∀ l : List Cl, lead p l < l.length → lead p (l ++ m) = lead p l
  | x :: r, h => by
    simp only [List.cons_append, lead]
    split
    · rename_i hp
      simp only [lead, hp, if_true, List.length_cons] at h
      rw [lead_app p m r (by omega)]
    · rfl
theorem lead_le_app (p : Cl → Bool) (m : List Cl) (l : List Cl) : lead p l ≤ lead p (l ++ m) := by
  by_cases h : lead p l < l.length
  · rw [lead_app p m l h]
    exact Nat.le_refl _
  · have h1 := lead_le p l
    have e : lead p l = l.length := by omega
    rw [e]
    clear h h1
    induction l with
    | nil => simp
    | cons x r ih =>
      simp only [lead] at e
      split at e
      · rename_i hp
        have := ih (by simpa using e)
        simp only [List.cons_append, lead, hp, if_true, List.length_cons]
        omega
      · simp at e
/-- P13.2. -/
def lands : List Cl → Nat
  | [] => 0
  | x :: r => if falls x then lead yields r else 0
/-- P13.3: how many, and the error (0: none). -/
def row (l : List Cl) : Nat × Nat :=
  if lead movable l = 0 then (0, 5)
  else if 8 < lead movable l then (0, 12)
  else match l[lead movable l]? with
    | none => (0, 12)
    | some x => if yields x then (lead movable l, 0) else (0, 12)
/-- A column, its first cell come down by so many. -/
def down (l : List Cl) (n : Nat) : List Cl := List.replicate n (0, 0) ++ (l.take 1 ++ l.drop (n + 1))
theorem down_zero {l : List Cl} (h : l ≠ []) : down l 0 = l := by
  cases l with
  | nil => exact absurd rfl h
  | cons x r => simp [down]
theorem down_len {l : List Cl} {n : Nat} (h : n < l.length) : (down l n).length = l.length := by
  simp only [down, List.length_append, List.length_replicate, List.length_take, List.length_drop]
  omega
theorem down_step {l : List Cl} {n : Nat} {c : Cl} (h : n + 1 < l.length) (hc : l[0]? = some c) : ((down l n).set (n + 1) c).set n (0, 0) = down l (n + 1) := by
  apply List.ext_getElem?
  intro i
  have h1 : l.take 1 = [c] := by
    cases l with
    | nil => simp at h
    | cons x r =>
      obtain rfl : x = c := by simpa using hc
      simp
  simp only [down, h1, List.getElem?_set, List.length_append, List.length_set, List.length_replicate, List.length_drop, List.length_cons, List.length_nil, List.getElem?_append, List.getElem?_replicate, List.getElem?_drop]
  by_cases a1 : i = n
  · subst a1
    simp
  · by_cases a2 : i = n + 1
    · subst a2
      simp
      omega
    · by_cases a3 : i < n
      · simp [a3, show i < n + 1 by omega, show ¬ n = i by omega, show ¬ n + 1 = i by omega]
      · have e1 : ¬ i < n := a3
        have e2 : ¬ i < n + 1 := by omega
        have e3 : ¬ i - n < 1 := by omega
        have e4 : ¬ i - (n + 1) < 1 := by omega
        simp [e1, e2, show ¬ n = i by omega, show ¬ n + 1 = i by omega]
        have e5 : ¬ i - n = 0 := by omega
        have e6 : ¬ i - (n + 1) = 0 := by omega
        simp [e5, e6]
        congr 1
        omega
end FallP
end Go.Proofs.YtlahkmkipciiiaaDoor
