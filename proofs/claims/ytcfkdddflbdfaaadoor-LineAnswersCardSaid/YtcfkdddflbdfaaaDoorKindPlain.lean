/-
  Plain facts on the fifteen kinds of cells: no Go in sight. What the table of package kind holds, as functions of a number, and what follows of it by trying all numbers below 256.
-/
namespace Go.Proofs.YtcfkdddflbdfaaaDoor
namespace KindP

/-- The names, as bytes. -/
def names : List (List UInt8) := [[97, 105, 114], [98, 101, 100, 114, 111, 99, 107], [115, 116, 111, 110, 101], [115, 111, 105, 108], [115, 97, 110, 100], [103, 114, 97, 118, 101, 108], [119, 111, 111, 100],
  [108, 101, 97, 118, 101, 115], [97, 115, 104], [103, 108, 97, 115, 115], [109, 111, 118, 101, 114], [116, 111, 114, 99, 104], [112, 108, 97, 110, 116], [119, 97, 116, 101, 114], [102, 105, 114, 101]]
def leasts : List Nat := [0, 0, 0, 0, 0, 0, 0, 0, 0, 0, 0, 1, 0, 0, 0]
def mosts : List Nat := [0, 0, 0, 0, 0, 0, 0, 0, 0, 0, 0, 15, 3, 7, 1]
def traits : List Nat := [13, 0, 2, 2, 18, 18, 34, 34, 18, 3, 0, 13, 45, 5, 13]
def nm (k : Nat) : List UInt8 := names.getD k []
def least (k : Nat) : Nat := leasts.getD k 0
def most (k : Nat) : Nat := mosts.getD k 0
def trait (k : Nat) : Nat := traits.getD k 0
def inL (l : List Nat) (k : Nat) : Bool := l.contains k
def clear (k : Nat) : Bool := inL [0, 9, 11, 12, 13, 14] k
def movable (k : Nat) : Bool := inL [2, 3, 4, 5, 6, 7, 8, 9] k
def yields (k : Nat) : Bool := inL [0, 11, 12, 13, 14] k
def soaks (k : Nat) : Bool := inL [0, 11, 12, 14] k
def falls (k : Nat) : Bool := inL [4, 5, 8] k
def burns (k : Nat) : Bool := inL [6, 7, 12] k
def may (k l : Nat) : Bool := decide (k < 15) && decide (least k ≤ l) && decide (l ≤ most k)
def lamp (k l : Nat) : Nat := if may k l then (if k = 11 then l else if k = 14 then 10 else 0) else 0
/-- The first kind of this name; 15: there is none. -/
def find (s : List UInt8) : Nat := ((List.range 15).find? fun k => nm k == s).getD 15
def ofB (s : List UInt8) : Bool := decide (find s < 15)
def ofN (s : List UInt8) : Nat := if find s < 15 then find s else 0

theorem find_at {s : List UInt8} {k : Nat} (hk : k < 15) (h : nm k = s) (hb : ∀ i, i < k → nm i ≠ s) : find s = k := by
  have e : (List.range 15).find? (fun k => nm k == s) = some k := by
    rw [List.find?_eq_some_iff_getElem]
    refine ⟨by simpa using h, k, by simpa using hk, by simp, fun j hj => ?_⟩
    simpa using hb j hj
  simp [find, e]
theorem find_none {s : List UInt8} (h : ∀ i, i < 15 → nm i ≠ s) : find s = 15 := by
  have e : (List.range 15).find? (fun k => nm k == s) = none := by
    rw [List.find?_eq_none]
    intro i hi
    simpa using h i (by simpa using hi)
  simp [find, e]
theorem find_le (s : List UInt8) : find s < 15 → nm (find s) = s := by
  intro h
  unfold find at h ⊢
  cases e : (List.range 15).find? (fun k => nm k == s) with
  | none => simp [e] at h
  | some k => simpa using List.find?_some e
theorem of_at {s : List UInt8} {k : Nat} (hk : k < 15) (h : nm k = s) (hb : ∀ i, i < k → nm i ≠ s) : ofN s = k ∧ ofB s = true := by
  simp [ofN, ofB, find_at hk h hb, hk]
theorem of_none {s : List UInt8} (h : ∀ i, i < 15 → nm i ≠ s) : ofN s = 0 ∧ ofB s = false := by
  simp [ofN, ofB, find_none h]
theorem nm_ofN {s : List UInt8} (h : ofB s = true) : ofN s < 15 ∧ nm (ofN s) = s := by
  have h' : find s < 15 := by simpa [ofB] using h
  have : ofN s = find s := by simp [ofN, h']
  rw [this]
  exact ⟨h', find_le s h'⟩
theorem of_nm : ∀ k, k < 15 → ofN (nm k) = k ∧ ofB (nm k) = true := by decide
theorem nm_out {k : Nat} (h : 15 ≤ k) : nm k = [] := by
  have e : names[k]? = none := List.getElem?_eq_none (by simpa [names] using h)
  simp [nm, List.getD, e]
theorem of_nil : ofN [] = 0 ∧ ofB [] = false := by decide
theorem nm_ne_nil : ∀ k, k < 15 → nm k ≠ [] := by decide
end KindP
end Go.Proofs.YtcfkdddflbdfaaaDoor
