/-
  Plain mathematics of layer 7: ticks that are found, put in, taken out, and put in order.
-/
import Derived.Test.YtlhanbjendbhfaaSortPlain
import Derived.Test.YtlhanbjendbhfaaPackPlain
namespace Go.Proofs.Ytlhanbjendbhfaa
set_option linter.unusedVariables false
namespace ChunkW
open PackW (Tick)
def isIx (n : Int) : Bool := decide (0 ≤ n) && decide (n < 4096)
/-- The first place at which p holds. -/
def idx (p : Tick → Bool) : List Tick → Option Nat
  | [] => none
  | t :: r => if p t then some 0 else (idx p r).map (· + 1)
def atP (i : Int) (t : Tick) : Bool := decide (t.1 = i)
def overP (i : Int) (t : Tick) : Bool := decide (i < t.1)
def findT (l : List Tick) (i : Int) : Option Nat := if isIx i then idx (atP i) l else none
def behindT (l : List Tick) (i : Int) : Nat := (idx (overP i) l).getD l.length
def dueT (l : List Tick) (i : Int) : Int := match findT l i with
  | none => 0
  | some k => (l.getD k (0, 0)).2
def replT (l : List Tick) (a b : Nat) (m : List Tick) : List Tick := l.take a ++ m ++ l.drop b
def wakeT (l : List Tick) (i d : Int) : List Tick :=
  if isIx i = false ∨ d < 1 then l else match findT l i with
  | none => replT l (behindT l i) (behindT l i) [(i, d)]
  | some k => if d < (l.getD k (0, 0)).2 then replT l k (k + 1) [(i, d)] else l
def dropT (l : List Tick) (i : Int) : List Tick := match findT l i with
  | none => l
  | some k => replT l k (k + 1) []
def leT (a b : Tick) : Bool := decide (a.2 < b.2) || (decide (a.2 = b.2) && decide (a.1 ≤ b.1))
def readyT (l : List Tick) (now : Int) : List Tick := SortW.srt leT (l.filter fun t => decide (t.2 ≤ now))
def minT (m : Int) : List Tick → Int
  | [] => m
  | t :: r => minT (if t.2 < m then t.2 else m) r
def leastT : List Tick → Int
  | [] => 0
  | t :: r => minT t.2 r
theorem ordT : SortW.Ord leT := ⟨fun x y => by simp only [leT, Bool.or_eq_true, Bool.and_eq_true, decide_eq_true_eq]; omega, fun x y z h1 h2 => by simp only [leT, Bool.or_eq_true, Bool.and_eq_true, decide_eq_true_eq] at *; omega⟩

theorem idx_some {p : Tick → Bool} : ∀ {l : List Tick} {k : Nat}, idx p l = some k → k < l.length ∧ (∃ t, l[k]? = some t ∧ p t = true) ∧ ∀ j, j < k → ∀ t, l[j]? = some t → p t = false
  | [], k, h => by simp [idx] at h
  | t :: r, k, h => by
    rw [idx] at h
    split at h
    · injection h with h
      subst h
      exact ⟨by simp, ⟨t, rfl, by assumption⟩, fun j hj => absurd hj (by omega)⟩
    · rename_i hp
      simp only [Option.map_eq_some_iff] at h
      obtain ⟨k', h1, rfl⟩ := h
      obtain ⟨a1, ⟨t', a2, a3⟩, a4⟩ := idx_some h1
      refine ⟨by simpa using a1, ⟨t', by simpa using a2, a3⟩, fun j hj t2 ht2 => ?_⟩
      cases j with
      | zero =>
        have : t = t2 := by simpa using ht2
        subst this
        simpa using hp
      | succ j => exact a4 j (by omega) t2 (by simpa using ht2)
theorem idx_none {p : Tick → Bool} : ∀ {l : List Tick}, idx p l = none → ∀ t ∈ l, p t = false
  | [], _, t, ht => by simp at ht
  | x :: r, h, t, ht => by
    rw [idx] at h
    split at h
    · cases h
    · rename_i hp
      simp only [Option.map_eq_none_iff] at h
      rcases List.mem_cons.1 ht with rfl | ht
      · simpa using hp
      · exact idx_none h t ht
theorem idx_at {p : Tick → Bool} : ∀ {l : List Tick} {k : Nat} {t : Tick}, l[k]? = some t → p t = true → (∀ j, j < k → ∀ t, l[j]? = some t → p t = false) → idx p l = some k
  | [], k, t, h, _, _ => by simp at h
  | x :: r, 0, t, h, hp, _ => by
    have : x = t := by simpa using h
    subst this
    rw [idx, if_pos hp]
  | x :: r, k + 1, t, h, hp, h2 => by
    have h0 := h2 0 (by omega) x rfl
    rw [idx, if_neg (by simp [h0]), idx_at (by simpa using h) hp (fun j hj t ht => h2 (j + 1) (by omega) t (by simpa using ht))]
    rfl
theorem idx_no {p : Tick → Bool} : ∀ {l : List Tick}, (∀ t ∈ l, p t = false) → idx p l = none
  | [], _ => rfl
  | x :: r, h => by
    rw [idx, if_neg (by simp [h x (by simp)]), idx_no (fun t ht => h t (by simp [ht]))]
    rfl
theorem behind_le (l : List Tick) (i : Int) : behindT l i ≤ l.length := by
  unfold behindT
  cases h : idx (overP i) l with
  | none => simp
  | some k => have := (idx_some h).1; simp; omega
theorem find_lt {l : List Tick} {i : Int} {k : Nat} (h : findT l i = some k) : k < l.length ∧ isIx i = true := by
  unfold findT at h
  split at h
  · exact ⟨(idx_some h).1, by assumption⟩
  · cases h
theorem find_at {l : List Tick} {i : Int} {k : Nat} (h : findT l i = some k) : l[k]? = some (i, (l.getD k (0, 0)).2) := by
  unfold findT at h
  split at h
  · obtain ⟨h1, ⟨t, h2, h3⟩, _⟩ := idx_some h
    rw [List.getD_eq_getElem?_getD, h2]
    simp only [atP, decide_eq_true_eq] at h3
    obtain ⟨a, b⟩ := t
    simp only at h3
    subst h3
    rfl
  · cases h
theorem replT_len {l m : List Tick} {a b : Nat} (hab : a ≤ b) (hb : b ≤ l.length) : (replT l a b m).length = l.length - (b - a) + m.length := by
  simp [replT]
  omega
theorem wake_len (l : List Tick) (i d : Int) : (wakeT l i d).length ≤ l.length + 1 := by
  unfold wakeT
  split
  · omega
  · cases h : findT l i with
    | none => simp only; rw [replT_len (by omega) (behind_le _ _)]; simp
    | some k =>
      simp only
      split
      · rw [replT_len (by omega) (by have := (find_lt h).1; omega)]; simp
      · omega
theorem drop_len (l : List Tick) (i : Int) : (dropT l i).length ≤ l.length := by
  unfold dropT
  cases h : findT l i with
  | none => simp
  | some k => simp only; rw [replT_len (by omega) (by have := (find_lt h).1; omega)]; simp

/-! ### Ticks that rise -/
/-- All At are indices from n on, and rise. -/
def up (n : Int) : List Tick → Prop
  | [] => True
  | t :: r => n ≤ t.1 ∧ t.1 < 4096 ∧ 1 ≤ t.2 ∧ up (t.1 + 1) r
theorem up_mono : ∀ {l : List Tick} {m n : Int}, m ≤ n → up n l → up m l
  | [], _, _, _, _ => trivial
  | t :: r, m, n, h, h2 => ⟨by have := h2.1; omega, h2.2⟩
theorem up_mem : ∀ {l : List Tick} {n : Int}, up n l → ∀ t ∈ l, n ≤ t.1 ∧ t.1 < 4096 ∧ 1 ≤ t.2
  | [], _, _, t, ht => by simp at ht
  | x :: r, n, h, t, ht => by
    obtain ⟨h1, h2, h3, h4⟩ := h
    rcases List.mem_cons.1 ht with rfl | ht
    · exact ⟨h1, h2, h3⟩
    · have := up_mem h4 t ht
      omega
/-- What is due at each index, of ticks that rise. -/
def dueL (i : Int) : List Tick → Int
  | [] => 0
  | t :: r => if t.1 = i then t.2 else dueL i r
theorem dueL_no {i : Int} : ∀ {l : List Tick}, (∀ t ∈ l, t.1 ≠ i) → dueL i l = 0
  | [], _ => rfl
  | t :: r, h => by rw [dueL, if_neg (h t (by simp)), dueL_no (fun t ht => h t (by simp [ht]))]
theorem dueT_is {l : List Tick} {i : Int} (hi : isIx i = true) : dueT l i = dueL i l := by
  unfold dueT findT
  rw [if_pos hi]
  induction l with
  | nil => rfl
  | cons t r ih =>
    rw [idx, dueL]
    by_cases h : t.1 = i
    · rw [if_pos (by simp [atP, h]), if_pos h]
      rfl
    · rw [if_neg (by simp [atP, h]), if_neg h, ← ih]
      cases idx (atP i) r <;> simp
/-- The list with the tick (i, d) put in, where it rises. -/
def putL (i d : Int) : List Tick → List Tick
  | [] => [(i, d)]
  | t :: r => if t.1 = i then (if d < t.2 then (i, d) :: r else t :: r) else if i < t.1 then (i, d) :: t :: r else t :: putL i d r
def delL (i : Int) : List Tick → List Tick
  | [] => []
  | t :: r => if t.1 = i then r else t :: delL i r
theorem repl_cons (t : Tick) (r m : List Tick) (a b : Nat) : replT (t :: r) (a + 1) (b + 1) m = t :: replT r a b m := by simp [replT]
theorem up_find {l : List Tick} {n i : Int} (h : up n l) (hi : i < n) : idx (atP i) l = none := idx_no fun t ht => by
  have := (up_mem h t ht).1
  simp only [atP, decide_eq_false_iff_not]
  omega
theorem del_is {i : Int} (hi : isIx i = true) : ∀ l : List Tick, dropT l i = delL i l
  | [] => by simp [dropT, findT, idx, delL]
  | t :: r => by
    have ih := del_is hi r
    unfold dropT findT at ih ⊢
    rw [if_pos hi] at ih ⊢
    rw [idx, delL]
    by_cases h : t.1 = i
    · rw [if_pos (by simp [atP, h]), if_pos h]
      simp [replT]
    · rw [if_neg (by simp [atP, h]), if_neg h, ← ih]
      cases idx (atP i) r with
      | none => rfl
      | some k => simp [repl_cons]
theorem put_is {i d : Int} (hi : isIx i = true) (hd : 1 ≤ d) : ∀ {l : List Tick} {n : Int}, up n l → wakeT l i d = putL i d l
  | [], n, _ => by
    unfold wakeT findT
    rw [if_neg (by simp [hi]; omega), if_pos hi]
    simp [idx, replT, putL, behindT]
  | t :: r, n, hu => by
    have ih := put_is hi hd hu.2.2.2
    unfold wakeT findT at ih ⊢
    rw [if_neg (by simp [hi]; omega), if_pos hi] at ih ⊢
    rw [idx, putL]
    by_cases h : t.1 = i
    · rw [if_pos (by simp [atP, h]), if_pos h]
      simp [replT]
    · rw [if_neg (by simp [atP, h]), if_neg h]
      by_cases h2 : i < t.1
      · rw [if_pos h2, up_find hu.2.2.2 (by omega)]
        simp [behindT, idx, overP, h2, replT]
      · rw [if_neg h2, ← ih]
        cases hk : idx (atP i) r with
        | none =>
          have hb : behindT (t :: r) i = behindT r i + 1 := by
            unfold behindT
            rw [idx, if_neg (by simp [overP]; omega)]
            cases idx (overP i) r <;> simp
          simp [hb, repl_cons]
        | some k =>
          simp only [Option.map_some, List.getD_cons_succ, repl_cons]
          split <;> rfl
theorem up_put {i d : Int} (hd : 1 ≤ d) (hi : i < 4096) : ∀ {l : List Tick} {n : Int}, n ≤ i → up n l → up n (putL i d l)
  | [], n, h, _ => ⟨h, hi, hd, trivial⟩
  | t :: r, n, h, hu => by
    obtain ⟨h1, h2, h3, h4⟩ := hu
    rw [putL]
    split
    · rename_i e
      split
      · exact ⟨by omega, by omega, hd, by rw [← e]; exact h4⟩
      · exact ⟨h1, h2, h3, h4⟩
    · split
      · exact ⟨h, hi, hd, by omega, h2, h3, h4⟩
      · exact ⟨h1, h2, h3, up_put hd hi (by omega) h4⟩
theorem up_del {i : Int} : ∀ {l : List Tick} {n : Int}, up n l → up n (delL i l)
  | [], n, _ => trivial
  | t :: r, n, hu => by
    obtain ⟨h1, h2, h3, h4⟩ := hu
    rw [delL]
    split
    · exact up_mono (by omega) h4
    · exact ⟨h1, h2, h3, up_del h4⟩
theorem due_up {i : Int} {l : List Tick} {n : Int} (hu : up n l) (hi : i < n) : dueL i l = 0 := dueL_no fun t ht => by
  have := (up_mem hu t ht).1
  omega
theorem due_pos {i : Int} : ∀ {l : List Tick} {n : Int}, up n l → 0 ≤ dueL i l
  | [], _, _ => by simp [dueL]
  | t :: r, n, hu => by
    rw [dueL]
    split
    · have := hu.2.2.1; omega
    · exact due_pos hu.2.2.2
theorem due_put {i d j : Int} (hd : 1 ≤ d) : ∀ {l : List Tick} {n : Int}, up n l → dueL j (putL i d l) = if j = i then (if dueL i l = 0 ∨ d < dueL i l then d else dueL i l) else dueL j l
  | [], n, _ => by
    simp only [putL, dueL]
    by_cases h : i = j
    · rw [if_pos h, if_pos h.symm, if_pos (by simp)]
    · rw [if_neg h, if_neg (fun e => h e.symm)]
  | t :: r, n, hu => by
    obtain ⟨h1, h2, h3, h4⟩ := hu
    have ih := due_put (i := i) (d := d) (j := j) hd h4
    have hup : i < t.1 + 1 → dueL i r = 0 := due_up h4
    by_cases e : t.1 = i
    · by_cases hlt : d < t.2
      · rw [putL, if_pos e, if_pos hlt]
        by_cases hji : i = j
        · subst hji
          simp only [dueL, e, if_true]
          rw [if_pos (.inr hlt)]
        · simp only [dueL, e, if_neg hji, if_neg (show ¬ j = i from fun q => hji q.symm)]
      · rw [putL, if_pos e, if_neg hlt]
        by_cases hji : i = j
        · subst hji
          simp only [dueL, e, if_true]
          rw [if_neg (by omega)]
        · rw [if_neg (show ¬ j = i from fun q => hji q.symm)]
    · by_cases hlt : i < t.1
      · rw [putL, if_neg e, if_pos hlt]
        by_cases hji : i = j
        · subst hji
          have := hup (by omega)
          simp only [dueL, if_true, if_neg e, this, true_or]
        · simp only [dueL, if_neg hji, if_neg (show ¬ j = i from fun q => hji q.symm)]
      · rw [putL, if_neg e, if_neg hlt, dueL, ih]
        by_cases hji : i = j
        · subst hji
          simp only [dueL, if_true, if_neg e]
        · simp only [dueL, if_neg (show ¬ j = i from fun q => hji q.symm)]
theorem due_del {i j : Int} : ∀ {l : List Tick} {n : Int}, up n l → dueL j (delL i l) = if j = i then 0 else dueL j l
  | [], n, _ => by simp [delL, dueL]
  | t :: r, n, hu => by
    obtain ⟨h1, h2, h3, h4⟩ := hu
    have ih := due_del (i := i) (j := j) h4
    rw [delL]
    by_cases e : t.1 = i
    · rw [if_pos e]
      by_cases hji : j = i
      · rw [if_pos hji, hji, due_up h4 (by omega)]
      · rw [if_neg hji, dueL, if_neg (by omega)]
    · rw [if_neg e, dueL, ih, dueL]
      by_cases hjt : t.1 = j
      · rw [if_pos hjt, if_pos hjt, if_neg (by omega)]
      · rw [if_neg hjt, if_neg hjt]
theorem min_le : ∀ (l : List Tick) (m : Int), minT m l ≤ m ∧ (∀ t ∈ l, minT m l ≤ t.2) ∧ (minT m l = m ∨ ∃ t ∈ l, minT m l = t.2)
  | [], m => by simp [minT]
  | t :: r, m => by
    obtain ⟨a1, a2, a3⟩ := min_le r (if t.2 < m then t.2 else m)
    rw [minT]
    refine ⟨by split at a1 <;> split <;> omega, fun x hx => ?_, ?_⟩
    · rcases List.mem_cons.1 hx with rfl | hx
      · split at a1 <;> split <;> omega
      · exact a2 x hx
    · rcases a3 with a3 | ⟨x, hx, a3⟩
      · by_cases h : t.2 < m
        · rw [if_pos h] at a3 ⊢
          exact .inr ⟨t, by simp, a3⟩
        · rw [if_neg h] at a3 ⊢
          exact .inl a3
      · exact .inr ⟨x, by simp [hx], a3⟩
theorem least_is {t : Tick} {r : List Tick} : (∀ x ∈ t :: r, leastT (t :: r) ≤ x.2) ∧ ∃ x ∈ t :: r, leastT (t :: r) = x.2 := by
  obtain ⟨a1, a2, a3⟩ := min_le r t.2
  refine ⟨fun x hx => ?_, ?_⟩
  · rcases List.mem_cons.1 hx with rfl | hx
    · exact a1
    · exact a2 x hx
  · rcases a3 with a3 | ⟨x, hx, a3⟩
    · exact ⟨t, by simp, a3⟩
    · exact ⟨x, by simp [hx], a3⟩
theorem up_nodup : ∀ {l : List Tick} {n : Int}, up n l → l.Pairwise (fun a b => a.1 < b.1)
  | [], _, _ => List.Pairwise.nil
  | t :: r, n, h => List.pairwise_cons.2 ⟨fun x hx => by have := (up_mem h.2.2.2 x hx).1; omega, up_nodup h.2.2.2⟩
theorem ready_mem {l : List Tick} {now : Int} {t : Tick} : t ∈ readyT l now ↔ t ∈ l ∧ t.2 ≤ now := by
  unfold readyT
  rw [(SortW.srt_perm _).mem_iff, List.mem_filter]
  simp
theorem ready_rises {l : List Tick} {now n : Int} (h : up n l) : (readyT l now).Pairwise (fun a b => a.2 < b.2 ∨ a.2 = b.2 ∧ a.1 < b.1) := by
  have h1 := SortW.srt_sorted ordT (l.filter fun t => decide (t.2 ≤ now))
  have h2 : (readyT l now).Pairwise (fun a b => a.1 ≠ b.1) := by
    unfold readyT
    rw [(SortW.srt_perm (le := leT) _).pairwise_iff (fun h e => h e.symm)]
    exact ((up_nodup h).filter _).imp (fun h => by omega)
  refine (h1.and h2).imp ?_
  intro a b ⟨p, q⟩
  simp only [leT, Bool.or_eq_true, Bool.and_eq_true, decide_eq_true_eq] at p
  omega
theorem ready_first {l : List Tick} {now : Int} {t : Tick} {r : List Tick} (h : readyT l now = t :: r) : t.2 = leastT l := by
  have h1 : t ∈ readyT l now := by rw [h]; simp
  obtain ⟨h2, h3⟩ := ready_mem.1 h1
  cases l with
  | nil => simp at h2
  | cons x l =>
    obtain ⟨a1, y, hy, a2⟩ := least_is (t := x) (r := l)
    have b1 := a1 t h2
    have hyr : y ∈ readyT (x :: l) now := ready_mem.2 ⟨hy, by omega⟩
    have hs := SortW.srt_sorted ordT ((x :: l).filter fun t => decide (t.2 ≤ now))
    have hs : (readyT (x :: l) now).Pairwise (fun a b => leT a b = true) := hs
    rw [h] at hs hyr
    rcases List.mem_cons.1 hyr with rfl | hyr
    · exact a2.symm
    · have := (List.pairwise_cons.1 hs).1 y hyr
      simp only [leT, Bool.or_eq_true, Bool.and_eq_true, decide_eq_true_eq] at this
      omega
end ChunkW
end Go.Proofs.Ytlhanbjendbhfaa
