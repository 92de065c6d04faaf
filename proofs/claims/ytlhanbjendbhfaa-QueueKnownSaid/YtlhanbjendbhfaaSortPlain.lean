/-
  Plain mathematics: rows that are put in order (of equals the earlier one first), by merging.
-/
import Derived.Test.YtlhanbjendbhfaaKindPlain
namespace Go.Proofs.Ytlhanbjendbhfaa
set_option linter.unusedVariables false
namespace SortW
variable {α : Type} (le : α → α → Bool)
/-- Insert ahead of the first one that is not less. -/
def ins (x : α) : List α → List α
  | [] => [x]
  | y :: r => if le x y then x :: y :: r else y :: ins x r
def srt : List α → List α
  | [] => []
  | x :: r => ins le x (srt r)
/-- Two rows merged; of equals the left one's go first. -/
def mrg : List α → List α → List α
  | [], b => b
  | x :: a, [] => x :: a
  | x :: a, y :: b => if le x y then x :: mrg a (y :: b) else y :: mrg (x :: a) b
termination_by a b => a.length + b.length
variable {le}
theorem mrg_nil_left (b : List α) : mrg le [] b = b := by rw [mrg]
theorem mrg_nil_right (a : List α) : mrg le a [] = a := by cases a <;> rw [mrg]
theorem mrg_yes {x y : α} {a b : List α} (h : le x y = true) : mrg le (x :: a) (y :: b) = x :: mrg le a (y :: b) := by rw [mrg, if_pos h]
theorem mrg_no {x y : α} {a b : List α} (h : le x y = false) : mrg le (x :: a) (y :: b) = y :: mrg le (x :: a) b := by rw [mrg, if_neg (by simp [h])]
theorem mrg_one (x : α) : ∀ T : List α, mrg le [x] T = ins le x T
  | [] => by rw [mrg_nil_right]; rfl
  | y :: T => by
    rw [ins]
    cases h : le x y
    · rw [mrg_no h, mrg_one x T]; simp
    · rw [mrg_yes h, mrg_nil_left]; simp
/-- le is an order in which any two can be told. -/
structure Ord (le : α → α → Bool) : Prop where
  total : ∀ x y, le x y = true ∨ le y x = true
  trans : ∀ x y z, le x y = true → le y z = true → le x z = true
theorem mrg_ins (O : Ord le) (x : α) : ∀ S T : List α, mrg le (ins le x S) T = ins le x (mrg le S T)
  | [], T => by rw [ins, mrg_one, mrg_nil_left]
  | s :: S, [] => by rw [mrg_nil_right, mrg_nil_right]
  | s :: S, t :: T => by
    have ih1 := mrg_ins O x S (t :: T)
    have ih2 := mrg_ins O x (s :: S) T
    rw [ins] at ih2 ⊢
    cases hx : le x s
    · simp only [hx, Bool.false_eq_true, if_false] at ih2 ⊢
      cases hs : le s t
      · rw [mrg_no hs, mrg_no hs, ih2, ins, if_neg]
        intro h
        have h1 : le t s = true := (O.total t s).resolve_right (by simp [hs])
        have := O.trans _ _ _ h h1
        simp [hx] at this
      · rw [mrg_yes hs, mrg_yes hs, ih1, ins, if_neg (by simp [hx])]
    · simp only [hx, if_true] at ih2 ⊢
      cases hs : le s t
      · rw [mrg_no hs, ins]
        cases ht : le x t
        · rw [mrg_no ht, ih2]; simp
        · rw [mrg_yes ht, mrg_no hs]; simp
      · have ht := O.trans _ _ _ hx hs
        rw [mrg_yes ht, mrg_yes hs, ins, if_pos hx]
termination_by S T => S.length + T.length
theorem srt_append (O : Ord le) : ∀ A B : List α, srt le (A ++ B) = mrg le (srt le A) (srt le B)
  | [], B => by rw [srt, mrg_nil_left, List.nil_append]
  | x :: A, B => by rw [List.cons_append, srt, srt_append O A B, srt, mrg_ins O]
theorem ins_perm (x : α) : ∀ l : List α, (ins le x l).Perm (x :: l)
  | [] => List.Perm.refl _
  | y :: r => by
    rw [ins]
    split
    · exact List.Perm.refl _
    · exact ((ins_perm x r).cons y).trans (List.Perm.swap _ _ _)
theorem srt_perm : ∀ l : List α, (srt le l).Perm l
  | [] => List.Perm.refl _
  | x :: r => (ins_perm x _).trans ((srt_perm r).cons x)
theorem srt_len (l : List α) : (srt le l).length = l.length := (srt_perm l).length_eq
theorem ins_sorted (O : Ord le) (x : α) : ∀ l : List α, l.Pairwise (fun a b => le a b = true) → (ins le x l).Pairwise (fun a b => le a b = true)
  | [], _ => by simp [ins]
  | y :: r, h => by
    rw [ins]
    obtain ⟨h1, h2⟩ := List.pairwise_cons.1 h
    split
    · rename_i hxy
      refine List.pairwise_cons.2 ⟨fun z hz => ?_, h⟩
      rcases List.mem_cons.1 hz with rfl | hz
      · exact hxy
      · exact O.trans _ _ _ hxy (h1 z hz)
    · rename_i hxy
      refine List.pairwise_cons.2 ⟨fun z hz => ?_, ins_sorted O x r h2⟩
      rcases List.mem_cons.1 ((ins_perm x r).mem_iff.1 hz) with rfl | hz
      · exact (O.total z y).resolve_left hxy
      · exact h1 z hz
theorem srt_sorted (O : Ord le) : ∀ l : List α, (srt le l).Pairwise (fun a b => le a b = true)
  | [] => List.Pairwise.nil
  | x :: r => ins_sorted O x _ (srt_sorted O r)
theorem mrg_len : ∀ A B : List α, (mrg le A B).length = A.length + B.length
  | [], B => by simp [mrg_nil_left]
  | x :: A, [] => by simp [mrg_nil_right]
  | x :: A, y :: B => by
    cases h : le x y
    · rw [mrg_no h, List.length_cons, mrg_len]; simp; omega
    · rw [mrg_yes h, List.length_cons, mrg_len]; simp; omega
termination_by A B => A.length + B.length
/-- All of A go first. -/
theorem mrg_left : ∀ A L B : List α, (∀ x ∈ A, ∀ y ∈ B, le x y = true) → mrg le (A ++ L) B = A ++ mrg le L B
  | [], L, B, _ => rfl
  | x :: A, L, [], _ => by rw [mrg_nil_right, mrg_nil_right]
  | x :: A, L, y :: B, h => by
    rw [List.cons_append, mrg_yes (h x (by simp) y (by simp)), mrg_left A L (y :: B) (fun z hz => h z (by simp [hz]))]
    rfl
/-- All of B go first. -/
theorem mrg_right : ∀ B L R : List α, (∀ x ∈ L, ∀ y ∈ B, le x y = false) → mrg le L (B ++ R) = B ++ mrg le L R
  | [], L, R, _ => rfl
  | y :: B, [], R, _ => by rw [mrg_nil_left, mrg_nil_left]
  | y :: B, x :: L, R, h => by
    rw [List.cons_append, mrg_no (h x (by simp) y (by simp)), mrg_right B (x :: L) R (fun z hz w hw => h z hz w (by simp [hw]))]
    rfl
theorem mrg_split : ∀ A B L R : List α, (∀ x ∈ A, ∀ y ∈ R, le x y = true) → (∀ x ∈ L, ∀ y ∈ B, le x y = false) → mrg le (A ++ L) (B ++ R) = mrg le A B ++ mrg le L R
  | [], B, L, R, _, h2 => by rw [mrg_nil_left, List.nil_append, mrg_right B L R h2]
  | x :: A, [], L, R, h1, _ => by rw [mrg_nil_right, List.nil_append, mrg_left (x :: A) L R h1]
  | x :: A, y :: B, L, R, h1, h2 => by
    have i1 := mrg_split A (y :: B) L R (fun z hz => h1 z (by simp [hz])) h2
    have i2 := mrg_split (x :: A) B L R h1 (fun z hz w hw => h2 z hz w (by simp [hw]))
    cases h : le x y
    · rw [mrg_no h, List.cons_append, List.cons_append, mrg_no h, List.cons_append, ← i2, List.cons_append]
    · rw [mrg_yes h, List.cons_append, List.cons_append, mrg_yes h, List.cons_append, ← i1, List.cons_append]
termination_by A B => A.length + B.length
theorem srt_of_sorted : ∀ l : List α, l.Pairwise (fun a b => le a b = true) → srt le l = l
  | [], _ => rfl
  | x :: r, h => by
    obtain ⟨h1, h2⟩ := List.pairwise_cons.1 h
    rw [srt, srt_of_sorted r h2]
    cases r with
    | nil => rfl
    | cons y r => rw [ins, if_pos (h1 y (by simp))]
/-- Blocks of n, each put in order. -/
def bl (le : α → α → Bool) (n : Nat) (l : List α) : List α :=
  if h : l = [] ∨ n = 0 then [] else srt le (l.take n) ++ bl le n (l.drop n)
termination_by l.length
decreasing_by
  have : l.length ≠ 0 := fun e => h (.inl (List.eq_nil_of_length_eq_zero e))
  simp
  omega
theorem bl_nil (n : Nat) : bl le n [] = [] := by rw [bl]; simp
theorem bl_step {n : Nat} (hn : 0 < n) (l : List α) : bl le n l = srt le (l.take n) ++ bl le n (l.drop n) := by
  cases l with
  | nil => simp [bl_nil, srt]
  | cons x r =>
    rw [bl, dif_neg]
    simp
    omega
theorem bl_last {n : Nat} (hn : 0 < n) {l : List α} (h : l.length ≤ n) : bl le n l = srt le l := by
  rw [bl_step hn, List.take_of_length_le h, List.drop_of_length_le h, bl_nil, List.append_nil]
theorem bl_two (O : Ord le) {n : Nat} (hn : 0 < n) (l : List α) : bl le (2 * n) l = mrg le (srt le (l.take n)) (srt le ((l.drop n).take n)) ++ bl le (2 * n) (l.drop (2 * n)) := by
  rw [bl_step (by omega), ← srt_append O, ← List.take_add, show n + n = 2 * n by omega]
theorem bl_len {n : Nat} (hn : 0 < n) : ∀ l : List α, (bl le n l).length = l.length := by
  intro l
  induction h : l.length using Nat.strongRecOn generalizing l with
  | ind k ih =>
    by_cases h0 : l = []
    · subst h0; simp [bl_nil, ← h]
    · have hp : 0 < l.length := List.length_pos_iff.2 h0
      rw [bl_step hn, List.length_append, srt_len, ih (l.drop n).length (by simp; omega) _ rfl]
      simp
      omega
/-- The first of the least goes first. -/
theorem srt_pick (m : α) : ∀ A B : List α, (∀ a ∈ A, le a m = false) → (∀ b ∈ B, le m b = true) → srt le (A ++ m :: B) = m :: srt le (A ++ B)
  | [], B, _, h => by
    rw [List.nil_append, List.nil_append, srt]
    have hs : ∀ b ∈ srt le B, le m b = true := fun b hb => h b ((srt_perm B).mem_iff.1 hb)
    cases hb : srt le B with
    | nil => rfl
    | cons y r => rw [ins, if_pos (hs y (by rw [hb]; simp))]
  | a :: A, B, h1, h2 => by
    rw [List.cons_append, srt, srt_pick m A B (fun x hx => h1 x (by simp [hx])) h2, ins, if_neg (by simp [h1 a (by simp)]), List.cons_append, srt]
end SortW
end Go.Proofs.Ytlhanbjendbhfaa
