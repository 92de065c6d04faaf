/-
  Layer 16's laws, plainly: how long, in which order, the earliest of each index.
-/
import Derived.Test.YtlhanbjendbhfaaQueueRow
namespace Go.Proofs.Ytlhanbjendbhfaa
set_option linter.unusedVariables false
set_option linter.unusedSimpArgs false
namespace QueW
open HeapP ChunkW
section
variable {L : List Tick}
theorem del_len {a : Int} (h : Good L) (hd : dueL a L ≠ 0) : (delL a L).length + 1 = L.length := by
  have hp := (plc_due (a := a) h.1).1 hd
  have hlt := (List.getElem?_eq_some_iff.1 hp).1
  rw [del_plc h.1 hd]
  simp
  omega
theorem first_due (h : Good L) (hne : L ≠ []) : dueL (firstL L).1 L = (firstL L).2 ∧ dueL (firstL L).1 L ≠ 0 := by
  have hm := (first_is h.1 hne).1
  have := (due_mem (i := (firstL L).1) (d := (firstL L).2) h.1).1 hm
  exact ⟨this.1, by rw [this.1]; exact this.2⟩
theorem take_is {now : Int} (h : takeB L now = true) : L ≠ [] ∧ (firstL L).2 ≤ now := by
  unfold takeB at h
  simpa using h
theorem take_len {now : Int} (h : Good L) (ht : takeB L now = true) : (takeT L now).length + 1 = L.length := by
  unfold takeT
  rw [if_pos ht]
  exact del_len h (first_due h (take_is ht).1).2
theorem take_all (h : Good L) : takeB L 2199023255552 = decide (L ≠ []) := by
  unfold takeB
  by_cases hne : L = []
  · simp [hne]
  · have := h.2 _ (first_is h.1 hne).1
    simp [hne, this]
theorem up_app : ∀ {L : List Tick} {n : Int} {t : Tick}, ChunkW.up n (L ++ [t]) → dueL t.1 L = 0 ∧ putL t.1 t.2 L = L ++ [t]
  | [], n, t, _ => ⟨rfl, rfl⟩
  | x :: r, n, t, h => by
    obtain ⟨h1, h2, h3, h4⟩ := h
    obtain ⟨i1, i2⟩ := up_app h4
    have hlt := (up_mem h4 t (by simp)).1
    rw [dueL, putL, if_neg (by omega), if_neg (by omega), if_neg (by omega), i2]
    exact ⟨i1, rfl⟩
theorem make_same : ∀ {R P : List Tick}, Good (P ++ R) → makeL P R = (0, P ++ R)
  | [], P, h => by simp [makeL]
  | t :: r, P, h => by
    have hm := h.mem (t := t) (by simp)
    have e : P ++ t :: r = (P ++ [t]) ++ r := by simp
    have hu : ChunkW.up 0 (P ++ [t]) := by
      have h2 := h.1
      rw [e] at h2
      exact up_pre h2
    obtain ⟨i1, i2⟩ := up_app hu
    rw [makeL, if_neg (by simp [hm]), if_neg (by simp [i1]), i2, make_same (by rw [← e]; exact h), e]
where
  up_pre : ∀ {L M : List Tick} {n : Int}, ChunkW.up n (L ++ M) → ChunkW.up n L
    | [], M, n, _ => trivial
    | x :: r, M, n, h => ⟨h.1, h.2.1, h.2.2.1, up_pre h.2.2.2⟩
theorem new_same (h : Good L) : newL L = (0, L) := by
  unfold newL
  rw [if_neg (by have := h.len; omega)]
  exact make_same (P := []) h
theorem put_len (i d : Int) : ∀ L : List Tick, (putL i d L).length ≤ L.length + 1
  | [] => by simp [putL]
  | t :: r => by
    have := put_len i d r
    rw [putL]
    split
    · split <;> simp
    · split
      · simp
      · simp
        omega
theorem putT_len (L : List Tick) (t : Tick) : (putT L t).length ≤ L.length + 1 := by
  unfold putT
  split
  · exact put_len _ _ _
  · omega
theorem foldl_len : ∀ (l L : List Tick), (l.foldl putT L).length ≤ L.length + l.length
  | [], L => by simp
  | t :: r, L => by
    have h1 := foldl_len r (putT L t)
    have h2 := putT_len L t
    simp only [List.foldl_cons, List.length_cons]
    omega
theorem puts_len (l : List Tick) : (putsT l).length ≤ l.length := by
  have := foldl_len l []
  simpa [putsT] using this
/-- What one more does to what is due. -/
def mn (t : Tick) (j D : Int) : Int := if mayB t = true ∧ j = t.1 ∧ (D = 0 ∨ t.2 < D) then t.2 else D
theorem due_putT {t : Tick} (h : Good L) (j : Int) : dueL j (putT L t) = mn t j (dueL j L) := by
  unfold putT mn
  cases hm : mayB t with
  | false => simp
  | true =>
    have hd := (mayB_iff.1 hm).2.2.1
    simp only [if_true, true_and]
    rw [due_put hd h.1]
    by_cases e : j = t.1
    · subst e
      simp
    · simp [e]
theorem mn_comm {s t : Tick} {j D : Int} (hD : 0 ≤ D) : mn s j (mn t j D) = mn t j (mn s j D) := by
  unfold mn
  by_cases h1 : mayB s = true ∧ j = s.1
  · by_cases h2 : mayB t = true ∧ j = t.1
    · have d1 := (mayB_iff.1 h1.1).2.2.1
      have d2 := (mayB_iff.1 h2.1).2.2.1
      simp only [h1.1, h2.1, ← h1.2, ← h2.2, true_and]
      by_cases c1 : D = 0 ∨ t.2 < D <;> by_cases c2 : D = 0 ∨ s.2 < D <;> simp only [c1, c2, if_true, if_false] <;> (repeat' split) <;> omega
    · have n2 : ∀ X : Int, ¬ (mayB t = true ∧ j = t.1 ∧ (X = 0 ∨ t.2 < X)) := fun X q => h2 ⟨q.1, q.2.1⟩
      rw [if_neg (n2 _), if_neg (n2 _)]
  · have n1 : ∀ X : Int, ¬ (mayB s = true ∧ j = s.1 ∧ (X = 0 ∨ s.2 < X)) := fun X q => h1 ⟨q.1, q.2.1⟩
    rw [if_neg (n1 _), if_neg (n1 _)]
theorem putT_comm {s t : Tick} (h : Good L) : putT (putT L s) t = putT (putT L t) s := up_ext (good_putT (good_putT h)).1 (good_putT (good_putT h)).1 (fun j => by
  rw [due_putT (good_putT h), due_putT h, due_putT (good_putT h), due_putT h]
  exact mn_comm (due_pos h.1))
theorem foldl_one : ∀ {l L : List Tick} {t : Tick}, Good L → l.foldl putT (putT L t) = putT (l.foldl putT L) t
  | [], L, t, h => rfl
  | x :: r, L, t, h => by
    rw [List.foldl_cons, List.foldl_cons, putT_comm h, foldl_one (good_putT h)]
theorem puts_rev : ∀ l : List Tick, putsT l.reverse = putsT l
  | [] => rfl
  | x :: r => by
    unfold putsT
    rw [List.reverse_cons, List.foldl_append, List.foldl_cons, List.foldl_cons, List.foldl_nil, foldl_one good_nil]
    have := puts_rev r
    unfold putsT at this
    rw [this]
theorem puts_app (l : List Tick) (t : Tick) : putsT (l ++ [t]) = putT (putsT l) t := by
  unfold putsT
  rw [List.foldl_append]
  rfl
theorem foldl_due : ∀ {l L : List Tick} {t : Tick}, Good L → mayB t = true → dueL t.1 L ≠ 0 → dueL t.1 L ≤ t.2 → dueL t.1 (l.foldl putT L) ≠ 0 ∧ dueL t.1 (l.foldl putT L) ≤ t.2
  | [], L, t, h, _, h1, h2 => ⟨h1, h2⟩
  | x :: r, L, t, h, hm, h1, h2 => by
    rw [List.foldl_cons]
    have hp := due_pos (i := t.1) h.1
    refine foldl_due (good_putT h) hm ?_ ?_ <;> rw [due_putT h] <;> unfold mn <;> split
    · rename_i q
      have := (mayB_iff.1 q.1).2.2.1
      omega
    · exact h1
    · rename_i q
      rcases q.2.2 with z | z
      · omega
      · omega
    · exact h2
theorem puts_due : ∀ {l L : List Tick} {t : Tick}, Good L → t ∈ l → mayB t = true → dueL t.1 (l.foldl putT L) ≠ 0 ∧ dueL t.1 (l.foldl putT L) ≤ t.2
  | x :: r, L, t, h, ht, hm => by
    rw [List.foldl_cons]
    rcases List.mem_cons.1 ht with rfl | ht
    · have hd := (mayB_iff.1 hm).2.2.1
      have hp := due_pos (i := t.1) h.1
      refine foldl_due (good_putT h) hm ?_ ?_ <;> rw [due_putT h] <;> unfold mn <;> split
      · omega
      · rename_i q
        intro z
        exact q ⟨hm, rfl, .inl z⟩
      · omega
      · rename_i q
        apply Classical.byContradiction
        intro z
        exact q ⟨hm, rfl, .inr (by omega)⟩
    · exact puts_due (good_putT h) ht hm
/-! ### Taken one by one -/
structure Drain (L0 out L : List Tick) : Prop where
  up : out.Pairwise tl
  ahead : ∀ x ∈ out, ∀ y ∈ L, tl x y
  mem : ∀ t, t ∈ L0 ↔ t ∈ out ∨ t ∈ L
  len : out.length + L.length = L0.length
theorem drain_begin (L0 : List Tick) : Drain L0 [] L0 := ⟨List.Pairwise.nil, fun x h => by simp at h, fun t => by simp, by simp⟩
theorem drain_step {L0 out : List Tick} (h : Drain L0 out L) (hg : Good L) (hne : L ≠ []) : Drain L0 (out ++ [firstL L]) (delL (firstL L).1 L) := by
  have hf := first_is hg.1 hne
  obtain ⟨d1, d2⟩ := first_due hg hne
  refine ⟨List.pairwise_append.2 ⟨h.up, List.pairwise_singleton _ _, fun x hx y hy => ?_⟩, fun x hx y hy => ?_, fun t => ?_, ?_⟩
  · rw [List.mem_singleton] at hy
    rw [hy]
    exact h.ahead x hx _ hf.1
  · obtain ⟨hy1, hy2⟩ := (del_mem hg y).1 hy
    rcases List.mem_append.1 hx with hx | hx
    · exact h.ahead x hx y hy1
    · rw [List.mem_singleton] at hx
      rw [hx]
      have := hf.2 y hy1
      unfold tl at this ⊢
      omega
  · rw [h.mem t, List.mem_append, List.mem_singleton, del_mem hg]
    constructor
    · rintro (q | q)
      · exact .inl (.inl q)
      · by_cases e : t.1 = (firstL L).1
        · refine .inl (.inr ?_)
          have h1 := ((due_mem (i := t.1) (d := t.2) hg.1).1 q).1
          rw [e, d1] at h1
          exact Prod.ext e h1.symm
        · exact .inr ⟨q, e⟩
    · rintro ((q | q) | q)
      · exact .inl q
      · rw [q]
        exact .inr hf.1
      · exact .inr q.1
  · have := del_len hg d2
    rw [List.length_append]
    have := h.len
    simp
    omega
theorem drain_rises {L0 out : List Tick} (h : Drain L0 out L) {i k : Nat} {s t : Tick} (hik : i < k) (hi : out[i]? = some s) (hk : out[k]? = some t) : tl s t := by
  have hk' := (List.getElem?_eq_some_iff.1 hk).1
  have := List.pairwise_iff_getElem.1 h.up i k (by omega) hk' hik
  rw [(List.getElem?_eq_some_iff.1 hi).2, (List.getElem?_eq_some_iff.1 hk).2] at this
  exact this
theorem drain_apart {L0 out : List Tick} (hg : Good L0) (h : Drain L0 out L) {i k : Nat} {s t : Tick} (hik : i < k) (hi : out[i]? = some s) (hk : out[k]? = some t) : s.1 ≠ t.1 := fun e => by
  have h1 := drain_rises h hik hi hk
  have ms := (due_mem (i := s.1) (d := s.2) hg.1).1 ((h.mem s).2 (.inl (List.mem_of_getElem? hi)))
  have mt := (due_mem (i := t.1) (d := t.2) hg.1).1 ((h.mem t).2 (.inl (List.mem_of_getElem? hk)))
  rw [e] at ms
  unfold tl at h1
  omega
end
end QueW
end Go.Proofs.Ytlhanbjendbhfaa
