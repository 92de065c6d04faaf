/-
  A disk of sectors, plainly: what it has, what was written since its mark, cuts and copies; what is used is the one list that rises and has just the sectors that are not blank.
-/
import Derived.Test.YtknckaegpdganaaDoorJournalPlain
-- mine: whole_c same_c awake_c take_c step_c back_c
namespace Go.Proofs.YtknckaegpdganaaDoor
set_option linter.unusedVariables false
set_option linter.unusedSimpArgs false
namespace SecP
open JournalP
abbrev Sec := List UInt8
def blank : Sec := List.replicate 512 0
def zero : Nat → Sec := fun _ => blank
/-- Data, and bytes 0 behind it. -/
def pad (d : Sec) : Sec := d ++ List.replicate (512 - d.length) 0
theorem pad_len {d : Sec} (h : d.length ≤ 512) : (pad d).length = 512 := by
  simp [pad]
  omega
theorem blank_len : blank.length = 512 := List.length_replicate
theorem pad_nil : pad [] = blank := rfl
theorem pad_full {d : Sec} (h : d.length = 512) : pad d = d := by simp [pad, h]
theorem pad_take (d : Sec) : (pad d).take d.length = d := by simp [pad]
theorem pad_behind {d : Sec} {k : Nat} (h1 : d.length ≤ k) (h2 : k < 512) : (pad d)[k]? = some 0 := by
  unfold pad
  rw [List.getElem?_append_right h1, List.getElem?_replicate, if_pos (by omega)]
/-- The reference's: the data and what is left of a blank one. -/
theorem pad_drop (d : Sec) : d ++ blank.drop d.length = pad d := by
  unfold pad blank
  rw [List.drop_replicate]
/-- A disk: how many sectors, what they were at the mark, the writes since. -/
structure Dk where
  n : Nat
  base : Nat → Sec
  ws : List (Nat × Sec)
def Dk.now (d : Dk) : Nat → Sec := app d.base d.ws
def mk (n : Nat) : Dk := ⟨n, zero, []⟩
def Dk.write (d : Dk) (i : Nat) (x : Sec) : Dk := ⟨d.n, d.base, d.ws ++ [(i, pad x)]⟩
def Dk.mark (d : Dk) : Dk := ⟨d.n, d.now, []⟩
def Dk.cut (d : Dk) (k : Nat) : Dk := ⟨d.n, app d.base (d.ws.take k), []⟩
theorem now_write (d : Dk) (i : Nat) (x : Sec) : (d.write i x).now = upd d.now i (pad x) := by
  unfold Dk.now Dk.write
  rw [app_app, app_one]
theorem now_mark (d : Dk) : d.mark.now = d.now := rfl
/-- Cut at all its writes it is the same; cut at k and then written with the rest it is the same again. -/
theorem cut_all (d : Dk) : (d.cut d.ws.length).now = d.now := by
  unfold Dk.now Dk.cut
  rw [List.take_length]
  rfl
theorem cut_rest (d : Dk) (k : Nat) : app (d.cut k).now (d.ws.drop k) = d.now := by
  unfold Dk.now Dk.cut
  rw [app_nil, ← app_app, List.take_append_drop]
/-- Taken back, the last one first. -/
theorem take_back (f : Nat → Sec) (ws : List (Nat × Sec)) {k : Nat} {x : Nat × Sec} (h : ws[k]? = some x) : upd (app f (ws.take (k + 1))) x.1 (app f (ws.take k) x.1) = app f (ws.take k) := by
  have e : ws.take (k + 1) = ws.take k ++ [x] := by rw [List.take_add_one, h]; rfl
  rw [e, app_app, app_one]
  funext i
  unfold upd
  split
  · rename_i q
    rw [q]
  · rfl
/-- What stands last. -/
theorem app_last {f : Nat → Sec} {l : List (Nat × Sec)} {k i : Nat} {x : Sec} (h : l[k]? = some (i, x)) (hb : ∀ j, k < j → ∀ y, l[j]? = some y → y.1 ≠ i) : app f l i = x := by
  have hk := (List.getElem?_eq_some_iff.1 h).1
  have e : l = l.take (k + 1) ++ l.drop (k + 1) := (List.take_append_drop ..).symm
  have e2 : l.take (k + 1) = l.take k ++ [(i, x)] := by rw [List.take_add_one, h]; rfl
  rw [e, app_app, app_other (fun y hy => ?_), e2, app_app, app_one]
  · unfold upd
    rw [if_pos rfl]
  · obtain ⟨j, hj⟩ := List.getElem?_of_mem hy
    rw [List.getElem?_drop] at hj
    exact hb (k + 1 + j) (by omega) y hj
theorem app_never {f : Nat → Sec} {l : List (Nat × Sec)} {i : Nat} (hb : ∀ (j : Nat) y, l[j]? = some y → y.1 ≠ i) : app f l i = f i :=
  app_other (fun y hy => by
    obtain ⟨j, hj⟩ := List.getElem?_of_mem hy
    exact hb j y hj)
/-! What is used. -/
theorem rise_eq : ∀ {a b : List Nat}, a.Pairwise (· < ·) → b.Pairwise (· < ·) → (∀ x, x ∈ a ↔ x ∈ b) → a = b
  | [], [], _, _, _ => rfl
  | [], y :: b, _, _, h => absurd ((h y).2 (by simp)) (by simp)
  | x :: a, [], _, _, h => absurd ((h x).1 (by simp)) (by simp)
  | x :: a, y :: b, ha, hb, h => by
    obtain ⟨ha1, ha2⟩ := List.pairwise_cons.1 ha
    obtain ⟨hb1, hb2⟩ := List.pairwise_cons.1 hb
    have hxy : x = y := by
      rcases List.mem_cons.1 ((h x).1 (by simp)) with e | e
      · exact e
      · rcases List.mem_cons.1 ((h y).2 (by simp)) with e2 | e2
        · exact e2.symm
        · have h1 := hb1 x e
          have h2 := ha1 y e2
          omega
    subst hxy
    rw [rise_eq ha2 hb2 (fun z => ?_)]
    have hz := h z
    constructor
    · intro q
      rcases List.mem_cons.1 (hz.1 (List.mem_cons_of_mem _ q)) with e | e
      · have := ha1 z q
        omega
      · exact e
    · intro q
      rcases List.mem_cons.1 (hz.2 (List.mem_cons_of_mem _ q)) with e | e
      · have := hb1 z q
        omega
      · exact e
def used (n : Nat) (s : Nat → Sec) : List Nat := (List.range n).filter (fun i => s i != blank)
theorem used_rises (n : Nat) (s : Nat → Sec) : (used n s).Pairwise (· < ·) := List.Pairwise.filter _ List.pairwise_lt_range
theorem used_mem {n : Nat} {s : Nat → Sec} {x : Nat} : x ∈ used n s ↔ x < n ∧ s x ≠ blank := by simp [used]
theorem used_is {n : Nat} {s : Nat → Sec} {l : List Nat} (hr : l.Pairwise (· < ·)) (hm : ∀ x, x ∈ l ↔ x < n ∧ s x ≠ blank) : l = used n s :=
  rise_eq hr (used_rises n s) (fun x => (hm x).trans used_mem.symm)
theorem used_len (n : Nat) (s : Nat → Sec) : (used n s).length ≤ n := by
  have := List.length_filter_le (fun i => s i != blank) (List.range n)
  rw [List.length_range] at this
  exact this
/-- What of the first m writes is used. -/
def usedTo (n : Nat) (A : List (Nat × Sec)) (s : Nat → Sec) (m : Nat) : List Nat := (List.range n).filter (fun i => s i != blank && (A.take m).any (fun y => y.1 == i))
theorem usedTo_rises (n : Nat) (A : List (Nat × Sec)) (s : Nat → Sec) (m : Nat) : (usedTo n A s m).Pairwise (· < ·) := List.Pairwise.filter _ List.pairwise_lt_range
theorem usedTo_mem {n : Nat} {A : List (Nat × Sec)} {s : Nat → Sec} {m x : Nat} : x ∈ usedTo n A s m ↔ x < n ∧ s x ≠ blank ∧ ∃ y ∈ A.take m, y.1 = x := by
  simp only [usedTo, List.mem_filter, List.mem_range, Bool.and_eq_true, bne_iff_ne, ne_eq, List.any_eq_true, beq_iff_eq]
theorem usedTo_zero (n : Nat) (A : List (Nat × Sec)) (s : Nat → Sec) : usedTo n A s 0 = [] := by simp [usedTo]
/-- All that is used was written. -/
theorem usedTo_all (n : Nat) (A : List (Nat × Sec)) : usedTo n A (app zero A) A.length = used n (app zero A) := by
  refine used_is (usedTo_rises ..) (fun x => ?_)
  rw [usedTo_mem, List.take_length]
  constructor
  · rintro ⟨h1, h2, _⟩
    exact ⟨h1, h2⟩
  · rintro ⟨h1, h2⟩
    refine ⟨h1, h2, Classical.byContradiction fun q => h2 ?_⟩
    exact app_other (fun y hy e => q ⟨y, hy, e⟩)
theorem taken_mem {A : List (Nat × Sec)} {m : Nat} {y : Nat × Sec} (h : A[m]? = some y) (x : Nat) : (∃ z ∈ A.take (m + 1), z.1 = x) ↔ (∃ z ∈ A.take m, z.1 = x) ∨ y.1 = x := by
  rw [List.take_add_one, h]
  simp only [Option.toList_some, List.mem_append, List.mem_singleton]
  constructor
  · rintro ⟨z, hz | rfl, e⟩
    · exact .inl ⟨z, hz, e⟩
    · exact .inr e
  · rintro (⟨z, hz, e⟩ | e)
    · exact ⟨z, .inl hz, e⟩
    · exact ⟨y, .inr rfl, e⟩
/-- A write to a blank sector, or to one that stands there already, leaves the list. -/
theorem usedTo_same {n : Nat} {A : List (Nat × Sec)} {s : Nat → Sec} {m : Nat} {y : Nat × Sec} (h : A[m]? = some y) (hy : s y.1 = blank ∨ y.1 ∈ usedTo n A s m) : usedTo n A s (m + 1) = usedTo n A s m := by
  refine rise_eq (usedTo_rises ..) (usedTo_rises ..) (fun x => ?_)
  rw [usedTo_mem, usedTo_mem, taken_mem h]
  constructor
  · rintro ⟨h1, h2, h3 | h3⟩
    · exact ⟨h1, h2, h3⟩
    · rcases hy with e | e
      · exact absurd (h3 ▸ e) h2
      · rw [h3] at e
        exact usedTo_mem.1 e
  · rintro ⟨h1, h2, h3⟩
    exact ⟨h1, h2, .inl h3⟩
/-- Laid at its place. -/
theorem laid_rises {l : List Nat} {k x : Nat} (hr : l.Pairwise (· < ·)) (h1 : ∀ (j v : Nat), j < k → l[j]? = some v → v < x) (h2 : ∀ v, l[k]? = some v → x < v) : (l.take k ++ x :: l.drop k).Pairwise (· < ·) := by
  rw [List.pairwise_append]
  have hd : ∀ v ∈ l.drop k, x < v := by
    intro v hv
    obtain ⟨j, hj⟩ := List.getElem?_of_mem hv
    rw [List.getElem?_drop] at hj
    have hjl := (List.getElem?_eq_some_iff.1 hj).1
    have hk : k < l.length := by omega
    have hx := h2 _ (List.getElem?_eq_getElem hk)
    rcases Nat.eq_or_lt_of_le (Nat.zero_le j) with e | e
    · subst e
      rw [Nat.add_zero, List.getElem?_eq_getElem hk] at hj
      injection hj with hj
      omega
    · have := List.pairwise_iff_getElem.1 hr k (k + j) hk hjl (by omega)
      rw [List.getElem?_eq_getElem hjl] at hj
      injection hj with hj
      omega
  refine ⟨hr.sublist (List.take_sublist ..), List.pairwise_cons.2 ⟨hd, hr.sublist (List.drop_sublist ..)⟩, fun v hv u hu => ?_⟩
  have hvx : v < x := by
    obtain ⟨j, hj⟩ := List.getElem?_of_mem hv
    rw [List.getElem?_take] at hj
    split at hj
    · rename_i q
      exact h1 j v q hj
    · cases hj
  rcases List.mem_cons.1 hu with rfl | hu
  · exact hvx
  · exact Nat.lt_trans hvx (hd u hu)
theorem usedTo_more {n : Nat} {A : List (Nat × Sec)} {s : Nat → Sec} {m k : Nat} {y : Nat × Sec} (h : A[m]? = some y) (hn : y.1 < n) (hb : s y.1 ≠ blank) (h1 : ∀ (j v : Nat), j < k → (usedTo n A s m)[j]? = some v → v < y.1) (h2 : ∀ v, (usedTo n A s m)[k]? = some v → y.1 < v) :
    usedTo n A s (m + 1) = (usedTo n A s m).take k ++ y.1 :: (usedTo n A s m).drop k := by
  refine rise_eq (usedTo_rises ..) (laid_rises (usedTo_rises ..) h1 h2) (fun x => ?_)
  have e : x ∈ (usedTo n A s m).take k ++ y.1 :: (usedTo n A s m).drop k ↔ x ∈ usedTo n A s m ∨ x = y.1 := by
    rw [List.mem_append, List.mem_cons]
    constructor
    · rintro (q | q | q)
      · exact .inl (List.mem_of_mem_take q)
      · exact .inr q
      · exact .inl (List.mem_of_mem_drop q)
    · rintro (q | q)
      · rw [← List.take_append_drop k (usedTo n A s m), List.mem_append] at q
        rcases q with q | q
        · exact .inl q
        · exact .inr (.inr q)
      · exact .inr (.inl q)
  rw [e, usedTo_mem, usedTo_mem, taken_mem h]
  constructor
  · rintro ⟨q1, q2, q3 | q3⟩
    · exact .inl ⟨q1, q2, q3⟩
    · exact .inr q3.symm
  · rintro (⟨q1, q2, q3⟩ | rfl)
    · exact ⟨q1, q2, .inl q3⟩
    · exact ⟨hn, hb, .inr rfl⟩
end SecP
end Go.Proofs.YtknckaegpdganaaDoor
