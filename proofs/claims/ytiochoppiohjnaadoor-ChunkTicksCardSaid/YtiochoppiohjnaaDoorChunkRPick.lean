/-
  Selection: the first of the least that are left, again and again.
-/
import Derived.Test.YtiochoppiohjnaaDoorChunkReady
import Derived.Test.YtiochoppiohjnaaDoorChunkOrdW
namespace Go.Proofs.YtiochoppiohjnaaDoor
open Go.RowKit
set_option linter.unusedVariables false
set_option linter.unusedSimpArgs false
namespace ChunkW
open BytesW PackW SortW

theorem leT_yes {a b : Tick} : leT a b = true ↔ a.2 < b.2 ∨ (a.2 = b.2 ∧ a.1 ≤ b.1) := by simp [leT]
theorem leT_no {a b : Tick} : leT a b = false ↔ b.2 < a.2 ∨ (a.2 = b.2 ∧ b.1 < a.1) := by
  rw [← Bool.not_eq_true, leT_yes]
  omega
/-- What is left: not gone, and due. -/
def leftT (now : Int) : List Tick → List Bool → List Tick
  | t :: r, b :: g => if b = false ∧ t.2 ≤ now then t :: leftT now r g else leftT now r g
  | _, _ => []
theorem left_new (now : Int) : ∀ ts : List Tick, leftT now ts (List.replicate ts.length false) = ts.filter fun t => decide (t.2 ≤ now)
  | [] => rfl
  | t :: r => by
    rw [List.length_cons, List.replicate_succ, leftT, left_new now r]
    by_cases h : t.2 ≤ now
    · rw [if_pos ⟨rfl, h⟩, List.filter_cons_of_pos (by simpa using h)]
    · rw [if_neg (fun q => h q.2), List.filter_cons_of_neg (by simpa using h)]
theorem left_mem {now : Int} : ∀ {ts : List Tick} {G : List Bool} {x : Tick}, x ∈ leftT now ts G → ∃ j : Nat, ts[j]? = some x ∧ G[j]? = some false ∧ x.2 ≤ now
  | [], _, x, h => by simp [leftT] at h
  | t :: r, [], x, h => by simp [leftT] at h
  | t :: r, b :: g, x, h => by
    rw [leftT] at h
    split at h
    · rename_i hc
      rcases List.mem_cons.1 h with rfl | h
      · exact ⟨0, rfl, by rw [hc.1]; rfl, hc.2⟩
      · obtain ⟨j, a1, a2, a3⟩ := left_mem h
        exact ⟨j + 1, by simpa using a1, by simpa using a2, a3⟩
    · obtain ⟨j, a1, a2, a3⟩ := left_mem h
      exact ⟨j + 1, by simpa using a1, by simpa using a2, a3⟩
theorem left_split {now : Int} : ∀ {ts : List Tick} {G : List Bool} {k : Nat} {m : Tick}, ts[k]? = some m → G[k]? = some false → m.2 ≤ now →
    ∃ A B, leftT now ts G = A ++ m :: B ∧ leftT now ts (G.set k true) = A ++ B ∧ (∀ x ∈ A, ∃ j : Nat, j < k ∧ ts[j]? = some x ∧ G[j]? = some false ∧ x.2 ≤ now) ∧ (∀ x ∈ B, ∃ j : Nat, k < j ∧ ts[j]? = some x ∧ G[j]? = some false ∧ x.2 ≤ now)
  | [], _, k, m, h, _, _ => by simp at h
  | t :: r, [], k, m, _, h, _ => by simp at h
  | t :: r, b :: g, 0, m, h, hg, hm => by
    have e : t = m := by simpa using h
    have e2 : b = false := by simpa using hg
    subst e e2
    refine ⟨[], leftT now r g, by rw [leftT, if_pos ⟨rfl, hm⟩]; rfl, by rw [List.set_cons_zero, leftT, if_neg (by simp)]; rfl, fun x hx => by simp at hx, fun x hx => ?_⟩
    obtain ⟨j, a1, a2, a3⟩ := left_mem hx
    exact ⟨j + 1, by omega, by simpa using a1, by simpa using a2, a3⟩
  | t :: r, b :: g, k + 1, m, h, hg, hm => by
    obtain ⟨A, B, e1, e2, hA, hB⟩ := left_split (ts := r) (G := g) (k := k) (m := m) (by simpa using h) (by simpa using hg) hm
    have hB' : ∀ x ∈ B, ∃ j : Nat, k + 1 < j ∧ (t :: r)[j]? = some x ∧ (b :: g)[j]? = some false ∧ x.2 ≤ now := fun x hx => by
      obtain ⟨j, a0, a1, a2, a3⟩ := hB x hx
      exact ⟨j + 1, by omega, by simpa using a1, by simpa using a2, a3⟩
    have hA' : ∀ x ∈ A, ∃ j : Nat, j < k + 1 ∧ (t :: r)[j]? = some x ∧ (b :: g)[j]? = some false ∧ x.2 ≤ now := fun x hx => by
      obtain ⟨j, a0, a1, a2, a3⟩ := hA x hx
      exact ⟨j + 1, by omega, by simpa using a1, by simpa using a2, a3⟩
    rw [List.set_cons_succ, leftT, leftT, e1, e2]
    by_cases hc : b = false ∧ t.2 ≤ now
    · rw [if_pos hc, if_pos hc]
      refine ⟨t :: A, B, rfl, rfl, fun x hx => ?_, hB'⟩
      rcases List.mem_cons.1 hx with rfl | hx
      · exact ⟨0, by omega, rfl, by rw [hc.1]; rfl, hc.2⟩
      · exact hA' x hx
    · rw [if_neg hc, if_neg hc]
      exact ⟨A, B, rfl, rfl, hA', hB'⟩
/-- The first of the least among the first i: -1, if there is none. -/
def Pick (now : Int) (ts : List Tick) (G : List Bool) (i : Nat) (b : Int) : Prop :=
  (b = -1 ∧ ∀ (j : Nat) x, j < i → ts[j]? = some x → G[j]? = some false → ¬ x.2 ≤ now) ∨
  ∃ k m, b = ((k : Nat) : Int) ∧ k < i ∧ ts[k]? = some m ∧ G[k]? = some false ∧ m.2 ≤ now ∧ (∀ (j : Nat) x, j < k → ts[j]? = some x → G[j]? = some false → x.2 ≤ now → leT x m = false) ∧ (∀ (j : Nat) x, k < j → j < i → ts[j]? = some x → G[j]? = some false → x.2 ≤ now → leT m x = true)
section
variable {now : Int} {ts : List Tick} {G : List Bool} {i k : Nat} {b : Int} {t m : Tick}
theorem pick_zero : Pick now ts G 0 (-1) := .inl ⟨rfl, fun j x h => absurd h (by omega)⟩
theorem pick_skip (h : Pick now ts G i b) (ht : ts[i]? = some t) (hn : G[i]? = some true ∨ ¬ t.2 ≤ now) : Pick now ts G (i + 1) b := by
  have key : ∀ (j : Nat) x, j = i → ts[j]? = some x → G[j]? = some false → x.2 ≤ now → False := fun j x e h1 h2 h3 => by
    subst e
    rw [ht] at h1
    injection h1 with h1
    subst h1
    rcases hn with hn | hn
    · rw [hn] at h2
      cases h2
    · exact hn h3
  rcases h with ⟨rfl, h⟩ | ⟨k, m, rfl, h1, h2, h3, h4, h5, h6⟩
  · refine .inl ⟨rfl, fun j x hj h1 h2 h3 => ?_⟩
    by_cases e : j = i
    · exact key j x e h1 h2 h3
    · exact h j x (by omega) h1 h2 h3
  · refine .inr ⟨k, m, rfl, by omega, h2, h3, h4, h5, fun j x hk hj a1 a2 a3 => ?_⟩
    by_cases e : j = i
    · exact (key j x e a1 a2 a3).elim
    · exact h6 j x hk (by omega) a1 a2 a3
theorem pick_first (h : Pick now ts G i (-1)) (ht : ts[i]? = some t) (hg : G[i]? = some false) (hn : t.2 ≤ now) : Pick now ts G (i + 1) (i : Int) := by
  rcases h with ⟨_, h⟩ | ⟨k, m, e, _⟩
  · exact .inr ⟨i, t, rfl, by omega, ht, hg, hn, fun j x hj a1 a2 a3 => absurd a3 (h j x hj a1 a2), fun j x h1 h2 => absurd h1 (by omega)⟩
  · exact absurd e (by omega)
theorem pick_at (h : Pick now ts G i (k : Int)) : ∃ m, ts[k]? = some m ∧ k < i := by
  rcases h with ⟨e, _⟩ | ⟨k', m, e, h1, h2, _⟩
  · exact absurd e (by omega)
  · obtain rfl : k = k' := by omega
    exact ⟨m, h2, h1⟩
theorem pick_less (h : Pick now ts G i (k : Int)) (hm : ts[k]? = some m) (ht : ts[i]? = some t) (hg : G[i]? = some false) (hn : t.2 ≤ now) (hl : leT m t = false) : Pick now ts G (i + 1) (i : Int) := by
  rcases h with ⟨e, _⟩ | ⟨k', m', e, h1, h2, h3, h4, h5, h6⟩
  · exact absurd e (by omega)
  · obtain rfl : k = k' := by omega
    obtain rfl : m = m' := by
      rw [hm] at h2
      injection h2
    refine .inr ⟨i, t, rfl, by omega, ht, hg, hn, fun j x hj a1 a2 a3 => ?_, fun j x h1 h2 => absurd h1 (by omega)⟩
    rw [leT_no] at hl ⊢
    by_cases c1 : j < k
    · have := leT_no.1 (h5 j x c1 a1 a2 a3)
      omega
    · by_cases c2 : j = k
      · subst c2
        rw [hm] at a1
        injection a1 with a1
        subst a1
        exact hl
      · have := leT_yes.1 (h6 j x (by omega) hj a1 a2 a3)
        omega
theorem pick_keep (h : Pick now ts G i (k : Int)) (hm : ts[k]? = some m) (ht : ts[i]? = some t) (hl : leT m t = true) : Pick now ts G (i + 1) (k : Int) := by
  rcases h with ⟨e, _⟩ | ⟨k', m', e, h1, h2, h3, h4, h5, h6⟩
  · exact absurd e (by omega)
  · obtain rfl : k = k' := by omega
    obtain rfl : m = m' := by
      rw [hm] at h2
      injection h2
    refine .inr ⟨k, m, rfl, by omega, h2, h3, h4, h5, fun j x hk hj a1 a2 a3 => ?_⟩
    by_cases e : j = i
    · subst e
      rw [ht] at a1
      injection a1 with a1
      subst a1
      exact hl
    · exact h6 j x hk (by omega) a1 a2 a3
theorem pick_none (h : Pick now ts G ts.length (-1)) : leftT now ts G = [] := by
  rcases h with ⟨_, h⟩ | ⟨k, m, e, _⟩
  · refine List.eq_nil_iff_forall_not_mem.2 fun x hx => ?_
    obtain ⟨j, a1, a2, a3⟩ := left_mem hx
    exact h j x (List.getElem?_eq_some_iff.1 a1).1 a1 a2 a3
  · exact absurd e (by omega)
theorem pick_some (h : Pick now ts G ts.length (k : Int)) (hm : ts[k]? = some m) : srt leT (leftT now ts G) = m :: srt leT (leftT now ts (G.set k true)) := by
  rcases h with ⟨e, _⟩ | ⟨k', m', e, h1, h2, h3, h4, h5, h6⟩
  · exact absurd e (by omega)
  · obtain rfl : k = k' := by omega
    obtain rfl : m = m' := by
      rw [hm] at h2
      injection h2
    obtain ⟨A, B, e1, e2, hA, hB⟩ := left_split h2 h3 h4
    rw [e1, e2]
    exact srt_pick m A B (fun x hx => by
      obtain ⟨j, c1, c2, c3, c4⟩ := hA x hx
      exact h5 j x c1 c2 c3 c4) (fun x hx => by
      obtain ⟨j, c1, c2, c3, c4⟩ := hB x hx
      exact h6 j x c1 (List.getElem?_eq_some_iff.1 c2).1 c2 c3 c4)
end
theorem ready_len (ts : List Tick) (now : Int) : (readyT ts now).length ≤ ts.length := by
  rw [readyT, (srt_perm _).length_eq]
  exact List.length_filter_le _ _
/-- The row of what is gone, in memory. -/
def Gone (w : World) (g : Nat) (l : List Bool) : Prop := w.heap[g]? = some (.cells (l.map fun d => Value.bool d).toArray 4 (0, 0))
section
variable {w w' : World} {g p : Nat} {l : List Bool}
theorem Gone.lt (h : Gone w g l) : g < w.heap.size := lt_of_heap h
theorem Gone.cell (h : Gone w g l) {i : Nat} {d : Bool} (hi : l[i]? = some d) : w.cell? ⟨g, i, none⟩ = some (.bool d) := by
  rw [cell_of_row w g i _ _ _ h]
  simp [hi]
theorem Gone.frozen (h : Gone w g l) (i : Nat) : w.frozen? ⟨g, i, none⟩ = false := by
  unfold Gone at h
  simp [World.frozen?, h]
theorem Gone.keep (h : Gone w g l) (hk : w'.heap[g]? = w.heap[g]?) : Gone w' g l := hk.trans h
theorem Gone.below (h : Gone w g l) {B : Nat} (hB : g < B) (hb : Below B w w') : Gone w' g l := h.keep (hb.block g hB)
theorem Gone.set (h : Gone w g l) (i : Nat) (d : Bool) : Gone (w.setCell ⟨g, i, none⟩ (.bool d)) g (l.set i d) := by
  unfold Gone at h ⊢
  rw [heap_set h, List.setIfInBounds_toArray, List.map_set]
end
def slen : Value → Nat
  | .slice _ n _ => n
  | _ => 0
end ChunkW
end Go.Proofs.YtiochoppiohjnaaDoor
