/-
  A store of one tick's Due in a row of the call's own.
-/
import Derived.Test.YtiodbbdibkeniaaDoorChunkReady
namespace Go.Proofs.YtiodbbdibkeniaaDoor
open Go.RowKit
set_option linter.unusedVariables false
set_option linter.unusedSimpArgs false
namespace ChunkW
open BytesW PackW SortW

theorem flatP_setDue {l : List Tick} {j : Nat} {t : Tick} (ht : l[j]? = some t) (d : Int) : (flatP tkv l).set (j * 2 + 1) (.int .i64 d) = flatP tkv (l.set j (t.1, d)) := by
  rw [← flatP_set (f := tkv) (List.getElem?_eq_some_iff.1 ht).1]
  congr 1
  have h := (flatP_get (f := tkv) ht).1
  obtain ⟨h1, h2⟩ := List.getElem?_eq_some_iff.1 h
  have : (tkv t).1 = (tkv (t.1, d)).1 := rfl
  rw [this] at h2
  rw [← h2, List.set_getElem_self]
/-- A row of n ticks: where the j-th lies, and what a store of its Due leaves. -/
theorem own_due {w : World} {B n tc j : Nat} {TA : Option Addr} {l : List Tick} (hO : OwnP tkv 63 w B (.slice TA n tc) l) (hn : n = l.length) (hj : j < n) :
    ∃ g t, TA = some ⟨g, 0, none⟩ ∧ l[j]? = some t ∧ B ≤ g ∧ (∃ cs, w.heap[g]? = some (.cells cs 63 (0, 0))) ∧ w.cell? ⟨g, j * 2 + 1, none⟩ = some (.int .i64 t.2) ∧
      ∀ d, OwnP tkv 63 (w.setCell ⟨g, j * 2 + 1, none⟩ (.int .i64 d)) B (.slice TA n tc) (l.set j (t.1, d)) := by
  obtain ⟨t, ht⟩ : ∃ t, l[j]? = some t := ⟨_, List.getElem?_eq_getElem (by omega)⟩
  have hO2 := hO
  unfold OwnP at hO
  rcases hO.2 with ⟨e, h0⟩ | ⟨g, cap, cur, e, hB, hg, h1, h2, h3, h4⟩
  · omega
  · injection e with e1 e2 e3
    subst e1 e3
    have hR : Row w B g n tc l := ⟨hO2, hn⟩
    refine ⟨g, t, rfl, ht, hB, ⟨cur, hg⟩, (hR.at ht).2, fun d => ?_⟩
    unfold OwnP
    refine ⟨by simp [flatP_len]; omega, .inr ⟨g, tc, cur.setIfInBounds (j * 2 + 1) (.int .i64 d), by simp [hn], hB, by rw [heap_set hg], by simpa using h1, h2, by simp [h3], ?_⟩⟩
    rw [Array.toList_setIfInBounds, List.length_set, List.take_set, h4]
    exact flatP_setDue ht d
theorem chk_otherSet {w : World} {p g i : Nat} {C L : List Cell} {v u : Value} {cs : Array Value} (h : Chk w p C L v) (hg : w.heap[g]? = some (.cells cs 63 (0, 0))) : Chk (w.setCell ⟨g, i, none⟩ u) p C L v := by
  refine h.keep (Below.heap_setCell _ _ _ _ fun e => ?_)
  have e2 : p = g := by simpa using e
  subst e2
  rw [h.1] at hg
  cases hg
/-- All Due of a list set to d. -/
def dueAll (d : Int) (l : List Tick) : List Tick := l.map fun t => (t.1, d)
theorem due_step {d : Int} {l : List Tick} {j : Nat} {t : Tick} (ht : (dueAll d (l.take j) ++ l.drop j)[j]? = some t) (hj : j < l.length) : (dueAll d (l.take j) ++ l.drop j).set j (t.1, d) = dueAll d (l.take (j + 1)) ++ l.drop (j + 1) := by
  have hlen : (dueAll d (l.take j)).length = j := by simp [dueAll]; omega
  rw [List.getElem?_append_right (by omega), hlen, Nat.sub_self, List.drop_eq_getElem_cons hj] at ht
  simp only [List.getElem?_cons_zero, Option.some.injEq] at ht
  subst ht
  rw [List.set_append_right _ _ (by omega), hlen, Nat.sub_self, List.drop_eq_getElem_cons hj, List.set_cons_zero, List.take_add_one, List.getElem?_eq_getElem hj, Option.toList]
  simp only [dueAll, List.map_append, List.map_cons, List.map_nil, List.append_assoc, List.cons_append, List.nil_append]
end ChunkW
end Go.Proofs.YtiodbbdibkeniaaDoor
