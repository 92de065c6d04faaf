/-
  What is due at each index, as a row of numbers; how many ticks lie ahead of an index.
-/
import Derived.Test.YtiochoppiohjnaaDoorChunkReady
import Derived.Test.YtiochoppiohjnaaDoorChunkActs
namespace Go.Proofs.YtiochoppiohjnaaDoor
open Go.RowKit
set_option linter.unusedVariables false
set_option linter.unusedSimpArgs false
namespace ChunkW
open BytesW PackW

/-- What is due at each index. -/
def dues (ts : List Tick) : List Int := (List.range 4096).map fun i : Nat => dueL (i : Int) ts
theorem dues_len (ts : List Tick) : (dues ts).length = 4096 := by simp [dues]
theorem dues_get {ts : List Tick} {i : Nat} (h : i < 4096) : (dues ts)[i]? = some (dueL (i : Int) ts) := by simp [dues, h]
theorem dues_set {ts us : List Tick} {k : Nat} {v : Int} (hk : k < 4096) (h : ∀ j : Int, dueL j us = if j = (k : Int) then v else dueL j ts) : dues us = (dues ts).set k v := by
  apply List.ext_getElem?
  intro i
  by_cases hi : i < 4096
  · rw [dues_get hi, h, List.getElem?_set]
    by_cases e : k = i
    · subst e
      rw [if_pos rfl, if_pos rfl, if_pos (by rw [dues_len]; exact hi)]
    · rw [if_neg (by omega), if_neg e, dues_get hi]
  · rw [List.getElem?_eq_none (by rw [dues_len]; omega), List.getElem?_eq_none (by rw [List.length_set, dues_len]; omega)]
theorem dues_nil : dues [] = List.replicate 4096 0 := by
  apply List.ext_getElem?
  intro i
  by_cases hi : i < 4096
  · rw [dues_get hi, List.getElem?_replicate, if_pos hi]
    rfl
  · rw [List.getElem?_eq_none (by rw [dues_len]; omega), List.getElem?_eq_none (by rw [List.length_replicate]; omega)]
/-- How many ticks are ahead of an index. -/
def cntT (j : Int) : List Tick → Nat
  | [] => 0
  | t :: r => if t.1 < j then cntT j r + 1 else 0
theorem cnt_none {j : Int} : ∀ {l : List Tick} {n : Int}, up n l → j ≤ n → cntT j l = 0
  | [], _, _, _ => rfl
  | t :: r, n, h, hj => by rw [cntT, if_neg (by have := h.1; omega)]
theorem cnt_all : ∀ {l : List Tick} {n : Int}, up n l → cntT 4096 l = l.length
  | [], _, _ => rfl
  | t :: r, n, h => by rw [cntT, if_pos h.2.1, cnt_all h.2.2.2, List.length_cons]
theorem cnt_le {j : Int} : ∀ l : List Tick, cntT j l ≤ l.length
  | [] => by simp [cntT]
  | t :: r => by
    rw [cntT]
    split
    · have := cnt_le (j := j) r
      simp
      omega
    · simp
theorem cnt_yes {j : Int} : ∀ {l : List Tick} {n : Int}, up n l → dueL j l ≠ 0 → l[cntT j l]? = some (j, dueL j l) ∧ cntT (j + 1) l = cntT j l + 1
  | [], _, _, h => absurd rfl h
  | t :: r, n, hu, h => by
    obtain ⟨h1, h2, h3, h4⟩ := hu
    by_cases hlt : t.1 < j
    · have e : dueL j (t :: r) = dueL j r := by rw [dueL, if_neg (by omega)]
      rw [e] at h ⊢
      obtain ⟨a, b⟩ := cnt_yes h4 h
      rw [cntT, if_pos hlt, cntT, if_pos (by omega), b]
      exact ⟨by simpa using a, rfl⟩
    · by_cases he : t.1 = j
      · have e : dueL j (t :: r) = t.2 := by rw [dueL, if_pos he]
        rw [e, cntT, if_neg hlt, cntT, if_pos (by omega), cnt_none h4 (by omega)]
        obtain ⟨a, b⟩ := t
        simp only at he
        subst he
        exact ⟨rfl, rfl⟩
      · rw [dueL, if_neg he, due_up h4 (by omega)] at h
        exact absurd rfl h
theorem cnt_no {j : Int} : ∀ {l : List Tick} {n : Int}, up n l → dueL j l = 0 → cntT (j + 1) l = cntT j l
  | [], _, _, _ => rfl
  | t :: r, n, hu, h => by
    obtain ⟨h1, h2, h3, h4⟩ := hu
    by_cases hlt : t.1 < j
    · rw [dueL, if_neg (by omega)] at h
      rw [cntT, if_pos (by omega), cntT, if_pos hlt, cnt_no h4 h]
    · by_cases he : t.1 = j
      · rw [dueL, if_pos he] at h
        omega
      · rw [cntT, if_neg (by omega), cntT, if_neg hlt]
theorem drop_no {l : List Tick} {i : Int} (h : isIx i = false) : dropT l i = l := by rw [dropT, findT, if_neg (by rw [h]; simp)]
theorem wake_no {l : List Tick} {i d : Int} (h : isIx i = false ∨ d < 1) : wakeT l i d = l := by rw [wakeT, if_pos h]
theorem isIx_false {i : Int} (h : i < 0 ∨ 4096 ≤ i) : isIx i = false := by
  unfold isIx
  rcases h with h | h
  · rw [decide_eq_false (by omega), Bool.false_and]
  · rw [decide_eq_false (p := i < 4096) (by omega), Bool.and_false]
theorem isIx_true {k : Nat} (h : k < 4096) : isIx (k : Int) = true := by
  unfold isIx
  rw [decide_eq_true (by omega), decide_eq_true (by omega)]
  rfl
theorem drop_dues {l : List Tick} {k : Nat} (hu : up 0 l) (hk : k < 4096) : up 0 (dropT l k) ∧ dues (dropT l k) = (dues l).set k 0 := by
  rw [del_is (isIx_true hk)]
  exact ⟨up_del hu, dues_set hk fun j => due_del hu⟩
theorem wake_dues {l : List Tick} {k : Nat} {d : Int} (hu : up 0 l) (hk : k < 4096) (hd : 1 ≤ d) : up 0 (wakeT l k d) ∧ dues (wakeT l k d) = (dues l).set k (if dueL k l = 0 ∨ d < dueL k l then d else dueL k l) := by
  rw [put_is (isIx_true hk) hd hu]
  exact ⟨up_put hd (by omega) (by omega) hu, dues_set hk fun j => due_put hd hu⟩
theorem set_same {l : List Int} {k : Nat} {v : Int} (h : l[k]? = some v) : l.set k v = l := by
  obtain ⟨hk, e⟩ := List.getElem?_eq_some_iff.1 h
  rw [← e]
  simp
theorem wake_put {l : List Tick} {k : Nat} {d : Int} (hu : up 0 l) (hk : k < 4096) (hd : 1 ≤ d) (h : dueL k l = 0 ∨ d < dueL k l) : up 0 (wakeT l k d) ∧ dues (wakeT l k d) = (dues l).set k d := by
  have := wake_dues hu hk hd
  rwa [if_pos h] at this
theorem wake_keep {l : List Tick} {k : Nat} {d : Int} (hu : up 0 l) (hk : k < 4096) (hd : 1 ≤ d) (h : ¬ (dueL k l = 0 ∨ d < dueL k l)) : up 0 (wakeT l k d) ∧ dues (wakeT l k d) = dues l := by
  have := wake_dues hu hk hd
  rwa [if_neg h, set_same (dues_get hk)] at this
/-- The row of what is due, in memory. -/
def Due64 (w : World) (g : Nat) (l : List Int) : Prop := w.heap[g]? = some (.cells (l.map fun d => Value.int .i64 d).toArray 2 (0, 0)) ∧ l.length = 4096
section
variable {w w' : World} {g p : Nat} {l : List Int}
theorem Due64.lt (h : Due64 w g l) : g < w.heap.size := lt_of_heap h.1
theorem Due64.cell (h : Due64 w g l) {i : Nat} {d : Int} (hi : l[i]? = some d) : w.cell? ⟨g, i, none⟩ = some (.int .i64 d) := by
  rw [cell_of_row w g i _ _ _ h.1]
  simp [hi]
theorem Due64.frozen (h : Due64 w g l) (i : Nat) : w.frozen? ⟨g, i, none⟩ = false := by simp [World.frozen?, h.1]
theorem Due64.keep (h : Due64 w g l) (hk : w'.heap[g]? = w.heap[g]?) : Due64 w' g l := ⟨hk.trans h.1, h.2⟩
theorem Due64.below (h : Due64 w g l) (hb : Below w.heap.size w w') : Due64 w' g l := h.keep (hb.block g h.lt)
theorem Due64.grown (h : Due64 w g l) (hne : g ≠ p) (hg : w.grownBy w' (some p)) : Due64 w' g l := h.keep (hg.block g h.lt fun e => hne (by injection e))
theorem Due64.set (h : Due64 w g l) (i : Nat) (d : Int) : Due64 (w.setCell ⟨g, i, none⟩ (.int .i64 d)) g (l.set i d) := by
  refine ⟨?_, by rw [List.length_set]; exact h.2⟩
  rw [heap_set h.1, List.setIfInBounds_toArray, List.map_set]
end
theorem grown_below {w w1 w2 : World} {p : Nat} (hb : Below w.heap.size w w1) (hg : w1.grownBy w2 (some p)) (hp : w.heap.size ≤ p) : Below w.heap.size w w2 :=
  hb.trans ⟨hg.os, hg.tape, hg.output, hg.size, fun k hk => hg.block k (Nat.lt_of_lt_of_le hk hb.size) (fun e => by injection e with e; omega)⟩
theorem ckk_grown {w w' : World} {p g : Nat} {k : Ck} (h : ChkK w p k) (hs : ∀ A c, Chk w p k.cs k.ls (.slice A k.ts.length c) → PairC tkv w A k.ts → ∀ b o, A = some ⟨b, o, none⟩ → k.ts ≠ [] → b ≠ g) (hne : p ≠ g) (hg : w.grownBy w' (some g)) : ChkK w' p k := by
  obtain ⟨A, c, h1, h2, h3⟩ := h
  refine ⟨A, c, h1.keep (hg.block p h1.lt fun e => hne (by injection e)), fun hl => ?_, h3⟩
  obtain ⟨b, o, e, hb, hc⟩ := h2 hl
  have hbg := hs A c h1 h2 b o e hl
  exact ⟨b, o, e, Nat.lt_of_lt_of_le hb hg.size, fun i x hx => ⟨cellG (hc i x hx).1 hb hbg hg, cellG (hc i x hx).2 hb hbg hg⟩⟩
end ChunkW
end Go.Proofs.YtiochoppiohjnaaDoor
