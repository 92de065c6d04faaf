/-
  Pairs in memory: slices and arrays whose elements are two cells each; a chunk's block; rows that are filled.
-/
import Derived.Test.YtiochoppiohjnaaDoorBytesMemIn
import Derived.Test.YtiochoppiohjnaaDoorBytesPuts
import Derived.Test.YtiochoppiohjnaaDoorPackPlain
import Derived.Laws.Rows
namespace Go.Proofs.YtiochoppiohjnaaDoor
open Go.RowKit
set_option linter.unusedVariables false
set_option linter.unusedSimpArgs false
namespace PackW
open BytesW

def cv (c : Cell) : Value × Value := (bv c.1, bv c.2)
def tkv (t : Tick) : Value × Value := (.int .i64 t.1, .int .i64 t.2)
section
variable {α : Type} {f : α → Value × Value} {w w' : World} {A : Option Addr} {l : List α}
/-- The place A, with the list's length, holds these pairs. -/
def PairC (f : α → Value × Value) (w : World) (A : Option Addr) (l : List α) : Prop :=
  l ≠ [] → ∃ b o, A = some ⟨b, o, none⟩ ∧ b < w.heap.size ∧ ∀ (i : Nat) (x : α), l[i]? = some x → w.cell? ⟨b, o + i * 2, none⟩ = some (f x).1 ∧ w.cell? ⟨b, o + i * 2 + 1, none⟩ = some (f x).2
theorem PairC.nil : PairC f w A [] := fun h => absurd rfl h
theorem PairC.below (h : PairC f w A l) (hb : Below w.heap.size w w') : PairC f w' A l := fun hl => by
  obtain ⟨b, o, hA, hlt, hc⟩ := h hl
  exact ⟨b, o, hA, Nat.lt_of_lt_of_le hlt hb.size, fun i x hx => ⟨(hb.cell (p := ⟨b, o + i * 2, none⟩) hlt).trans (hc i x hx).1, (hb.cell (p := ⟨b, o + i * 2 + 1, none⟩) hlt).trans (hc i x hx).2⟩⟩
theorem PairC.cells (h : PairC f w A l) (hl : l ≠ []) : ∃ b o, A = some ⟨b, o, none⟩ ∧ b < w.heap.size ∧ ∀ (i : Nat) (x : α), l[i]? = some x → w.cell? ⟨b, o + i * 2, none⟩ = some (f x).1 ∧ w.cell? ⟨b, o + i * 2 + 1, none⟩ = some (f x).2 := h hl
theorem PairC.take (h : PairC f w A l) (k : Nat) : PairC f w A (l.take k) := fun hl => by
  obtain ⟨b, o, hA, hb, hc⟩ := h (fun e => hl (by rw [e]; simp))
  refine ⟨b, o, hA, hb, fun i x hx => hc i x ?_⟩
  rw [List.getElem?_take] at hx
  split at hx
  · exact hx
  · cases hx
/-- Pairs as cells. -/
def flatP (f : α → Value × Value) (l : List α) : List Value := l.flatMap fun x => [(f x).1, (f x).2]
theorem flatP_len (l : List α) : (flatP f l).length = 2 * l.length := by
  induction l with
  | nil => rfl
  | cons c r ih =>
    rw [flatP, List.flatMap_cons, List.length_append, ← flatP, ih]
    simp
    omega
theorem flatP_cons (c : α) (r : List α) : flatP f (c :: r) = (f c).1 :: (f c).2 :: flatP f r := rfl
theorem flatP_app (p q : List α) : flatP f (p ++ q) = flatP f p ++ flatP f q := by simp [flatP]
theorem flatP_get : ∀ {p : List α} {j : Nat} {c : α}, p[j]? = some c → (flatP f p)[j * 2]? = some (f c).1 ∧ (flatP f p)[j * 2 + 1]? = some (f c).2
  | x :: r, 0, c, h => by
    have : x = c := by simpa using h
    subst this
    simp [flatP_cons]
  | x :: r, j + 1, c, h => by
    have := flatP_get (p := r) (j := j) (c := c) (by simpa using h)
    rw [flatP_cons, show (j + 1) * 2 = j * 2 + 2 by omega, show j * 2 + 2 + 1 = (j * 2 + 1) + 2 by omega]
    simpa using this
theorem flatP_set : ∀ {p : List α} {j : Nat} {c : α}, j < p.length → ((flatP f p).set (j * 2) (f c).1).set (j * 2 + 1) (f c).2 = flatP f (p.set j c)
  | [], j, c, h => by simp at h
  | x :: r, 0, c, h => by simp [flatP_cons]
  | x :: r, j + 1, c, h => by
    have := flatP_set (p := r) (j := j) (c := c) (by simpa using h)
    rw [flatP_cons, List.set_cons_succ, flatP_cons, ← this, show (j + 1) * 2 = j * 2 + 2 by omega, show j * 2 + 2 + 1 = (j * 2 + 1) + 2 by omega]
    rfl
/-- A row of pairs of the call's own. -/
def OwnP (f : α → Value × Value) (E : TypeId) (w : World) (B : Nat) (v : Value) (l : List α) : Prop := w.ownsRow B E 2 v l.length (flatP f l)
theorem OwnP.pairs {E : TypeId} {B : Nat} {v : Value} (h : OwnP f E w B v l) : ∃ A c, v = .slice A l.length c ∧ PairC f w A l ∧ l.length ≤ c ∧ c ≤ maxLen := by
  unfold OwnP at h
  have hlt := World.ownsRow.lt h
  rcases h.2 with ⟨rfl, hn⟩ | ⟨g, cap, cur, rfl, _, hg, hn, hc, hs, ht⟩
  · have : l = [] := List.eq_nil_of_length_eq_zero hn
    subst this
    exact ⟨none, 0, rfl, PairC.nil, by simp, by simp [maxLen]⟩
  · refine ⟨_, cap, rfl, fun _ => ⟨g, 0, rfl, (hlt g rfl).2, fun i x hx => ?_⟩, hn, hc⟩
    have hi := (List.getElem?_eq_some_iff.1 hx).1
    obtain ⟨h1, h2⟩ := flatP_get (f := f) hx
    rw [← ht, List.getElem?_take] at h1 h2
    rw [Nat.zero_add, cell_of_row w g _ _ _ _ hg, cell_of_row w g _ _ _ _ hg, ← Array.getElem?_toList, ← Array.getElem?_toList]
    constructor
    · split at h1
      · exact h1
      · cases h1
    · split at h2
      · exact h2
      · cases h2
theorem OwnP.nil (E : TypeId) (w : World) (B : Nat) : OwnP f E w B (.slice none 0 0) [] := World.ownsRow_nil w B _ 2
theorem OwnP.below {E : TypeId} {B : Nat} {v : Value} (h : OwnP f E w B v l) (hb : Below w.heap.size w w') : OwnP f E w' B v l := by
  unfold OwnP at h ⊢
  exact h.kept (row := none) ⟨hb.os, hb.tape, hb.output, hb.size, fun k hk _ => hb.block k hk⟩ (by cases h' : v.ownBlock <;> simp)
theorem OwnP.alloc {E : TypeId} {B : Nat} {v : Value} (h : OwnP f E w B v l) (o : Obj) : OwnP f E (w.alloc o) B v l := World.ownsRow.alloc h o
theorem OwnP.mono {E : TypeId} {B B' : Nat} {v : Value} (h : OwnP f E w B v l) (hB : B' ≤ B) : OwnP f E w B' v l := by
  unfold OwnP at h ⊢
  refine ⟨h.1, ?_⟩
  rcases h.2 with h1 | ⟨g, cap, cur, h2, h3, h4⟩
  · exact .inl h1
  · exact .inr ⟨g, cap, cur, h2, Nat.le_trans hB h3, h4⟩
/-- The same, of a block whose type is known. -/
def PairA (f : α → Value × Value) (E : TypeId) (w : World) (A : Option Addr) (l : List α) : Prop :=
  l ≠ [] → ∃ b o cs fr, A = some ⟨b, o, none⟩ ∧ w.heap[b]? = some (.cells cs E fr) ∧ ∀ (i : Nat) (x : α), l[i]? = some x → cs[o + i * 2]? = some (f x).1 ∧ cs[o + i * 2 + 1]? = some (f x).2
theorem PairA.nil {E : TypeId} : PairA f E w A [] := fun h => absurd rfl h
theorem PairA.c {E : TypeId} (h : PairA f E w A l) : PairC f w A l := fun hl => by
  obtain ⟨b, o, cs, fr, hA, hb, hc⟩ := h hl
  exact ⟨b, o, hA, lt_of_heap hb, fun i x hx => ⟨(cell_of_row w b _ cs _ fr hb).trans (hc i x hx).1, (cell_of_row w b _ cs _ fr hb).trans (hc i x hx).2⟩⟩
theorem PairA.keep {E : TypeId} (h : PairA f E w A l) (hk : ∀ (b : Nat) (cs : Array Value) (fr : Nat × Nat), w.heap[b]? = some (Obj.cells cs E fr) → w'.heap[b]? = w.heap[b]?) : PairA f E w' A l := fun hl => by
  obtain ⟨b, o, cs, fr, hA, hb, hc⟩ := h hl
  exact ⟨b, o, cs, fr, hA, (hk b cs fr hb).trans hb, hc⟩
theorem PairA.below {E : TypeId} (h : PairA f E w A l) (hb : Below w.heap.size w w') : PairA f E w' A l := h.keep fun b cs fr hh => hb.block b (lt_of_heap hh)
/-- Another block, of another type, is written. -/
theorem PairA.grown {E : TypeId} (h : PairA f E w A l) {p : Nat} {cs' : Array Value} {t : TypeId} {fr' : Nat × Nat} (hp : w.heap[p]? = some (.cells cs' t fr')) (ht : t ≠ E) (hg : w.grownBy w' (some p)) : PairA f E w' A l := h.keep fun b cs fr hh => hg.block b (lt_of_heap hh) (fun e => by
  injection e with e
  subst e
  rw [hp] at hh
  injection hh with hh
  injection hh with _ h2
  exact ht h2)
theorem OwnP.typed {E : TypeId} {B : Nat} {v : Value} (h : OwnP f E w B v l) : ∃ A c, v = .slice A l.length c ∧ PairA f E w A l ∧ l.length ≤ c ∧ c ≤ maxLen := by
  unfold OwnP at h
  rcases h.2 with ⟨rfl, hn⟩ | ⟨g, cap, cur, rfl, _, hg, hn, hc, hs, ht⟩
  · have : l = [] := List.eq_nil_of_length_eq_zero hn
    subst this
    exact ⟨none, 0, rfl, PairA.nil, by simp, by simp [maxLen]⟩
  · refine ⟨_, cap, rfl, fun _ => ⟨g, 0, cur, (0, 0), rfl, hg, fun i x hx => ?_⟩, hn, hc⟩
    obtain ⟨h1, h2⟩ := flatP_get (f := f) hx
    rw [← ht, List.getElem?_take] at h1 h2
    rw [Nat.zero_add, ← Array.getElem?_toList, ← Array.getElem?_toList]
    constructor
    · split at h1
      · exact h1
      · cases h1
    · split at h2
      · exact h2
      · cases h2
end

/-- A chunk's cells. -/
def ckV (C L : List Cell) (v : Value) : List Value := flatP cv C ++ (flatP cv L ++ [v])
/-- The block p is a chunk: its cells, its lights, what its ticks' slice is. -/
def Chk (w : World) (p : Nat) (C L : List Cell) (v : Value) : Prop := w.heap[p]? = some (.cells (ckV C L v).toArray 44 (0, 0)) ∧ C.length = 4096 ∧ L.length = 4096
section
variable {w w' : World} {p : Nat} {C L : List Cell} {v : Value}
theorem ckV_len (hC : C.length = 4096) (hL : L.length = 4096) : (ckV C L v).length = 16385 := by
  simp only [ckV, List.length_append, flatP_len, hC, hL, List.length_cons, List.length_nil]
theorem ckV_c (hC : C.length = 4096) {j : Nat} {c : Cell} (h : C[j]? = some c) : (ckV C L v)[j * 2]? = some (bv c.1) ∧ (ckV C L v)[j * 2 + 1]? = some (bv c.2) := by
  have hj : j < C.length := (List.getElem?_eq_some_iff.1 h).1
  have hl := flatP_len (f := cv) C
  obtain ⟨h1, h2⟩ := flatP_get (f := cv) h
  rw [ckV, List.getElem?_append_left (by omega), List.getElem?_append_left (by omega)]
  exact ⟨h1, h2⟩
theorem ckV_l (hC : C.length = 4096) {j : Nat} {c : Cell} (h : L[j]? = some c) : (ckV C L v)[8192 + j * 2]? = some (bv c.1) ∧ (ckV C L v)[8192 + j * 2 + 1]? = some (bv c.2) := by
  have hj : j < L.length := (List.getElem?_eq_some_iff.1 h).1
  have hl := flatP_len (f := cv) C
  have hl2 := flatP_len (f := cv) L
  obtain ⟨h1, h2⟩ := flatP_get (f := cv) h
  have q : ∀ k, k < 2 * L.length → (ckV C L v)[8192 + k]? = (flatP cv L)[k]? := fun k hk => by
    rw [ckV, List.getElem?_append_right (by omega), List.getElem?_append_left (by omega), hl, hC, show 8192 + k - 2 * 4096 = k by omega]
  rw [q _ (by omega), Nat.add_assoc, q _ (by omega)]
  exact ⟨h1, h2⟩
theorem ckV_t (hC : C.length = 4096) (hL : L.length = 4096) : (ckV C L v)[16384]? = some v := by
  have hl := flatP_len (f := cv) C
  have hl2 := flatP_len (f := cv) L
  rw [ckV, List.getElem?_append_right (by omega), List.getElem?_append_right (by omega), hl, hl2, hC, hL]
  rfl
theorem ckV_setC (hC : C.length = 4096) {j : Nat} {c : Cell} (h : j < 4096) : ((ckV C L v).set (j * 2) (bv c.1)).set (j * 2 + 1) (bv c.2) = ckV (C.set j c) L v := by
  have hl := flatP_len (f := cv) C
  rw [ckV, List.set_append_left _ _ (by omega), List.set_append_left _ _ (by simp; omega)]
  rw [show bv c.1 = (cv c).1 from rfl, show bv c.2 = (cv c).2 from rfl, flatP_set (by omega)]
  rfl
theorem ckV_setL (hC : C.length = 4096) (hL : L.length = 4096) {j : Nat} {c : Cell} (h : j < 4096) : ((ckV C L v).set (8192 + j * 2) (bv c.1)).set (8192 + j * 2 + 1) (bv c.2) = ckV C (L.set j c) v := by
  have hl := flatP_len (f := cv) C
  have hl2 := flatP_len (f := cv) L
  rw [ckV, List.set_append_right _ _ (by omega), List.set_append_right _ _ (by omega), List.set_append_left _ _ (by omega), List.set_append_left _ _ (by simp; omega)]
  rw [show bv c.1 = (cv c).1 from rfl, show bv c.2 = (cv c).2 from rfl, hl, hC, show 8192 + j * 2 - 2 * 4096 = j * 2 by omega, show 8192 + j * 2 + 1 - 2 * 4096 = j * 2 + 1 by omega, flatP_set (by omega)]
  rfl
theorem ckV_setT (hC : C.length = 4096) (hL : L.length = 4096) {u : Value} : (ckV C L v).set 16384 u = ckV C L u := by
  have hl := flatP_len (f := cv) C
  have hl2 := flatP_len (f := cv) L
  rw [ckV, List.set_append_right _ _ (by omega), List.set_append_right _ _ (by omega), hl, hl2, hC, hL]
  rfl
theorem Chk.lt (h : Chk w p C L v) : p < w.heap.size := lt_of_heap h.1
theorem Chk.cell (h : Chk w p C L v) (i : Nat) : w.cell? ⟨p, i, none⟩ = (ckV C L v)[i]? := by
  rw [cell_of_row w p i _ _ _ h.1]
  simp
theorem Chk.frozen (h : Chk w p C L v) (i : Nat) : w.frozen? ⟨p, i, none⟩ = false := by simp [World.frozen?, h.1]
theorem Chk.atC (h : Chk w p C L v) : PairC cv w (some ⟨p, 0, none⟩) C := fun _ => ⟨p, 0, rfl, h.lt, fun i x hx => by
  obtain ⟨a, b⟩ := ckV_c (L := L) (v := v) h.2.1 hx
  rw [Nat.zero_add, h.cell, h.cell]
  exact ⟨a, b⟩⟩
theorem Chk.atL (h : Chk w p C L v) : PairC cv w (some ⟨p, 8192, none⟩) L := fun _ => ⟨p, 8192, rfl, h.lt, fun i x hx => by
  obtain ⟨a, b⟩ := ckV_l (L := L) (v := v) h.2.1 hx
  rw [h.cell, h.cell]
  exact ⟨a, b⟩⟩
theorem Chk.t (h : Chk w p C L v) : w.cell? ⟨p, 16384, none⟩ = some v := (h.cell 16384).trans (ckV_t h.2.1 h.2.2)
theorem Chk.keep (h : Chk w p C L v) (hk : w'.heap[p]? = w.heap[p]?) : Chk w' p C L v := ⟨hk.trans h.1, h.2⟩
theorem Chk.below (h : Chk w p C L v) (hb : Below w.heap.size w w') : Chk w' p C L v := h.keep (hb.block p h.lt)
theorem Chk.setC (h : Chk w p C L v) {j : Nat} (hj : j < 4096) (c : Cell) : Chk ((w.setCell ⟨p, j * 2, none⟩ (bv c.1)).setCell ⟨p, j * 2 + 1, none⟩ (bv c.2)) p (C.set j c) L v := by
  refine ⟨?_, by simp [h.2.1], h.2.2⟩
  rw [heap_set (heap_set h.1 _ _), List.setIfInBounds_toArray, List.setIfInBounds_toArray, ckV_setC h.2.1 hj]
theorem Chk.setL (h : Chk w p C L v) {j : Nat} (hj : j < 4096) (c : Cell) : Chk ((w.setCell ⟨p, 8192 + j * 2, none⟩ (bv c.1)).setCell ⟨p, 8192 + j * 2 + 1, none⟩ (bv c.2)) p C (L.set j c) v := by
  refine ⟨?_, h.2.1, by simp [h.2.2]⟩
  rw [heap_set (heap_set h.1 _ _), List.setIfInBounds_toArray, List.setIfInBounds_toArray, ckV_setL h.2.1 h.2.2 hj]
theorem Chk.setT (h : Chk w p C L v) (u : Value) : Chk (w.setCell ⟨p, 16384, none⟩ u) p C L u := by
  refine ⟨?_, h.2⟩
  rw [heap_set h.1, List.setIfInBounds_toArray, ckV_setT h.2.1 h.2.2]
end

theorem at_chk {w w' : World} {p : Nat} {C L : List Cell} {v : Value} {A : Option Addr} {l : List UInt8} (h : At w A l) (hp : Chk w p C L v) (hg : w.grownBy w' (some p)) : At w' A l := h.grown hp.1 (by decide) hg
theorem pair_chk {w w' : World} {p : Nat} {C L : List Cell} {v : Value} {A : Option Addr} {α : Type} {f : α → Value × Value} {E : TypeId} {l : List α} (h : PairA f E w A l) (hE : 44 ≠ E) (hp : Chk w p C L v) (hg : w.grownBy w' (some p)) : PairA f E w' A l := h.grown hp.1 hE hg
/-- A row that is filled, one by one: its first j values are there, the others are z. -/
def fillL (l : List Value) (j n : Nat) (z : Value) : List Value := l.take j ++ List.replicate (n - j) z
theorem fillL_zero (l : List Value) (n : Nat) (z : Value) : fillL l 0 n z = List.replicate n z := by simp [fillL]
theorem fillL_all (l : List Value) (z : Value) : fillL l l.length l.length z = l := by simp [fillL]
theorem fillL_len {l : List Value} {j n : Nat} {z : Value} (hn : l.length = n) (hj : j ≤ n) : (fillL l j n z).length = n := by
  simp [fillL, hn]
  omega
theorem fillL_set {l : List Value} {j n : Nat} {z x : Value} (hx : l[j]? = some x) (hn : l.length = n) : (fillL l j n z).set j x = fillL l (j + 1) n z := by
  obtain ⟨hj, e⟩ := List.getElem?_eq_some_iff.1 hx
  have h1 : (l.take j).length = j := by simp; omega
  rw [fillL, fillL, List.set_append_right _ _ (by omega), h1, Nat.sub_self, show n - j = (n - (j + 1)) + 1 by omega, List.replicate_succ, List.set_cons_zero, List.take_succ_eq_append_getElem hj, e]
  simp
theorem fillL_start (l : List Value) (n : Nat) (z : Value) : Array.replicate n z = (fillL l 0 n z).toArray := by rw [fillL_zero, List.toArray_replicate]
theorem fillL_last {l : List Value} {j n : Nat} {z : Value} (hj : j < n) (hn : l.length = n) : (fillL l j n z)[j]? = some z := by
  have h1 : (l.take j).length = j := by simp; omega
  rw [fillL, List.getElem?_append_right (by omega), h1, Nat.sub_self, List.getElem?_replicate, if_pos (by omega)]
theorem heap_setSz (w : World) (a : Addr) (v : Value) : (w.setCell a v).heap.size = w.heap.size := by simp [World.setCell]
/-- A row that is full is the call's own. -/
theorem own_full {w : World} {B g n : Nat} {l : List UInt8} (hg : w.heap[g]? = some (.cells (l.map bv).toArray 5 (0, 0))) (hB : B ≤ g) (hn : n = l.length) (hm : l.length ≤ 1000000) : BytesW.Own w B (.slice (some ⟨g, 0, none⟩) n n) l := by
  subst hn
  refine ⟨by simp, .inr ⟨g, _, _, rfl, hB, hg, Nat.le_refl _, by unfold maxLen; omega, by simp, ?_⟩⟩
  simp only [Nat.mul_one]
  exact List.take_of_length_le (by simp)
theorem gdrew {w w' : World} {r : Option Nat} (h : w.grownBy w' r) : w.grownBy w'.drew r := ⟨h.os, h.tape, h.output, h.size, h.block⟩
theorem upd_set {α : Type} {a L : List α} {j : Nat} {x : α} (ha : a.length = j) (hj : j < L.length) : (a ++ L.drop j).set j x = (a ++ [x]) ++ L.drop (j + 1) := by
  rw [List.set_append_right _ _ (by omega), ha, Nat.sub_self, List.drop_eq_getElem_cons hj, List.set_cons_zero]
  simp
end PackW
end Go.Proofs.YtiochoppiohjnaaDoor


/-
  A new chunk.
-/
namespace Go.Proofs.YtiochoppiohjnaaDoor
open Go.RowKit
set_option maxRecDepth 1000000
set_option linter.unusedSimpArgs false
namespace PackW
open BytesW
def zeros : List Cell := List.replicate 4096 (0, 0)
theorem zeros_len : zeros.length = 4096 := List.length_replicate
def zCk : Array Value := (ckV zeros zeros (.slice none 0 0)).toArray
theorem infoChunk : (Tryd.prog.info? 44).map (fun i => (i.zero, i.size, i.bytes)) = some (some (.agg zCk), 16385, 16408) := by kernel_rfl
theorem run_build (w : World) : (Instr.build 44 #[]).run Tryd.prog w = .ok (.agg zCk) w := by kernel_rfl
theorem run_alloc (w : World) : (Instr.alloc 44 true (.tuple #[])).run Tryd.prog w = .ok (.pointer (some ⟨w.heap.size, 0, none⟩)) (w.alloc (.cells zCk 44)) := by kernel_rfl
theorem run_box (w : World) : (Instr.box 44 (.agg zCk)).run Tryd.prog w = .ok (.pointer (some ⟨w.heap.size, 0, none⟩)) (w.alloc (.cells zCk 44)) := by kernel_rfl
theorem chk_new (w : World) : Chk (w.alloc (.cells zCk 44)) w.heap.size zeros zeros (.slice none 0 0) := ⟨by rw [heap_alloc_new]; rfl, zeros_len, zeros_len⟩
section
variable {w : World} {ops : Array Oper} {rest : List Oper} {o : Oper} {a : Act} {Q : Exit → Act → World → Prop}
theorem wp_build (hgd : o.guard = none) (ho : o.op = .build 44 #[]) (h : wpList Tryd.prog ops Q rest (a.put o.dst (.agg zCk)) w) : wpList Tryd.prog ops Q (o :: rest) a w := by
  refine wpList_plain hgd fun K hK => ?_
  have hr := run_build w
  unfold Oper.wp execOp
  simp only [ho, List.map_toArray, List.map_nil, Sem.run_bind, Sem.run_pure, Result.andThen_ok, hr]
  exact hK _ _ h
theorem wp_box (hgd : o.guard = none) (x : Operand) (ho : o.op = .box 44 x) (hx : a.eval x = .agg zCk)
    (h : ∀ w', Chk w' w.heap.size zeros zeros (.slice none 0 0) → Below w.heap.size w w' → w'.heap.size = w.heap.size + 1 → wpList Tryd.prog ops Q rest (a.put o.dst (.pointer (some ⟨w.heap.size, 0, none⟩))) w') : wpList Tryd.prog ops Q (o :: rest) a w := by
  refine wpList_plain hgd fun K hK => ?_
  have hr := run_box w
  unfold Oper.wp execOp
  simp only [ho, hx, Sem.run_bind, Sem.run_pure, Result.andThen_ok, hr]
  exact hK _ _ (h _ (chk_new w) ((Below.refl _ w).alloc (Nat.le_refl _) _) (by simp))
theorem wp_allocC (hgd : o.guard = none) (ho : o.op = .alloc 44)
    (h : ∀ w', Chk w' w.heap.size zeros zeros (.slice none 0 0) → Below w.heap.size w w' → w'.heap.size = w.heap.size + 1 → wpList Tryd.prog ops Q rest (a.put o.dst (.pointer (some ⟨w.heap.size, 0, none⟩))) w') : wpList Tryd.prog ops Q (o :: rest) a w := by
  refine wpList_plain hgd fun K hK => ?_
  have hr := run_alloc w
  unfold Oper.wp execOp
  simp only [ho, Sem.run_bind, Sem.run_pure, Result.andThen_ok, hr]
  exact hK _ _ (h _ (chk_new w) ((Below.refl _ w).alloc (Nat.le_refl _) _) (by simp))
end
end PackW
end Go.Proofs.YtiochoppiohjnaaDoor
