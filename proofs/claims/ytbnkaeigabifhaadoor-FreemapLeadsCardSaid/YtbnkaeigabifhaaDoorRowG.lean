/-
  Rows of values of any kind whose cells are so many: what the call's own rows hold, and what appending, storing, calls and new blocks do to them; slices that are only read.
-/
import Derived.Test.YtbnkaeigabifhaaDoorBlkP
import Derived.Maps.AppendAt
import Derived.OwnWalk
namespace Go.Proofs.YtbnkaeigabifhaaDoor
open Go.RowKit
set_option linter.unusedVariables false
set_option linter.unusedSimpArgs false
namespace RowG
open BlkP
/-- How a value lies in memory: k cells. -/
structure Enc (α : Type) where
  f : α → List Value
  k : Nat
  len : ∀ x, (f x).length = k
  one : ∀ x, ∀ v ∈ f x, v.oneCell' = true
section
variable {α : Type} {e : Enc α} {E : TypeId} {w w' : World} {B : Nat} {v : Value} {l : List α}
def flat (e : Enc α) (l : List α) : List Value := l.flatMap e.f
theorem flat_app (p q : List α) : flat e (p ++ q) = flat e p ++ flat e q := by simp [flat]
theorem flat_len : ∀ l : List α, (flat e l).length = l.length * e.k
  | [] => by simp [flat]
  | x :: r => by
    have h : flat e (x :: r) = e.f x ++ flat e r := rfl
    rw [h, List.length_append, flat_len r, e.len, List.length_cons, Nat.succ_mul]
    omega
theorem flat_get : ∀ {l : List α} {i j : Nat} {x : α}, l[i]? = some x → j < e.k → (flat e l)[i * e.k + j]? = (e.f x)[j]?
  | y :: r, 0, j, x, h, hj => by
    have : y = x := by simpa using h
    subst this
    have h2 : flat e (y :: r) = e.f y ++ flat e r := rfl
    rw [h2, Nat.zero_mul, Nat.zero_add, List.getElem?_append_left (by rw [e.len]; exact hj)]
  | y :: r, i + 1, j, x, h, hj => by
    have ih := flat_get (l := r) (i := i) (j := j) (x := x) (by simpa using h) hj
    have h2 : flat e (y :: r) = e.f y ++ flat e r := rfl
    rw [h2, Nat.succ_mul, List.getElem?_append_right (by rw [e.len]; omega), e.len, show i * e.k + e.k + j - e.k = i * e.k + j by omega]
    exact ih
theorem flat_set : ∀ {l : List α} {i j : Nat} {x y : α} {u : Value}, l[i]? = some x → j < e.k → e.f y = (e.f x).set j u → (flat e l).set (i * e.k + j) u = flat e (l.set i y)
  | z :: r, 0, j, x, y, u, h, hj, hy => by
    have : z = x := by simpa using h
    subst this
    have h2 : flat e (z :: r) = e.f z ++ flat e r := rfl
    have h3 : flat e ((z :: r).set 0 y) = e.f y ++ flat e r := rfl
    rw [h2, h3, Nat.zero_mul, Nat.zero_add, List.set_append_left _ _ (by rw [e.len]; exact hj), hy]
  | z :: r, i + 1, j, x, y, u, h, hj, hy => by
    have ih := flat_set (l := r) (i := i) (j := j) (x := x) (y := y) (u := u) (by simpa using h) hj hy
    have h2 : flat e (z :: r) = e.f z ++ flat e r := rfl
    have h3 : flat e ((z :: r).set (i + 1) y) = e.f z ++ flat e (r.set i y) := rfl
    rw [h2, h3, ← ih, Nat.succ_mul, List.set_append_right _ _ (by rw [e.len]; omega), e.len, show i * e.k + e.k + j - e.k = i * e.k + j by omega]
/-- A row of the call's own. -/
def Own (e : Enc α) (E : TypeId) (w : World) (B : Nat) (v : Value) (l : List α) : Prop := w.ownsRow B E e.k v l.length (flat e l)
theorem Own.nil (e : Enc α) (E : TypeId) (w : World) (B : Nat) : Own e E w B (.slice none 0 0) [] := World.ownsRow_nil w B _ _
theorem Own.below (h : Own e E w B v l) (hb : Below w.heap.size w w') : Own e E w' B v l := by
  unfold Own at h ⊢
  exact h.kept (row := none) ⟨hb.os, hb.tape, hb.output, hb.size, fun k hk _ => hb.block k hk⟩ (by cases h' : v.ownBlock <;> simp)
theorem Own.grown (h : Own e E w B v l) {r : Option Nat} (hg : w.grownBy w' r) (hne : v.ownBlock = none ∨ v.ownBlock ≠ r) : Own e E w' B v l := by
  unfold Own at h ⊢
  exact h.kept hg hne
theorem Own.alloc (h : Own e E w B v l) (o : Obj) : Own e E (w.alloc o) B v l := World.ownsRow.alloc h o
theorem Own.drew (h : Own e E w B v l) : Own e E w.drew B v l := h
theorem Own.drewN (h : Own e E w B v l) (n : Nat) : Own e E (w.drewN n) B v l := h
theorem Own.other (h : Own e E w B v l) {a : Addr} {x : Value} (hlt : a.block < B) : Own e E (w.setCell a x) B v l := by
  unfold Own at h ⊢
  refine ⟨h.1, ?_⟩
  rcases h.2 with h1 | ⟨g, cap, cur, h2, h3, h4, h5⟩
  · exact .inl h1
  · exact .inr ⟨g, cap, cur, h2, h3, (heap_setCell_other w a g x (by omega)).trans h4, h5⟩
theorem Own.mono {B' : Nat} (h : Own e E w B v l) (hB : B' ≤ B) : Own e E w B' v l := by
  unfold Own at h ⊢
  refine ⟨h.1, ?_⟩
  rcases h.2 with h1 | ⟨g, cap, cur, h2, h3, h4⟩
  · exact .inl h1
  · exact .inr ⟨g, cap, cur, h2, Nat.le_trans hB h3, h4⟩
theorem Own.ge (h : Own e E w B v l) : ∀ g, v.ownBlock = some g → B ≤ g ∧ g < w.heap.size := fun g hg => World.ownsRow.lt h g hg
theorem Own.old (h : Own e E w B v l) : v.ownBlock ≠ some w.heap.size := fun q => by
  have := (h.ge _ q).2
  omega
/-- Its form: where it has elements, its block, whose cells are known and may be written. -/
theorem Own.form (h : Own e E w B v l) {n : Nat} (hn : l.length = n) : ∃ A c, v = .slice A n c ∧ n ≤ c ∧ c ≤ 9223372036854775807 ∧ (0 < n → ∃ g, A = some ⟨g, 0, none⟩ ∧ B ≤ g ∧ g < w.heap.size) := by
  subst hn
  have hlt := h.ge
  unfold Own at h
  rcases h.2 with ⟨rfl, hn⟩ | ⟨g, cap, cur, rfl, hB, hg, hn, hc, hs, ht⟩
  · exact ⟨none, 0, by rw [hn], by omega, by omega, fun q => by omega⟩
  · exact ⟨_, cap, rfl, hn, hc, fun _ => ⟨g, rfl, hB, (hlt g rfl).2⟩⟩
theorem Own.cell {g n c : Nat} (h : Own e E w B (.slice (some ⟨g, 0, none⟩) n c) l) {i j : Nat} {x : α} {u : Value} (hx : l[i]? = some x) (hu : (e.f x)[j]? = some u) : w.cell? ⟨g, i * e.k + j, none⟩ = some u := by
  have hj : j < e.k := by
    rw [← e.len x]
    exact (List.getElem?_eq_some_iff.1 hu).1
  have hi := (List.getElem?_eq_some_iff.1 hx).1
  unfold Own at h
  have hnl : n = l.length := by
    rcases h.2 with ⟨h0, _⟩ | ⟨g', cap, cur, h0, _⟩
    · cases h0
    · injection h0
  rw [← hnl] at h
  rw [h.cellAt (i * e.k + j) (by
    rw [hnl]
    have : (i + 1) * e.k ≤ l.length * e.k := Nat.mul_le_mul_right _ hi
    rw [Nat.succ_mul] at this
    omega), flat_get hx hj]
  exact hu
theorem Own.frozen {g n c : Nat} (h : Own e E w B (.slice (some ⟨g, 0, none⟩) n c) l) (o : Nat) : w.frozen? ⟨g, o, none⟩ = false := by
  unfold Own at h
  rcases h.2 with ⟨h0, _⟩ | ⟨g', cap, cur, h0, _, hg, _⟩
  · cases h0
  · injection h0 with h0
    injection h0 with h0
    injection h0 with h0
    subst h0
    exact frozen_of_row w g o _ _ hg
/-- A cell of one element is stored. -/
theorem Own.store {g n c : Nat} (h : Own e E w B (.slice (some ⟨g, 0, none⟩) n c) l) {i j : Nat} {x y : α} {u : Value} (hx : l[i]? = some x) (hj : j < e.k) (hy : e.f y = (e.f x).set j u) :
    Own e E (w.setCell ⟨g, i * e.k + j, none⟩ u) B (.slice (some ⟨g, 0, none⟩) n c) (l.set i y) ∧ w.grownBy (w.setCell ⟨g, i * e.k + j, none⟩ u) (some g) := by
  unfold Own at h ⊢
  have hnl : n = l.length := by
    rcases h.2 with ⟨h0, _⟩ | ⟨g', cap, cur, h0, _⟩
    · cases h0
    · injection h0
  rw [← hnl] at h
  obtain ⟨h1, h2⟩ := h.stored (i * e.k + j) u
  rw [flat_set hx hj hy] at h1
  rw [List.length_set, ← hnl]
  exact ⟨h1, h2⟩
/-- What is appended to. -/
theorem Own.grownB (h : Own e E w B v l) (hg : w.grownBy w' v.ownBlock) (hB : B ≤ w.heap.size) : Below B w w' :=
  (Below.refl B w).grown hg hB (fun k hk => (h.ge k hk).1)
/-- append(v, y): y lies in a new block of its own. -/
theorem wp_push {P : Program} {T : TypeId} {ops : Array Oper} {rest : List Oper} {o : Oper} {a : Act} {Q : Exit → Act → World → Prop} (e : Enc α) (hgd : o.guard = none) (s x : Operand) (ho : o.op = .call { callee := .builtin .append, args := #[s, x], argTypes := #[T, T] })
    (hT : P.underlying T = some (.slice E)) {z : Value} {bytes : Nat} (hI : (P.info? E).map (fun i => (i.zero, i.size, i.bytes)) = some (some z, e.k, bytes)) (hz : z.cells.size = e.k) (hk : 0 < e.k)
    (w0 : World) (c : Array Value) (hw : w = w0.alloc (.cells c E)) (y : α) (hc : c.toList = e.f y) (hs : a.eval s = v) (hown : Own e E w0 B v l) (hx : a.eval x = .slice (some ⟨w0.heap.size, 0, none⟩) 1 1)
    (hl : l.length + 1 ≤ maxLen) (hby : (l.length + 1) * bytes ≤ 140737488355328) (hB : B ≤ w0.heap.size)
    (h : ∀ v' w', Own e E w' B v' (l ++ [y]) → w0.grownBy w' v.ownBlock → (v'.ownBlock = v.ownBlock ∨ v'.ownBlock = some (w0.heap.size + 1)) → wpList P ops Q rest (a.put o.dst v') w') : wpList P ops Q (o :: rest) a w := by
  subst hw
  obtain ⟨i, hi, hz0, hs0, hb0⟩ := info_parts hI
  have hown2 : (w0.alloc (.cells c E)).ownsRow B E e.k v l.length (flat e l) := hown.alloc _
  refine wpList_append_own_at _ hgd s x T ho B E i z e.k bytes hT hi hz0 hs0 hb0 hz hk v l.length (flat e l) hs hown2 ⟨w0.heap.size, 0, none⟩ 1 1 (e.f y) hx (by rw [e.len, Nat.one_mul]) (fun j u hu => ?_) (e.one y) hl hby (by simp; omega) ?_
  · have hadd : (⟨w0.heap.size, 0, none⟩ : Addr).add j = ⟨w0.heap.size, j, none⟩ := by unfold Addr.add; split <;> simp_all
    rw [hadd, cell_of_row _ _ _ _ _ _ (heap_alloc_new w0 _), ← Array.getElem?_toList, hc]
    exact hu
  · intro v' w' h1 h2 _ h3
    refine h v' w' ?_ (World.grownBy.trans (World.grownBy_alloc w0 _ _) h2) ?_
    · unfold Own
      rw [flat_app, List.length_append]
      have : flat e [y] = e.f y := by simp [flat]
      rw [this]
      exact h1
    · rcases h3 with h3 | h3
      · exact .inl h3
      · refine .inr ?_
        rw [h3]
        simp
/-- A slice that is only read: its cells. -/
def Rd (e : Enc α) (w : World) (v : Value) (l : List α) : Prop := ∃ A c, v = .slice A l.length c ∧ l.length ≤ c ∧ c ≤ 9223372036854775807 ∧ (l ≠ [] → ∃ b o, A = some ⟨b, o, none⟩ ∧ b < w.heap.size ∧ ∀ i x, l[i]? = some x → ∀ j u, (e.f x)[j]? = some u → w.cell? ⟨b, o + i * e.k + j, none⟩ = some u)
theorem Own.rd (h : Own e E w B v l) : Rd e w v l := by
  obtain ⟨A, c, rfl, hc, hm, hg⟩ := h.form rfl
  refine ⟨A, c, rfl, hc, hm, fun hne => ?_⟩
  obtain ⟨g, rfl, _, hlt⟩ := hg (List.length_pos_iff.2 hne)
  exact ⟨g, 0, rfl, hlt, fun i x hx j u hu => by rw [Nat.zero_add]; exact h.cell hx hu⟩
theorem Rd.below (h : Rd e w v l) (hb : Below w.heap.size w w') : Rd e w' v l := by
  obtain ⟨A, c, rfl, hc, hm, hne⟩ := h
  refine ⟨A, c, rfl, hc, hm, fun h0 => ?_⟩
  obtain ⟨b, o, hA, hlt, hcs⟩ := hne h0
  exact ⟨b, o, hA, Nat.lt_of_lt_of_le hlt hb.size, fun i x hx j u hu => (hb.cell (p := ⟨b, _, none⟩) hlt).trans (hcs i x hx j u hu)⟩
theorem Rd.nil (e : Enc α) (w : World) : Rd e w (.slice none 0 0) [] := ⟨none, 0, rfl, Nat.le_refl _, by omega, fun h => absurd rfl h⟩
theorem Rd.form (h : Rd e w v l) {n : Nat} (hn : l.length = n) : ∃ A c, v = .slice A n c ∧ n ≤ c ∧ c ≤ 9223372036854775807 := by
  subst hn
  obtain ⟨A, c, rfl, h1, h2, _⟩ := h
  exact ⟨A, c, rfl, h1, h2⟩
/-- Where element i lies. -/
theorem Rd.at {A : Option Addr} {n c : Nat} (h : Rd e w (.slice A n c) l) {i : Nat} {x : α} (hx : l[i]? = some x) : ∃ b o, A = some ⟨b, o, none⟩ ∧ b < w.heap.size ∧ ∀ j u, (e.f x)[j]? = some u → w.cell? ⟨b, o + i * e.k + j, none⟩ = some u := by
  obtain ⟨A', c', he, _, _, hne⟩ := h
  injection he with h1 h2 h3
  subst h1
  obtain ⟨b, o, hA, hlt, hcs⟩ := hne (fun q => by
    rw [q] at hx
    simp at hx)
  exact ⟨b, o, hA, hlt, hcs i x hx⟩
end
/-- Whole numbers. -/
def encI : Enc Int := ⟨fun n => [.int .i64 n], 1, fun _ => rfl, fun x v h => by
  simp only [List.mem_cons, List.not_mem_nil, or_false] at h
  subst h
  rfl⟩
end RowG
end Go.Proofs.YtbnkaeigabifhaaDoor
