/-
  Arguments that are slices of structs of one-cell fields: what each element's cells are.
-/
import Derived.Test.YtbnkaeigabifhaaDoorOpenP
import Derived.Deep.Slices
namespace Go.Proofs.YtbnkaeigabifhaaDoor
open Go.ChangeShapes Go.WideShapes Go.ChangeAt Go.RowKit Go.Deep
set_option linter.unusedVariables false
namespace OpenQ
/-- Of each place something: a list of them. -/
theorem listed {α : Type} {Q : Nat → α → Prop} : ∀ n : Nat, (∀ i, i < n → ∃ x, Q i x) → ∃ xs : List α, xs.length = n ∧ ∀ i x, xs[i]? = some x → Q i x
  | 0, _ => ⟨[], rfl, fun i x h => by simp at h⟩
  | n + 1, h => by
    obtain ⟨xs, hl, hx⟩ := listed n (fun i hi => h i (by omega))
    obtain ⟨y, hy⟩ := h n (by omega)
    refine ⟨xs ++ [y], by simp [hl], fun i x hi => ?_⟩
    by_cases e : i < xs.length
    · rw [List.getElem?_append_left e] at hi
      exact hx i x hi
    · rw [List.getElem?_append_right (by omega)] at hi
      have : i - xs.length = 0 := by
        have := (List.getElem?_eq_some_iff.1 hi).1
        simp at this
        omega
      rw [this] at hi
      have hi' : y = x := by simpa using hi
      subst hi'
      rw [show i = n by omega]
      exact hy
section
variable {H : Type} {enc : TypeId × Value → H} {P : Program} {W : World}
/-- One argument's own reading. -/
theorem trod_at : ∀ {ts : List TypeId} {vs : List Value} {ds : List (DataW H)} {ps : List MemPlace}, DataW.TrodAll enc P W 0 (fun _ => true) true ts vs ds ps → ∀ (j : Nat) (t : TypeId) (v : Value), ts[j]? = some t → vs[j]? = some v → ∃ d p, DataW.Trod enc P W 0 (fun _ => true) true t v d p
  | [], _, _, _, _, j, t, v, ht, _ => by simp at ht
  | t0 :: ts, vs, ds, ps, h, j, t, v, ht, hv => by
    obtain ⟨v0, vs', d, ds', p, q, rfl, rfl, rfl, hd, hrest⟩ := trodAll_cons h
    cases j with
    | zero =>
      simp at ht hv
      subst ht hv
      exact ⟨d, p, hd⟩
    | succ j => exact trod_at hrest j t v (by simpa using ht) (by simpa using hv)
/-- A value of a slice's type is a slice. -/
theorem v_slice {r : Reach} {b : Nat} {t e : TypeId} {v : Value} (ht : P.underlying t = some (.slice e)) (h : Value.okWide P W r b t v) : v.cells.toList = [v] := by
  unfold Value.okWide at h
  rw [ht] at h
  unfold Cell.okWide at h
  rw [ht] at h
  cases v <;> simp_all [Value.cells, Cell.ok]
/-- A slice: nil, or at an address; each element lies there, cell by cell, and reads. -/
theorem slice_at {t e : TypeId} {C : Nat} {v : Value} {d : DataW H} {p : List MemPlace} (ht : P.underlying t = some (.slice e)) (hC : P.cellsOf e = C) (hone : v.cells.toList = [v]) (h : DataW.Trod enc P W 0 (fun _ => true) true t v d p) :
    ∃ (A : Option Addr) (n c : Nat), v = .slice A n c ∧ n ≤ c ∧ c ≤ maxLen ∧ (A = none → n = 0) ∧ ∀ a, A = some a → ∀ i, i < n → ∃ (cs : List Value) (k : Nat) (y : DataW H × List MemPlace), cs.length = C ∧ (∀ j, j < C → W.cell? (a.add (i * C + j)) = cs[j]?) ∧ DataW.trod enc P W 0 (fun _ => true) true k e cs = some y := by
  obtain ⟨fuel, hf⟩ := h
  rw [hone] at hf
  rcases open_slice ht hf with ⟨h0, _⟩ | ⟨a, len, cap, m, n, D, Pl, hcs, hb, hl, hm, hmm, hx, hi⟩
  · injection h0 with h0 _
    exact ⟨none, 0, 0, h0, by omega, by simp [maxLen], fun _ => rfl, fun a ha => by cases ha⟩
  · injection hcs with hcs _
    refine ⟨some a, len, cap, hcs, hl, hm, (fun h => (by cases h)), fun a' ha i hin => ?_⟩
    injection ha with ha
    subst ha
    have hmc : m = cap := by simpa using hmm
    obtain ⟨cs', hc, ht'⟩ := hi i (by omega)
    rw [hC] at hc
    obtain ⟨_, hcl, hat⟩ := World.cells?_some hc
    exact ⟨cs', n, _, hcl, fun j hj => by rw [← add_add]; exact hat j hj, ht'⟩
/-- The first element is there, so the address is a plain one. -/
theorem plain {a : Addr} {v : Value} (h : W.cell? (a.add 0) = some v) : ∃ b o, a = ⟨b, o, none⟩ ∧ b < W.heap.size := by
  have h0 : W.cell? a = some v := by simpa [Addr.add] using h
  have hb := World.block_lt_of_cell? W a h0
  obtain ⟨b, o, s⟩ := a
  cases s with
  | none => exact ⟨b, o, rfl, hb⟩
  | some k =>
    unfold World.cell? at h0
    split at h0
    · simp at h0
    · cases h0
end
end OpenQ
end Go.Proofs.YtbnkaeigabifhaaDoor
