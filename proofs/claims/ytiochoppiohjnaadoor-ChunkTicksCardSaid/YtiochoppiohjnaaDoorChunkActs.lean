/-
  Edits and acts that came in.
-/
import Derived.Test.YtiochoppiohjnaaDoorTickOpen
import Derived.Test.YtiochoppiohjnaaDoorChunkOf
namespace Go.Proofs.YtiochoppiohjnaaDoor
open Go.ChangeShapes Go.WideShapes Go.ChangeAt Go.RowKit Go.Deep
set_option linter.unusedVariables false
namespace ChunkW
open BytesW PackW
section
variable {H : Type} {enc : TypeId × Value → H} {W : World}
/-- An act: dropped or woken, an index, when it is due. -/
structure Ac where
  drop : Bool
  idx : Int
  due : Int
def AcOk (q : Ac) : Prop := (-9223372036854775808 ≤ q.idx ∧ q.idx ≤ 9223372036854775807) ∧ (-9223372036854775808 ≤ q.due ∧ q.due ≤ 9223372036854775807)
/-- Acts in memory. -/
def ActC (w : World) (A : Option Addr) (l : List Ac) : Prop :=
  l ≠ [] → ∃ b o, A = some ⟨b, o, none⟩ ∧ b < w.heap.size ∧ ∀ (i : Nat) (q : Ac), l[i]? = some q → w.cell? ⟨b, o + i * 3, none⟩ = some (.bool q.drop) ∧ w.cell? ⟨b, o + i * 3 + 1, none⟩ = some (.int .i64 q.idx) ∧ w.cell? ⟨b, o + i * 3 + 2, none⟩ = some (.int .i64 q.due)
theorem ActC.below {w w' : World} {A : Option Addr} {l : List Ac} (h : ActC w A l) (hb : Below w.heap.size w w') : ActC w' A l := fun hl => by
  obtain ⟨b, o, hA, hlt, hc⟩ := h hl
  refine ⟨b, o, hA, Nat.lt_of_lt_of_le hlt hb.size, fun i q hq => ?_⟩
  obtain ⟨h0, h1, h2⟩ := hc i q hq
  exact ⟨(hb.cell hlt).trans h0, (hb.cell hlt).trans h1, (hb.cell hlt).trans h2⟩
theorem act_elem {k : Nat} {c0 c1 c2 : Value} {y : DataW H × List MemPlace} (h : DataW.trod enc Tryd.prog W 0 (fun _ => true) true k 51 [c0, c1, c2] = some y) :
    ∃ q : Ac, c0 = .bool q.drop ∧ c1 = .int .i64 q.idx ∧ c2 = .int .i64 q.due ∧ AcOk q := by
  obtain ⟨ys, n', _, _, _, hyl, hf⟩ := DataW.trod_struct Tryd.underlying51 h
  have hyl2 : ys.length = 3 := hyl
  have h0 := hf 0 _ rfl
  have h2 := hf 1 _ rfl
  have h3 := hf 2 _ rfl
  rw [List.getElem?_eq_getElem (by omega)] at h0 h2 h3
  have hc : Tryd.prog.cellsOf 4 = 1 := by kernel_rfl
  have hc1 : Tryd.prog.cellsOf 3 = 1 := by kernel_rfl
  have hc2 : Tryd.prog.cellsOf 2 = 1 := by kernel_rfl
  obtain ⟨a, ha, _⟩ := DataW.trod_bool (cs := [c0]) Tryd.underlying4 (by simpa [hc] using h0)
  obtain ⟨b, hb, _, wb⟩ := DataW.trod_int (cs := [c1]) Tryd.underlying3 (by simpa [hc1] using h2)
  obtain ⟨d, hd, _, wd⟩ := DataW.trod_int (cs := [c2]) Tryd.underlying2 (by simpa [hc2] using h3)
  simp at ha hb hd
  exact ⟨⟨a, b, d⟩, ha, hb, hd, wf64 wb, wf64 wd⟩
theorem open_acts {v : Value} {d : DataW H} {p : List MemPlace} (hone : v.cells.toList = [v]) (h : DataW.Trod enc Tryd.prog W 0 (fun _ => true) true 34 v d p) :
    ∃ (A : Option Addr) (xs : List Ac) (c : Nat), v = .slice A xs.length c ∧ xs.length ≤ 9223372036854775807 ∧ (ActC W A xs ∧ ∀ q ∈ xs, AcOk q) := by
  obtain ⟨A, n, c, rfl, hnc, hcm, hnil, hel⟩ := OpenQ.slice_at (C := 3) Tryd.underlying34 (by kernel_rfl) hone h
  have hm : maxLen = 9223372036854775807 := rfl
  rcases A with _ | a
  · have := hnil rfl
    subst this
    exact ⟨none, [], c, rfl, by simp, fun hne => absurd rfl hne, fun q hq => by simp at hq⟩
  · have each : ∀ i, i < n → ∃ q : Ac, (W.cell? (a.add (i * 3)) = some (.bool q.drop) ∧ W.cell? (a.add (i * 3 + 1)) = some (.int .i64 q.idx) ∧ W.cell? (a.add (i * 3 + 2)) = some (.int .i64 q.due)) ∧ AcOk q := fun i hi => by
      obtain ⟨cs, k, y, hl, hc, ht⟩ := hel a rfl i hi
      match cs, hl with
      | [c0, c1, c2], _ =>
        obtain ⟨q, rfl, rfl, rfl, hq⟩ := act_elem ht
        exact ⟨q, ⟨hc 0 (by omega), hc 1 (by omega), hc 2 (by omega)⟩, hq⟩
    obtain ⟨xs, hl, hxs⟩ := OpenQ.listed n each
    subst hl
    refine ⟨some a, xs, c, rfl, by omega, fun hne => ?_, fun q hq => ?_⟩
    · have h0 : 0 < xs.length := List.length_pos_iff.2 hne
      obtain ⟨b, o, rfl, hb⟩ := OpenQ.plain (by simpa using (hxs 0 _ (List.getElem?_eq_getElem h0)).1.1)
      refine ⟨b, o, rfl, hb, fun i x hi => ?_⟩
      obtain ⟨⟨g0, g1, g2⟩, _⟩ := hxs i _ hi
      rw [addr_add] at g0 g1 g2
      exact ⟨g0, g1, g2⟩
    · obtain ⟨i, hi, rfl⟩ := List.getElem_of_mem hq
      exact (hxs i _ (List.getElem?_eq_getElem hi)).2
end
end ChunkW
end Go.Proofs.YtiochoppiohjnaaDoor
