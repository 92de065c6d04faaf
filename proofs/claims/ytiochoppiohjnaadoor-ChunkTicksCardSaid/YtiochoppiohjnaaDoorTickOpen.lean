/-
  Ticks that came in.
-/
import Derived.Test.YtiochoppiohjnaaDoorOpenQ
import Derived.Test.YtiochoppiohjnaaDoorOpenP
import Derived.Test.YtiochoppiohjnaaDoorBytesArg
import Derived.Test.YtiochoppiohjnaaDoorPackMem
namespace Go.Proofs.YtiochoppiohjnaaDoor
open Go.ChangeShapes Go.WideShapes Go.ChangeAt Go.RowKit Go.Deep
set_option linter.unusedVariables false
namespace PackW
open BytesW
section
variable {H : Type} {enc : TypeId × Value → H} {W : World}
theorem wf64 {n : Int} (h : (Lit.int .i64 n).wf = true) : -9223372036854775808 ≤ n ∧ n ≤ 9223372036854775807 := by
  simp [Lit.wf] at h
  have h1 : IntKind.i64.min = -9223372036854775808 := rfl
  have h2 : IntKind.i64.max = 9223372036854775807 := rfl
  omega
theorem tick_elem {k : Nat} {c0 c1 : Value} {y : DataW H × List MemPlace} (h : DataW.trod enc Tryd.prog W 0 (fun _ => true) true k 63 [c0, c1] = some y) : ∃ t : Tick, c0 = .int .i64 t.1 ∧ c1 = .int .i64 t.2 := by
  obtain ⟨ys, n', _, _, _, hyl, hf⟩ := DataW.trod_struct Tryd.underlying63 h
  have hyl2 : ys.length = 2 := hyl
  have h0 := hf 0 _ rfl
  have h1 := hf 1 _ rfl
  rw [List.getElem?_eq_getElem (by omega)] at h0 h1
  have hc : Tryd.prog.cellsOf 3 = 1 := by kernel_rfl
  have hc1 : Tryd.prog.cellsOf 2 = 1 := by kernel_rfl
  obtain ⟨a, ha, _, wa⟩ := DataW.trod_int (cs := [c0]) Tryd.underlying3 (by simpa [hc] using h0)
  obtain ⟨b, hb, _, wb⟩ := DataW.trod_int (cs := [c1]) Tryd.underlying2 (by simpa [hc1] using h1)
  simp at ha hb
  exact ⟨(a, b), ha, hb⟩
theorem open_ticks {v : Value} {d : DataW H} {p : List MemPlace} (hone : v.cells.toList = [v]) (h : DataW.Trod enc Tryd.prog W 0 (fun _ => true) true 23 v d p) :
    ∃ (A : Option Addr) (xs : List Tick) (c : Nat), v = .slice A xs.length c ∧ (xs.length ≤ c ∧ c ≤ 9223372036854775807) ∧ PairC tkv W A xs := by
  obtain ⟨A, n, c, rfl, hnc, hcm, hnil, hel⟩ := OpenQ.slice_at (C := 2) Tryd.underlying23 (by kernel_rfl) hone h
  have hm : maxLen = 9223372036854775807 := rfl
  rcases A with _ | a
  · have := hnil rfl
    subst this
    exact ⟨none, [], c, rfl, ⟨by simp, by omega⟩, PairC.nil⟩
  · have each : ∀ i, i < n → ∃ x : Tick, W.cell? (a.add (i * 2)) = some (.int .i64 x.1) ∧ W.cell? (a.add (i * 2 + 1)) = some (.int .i64 x.2) := fun i hi => by
      obtain ⟨cs, k, y, hl, hc, ht⟩ := hel a rfl i hi
      match cs, hl with
      | [c0, c1], _ =>
        obtain ⟨x, rfl, rfl⟩ := tick_elem ht
        exact ⟨x, hc 0 (by omega), hc 1 (by omega)⟩
    obtain ⟨xs, hl, hxs⟩ := OpenQ.listed n each
    subst hl
    refine ⟨some a, xs, c, rfl, ⟨hnc, by omega⟩, fun hne => ?_⟩
    have h0 : 0 < xs.length := List.length_pos_iff.2 hne
    obtain ⟨b, o, rfl, hb⟩ := OpenQ.plain (by simpa using (hxs 0 _ (List.getElem?_eq_getElem h0)).1)
    refine ⟨b, o, rfl, hb, fun i x hi => ?_⟩
    obtain ⟨g1, g2⟩ := hxs i _ hi
    rw [addr_add] at g1 g2
    exact ⟨g1, g2⟩
end
end PackW
end Go.Proofs.YtiochoppiohjnaaDoor
