/-
  Edits and acts that came in.
-/
import Derived.Test.YtiodbbdibkeniaaDoorTickOpen
import Derived.Test.YtiodbbdibkeniaaDoorChunkOf
namespace Go.Proofs.YtiodbbdibkeniaaDoor
open Go.ChangeShapes Go.WideShapes Go.ChangeAt Go.RowKit Go.Deep
set_option linter.unusedVariables false
namespace ChunkW
open BytesW PackW
section
variable {H : Type} {enc : TypeId × Value → H} {W : World}
theorem edit_elem {k : Nat} {c0 c1 c2 c3 c4 : Value} {y : DataW H × List MemPlace} (h : DataW.trod enc Tryd.prog W 0 (fun _ => true) true k 40 [c0, c1, c2, c3, c4] = some y) :
    ∃ q : Ed, c0 = .int .i64 q.at_ ∧ c1 = bv q.cell.1 ∧ c2 = bv q.cell.2 ∧ c3 = bv q.light.1 ∧ c4 = bv q.light.2 ∧ EdOk q := by
  obtain ⟨ys, n', _, _, _, hyl, hf⟩ := DataW.trod_struct Tryd.underlying40 h
  have hyl2 : ys.length = 3 := hyl
  have h0 := hf 0 _ rfl
  have h2 := hf 1 _ rfl
  have h3 := hf 2 _ rfl
  rw [List.getElem?_eq_getElem (by omega)] at h0 h2 h3
  have hc : Tryd.prog.cellsOf 3 = 1 := by kernel_rfl
  have hc1 : Tryd.prog.cellsOf 36 = 2 := by kernel_rfl
  have hc2 : Tryd.prog.cellsOf 38 = 2 := by kernel_rfl
  have hc3 : Tryd.prog.cellsOf 5 = 1 := by kernel_rfl
  obtain ⟨a, ha, _, wa⟩ := DataW.trod_int (cs := [c0]) Tryd.underlying3 (by simpa [hc] using h0)
  simp at ha
  obtain ⟨zs, n2, _, _, _, hzl, hg⟩ := DataW.trod_struct (cs := [c1, c2]) Tryd.underlying36 (by simpa [hc1] using h2)
  have hzl2 : zs.length = 2 := hzl
  have g0 := hg 0 _ rfl
  have g1 := hg 1 _ rfl
  rw [List.getElem?_eq_getElem (by omega)] at g0 g1
  obtain ⟨us, n3, _, _, _, hul, hk⟩ := DataW.trod_struct (cs := [c3, c4]) Tryd.underlying38 (by simpa [hc2] using h3)
  have hul2 : us.length = 2 := hul
  have k0 := hk 0 _ rfl
  have k1 := hk 1 _ rfl
  rw [List.getElem?_eq_getElem (by omega)] at k0 k1
  obtain ⟨x2, e2⟩ := byte_elem (c0 := c1) (by simpa [hc3] using g0)
  obtain ⟨x3, e3⟩ := byte_elem (c0 := c2) (by simpa [hc3] using g1)
  obtain ⟨x4, e4⟩ := byte_elem (c0 := c3) (by simpa [hc3] using k0)
  obtain ⟨x5, e5⟩ := byte_elem (c0 := c4) (by simpa [hc3] using k1)
  exact ⟨⟨a, (x2, x3), (x4, x5)⟩, ha, e2, e3, e4, e5, wf64 wa⟩
theorem open_edits {v : Value} {d : DataW H} {p : List MemPlace} (hone : v.cells.toList = [v]) (h : DataW.Trod enc Tryd.prog W 0 (fun _ => true) true 22 v d p) :
    ∃ (A : Option Addr) (xs : List Ed) (c : Nat), v = .slice A xs.length c ∧ xs.length ≤ 9223372036854775807 ∧ (EditC W A xs ∧ ∀ q ∈ xs, EdOk q) := by
  obtain ⟨A, n, c, rfl, hnc, hcm, hnil, hel⟩ := OpenQ.slice_at (C := 5) Tryd.underlying22 (by kernel_rfl) hone h
  have hm : maxLen = 9223372036854775807 := rfl
  rcases A with _ | a
  · have := hnil rfl
    subst this
    exact ⟨none, [], c, rfl, by simp, fun hne => absurd rfl hne, fun q hq => by simp at hq⟩
  · have each : ∀ i, i < n → ∃ q : Ed, (W.cell? (a.add (i * 5)) = some (.int .i64 q.at_) ∧ W.cell? (a.add (i * 5 + 1)) = some (bv q.cell.1) ∧ W.cell? (a.add (i * 5 + 2)) = some (bv q.cell.2) ∧ W.cell? (a.add (i * 5 + 3)) = some (bv q.light.1) ∧ W.cell? (a.add (i * 5 + 4)) = some (bv q.light.2)) ∧ EdOk q := fun i hi => by
      obtain ⟨cs, k, y, hl, hc, ht⟩ := hel a rfl i hi
      match cs, hl with
      | [c0, c1, c2, c3, c4], _ =>
        obtain ⟨q, rfl, rfl, rfl, rfl, rfl, hq⟩ := edit_elem ht
        exact ⟨q, ⟨hc 0 (by omega), hc 1 (by omega), hc 2 (by omega), hc 3 (by omega), hc 4 (by omega)⟩, hq⟩
    obtain ⟨xs, hl, hxs⟩ := OpenQ.listed n each
    subst hl
    refine ⟨some a, xs, c, rfl, by omega, fun hne => ?_, fun q hq => ?_⟩
    · have h0 : 0 < xs.length := List.length_pos_iff.2 hne
      obtain ⟨b, o, rfl, hb⟩ := OpenQ.plain (by simpa using (hxs 0 _ (List.getElem?_eq_getElem h0)).1.1)
      refine ⟨b, o, rfl, hb, fun i x hi => ?_⟩
      obtain ⟨⟨g0, g1, g2, g3, g4⟩, _⟩ := hxs i _ hi
      rw [addr_add] at g0 g1 g2 g3 g4
      exact ⟨g0, g1, g2, g3, g4⟩
    · obtain ⟨i, hi, rfl⟩ := List.getElem_of_mem hq
      exact (hxs i _ (List.getElem?_eq_getElem hi)).2
end
end ChunkW
end Go.Proofs.YtiodbbdibkeniaaDoor
