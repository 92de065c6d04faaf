/-
  Lists of things that came in.
-/
import Derived.Test.YtblfahnjogaacaaOpenQ
import Derived.Test.YtblfahnjogaacaaBytesOpen
import Derived.Test.YtblfahnjogaacaaBytesThings
namespace Go.Proofs.Ytblfahnjogaacaa
open Go.ChangeShapes Go.WideShapes Go.ChangeAt Go.RowKit Go.Deep
set_option linter.unusedVariables false
namespace BytesW
section
variable {H : Type} {enc : TypeId × Value → H} {W : World}
theorem wf_u64 {n : Int} (h : (Lit.int .u64 n).wf = true) : 0 ≤ n ∧ n ≤ 18446744073709551615 := by
  simp [Lit.wf] at h
  have h1 : IntKind.u64.min = 0 := rfl
  have h2 : IntKind.u64.max = 18446744073709551615 := rfl
  omega
theorem thing_elem {k : Nat} {c0 c1 c2 : Value} {y : DataW H × List MemPlace} (h : DataW.trod enc Try.prog W 0 (fun _ => true) true k 53 [c0, c1, c2] = some y) :
    ∃ x : Thg, c0 = .int .i64 x.what ∧ c1 = .int .u64 x.n ∧ c2 = .string ⟨x.s.toArray⟩ ∧ x.n < 18446744073709551616 ∧ x.s.length ≤ 9223372036854775807 ∧ (-9223372036854775808 ≤ x.what ∧ x.what ≤ 9223372036854775807) := by
  obtain ⟨ys, n', _, _, _, hyl, hf⟩ := DataW.trod_struct Try.underlying53 h
  have hyl2 : ys.length = 3 := hyl
  have h0 := hf 0 _ rfl
  have h1 := hf 1 _ rfl
  have h2 := hf 2 _ rfl
  rw [List.getElem?_eq_getElem (by omega)] at h0 h1 h2
  have hc : Try.prog.cellsOf 3 = 1 := by kernel_rfl
  have hc1 : Try.prog.cellsOf 22 = 1 := by kernel_rfl
  have hc2 : Try.prog.cellsOf 9 = 1 := by kernel_rfl
  obtain ⟨a, ha, _, wa⟩ := DataW.trod_int (cs := [c0]) Try.underlying3 (by simpa [hc] using h0)
  obtain ⟨b, hb, _, wb⟩ := DataW.trod_int (cs := [c1]) Try.underlying22 (by simpa [hc1] using h1)
  obtain ⟨s, hs, _, ws⟩ := DataW.trod_string (cs := [c2]) Try.underlying9 (by simpa [hc2] using h2)
  simp at ha hb hs
  obtain ⟨l, rfl⟩ := byteArr s
  have hm : maxLen = 9223372036854775807 := rfl
  obtain ⟨m0, m1⟩ := wf_u64 wb
  obtain ⟨m, rfl⟩ := Int.eq_ofNat_of_zero_le m0
  exact ⟨⟨a, m, l⟩, ha, hb, hs, by show m < 18446744073709551616; omega, by show l.length ≤ _; rw [← hm]; simpa [ByteArray.size] using ws, wf_i64 wa⟩
theorem open_things {v : Value} {d : DataW H} {p : List MemPlace} (hone : v.cells.toList = [v]) (h : DataW.Trod enc Try.prog W 0 (fun _ => true) true 50 v d p) :
    ∃ (A : Option Addr) (xs : List Thg) (c : Nat), v = .slice A xs.length c ∧ xs.length ≤ 9223372036854775807 ∧ ThgAt W A xs := by
  obtain ⟨A, n, c, rfl, hnc, hcm, hnil, hel⟩ := OpenQ.slice_at (C := 3) Try.underlying50 (by kernel_rfl) hone h
  have hm : maxLen = 9223372036854775807 := rfl
  rcases A with _ | a
  · have := hnil rfl
    subst this
    exact ⟨none, [], c, rfl, by simp, fun h => absurd rfl h⟩
  · have each : ∀ i, i < n → ∃ x : Thg, W.cell? (a.add (i * 3)) = some (.int .i64 x.what) ∧ W.cell? (a.add (i * 3 + 1)) = some (.int .u64 x.n) ∧ W.cell? (a.add (i * 3 + 2)) = some (.string ⟨x.s.toArray⟩) ∧ x.n < 18446744073709551616 ∧ x.s.length ≤ 9223372036854775807 ∧ (-9223372036854775808 ≤ x.what ∧ x.what ≤ 9223372036854775807) := fun i hi => by
      obtain ⟨cs, k, y, hl, hc, ht⟩ := hel a rfl i hi
      match cs, hl with
      | [c0, c1, c2], _ =>
        obtain ⟨x, rfl, rfl, rfl, h1, h2, h3⟩ := thing_elem ht
        exact ⟨x, hc 0 (by omega), hc 1 (by omega), hc 2 (by omega), h1, h2, h3⟩
    obtain ⟨xs, hl, hxs⟩ := OpenQ.listed n each
    subst hl
    refine ⟨some a, xs, c, rfl, by omega, fun hne => ?_⟩
    have h0 : 0 < xs.length := List.length_pos_iff.2 hne
    obtain ⟨b, o, rfl, hb⟩ := OpenQ.plain (by simpa using (hxs 0 _ (List.getElem?_eq_getElem h0)).1)
    refine ⟨b, o, rfl, hb, fun i x hi => ?_⟩
    obtain ⟨g1, g2, g3, g4, g5, g6⟩ := hxs i _ hi
    rw [addr_add] at g1 g2 g3
    exact ⟨g4, g5, g6, g1, g2, g3⟩
end
end BytesW
end Go.Proofs.Ytblfahnjogaacaa
