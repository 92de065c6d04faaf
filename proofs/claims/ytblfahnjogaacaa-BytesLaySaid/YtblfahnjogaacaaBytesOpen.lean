/-
  Lists of asks that came in.
-/
import Derived.Test.YtblfahnjogaacaaOpenQ
import Derived.Test.YtblfahnjogaacaaBytesAsk
namespace Go.Proofs.Ytblfahnjogaacaa
open Go.ChangeShapes Go.WideShapes Go.ChangeAt Go.RowKit Go.Deep
set_option linter.unusedVariables false
namespace BytesW
theorem byteArr (s : ByteArray) : ∃ l : List UInt8, s = ⟨l.toArray⟩ := ⟨s.data.toList, by simp⟩
section
variable {H : Type} {enc : TypeId × Value → H} {W : World}
theorem wf_i64 {n : Int} (h : (Lit.int .i64 n).wf = true) : -9223372036854775808 ≤ n ∧ n ≤ 9223372036854775807 := by
  simp [Lit.wf] at h
  have h1 : IntKind.i64.min = -9223372036854775808 := rfl
  have h2 : IntKind.i64.max = 9223372036854775807 := rfl
  omega
theorem ask_elem {k : Nat} {c0 c1 : Value} {y : DataW H × List MemPlace} (h : DataW.trod enc Try.prog W 0 (fun _ => true) true k 45 [c0, c1] = some y) :
    ∃ w n : Int, c0 = .int .i64 w ∧ c1 = .int .i64 n ∧ (-9223372036854775808 ≤ w ∧ w ≤ 9223372036854775807) ∧ (-9223372036854775808 ≤ n ∧ n ≤ 9223372036854775807) := by
  obtain ⟨ys, n', _, _, _, hyl, hf⟩ := DataW.trod_struct Try.underlying45 h
  have hyl2 : ys.length = 2 := hyl
  have h0 := hf 0 _ rfl
  have h1 := hf 1 _ rfl
  rw [List.getElem?_eq_getElem (by omega)] at h0 h1
  have hc : Try.prog.cellsOf 3 = 1 := by kernel_rfl
  obtain ⟨a, ha, _, wa⟩ := DataW.trod_int (cs := [c0]) Try.underlying3 (by simpa [hc] using h0)
  obtain ⟨b, hb, _, wb⟩ := DataW.trod_int (cs := [c1]) Try.underlying3 (by simpa [hc] using h1)
  simp at ha hb
  exact ⟨a, b, ha, hb, wf_i64 wa, wf_i64 wb⟩
theorem open_asks {v : Value} {d : DataW H} {p : List MemPlace} (hone : v.cells.toList = [v]) (h : DataW.Trod enc Try.prog W 0 (fun _ => true) true 37 v d p) :
    ∃ (A : Option Addr) (xs : List (Int × Int)) (c : Nat), v = .slice A xs.length c ∧ xs.length ≤ 9223372036854775807 ∧ AskAt W A xs := by
  obtain ⟨A, n, c, rfl, hnc, hcm, hnil, hel⟩ := OpenQ.slice_at (C := 2) Try.underlying37 (by kernel_rfl) hone h
  have hm : maxLen = 9223372036854775807 := rfl
  rcases A with _ | a
  · have := hnil rfl
    subst this
    exact ⟨none, [], c, rfl, by simp, fun h => absurd rfl h⟩
  · have each : ∀ i, i < n → ∃ x : Int × Int, W.cell? (a.add (i * 2)) = some (.int .i64 x.1) ∧ W.cell? (a.add (i * 2 + 1)) = some (.int .i64 x.2) ∧ (-9223372036854775808 ≤ x.1 ∧ x.1 ≤ 9223372036854775807) ∧ (-9223372036854775808 ≤ x.2 ∧ x.2 ≤ 9223372036854775807) := fun i hi => by
      obtain ⟨cs, k, y, hl, hc, ht⟩ := hel a rfl i hi
      match cs, hl with
      | [c0, c1], _ =>
        obtain ⟨w, m, rfl, rfl, h1, h2⟩ := ask_elem ht
        exact ⟨(w, m), hc 0 (by omega), hc 1 (by omega), h1, h2⟩
    obtain ⟨xs, hl, hxs⟩ := OpenQ.listed n each
    subst hl
    refine ⟨some a, xs, c, rfl, by omega, fun hne => ?_⟩
    have h0 : 0 < xs.length := List.length_pos_iff.2 hne
    obtain ⟨b, o, rfl, hb⟩ := OpenQ.plain (by simpa using (hxs 0 _ (List.getElem?_eq_getElem h0)).1)
    refine ⟨b, o, rfl, hb, fun i w m hi => ?_⟩
    obtain ⟨g1, g2, g3, g4⟩ := hxs i _ hi
    rw [addr_add] at g1 g2
    exact ⟨g4, g3, g1, g2⟩
end
end BytesW
end Go.Proofs.Ytblfahnjogaacaa
