/-
  Slices of ticks, and of the law's calls, that came in: what is known of them.
-/
import Derived.Test.YtlhanbjendbhfaaOpenQ
import Derived.Test.YtlhanbjendbhfaaOpenP
import Derived.Test.YtlhanbjendbhfaaQueuePlays
namespace Go.Proofs.Ytlhanbjendbhfaa
open Go.ChangeShapes Go.WideShapes Go.ChangeAt Go.RowKit Go.Deep
set_option linter.unusedVariables false
set_option linter.unusedSimpArgs false
namespace QueW
open BlkP RowG HeapP
section
variable {H : Type} {encH : TypeId × Value → H} {W : World}
theorem int_elem {k : Nat} {c0 : Value} {T : TypeId} {y : DataW H × List MemPlace} (hT : Try.prog.underlying T = some (.int .i64)) (h : DataW.trod encH Try.prog W 0 (fun _ => true) true k T [c0] = some y) : ∃ x : Int, c0 = .int .i64 x := by
  obtain ⟨a, ha, _, wa⟩ := DataW.trod_int (cs := [c0]) hT h
  simp at ha
  exact ⟨a, ha⟩
theorem tick_elem {k : Nat} {c0 c1 : Value} {y : DataW H × List MemPlace} (h : DataW.trod encH Try.prog W 0 (fun _ => true) true k TT [c0, c1] = some y) : ∃ x : Tick, c0 = .int .i64 x.1 ∧ c1 = .int .i64 x.2 := by
  obtain ⟨ys, n', _, _, _, hyl, hf⟩ := DataW.trod_struct Try.underlying31 h
  have hyl2 : ys.length = 2 := hyl
  have h0 := hf 0 _ rfl
  have h1 := hf 1 _ rfl
  rw [List.getElem?_eq_getElem (by omega)] at h0 h1
  have hc : Try.prog.cellsOf 3 = 1 := by kernel_rfl
  have hc2 : Try.prog.cellsOf 2 = 1 := by kernel_rfl
  obtain ⟨a, ha⟩ := int_elem Try.underlying3 (c0 := c0) (by simpa [hc] using h0)
  obtain ⟨b, hb⟩ := int_elem Try.underlying2 (c0 := c1) (by simpa [hc2] using h1)
  exact ⟨(a, b), ha, hb⟩
theorem do_elem {k : Nat} {c0 c1 c2 : Value} {y : DataW H × List MemPlace} (h : DataW.trod encH Try.prog W 0 (fun _ => true) true k 39 [c0, c1, c2] = some y) : ∃ x : Int × Tick, c0 = .int .i64 x.1 ∧ c1 = .int .i64 x.2.1 ∧ c2 = .int .i64 x.2.2 := by
  obtain ⟨ys, n', _, _, _, hyl, hf⟩ := DataW.trod_struct Try.underlying39 h
  have hyl2 : ys.length = 2 := hyl
  have h0 := hf 0 _ rfl
  have h1 := hf 1 _ rfl
  rw [List.getElem?_eq_getElem (by omega)] at h0 h1
  have hc : Try.prog.cellsOf 3 = 1 := by kernel_rfl
  have hc2 : Try.prog.cellsOf 31 = 2 := by kernel_rfl
  obtain ⟨a, ha⟩ := int_elem Try.underlying3 (c0 := c0) (by simpa [hc] using h0)
  obtain ⟨t, ht1, ht2⟩ := tick_elem (c0 := c1) (c1 := c2) (by simpa [hc2] using h1)
  exact ⟨(a, t), ha, ht1, ht2⟩
/-- A{j}, x{j} (the list), c{j} (its capacity). -/
theorem open_ticks {v : Value} {d : DataW H} {p : List MemPlace} (hone : v.cells.toList = [v]) (h : DataW.Trod encH Try.prog W 0 (fun _ => true) true 22 v d p) :
    ∃ (A : Option Addr) (xs : List Tick) (c : Nat), v = .slice A xs.length c ∧ xs.length ≤ c ∧ Rd encT W (.slice A xs.length c) xs := by
  obtain ⟨A, n, c, rfl, hnc, hcm, hnil, hel⟩ := OpenQ.slice_at (C := 2) Try.underlying22 (by kernel_rfl) hone h
  have hm : maxLen = 9223372036854775807 := rfl
  rcases A with _ | a
  · have := hnil rfl
    subst this
    exact ⟨none, [], c, rfl, by simp, ⟨none, c, rfl, by simp, by omega, fun h => absurd rfl h⟩⟩
  · have each : ∀ i, i < n → ∃ x : Tick, W.cell? (a.add (i * 2)) = some (.int .i64 x.1) ∧ W.cell? (a.add (i * 2 + 1)) = some (.int .i64 x.2) := fun i hi => by
      obtain ⟨cs, k, y, hl, hc, ht⟩ := hel a rfl i hi
      match cs, hl with
      | [c0, c1], _ =>
        obtain ⟨x, rfl, rfl⟩ := tick_elem ht
        exact ⟨x, hc 0 (by omega), hc 1 (by omega)⟩
    obtain ⟨xs, hl, hxs⟩ := OpenQ.listed n each
    subst hl
    refine ⟨some a, xs, c, rfl, hnc, ⟨some a, c, rfl, hnc, by omega, fun hne => ?_⟩⟩
    have h0 : 0 < xs.length := List.length_pos_iff.2 hne
    obtain ⟨b, o, rfl, hb⟩ := OpenQ.plain (by simpa using (hxs 0 _ (List.getElem?_eq_getElem h0)).1)
    have hadd : ∀ k, (⟨b, o, none⟩ : Addr).add k = ⟨b, o + k, none⟩ := fun k => by unfold Addr.add; split <;> simp_all
    refine ⟨b, o, rfl, hb, fun i x hi j u hu => ?_⟩
    obtain ⟨g0, g1⟩ := hxs i _ hi
    rw [hadd] at g0 g1
    match j, hu with
    | 0, hu =>
      have : .int .i64 x.1 = u := by simpa [encT] using hu
      subst this
      exact g0
    | 1, hu =>
      have : .int .i64 x.2 = u := by simpa [encT] using hu
      subst this
      exact g1
/-- A{j}, x{j} (the list), c{j} (its capacity). -/
theorem open_dos {v : Value} {d : DataW H} {p : List MemPlace} (hone : v.cells.toList = [v]) (h : DataW.Trod encH Try.prog W 0 (fun _ => true) true 35 v d p) :
    ∃ (A : Option Addr) (xs : List (Int × Tick)) (c : Nat), v = .slice A xs.length c ∧ xs.length ≤ c ∧ Rd encDo W (.slice A xs.length c) xs := by
  obtain ⟨A, n, c, rfl, hnc, hcm, hnil, hel⟩ := OpenQ.slice_at (C := 3) Try.underlying35 (by kernel_rfl) hone h
  have hm : maxLen = 9223372036854775807 := rfl
  rcases A with _ | a
  · have := hnil rfl
    subst this
    exact ⟨none, [], c, rfl, by simp, ⟨none, c, rfl, by simp, by omega, fun h => absurd rfl h⟩⟩
  · have each : ∀ i, i < n → ∃ x : (Int × Tick), W.cell? (a.add (i * 3)) = some (.int .i64 x.1) ∧ W.cell? (a.add (i * 3 + 1)) = some (.int .i64 x.2.1) ∧ W.cell? (a.add (i * 3 + 2)) = some (.int .i64 x.2.2) := fun i hi => by
      obtain ⟨cs, k, y, hl, hc, ht⟩ := hel a rfl i hi
      match cs, hl with
      | [c0, c1, c2], _ =>
        obtain ⟨x, rfl, rfl, rfl⟩ := do_elem ht
        exact ⟨x, hc 0 (by omega), hc 1 (by omega), hc 2 (by omega)⟩
    obtain ⟨xs, hl, hxs⟩ := OpenQ.listed n each
    subst hl
    refine ⟨some a, xs, c, rfl, hnc, ⟨some a, c, rfl, hnc, by omega, fun hne => ?_⟩⟩
    have h0 : 0 < xs.length := List.length_pos_iff.2 hne
    obtain ⟨b, o, rfl, hb⟩ := OpenQ.plain (by simpa using (hxs 0 _ (List.getElem?_eq_getElem h0)).1)
    have hadd : ∀ k, (⟨b, o, none⟩ : Addr).add k = ⟨b, o + k, none⟩ := fun k => by unfold Addr.add; split <;> simp_all
    refine ⟨b, o, rfl, hb, fun i x hi j u hu => ?_⟩
    obtain ⟨g0, g1, g2⟩ := hxs i _ hi
    rw [hadd] at g0 g1 g2
    match j, hu with
    | 0, hu =>
      have : .int .i64 x.1 = u := by simpa [encDo] using hu
      subst this
      exact g0
    | 1, hu =>
      have : .int .i64 x.2.1 = u := by simpa [encDo] using hu
      subst this
      exact g1
    | 2, hu =>
      have : .int .i64 x.2.2 = u := by simpa [encDo] using hu
      subst this
      exact g2
end
end QueW
end Go.Proofs.Ytlhanbjendbhfaa
