/-
  Slices of writes, and of the law's calls, that came in: what is known of them.
-/
import Derived.Test.YtknckaegpdganaaDoorOpenQ
import Derived.Test.YtknckaegpdganaaDoorOpenP
import Derived.Test.YtknckaegpdganaaDoorSectorI
-- mine: whole_c same_c awake_c take_c step_c back_c
namespace Go.Proofs.YtknckaegpdganaaDoor
open Go.ChangeShapes Go.WideShapes Go.ChangeAt Go.RowKit Go.Deep
set_option linter.unusedVariables false
set_option linter.unusedSimpArgs false
namespace SecW
open BlkP RowG SecP
/-- The law's calls: what, at, the text. -/
def encDo : Enc (Int × Int × Sec) := ⟨fun q => [.int .i64 q.1, .int .i64 q.2.1, .string (str q.2.2)], 3, fun _ => rfl, fun x v h => by
  simp only [List.mem_cons, List.not_mem_nil, or_false] at h
  rcases h with rfl | rfl | rfl <;> rfl⟩
theorem byteArr (b : ByteArray) : ∃ x : List UInt8, b = ⟨x.toArray⟩ := ⟨b.data.toList, by simp⟩
section
variable {H : Type} {encH : TypeId × Value → H} {W : World}
theorem int_elem {k : Nat} {c0 : Value} {T : TypeId} {y : DataW H × List MemPlace} (hT : Tryd.prog.underlying T = some (.int .i64)) (h : DataW.trod encH Tryd.prog W 0 (fun _ => true) true k T [c0] = some y) : ∃ x : Int, c0 = .int .i64 x := by
  obtain ⟨a, ha, _, wa⟩ := DataW.trod_int (cs := [c0]) hT h
  simp at ha
  exact ⟨a, ha⟩
theorem str_elem {k : Nat} {c0 : Value} {T : TypeId} {y : DataW H × List MemPlace} (hT : Tryd.prog.underlying T = some .string) (h : DataW.trod encH Tryd.prog W 0 (fun _ => true) true k T [c0] = some y) : ∃ x : Sec, c0 = .string (str x) := by
  obtain ⟨s, hs, _⟩ := DataW.trod_string (cs := [c0]) hT h
  simp at hs
  exact ⟨s.data.toList, by rw [hs, str_list]⟩
theorem write_elem {k : Nat} {c0 c1 : Value} {y : DataW H × List MemPlace} (h : DataW.trod encH Tryd.prog W 0 (fun _ => true) true k TA [c0, c1] = some y) : ∃ x : Int × Sec, c0 = .int .i64 x.1 ∧ c1 = .string (str x.2) := by
  obtain ⟨ys, n', _, _, _, hyl, hf⟩ := DataW.trod_struct Tryd.underlying39 h
  have hyl2 : ys.length = 2 := hyl
  have h0 := hf 0 _ rfl
  have h1 := hf 1 _ rfl
  rw [List.getElem?_eq_getElem (by omega)] at h0 h1
  have hc : Tryd.prog.cellsOf 3 = 1 := by kernel_rfl
  have hc2 : Tryd.prog.cellsOf 9 = 1 := by kernel_rfl
  obtain ⟨a, ha⟩ := int_elem Tryd.underlying3 (c0 := c0) (by simpa [hc] using h0)
  obtain ⟨b, hb⟩ := str_elem Tryd.underlying9 (c0 := c1) (by simpa [hc2] using h1)
  exact ⟨(a, b), ha, hb⟩
/-- A{j}, x{j} (the list), c{j} (its capacity). -/
theorem open_writes {v : Value} {d : DataW H} {p : List MemPlace} (hone : v.cells.toList = [v]) (h : DataW.Trod encH Tryd.prog W 0 (fun _ => true) true 22 v d p) :
    ∃ (A : Option Addr) (xs : List (Int × Sec)) (c : Nat), v = .slice A xs.length c ∧ xs.length ≤ c ∧ Rd encL W (.slice A xs.length c) xs := by
  obtain ⟨A, n, c, rfl, hnc, hcm, hnil, hel⟩ := OpenQ.slice_at (C := 2) Tryd.underlying22 (by kernel_rfl) hone h
  have hm : maxLen = 9223372036854775807 := rfl
  rcases A with _ | a
  · have := hnil rfl
    subst this
    exact ⟨none, [], c, rfl, by simp, ⟨none, c, rfl, by simp, by omega, fun h => absurd rfl h⟩⟩
  · have each : ∀ i, i < n → ∃ x : (Int × Sec), W.cell? (a.add (i * 2)) = some (.int .i64 x.1) ∧ W.cell? (a.add (i * 2 + 1)) = some (.string (str x.2)) := fun i hi => by
      obtain ⟨cs, k, y, hl, hc, ht⟩ := hel a rfl i hi
      match cs, hl with
      | [c0, c1], _ =>
        obtain ⟨x, rfl, rfl⟩ := write_elem ht
        exact ⟨x, hc 0 (by omega), hc 1 (by omega)⟩
    obtain ⟨xs, hl, hxs⟩ := OpenQ.listed n each
    subst hl
    refine ⟨some a, xs, c, rfl, hnc, ⟨some a, c, rfl, hnc, by omega, fun hne => ?_⟩⟩
    have h0 : 0 < xs.length := List.length_pos_iff.2 hne
    obtain ⟨b, o, rfl, hb⟩ := OpenQ.plain (by simpa using (hxs 0 _ (List.getElem?_eq_getElem h0)).1)
    have hadd : ∀ k, (⟨b, o, none⟩ : Addr).add k = ⟨b, o + k, none⟩ := fun k => by unfold Addr.add; split <;> simp_all
    refine ⟨b, o, rfl, hb, fun i x hi j u hu => ?_⟩
    obtain ⟨g0, g1⟩ := hxs i _ hi
    rw [hadd] at g0 g1
    match j, hu with
    | 0, hu =>
      have : .int .i64 x.1 = u := by simpa [encL] using hu
      subst this
      exact g0
    | 1, hu =>
      have : .string (str x.2) = u := by simpa [encL] using hu
      subst this
      exact g1
end
end SecW
end Go.Proofs.YtknckaegpdganaaDoor
