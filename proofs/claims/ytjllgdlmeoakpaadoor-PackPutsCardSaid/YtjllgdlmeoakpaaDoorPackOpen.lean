/-
  Parts and ticks that came in.
-/
import Derived.Test.YtjllgdlmeoakpaaDoorOpenQ
import Derived.Test.YtjllgdlmeoakpaaDoorOpenP
import Derived.Test.YtjllgdlmeoakpaaDoorBytesArg
import Derived.Test.YtjllgdlmeoakpaaDoorPackMade
namespace Go.Proofs.YtjllgdlmeoakpaaDoor
open Go.ChangeShapes Go.WideShapes Go.ChangeAt Go.RowKit Go.Deep
set_option linter.unusedVariables false
namespace PackW
open BytesW
section
variable {H : Type} {enc : TypeId × Value → H} {W : World}
theorem wf64 {n : Int} (h : (Lit.int .i64 n).wf = true) : -9223372036854775808 ≤ n ∧ n ≤ 9223372036854775807 := by
  simp [Lit.wf] at h
  have h1 : IntKind.i64.min = -9223372036854775808 := rfl
  have h2 : IntKind.i64.max = 9223372036854775807 := rfl
  omega
theorem tick_elem {k : Nat} {c0 c1 : Value} {y : DataW H × List MemPlace} (h : DataW.trod enc Tryd.prog W 0 (fun _ => true) true k 55 [c0, c1] = some y) : ∃ t : Tick, c0 = .int .i64 t.1 ∧ c1 = .int .i64 t.2 := by
  obtain ⟨ys, n', _, _, _, hyl, hf⟩ := DataW.trod_struct Tryd.underlying55 h
  have hyl2 : ys.length = 2 := hyl
  have h0 := hf 0 _ rfl
  have h1 := hf 1 _ rfl
  rw [List.getElem?_eq_getElem (by omega)] at h0 h1
  have hc : Tryd.prog.cellsOf 3 = 1 := by kernel_rfl
  have hc1 : Tryd.prog.cellsOf 2 = 1 := by kernel_rfl
  obtain ⟨a, ha, _, wa⟩ := DataW.trod_int (cs := [c0]) Tryd.underlying3 (by simpa [hc] using h0)
  obtain ⟨b, hb, _, wb⟩ := DataW.trod_int (cs := [c1]) Tryd.underlying2 (by simpa [hc1] using h1)
  simp at ha hb
  exact ⟨(a, b), ha, hb⟩
theorem open_ticks {v : Value} {d : DataW H} {p : List MemPlace} (hone : v.cells.toList = [v]) (h : DataW.Trod enc Tryd.prog W 0 (fun _ => true) true 23 v d p) :
    ∃ (A : Option Addr) (xs : List Tick) (c : Nat), v = .slice A xs.length c ∧ (xs.length ≤ c ∧ c ≤ 9223372036854775807) ∧ PairC tkv W A xs := by
  obtain ⟨A, n, c, rfl, hnc, hcm, hnil, hel⟩ := OpenQ.slice_at (C := 2) Tryd.underlying23 (by kernel_rfl) hone h
  have hm : maxLen = 9223372036854775807 := rfl
  rcases A with _ | a
  · have := hnil rfl
    subst this
    exact ⟨none, [], c, rfl, ⟨by simp, by omega⟩, PairC.nil⟩
  · have each : ∀ i, i < n → ∃ x : Tick, W.cell? (a.add (i * 2)) = some (.int .i64 x.1) ∧ W.cell? (a.add (i * 2 + 1)) = some (.int .i64 x.2) := fun i hi => by
      obtain ⟨cs, k, y, hl, hc, ht⟩ := hel a rfl i hi
      match cs, hl with
      | [c0, c1], _ =>
        obtain ⟨x, rfl, rfl⟩ := tick_elem ht
        exact ⟨x, hc 0 (by omega), hc 1 (by omega)⟩
    obtain ⟨xs, hl, hxs⟩ := OpenQ.listed n each
    subst hl
    refine ⟨some a, xs, c, rfl, ⟨hnc, by omega⟩, fun hne => ?_⟩
    have h0 : 0 < xs.length := List.length_pos_iff.2 hne
    obtain ⟨b, o, rfl, hb⟩ := OpenQ.plain (by simpa using (hxs 0 _ (List.getElem?_eq_getElem h0)).1)
    refine ⟨b, o, rfl, hb, fun i x hi => ?_⟩
    obtain ⟨g1, g2⟩ := hxs i _ hi
    rw [addr_add] at g1 g2
    exact ⟨g1, g2⟩
theorem part_elem {k : Nat} {c0 c1 c2 c3 c4 c5 : Value} {y : DataW H × List MemPlace} (h : DataW.trod enc Tryd.prog W 0 (fun _ => true) true k 47 [c0, c1, c2, c3, c4, c5] = some y) :
    ∃ q : Pt, c0 = .int .i64 q.at_ ∧ c1 = .int .i64 q.many ∧ c2 = bv q.cell.1 ∧ c3 = bv q.cell.2 ∧ c4 = bv q.light.1 ∧ c5 = bv q.light.2 ∧ PtOk q := by
  obtain ⟨ys, n', _, _, _, hyl, hf⟩ := DataW.trod_struct Tryd.underlying47 h
  have hyl2 : ys.length = 4 := hyl
  have h0 := hf 0 _ rfl
  have h1 := hf 1 _ rfl
  have h2 := hf 2 _ rfl
  have h3 := hf 3 _ rfl
  rw [List.getElem?_eq_getElem (by omega)] at h0 h1 h2 h3
  have hc : Tryd.prog.cellsOf 3 = 1 := by kernel_rfl
  have hc1 : Tryd.prog.cellsOf 43 = 2 := by kernel_rfl
  have hc2 : Tryd.prog.cellsOf 45 = 2 := by kernel_rfl
  have hc3 : Tryd.prog.cellsOf 5 = 1 := by kernel_rfl
  obtain ⟨a, ha, _, wa⟩ := DataW.trod_int (cs := [c0]) Tryd.underlying3 (by simpa [hc] using h0)
  obtain ⟨b, hb, _, wb⟩ := DataW.trod_int (cs := [c1]) Tryd.underlying3 (by simpa [hc] using h1)
  simp at ha hb
  obtain ⟨zs, n2, _, _, _, hzl, hg⟩ := DataW.trod_struct (cs := [c2, c3]) Tryd.underlying43 (by simpa [hc1] using h2)
  have hzl2 : zs.length = 2 := hzl
  have g0 := hg 0 _ rfl
  have g1 := hg 1 _ rfl
  rw [List.getElem?_eq_getElem (by omega)] at g0 g1
  obtain ⟨us, n3, _, _, _, hul, hk⟩ := DataW.trod_struct (cs := [c4, c5]) Tryd.underlying45 (by simpa [hc2] using h3)
  have hul2 : us.length = 2 := hul
  have k0 := hk 0 _ rfl
  have k1 := hk 1 _ rfl
  rw [List.getElem?_eq_getElem (by omega)] at k0 k1
  obtain ⟨x2, e2⟩ := byte_elem (c0 := c2) (by simpa [hc3] using g0)
  obtain ⟨x3, e3⟩ := byte_elem (c0 := c3) (by simpa [hc3] using g1)
  obtain ⟨x4, e4⟩ := byte_elem (c0 := c4) (by simpa [hc3] using k0)
  obtain ⟨x5, e5⟩ := byte_elem (c0 := c5) (by simpa [hc3] using k1)
  exact ⟨⟨a, b, (x2, x3), (x4, x5)⟩, ha, hb, e2, e3, e4, e5, wf64 wa, wf64 wb⟩
theorem open_parts {v : Value} {d : DataW H} {p : List MemPlace} (hone : v.cells.toList = [v]) (h : DataW.Trod enc Tryd.prog W 0 (fun _ => true) true 36 v d p) :
    ∃ (A : Option Addr) (xs : List Pt) (c : Nat), v = .slice A xs.length c ∧ xs.length ≤ 9223372036854775807 ∧ (PartC W A xs ∧ ∀ q ∈ xs, PtOk q) := by
  obtain ⟨A, n, c, rfl, hnc, hcm, hnil, hel⟩ := OpenQ.slice_at (C := 6) Tryd.underlying36 (by kernel_rfl) hone h
  have hm : maxLen = 9223372036854775807 := rfl
  rcases A with _ | a
  · have := hnil rfl
    subst this
    exact ⟨none, [], c, rfl, by simp, PartC.nil, fun q hq => by simp at hq⟩
  · have each : ∀ i, i < n → ∃ q : Pt, (W.cell? (a.add (i * 6)) = some (.int .i64 q.at_) ∧ W.cell? (a.add (i * 6 + 1)) = some (.int .i64 q.many) ∧ W.cell? (a.add (i * 6 + 2)) = some (bv q.cell.1) ∧ W.cell? (a.add (i * 6 + 3)) = some (bv q.cell.2) ∧ W.cell? (a.add (i * 6 + 4)) = some (bv q.light.1) ∧ W.cell? (a.add (i * 6 + 5)) = some (bv q.light.2)) ∧ PtOk q := fun i hi => by
      obtain ⟨cs, k, y, hl, hc, ht⟩ := hel a rfl i hi
      match cs, hl with
      | [c0, c1, c2, c3, c4, c5], _ =>
        obtain ⟨q, rfl, rfl, rfl, rfl, rfl, rfl, hq⟩ := part_elem ht
        exact ⟨q, ⟨hc 0 (by omega), hc 1 (by omega), hc 2 (by omega), hc 3 (by omega), hc 4 (by omega), hc 5 (by omega)⟩, hq⟩
    obtain ⟨xs, hl, hxs⟩ := OpenQ.listed n each
    subst hl
    refine ⟨some a, xs, c, rfl, by omega, fun hne => ?_, fun q hq => ?_⟩
    · have h0 : 0 < xs.length := List.length_pos_iff.2 hne
      obtain ⟨b, o, rfl, hb⟩ := OpenQ.plain (by simpa using (hxs 0 _ (List.getElem?_eq_getElem h0)).1.1)
      refine ⟨b, o, rfl, hb, fun i x hi => ?_⟩
      obtain ⟨⟨g0, g1, g2, g3, g4, g5⟩, _⟩ := hxs i _ hi
      rw [addr_add] at g0 g1 g2 g3 g4 g5
      exact ⟨g0, g1, g2, g3, g4, g5⟩
    · obtain ⟨i, hi, rfl⟩ := List.getElem_of_mem hq
      exact (hxs i _ (List.getElem?_eq_getElem hi)).2
theorem rpart_elem {k : Nat} {c0 c1 c2 c3 c4 c5 : Value} {y : DataW H × List MemPlace} (h : DataW.trod enc Tryd.prog W 0 (fun _ => true) true k 58 [c0, c1, c2, c3, c4, c5] = some y) :
    ∃ q : Pt, c0 = .int .i64 q.at_ ∧ c1 = .int .i64 q.many ∧ c2 = bv q.cell.1 ∧ c3 = bv q.cell.2 ∧ c4 = bv q.light.1 ∧ c5 = bv q.light.2 ∧ PtOk q := by
  obtain ⟨ys, n', _, _, _, hyl, hf⟩ := DataW.trod_struct Tryd.underlying58 h
  have hyl2 : ys.length = 4 := hyl
  have h0 := hf 0 _ rfl
  have h1 := hf 1 _ rfl
  have h2 := hf 2 _ rfl
  have h3 := hf 3 _ rfl
  rw [List.getElem?_eq_getElem (by omega)] at h0 h1 h2 h3
  have hc : Tryd.prog.cellsOf 3 = 1 := by kernel_rfl
  have hc1 : Tryd.prog.cellsOf 43 = 2 := by kernel_rfl
  have hc2 : Tryd.prog.cellsOf 45 = 2 := by kernel_rfl
  have hc3 : Tryd.prog.cellsOf 5 = 1 := by kernel_rfl
  obtain ⟨a, ha, _, wa⟩ := DataW.trod_int (cs := [c0]) Tryd.underlying3 (by simpa [hc] using h0)
  obtain ⟨b, hb, _, wb⟩ := DataW.trod_int (cs := [c1]) Tryd.underlying3 (by simpa [hc] using h1)
  simp at ha hb
  obtain ⟨zs, n2, _, _, _, hzl, hg⟩ := DataW.trod_struct (cs := [c2, c3]) Tryd.underlying43 (by simpa [hc1] using h2)
  have hzl2 : zs.length = 2 := hzl
  have g0 := hg 0 _ rfl
  have g1 := hg 1 _ rfl
  rw [List.getElem?_eq_getElem (by omega)] at g0 g1
  obtain ⟨us, n3, _, _, _, hul, hk⟩ := DataW.trod_struct (cs := [c4, c5]) Tryd.underlying45 (by simpa [hc2] using h3)
  have hul2 : us.length = 2 := hul
  have k0 := hk 0 _ rfl
  have k1 := hk 1 _ rfl
  rw [List.getElem?_eq_getElem (by omega)] at k0 k1
  obtain ⟨x2, e2⟩ := byte_elem (c0 := c2) (by simpa [hc3] using g0)
  obtain ⟨x3, e3⟩ := byte_elem (c0 := c3) (by simpa [hc3] using g1)
  obtain ⟨x4, e4⟩ := byte_elem (c0 := c4) (by simpa [hc3] using k0)
  obtain ⟨x5, e5⟩ := byte_elem (c0 := c5) (by simpa [hc3] using k1)
  exact ⟨⟨a, b, (x2, x3), (x4, x5)⟩, ha, hb, e2, e3, e4, e5, wf64 wa, wf64 wb⟩
theorem open_rparts {v : Value} {d : DataW H} {p : List MemPlace} (hone : v.cells.toList = [v]) (h : DataW.Trod enc Tryd.prog W 0 (fun _ => true) true 22 v d p) :
    ∃ (A : Option Addr) (xs : List Pt) (c : Nat), v = .slice A xs.length c ∧ xs.length ≤ 9223372036854775807 ∧ (PartC W A xs ∧ ∀ q ∈ xs, PtOk q) := by
  obtain ⟨A, n, c, rfl, hnc, hcm, hnil, hel⟩ := OpenQ.slice_at (C := 6) Tryd.underlying22 (by kernel_rfl) hone h
  have hm : maxLen = 9223372036854775807 := rfl
  rcases A with _ | a
  · have := hnil rfl
    subst this
    exact ⟨none, [], c, rfl, by simp, PartC.nil, fun q hq => by simp at hq⟩
  · have each : ∀ i, i < n → ∃ q : Pt, (W.cell? (a.add (i * 6)) = some (.int .i64 q.at_) ∧ W.cell? (a.add (i * 6 + 1)) = some (.int .i64 q.many) ∧ W.cell? (a.add (i * 6 + 2)) = some (bv q.cell.1) ∧ W.cell? (a.add (i * 6 + 3)) = some (bv q.cell.2) ∧ W.cell? (a.add (i * 6 + 4)) = some (bv q.light.1) ∧ W.cell? (a.add (i * 6 + 5)) = some (bv q.light.2)) ∧ PtOk q := fun i hi => by
      obtain ⟨cs, k, y, hl, hc, ht⟩ := hel a rfl i hi
      match cs, hl with
      | [c0, c1, c2, c3, c4, c5], _ =>
        obtain ⟨q, rfl, rfl, rfl, rfl, rfl, rfl, hq⟩ := rpart_elem ht
        exact ⟨q, ⟨hc 0 (by omega), hc 1 (by omega), hc 2 (by omega), hc 3 (by omega), hc 4 (by omega), hc 5 (by omega)⟩, hq⟩
    obtain ⟨xs, hl, hxs⟩ := OpenQ.listed n each
    subst hl
    refine ⟨some a, xs, c, rfl, by omega, fun hne => ?_, fun q hq => ?_⟩
    · have h0 : 0 < xs.length := List.length_pos_iff.2 hne
      obtain ⟨b, o, rfl, hb⟩ := OpenQ.plain (by simpa using (hxs 0 _ (List.getElem?_eq_getElem h0)).1.1)
      refine ⟨b, o, rfl, hb, fun i x hi => ?_⟩
      obtain ⟨⟨g0, g1, g2, g3, g4, g5⟩, _⟩ := hxs i _ hi
      rw [addr_add] at g0 g1 g2 g3 g4 g5
      exact ⟨g0, g1, g2, g3, g4, g5⟩
    · obtain ⟨i, hi, rfl⟩ := List.getElem_of_mem hq
      exact (hxs i _ (List.getElem?_eq_getElem hi)).2
end
end PackW
end Go.Proofs.YtjllgdlmeoakpaaDoor
