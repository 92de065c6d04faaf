/-
  Slices of numbers, of texts and of the law's calls that came in: what is known of them.
-/
import Derived.Test.YtbnkaeigabifhaaDoorOpenQ
import Derived.Test.YtbnkaeigabifhaaDoorOpenP
import Derived.Test.YtbnkaeigabifhaaDoorFreeMem
-- mine: whole_c same_c awake_c take_c step_c back_c Made number_c next_c fixed_c clone_c int_c end_c put_c int_elem str_elem
namespace Go.Proofs.YtbnkaeigabifhaaDoor
open Go.ChangeShapes Go.WideShapes Go.ChangeAt Go.RowKit Go.Deep
set_option linter.unusedVariables false
set_option linter.unusedSimpArgs false
namespace FreW
open BlkP RowG FreP
/-- A call of the law: what, n, the numbers. -/
structure DoV where
  what : Int
  n : Int
  A : Option Addr
  m : Nat
  c : Nat
  l : List Int
def encDo : Enc DoV := ⟨fun q => [.int .i64 q.what, .int .i64 q.n, .slice q.A q.m q.c], 3, fun _ => rfl, fun x v h => by
  simp only [List.mem_cons, List.not_mem_nil, or_false] at h
  rcases h with rfl | rfl | rfl <;> rfl⟩
section
variable {H : Type} {encH : TypeId × Value → H} {W : World}
theorem int_elem {k : Nat} {c0 : Value} {T : TypeId} {y : DataW H × List MemPlace} (hT : Tryd.prog.underlying T = some (.int .i64)) (h : DataW.trod encH Tryd.prog W 0 (fun _ => true) true k T [c0] = some y) : ∃ x : Int, c0 = .int .i64 x := by
  obtain ⟨a, ha, _, wa⟩ := DataW.trod_int (cs := [c0]) hT h
  simp at ha
  exact ⟨a, ha⟩
theorem str_elem {k : Nat} {c0 : Value} {T : TypeId} {y : DataW H × List MemPlace} (hT : Tryd.prog.underlying T = some .string) (h : DataW.trod encH Tryd.prog W 0 (fun _ => true) true k T [c0] = some y) : ∃ x : List UInt8, c0 = .string ⟨x.toArray⟩ := by
  obtain ⟨s, hs, _⟩ := DataW.trod_string (cs := [c0]) hT h
  simp at hs
  exact ⟨s.data.toList, by rw [hs]⟩
/-- A{j}, x{j} (the list), c{j} (its capacity). -/
theorem open_ints {v : Value} {d : DataW H} {p : List MemPlace} (hone : v.cells.toList = [v]) (h : DataW.Trod encH Tryd.prog W 0 (fun _ => true) true 32 v d p) :
    ∃ (A : Option Addr) (xs : List Int) (c : Nat), v = .slice A xs.length c ∧ xs.length ≤ c ∧ Rd RowG.encI W (.slice A xs.length c) xs := by
  obtain ⟨A, n, c, rfl, hnc, hcm, hnil, hel⟩ := OpenQ.slice_at (C := 1) Tryd.underlying32 (by kernel_rfl) hone h
  have hm : maxLen = 9223372036854775807 := rfl
  rcases A with _ | a
  · have := hnil rfl
    subst this
    exact ⟨none, [], c, rfl, by simp, ⟨none, c, rfl, by simp, by omega, fun h => absurd rfl h⟩⟩
  · have each : ∀ i, i < n → ∃ x : Int, W.cell? (a.add (i * 1)) = some (.int .i64 x) := fun i hi => by
      obtain ⟨cs, k, y, hl, hc, ht⟩ := hel a rfl i hi
      match cs, hl with
      | [c0], _ =>
        obtain ⟨x, rfl⟩ := int_elem Tryd.underlying3 ht
        exact ⟨x, hc 0 (by omega)⟩
    obtain ⟨xs, hl, hxs⟩ := OpenQ.listed n each
    subst hl
    refine ⟨some a, xs, c, rfl, hnc, ⟨some a, c, rfl, hnc, by omega, fun hne => ?_⟩⟩
    have h0 : 0 < xs.length := List.length_pos_iff.2 hne
    obtain ⟨b, o, rfl, hb⟩ := OpenQ.plain (by simpa using (hxs 0 _ (List.getElem?_eq_getElem h0)))
    have hadd : ∀ k, (⟨b, o, none⟩ : Addr).add k = ⟨b, o + k, none⟩ := fun k => by unfold Addr.add; split <;> simp_all
    refine ⟨b, o, rfl, hb, fun i x hi j u hu => ?_⟩
    have g0 := hxs i _ hi
    rw [hadd] at g0
    match j, hu with
    | 0, hu =>
      have : .int .i64 x = u := by simpa [RowG.encI] using hu
      subst this
      exact g0
theorem open_texts {v : Value} {d : DataW H} {p : List MemPlace} (hone : v.cells.toList = [v]) (h : DataW.Trod encH Tryd.prog W 0 (fun _ => true) true 43 v d p) :
    ∃ (A : Option Addr) (xs : List (List UInt8)) (c : Nat), v = .slice A xs.length c ∧ xs.length ≤ c ∧ Rd encS W (.slice A xs.length c) xs := by
  obtain ⟨A, n, c, rfl, hnc, hcm, hnil, hel⟩ := OpenQ.slice_at (C := 1) Tryd.underlying43 (by kernel_rfl) hone h
  have hm : maxLen = 9223372036854775807 := rfl
  rcases A with _ | a
  · have := hnil rfl
    subst this
    exact ⟨none, [], c, rfl, by simp, ⟨none, c, rfl, by simp, by omega, fun h => absurd rfl h⟩⟩
  · have each : ∀ i, i < n → ∃ x : List UInt8, W.cell? (a.add (i * 1)) = some (.string ⟨x.toArray⟩) := fun i hi => by
      obtain ⟨cs, k, y, hl, hc, ht⟩ := hel a rfl i hi
      match cs, hl with
      | [c0], _ =>
        obtain ⟨x, rfl⟩ := str_elem Tryd.underlying9 ht
        exact ⟨x, hc 0 (by omega)⟩
    obtain ⟨xs, hl, hxs⟩ := OpenQ.listed n each
    subst hl
    refine ⟨some a, xs, c, rfl, hnc, ⟨some a, c, rfl, hnc, by omega, fun hne => ?_⟩⟩
    have h0 : 0 < xs.length := List.length_pos_iff.2 hne
    obtain ⟨b, o, rfl, hb⟩ := OpenQ.plain (by simpa using (hxs 0 _ (List.getElem?_eq_getElem h0)))
    have hadd : ∀ k, (⟨b, o, none⟩ : Addr).add k = ⟨b, o + k, none⟩ := fun k => by unfold Addr.add; split <;> simp_all
    refine ⟨b, o, rfl, hb, fun i x hi j u hu => ?_⟩
    have g0 := hxs i _ hi
    rw [hadd] at g0
    match j, hu with
    | 0, hu =>
      have : .string ⟨x.toArray⟩ = u := by simpa [encS] using hu
      subst this
      exact g0
theorem slice_one {k : Nat} {c0 : Value} {t e : TypeId} {y : DataW H × List MemPlace} (ht : Tryd.prog.underlying t = some (.slice e)) (h : DataW.trod encH Tryd.prog W 0 (fun _ => true) true k t [c0] = some y) : c0.cells.toList = [c0] := by
  rcases open_slice ht h with ⟨h0, _⟩ | ⟨a, len, cap, m, n, D, Pl, hcs, _⟩
  · injection h0 with h0 _
    subst h0
    rfl
  · injection hcs with hcs _
    subst hcs
    rfl
theorem do_elem {k : Nat} {c0 c1 c2 : Value} {y : DataW H × List MemPlace} (h : DataW.trod encH Tryd.prog W 0 (fun _ => true) true k 34 [c0, c1, c2] = some y) : ∃ x : DoV, c0 = .int .i64 x.what ∧ c1 = .int .i64 x.n ∧ c2 = .slice x.A x.m x.c ∧ x.l.length = x.m ∧ Rd RowG.encI W (.slice x.A x.m x.c) x.l := by
  obtain ⟨ys, n', _, _, _, hyl, hf⟩ := DataW.trod_struct Tryd.underlying34 h
  have hyl2 : ys.length = 3 := hyl
  have h0 := hf 0 _ rfl
  have h1 := hf 1 _ rfl
  have h2 := hf 2 _ rfl
  rw [List.getElem?_eq_getElem (by omega)] at h0 h1 h2
  have hc : Tryd.prog.cellsOf 3 = 1 := by kernel_rfl
  have hc2 : Tryd.prog.cellsOf 32 = 1 := by kernel_rfl
  obtain ⟨a, ha⟩ := int_elem Tryd.underlying3 (c0 := c0) (by simpa [hc] using h0)
  obtain ⟨b, hb⟩ := int_elem Tryd.underlying3 (c0 := c1) (by simpa [hc] using h1)
  have h3 : DataW.trod encH Tryd.prog W 0 (fun _ => true) true n' 32 [c2] = some ys[2] := by simpa [hc2] using h2
  have hone := slice_one Tryd.underlying32 h3
  obtain ⟨A, xs, c, e, _, hr⟩ := open_ints (v := c2) (d := ys[2].1) (p := ys[2].2) hone ⟨n', by rw [hone, h3]⟩
  exact ⟨⟨a, b, A, xs.length, c, xs⟩, ha, hb, e, rfl, hr⟩
/-- A{j}, x{j} (the list), c{j} (its capacity). -/
theorem open_dos {v : Value} {d : DataW H} {p : List MemPlace} (hone : v.cells.toList = [v]) (h : DataW.Trod encH Tryd.prog W 0 (fun _ => true) true 22 v d p) :
    ∃ (A : Option Addr) (xs : List DoV) (c : Nat), v = .slice A xs.length c ∧ xs.length ≤ c ∧ (Rd encDo W (.slice A xs.length c) xs ∧ ∀ x ∈ xs, x.l.length = x.m ∧ Rd RowG.encI W (.slice x.A x.m x.c) x.l) := by
  obtain ⟨A, n, c, rfl, hnc, hcm, hnil, hel⟩ := OpenQ.slice_at (C := 3) Tryd.underlying22 (by kernel_rfl) hone h
  have hm : maxLen = 9223372036854775807 := rfl
  rcases A with _ | a
  · have := hnil rfl
    subst this
    exact ⟨none, [], c, rfl, by simp, ⟨none, c, rfl, by simp, by omega, fun h => absurd rfl h⟩, fun x hx => by simp at hx⟩
  · have each : ∀ i, i < n → ∃ x : DoV, W.cell? (a.add (i * 3)) = some (.int .i64 x.what) ∧ W.cell? (a.add (i * 3 + 1)) = some (.int .i64 x.n) ∧ W.cell? (a.add (i * 3 + 2)) = some (.slice x.A x.m x.c) ∧ x.l.length = x.m ∧ Rd RowG.encI W (.slice x.A x.m x.c) x.l := fun i hi => by
      obtain ⟨cs, k, y, hl, hc, ht⟩ := hel a rfl i hi
      match cs, hl with
      | [c0, c1, c2], _ =>
        obtain ⟨x, rfl, rfl, rfl, hx1, hx2⟩ := do_elem ht
        exact ⟨x, hc 0 (by omega), hc 1 (by omega), hc 2 (by omega), hx1, hx2⟩
    obtain ⟨xs, hl, hxs⟩ := OpenQ.listed n each
    subst hl
    refine ⟨some a, xs, c, rfl, hnc, ⟨some a, c, rfl, hnc, by omega, fun hne => ?_⟩, fun x hx => ?_⟩
    · have h0 : 0 < xs.length := List.length_pos_iff.2 hne
      obtain ⟨b, o, rfl, hb⟩ := OpenQ.plain (by simpa using (hxs 0 _ (List.getElem?_eq_getElem h0)).1)
      have hadd : ∀ k, (⟨b, o, none⟩ : Addr).add k = ⟨b, o + k, none⟩ := fun k => by unfold Addr.add; split <;> simp_all
      refine ⟨b, o, rfl, hb, fun i x hi j u hu => ?_⟩
      obtain ⟨g0, g1, g2, _, _⟩ := hxs i _ hi
      rw [hadd] at g0 g1 g2
      match j, hu with
      | 0, hu =>
        have : .int .i64 x.what = u := by simpa [encDo] using hu
        subst this
        exact g0
      | 1, hu =>
        have : .int .i64 x.n = u := by simpa [encDo] using hu
        subst this
        exact g1
      | 2, hu =>
        have : .slice x.A x.m x.c = u := by simpa [encDo] using hu
        subst this
        exact g2
    · obtain ⟨i, hi⟩ := List.getElem?_of_mem hx
      exact ⟨(hxs i x hi).2.2.2.1, (hxs i x hi).2.2.2.2⟩
end
end FreW
end Go.Proofs.YtbnkaeigabifhaaDoor
