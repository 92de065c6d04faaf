/-
  A box that came in.
-/
import Derived.Test.YtbkadecfmjjadaaDoorOpenQ
import Derived.Test.YtbkadecfmjjadaaDoorOpenP
import Derived.Test.YtbkadecfmjjadaaDoorGlowWalks1
namespace Go.Proofs.YtbkadecfmjjadaaDoor
open Go.ChangeShapes Go.WideShapes Go.ChangeAt Go.RowKit Go.Deep
set_option linter.unusedVariables false
namespace GlowW
open RowG
section
variable {H : Type} {enc : TypeId × Value → H} {W : World}
theorem u8_elem {k : Nat} {c0 : Value} {y : DataW H × List MemPlace} (h : DataW.trod enc Tryd.prog W 0 (fun _ => true) true k 5 [c0] = some y) : ∃ x : Nat, c0 = u8v x ∧ x < 256 := by
  obtain ⟨a, ha, _, wa⟩ := DataW.trod_int (cs := [c0]) Tryd.underlying5 h
  simp at ha
  have hw : 0 ≤ a ∧ a ≤ 255 := by
    simp [Lit.wf] at wa
    have h1 : IntKind.u8.min = 0 := rfl
    have h2 : IntKind.u8.max = 255 := rfl
    omega
  obtain ⟨n, rfl⟩ := Int.eq_ofNat_of_zero_le hw.1
  exact ⟨n, ha, by omega⟩
theorem cell_elem {k : Nat} {c0 c1 : Value} {y : DataW H × List MemPlace} (h : DataW.trod enc Tryd.prog W 0 (fun _ => true) true k 32 [c0, c1] = some y) : ∃ x : Nat × Nat, c0 = u8v x.1 ∧ c1 = u8v x.2 ∧ x.1 < 256 ∧ x.2 < 256 := by
  obtain ⟨ys, n', _, _, _, hyl, hf⟩ := DataW.trod_struct Tryd.underlying32 h
  have hyl2 : ys.length = 2 := hyl
  have h0 := hf 0 _ rfl
  have h1 := hf 1 _ rfl
  rw [List.getElem?_eq_getElem (by omega)] at h0 h1
  have hc : Tryd.prog.cellsOf 5 = 1 := by kernel_rfl
  obtain ⟨a, ha, hla⟩ := u8_elem (c0 := c0) (by simpa [hc] using h0)
  obtain ⟨b, hb, hlb⟩ := u8_elem (c0 := c1) (by simpa [hc] using h1)
  exact ⟨(a, b), ha, hb, hla, hlb⟩
theorem open_cells {v : Value} {d : DataW H} {p : List MemPlace} (hone : v.cells.toList = [v]) (h : DataW.Trod enc Tryd.prog W 0 (fun _ => true) true 22 v d p) :
    ∃ (A : Option Addr) (xs : List (Nat × Nat)) (c : Nat), v = .slice A xs.length c ∧ Rd enc2 W (.slice A xs.length c) xs ∧ ∀ x ∈ xs, x.1 < 256 ∧ x.2 < 256 := by
  obtain ⟨A, n, c, rfl, hnc, hcm, hnil, hel⟩ := OpenQ.slice_at (C := 2) Tryd.underlying22 (by kernel_rfl) hone h
  have hm : maxLen = 9223372036854775807 := rfl
  rcases A with _ | a
  · have := hnil rfl
    subst this
    exact ⟨none, [], c, rfl, ⟨none, c, rfl, by simp, by omega, fun h => absurd rfl h⟩, fun x h => by cases h⟩
  · have each : ∀ i, i < n → ∃ x : Nat × Nat, W.cell? (a.add (i * 2)) = some (u8v x.1) ∧ W.cell? (a.add (i * 2 + 1)) = some (u8v x.2) ∧ x.1 < 256 ∧ x.2 < 256 := fun i hi => by
      obtain ⟨cs, k, y, hl, hc, ht⟩ := hel a rfl i hi
      match cs, hl with
      | [c0, c1], _ =>
        obtain ⟨x, rfl, rfl, h1, h2⟩ := cell_elem ht
        exact ⟨x, hc 0 (by omega), hc 1 (by omega), h1, h2⟩
    obtain ⟨xs, hl, hxs⟩ := OpenQ.listed n each
    subst hl
    refine ⟨some a, xs, c, rfl, ⟨some a, c, rfl, hnc, by omega, fun hne => ?_⟩, fun x hx => ?_⟩
    · have h0 : 0 < xs.length := List.length_pos_iff.2 hne
      obtain ⟨b, o, rfl, hb⟩ := OpenQ.plain (by simpa using (hxs 0 _ (List.getElem?_eq_getElem h0)).1)
      have hadd : ∀ k, (⟨b, o, none⟩ : Addr).add k = ⟨b, o + k, none⟩ := fun k => by unfold Addr.add; split <;> simp_all
      refine ⟨b, o, rfl, hb, fun i x hi j u hu => ?_⟩
      obtain ⟨g0, g1, _, _⟩ := hxs i _ hi
      rw [hadd] at g0 g1
      match j, hu with
      | 0, hu =>
        have : u8v x.1 = u := by simpa [enc2] using hu
        subst this
        exact g0
      | 1, hu =>
        have : u8v x.2 = u := by simpa [enc2] using hu
        subst this
        exact g1
    · obtain ⟨i, hi⟩ := List.getElem?_of_mem hx
      exact ⟨(hxs i x hi).2.2.1, (hxs i x hi).2.2.2⟩
/-- A box: three numbers, and its cells. -/
theorem open_box {r : Reach} {b : Nat} {v : Value} {d : DataW H} {p : List MemPlace} (hv : Value.okWide Tryd.prog W r b 24 v) (h : DataW.Trod enc Tryd.prog W 0 (fun _ => true) true 24 v d p) :
    ∃ (X Y Z : Int) (A : Option Addr) (xs : List (Nat × Nat)) (c : Nat), v = .agg #[.int .i64 X, .int .i64 Y, .int .i64 Z, .slice A xs.length c] ∧ (Rd enc2 W (.slice A xs.length c) xs ∧ (∀ x ∈ xs, x.1 < 256 ∧ x.2 < 256) ∧ True) := by
  obtain ⟨m, rfl, hm, hc⟩ := OpenP.v_agg (n := 4) (ts := [3, 3, 3, 22]) (.inl ⟨_, Tryd.underlying24⟩) (by kernel_rfl) rfl (by kernel_rfl) hv
  obtain ⟨e0, e1, e2, e3, rfl⟩ := OpenP.len4 hm
  obtain ⟨_, e, k3⟩ := hc 3 _ rfl
  obtain rfl := Option.some.inj e
  obtain ⟨fuel, hf⟩ := h
  obtain ⟨ys, n', _, _, _, hyl, hg⟩ := DataW.trod_struct (cs := [e0, e1, e2, e3]) Tryd.underlying24 hf
  have hyl2 : ys.length = 4 := hyl
  have h0 := hg 0 _ rfl
  have h1 := hg 1 _ rfl
  have h2 := hg 2 _ rfl
  have h3 := hg 3 _ rfl
  rw [List.getElem?_eq_getElem (by omega)] at h0 h1 h2 h3
  have z0 : Tryd.prog.cellsOf 22 = 1 := by kernel_rfl
  have z2 : Tryd.prog.cellsOf 3 = 1 := by kernel_rfl
  have o3 : e3.cells.toList = [e3] := OpenQ.v_slice (W := W) (r := r) (b := b) Tryd.underlying22 (by unfold Value.okWide; rw [Tryd.underlying22]; exact k3)
  obtain ⟨A, xs, c, rfl, hr, hx⟩ := open_cells (enc := enc) (d := ys[3].1) (p := ys[3].2) o3 ⟨n', by rw [o3]; simpa [z0] using h3⟩
  obtain ⟨a, ha, _, _⟩ := DataW.trod_int (cs := [e0]) Tryd.underlying3 (by simpa [z2] using h0)
  obtain ⟨a1, ha1, _, _⟩ := DataW.trod_int (cs := [e1]) Tryd.underlying3 (by simpa [z2] using h1)
  obtain ⟨a2, ha2, _, _⟩ := DataW.trod_int (cs := [e2]) Tryd.underlying3 (by simpa [z2] using h2)
  simp at ha ha1 ha2
  subst ha ha1 ha2
  exact ⟨a, a1, a2, A, xs, c, rfl, hr, hx, trivial⟩
end
end GlowW
end Go.Proofs.YtbkadecfmjjadaaDoor
