/-
  A Cut that came in.
-/
import Derived.Test.YtjllgdlmeoakpaaDoorPackOpen
namespace Go.Proofs.YtjllgdlmeoakpaaDoor
open Go.ChangeShapes Go.WideShapes Go.ChangeAt Go.RowKit Go.Deep
set_option linter.unusedVariables false
namespace PackW
open BytesW
section
variable {H : Type} {enc : TypeId × Value → H} {W : World}
set_option maxRecDepth 100000 in
theorem open_cut {r : Reach} {b : Nat} {v : Value} {d : DataW H} {p : List MemPlace} (hv : Value.okWide Tryd.prog W r b 40 v) (h : DataW.Trod enc Tryd.prog W 0 (fun _ => true) true 40 v d p) :
    ∃ (A : Option Addr) (xs : List Pt) (c : Nat) (B : Option Addr) (ys : List Tick) (e : Nat) (at_ : Int) (u : UInt8), v = .agg #[.slice A xs.length c, .slice B ys.length e, .int .i64 at_, .int .u8 (u.toNat : Int)] ∧
      (xs.length ≤ 9223372036854775807 ∧ (ys.length ≤ e ∧ e ≤ 9223372036854775807) ∧ -9223372036854775808 ≤ at_ ∧ at_ ≤ 9223372036854775807) ∧ ((PartC W A xs ∧ ∀ q ∈ xs, PtOk q) ∧ PairC tkv W B ys) := by
  obtain ⟨m, rfl, hm, hc⟩ := OpenP.v_agg (n := 4) (ts := [36, 23, 3, 5]) (.inl ⟨_, Tryd.underlying40⟩) (by kernel_rfl) rfl (by kernel_rfl) hv
  obtain ⟨e0, e1, e2, e3, rfl⟩ := OpenP.len4 hm
  obtain ⟨_, e, k0⟩ := hc 0 _ rfl
  obtain rfl := Option.some.inj e
  obtain ⟨_, e, k1⟩ := hc 1 _ rfl
  obtain rfl := Option.some.inj e
  obtain ⟨fuel, hf⟩ := h
  obtain ⟨ys, n', _, _, _, hyl, hg⟩ := DataW.trod_struct (cs := [e0, e1, e2, e3]) Tryd.underlying40 hf
  have hyl2 : ys.length = 4 := hyl
  have h0 := hg 0 _ rfl
  have h1 := hg 1 _ rfl
  have h2 := hg 2 _ rfl
  have h3 := hg 3 _ rfl
  rw [List.getElem?_eq_getElem (by omega)] at h0 h1 h2 h3
  have z0 : Tryd.prog.cellsOf 36 = 1 := by kernel_rfl
  have z1 : Tryd.prog.cellsOf 23 = 1 := by kernel_rfl
  have z2 : Tryd.prog.cellsOf 3 = 1 := by kernel_rfl
  have z3 : Tryd.prog.cellsOf 5 = 1 := by kernel_rfl
  have o0 : e0.cells.toList = [e0] := OpenQ.v_slice (W := W) (r := r) (b := b) Tryd.underlying36 (by unfold Value.okWide; rw [Tryd.underlying36]; exact k0)
  have o1 : e1.cells.toList = [e1] := OpenQ.v_slice (W := W) (r := r) (b := b) Tryd.underlying23 (by unfold Value.okWide; rw [Tryd.underlying23]; exact k1)
  obtain ⟨A, xs, c, rfl, n0, p0⟩ := open_parts (enc := enc) (d := ys[0].1) (p := ys[0].2) o0 ⟨n', by rw [o0]; simpa [z0] using h0⟩
  obtain ⟨B, zs, f, rfl, n1, p1⟩ := open_ticks (enc := enc) (d := ys[1].1) (p := ys[1].2) o1 ⟨n', by rw [o1]; simpa [z1] using h1⟩
  obtain ⟨a, ha, _, wa⟩ := DataW.trod_int (cs := [e2]) Tryd.underlying3 (by simpa [z2] using h2)
  obtain ⟨u, hu⟩ := byte_elem (c0 := e3) (by simpa [z3] using h3)
  simp at ha
  subst ha hu
  exact ⟨A, xs, c, B, zs, f, a, u, rfl, ⟨n0, n1, wf64 wa⟩, p0, p1⟩
end
end PackW
end Go.Proofs.YtjllgdlmeoakpaaDoor
