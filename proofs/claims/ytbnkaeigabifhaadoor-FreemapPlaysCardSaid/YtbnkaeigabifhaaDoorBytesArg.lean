/-
  A slice of bytes that came in: what is known of it is its cells.
-/
import Derived.Test.YtbnkaeigabifhaaDoorOpenQ
import Derived.Test.YtbnkaeigabifhaaDoorBytesMem
namespace Go.Proofs.YtbnkaeigabifhaaDoor
open Go.ChangeShapes Go.WideShapes Go.ChangeAt Go.RowKit Go.Deep
set_option linter.unusedVariables false
namespace BytesW
theorem byteArr (s : ByteArray) : ∃ l : List UInt8, s = ⟨l.toArray⟩ := ⟨s.data.toList, by simp⟩
section
variable {H : Type} {enc : TypeId × Value → H} {W : World}
theorem byte_elem {k : Nat} {c0 : Value} {y : DataW H × List MemPlace} (h : DataW.trod enc Tryd.prog W 0 (fun _ => true) true k 5 [c0] = some y) : ∃ x : UInt8, c0 = bv x := by
  obtain ⟨a, ha, _, wa⟩ := DataW.trod_int (cs := [c0]) Tryd.underlying5 h
  simp at ha
  have hw : 0 ≤ a ∧ a ≤ 255 := by
    simp [Lit.wf] at wa
    have h1 : IntKind.u8.min = 0 := rfl
    have h2 : IntKind.u8.max = 255 := rfl
    omega
  obtain ⟨n, rfl⟩ := Int.eq_ofNat_of_zero_le hw.1
  refine ⟨n.toUInt8, ?_⟩
  rw [ha, bv]
  have : n.toUInt8.toNat = n := by
    show n % 256 = n
    omega
  rw [this]
theorem open_bytes {v : Value} {d : DataW H} {p : List MemPlace} (hone : v.cells.toList = [v]) (h : DataW.Trod enc Tryd.prog W 0 (fun _ => true) true 51 v d p) :
    ∃ (A : Option Addr) (xs : List UInt8) (c : Nat), v = .slice A xs.length c ∧ (xs.length ≤ c ∧ c ≤ 9223372036854775807) ∧ AtC W A xs := by
  obtain ⟨A, n, c, rfl, hnc, hcm, hnil, hel⟩ := OpenQ.slice_at (C := 1) Tryd.underlying51 (by kernel_rfl) hone h
  have hm : maxLen = 9223372036854775807 := rfl
  rcases A with _ | a
  · have := hnil rfl
    subst this
    exact ⟨none, [], c, rfl, ⟨by simp, by omega⟩, fun h => absurd rfl h⟩
  · have each : ∀ i, i < n → ∃ x : UInt8, W.cell? (a.add i) = some (bv x) := fun i hi => by
      obtain ⟨cs, k, y, hl, hc, ht⟩ := hel a rfl i hi
      match cs, hl with
      | [c0], _ =>
        obtain ⟨x, rfl⟩ := byte_elem ht
        exact ⟨x, by simpa using hc 0 (by omega)⟩
    obtain ⟨xs, hl, hxs⟩ := OpenQ.listed n each
    subst hl
    refine ⟨some a, xs, c, rfl, ⟨hnc, by omega⟩, fun hne => ?_⟩
    have h0 : 0 < xs.length := List.length_pos_iff.2 hne
    obtain ⟨b, o, rfl, hb⟩ := OpenQ.plain (by simpa using hxs 0 _ (List.getElem?_eq_getElem h0))
    refine ⟨b, o, rfl, hb, fun i x hi => ?_⟩
    have g := hxs i _ hi
    rwa [addr_add] at g
end
end BytesW
end Go.Proofs.YtbnkaeigabifhaaDoor
