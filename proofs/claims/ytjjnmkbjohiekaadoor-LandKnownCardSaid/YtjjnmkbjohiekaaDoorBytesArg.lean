/-
  A slice of bytes that came in: what is known of it is its cells.
-/
import Derived.Test.YtjjnmkbjohiekaaDoorOpenQ
import Derived.Test.YtjjnmkbjohiekaaDoorBytesMem
namespace Go.Proofs.YtjjnmkbjohiekaaDoor
open Go.ChangeShapes Go.WideShapes Go.ChangeAt Go.RowKit Go.Deep
set_option linter.unusedVariables false
namespace BytesW
theorem byteArr (s : ByteArray) : ∃ l : List UInt8, s = ⟨l.toArray⟩ := ⟨s.data.toList, by simp⟩
section
variable {H : Type} {enc : TypeId × Value → H} {W : World}
theorem byte_elem {k : Nat} {c0 : Value} {y : DataW H × List MemPlace} (h : DataW.trod enc Tryd.prog W 0 (fun _ => true) true k 5 [c0] = some y) : ∃ x : UInt8, c0 = bv x := by
  obtain ⟨a, ha, _, wa⟩ := DataW.trod_int (cs := [c0]) Tryd.underlying5 h
  simp at ha
  have hw : 0 ≤ a ∧ a ≤ 255 := by
    simp [Lit.wf] at wa
    have h1 : IntKind.u8.min = 0 := rfl
    have h2 : IntKind.u8.max = 255 := rfl
    omega
  obtain ⟨n, rfl⟩ := Int.eq_ofNat_of_zero_le hw.1
  refine ⟨n.toUInt8, ?_⟩
  rw [ha, bv]
  have : n.toUInt8.toNat = n := by
    show n % 256 = n
    omega
  rw [this]
end
end BytesW
end Go.Proofs.YtjjnmkbjohiekaaDoor
