/- BytesBack returns true for every input: whatever is laid one behind the other is read back just so. CONDITIONS: none beside the row's own form. -/
import Derived.Test.YtblfahnjogaacaaBytesLawBack
import Derived.Test.YtblfahnjogaacaaBytesOpen2
import Derived.Test.YtblfahnjogaacaaOpenP
import Derived.Test.YtblfahnjogaacaaOpenQ
import Derived.Test.YtblfahnjogaacaaBytesOpen
namespace Go.Proofs.Ytblfahnjogaacaa
open Go.ChangeShapes Go.WideShapes Go.ChangeAt Go.RowKit
set_option linter.unusedVariables false
namespace BytesBackP

set_option maxRecDepth 100000 in
theorem lifted (os : Os) (started : os.Started) (H : Type) (enc : TypeId × Value → H) :
    ReturnsInHanded {} Try.checked os 5 .any (Rows.bytesBackSpec.pre6 enc Try.prog Try.f5 Rows.bytesBackRow.domain false) (Rows.bytesBackSpec.post enc Try.prog Try.f5 false true false false) := by
  refine returnsInHanded_of_change (C := Try.checked) OpenP.own started (by kernel_rfl) Try.func5
    (ChangeSpec.witness6 (enc := enc) (C := Try.checked) false ⟨#[], #[.slice none 0 0, .string .empty], []⟩ 8 (by kernel_rfl) (by kernel_rfl) (by kernel_rfl) (by kernel_rfl)) ?_
  intro W base args ds gs before hval0 hW hcnd _
  have hval : ∀ (j : Nat) t v, Try.f5.params[j]? = some t → args[j]? = some v → Value.okWide Try.prog W .any base t v := hval0
  have hW' := hW
  obtain ⟨p, q, hA0, hV, rfl, hfz, hnd⟩ := hW
  have hA : DataW.TrodAll enc Try.prog W 0 (fun _ => true) true Try.f5.params.toList args.toList ds p := hA0
  rw [Try.params5] at hA hval
  obtain ⟨rfl, rfl⟩ := trodVars_none hV
  have hlt : ∀ x ∈ p, x.block < W.heap.size := fun x hx => by simpa using hW'.lt x (by simp [hx])
  clear hA0 hval0
  obtain ⟨hl1, hl2⟩ := OpenP.all_len hA
  obtain ⟨v0, v1, rfl⟩ := OpenP.arr2 (show args.toList.length = 2 from hl1)
  obtain ⟨d0, d1, rfl⟩ := OpenP.len2 (show ds.length = 2 from hl2)
  obtain ⟨_, _, ht0⟩ := OpenQ.trod_at hA 0 50 v0 rfl rfl
  obtain ⟨A0, x0, c0, rfl, n0, h0⟩ := BytesW.open_things (OpenQ.v_slice Try.underlying50 (hval 0 50 v0 rfl rfl)) ht0
  obtain ⟨bx1, rfl, rx1⟩ := OpenP.v_string Try.underlying9 (hval 1 9 v1 rfl rfl)
  obtain ⟨x1, rfl⟩ := BytesW.byteArr bx1
  have s1 : x1.length ≤ 9223372036854775807 := by simpa [ByteArray.size] using rx1
  refine (BytesW.law_back s1 n0 W h0).mono fun e W' ⟨he, bel⟩ => ?_
  subst he
  exact ⟨_, rfl, _, _, _, [], _, [], hW', trodAll_mk1 (shut_bool Try.underlying4 _), OpenP.all_keep OpenP.laidOut bel (of_decide_eq_true (by kernel_rfl)) hA hlt, rfl, bel.frame _, fun h => by cases h⟩

/-- The statement. -/
theorem holds : Rows.BytesBackSaid :=
  OpenClaim.holds_of_wide 5 Try.f5 rfl rfl rfl rfl rfl rfl rfl ⟨rfl, rfl, rfl, rfl, rfl⟩ rfl rfl rfl rfl rfl (by kernel_rfl) Try.func5 (by kernel_rfl)
    (of_decide_eq_true (by kernel_rfl)) (by unfold Func.isWrapper; first | (rw [if_pos (by decide +kernel)]; kernel_rfl) | (rw [if_neg (by decide +kernel)]; exact ⟨rfl, rfl⟩))
    (fun os started H enc _ => lifted os started H enc)
#print axioms holds
end BytesBackP
end Go.Proofs.Ytblfahnjogaacaa
