/- BytesLay returns true for every input: numbers, whole numbers, texts and numbers of a width are laid behind bytes as the document says. CONDITIONS: none beside the row's own form. -/
import Derived.Test.YtblfahnjogaacaaBytesLawLay
import Derived.Test.YtblfahnjogaacaaOpenP
import Derived.Test.YtblfahnjogaacaaOpenQ
import Derived.Test.YtblfahnjogaacaaBytesOpen
namespace Go.Proofs.Ytblfahnjogaacaa
open Go.ChangeShapes Go.WideShapes Go.ChangeAt Go.RowKit
set_option linter.unusedVariables false
namespace BytesLayP

set_option maxRecDepth 100000 in
theorem lifted (os : Os) (started : os.Started) (H : Type) (enc : TypeId × Value → H) :
    ReturnsInHanded {} Try.checked os 3 .any (Rows.bytesLaySpec.pre6 enc Try.prog Try.f3 Rows.bytesLayRow.domain false) (Rows.bytesLaySpec.post enc Try.prog Try.f3 false true false false) := by
  refine returnsInHanded_of_change (C := Try.checked) OpenP.own started (by kernel_rfl) Try.func3
    (ChangeSpec.witness6 (enc := enc) (C := Try.checked) false ⟨#[], #[.string .empty, .agg #[.int .u64 0, .int .i64 0, .string .empty, .int .i64 0]], []⟩ 8 (by kernel_rfl) (by kernel_rfl) (by kernel_rfl) (by kernel_rfl)) ?_
  intro W base args ds gs before hval0 hW hcnd _
  have hval : ∀ (j : Nat) t v, Try.f3.params[j]? = some t → args[j]? = some v → Value.okWide Try.prog W .any base t v := hval0
  have hW' := hW
  obtain ⟨p, q, hA0, hV, rfl, hfz, hnd⟩ := hW
  have hA : DataW.TrodAll enc Try.prog W 0 (fun _ => true) true Try.f3.params.toList args.toList ds p := hA0
  rw [Try.params3] at hA hval
  obtain ⟨rfl, rfl⟩ := trodVars_none hV
  have hlt : ∀ x ∈ p, x.block < W.heap.size := fun x hx => by simpa using hW'.lt x (by simp [hx])
  clear hA0 hval0
  obtain ⟨hl1, hl2⟩ := OpenP.all_len hA
  obtain ⟨v0, v1, rfl⟩ := OpenP.arr2 (show args.toList.length = 2 from hl1)
  obtain ⟨d0, d1, rfl⟩ := OpenP.len2 (show ds.length = 2 from hl2)
  obtain ⟨bx0, rfl, rx0⟩ := OpenP.v_string Try.underlying9 (hval 0 9 v0 rfl rfl)
  obtain ⟨x0, rfl⟩ := BytesW.byteArr bx0
  have s0 : x0.length ≤ 9223372036854775807 := by simpa [ByteArray.size] using rx0
  obtain ⟨m1, rfl, hm1, hc1⟩ := OpenP.v_agg (n := 4) (ts := [22, 2, 9, 3]) (.inl ⟨_, Try.underlying24⟩) (by kernel_rfl) rfl (by kernel_rfl) (hval 1 24 v1 rfl rfl)
  obtain ⟨e1_0, e1_1, e1_2, e1_3, rfl⟩ := OpenP.len4 hm1
  obtain ⟨_, e, k⟩ := hc1 0 22 rfl
  obtain rfl := Option.some.inj e
  obtain ⟨x1_0, rfl, l1_0, u1_0⟩ := OpenP.c_int (k := .u64) (lo := 0) (hi := 18446744073709551615) Try.underlying22 rfl rfl k
  obtain ⟨_, e, k⟩ := hc1 1 2 rfl
  obtain rfl := Option.some.inj e
  obtain ⟨x1_1, rfl, l1_1, u1_1⟩ := OpenP.c_int (k := .i64) (lo := (-9223372036854775808)) (hi := 9223372036854775807) Try.underlying2 rfl rfl k
  obtain ⟨_, e, k⟩ := hc1 2 9 rfl
  obtain rfl := Option.some.inj e
  obtain ⟨bx1_2, rfl, rx1_2⟩ := OpenP.c_string Try.underlying9 k
  obtain ⟨x1_2, rfl⟩ := BytesW.byteArr bx1_2
  have s1_2 : x1_2.length ≤ 9223372036854775807 := by simpa [ByteArray.size] using rx1_2
  obtain ⟨_, e, k⟩ := hc1 3 3 rfl
  obtain rfl := Option.some.inj e
  obtain ⟨x1_3, rfl, l1_3, u1_3⟩ := OpenP.c_int (k := .i64) (lo := (-9223372036854775808)) (hi := 9223372036854775807) Try.underlying3 rfl rfl k
  refine (BytesW.law_lay s0 s1_2 l1_0 u1_0 l1_1 u1_1 l1_3 u1_3 W).mono fun e W' ⟨he, bel⟩ => ?_
  subst he
  exact ⟨_, rfl, _, _, _, [], _, [], hW', trodAll_mk1 (shut_bool Try.underlying4 _), OpenP.all_keep OpenP.laidOut bel (of_decide_eq_true (by kernel_rfl)) hA hlt, rfl, bel.frame _, fun h => by cases h⟩

/-- The statement. -/
theorem holds : Rows.BytesLaySaid :=
  OpenClaim.holds_of_wide 3 Try.f3 rfl rfl rfl rfl rfl rfl rfl ⟨rfl, rfl, rfl, rfl, rfl⟩ rfl rfl rfl rfl rfl (by kernel_rfl) Try.func3 (by kernel_rfl)
    (of_decide_eq_true (by kernel_rfl)) (by unfold Func.isWrapper; first | (rw [if_pos (by decide +kernel)]; kernel_rfl) | (rw [if_neg (by decide +kernel)]; exact ⟨rfl, rfl⟩))
    (fun os started H enc _ => lifted os started H enc)
#print axioms holds
end BytesLayP
end Go.Proofs.Ytblfahnjogaacaa
