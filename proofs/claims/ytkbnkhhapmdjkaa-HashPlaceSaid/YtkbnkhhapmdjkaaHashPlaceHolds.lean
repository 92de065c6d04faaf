/- HashPlace returns true for every input: the draw of every seed, place and time is the document's. CONDITIONS: none beside the row's own form. -/
import Derived.Test.YtkbnkhhapmdjkaaHashLaws2
import Derived.Test.YtkbnkhhapmdjkaaOpenP
namespace Go.Proofs.Ytkbnkhhapmdjkaa
open Go.ChangeShapes Go.WideShapes Go.ChangeAt Go.RowKit
set_option linter.unusedVariables false
namespace HashPlaceP

set_option maxRecDepth 100000 in
theorem lifted (os : Os) (started : os.Started) (H : Type) (enc : TypeId × Value → H) :
    ReturnsInHanded {} Try.checked os 4 .any (Rows.hashPlaceSpec.pre6 enc Try.prog Try.f4 Rows.hashPlaceRow.domain false) (Rows.hashPlaceSpec.post enc Try.prog Try.f4 false true false false) := by
  refine returnsInHanded_of_change (C := Try.checked) OpenP.own started (by kernel_rfl) Try.func4
    (ChangeSpec.witness6 (enc := enc) (C := Try.checked) false ⟨#[], #[.int .u64 0, .agg #[.int .i64 0, .int .i64 0, .int .i64 0], .int .i64 0], []⟩ 8 (by kernel_rfl) (by kernel_rfl) (by kernel_rfl) (by kernel_rfl)) ?_
  intro W base args ds gs before hval0 hW hcnd _
  have hval : ∀ (j : Nat) t v, Try.f4.params[j]? = some t → args[j]? = some v → Value.okWide Try.prog W .any base t v := hval0
  have hW' := hW
  obtain ⟨p, q, hA0, hV, rfl, hfz, hnd⟩ := hW
  have hA : DataW.TrodAll enc Try.prog W 0 (fun _ => true) true Try.f4.params.toList args.toList ds p := hA0
  rw [Try.params4] at hA hval
  obtain ⟨rfl, rfl⟩ := trodVars_none hV
  have hlt : ∀ x ∈ p, x.block < W.heap.size := fun x hx => by simpa using hW'.lt x (by simp [hx])
  clear hA0 hval0
  obtain ⟨hl1, hl2⟩ := OpenP.all_len hA
  obtain ⟨v0, v1, v2, rfl⟩ := OpenP.arr3 (show args.toList.length = 3 from hl1)
  obtain ⟨d0, d1, d2, rfl⟩ := OpenP.len3 (show ds.length = 3 from hl2)
  obtain ⟨x0, rfl, l0, u0⟩ := OpenP.v_int (k := .u64) (lo := 0) (hi := 18446744073709551615) Try.underlying22 rfl rfl (hval 0 22 v0 rfl rfl)
  obtain ⟨m1, rfl, hm1, hc1⟩ := OpenP.v_agg (n := 3) (ts := [3, 3, 3]) (.inl ⟨_, Try.underlying27⟩) (by kernel_rfl) rfl (by kernel_rfl) (hval 1 27 v1 rfl rfl)
  obtain ⟨c1_0, c1_1, c1_2, rfl⟩ := OpenP.len3 hm1
  obtain ⟨_, e, k⟩ := hc1 0 3 rfl
  obtain rfl := Option.some.inj e
  obtain ⟨x1_0, rfl, l1_0, u1_0⟩ := OpenP.c_int (k := .i64) (lo := (-9223372036854775808)) (hi := 9223372036854775807) Try.underlying3 rfl rfl k
  obtain ⟨_, e, k⟩ := hc1 1 3 rfl
  obtain rfl := Option.some.inj e
  obtain ⟨x1_1, rfl, l1_1, u1_1⟩ := OpenP.c_int (k := .i64) (lo := (-9223372036854775808)) (hi := 9223372036854775807) Try.underlying3 rfl rfl k
  obtain ⟨_, e, k⟩ := hc1 2 3 rfl
  obtain rfl := Option.some.inj e
  obtain ⟨x1_2, rfl, l1_2, u1_2⟩ := OpenP.c_int (k := .i64) (lo := (-9223372036854775808)) (hi := 9223372036854775807) Try.underlying3 rfl rfl k
  obtain ⟨x2, rfl, l2, u2⟩ := OpenP.v_int (k := .i64) (lo := (-9223372036854775808)) (hi := 9223372036854775807) Try.underlying2 rfl rfl (hval 2 2 v2 rfl rfl)
  refine (HashW.law_place x0 x1_0 x1_1 x1_2 x2 W).mono fun e W' ⟨he, bel⟩ => ?_
  subst he
  exact ⟨_, rfl, _, _, _, [], _, [], hW', trodAll_mk1 (shut_bool Try.underlying4 _), OpenP.all_keep OpenP.laidOut bel (of_decide_eq_true (by kernel_rfl)) hA hlt, rfl, bel.frame _, fun h => by cases h⟩

/-- The statement. -/
theorem holds : Rows.HashPlaceSaid :=
  OpenClaim.holds_of_wide 4 Try.f4 rfl rfl rfl rfl rfl rfl rfl ⟨rfl, rfl, rfl, rfl, rfl⟩ rfl rfl rfl rfl rfl (by kernel_rfl) Try.func4 (by kernel_rfl)
    (of_decide_eq_true (by kernel_rfl)) (by unfold Func.isWrapper; first | (rw [if_pos (by decide +kernel)]; kernel_rfl) | (rw [if_neg (by decide +kernel)]; exact ⟨rfl, rfl⟩))
    (fun os started H enc _ => lifted os started H enc)
#print axioms holds
end HashPlaceP
end Go.Proofs.Ytkbnkhhapmdjkaa
