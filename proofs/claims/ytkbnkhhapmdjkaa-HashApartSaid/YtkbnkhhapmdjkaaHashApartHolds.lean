/- HashApart returns true for every input: unlike numbers are mixed to unlike ones, and draws differ where one thing alone differs. CONDITIONS: none beside the row's own form. -/
import Derived.Test.YtkbnkhhapmdjkaaHashLaws3
import Derived.Test.YtkbnkhhapmdjkaaOpenP
namespace Go.Proofs.Ytkbnkhhapmdjkaa
open Go.ChangeShapes Go.WideShapes Go.ChangeAt Go.RowKit
set_option linter.unusedVariables false
namespace HashApartP

set_option maxRecDepth 100000 in
theorem lifted (os : Os) (started : os.Started) (H : Type) (enc : TypeId × Value → H) :
    ReturnsInHanded {} Try.checked os 7 .any (Rows.hashApartSpec.pre6 enc Try.prog Try.f7 Rows.hashApartRow.domain false) (Rows.hashApartSpec.post enc Try.prog Try.f7 false true false false) := by
  refine returnsInHanded_of_change (C := Try.checked) OpenP.own started (by kernel_rfl) Try.func7
    (ChangeSpec.witness6 (enc := enc) (C := Try.checked) false ⟨#[], #[.int .u64 0, .int .u64 0, .agg #[.int .i64 0, .int .i64 0, .int .i64 0], .int .i64 0, .int .i64 0], []⟩ 8 (by kernel_rfl) (by kernel_rfl) (by kernel_rfl) (by kernel_rfl)) ?_
  intro W base args ds gs before hval0 hW hcnd _
  have hval : ∀ (j : Nat) t v, Try.f7.params[j]? = some t → args[j]? = some v → Value.okWide Try.prog W .any base t v := hval0
  have hW' := hW
  obtain ⟨p, q, hA0, hV, rfl, hfz, hnd⟩ := hW
  have hA : DataW.TrodAll enc Try.prog W 0 (fun _ => true) true Try.f7.params.toList args.toList ds p := hA0
  rw [Try.params7] at hA hval
  obtain ⟨rfl, rfl⟩ := trodVars_none hV
  have hlt : ∀ x ∈ p, x.block < W.heap.size := fun x hx => by simpa using hW'.lt x (by simp [hx])
  clear hA0 hval0
  obtain ⟨hl1, hl2⟩ := OpenP.all_len hA
  obtain ⟨v0, v1, v2, v3, v4, rfl⟩ := OpenP.arr5 (show args.toList.length = 5 from hl1)
  obtain ⟨d0, d1, d2, d3, d4, rfl⟩ := OpenP.len5 (show ds.length = 5 from hl2)
  obtain ⟨x0, rfl, l0, u0⟩ := OpenP.v_int (k := .u64) (lo := 0) (hi := 18446744073709551615) Try.underlying22 rfl rfl (hval 0 22 v0 rfl rfl)
  obtain ⟨x1, rfl, l1, u1⟩ := OpenP.v_int (k := .u64) (lo := 0) (hi := 18446744073709551615) Try.underlying22 rfl rfl (hval 1 22 v1 rfl rfl)
  obtain ⟨m2, rfl, hm2, hc2⟩ := OpenP.v_agg (n := 3) (ts := [3, 3, 3]) (.inl ⟨_, Try.underlying27⟩) (by kernel_rfl) rfl (by kernel_rfl) (hval 2 27 v2 rfl rfl)
  obtain ⟨c2_0, c2_1, c2_2, rfl⟩ := OpenP.len3 hm2
  obtain ⟨_, e, k⟩ := hc2 0 3 rfl
  obtain rfl := Option.some.inj e
  obtain ⟨x2_0, rfl, l2_0, u2_0⟩ := OpenP.c_int (k := .i64) (lo := (-9223372036854775808)) (hi := 9223372036854775807) Try.underlying3 rfl rfl k
  obtain ⟨_, e, k⟩ := hc2 1 3 rfl
  obtain rfl := Option.some.inj e
  obtain ⟨x2_1, rfl, l2_1, u2_1⟩ := OpenP.c_int (k := .i64) (lo := (-9223372036854775808)) (hi := 9223372036854775807) Try.underlying3 rfl rfl k
  obtain ⟨_, e, k⟩ := hc2 2 3 rfl
  obtain rfl := Option.some.inj e
  obtain ⟨x2_2, rfl, l2_2, u2_2⟩ := OpenP.c_int (k := .i64) (lo := (-9223372036854775808)) (hi := 9223372036854775807) Try.underlying3 rfl rfl k
  obtain ⟨x3, rfl, l3, u3⟩ := OpenP.v_int (k := .i64) (lo := (-9223372036854775808)) (hi := 9223372036854775807) Try.underlying2 rfl rfl (hval 3 2 v3 rfl rfl)
  obtain ⟨x4, rfl, l4, u4⟩ := OpenP.v_int (k := .i64) (lo := (-9223372036854775808)) (hi := 9223372036854775807) Try.underlying3 rfl rfl (hval 4 3 v4 rfl rfl)
  refine (HashW.law_apart (by omega) (by omega) (by omega) (by omega) ⟨by omega, by omega⟩ ⟨by omega, by omega⟩ ⟨by omega, by omega⟩ ⟨by omega, by omega⟩ W).mono fun e W' ⟨he, bel⟩ => ?_
  subst he
  exact ⟨_, rfl, _, _, _, [], _, [], hW', trodAll_mk1 (shut_bool Try.underlying4 _), OpenP.all_keep OpenP.laidOut bel (of_decide_eq_true (by kernel_rfl)) hA hlt, rfl, bel.frame _, fun h => by cases h⟩

/-- The statement. -/
theorem holds : Rows.HashApartSaid :=
  OpenClaim.holds_of_wide 7 Try.f7 rfl rfl rfl rfl rfl rfl rfl ⟨rfl, rfl, rfl, rfl, rfl⟩ rfl rfl rfl rfl rfl (by kernel_rfl) Try.func7 (by kernel_rfl)
    (of_decide_eq_true (by kernel_rfl)) (by unfold Func.isWrapper; first | (rw [if_pos (by decide +kernel)]; kernel_rfl) | (rw [if_neg (by decide +kernel)]; exact ⟨rfl, rfl⟩))
    (fun os started H enc _ => lifted os started H enc)
#print axioms holds
end HashApartP
end Go.Proofs.Ytkbnkhhapmdjkaa
