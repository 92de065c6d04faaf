/- AnchorHangs returns true for every input: what ticks rises, by fours, is near an anchor, and does not hang on which of the two is which; one that is put and lifted leaves the other. CONDITIONS: none beside the row's own form. -/
import Derived.Test.YtcmmfihhnmhhgaaAnchorHangs
import Derived.Test.YtcmmfihhnmhhgaaOpenP
import Derived.Test.YtcmmfihhnmhhgaaOpenQ
namespace Go.Proofs.Ytcmmfihhnmhhgaa
open Go.ChangeShapes Go.WideShapes Go.ChangeAt Go.RowKit
set_option linter.unusedVariables false
namespace AnchorHangsP

set_option maxRecDepth 100000 in
theorem lifted (os : Os) (started : os.Started) (H : Type) (enc : TypeId × Value → H) :
    ReturnsInHanded {} Try.checked os 6 .any (Rows.anchorHangsSpec.pre6 enc Try.prog Try.f6 Rows.anchorHangsRow.domain false) (Rows.anchorHangsSpec.post enc Try.prog Try.f6 false true false false) := by
  refine returnsInHanded_of_change (C := Try.checked) OpenP.own started (by kernel_rfl) Try.func6
    (ChangeSpec.witness6 (enc := enc) (C := Try.checked) false ⟨#[], #[.agg #[.int .i64 0, .int .i64 0, .int .i64 0, .bool false, .int .i64 0, .int .i64 0, .int .i64 0, .bool false], .int .i64 0, .agg #[.int .i64 0, .int .i64 0, .int .i64 0]], []⟩ 8 (by kernel_rfl) (by kernel_rfl) (by kernel_rfl) (by kernel_rfl)) ?_
  intro W base args ds gs before hval0 hW hcnd _
  have hval : ∀ (j : Nat) t v, Try.f6.params[j]? = some t → args[j]? = some v → Value.okWide Try.prog W .any base t v := hval0
  have hW' := hW
  obtain ⟨p, q, hA0, hV, rfl, hfz, hnd⟩ := hW
  have hA : DataW.TrodAll enc Try.prog W 0 (fun _ => true) true Try.f6.params.toList args.toList ds p := hA0
  rw [Try.params6] at hA hval
  obtain ⟨rfl, rfl⟩ := trodVars_none hV
  have hlt : ∀ x ∈ p, x.block < W.heap.size := fun x hx => by simpa using hW'.lt x (by simp [hx])
  clear hA0 hval0
  obtain ⟨hl1, hl2⟩ := OpenP.all_len hA
  obtain ⟨v0, v1, v2, rfl⟩ := OpenP.arr3 (show args.toList.length = 3 from hl1)
  obtain ⟨d0, d1, d2, rfl⟩ := OpenP.len3 (show ds.length = 3 from hl2)
  obtain ⟨m0, rfl, hm0, hc0⟩ := OpenP.v_agg (n := 8) (ts := [3, 3, 3, 4, 3, 3, 3, 4]) (.inr ⟨_, _, Try.underlying26⟩) (by kernel_rfl) rfl (by kernel_rfl) (hval 0 26 v0 rfl rfl)
  obtain ⟨e0_0, e0_1, e0_2, e0_3, e0_4, e0_5, e0_6, e0_7, rfl⟩ := OpenP.len8 hm0
  obtain ⟨_, e, k⟩ := hc0 0 3 rfl
  obtain rfl := Option.some.inj e
  obtain ⟨x0_0, rfl, l0_0, u0_0⟩ := OpenP.c_int (k := .i64) (lo := (-9223372036854775808)) (hi := 9223372036854775807) Try.underlying3 rfl rfl k
  obtain ⟨_, e, k⟩ := hc0 1 3 rfl
  obtain rfl := Option.some.inj e
  obtain ⟨x0_1, rfl, l0_1, u0_1⟩ := OpenP.c_int (k := .i64) (lo := (-9223372036854775808)) (hi := 9223372036854775807) Try.underlying3 rfl rfl k
  obtain ⟨_, e, k⟩ := hc0 2 3 rfl
  obtain rfl := Option.some.inj e
  obtain ⟨x0_2, rfl, l0_2, u0_2⟩ := OpenP.c_int (k := .i64) (lo := (-9223372036854775808)) (hi := 9223372036854775807) Try.underlying3 rfl rfl k
  obtain ⟨_, e, k⟩ := hc0 3 4 rfl
  obtain rfl := Option.some.inj e
  obtain ⟨x0_3, rfl⟩ := OpenP.c_bool Try.underlying4 k
  obtain ⟨_, e, k⟩ := hc0 4 3 rfl
  obtain rfl := Option.some.inj e
  obtain ⟨x0_4, rfl, l0_4, u0_4⟩ := OpenP.c_int (k := .i64) (lo := (-9223372036854775808)) (hi := 9223372036854775807) Try.underlying3 rfl rfl k
  obtain ⟨_, e, k⟩ := hc0 5 3 rfl
  obtain rfl := Option.some.inj e
  obtain ⟨x0_5, rfl, l0_5, u0_5⟩ := OpenP.c_int (k := .i64) (lo := (-9223372036854775808)) (hi := 9223372036854775807) Try.underlying3 rfl rfl k
  obtain ⟨_, e, k⟩ := hc0 6 3 rfl
  obtain rfl := Option.some.inj e
  obtain ⟨x0_6, rfl, l0_6, u0_6⟩ := OpenP.c_int (k := .i64) (lo := (-9223372036854775808)) (hi := 9223372036854775807) Try.underlying3 rfl rfl k
  obtain ⟨_, e, k⟩ := hc0 7 4 rfl
  obtain rfl := Option.some.inj e
  obtain ⟨x0_7, rfl⟩ := OpenP.c_bool Try.underlying4 k
  obtain ⟨x1, rfl, l1, u1⟩ := OpenP.v_int (k := .i64) (lo := (-9223372036854775808)) (hi := 9223372036854775807) Try.underlying3 rfl rfl (hval 1 3 v1 rfl rfl)
  obtain ⟨m2, rfl, hm2, hc2⟩ := OpenP.v_agg (n := 3) (ts := [3, 3, 3]) (.inl ⟨_, Try.underlying27⟩) (by kernel_rfl) rfl (by kernel_rfl) (hval 2 27 v2 rfl rfl)
  obtain ⟨e2_0, e2_1, e2_2, rfl⟩ := OpenP.len3 hm2
  obtain ⟨_, e, k⟩ := hc2 0 3 rfl
  obtain rfl := Option.some.inj e
  obtain ⟨x2_0, rfl, l2_0, u2_0⟩ := OpenP.c_int (k := .i64) (lo := (-9223372036854775808)) (hi := 9223372036854775807) Try.underlying3 rfl rfl k
  obtain ⟨_, e, k⟩ := hc2 1 3 rfl
  obtain rfl := Option.some.inj e
  obtain ⟨x2_1, rfl, l2_1, u2_1⟩ := OpenP.c_int (k := .i64) (lo := (-9223372036854775808)) (hi := 9223372036854775807) Try.underlying3 rfl rfl k
  obtain ⟨_, e, k⟩ := hc2 2 3 rfl
  obtain rfl := Option.some.inj e
  obtain ⟨x2_2, rfl, l2_2, u2_2⟩ := OpenP.c_int (k := .i64) (lo := (-9223372036854775808)) (hi := 9223372036854775807) Try.underlying3 rfl rfl k
  refine (AncW.law_hangs (a := ((x0_0, x0_1, x0_2), x0_3)) (b := ((x0_4, x0_5, x0_6), x0_7)) (id := x1) (x := x2_0) (y := x2_1) (z := x2_2) (AncW.is64 ⟨l0_0, by omega⟩ ⟨l0_2, by omega⟩) (AncW.is64 ⟨l0_4, by omega⟩ ⟨l0_6, by omega⟩) l1 (by omega)).mono fun e W' ⟨he, bel⟩ => ?_
  subst he
  exact ⟨_, rfl, _, _, _, [], _, [], hW', trodAll_mk1 (shut_bool Try.underlying4 _), OpenP.all_keep OpenP.laidOut bel (of_decide_eq_true (by kernel_rfl)) hA hlt, rfl, bel.frame _, fun h => by cases h⟩

/-- The statement. -/
theorem holds : Rows.AnchorHangsSaid :=
  OpenClaim.holds_of_wide 6 Try.f6 rfl rfl rfl rfl rfl rfl rfl ⟨rfl, rfl, rfl, rfl, rfl⟩ rfl rfl rfl rfl rfl (by kernel_rfl) Try.func6 (by kernel_rfl)
    (of_decide_eq_true (by kernel_rfl)) (by unfold Func.isWrapper; first | (rw [if_pos (by decide +kernel)]; kernel_rfl) | (rw [if_neg (by decide +kernel)]; exact ⟨rfl, rfl⟩))
    (fun os started H enc _ => lifted os started H enc)
#print axioms holds
end AnchorHangsP
end Go.Proofs.Ytcmmfihhnmhhgaa
