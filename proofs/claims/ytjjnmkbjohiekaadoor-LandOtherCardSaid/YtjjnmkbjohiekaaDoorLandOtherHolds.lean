/- LandOther returns true for every input: a chunk in which a cell, a light or a tick is another one is not the land's; put back, it is again. CONDITIONS: the listed variables (package land's layers) read as the program's text lays them (the card ties them to that text, over the pruned copy of the project); no other condition. -/
import Derived.Test.YtjjnmkbjohiekaaDoorCards
import Derived.Test.YtjjnmkbjohiekaaDoorLandTab
import Derived.Test.YtjjnmkbjohiekaaDoorLandLaws6
import Derived.Test.YtjjnmkbjohiekaaDoorOpenP
import Derived.Test.YtjjnmkbjohiekaaDoorOpenQ
import Derived.Test.YtjjnmkbjohiekaaDoorBytesArg
import Derived.SevenTiedAt
import Derived.Lib.SmallJoins
import Derived.Stop.Joined
namespace Go.Proofs.YtjjnmkbjohiekaaDoor
open Go.ChangeShapes Go.WideShapes Go.ChangeAt Go.RowKit
set_option linter.unusedVariables false
namespace LandOtherP

set_option maxRecDepth 100000 in
theorem lifted (os : Os) (started : os.Started) (H : Type) (enc : TypeId × Value → H) :
    ReturnsInHanded {} Tryd.checked os 7 .any (fun w args => (Rows.landOtherSpec.pre enc Tryd.prog Tryd.f7 [] false w args ∧ laidMetH Tryd.prog Rows.landOtherRow.laid w) ∧ sizedMet enc Tryd.prog Tryd.f7 (OpenSpec.ofChange Rows.landOtherSpec) false w args)
      (Rows.landOtherSpec.post enc Tryd.prog Tryd.f7 false true false false) := by
  refine returnsInHanded_of_change_and (C := Tryd.checked) (X := fun w _ => laidMetH Tryd.prog Rows.landOtherRow.laid w) (fun _ _ _ hh h => h.of_heap hh) OpenP.own started (by kernel_rfl) Tryd.func7
    (ChangeSpec.witness_shaped (enc := enc) (C := Tryd.checked) (os := os) (X := fun w _ => laidMetH Tryd.prog Rows.landOtherRow.laid w) false (World.doorLaid Tryd.prog 400 os) #[.agg #[.int .i64 0, .int .i64 0, .int .i64 0], .agg #[.int .i64 0, .int .u8 0, .int .u8 0, .int .u8 0, .int .u8 0, .int .i64 0]] 8 rfl (World.shaped_of_RefB (by kernel_rfl) (by kernel_rfl)) (by kernel_rfl) (by kernel_rfl) (by kernel_rfl) (LandW.door_lay os _)) ?_
  intro W base args ds gs before hval0 hW _ _ hL _
  have hval : ∀ (j : Nat) t v, Tryd.f7.params[j]? = some t → args[j]? = some v → Value.okWide Tryd.prog W .any base t v := hval0
  have hW' := hW
  obtain ⟨p, q, hA0, hV, rfl, hfz, hnd⟩ := hW
  have hA : DataW.TrodAll enc Tryd.prog W 0 (fun _ => true) true Tryd.f7.params.toList args.toList ds p := hA0
  rw [Tryd.params7] at hA hval
  obtain ⟨rfl, rfl⟩ := trodVars_none hV
  have hlt : ∀ x ∈ p, x.block < W.heap.size := fun x hx => by simpa using hW'.lt x (by simp [hx])
  have hL := LandW.lay_of_laid hL
  clear hA0 hval0
  obtain ⟨hl1, hl2⟩ := OpenP.all_len hA
  obtain ⟨v0, v1, rfl⟩ := OpenP.arr2 (show args.toList.length = 2 from hl1)
  obtain ⟨d0, d1, rfl⟩ := OpenP.len2 (show ds.length = 2 from hl2)
  obtain ⟨m0, rfl, hm0, hc0⟩ := OpenP.v_agg (n := 3) (ts := [3, 3, 3]) (.inl ⟨_, Tryd.underlying32⟩) (by kernel_rfl) rfl (by kernel_rfl) (hval 0 32 v0 rfl rfl)
  obtain ⟨e0_0, e0_1, e0_2, rfl⟩ := OpenP.len3 hm0
  obtain ⟨_, e, k⟩ := hc0 0 3 rfl
  obtain rfl := Option.some.inj e
  obtain ⟨x0_0, rfl, l0_0, u0_0⟩ := OpenP.c_int (k := .i64) (lo := (-9223372036854775808)) (hi := 9223372036854775807) Tryd.underlying3 rfl rfl k
  obtain ⟨_, e, k⟩ := hc0 1 3 rfl
  obtain rfl := Option.some.inj e
  obtain ⟨x0_1, rfl, l0_1, u0_1⟩ := OpenP.c_int (k := .i64) (lo := (-9223372036854775808)) (hi := 9223372036854775807) Tryd.underlying3 rfl rfl k
  obtain ⟨_, e, k⟩ := hc0 2 3 rfl
  obtain rfl := Option.some.inj e
  obtain ⟨x0_2, rfl, l0_2, u0_2⟩ := OpenP.c_int (k := .i64) (lo := (-9223372036854775808)) (hi := 9223372036854775807) Tryd.underlying3 rfl rfl k
  obtain ⟨m1, rfl, hm1, hc1⟩ := OpenP.v_agg (n := 6) (ts := [3, 5, 5, 5, 5, 2]) (.inl ⟨_, Tryd.underlying54⟩) (by kernel_rfl) rfl (by kernel_rfl) (hval 1 54 v1 rfl rfl)
  obtain ⟨e1_0, e1_1, e1_2, e1_3, e1_4, e1_5, rfl⟩ := OpenP.len6 hm1
  obtain ⟨_, e, k⟩ := hc1 0 3 rfl
  obtain rfl := Option.some.inj e
  obtain ⟨x1_0, rfl, l1_0, u1_0⟩ := OpenP.c_int (k := .i64) (lo := (-9223372036854775808)) (hi := 9223372036854775807) Tryd.underlying3 rfl rfl k
  obtain ⟨_, e, k⟩ := hc1 1 5 rfl
  obtain rfl := Option.some.inj e
  obtain ⟨x1_1, rfl, l1_1, u1_1⟩ := OpenP.c_int (k := .u8) (lo := 0) (hi := 255) Tryd.underlying5 rfl rfl k
  obtain ⟨_, e, k⟩ := hc1 2 5 rfl
  obtain rfl := Option.some.inj e
  obtain ⟨x1_2, rfl, l1_2, u1_2⟩ := OpenP.c_int (k := .u8) (lo := 0) (hi := 255) Tryd.underlying5 rfl rfl k
  obtain ⟨_, e, k⟩ := hc1 3 5 rfl
  obtain rfl := Option.some.inj e
  obtain ⟨x1_3, rfl, l1_3, u1_3⟩ := OpenP.c_int (k := .u8) (lo := 0) (hi := 255) Tryd.underlying5 rfl rfl k
  obtain ⟨_, e, k⟩ := hc1 4 5 rfl
  obtain rfl := Option.some.inj e
  obtain ⟨x1_4, rfl, l1_4, u1_4⟩ := OpenP.c_int (k := .u8) (lo := 0) (hi := 255) Tryd.underlying5 rfl rfl k
  obtain ⟨_, e, k⟩ := hc1 5 2 rfl
  obtain rfl := Option.some.inj e
  obtain ⟨x1_5, rfl, l1_5, u1_5⟩ := OpenP.c_int (k := .i64) (lo := (-9223372036854775808)) (hi := 9223372036854775807) Tryd.underlying2 rfl rfl k
  refine (LandP.law_other' hL ⟨l1_0, u1_0⟩ l1_1 u1_1 l1_2 u1_2 l1_3 u1_3 l1_4 u1_4 ⟨l1_5, u1_5⟩).mono fun e W' ⟨he, bel⟩ => ?_
  subst he
  exact ⟨_, rfl, _, _, _, [], _, [], hW', trodAll_mk1 (shut_bool Tryd.underlying4 _), OpenP.all_keep OpenP.laidOut bel (of_decide_eq_true (by kernel_rfl)) hA hlt, rfl, bel.frame _, fun h => by cases h⟩

theorem holds : Rows.LandOtherSaid :=
  OpenClaim.holds_of_wide 7 Tryd.f7 rfl rfl rfl rfl rfl rfl rfl ⟨rfl, rfl, rfl, rfl, rfl⟩ rfl rfl rfl rfl rfl (by kernel_rfl) Tryd.func7 (by kernel_rfl)
    (of_decide_eq_true (by kernel_rfl)) (by unfold Func.isWrapper; first | (rw [if_pos (by decide +kernel)]; kernel_rfl) | (rw [if_neg (by decide +kernel)]; exact ⟨rfl, rfl⟩))
    (fun os started H enc _ => lifted os started H enc)

/-- The statement. -/
theorem card : Rows.LandOtherCardSaid :=
  Claim7.holds_tied_plain_at .later [] [.data] true Rows.landOtherCard.stood.harness false
    holds (fun _ h => by cases h) (by kernel_rfl) (fun _ h => by cases h) landOther_row_tie rfl ⟨rfl, rfl⟩ (by kernel_rfl) rfl
    (fun f fn hf hfn => by
      obtain rfl : f = 7 := Option.some.inj ((show Tryd.prog.funcNamed Rows.landOtherRow.func = some 7 by kernel_rfl).symm.trans hf) |>.symm
      obtain rfl : fn = Tryd.f7 := (Option.some.inj (Tryd.func7.symm.trans hfn)).symm
      exact ⟨by kernel_rfl, fun j t ht => by
        rw [Tryd.params7] at ht
        have hm : t ∈ [32, 54] := by simpa using Array.mem_of_getElem? ht
        have hall : ([32, 54].all fun u => !Tryd.prog.wantsStandIn u) = true := by kernel_rfl
        exact (show Tryd.prog.wantsStandIn t = false by simpa using List.all_eq_true.1 hall t hm)⟩)
    (by kernel_rfl)
#print axioms card
end LandOtherP
end Go.Proofs.YtjjnmkbjohiekaaDoor
