/- GlowLand returns true for every input: the land's light is that of its cells, from scratch. CONDITIONS: the listed variables (package kind's rows, package land's layers) read as the program's text lays them (the card ties them to that text, over the pruned copy of the project); no other condition. -/
import Derived.Test.YtbkadecfmjjadaaDoorCards
import Derived.Test.YtbkadecfmjjadaaDoorGlowTabL
import Derived.Test.YtbkadecfmjjadaaDoorGlowLaw7
import Derived.Test.YtbkadecfmjjadaaDoorOpenP
import Derived.Test.YtbkadecfmjjadaaDoorOpenQ
import Derived.Test.YtbkadecfmjjadaaDoorGlowOpen
import Derived.SevenTiedAt
import Derived.Lib.SmallJoins
import Derived.Stop.Joined
namespace Go.Proofs.YtbkadecfmjjadaaDoor
open Go.ChangeShapes Go.WideShapes Go.ChangeAt Go.RowKit
set_option linter.unusedVariables false
namespace GlowLandP

set_option maxRecDepth 100000 in
theorem lifted (os : Os) (started : os.Started) (H : Type) (enc : TypeId × Value → H) :
    ReturnsInHanded {} Tryd.checked os 10 .any (fun w args => (Rows.glowLandSpec.pre enc Tryd.prog Tryd.f10 [] false w args ∧ laidMetH Tryd.prog Rows.glowLandRow.laid w) ∧ sizedMet enc Tryd.prog Tryd.f10 (OpenSpec.ofChange Rows.glowLandSpec) false w args)
      (Rows.glowLandSpec.post enc Tryd.prog Tryd.f10 false true false false) := by
  refine returnsInHanded_of_change_and (C := Tryd.checked) (X := fun w _ => laidMetH Tryd.prog Rows.glowLandRow.laid w) (fun _ _ _ hh h => h.of_heap hh) OpenP.own started (by kernel_rfl) Tryd.func10
    (ChangeSpec.witness_shaped (enc := enc) (C := Tryd.checked) (os := os) (X := fun w _ => laidMetH Tryd.prog Rows.glowLandRow.laid w) false (World.doorLaid Tryd.prog 400 os) #[.agg #[.int .i64 0, .int .i64 0, .int .i64 0], .int .u8 0, .int .u8 0] 8 rfl (World.shaped_of_RefB (by kernel_rfl) (by kernel_rfl)) (by kernel_rfl) (by kernel_rfl) (by kernel_rfl) (LandW.door_both os _)) ?_
  intro W base args ds gs before hval0 hW _ _ hL _
  have hval : ∀ (j : Nat) t v, Tryd.f10.params[j]? = some t → args[j]? = some v → Value.okWide Tryd.prog W .any base t v := hval0
  have hW' := hW
  obtain ⟨p, q, hA0, hV, rfl, hfz, hnd⟩ := hW
  have hA : DataW.TrodAll enc Tryd.prog W 0 (fun _ => true) true Tryd.f10.params.toList args.toList ds p := hA0
  rw [Tryd.params10] at hA hval
  obtain ⟨rfl, rfl⟩ := trodVars_none hV
  have hlt : ∀ x ∈ p, x.block < W.heap.size := fun x hx => by simpa using hW'.lt x (by simp [hx])
  obtain ⟨hT, hL2⟩ := LandW.both_of_laid hL
  clear hA0 hval0
  obtain ⟨hl1, hl2⟩ := OpenP.all_len hA
  obtain ⟨v0, v1, v2, rfl⟩ := OpenP.arr3 (show args.toList.length = 3 from hl1)
  obtain ⟨d0, d1, d2, rfl⟩ := OpenP.len3 (show ds.length = 3 from hl2)
  obtain ⟨m0, rfl, hm0, hc0⟩ := OpenP.v_agg (n := 3) (ts := [3, 3, 3]) (.inl ⟨_, Tryd.underlying48⟩) (by kernel_rfl) rfl (by kernel_rfl) (hval 0 48 v0 rfl rfl)
  obtain ⟨e0_0, e0_1, e0_2, rfl⟩ := OpenP.len3 hm0
  obtain ⟨_, e, k⟩ := hc0 0 3 rfl
  obtain rfl := Option.some.inj e
  obtain ⟨x0_0, rfl, l0_0, u0_0⟩ := OpenP.c_int (k := .i64) (lo := (-9223372036854775808)) (hi := 9223372036854775807) Tryd.underlying3 rfl rfl k
  obtain ⟨_, e, k⟩ := hc0 1 3 rfl
  obtain rfl := Option.some.inj e
  obtain ⟨x0_1, rfl, l0_1, u0_1⟩ := OpenP.c_int (k := .i64) (lo := (-9223372036854775808)) (hi := 9223372036854775807) Tryd.underlying3 rfl rfl k
  obtain ⟨_, e, k⟩ := hc0 2 3 rfl
  obtain rfl := Option.some.inj e
  obtain ⟨x0_2, rfl, l0_2, u0_2⟩ := OpenP.c_int (k := .i64) (lo := (-9223372036854775808)) (hi := 9223372036854775807) Tryd.underlying3 rfl rfl k
  obtain ⟨x1, rfl, l1, u1⟩ := OpenP.v_int (k := .u8) (lo := 0) (hi := 255) Tryd.underlying5 rfl rfl (hval 1 5 v1 rfl rfl)
  obtain ⟨x2, rfl, l2, u2⟩ := OpenP.v_int (k := .u8) (lo := 0) (hi := 255) Tryd.underlying5 rfl rfl (hval 2 5 v2 rfl rfl)
  refine (GlowW.law_land hT hL2 l0_0 u0_0 l0_2 u0_2 l1 u1 l2 u2).mono fun e W' ⟨he, bel⟩ => ?_
  subst he
  exact ⟨_, rfl, _, _, _, [], _, [], hW', trodAll_mk1 (shut_bool Tryd.underlying4 _), OpenP.all_keep OpenP.laidOut bel (of_decide_eq_true (by kernel_rfl)) hA hlt, rfl, bel.frame _, fun h => by cases h⟩

theorem holds : Rows.GlowLandSaid :=
  OpenClaim.holds_of_wide 10 Tryd.f10 rfl rfl rfl rfl rfl rfl rfl ⟨rfl, rfl, rfl, rfl, rfl⟩ rfl rfl rfl rfl rfl (by kernel_rfl) Tryd.func10 (by kernel_rfl)
    (of_decide_eq_true (by kernel_rfl)) (by unfold Func.isWrapper; first | (rw [if_pos (by decide +kernel)]; kernel_rfl) | (rw [if_neg (by decide +kernel)]; exact ⟨rfl, rfl⟩))
    (fun os started H enc _ => lifted os started H enc)

/-- The statement. -/
theorem card : Rows.GlowLandCardSaid :=
  Claim7.holds_tied_plain_at .later [] [.data, .data] true Rows.glowLandCard.stood.harness false
    holds (fun _ h => by cases h) (by kernel_rfl) (fun _ h => by cases h) glowLand_row_tie rfl ⟨rfl, rfl⟩ (by kernel_rfl) rfl
    (fun f fn hf hfn => by
      obtain rfl : f = 10 := Option.some.inj ((show Tryd.prog.funcNamed Rows.glowLandRow.func = some 10 by kernel_rfl).symm.trans hf) |>.symm
      obtain rfl : fn = Tryd.f10 := (Option.some.inj (Tryd.func10.symm.trans hfn)).symm
      exact ⟨by kernel_rfl, fun j t ht => by
        rw [Tryd.params10] at ht
        have hm : t ∈ [48, 5, 5] := by simpa using Array.mem_of_getElem? ht
        have hall : ([48, 5, 5].all fun u => !Tryd.prog.wantsStandIn u) = true := by kernel_rfl
        exact (show Tryd.prog.wantsStandIn t = false by simpa using List.all_eq_true.1 hall t hm)⟩)
    (by kernel_rfl)
#print axioms card
end GlowLandP
end Go.Proofs.YtbkadecfmjjadaaDoor
