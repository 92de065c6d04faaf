/- ReactLittle returns true for every input: few changes, each of the cell or a side, none twice, to cells that may be; what is hard stays; cells without a delay do nothing; light, draw and what is below the sides count for some kinds alone. CONDITIONS: the variable of package kind reads as the program's text lays it (the card ties it to that text, over the pruned copy of the project); no other condition. -/
import Derived.Test.YtlahkmkipciiiaaDoorCards
import Derived.Test.YtlahkmkipciiiaaDoorReactTab
import Derived.Test.YtlahkmkipciiiaaDoorReactLaw5
import Derived.Test.YtlahkmkipciiiaaDoorOpenP
import Derived.Test.YtlahkmkipciiiaaDoorOpenQ
import Derived.Test.YtlahkmkipciiiaaDoorReactArg
import Derived.SevenTiedAt
import Derived.Lib.SmallJoins
import Derived.Stop.Joined
namespace Go.Proofs.YtlahkmkipciiiaaDoor
open Go.ChangeShapes Go.WideShapes Go.ChangeAt Go.RowKit
set_option linter.unusedVariables false
namespace ReactLittleP

set_option maxRecDepth 100000 in
theorem lifted (os : Os) (started : os.Started) (H : Type) (enc : TypeId × Value → H) :
    ReturnsInHanded {} Tryd.checked os 7 .any (fun w args => (Rows.reactLittleSpec.pre enc Tryd.prog Tryd.f7 [] false w args ∧ laidMetH Tryd.prog Rows.reactLittleRow.laid w) ∧ sizedMet enc Tryd.prog Tryd.f7 (OpenSpec.ofChange Rows.reactLittleSpec) false w args)
      (Rows.reactLittleSpec.post enc Tryd.prog Tryd.f7 false true false false) := by
  refine returnsInHanded_of_change_and (C := Tryd.checked) (X := fun w _ => laidMetH Tryd.prog Rows.reactLittleRow.laid w) (fun _ _ _ hh h => h.of_heap hh) OpenP.own started (by kernel_rfl) Tryd.func7
    (ChangeSpec.witness_shaped (enc := enc) (C := Tryd.checked) (os := os) (X := fun w _ => laidMetH Tryd.prog Rows.reactLittleRow.laid w) false (World.doorLaid Tryd.prog 400 os) #[.agg #[.int .u8 0, .int .u8 0, .int .u8 0, .int .u8 0, .int .u8 0, .int .u8 0, .int .u8 0, .int .u8 0, .int .u8 0, .int .u8 0, .int .u8 0, .int .u8 0, .int .u8 0, .int .u8 0, .int .u8 0, .int .u8 0, .int .u8 0, .int .u8 0, .int .u8 0, .int .u8 0, .int .u8 0, .int .u8 0, .int .u8 0, .int .u64 0], .int .u8 0, .int .u64 0, .agg #[.int .u8 0, .int .u8 0, .int .u8 0, .int .u8 0, .int .u8 0, .int .u8 0, .int .u8 0, .int .u8 0]] 8 rfl (World.shaped_of_RefB (by kernel_rfl) (by kernel_rfl)) (by kernel_rfl) (by kernel_rfl) (by kernel_rfl) (KindW.door_met os _)) ?_
  intro W base args ds gs before hval0 hW _ _ hL _
  have hval : ∀ (j : Nat) t v, Tryd.f7.params[j]? = some t → args[j]? = some v → Value.okWide Tryd.prog W .any base t v := hval0
  have hW' := hW
  obtain ⟨p, q, hA0, hV, rfl, hfz, hnd⟩ := hW
  have hA : DataW.TrodAll enc Tryd.prog W 0 (fun _ => true) true Tryd.f7.params.toList args.toList ds p := hA0
  rw [Tryd.params7] at hA hval
  obtain ⟨rfl, rfl⟩ := trodVars_none hV
  have hlt : ∀ x ∈ p, x.block < W.heap.size := fun x hx => by simpa using hW'.lt x (by simp [hx])
  have hT : KindW.Tab W := KindW.tab_of_laid hL
  clear hA0 hval0
  obtain ⟨hl1, hl2⟩ := OpenP.all_len hA
  obtain ⟨v0, v1, v2, v3, rfl⟩ := OpenP.arr4 (show args.toList.length = 4 from hl1)
  obtain ⟨d0, d1, d2, d3, rfl⟩ := OpenP.len4 (show ds.length = 4 from hl2)
  obtain ⟨x0, e0, rfl, hd0, ud0, hk0⟩ := ReactW.open_react (hval 0 28 v0 rfl rfl)
  obtain ⟨x1, rfl, l1, u1⟩ := OpenP.v_int (k := .u8) (lo := 0) (hi := 255) Tryd.underlying5 rfl rfl (hval 1 5 v1 rfl rfl)
  obtain ⟨y1, rfl⟩ := Int.eq_ofNat_of_zero_le l1
  obtain ⟨x2, rfl, l2, u2⟩ := OpenP.v_int (k := .u64) (lo := 0) (hi := 18446744073709551615) Tryd.underlying26 rfl rfl (hval 2 26 v2 rfl rfl)
  obtain ⟨y2, rfl⟩ := Int.eq_ofNat_of_zero_le l2
  obtain ⟨x3, rfl⟩ := DeedW.open_unders (hval 3 25 v3 rfl rfl)
  refine (ReactW.law_little hT x0 hk0 hd0 ud0 y1 (by omega) x3).mono fun e W' ⟨he, bel⟩ => ?_
  subst he
  exact ⟨_, rfl, _, _, _, [], _, [], hW', trodAll_mk1 (shut_bool Tryd.underlying4 _), OpenP.all_keep OpenP.laidOut bel (of_decide_eq_true (by kernel_rfl)) hA hlt, rfl, bel.frame _, fun h => by cases h⟩

theorem holds : Rows.ReactLittleSaid :=
  OpenClaim.holds_of_wide 7 Tryd.f7 rfl rfl rfl rfl rfl rfl rfl ⟨rfl, rfl, rfl, rfl, rfl⟩ rfl rfl rfl rfl rfl (by kernel_rfl) Tryd.func7 (by kernel_rfl)
    (of_decide_eq_true (by kernel_rfl)) (by unfold Func.isWrapper; first | (rw [if_pos (by decide +kernel)]; kernel_rfl) | (rw [if_neg (by decide +kernel)]; exact ⟨rfl, rfl⟩))
    (fun os started H enc _ => lifted os started H enc)

/-- The statement. -/
theorem card : Rows.ReactLittleCardSaid :=
  Claim7.holds_tied_plain_at .later [] [.data] true Rows.reactLittleCard.stood.harness false
    holds (fun _ h => by cases h) (by kernel_rfl) (fun _ h => by cases h) reactLittle_row_tie rfl ⟨rfl, rfl⟩ (by kernel_rfl) rfl
    (fun f fn hf hfn => by
      obtain rfl : f = 7 := Option.some.inj ((show Tryd.prog.funcNamed Rows.reactLittleRow.func = some 7 by kernel_rfl).symm.trans hf) |>.symm
      obtain rfl : fn = Tryd.f7 := (Option.some.inj (Tryd.func7.symm.trans hfn)).symm
      exact ⟨by kernel_rfl, fun j t ht => by
        rw [Tryd.params7] at ht
        have hm : t ∈ [28, 5, 26, 25] := by simpa using Array.mem_of_getElem? ht
        have hall : ([28, 5, 26, 25].all fun u => !Tryd.prog.wantsStandIn u) = true := by kernel_rfl
        exact (show Tryd.prog.wantsStandIn t = false by simpa using List.all_eq_true.1 hall t hm)⟩)
    (by kernel_rfl)
#print axioms card
end ReactLittleP
end Go.Proofs.YtlahkmkipciiiaaDoor
