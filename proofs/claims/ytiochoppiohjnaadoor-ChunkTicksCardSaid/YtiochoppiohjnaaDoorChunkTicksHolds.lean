/- ChunkTicks returns true for every input: of every list of ticks, and whatever is done to it, each answer is the document's; all else stays. CONDITIONS: the variable of package kind reads as the program's text lays it (the card ties it to that text, over the pruned copy of the project); no other condition. -/
import Derived.Test.YtiochoppiohjnaaDoorCards
import Derived.Test.YtiochoppiohjnaaDoorChunkTab
import Derived.Test.YtiochoppiohjnaaDoorChunkLawTicks
import Derived.Test.YtiochoppiohjnaaDoorChunkActs
import Derived.Test.YtiochoppiohjnaaDoorTickOpen
import Derived.Test.YtiochoppiohjnaaDoorOpenP
import Derived.Test.YtiochoppiohjnaaDoorOpenQ
import Derived.Test.YtiochoppiohjnaaDoorBytesArg
import Derived.SevenTiedAt
import Derived.Lib.SmallJoins
import Derived.Stop.Joined
namespace Go.Proofs.YtiochoppiohjnaaDoor
open Go.ChangeShapes Go.WideShapes Go.ChangeAt Go.RowKit
set_option linter.unusedVariables false
namespace ChunkTicksP

set_option maxRecDepth 100000 in
theorem lifted (os : Os) (started : os.Started) (H : Type) (enc : TypeId × Value → H) :
    ReturnsInHanded {} Tryd.checked os 5 .any (fun w args => (Rows.chunkTicksSpec.pre enc Tryd.prog Tryd.f5 [] false w args ∧ laidMetH Tryd.prog Rows.chunkTicksRow.laid w) ∧ sizedMet enc Tryd.prog Tryd.f5 (OpenSpec.ofChange Rows.chunkTicksSpec) false w args)
      (Rows.chunkTicksSpec.post enc Tryd.prog Tryd.f5 false true false false) := by
  refine returnsInHanded_of_change_and (C := Tryd.checked) (X := fun w _ => laidMetH Tryd.prog Rows.chunkTicksRow.laid w) (fun _ _ _ hh h => h.of_heap hh) OpenP.own started (by kernel_rfl) Tryd.func5
    (ChangeSpec.witness_shaped (enc := enc) (C := Tryd.checked) (os := os) (X := fun w _ => laidMetH Tryd.prog Rows.chunkTicksRow.laid w) false (World.doorLaid Tryd.prog 400 os) #[.slice none 0 0, .slice none 0 0, .int .i64 0] 8 rfl (World.shaped_of_RefB (by kernel_rfl) (by kernel_rfl)) (by kernel_rfl) (by kernel_rfl) (by kernel_rfl) (KindW.door_met os _)) ?_
  intro W base args ds gs before hval0 hW _ _ hL _
  have hval : ∀ (j : Nat) t v, Tryd.f5.params[j]? = some t → args[j]? = some v → Value.okWide Tryd.prog W .any base t v := hval0
  have hW' := hW
  obtain ⟨p, q, hA0, hV, rfl, hfz, hnd⟩ := hW
  have hA : DataW.TrodAll enc Tryd.prog W 0 (fun _ => true) true Tryd.f5.params.toList args.toList ds p := hA0
  rw [Tryd.params5] at hA hval
  obtain ⟨rfl, rfl⟩ := trodVars_none hV
  have hlt : ∀ x ∈ p, x.block < W.heap.size := fun x hx => by simpa using hW'.lt x (by simp [hx])
  have hT : KindW.Tab W := KindW.tab_of_laid hL
  clear hA0 hval0
  obtain ⟨hl1, hl2⟩ := OpenP.all_len hA
  obtain ⟨v0, v1, v2, rfl⟩ := OpenP.arr3 (show args.toList.length = 3 from hl1)
  obtain ⟨d0, d1, d2, rfl⟩ := OpenP.len3 (show ds.length = 3 from hl2)
  obtain ⟨_, _, ht0⟩ := OpenQ.trod_at hA 0 23 v0 rfl rfl
  obtain ⟨A0, x0, c0, rfl, n0, h0⟩ := PackW.open_ticks (OpenQ.v_slice Tryd.underlying23 (hval 0 23 v0 rfl rfl)) ht0
  obtain ⟨_, _, ht1⟩ := OpenQ.trod_at hA 1 34 v1 rfl rfl
  obtain ⟨A1, x1, c1, rfl, n1, h1⟩ := ChunkW.open_acts (OpenQ.v_slice Tryd.underlying34 (hval 1 34 v1 rfl rfl)) ht1
  obtain ⟨x2, rfl, l2, u2⟩ := OpenP.v_int (k := .i64) (lo := (-9223372036854775808)) (hi := 9223372036854775807) Tryd.underlying2 rfl rfl (hval 2 2 v2 rfl rfl)
  refine (ChunkW.law_ticks hT n0 h0 n1 h1 l2 u2).mono fun e W' ⟨he, bel⟩ => ?_
  subst he
  exact ⟨_, rfl, _, _, _, [], _, [], hW', trodAll_mk1 (shut_bool Tryd.underlying4 _), OpenP.all_keep OpenP.laidOut bel (of_decide_eq_true (by kernel_rfl)) hA hlt, rfl, bel.frame _, fun h => by cases h⟩

theorem holds : Rows.ChunkTicksSaid :=
  OpenClaim.holds_of_wide 5 Tryd.f5 rfl rfl rfl rfl rfl rfl rfl ⟨rfl, rfl, rfl, rfl, rfl⟩ rfl rfl rfl rfl rfl (by kernel_rfl) Tryd.func5 (by kernel_rfl)
    (of_decide_eq_true (by kernel_rfl)) (by unfold Func.isWrapper; first | (rw [if_pos (by decide +kernel)]; kernel_rfl) | (rw [if_neg (by decide +kernel)]; exact ⟨rfl, rfl⟩))
    (fun os started H enc _ => lifted os started H enc)

/-- The statement. -/
theorem card : Rows.ChunkTicksCardSaid :=
  Claim7.holds_tied_plain_at .later [] [.data] true Rows.chunkTicksCard.stood.harness false
    holds (fun _ h => by cases h) (by kernel_rfl) (fun _ h => by cases h) chunkTicks_row_tie rfl ⟨rfl, rfl⟩ (by kernel_rfl) rfl
    (fun f fn hf hfn => by
      obtain rfl : f = 5 := Option.some.inj ((show Tryd.prog.funcNamed Rows.chunkTicksRow.func = some 5 by kernel_rfl).symm.trans hf) |>.symm
      obtain rfl : fn = Tryd.f5 := (Option.some.inj (Tryd.func5.symm.trans hfn)).symm
      exact ⟨by kernel_rfl, fun j t ht => by
        rw [Tryd.params5] at ht
        have hm : t ∈ [23, 34, 2] := by simpa using Array.mem_of_getElem? ht
        have hall : ([23, 34, 2].all fun u => !Tryd.prog.wantsStandIn u) = true := by kernel_rfl
        exact (show Tryd.prog.wantsStandIn t = false by simpa using List.all_eq_true.1 hall t hm)⟩)
    (by kernel_rfl)
#print axioms card
end ChunkTicksP
end Go.Proofs.YtiochoppiohjnaaDoor
