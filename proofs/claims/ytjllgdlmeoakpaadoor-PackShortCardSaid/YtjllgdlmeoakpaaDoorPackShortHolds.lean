/- PackShort returns true for every input: a chunk of one cell, one light and no ticks has ten bytes; another cell, or another light, at a place within it makes few more. CONDITIONS: the variable of package kind reads as the program's text lays it (the card ties it to that text, over the pruned copy of the project); no other condition. -/
import Derived.Test.YtjllgdlmeoakpaaDoorCards
import Derived.Test.YtjllgdlmeoakpaaDoorPackTab
import Derived.Test.YtjllgdlmeoakpaaDoorPackLawShort
import Derived.Test.YtjllgdlmeoakpaaDoorOpenP
import Derived.Test.YtjllgdlmeoakpaaDoorOpenQ
import Derived.Test.YtjllgdlmeoakpaaDoorBytesArg
import Derived.SevenTiedAt
import Derived.Lib.SmallJoins
import Derived.Stop.Joined
namespace Go.Proofs.YtjllgdlmeoakpaaDoor
open Go.ChangeShapes Go.WideShapes Go.ChangeAt Go.RowKit
set_option linter.unusedVariables false
namespace PackShortP

set_option maxRecDepth 100000 in
theorem lifted (os : Os) (started : os.Started) (H : Type) (enc : TypeId × Value → H) :
    ReturnsInHanded {} Tryd.checked os 8 .any (fun w args => (Rows.packShortSpec.pre enc Tryd.prog Tryd.f8 [] false w args ∧ laidMetH Tryd.prog Rows.packShortRow.laid w) ∧ sizedMet enc Tryd.prog Tryd.f8 (OpenSpec.ofChange Rows.packShortSpec) false w args)
      (Rows.packShortSpec.post enc Tryd.prog Tryd.f8 false true false false) := by
  refine returnsInHanded_of_change_and (C := Tryd.checked) (X := fun w _ => laidMetH Tryd.prog Rows.packShortRow.laid w) (fun _ _ _ hh h => h.of_heap hh) OpenP.own started (by kernel_rfl) Tryd.func8
    (ChangeSpec.witness_shaped (enc := enc) (C := Tryd.checked) (os := os) (X := fun w _ => laidMetH Tryd.prog Rows.packShortRow.laid w) false (World.doorLaid Tryd.prog 400 os) #[.agg #[.int .i64 0, .int .i64 0, .int .u8 0, .int .u8 0, .int .u8 0, .int .u8 0], .agg #[.int .i64 0, .int .i64 0, .int .u8 0, .int .u8 0, .int .u8 0, .int .u8 0]] 8 rfl (World.shaped_of_RefB (by kernel_rfl) (by kernel_rfl)) (by kernel_rfl) (by kernel_rfl) (by kernel_rfl) (KindW.door_met os _)) ?_
  intro W base args ds gs before hval0 hW _ _ hL _
  have hval : ∀ (j : Nat) t v, Tryd.f8.params[j]? = some t → args[j]? = some v → Value.okWide Tryd.prog W .any base t v := hval0
  have hW' := hW
  obtain ⟨p, q, hA0, hV, rfl, hfz, hnd⟩ := hW
  have hA : DataW.TrodAll enc Tryd.prog W 0 (fun _ => true) true Tryd.f8.params.toList args.toList ds p := hA0
  rw [Tryd.params8] at hA hval
  obtain ⟨rfl, rfl⟩ := trodVars_none hV
  have hlt : ∀ x ∈ p, x.block < W.heap.size := fun x hx => by simpa using hW'.lt x (by simp [hx])
  have hT : KindW.Tab W := KindW.tab_of_laid hL
  clear hA0 hval0
  obtain ⟨hl1, hl2⟩ := OpenP.all_len hA
  obtain ⟨v0, v1, rfl⟩ := OpenP.arr2 (show args.toList.length = 2 from hl1)
  obtain ⟨d0, d1, rfl⟩ := OpenP.len2 (show ds.length = 2 from hl2)
  obtain ⟨m0, rfl, hm0, hc0⟩ := OpenP.v_agg (n := 6) (ts := [3, 3, 5, 5, 5, 5]) (.inl ⟨_, Tryd.underlying47⟩) (by kernel_rfl) rfl (by kernel_rfl) (hval 0 47 v0 rfl rfl)
  obtain ⟨e0_0, e0_1, e0_2, e0_3, e0_4, e0_5, rfl⟩ := OpenP.len6 hm0
  obtain ⟨_, e, k⟩ := hc0 0 3 rfl
  obtain rfl := Option.some.inj e
  obtain ⟨x0_0, rfl, l0_0, u0_0⟩ := OpenP.c_int (k := .i64) (lo := (-9223372036854775808)) (hi := 9223372036854775807) Tryd.underlying3 rfl rfl k
  obtain ⟨_, e, k⟩ := hc0 1 3 rfl
  obtain rfl := Option.some.inj e
  obtain ⟨x0_1, rfl, l0_1, u0_1⟩ := OpenP.c_int (k := .i64) (lo := (-9223372036854775808)) (hi := 9223372036854775807) Tryd.underlying3 rfl rfl k
  obtain ⟨_, e, k⟩ := hc0 2 5 rfl
  obtain rfl := Option.some.inj e
  obtain ⟨x0_2, rfl, l0_2, u0_2⟩ := OpenP.c_int (k := .u8) (lo := 0) (hi := 255) Tryd.underlying5 rfl rfl k
  obtain ⟨_, e, k⟩ := hc0 3 5 rfl
  obtain rfl := Option.some.inj e
  obtain ⟨x0_3, rfl, l0_3, u0_3⟩ := OpenP.c_int (k := .u8) (lo := 0) (hi := 255) Tryd.underlying5 rfl rfl k
  obtain ⟨_, e, k⟩ := hc0 4 5 rfl
  obtain rfl := Option.some.inj e
  obtain ⟨x0_4, rfl, l0_4, u0_4⟩ := OpenP.c_int (k := .u8) (lo := 0) (hi := 255) Tryd.underlying5 rfl rfl k
  obtain ⟨_, e, k⟩ := hc0 5 5 rfl
  obtain rfl := Option.some.inj e
  obtain ⟨x0_5, rfl, l0_5, u0_5⟩ := OpenP.c_int (k := .u8) (lo := 0) (hi := 255) Tryd.underlying5 rfl rfl k
  obtain ⟨m1, rfl, hm1, hc1⟩ := OpenP.v_agg (n := 6) (ts := [3, 3, 5, 5, 5, 5]) (.inl ⟨_, Tryd.underlying47⟩) (by kernel_rfl) rfl (by kernel_rfl) (hval 1 47 v1 rfl rfl)
  obtain ⟨e1_0, e1_1, e1_2, e1_3, e1_4, e1_5, rfl⟩ := OpenP.len6 hm1
  obtain ⟨_, e, k⟩ := hc1 0 3 rfl
  obtain rfl := Option.some.inj e
  obtain ⟨x1_0, rfl, l1_0, u1_0⟩ := OpenP.c_int (k := .i64) (lo := (-9223372036854775808)) (hi := 9223372036854775807) Tryd.underlying3 rfl rfl k
  obtain ⟨_, e, k⟩ := hc1 1 3 rfl
  obtain rfl := Option.some.inj e
  obtain ⟨x1_1, rfl, l1_1, u1_1⟩ := OpenP.c_int (k := .i64) (lo := (-9223372036854775808)) (hi := 9223372036854775807) Tryd.underlying3 rfl rfl k
  obtain ⟨_, e, k⟩ := hc1 2 5 rfl
  obtain rfl := Option.some.inj e
  obtain ⟨x1_2, rfl, l1_2, u1_2⟩ := OpenP.c_int (k := .u8) (lo := 0) (hi := 255) Tryd.underlying5 rfl rfl k
  obtain ⟨_, e, k⟩ := hc1 3 5 rfl
  obtain rfl := Option.some.inj e
  obtain ⟨x1_3, rfl, l1_3, u1_3⟩ := OpenP.c_int (k := .u8) (lo := 0) (hi := 255) Tryd.underlying5 rfl rfl k
  obtain ⟨_, e, k⟩ := hc1 4 5 rfl
  obtain rfl := Option.some.inj e
  obtain ⟨x1_4, rfl, l1_4, u1_4⟩ := OpenP.c_int (k := .u8) (lo := 0) (hi := 255) Tryd.underlying5 rfl rfl k
  obtain ⟨_, e, k⟩ := hc1 5 5 rfl
  obtain rfl := Option.some.inj e
  obtain ⟨x1_5, rfl, l1_5, u1_5⟩ := OpenP.c_int (k := .u8) (lo := 0) (hi := 255) Tryd.underlying5 rfl rfl k
  refine (PackW.law_short hT l0_2 u0_2 l0_3 u0_3 l0_4 u0_4 l0_5 u0_5 l1_0 u1_0 l1_2 u1_2 l1_3 u1_3 l1_4 u1_4 l1_5 u1_5).mono fun e W' ⟨he, bel⟩ => ?_
  subst he
  exact ⟨_, rfl, _, _, _, [], _, [], hW', trodAll_mk1 (shut_bool Tryd.underlying4 _), OpenP.all_keep OpenP.laidOut bel (of_decide_eq_true (by kernel_rfl)) hA hlt, rfl, bel.frame _, fun h => by cases h⟩

theorem holds : Rows.PackShortSaid :=
  OpenClaim.holds_of_wide 8 Tryd.f8 rfl rfl rfl rfl rfl rfl rfl ⟨rfl, rfl, rfl, rfl, rfl⟩ rfl rfl rfl rfl rfl (by kernel_rfl) Tryd.func8 (by kernel_rfl)
    (of_decide_eq_true (by kernel_rfl)) (by unfold Func.isWrapper; first | (rw [if_pos (by decide +kernel)]; kernel_rfl) | (rw [if_neg (by decide +kernel)]; exact ⟨rfl, rfl⟩))
    (fun os started H enc _ => lifted os started H enc)

/-- The statement. -/
theorem card : Rows.PackShortCardSaid :=
  Claim7.holds_tied_plain_at .later [] [.data] true Rows.packShortCard.stood.harness false
    holds (fun _ h => by cases h) (by kernel_rfl) (fun _ h => by cases h) packShort_row_tie rfl ⟨rfl, rfl⟩ (by kernel_rfl) rfl
    (fun f fn hf hfn => by
      obtain rfl : f = 8 := Option.some.inj ((show Tryd.prog.funcNamed Rows.packShortRow.func = some 8 by kernel_rfl).symm.trans hf) |>.symm
      obtain rfl : fn = Tryd.f8 := (Option.some.inj (Tryd.func8.symm.trans hfn)).symm
      exact ⟨by kernel_rfl, fun j t ht => by
        rw [Tryd.params8] at ht
        have hm : t ∈ [47, 47] := by simpa using Array.mem_of_getElem? ht
        have hall : ([47, 47].all fun u => !Tryd.prog.wantsStandIn u) = true := by kernel_rfl
        exact (show Tryd.prog.wantsStandIn t = false by simpa using List.all_eq_true.1 hall t hm)⟩)
    (by kernel_rfl)
#print axioms card
end PackShortP
end Go.Proofs.YtjllgdlmeoakpaaDoor
