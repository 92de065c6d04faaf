/- FreemapPlays returns true for every input: whatever is done with a map, it answers, and has, what the document says. CONDITIONS: math/bits' table reads as the library's text lays it; no other condition. -/
import Derived.Test.YtbnkaeigabifhaaDoorCards
import Derived.Test.YtbnkaeigabifhaaDoorFreeTab
import Derived.Test.YtbnkaeigabifhaaDoorFreeArg
import Derived.Test.YtbnkaeigabifhaaDoorFreeLPlays
import Derived.Test.YtbnkaeigabifhaaDoorOpenP
import Derived.Test.YtbnkaeigabifhaaDoorOpenQ
import Derived.SevenTiedAt
import Derived.Lib.SmallJoins
import Derived.Lay
import Derived.Stop.Joined
namespace Go.Proofs.YtbnkaeigabifhaaDoor
open Go.ChangeShapes Go.WideShapes Go.ChangeAt Go.RowKit
set_option linter.unusedVariables false
namespace FreemapPlaysP

set_option maxRecDepth 100000 in
theorem lifted (os : Os) (started : os.Started) (H : Type) (enc : TypeId × Value → H) :
    ReturnsInHanded {} Tryd.checked os 3 .any (fun w args => (Rows.freemapPlaysSpec.pre enc Tryd.prog Tryd.f3 [] false w args ∧ laidMetH Tryd.prog Rows.freemapPlaysRow.laid w) ∧ sizedMet enc Tryd.prog Tryd.f3 (OpenSpec.ofChange Rows.freemapPlaysSpec) false w args)
      (Rows.freemapPlaysSpec.post enc Tryd.prog Tryd.f3 false true false false) := by
  refine returnsInHanded_of_change_and (C := Tryd.checked) (X := fun w _ => laidMetH Tryd.prog Rows.freemapPlaysRow.laid w) (fun _ _ _ hh h => h.of_heap hh) FreW.own started (by kernel_rfl) Tryd.func3
    (ChangeSpec.witness_shaped (enc := enc) (C := Tryd.checked) (os := os) (X := fun w _ => laidMetH Tryd.prog Rows.freemapPlaysRow.laid w) false (World.laidAll Tryd.prog os Rows.freemapPlaysRow.laid) #[.int .i64 0, .slice none 0 0] 8 (World.laidAll_os _ _ _) (World.shaped_of_RefB (by kernel_rfl) (by kernel_rfl)) (by kernel_rfl) (by kernel_rfl) (by kernel_rfl) (FreW.door_Plays os _)) ?_
  intro W base args ds gs before hval0 hW _ _ hL _
  have hval : ∀ (j : Nat) t v, Tryd.f3.params[j]? = some t → args[j]? = some v → Value.okWide Tryd.prog W .any base t v := hval0
  have hW' := hW
  obtain ⟨p, q, hA0, hV, rfl, hfz, hnd⟩ := hW
  have hA : DataW.TrodAll enc Tryd.prog W 0 (fun _ => true) true Tryd.f3.params.toList args.toList ds p := hA0
  rw [Tryd.params3] at hA hval
  obtain ⟨rfl, rfl⟩ := trodVars_none hV
  have hlt : ∀ x ∈ p, x.block < W.heap.size := fun x hx => by simpa using hW'.lt x (by simp [hx])
  have hT : FreW.TabZ W := FreW.tab_of_Plays hL
  clear hA0 hval0
  obtain ⟨hl1, hl2⟩ := OpenP.all_len hA
  obtain ⟨v0, v1, rfl⟩ := OpenP.arr2 (show args.toList.length = 2 from hl1)
  obtain ⟨d0, d1, rfl⟩ := OpenP.len2 (show ds.length = 2 from hl2)
  obtain ⟨x0, rfl, l0, u0⟩ := OpenP.v_int (k := .i64) (lo := (-9223372036854775808)) (hi := 9223372036854775807) Tryd.underlying3 rfl rfl (hval 0 3 v0 rfl rfl)
  obtain ⟨_, _, ht1⟩ := OpenQ.trod_at hA 1 22 v1 rfl rfl
  obtain ⟨A1, x1, c1, rfl, n1, h1⟩ := FreW.open_dos (OpenQ.v_slice Tryd.underlying22 (hval 1 22 v1 rfl rfl)) ht1
  refine (FreW.law_plays (n := x0) hT h1.1 rfl h1.2).mono fun e W' ⟨he, bel⟩ => ?_
  subst he
  exact ⟨_, rfl, _, _, _, [], _, [], hW', trodAll_mk1 (shut_bool Tryd.underlying4 _), OpenP.all_keep FreW.laidOut bel (of_decide_eq_true (by kernel_rfl)) hA hlt, rfl, bel.frame _, fun h => by cases h⟩

theorem holds : Rows.FreemapPlaysSaid :=
  OpenClaim.holds_of_wide 3 Tryd.f3 rfl rfl rfl rfl rfl rfl rfl ⟨rfl, rfl, rfl, rfl, rfl⟩ rfl rfl rfl rfl rfl (by kernel_rfl) Tryd.func3 (by kernel_rfl)
    (of_decide_eq_true (by kernel_rfl)) (by unfold Func.isWrapper; first | (rw [if_pos (by decide +kernel)]; kernel_rfl) | (rw [if_neg (by decide +kernel)]; exact ⟨rfl, rfl⟩))
    (fun os started H enc _ => lifted os started H enc)

/-- The statement. -/
theorem card : Rows.FreemapPlaysCardSaid :=
  Claim7.holds_tied_plain_at .later [] [.data] true Rows.freemapPlaysCard.stood.harness false
    holds (fun _ h => by cases h) (by kernel_rfl) (fun _ h => by cases h) freemapPlays_row_tie rfl ⟨rfl, rfl⟩ (by kernel_rfl) rfl
    (fun f fn hf hfn => by
      obtain rfl : f = 3 := Option.some.inj ((show Tryd.prog.funcNamed Rows.freemapPlaysRow.func = some 3 by kernel_rfl).symm.trans hf) |>.symm
      obtain rfl : fn = Tryd.f3 := (Option.some.inj (Tryd.func3.symm.trans hfn)).symm
      exact ⟨by kernel_rfl, fun j t ht => by
        rw [Tryd.params3] at ht
        have hm : t ∈ [3, 22] := by simpa using Array.mem_of_getElem? ht
        have hall : ([3, 22].all fun u => !Tryd.prog.wantsStandIn u) = true := by kernel_rfl
        exact (show Tryd.prog.wantsStandIn t = false by simpa using List.all_eq_true.1 hall t hm)⟩)
    (by kernel_rfl)
#print axioms card
end FreemapPlaysP
end Go.Proofs.YtbnkaeigabifhaaDoor
