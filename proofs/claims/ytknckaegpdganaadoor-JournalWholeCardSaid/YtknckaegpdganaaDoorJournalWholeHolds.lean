/- JournalWhole returns true for every input: wherever a group's writes are cut, and then those of recoveries: all homes as they were, or all as the group says. CONDITIONS: package crc's table reads as the program's text lays it, the library's tables for UTF-8 as the library's text lays them; no other condition. -/
import Derived.Test.YtknckaegpdganaaDoorCards
import Derived.Test.YtknckaegpdganaaDoorJouTab
import Derived.Test.YtknckaegpdganaaDoorSectorArg
import Derived.Test.YtknckaegpdganaaDoorJouRead
import Derived.Test.YtknckaegpdganaaDoorJouLWhole
import Derived.Test.YtknckaegpdganaaDoorOpenP
import Derived.Test.YtknckaegpdganaaDoorOpenQ
import Derived.SevenTiedAt
import Derived.Lib.SmallJoins
import Derived.Lay
import Derived.Stop.Joined
namespace Go.Proofs.YtknckaegpdganaaDoor
open Go.ChangeShapes Go.WideShapes Go.ChangeAt Go.RowKit
set_option linter.unusedVariables false
namespace JournalWholeP

set_option maxRecDepth 100000 in
theorem lifted (os : Os) (started : os.Started) (H : Type) (enc : TypeId × Value → H) :
    ReturnsInHanded {} Tryd.checked os 5 .any (fun w args => (Rows.journalWholeSpec.pre enc Tryd.prog Tryd.f5 [] false w args ∧ laidMetH Tryd.prog Rows.journalWholeRow.laid w) ∧ sizedMet enc Tryd.prog Tryd.f5 (OpenSpec.ofChange Rows.journalWholeSpec) false w args)
      (Rows.journalWholeSpec.post enc Tryd.prog Tryd.f5 false true false false) := by
  refine returnsInHanded_of_change_and (C := Tryd.checked) (X := fun w _ => laidMetH Tryd.prog Rows.journalWholeRow.laid w) (fun _ _ _ hh h => h.of_heap hh) JouW.own started (by kernel_rfl) Tryd.func5
    (ChangeSpec.witness_shaped (enc := enc) (C := Tryd.checked) (os := os) (X := fun w _ => laidMetH Tryd.prog Rows.journalWholeRow.laid w) false (World.laidAll Tryd.prog os Rows.journalWholeRow.laid) #[.int .i64 0, .slice none 0 0, .int .i64 0, .int .i64 0, .slice none 0 0, .slice none 0 0] 8 (World.laidAll_os _ _ _) (World.shaped_of_ZipB (by kernel_rfl) (by kernel_rfl)) (by kernel_rfl) (by kernel_rfl) (by kernel_rfl) (JouW.door_journalWhole os _)) ?_
  intro W base args ds gs before hval0 hW _ _ hL _
  have hval : ∀ (j : Nat) t v, Tryd.f5.params[j]? = some t → args[j]? = some v → Value.okWide Tryd.prog W .any base t v := hval0
  have hW' := hW
  obtain ⟨p, q, hA0, hV, rfl, hfz, hnd⟩ := hW
  have hA : DataW.TrodAll enc Tryd.prog W 0 (fun _ => true) true Tryd.f5.params.toList args.toList ds p := hA0
  rw [Tryd.params5] at hA hval
  obtain ⟨rfl, rfl⟩ := trodVars_none hV
  have hlt : ∀ x ∈ p, x.block < W.heap.size := fun x hx => by simpa using hW'.lt x (by simp [hx])
  have hT : CrcW.Tab W := JouW.tab_of_Whole hL
  clear hA0 hval0
  obtain ⟨hl1, hl2⟩ := OpenP.all_len hA
  obtain ⟨v0, v1, v2, v3, v4, v5, rfl⟩ := OpenP.arr6 (show args.toList.length = 6 from hl1)
  obtain ⟨d0, d1, d2, d3, d4, d5, rfl⟩ := OpenP.len6 (show ds.length = 6 from hl2)
  obtain ⟨x0, rfl, l0, u0⟩ := OpenP.v_int (k := .i64) (lo := (-9223372036854775808)) (hi := 9223372036854775807) Tryd.underlying3 rfl rfl (hval 0 3 v0 rfl rfl)
  obtain ⟨_, _, ht1⟩ := OpenQ.trod_at hA 1 22 v1 rfl rfl
  obtain ⟨A1, x1, c1, rfl, n1, h1⟩ := SecW.open_writes (OpenQ.v_slice Tryd.underlying22 (hval 1 22 v1 rfl rfl)) ht1
  obtain ⟨x2, rfl, l2, u2⟩ := OpenP.v_int (k := .i64) (lo := (-9223372036854775808)) (hi := 9223372036854775807) Tryd.underlying3 rfl rfl (hval 2 3 v2 rfl rfl)
  obtain ⟨x3, rfl, l3, u3⟩ := OpenP.v_int (k := .i64) (lo := (-9223372036854775808)) (hi := 9223372036854775807) Tryd.underlying3 rfl rfl (hval 3 3 v3 rfl rfl)
  obtain ⟨_, _, ht4⟩ := OpenQ.trod_at hA 4 22 v4 rfl rfl
  obtain ⟨A4, x4, c4, rfl, n4, h4⟩ := SecW.open_writes (OpenQ.v_slice Tryd.underlying22 (hval 4 22 v4 rfl rfl)) ht4
  obtain ⟨_, _, ht5⟩ := OpenQ.trod_at hA 5 49 v5 rfl rfl
  obtain ⟨A5, x5, c5, rfl, n5, h5⟩ := JouW.open_ints (OpenQ.v_slice Tryd.underlying49 (hval 5 49 v5 rfl rfl)) ht5
  refine (JouW.law_whole (x := x0) (a := x2) (m := x3) hT h1 rfl h4 rfl h5 rfl).mono fun e W' ⟨he, bel⟩ => ?_
  subst he
  exact ⟨_, rfl, _, _, _, [], _, [], hW', trodAll_mk1 (shut_bool Tryd.underlying4 _), OpenP.all_keep JouW.laidOut bel (of_decide_eq_true (by kernel_rfl)) hA hlt, rfl, bel.frame _, fun h => by cases h⟩

theorem holds : Rows.JournalWholeSaid :=
  OpenClaim.holds_of_wide 5 Tryd.f5 rfl rfl rfl rfl rfl rfl rfl ⟨rfl, rfl, rfl, rfl, rfl⟩ rfl rfl rfl rfl rfl (by kernel_rfl) Tryd.func5 (by kernel_rfl)
    (of_decide_eq_true (by kernel_rfl)) (by unfold Func.isWrapper; first | (rw [if_pos (by decide +kernel)]; kernel_rfl) | (rw [if_neg (by decide +kernel)]; exact ⟨rfl, rfl⟩))
    (fun os started H enc _ => lifted os started H enc)

/-- The statement. -/
theorem card : Rows.JournalWholeCardSaid :=
  Claim7.holds_tied_plain_at .later [] [.data, .data, .pinned] true Rows.journalWholeCard.stood.harness true
    holds (fun _ h => by cases h) (by kernel_rfl) (fun _ h => by cases h) journalWhole_row_tie rfl ⟨rfl, rfl⟩ (by kernel_rfl) rfl
    (fun f fn hf hfn => by
      obtain rfl : f = 5 := Option.some.inj ((show Tryd.prog.funcNamed Rows.journalWholeRow.func = some 5 by kernel_rfl).symm.trans hf) |>.symm
      obtain rfl : fn = Tryd.f5 := (Option.some.inj (Tryd.func5.symm.trans hfn)).symm
      exact ⟨by kernel_rfl, fun j t ht => by
        rw [Tryd.params5] at ht
        have hm : t ∈ [3, 22, 3, 3, 22, 49] := by simpa using Array.mem_of_getElem? ht
        have hall : ([3, 22, 3, 3, 22, 49].all fun u => !Tryd.prog.wantsStandIn u) = true := by kernel_rfl
        exact (show Tryd.prog.wantsStandIn t = false by simpa using List.all_eq_true.1 hall t hm)⟩)
    (by kernel_rfl)
#print axioms card
end JournalWholeP
end Go.Proofs.YtknckaegpdganaaDoor
