/- SectorRefused returns true for every input: what is refused is no write, and changes nothing. CONDITIONS: the listed variables (the library's tables for UTF-8) read as the library's text lays them; no other condition. -/
import Derived.Test.YtjcmpcdalghniaaDoorCards
import Derived.Test.YtjcmpcdalghniaaDoorSectorTab
import Derived.Test.YtjcmpcdalghniaaDoorSectorArg
import Derived.Test.YtjcmpcdalghniaaDoorSectorLRefused
import Derived.Test.YtjcmpcdalghniaaDoorOpenP
import Derived.Test.YtjcmpcdalghniaaDoorOpenQ
import Derived.SevenTiedAt
import Derived.Lib.SmallJoins
import Derived.Lay
import Derived.Stop.Joined
namespace Go.Proofs.YtjcmpcdalghniaaDoor
open Go.ChangeShapes Go.WideShapes Go.ChangeAt Go.RowKit
set_option linter.unusedVariables false
namespace SectorRefusedP

set_option maxRecDepth 100000 in
theorem lifted (os : Os) (started : os.Started) (H : Type) (enc : TypeId × Value → H) :
    ReturnsInHanded {} Tryd.checked os 7 .any (fun w args => (Rows.sectorRefusedSpec.pre enc Tryd.prog Tryd.f7 [] false w args ∧ laidMetH Tryd.prog Rows.sectorRefusedRow.laid w) ∧ sizedMet enc Tryd.prog Tryd.f7 (OpenSpec.ofChange Rows.sectorRefusedSpec) false w args)
      (Rows.sectorRefusedSpec.post enc Tryd.prog Tryd.f7 false true false false) := by
  refine returnsInHanded_of_change_and (C := Tryd.checked) (X := fun w _ => laidMetH Tryd.prog Rows.sectorRefusedRow.laid w) (fun _ _ _ hh h => h.of_heap hh) SecW.own started (by kernel_rfl) Tryd.func7
    (ChangeSpec.witness_shaped (enc := enc) (C := Tryd.checked) (os := os) (X := fun w _ => laidMetH Tryd.prog Rows.sectorRefusedRow.laid w) false (World.laidAll Tryd.prog os Rows.sectorRefusedRow.laid) #[.slice none 0 0, .agg #[.int .i64 0, .string .empty]] 8 (World.laidAll_os _ _ _) (World.shaped_of_ZipB (by kernel_rfl) (by kernel_rfl)) (by kernel_rfl) (by kernel_rfl) (by kernel_rfl) (SecW.door_sectorRefused os _)) ?_
  intro W base args ds gs before hval0 hW _ _ hL _
  have hval : ∀ (j : Nat) t v, Tryd.f7.params[j]? = some t → args[j]? = some v → Value.okWide Tryd.prog W .any base t v := hval0
  have hW' := hW
  obtain ⟨p, q, hA0, hV, rfl, hfz, hnd⟩ := hW
  have hA : DataW.TrodAll enc Tryd.prog W 0 (fun _ => true) true Tryd.f7.params.toList args.toList ds p := hA0
  rw [Tryd.params7] at hA hval
  obtain ⟨rfl, rfl⟩ := trodVars_none hV
  have hlt : ∀ x ∈ p, x.block < W.heap.size := fun x hx => by simpa using hW'.lt x (by simp [hx])
  clear hA0 hval0
  obtain ⟨hl1, hl2⟩ := OpenP.all_len hA
  obtain ⟨v0, v1, rfl⟩ := OpenP.arr2 (show args.toList.length = 2 from hl1)
  obtain ⟨d0, d1, rfl⟩ := OpenP.len2 (show ds.length = 2 from hl2)
  obtain ⟨_, _, ht0⟩ := OpenQ.trod_at hA 0 38 v0 rfl rfl
  obtain ⟨A0, x0, c0, rfl, n0, h0⟩ := SecW.open_writes (OpenQ.v_slice Tryd.underlying38 (hval 0 38 v0 rfl rfl)) ht0
  obtain ⟨m1, rfl, hm1, hc1⟩ := OpenP.v_agg (n := 2) (ts := [3, 9]) (.inl ⟨_, Tryd.underlying45⟩) (by kernel_rfl) rfl (by kernel_rfl) (hval 1 45 v1 rfl rfl)
  obtain ⟨e1_0, e1_1, rfl⟩ := OpenP.len2 hm1
  obtain ⟨_, e, k⟩ := hc1 0 3 rfl
  obtain rfl := Option.some.inj e
  obtain ⟨x1_0, rfl, l1_0, u1_0⟩ := OpenP.c_int (k := .i64) (lo := (-9223372036854775808)) (hi := 9223372036854775807) Tryd.underlying3 rfl rfl k
  obtain ⟨_, e, k⟩ := hc1 1 9 rfl
  obtain rfl := Option.some.inj e
  obtain ⟨bx1_1, rfl, rx1_1⟩ := OpenP.c_string Tryd.underlying9 k
  obtain ⟨x1_1, rfl⟩ := SecW.byteArr bx1_1
  have s1_1 : x1_1.length ≤ 9223372036854775807 := by simpa [ByteArray.size] using rx1_1
  refine (SecW.law_refused (xa := x1_0) (xs := x1_1) h0 rfl).mono fun e W' ⟨he, bel⟩ => ?_
  subst he
  exact ⟨_, rfl, _, _, _, [], _, [], hW', trodAll_mk1 (shut_bool Tryd.underlying4 _), OpenP.all_keep SecW.laidOut bel (of_decide_eq_true (by kernel_rfl)) hA hlt, rfl, bel.frame _, fun h => by cases h⟩

theorem holds : Rows.SectorRefusedSaid :=
  OpenClaim.holds_of_wide 7 Tryd.f7 rfl rfl rfl rfl rfl rfl rfl ⟨rfl, rfl, rfl, rfl, rfl⟩ rfl rfl rfl rfl rfl (by kernel_rfl) Tryd.func7 (by kernel_rfl)
    (of_decide_eq_true (by kernel_rfl)) (by unfold Func.isWrapper; first | (rw [if_pos (by decide +kernel)]; kernel_rfl) | (rw [if_neg (by decide +kernel)]; exact ⟨rfl, rfl⟩))
    (fun os started H enc _ => lifted os started H enc)

/-- The statement. -/
theorem card : Rows.SectorRefusedCardSaid :=
  Claim7.holds_tied_plain_at .later [] [.data, .pinned] true Rows.sectorRefusedCard.stood.harness true
    holds (fun _ h => by cases h) (by kernel_rfl) (fun _ h => by cases h) sectorRefused_row_tie rfl ⟨rfl, rfl⟩ (by kernel_rfl) rfl
    (fun f fn hf hfn => by
      obtain rfl : f = 7 := Option.some.inj ((show Tryd.prog.funcNamed Rows.sectorRefusedRow.func = some 7 by kernel_rfl).symm.trans hf) |>.symm
      obtain rfl : fn = Tryd.f7 := (Option.some.inj (Tryd.func7.symm.trans hfn)).symm
      exact ⟨by kernel_rfl, fun j t ht => by
        rw [Tryd.params7] at ht
        have hm : t ∈ [38, 45] := by simpa using Array.mem_of_getElem? ht
        have hall : ([38, 45].all fun u => !Tryd.prog.wantsStandIn u) = true := by kernel_rfl
        exact (show Tryd.prog.wantsStandIn t = false by simpa using List.all_eq_true.1 hall t hm)⟩)
    (by kernel_rfl)
#print axioms card
end SectorRefusedP
end Go.Proofs.YtjcmpcdalghniaaDoor
