/- CrcParts returns true wherever both rows together are of bulk at most 1048576: the sum of two rows is that of the second one on from the first one's. CONDITIONS: the variable of package crc reads as the program's text lays it (the card ties it to that text, over the pruned copy of the project); the bound on the bulk is the other one: a longer row behind a long one would ask the statement's own append for more than any machine has. -/
import Derived.Test.YtcfgofkfjigdcaaDoorCards
import Derived.Test.YtcfgofkfjigdcaaDoorCrcTab
import Derived.Test.YtcfgofkfjigdcaaDoorCrcLaw1
import Derived.Test.YtcfgofkfjigdcaaDoorOpenP
import Derived.Test.YtcfgofkfjigdcaaDoorOpenQ
import Derived.Test.YtcfgofkfjigdcaaDoorBytesArg
import Derived.SevenTiedAt
import Derived.Lib.SmallJoins
import Derived.Stop.Joined
import Derived.JoinedCond
import Derived.Deep.DeepHandedRow
namespace Go.Proofs.YtcfgofkfjigdcaaDoor
open Go.ChangeShapes Go.WideShapes Go.ChangeAt Go.RowKit
set_option linter.unusedVariables false
namespace CrcPartsP

theorem reads (os : Os) {H : Type} (enc : TypeId × Value → H) : ∃ places, DataW.whole enc Tryd.prog ((World.doorLaid Tryd.prog 400 os).forCall (fun _ _ => 0) ⟨#[], #[.slice none 0 0, .slice none 0 0], []⟩).memory Tryd.f5.params.toList Rows.crcPartsSpec.vars false (#[.slice none 0 0, .slice none 0 0] : Array Value).toList 8 = some ([.nil, .nil], [], places) := ⟨[], by kernel_rfl⟩
set_option maxRecDepth 100000 in
theorem lifted (os : Os) (started : os.Started) (H : Type) (enc : TypeId × Value → H) (F : Stop.Interp) :
    ReturnsInHanded {} Tryd.checked os 5 .any ((Rows.OpenSpec.upto Rows.crcPartsSpec).preRow enc Tryd.prog Tryd.f5 Rows.crcPartsUptoRow.domain false Rows.crcPartsUptoRow.laid)
      (((Rows.OpenSpec.upto Rows.crcPartsSpec).at F).post enc Tryd.prog Tryd.f5 false true false false) := by
  obtain ⟨places, hx⟩ := reads os enc
  have hok : Input.okWideB Tryd.prog ((World.doorLaid Tryd.prog 400 os).forCall (fun _ _ => 0) ⟨#[], #[.slice none 0 0, .slice none 0 0], []⟩) 5 ⟨#[], #[.slice none 0 0, .slice none 0 0], []⟩ = true := by kernel_rfl
  refine returnsInHanded_of_row (C := Tryd.checked) (s := Rows.OpenSpec.upto Rows.crcPartsSpec) OpenP.own started (by kernel_rfl) Tryd.func5
    ⟨World.doorLaid Tryd.prog 400 os, fun _ _ => 0, ⟨#[], #[.slice none 0 0, .slice none 0 0], []⟩, rfl, World.shaped_of_RefB (by kernel_rfl) (by kernel_rfl), (Input.okWide_of_okWideB (base := 0) hok).1, (Input.okWide_of_okWideB hok).2,
      OpenSpec.preRow_of_cond 8 hx (by kernel_rfl) (fun k hk => by cases hk; kernel_rfl) (by kernel_rfl) (CrcW.door_met os _), by
        simp only [Assume.holds]
        exact ⟨by simp, by simp, fun _ => Modest.zero, by simp, by simp⟩⟩ ?_
  intro W base args ds gs before hval0 hW _ hcond _ hL _ _
  have hval : ∀ (j : Nat) t v, Tryd.f5.params[j]? = some t → args[j]? = some v → Value.okWide Tryd.prog W .any base t v := hval0
  have hW' := hW
  obtain ⟨p, q, hA0, hV, rfl, hfz, hnd⟩ := hW
  have hA : DataW.TrodAll enc Tryd.prog W 0 (fun _ => true) true Tryd.f5.params.toList args.toList ds p := hA0
  rw [Tryd.params5] at hA hval
  obtain ⟨rfl, rfl⟩ := trodVars_none hV
  have hlt : ∀ x ∈ p, x.block < W.heap.size := fun x hx => by simpa using hW'.lt x (by simp [hx])
  have hT : CrcW.Tab W := CrcW.tab_of_laid hL
  clear hA0 hval0
  obtain ⟨hl1, hl2⟩ := OpenP.all_len hA
  obtain ⟨v0, v1, rfl⟩ := OpenP.arr2 (show args.toList.length = 2 from hl1)
  obtain ⟨d0, d1, rfl⟩ := OpenP.len2 (show ds.length = 2 from hl2)
  obtain ⟨_, _, ht0⟩ := OpenQ.trod_at hA 0 22 v0 rfl rfl
  obtain ⟨A0, x0, c0, rfl, n0, h0⟩ := BytesW.open_bytes (OpenQ.v_slice Tryd.underlying22 (hval 0 22 v0 rfl rfl)) ht0
  obtain ⟨_, _, ht1⟩ := OpenQ.trod_at hA 1 22 v1 rfl rfl
  obtain ⟨A1, x1, c1, rfl, n1, h1⟩ := BytesW.open_bytes (OpenQ.v_slice Tryd.underlying22 (hval 1 22 v1 rfl rfl)) ht1
  obtain ⟨vv0, vs0, dd0, ds0, p0, q0, e10, e20, _, hd0, r0⟩ := trodAll_cons hA
  obtain ⟨rfl, rfl⟩ := List.cons.inj e10
  obtain ⟨rfl, rfl⟩ := List.cons.inj e20
  obtain ⟨vv1, vs1, dd1, ds1, p1, q1, e11, e21, _, hd1, _⟩ := trodAll_cons r0
  obtain ⟨rfl, rfl⟩ := List.cons.inj e11
  obtain ⟨rfl, rfl⟩ := List.cons.inj e21
  have hbd := of_decide_eq_true (hcond _ rfl)
  simp only [List.append_nil, Rows.uptoBulkAll] at hbd
  have hb0 := CrcM.bytes_bulk hd0
  have hb1 := CrcM.bytes_bulk hd1
  refine (CrcW.law_parts hT n0 n1 (by omega) h0 h1).mono fun e W' ⟨he, bel⟩ => ?_
  subst he
  exact ⟨_, rfl, _, _, _, [], _, [], hW', trodAll_mk1 (shut_bool Tryd.underlying4 _), OpenP.all_keep OpenP.laidOut bel (of_decide_eq_true (by kernel_rfl)) hA hlt, rfl, bel.frame _, fun h => by cases h⟩

theorem holds : Rows.CrcPartsUptoSaid :=
  OpenClaim.holds_of_cond 5 Tryd.f5 rfl rfl rfl rfl rfl rfl rfl ⟨rfl, rfl, rfl, rfl, rfl⟩ rfl rfl rfl rfl rfl (by kernel_rfl) Tryd.func5 (by kernel_rfl)
    (of_decide_eq_true (by kernel_rfl)) (by unfold Func.isWrapper; first | (rw [if_pos (by decide +kernel)]; kernel_rfl) | (rw [if_neg (by decide +kernel)]; exact ⟨rfl, rfl⟩))
    (fun os started H enc _ F => by rw [OpenClaim.pre_eq_preRow]; exact lifted os started H enc F)

/-- The statement. -/
theorem card : Rows.CrcPartsUptoCardSaid :=
  Claim7.holds_tied_plain_at .later [] [.data] true Rows.crcPartsUptoCard.stood.harness false
    holds (fun _ h => by cases h) (by kernel_rfl) (fun _ h => by cases h) crcPartsUpto_row_tie rfl ⟨rfl, rfl⟩ (by kernel_rfl) rfl
    (fun f fn hf hfn => by
      obtain rfl : f = 5 := Option.some.inj ((show Tryd.prog.funcNamed Rows.crcPartsUptoRow.func = some 5 by kernel_rfl).symm.trans hf) |>.symm
      obtain rfl : fn = Tryd.f5 := (Option.some.inj (Tryd.func5.symm.trans hfn)).symm
      exact ⟨by kernel_rfl, fun j t ht => by
        rw [Tryd.params5] at ht
        have hm : t ∈ [22, 22] := by simpa using Array.mem_of_getElem? ht
        have hall : ([22, 22].all fun u => !Tryd.prog.wantsStandIn u) = true := by kernel_rfl
        exact (show Tryd.prog.wantsStandIn t = false by simpa using List.all_eq_true.1 hall t hm)⟩)
    (by kernel_rfl)
#print axioms card
end CrcPartsP
end Go.Proofs.YtcfgofkfjigdcaaDoor
