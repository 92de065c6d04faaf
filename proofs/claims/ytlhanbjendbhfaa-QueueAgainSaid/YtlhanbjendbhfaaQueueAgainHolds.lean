/- QueueAgain returns true for every input: a queue that is made of another one's list is taken from likewise. CONDITIONS: none beside the row's own form. -/
import Derived.Test.YtlhanbjendbhfaaQueueAgain
import Derived.Test.YtlhanbjendbhfaaOpenP
import Derived.Test.YtlhanbjendbhfaaOpenQ
import Derived.Test.YtlhanbjendbhfaaQueueArg
namespace Go.Proofs.Ytlhanbjendbhfaa
open Go.ChangeShapes Go.WideShapes Go.ChangeAt Go.RowKit
set_option linter.unusedVariables false
namespace QueueAgainP

set_option maxRecDepth 100000 in
theorem lifted (os : Os) (started : os.Started) (H : Type) (enc : TypeId × Value → H) :
    ReturnsInHanded {} Try.checked os 8 .any (Rows.queueAgainSpec.pre6 enc Try.prog Try.f8 Rows.queueAgainRow.domain false) (Rows.queueAgainSpec.post enc Try.prog Try.f8 false true false false) := by
  refine returnsInHanded_of_change (C := Try.checked) OpenP.own started (by kernel_rfl) Try.func8
    (ChangeSpec.witness6 (enc := enc) (C := Try.checked) false ⟨#[], #[.slice none 0 0], []⟩ 8 (by kernel_rfl) (by kernel_rfl) (by kernel_rfl) (by kernel_rfl)) ?_
  intro W base args ds gs before hval0 hW hcnd _
  have hval : ∀ (j : Nat) t v, Try.f8.params[j]? = some t → args[j]? = some v → Value.okWide Try.prog W .any base t v := hval0
  have hW' := hW
  obtain ⟨p, q, hA0, hV, rfl, hfz, hnd⟩ := hW
  have hA : DataW.TrodAll enc Try.prog W 0 (fun _ => true) true Try.f8.params.toList args.toList ds p := hA0
  rw [Try.params8] at hA hval
  obtain ⟨rfl, rfl⟩ := trodVars_none hV
  have hlt : ∀ x ∈ p, x.block < W.heap.size := fun x hx => by simpa using hW'.lt x (by simp [hx])
  clear hA0 hval0
  obtain ⟨hl1, hl2⟩ := OpenP.all_len hA
  obtain ⟨v0, rfl⟩ := OpenP.arr1 (show args.toList.length = 1 from hl1)
  obtain ⟨d0, rfl⟩ := OpenP.len1 (show ds.length = 1 from hl2)
  obtain ⟨_, _, ht0⟩ := OpenQ.trod_at hA 0 22 v0 rfl rfl
  obtain ⟨A0, x0, c0, rfl, n0, h0⟩ := QueW.open_ticks (OpenQ.v_slice Try.underlying22 (hval 0 22 v0 rfl rfl)) ht0
  refine (QueW.law_again h0 rfl).mono fun e W' ⟨he, bel⟩ => ?_
  subst he
  exact ⟨_, rfl, _, _, _, [], _, [], hW', trodAll_mk1 (shut_bool Try.underlying4 _), OpenP.all_keep OpenP.laidOut bel (of_decide_eq_true (by kernel_rfl)) hA hlt, rfl, bel.frame _, fun h => by cases h⟩

/-- The statement. -/
theorem holds : Rows.QueueAgainSaid :=
  OpenClaim.holds_of_wide 8 Try.f8 rfl rfl rfl rfl rfl rfl rfl ⟨rfl, rfl, rfl, rfl, rfl⟩ rfl rfl rfl rfl rfl (by kernel_rfl) Try.func8 (by kernel_rfl)
    (of_decide_eq_true (by kernel_rfl)) (by unfold Func.isWrapper; first | (rw [if_pos (by decide +kernel)]; kernel_rfl) | (rw [if_neg (by decide +kernel)]; exact ⟨rfl, rfl⟩))
    (fun os started H enc _ => lifted os started H enc)
#print axioms holds
end QueueAgainP
end Go.Proofs.Ytlhanbjendbhfaa
