/- LineAnswers returns true for every input: errors' names, and answers as lines, are those that the document says. CONDITIONS: the listed variables (package kind's table; the library's tables for bits, powers of ten and UTF-8) read as the program's text, or the library's, lays them; no other condition. -/
import Derived.Test.YtcfkdddflbdfaaaDoorCards
import Derived.Test.YtcfkdddflbdfaaaDoorLineTab
import Derived.Test.YtcfkdddflbdfaaaDoorLineLaw
import Derived.Test.YtcfkdddflbdfaaaDoorOpenP
import Derived.Test.YtcfkdddflbdfaaaDoorOpenQ
import Derived.SevenTiedAt
import Derived.Lib.SmallJoins
import Derived.Lay
import Derived.Stop.Joined
namespace Go.Proofs.YtcfkdddflbdfaaaDoor
open Go.ChangeShapes Go.WideShapes Go.ChangeAt Go.RowKit
set_option linter.unusedVariables false
namespace LineAnswersP

set_option maxRecDepth 100000 in
theorem lifted (os : Os) (started : os.Started) (H : Type) (enc : TypeId × Value → H) :
    ReturnsInHanded {} Tryd.checked os 5 .any (fun w args => (Rows.lineAnswersSpec.pre enc Tryd.prog Tryd.f5 [] false w args ∧ laidMetH Tryd.prog Rows.lineAnswersRow.laid w) ∧ sizedMet enc Tryd.prog Tryd.f5 (OpenSpec.ofChange Rows.lineAnswersSpec) false w args)
      (Rows.lineAnswersSpec.post enc Tryd.prog Tryd.f5 false true false false) := by
  refine returnsInHanded_of_change_and (C := Tryd.checked) (X := fun w _ => laidMetH Tryd.prog Rows.lineAnswersRow.laid w) (fun _ _ _ hh h => h.of_heap hh) LineW.own started (by kernel_rfl) Tryd.func5
    (ChangeSpec.witness_shaped (enc := enc) (C := Tryd.checked) (os := os) (X := fun w _ => laidMetH Tryd.prog Rows.lineAnswersRow.laid w) false (World.laidAll Tryd.prog os Rows.lineAnswersRow.laid) #[.int .i64 0, .agg #[.int .i64 0, .int .i64 0, .int .i64 0, .int .i64 0, .int .u8 0, .int .u8 0, .int .u8 0, .int .u8 0, .int .i64 0, .int .i64 0, .int .i64 0, .int .i64 0, .int .i64 0, .int .i64 0], .int .i64 0] 8 (World.laidAll_os _ _ _) (World.shaped_of_ZipB (by kernel_rfl) (by kernel_rfl)) (by kernel_rfl) (by kernel_rfl) (by kernel_rfl) (LineW.door_met os _)) ?_
  intro W base args ds gs before hval0 hW _ _ hL _
  have hval : ∀ (j : Nat) t v, Tryd.f5.params[j]? = some t → args[j]? = some v → Value.okWide Tryd.prog W .any base t v := hval0
  have hW' := hW
  obtain ⟨p, q, hA0, hV, rfl, hfz, hnd⟩ := hW
  have hA : DataW.TrodAll enc Tryd.prog W 0 (fun _ => true) true Tryd.f5.params.toList args.toList ds p := hA0
  rw [Tryd.params5] at hA hval
  obtain ⟨rfl, rfl⟩ := trodVars_none hV
  have hlt : ∀ x ∈ p, x.block < W.heap.size := fun x hx => by simpa using hW'.lt x (by simp [hx])
  have hT : LineW.Env W := LineW.env_of_laid hL
  clear hA0 hval0
  obtain ⟨hl1, hl2⟩ := OpenP.all_len hA
  obtain ⟨v0, v1, v2, rfl⟩ := OpenP.arr3 (show args.toList.length = 3 from hl1)
  obtain ⟨d0, d1, d2, rfl⟩ := OpenP.len3 (show ds.length = 3 from hl2)
  obtain ⟨x0, rfl, l0, u0⟩ := OpenP.v_int (k := .i64) (lo := (-9223372036854775808)) (hi := 9223372036854775807) Tryd.underlying3 rfl rfl (hval 0 3 v0 rfl rfl)
  obtain ⟨m1, rfl, hm1, hc1⟩ := OpenP.v_agg (n := 14) (ts := [28, 3, 3, 3, 5, 5, 5, 5, 2, 3, 2, 2, 2, 2]) (.inl ⟨_, Tryd.underlying41⟩) (by kernel_rfl) rfl (by kernel_rfl) (hval 1 41 v1 rfl rfl)
  obtain ⟨e1_0, e1_1, e1_2, e1_3, e1_4, e1_5, e1_6, e1_7, e1_8, e1_9, e1_10, e1_11, e1_12, e1_13, rfl⟩ := LineW.len14 hm1
  obtain ⟨_, e, k⟩ := hc1 0 28 rfl
  obtain rfl := Option.some.inj e
  obtain ⟨x1_0, rfl, l1_0, u1_0⟩ := OpenP.c_int (k := .i64) (lo := (-9223372036854775808)) (hi := 9223372036854775807) Tryd.underlying28 rfl rfl k
  obtain ⟨_, e, k⟩ := hc1 1 3 rfl
  obtain rfl := Option.some.inj e
  obtain ⟨x1_1, rfl, l1_1, u1_1⟩ := OpenP.c_int (k := .i64) (lo := (-9223372036854775808)) (hi := 9223372036854775807) Tryd.underlying3 rfl rfl k
  obtain ⟨_, e, k⟩ := hc1 2 3 rfl
  obtain rfl := Option.some.inj e
  obtain ⟨x1_2, rfl, l1_2, u1_2⟩ := OpenP.c_int (k := .i64) (lo := (-9223372036854775808)) (hi := 9223372036854775807) Tryd.underlying3 rfl rfl k
  obtain ⟨_, e, k⟩ := hc1 3 3 rfl
  obtain rfl := Option.some.inj e
  obtain ⟨x1_3, rfl, l1_3, u1_3⟩ := OpenP.c_int (k := .i64) (lo := (-9223372036854775808)) (hi := 9223372036854775807) Tryd.underlying3 rfl rfl k
  obtain ⟨_, e, k⟩ := hc1 4 5 rfl
  obtain rfl := Option.some.inj e
  obtain ⟨x1_4, rfl, l1_4, u1_4⟩ := OpenP.c_int (k := .u8) (lo := 0) (hi := 255) Tryd.underlying5 rfl rfl k
  obtain ⟨_, e, k⟩ := hc1 5 5 rfl
  obtain rfl := Option.some.inj e
  obtain ⟨x1_5, rfl, l1_5, u1_5⟩ := OpenP.c_int (k := .u8) (lo := 0) (hi := 255) Tryd.underlying5 rfl rfl k
  obtain ⟨_, e, k⟩ := hc1 6 5 rfl
  obtain rfl := Option.some.inj e
  obtain ⟨x1_6, rfl, l1_6, u1_6⟩ := OpenP.c_int (k := .u8) (lo := 0) (hi := 255) Tryd.underlying5 rfl rfl k
  obtain ⟨_, e, k⟩ := hc1 7 5 rfl
  obtain rfl := Option.some.inj e
  obtain ⟨x1_7, rfl, l1_7, u1_7⟩ := OpenP.c_int (k := .u8) (lo := 0) (hi := 255) Tryd.underlying5 rfl rfl k
  obtain ⟨_, e, k⟩ := hc1 8 2 rfl
  obtain rfl := Option.some.inj e
  obtain ⟨x1_8, rfl, l1_8, u1_8⟩ := OpenP.c_int (k := .i64) (lo := (-9223372036854775808)) (hi := 9223372036854775807) Tryd.underlying2 rfl rfl k
  obtain ⟨_, e, k⟩ := hc1 9 3 rfl
  obtain rfl := Option.some.inj e
  obtain ⟨x1_9, rfl, l1_9, u1_9⟩ := OpenP.c_int (k := .i64) (lo := (-9223372036854775808)) (hi := 9223372036854775807) Tryd.underlying3 rfl rfl k
  obtain ⟨_, e, k⟩ := hc1 10 2 rfl
  obtain rfl := Option.some.inj e
  obtain ⟨x1_10, rfl, l1_10, u1_10⟩ := OpenP.c_int (k := .i64) (lo := (-9223372036854775808)) (hi := 9223372036854775807) Tryd.underlying2 rfl rfl k
  obtain ⟨_, e, k⟩ := hc1 11 2 rfl
  obtain rfl := Option.some.inj e
  obtain ⟨x1_11, rfl, l1_11, u1_11⟩ := OpenP.c_int (k := .i64) (lo := (-9223372036854775808)) (hi := 9223372036854775807) Tryd.underlying2 rfl rfl k
  obtain ⟨_, e, k⟩ := hc1 12 2 rfl
  obtain rfl := Option.some.inj e
  obtain ⟨x1_12, rfl, l1_12, u1_12⟩ := OpenP.c_int (k := .i64) (lo := (-9223372036854775808)) (hi := 9223372036854775807) Tryd.underlying2 rfl rfl k
  obtain ⟨_, e, k⟩ := hc1 13 2 rfl
  obtain rfl := Option.some.inj e
  obtain ⟨x1_13, rfl, l1_13, u1_13⟩ := OpenP.c_int (k := .i64) (lo := (-9223372036854775808)) (hi := 9223372036854775807) Tryd.underlying2 rfl rfl k
  obtain ⟨x2, rfl, l2, u2⟩ := OpenP.v_int (k := .i64) (lo := (-9223372036854775808)) (hi := 9223372036854775807) Tryd.underlying28 rfl rfl (hval 2 28 v2 rfl rfl)
  obtain ⟨y1_4, rfl⟩ := Int.eq_ofNat_of_zero_le l1_4
  obtain ⟨y1_5, rfl⟩ := Int.eq_ofNat_of_zero_le l1_5
  obtain ⟨y1_6, rfl⟩ := Int.eq_ofNat_of_zero_le l1_6
  obtain ⟨y1_7, rfl⟩ := Int.eq_ofNat_of_zero_le l1_7
  have hOk : LineW.Ans.Ok ⟨x1_0, (x1_1, x1_2, x1_3), (y1_4, y1_5), (y1_6, y1_7), x1_8, x1_9, (x1_10, x1_11, x1_12, x1_13)⟩ := by
    constructor <;> first | (simp only; omega) | (simp only [LineW.In64]; omega)
  refine (LineW.law_answers (k := x0) (n := x2) (a := ⟨x1_0, (x1_1, x1_2, x1_3), (y1_4, y1_5), (y1_6, y1_7), x1_8, x1_9, (x1_10, x1_11, x1_12, x1_13)⟩) hOk hT).mono fun e W' ⟨he, bel⟩ => ?_
  subst he
  exact ⟨_, rfl, _, _, _, [], _, [], hW', trodAll_mk1 (shut_bool Tryd.underlying4 _), OpenP.all_keep LineW.laidOut bel (of_decide_eq_true (by kernel_rfl)) hA hlt, rfl, bel.frame _, fun h => by cases h⟩

theorem holds : Rows.LineAnswersSaid :=
  OpenClaim.holds_of_wide 5 Tryd.f5 rfl rfl rfl rfl rfl rfl rfl ⟨rfl, rfl, rfl, rfl, rfl⟩ rfl rfl rfl rfl rfl (by kernel_rfl) Tryd.func5 (by kernel_rfl)
    (of_decide_eq_true (by kernel_rfl)) (by unfold Func.isWrapper; first | (rw [if_pos (by decide +kernel)]; kernel_rfl) | (rw [if_neg (by decide +kernel)]; exact ⟨rfl, rfl⟩))
    (fun os started H enc _ => lifted os started H enc)

/-- The statement. -/
theorem card : Rows.LineAnswersCardSaid :=
  Claim7.holds_tied_plain_at .later [] [.data, .data, .data, .data, .data, .pinned] true Rows.lineAnswersCard.stood.harness true
    holds (fun _ h => by cases h) (by kernel_rfl) (fun _ h => by cases h) lineAnswers_row_tie rfl ⟨rfl, rfl⟩ (by kernel_rfl) rfl
    (fun f fn hf hfn => by
      obtain rfl : f = 5 := Option.some.inj ((show Tryd.prog.funcNamed Rows.lineAnswersRow.func = some 5 by kernel_rfl).symm.trans hf) |>.symm
      obtain rfl : fn = Tryd.f5 := (Option.some.inj (Tryd.func5.symm.trans hfn)).symm
      exact ⟨by kernel_rfl, fun j t ht => by
        rw [Tryd.params5] at ht
        have hm : t ∈ [3, 41, 28] := by simpa using Array.mem_of_getElem? ht
        have hall : ([3, 41, 28].all fun u => !Tryd.prog.wantsStandIn u) = true := by kernel_rfl
        exact (show Tryd.prog.wantsStandIn t = false by simpa using List.all_eq_true.1 hall t hm)⟩)
    (by kernel_rfl)
#print axioms card
end LineAnswersP
end Go.Proofs.YtcfkdddflbdfaaaDoor
