/-
  FlowWants: the level that a place wants is the one that the document says.
-/
import Derived.Test.YtjdoglihebfamaaDoorFlowRef
namespace Go.Proofs.YtjdoglihebfamaaDoor
open Go.RowKit
set_option linter.unusedVariables false
set_option linter.unusedSimpArgs false
namespace FlowW
open BlkP RowG FrS PushG FlowP
set_option maxRecDepth 100000 in
set_option maxHeartbeats 16000000 in
theorem law_wants {w : World} (hT : KindW.Tab w) (n : Nr) : Calls Tryd.prog 3 #[nv n] w fun e w' => e = .returned (.bool true) ∧ Below w.heap.size w w' := by
  have HT := Lib.hid hT
  clear hT
  go_enter Tryd.func3, Tryd.ntmps3
  go_wp2_with ((with_reducible refine at_slot 1 ?_); refine Classical.byContradiction (fun hG => ?_))
  refine hG ?_
  clear hG
  refine wp_boxN rfl (.tmp 0) rfl rfl ?_
  intro w1 h1 hb1 hz1
  have HB1 := Lib.hid hb1
  have H1 := Lib.hid h1
  clear h1 hb1 hz1
  go_wp2_with ((with_reducible refine at_slot 8 ?_); refine Classical.byContradiction (fun hG => ?_))
  refine hG ?_
  clear hG
  refine wp_loadN rfl (.tmp 1) rfl rfl (n := n) H1.out ?_
  go_wp2_with fail
  refine (Want_c (HT.out.below HB1.out)).mono ?_
  rintro e w2 ⟨rfl, hb2⟩
  obtain ⟨⟨wl, wb⟩, hwt⟩ : ∃ x, want n = x := ⟨_, rfl⟩
  rw [hwt]
  have HWT := Lib.hid hwt
  have HB2 := Lib.hid (below_t HB1.out hb2)
  have H2 := Lib.hid (H1.out.below hb2)
  clear hb2 hwt
  go_wp2_with ((with_reducible refine at_slot 13 ?_); refine Classical.byContradiction (fun hG => ?_))
  refine hG ?_
  clear hG
  refine wp_loadN rfl (.tmp 1) rfl rfl (n := n) H2.out ?_
  go_wp2_with fail
  refine rWant_c.mono ?_
  rintro e w3 ⟨rfl, hb3⟩
  rw [HWT.out]
  have HB3 := Lib.hid (below_t HB2.out hb3)
  clear hb3
  go_wp2_with fail
  refine (works_c (HT.out.below HB3.out)).mono ?_
  rintro e w4 ⟨rfl, hb4⟩
  have HB4 := Lib.hid (below_t HB3.out hb4)
  clear hb4
  go_wp2_with fail
  go_ret
  exact ⟨rfl, HB4.out⟩
end FlowW
end Go.Proofs.YtjdoglihebfamaaDoor
