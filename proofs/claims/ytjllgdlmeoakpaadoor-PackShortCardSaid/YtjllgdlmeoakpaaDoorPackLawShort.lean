/- PackShort: the cases joined. -/
import Derived.Test.YtjllgdlmeoakpaaDoorPackShortA
import Derived.Test.YtjllgdlmeoakpaaDoorPackShortB
import Derived.Test.YtjllgdlmeoakpaaDoorPackShortC
namespace Go.Proofs.YtjllgdlmeoakpaaDoor
open Go.RowKit
set_option linter.unusedVariables false
set_option linter.unusedSimpArgs false
namespace PackW
open BytesW RunsW

set_option maxRecDepth 100000 in
theorem law_short {w : World} {at_ o0 o1 o2 X2 X3 X4 X5 Y2 Y3 Y4 Y5 : Int} (hT : KindW.Tab w) (x1 : 0 ≤ X2) (x2 : X2 ≤ 255) (x3 : 0 ≤ X3) (x4 : X3 ≤ 255) (x5 : 0 ≤ X4) (x6 : X4 ≤ 255) (x7 : 0 ≤ X5) (x8 : X5 ≤ 255)
    (a1 : -9223372036854775808 ≤ at_) (a2 : at_ ≤ 9223372036854775807) (y1 : 0 ≤ Y2) (y2 : Y2 ≤ 255) (y3 : 0 ≤ Y3) (y4 : Y3 ≤ 255) (y5 : 0 ≤ Y4) (y6 : Y4 ≤ 255) (y7 : 0 ≤ Y5) (y8 : Y5 ≤ 255) :
    Calls Tryd.prog 8 #[.agg #[.int .i64 o0, .int .i64 o1, .int .u8 X2, .int .u8 X3, .int .u8 X4, .int .u8 X5], .agg #[.int .i64 at_, .int .i64 o2, .int .u8 Y2, .int .u8 Y3, .int .u8 Y4, .int .u8 Y5]] w fun e w' => e = .returned (.bool true) ∧ Below w.heap.size w w' := by
  obtain ⟨c1, rfl⟩ := u8_of x1 x2
  obtain ⟨c2, rfl⟩ := u8_of x3 x4
  obtain ⟨l1, rfl⟩ := u8_of x5 x6
  obtain ⟨l2, rfl⟩ := u8_of x7 x8
  obtain ⟨d1, rfl⟩ := u8_of y1 y2
  obtain ⟨d2, rfl⟩ := u8_of y3 y4
  obtain ⟨m1, rfl⟩ := u8_of y5 y6
  obtain ⟨m2, rfl⟩ := u8_of y7 y8
  rcases g1 : mayC (c1, c2) with _ | _
  · exact short_a hT ⟨a1, a2⟩ g1
  rcases g2 : mayC (d1, d2) with _ | _
  · exact short_b hT ⟨a1, a2⟩ g1 g2
  by_cases g3 : l1.toNat ≤ 15
  case neg => exact short_c hT ⟨a1, a2⟩ g1 g2 g3
  by_cases g4 : l2.toNat ≤ 15
  case neg => exact short_d hT ⟨a1, a2⟩ g1 g2 g3 g4
  by_cases g5 : m1.toNat ≤ 15
  case neg => exact short_e hT ⟨a1, a2⟩ g1 g2 g3 g4 g5
  by_cases g6 : m2.toNat ≤ 15
  case neg => exact short_f hT ⟨a1, a2⟩ g1 g2 g3 g4 g5 g6
  exact short_g hT ⟨a1, a2⟩ g1 g2 g3 g4 g5 g6
end PackW
end Go.Proofs.YtjllgdlmeoakpaaDoor
