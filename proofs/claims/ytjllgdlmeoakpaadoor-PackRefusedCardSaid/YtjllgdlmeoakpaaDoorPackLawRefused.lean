/- PackRefused: the cases joined. -/
import Derived.Test.YtjllgdlmeoakpaaDoorPackRefA
import Derived.Test.YtjllgdlmeoakpaaDoorPackRefB
import Derived.Test.YtjllgdlmeoakpaaDoorPackRefC
import Derived.Test.YtjllgdlmeoakpaaDoorPackRefD
namespace Go.Proofs.YtjllgdlmeoakpaaDoor
open Go.RowKit
set_option linter.unusedVariables false
set_option linter.unusedSimpArgs false
namespace PackW
open BytesW RunsW

set_option maxRecDepth 100000 in
theorem law_refused {w : World} {A : Option Addr} {l : List Pt} {c : Nat} {at_ many due X2 X3 X4 X5 : Int} (hT : KindW.Tab w) (hl : l.length ≤ 9223372036854775807) (hA : PartC w A l ∧ ∀ q ∈ l, PtOk q)
    (a1 : -9223372036854775808 ≤ at_) (a2 : at_ ≤ 9223372036854775807) (m1 : -9223372036854775808 ≤ many) (m2 : many ≤ 9223372036854775807) (x1 : 0 ≤ X2) (x2 : X2 ≤ 255) (y1 : 0 ≤ X3) (y2 : X3 ≤ 255) (z1 : 0 ≤ X4) (z2 : X4 ≤ 255) (u1 : 0 ≤ X5) (u2 : X5 ≤ 255) (d1 : -9223372036854775808 ≤ due) (d2 : due ≤ 9223372036854775807) :
    Calls Tryd.prog 9 #[.slice A l.length c, .agg #[.int .i64 at_, .int .i64 many, .int .u8 X2, .int .u8 X3, .int .u8 X4, .int .u8 X5], .int .i64 due] w fun e w' => e = .returned (.bool true) ∧ Below w.heap.size w w' := by
  obtain ⟨c1, rfl⟩ := u8_of x1 x2
  obtain ⟨c2, rfl⟩ := u8_of y1 y2
  obtain ⟨l1, rfl⟩ := u8_of z1 z2
  obtain ⟨l2, rfl⟩ := u8_of u1 u2
  rcases hcan : can ⟨(madeP 300 l).1, (madeP 300 l).2, []⟩ with _ | _
  · exact refused_none hT hl hA ⟨a1, a2⟩ ⟨m1, m2⟩ ⟨d1, d2⟩ hcan
  rcases g1 : mayC (c1, c2) with _ | _
  · exact refused_may hT hl hA ⟨a1, a2⟩ ⟨m1, m2⟩ ⟨d1, d2⟩ hcan g1
  by_cases g2 : l1.toNat ≤ 15
  case neg => exact refused_sky hT hl hA ⟨a1, a2⟩ ⟨m1, m2⟩ ⟨d1, d2⟩ hcan g1 g2
  by_cases g3 : l2.toNat ≤ 15
  case neg => exact refused_lamp hT hl hA ⟨a1, a2⟩ ⟨m1, m2⟩ ⟨d1, d2⟩ hcan g1 g2 g3
  by_cases g4 : 1 ≤ due
  case neg => exact refused_low hT hl hA ⟨a1, a2⟩ ⟨m1, m2⟩ ⟨d1, d2⟩ hcan g1 g2 g3 g4
  by_cases g5 : due ≤ 2199023255552
  case neg => exact refused_high hT hl hA ⟨a1, a2⟩ ⟨m1, m2⟩ ⟨d1, d2⟩ hcan g1 g2 g3 g4 g5
  exact refused_fine hT hl hA ⟨a1, a2⟩ ⟨m1, m2⟩ ⟨d1, d2⟩ hcan g1 g2 g3 g4 g5
end PackW
end Go.Proofs.YtjllgdlmeoakpaaDoor
