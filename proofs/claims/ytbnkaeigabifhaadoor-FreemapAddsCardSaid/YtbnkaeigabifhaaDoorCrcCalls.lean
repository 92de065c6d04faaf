/-
  What the laws of layer 19 call: Sum, More, Text, the reference's, and what is known to be awake.
-/
import Derived.Test.YtbnkaeigabifhaaDoorCrcRef
namespace Go.Proofs.YtbnkaeigabifhaaDoor
open Go.RowKit
set_option linter.unusedVariables false
set_option linter.unusedSimpArgs false
namespace CrcW
open BytesW CrcP CrcM
theorem nat0 : (0 : Int) = nat 0#32 := by decide
section
variable {w : World} {A : Option Addr} {L : List UInt8} {n c : Nat}
theorem Sum_c (hT : Tab w) (hn : L.length = n) (hc : n ≤ c ∧ c ≤ 9223372036854775807) (hA : AtC w A L) :
    Calls Tryd.prog 51 #[.slice A n c] w fun e w' => e = .returned (.int .u32 (nat (CrcP.sum L))) ∧ w' = w := by
  go_enter Tryd.func51, Tryd.ntmps51
  go_wp2_with fail
  go_at_call 61
  refine (moreB_c hT hn hc hA nat0).mono ?_
  rintro e w1 ⟨rfl, rfl⟩
  go_wp2_with fail
  go_ret
  exact ⟨rfl, rfl⟩
theorem rSum_c (hn : L.length = n) (hc : n ≤ c ∧ c ≤ 9223372036854775807) (hA : AtC w A L) :
    Calls Tryd.prog 63 #[.slice A n c] w fun e w' => e = .returned (.int .u32 (nat (CrcP.sum L))) ∧ w' = w := by
  go_enter Tryd.func63, Tryd.ntmps63
  go_wp2_with fail
  go_at_call 66
  refine (rMore_c hn hc hA nat0).mono ?_
  rintro e w1 ⟨rfl, rfl⟩
  go_wp2_with fail
  go_ret
  exact ⟨rfl, rfl⟩
theorem known1 : nat (CrcP.sum [49, 50, 51, 52, 53, 54, 55, 56, 57]) = 3808858755 := by decide +kernel
theorem known0 : nat (CrcP.sum []) = 0 := by decide +kernel
end
end CrcW
end Go.Proofs.YtbnkaeigabifhaaDoor
