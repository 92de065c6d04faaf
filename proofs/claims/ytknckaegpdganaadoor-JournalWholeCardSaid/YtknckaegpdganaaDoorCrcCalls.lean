/-
  What the laws of layer 19 call: Sum, More, Text, the reference's, and what is known to be awake.
-/
import Derived.Test.YtknckaegpdganaaDoorCrcRef
namespace Go.Proofs.YtknckaegpdganaaDoor
open Go.RowKit
set_option linter.unusedVariables false
set_option linter.unusedSimpArgs false
namespace CrcW
open BytesW CrcP CrcM
theorem nat0 : (0 : Int) = nat 0#32 := by decide
section
variable {w : World} {A : Option Addr} {L : List UInt8} {n c : Nat}
theorem Sum_c (hT : Tab w) (hn : L.length = n) (hc : n ≤ c ∧ c ≤ 9223372036854775807) (hA : AtC w A L) :
    Calls Tryd.prog 67 #[.slice A n c] w fun e w' => e = .returned (.int .u32 (nat (CrcP.sum L))) ∧ w' = w := by
  go_enter Tryd.func67, Tryd.ntmps67
  go_wp2_with fail
  go_at_call 92
  refine (moreB_c hT hn hc hA nat0).mono ?_
  rintro e w1 ⟨rfl, rfl⟩
  go_wp2_with fail
  go_ret
  exact ⟨rfl, rfl⟩
theorem More_c (hT : Tab w) (hn : L.length = n) (hc : n ≤ c ∧ c ≤ 9223372036854775807) (hA : AtC w A L) {s : BitVec 32} {x : Int} (hx : x = nat s) :
    Calls Tryd.prog 90 #[.int .u32 x, .slice A n c] w fun e w' => e = .returned (.int .u32 (nat (more s L))) ∧ w' = w := by
  have HX := Lib.hid hx
  clear hx
  go_enter Tryd.func90, Tryd.ntmps90
  go_wp2_with fail
  go_at_call 92
  refine (moreB_c hT hn hc hA HX.out).mono ?_
  rintro e w1 ⟨rfl, rfl⟩
  go_wp2_with fail
  go_ret
  exact ⟨rfl, rfl⟩
theorem Text_c (hT : Tab w) (hl : L.length ≤ 9223372036854775807) :
    Calls Tryd.prog 91 #[.string ⟨L.toArray⟩] w fun e w' => e = .returned (.int .u32 (nat (CrcP.sum L))) ∧ w' = w := by
  go_enter Tryd.func91, Tryd.ntmps91
  go_wp2_with fail
  go_at_call 105
  refine (moreS_c hT hl nat0).mono ?_
  rintro e w1 ⟨rfl, rfl⟩
  go_wp2_with fail
  go_ret
  exact ⟨rfl, rfl⟩
theorem known1 : nat (CrcP.sum [49, 50, 51, 52, 53, 54, 55, 56, 57]) = 3808858755 := by decide +kernel
theorem known0 : nat (CrcP.sum []) = 0 := by decide +kernel
end
end CrcW
end Go.Proofs.YtknckaegpdganaaDoor
