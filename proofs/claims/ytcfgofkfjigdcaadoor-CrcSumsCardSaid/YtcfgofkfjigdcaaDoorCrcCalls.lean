/-
  What the laws of layer 19 call: Sum, More, Text, the reference's, and what is known to be awake.
-/
import Derived.Test.YtcfgofkfjigdcaaDoorCrcRef
namespace Go.Proofs.YtcfgofkfjigdcaaDoor
open Go.RowKit
set_option linter.unusedVariables false
set_option linter.unusedSimpArgs false
namespace CrcW
open BytesW CrcP CrcM
theorem nat0 : (0 : Int) = nat 0#32 := by decide
section
variable {w : World} {A : Option Addr} {L : List UInt8} {n c : Nat}
theorem Sum_c (hT : Tab w) (hn : L.length = n) (hc : n ≤ c ∧ c ≤ 9223372036854775807) (hA : AtC w A L) :
    Calls Tryd.prog 8 #[.slice A n c] w fun e w' => e = .returned (.int .u32 (nat (CrcP.sum L))) ∧ w' = w := by
  go_enter Tryd.func8, Tryd.ntmps8
  go_wp2_with fail
  go_at_call 15
  refine (moreB_c hT hn hc hA nat0).mono ?_
  rintro e w1 ⟨rfl, rfl⟩
  go_wp2_with fail
  go_ret
  exact ⟨rfl, rfl⟩
theorem More_c (hT : Tab w) (hn : L.length = n) (hc : n ≤ c ∧ c ≤ 9223372036854775807) (hA : AtC w A L) {s : BitVec 32} {x : Int} (hx : x = nat s) :
    Calls Tryd.prog 10 #[.int .u32 x, .slice A n c] w fun e w' => e = .returned (.int .u32 (nat (more s L))) ∧ w' = w := by
  have HX := Lib.hid hx
  clear hx
  go_enter Tryd.func10, Tryd.ntmps10
  go_wp2_with fail
  go_at_call 15
  refine (moreB_c hT hn hc hA HX.out).mono ?_
  rintro e w1 ⟨rfl, rfl⟩
  go_wp2_with fail
  go_ret
  exact ⟨rfl, rfl⟩
theorem Text_c (hT : Tab w) (hl : L.length ≤ 9223372036854775807) :
    Calls Tryd.prog 12 #[.string ⟨L.toArray⟩] w fun e w' => e = .returned (.int .u32 (nat (CrcP.sum L))) ∧ w' = w := by
  go_enter Tryd.func12, Tryd.ntmps12
  go_wp2_with fail
  go_at_call 16
  refine (moreS_c hT hl nat0).mono ?_
  rintro e w1 ⟨rfl, rfl⟩
  go_wp2_with fail
  go_ret
  exact ⟨rfl, rfl⟩
theorem rSum_c (hn : L.length = n) (hc : n ≤ c ∧ c ≤ 9223372036854775807) (hA : AtC w A L) :
    Calls Tryd.prog 9 #[.slice A n c] w fun e w' => e = .returned (.int .u32 (nat (CrcP.sum L))) ∧ w' = w := by
  go_enter Tryd.func9, Tryd.ntmps9
  go_wp2_with fail
  go_at_call 11
  refine (rMore_c hn hc hA nat0).mono ?_
  rintro e w1 ⟨rfl, rfl⟩
  go_wp2_with fail
  go_ret
  exact ⟨rfl, rfl⟩
theorem known1 : nat (CrcP.sum [49, 50, 51, 52, 53, 54, 55, 56, 57]) = 3808858755 := by decide +kernel
theorem known0 : nat (CrcP.sum []) = 0 := by decide +kernel
theorem awake_c (hT : Tab w) : Calls Tryd.prog 13 #[] w fun e w' => e = .returned (.bool true) ∧ w' = w := by
  have K1 := Lib.hid known1
  have K0 := Lib.hid known0
  go_enter Tryd.func13, Tryd.ntmps13
  go_wp2_with fail
  go_at_call 12
  refine (Text_c hT (L := [49, 50, 51, 52, 53, 54, 55, 56, 57]) (by simp)).mono ?_
  rintro e w1 ⟨rfl, rfl⟩
  rw [K1.out]
  go_wp2_with fail
  go_at_call 8
  refine (Sum_c hT (L := []) (n := 0) rfl (by omega) AtC.nil).mono ?_
  rintro e w1 ⟨rfl, rfl⟩
  rw [K0.out]
  go_wp2_with fail
  go_ret
  exact ⟨rfl, rfl⟩
end
end CrcW
end Go.Proofs.YtcfgofkfjigdcaaDoor
