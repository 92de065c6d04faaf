/-
  A state of 32 bits as a number: the program's operations on such numbers are those of CrcPlain.
-/
import Derived.Test.YtbnkaeigabifhaaDoorCrcPlain
import Derived.Test.YtbnkaeigabifhaaDoorBitsP
namespace Go.Proofs.YtbnkaeigabifhaaDoor
open Go.RowKit
set_option linter.unusedVariables false
set_option linter.unusedSimpArgs false
namespace CrcP
/-- As a number. -/
def nat (s : BitVec 32) : Int := (s.toNat : Int)
theorem nat_lt (s : BitVec 32) : 0 ≤ nat s ∧ nat s < 4294967296 := by
  unfold nat
  have := s.isLt
  omega
theorem wrapU32 {n : Int} (h : 0 ≤ n) (h' : n < 4294967296) : IntKind.u32.wrap n = n := by
  rw [IntKind.wrap_u32]
  omega
theorem ofInt_nat32 (s : BitVec 32) : (BitVec.ofInt 32 (nat s)) = s := by
  unfold nat
  rw [BitVec.ofInt_natCast]
  simp
theorem xor_nat (a b : BitVec 32) : bits .xor .u32 (nat a) (nat b) = nat (a ^^^ b) := by
  have ha := a.isLt
  have hb := b.isLt
  have hx := (a ^^^ b).isLt
  show IntKind.u32.wrap (((BitVec.ofInt 32 (nat a) ^^^ BitVec.ofInt 32 (nat b)).toNat : Nat) : Int) = _
  rw [ofInt_nat32, ofInt_nat32]
  exact wrapU32 (by omega) (by omega)
theorem and_nat (a b : BitVec 32) : bits .and .u32 (nat a) (nat b) = nat (a &&& b) := by
  have hx := (a &&& b).isLt
  show IntKind.u32.wrap (((BitVec.ofInt 32 (nat a) &&& BitVec.ofInt 32 (nat b)).toNat : Nat) : Int) = _
  rw [ofInt_nat32, ofInt_nat32]
  exact wrapU32 (by omega) (by omega)
theorem half_nat (a : BitVec 32) : nat a / (2 : Int) = nat (a >>> 1) := by
  unfold nat
  rw [BitVec.toNat_ushiftRight, Nat.shiftRight_eq_div_pow]
  rfl
theorem half4_nat (a : BitVec 32) : nat a / (16 : Int) = nat (a >>> 4) := by
  unfold nat
  rw [BitVec.toNat_ushiftRight, Nat.shiftRight_eq_div_pow]
  rfl
theorem odd_nat (a : BitVec 32) : nat a % (2 : Int) = if a.getLsbD 0 then 1 else 0 := by
  unfold nat
  have h : a.getLsbD 0 = a.toNat.testBit 0 := rfl
  rw [h, Nat.testBit_zero]
  split
  · rename_i q
    have : a.toNat % 2 = 1 := by simpa using q
    omega
  · rename_i q
    have : ¬ a.toNat % 2 = 1 := by simpa using q
    omega
theorem low_nat (a : BitVec 32) : nat a % (16 : Int) = nat (a &&& 15#32) := by
  unfold nat
  rw [BitVec.toNat_and, show (15#32 : BitVec 32).toNat = 2 ^ 4 - 1 from rfl, Nat.and_two_pow_sub_one_eq_mod]
  rfl
theorem flip_nat (a : BitVec 32) : 4294967295 - nat a = nat (a ^^^ F) := by
  have := a.isLt
  unfold nat
  rw [not_F]
  omega
theorem byte_nat (b : UInt8) : nat (b.toBitVec.setWidth 32) = (b.toNat : Int) := by
  unfold nat
  rw [BitVec.toNat_setWidth]
  have := b.toNat_lt
  rw [show b.toBitVec.toNat = b.toNat from rfl, Nat.mod_eq_of_lt (by omega)]
theorem nat_inj {a b : BitVec 32} (h : nat a = nat b) : a = b := by
  unfold nat at h
  exact BitVec.eq_of_toNat_eq (by omega)
theorem of_nat {x : Int} (h : 0 ≤ x) (h' : x < 4294967296) : ∃ s : BitVec 32, x = nat s := by
  obtain ⟨n, rfl⟩ := Int.eq_ofNat_of_zero_le h
  refine ⟨BitVec.ofNat 32 n, ?_⟩
  unfold nat
  rw [BitVec.toNat_ofNat, Nat.mod_eq_of_lt (by omega)]
end CrcP
end Go.Proofs.YtbnkaeigabifhaaDoor
