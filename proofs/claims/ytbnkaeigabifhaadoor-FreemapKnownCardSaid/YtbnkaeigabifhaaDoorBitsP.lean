/-
  Plain facts on bits of int: a mask of ones is a remainder; or of parts that don't meet is a sum.
-/
import Derived.Test.YtbnkaeigabifhaaDoorRows
import Derived.WalkKit
import Derived.Laws.BitsAllLaws
import Derived.Laws.BitsLemmas
namespace Go.Proofs.YtbnkaeigabifhaaDoor
open Go.RowKit
namespace BitsP

theorem ofInt_toNat (n : Int) : ((BitVec.ofInt 64 n).toNat : Int) = n % 18446744073709551616 := by
  rw [BitVec.toNat_ofInt]
  omega
theorem ofInt_nat (n : Nat) (h : n < 18446744073709551616) : (BitVec.ofInt 64 (n : Int)).toNat = n := by
  rw [BitVec.ofInt_natCast, BitVec.toNat_ofNat]
  exact Nat.mod_eq_of_lt (by omega)
theorem wrapI_small {n : Int} (h : -9223372036854775808 ≤ n) (h' : n ≤ 9223372036854775807) : IntKind.i64.wrap n = n := by
  rw [IntKind.wrap_i64]
  omega
/-- And with a row of k ones is the remainder. -/
theorem and_mask (n : Int) (k : Nat) (hk : k < 63) : bits .and .i64 n (((2 ^ k - 1 : Nat)) : Int) = n % ((2 ^ k : Nat) : Int) := by
  have hp : 2 ^ k ≤ 2 ^ 62 := Nat.pow_le_pow_right (by omega) (by omega)
  have hp1 : 0 < 2 ^ k := Nat.two_pow_pos k
  show IntKind.i64.wrap ((BitVec.ofInt 64 n &&& BitVec.ofInt 64 (((2 ^ k - 1 : Nat)) : Int)).toNat : Int) = _
  rw [BitVec.toNat_and, ofInt_nat _ (by omega), Nat.and_two_pow_sub_one_eq_mod, Int.natCast_emod, ofInt_toNat]
  have hd : ((2 ^ k : Nat) : Int) ∣ 18446744073709551616 := ⟨((2 ^ (64 - k) : Nat) : Int), by
    rw [← Int.natCast_mul, ← Nat.pow_add, show k + (64 - k) = 64 by omega]
    rfl⟩
  rw [Int.emod_emod_of_dvd n hd]
  have h0 := Int.emod_nonneg n (b := ((2 ^ k : Nat) : Int)) (by omega)
  have h1 := Int.emod_lt_of_pos n (b := ((2 ^ k : Nat) : Int)) (by omega)
  exact wrapI_small (by omega) (by omega)
theorem and_15 (n : Int) : bits .and .i64 n 15 = n % 16 := and_mask n 4 (by omega)

/-- Or of a multiple of 2^k and a number below is their sum. -/
theorem or_low (k : Nat) {a b : Int} (hk : k < 63) (ha : a % ((2 ^ k : Nat) : Int) = 0) (h0 : 0 ≤ b) (h1 : b < ((2 ^ k : Nat) : Int)) (hl : -9223372036854775808 ≤ a) (hu : a + b ≤ 9223372036854775807) :
    bits .or .i64 a b = a + b := by
  have hp : 2 ^ k ≤ 2 ^ 62 := Nat.pow_le_pow_right (by omega) (by omega)
  have hp1 : 0 < 2 ^ k := Nat.two_pow_pos k
  obtain ⟨m, rfl⟩ := Int.eq_ofNat_of_zero_le h0
  show IntKind.i64.wrap ((BitVec.ofInt 64 a ||| BitVec.ofInt 64 (m : Int)).toNat : Int) = _
  rw [BitVec.toNat_or, ofInt_nat _ (by omega)]
  have hd : ((2 ^ k : Nat) : Int) ∣ 18446744073709551616 := ⟨((2 ^ (64 - k) : Nat) : Int), by
    rw [← Int.natCast_mul, ← Nat.pow_add, show k + (64 - k) = 64 by omega]
    rfl⟩
  have hv := ofInt_toNat a
  have hdiv : 2 ^ k ∣ (BitVec.ofInt 64 a).toNat := by
    rw [← Int.natCast_dvd_natCast, hv]
    exact Int.dvd_of_emod_eq_zero (by rw [Int.emod_emod_of_dvd a hd]; exact ha)
  obtain ⟨q, hq⟩ := hdiv
  rw [hq, ← Nat.two_pow_add_eq_or_of_lt (by omega)]
  rw [hq] at hv
  rw [IntKind.wrap_i64]
  generalize 2 ^ k * q = z at *
  omega
theorem or_16 {a b : Int} (ha : a % 16 = 0) (h0 : 0 ≤ b) (h1 : b < 16) (hl : -9223372036854775808 ≤ a) (hu : a + b ≤ 9223372036854775807) : bits .or .i64 a b = a + b :=
  or_low 4 (by omega) ha h0 h1 hl hu
theorem or_256 {a b : Int} (ha : a % 256 = 0) (h0 : 0 ≤ b) (h1 : b < 256) (hl : -9223372036854775808 ≤ a) (hu : a + b ≤ 9223372036854775807) : bits .or .i64 a b = a + b :=
  or_low 8 (by omega) ha h0 h1 hl hu
theorem wrap64_small {n : Int} (h : -9223372036854775808 ≤ n) (h' : n ≤ 9223372036854775807) : wrap64 n = n := IntWalk.wrap64_in n ⟨h, h'⟩
end BitsP
end Go.Proofs.YtbnkaeigabifhaaDoor
