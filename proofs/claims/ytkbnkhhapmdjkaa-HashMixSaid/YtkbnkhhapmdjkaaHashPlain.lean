/-
  Plain facts on the mixing of numbers: unlike numbers are mixed to unlike ones; examples.
-/
import Derived.Test.YtkbnkhhapmdjkaaHashWalks2
import Derived.Laws.BitsAllLaws
namespace Go.Proofs.Ytkbnkhhapmdjkaa
open Go.RowKit
namespace HashW

theorem ofI_toNat (n : Int) : ((BitVec.ofInt 64 n).toNat : Int) = n % 18446744073709551616 := by
  rw [BitVec.toNat_ofInt]
  omega
/-- In words of 64 bits. -/
def bX (k : Nat) (x : BitVec 64) : BitVec 64 := x ^^^ (x >>> k)
theorem shift_zero (k : Nat) (h : 22 ≤ k) (d : BitVec 64) (e : d = d >>> k) : d = 0 := by
  have e2 : d = d >>> (k + k + k) := by
    rw [BitVec.shiftRight_add, BitVec.shiftRight_add, ← e, ← e]
    exact e
  rw [e2]
  apply BitVec.eq_of_toNat_eq
  rw [BitVec.toNat_ushiftRight, Nat.shiftRight_eq_div_pow]
  show _ = 0
  apply Nat.div_eq_of_lt
  have : 2 ^ 64 ≤ 2 ^ (k + k + k) := Nat.pow_le_pow_right (by omega) (by omega)
  have := d.isLt
  omega
theorem bX_inj {k : Nat} (h : 22 ≤ k) {x y : BitVec 64} (e : bX k x = bX k y) : x = y := by
  unfold bX at e
  have d : x ^^^ y = (x ^^^ y) >>> k := by
    apply BitVec.eq_of_getLsbD_eq
    intro i hi
    have e' := congrArg (fun z => BitVec.getLsbD z i) e
    simp only [BitVec.getLsbD_xor, BitVec.getLsbD_ushiftRight] at e' ⊢
    generalize x.getLsbD i = a at *
    generalize y.getLsbD i = b at *
    generalize x.getLsbD (k + i) = c at *
    generalize y.getLsbD (k + i) = d at *
    revert e'
    cases a <;> cases b <;> cases c <;> cases d <;> simp
  have z := shift_zero k h _ d
  apply BitVec.eq_of_getLsbD_eq
  intro i hi
  have z' := congrArg (fun w => BitVec.getLsbD w i) z
  simp only [BitVec.getLsbD_xor] at z'
  generalize x.getLsbD i = a at *
  generalize y.getLsbD i = b at *
  revert z'
  cases a <;> cases b <;> simp
theorem mul_inj {m n x y : BitVec 64} (h : m * n = 1) (e : x * m = y * m) : x = y := by
  have : x * m * n = y * m * n := by rw [e]
  rw [BitVec.mul_assoc, BitVec.mul_assoc, h] at this
  simpa using this
theorem add_inj {m x y : BitVec 64} (e : x + m = y + m) : x = y := by
  have : x + m - m = y + m - m := by rw [e]
  rwa [BitVec.add_sub_cancel, BitVec.add_sub_cancel] at this
def bMix (x : BitVec 64) : BitVec 64 := bX 31 (bX 27 (bX 30 (x + 0x9e3779b97f4a7c15) * 0xbf58476d1ce4e5b9) * 0x94d049bb133111eb)
theorem bMix_inj {x y : BitVec 64} (e : bMix x = bMix y) : x = y := by
  unfold bMix at e
  have e1 := bX_inj (by omega) e
  have e2 := mul_inj (n := 0x319642b2d24d8ec3) (by decide) e1
  have e3 := bX_inj (by omega) e2
  have e4 := mul_inj (n := 0x96de1b173f119089) (by decide) e3
  exact add_inj (bX_inj (by omega) e4)

/-- The mixing of a word. -/
theorem mixA_b (x : Int) : mixA x = ((BitVec.ofInt 64 x + 0x9e3779b97f4a7c15).toNat : Int) := by
  unfold mixA
  have e : (0x9e3779b97f4a7c15 : BitVec 64).toNat = 11400714819323198485 := by decide +kernel
  rw [IntKind.wrap_u64, BitVec.toNat_add, e]
  have := ofI_toNat x
  generalize (BitVec.ofInt 64 x).toNat = n at *
  omega
theorem mixM_b (m : Nat) (b : BitVec 64) : mixM m (b.toNat : Int) = ((b * BitVec.ofNat 64 m).toNat : Int) := by
  unfold mixM
  rw [IntKind.wrap_u64, BitVec.toNat_mul, BitVec.toNat_ofNat, Nat.mul_mod, Nat.mod_mod, ← Nat.mul_mod]
  omega
theorem mixX_b (k : Nat) (b : BitVec 64) : mixX ((2 ^ k : Nat) : Int) (b.toNat : Int) = ((bX k b).toNat : Int) := by
  unfold mixX bX
  have hb := b.isLt
  have e : (b.toNat : Int) / ((2 ^ k : Nat) : Int) = ((b.toNat / 2 ^ k : Nat) : Int) := rfl
  rw [e, u64_xor_nat _ _ (by omega) (by have := Nat.div_le_self b.toNat (2 ^ k); omega), BitVec.toNat_xor, BitVec.toNat_ushiftRight, Nat.shiftRight_eq_div_pow]
theorem mixI_b (x : Int) : mixI x = ((bMix (BitVec.ofInt 64 x)).toNat : Int) := by
  unfold mixI
  rw [mixA_b]
  rw [show (1073741824 : Int) = ((2 ^ 30 : Nat) : Int) from rfl, mixX_b]
  rw [show (13787848793156543929 : Int) = ((13787848793156543929 : Nat) : Int) from rfl, mixM_b]
  rw [show (134217728 : Int) = ((2 ^ 27 : Nat) : Int) from rfl, mixX_b]
  rw [show (10723151780598845931 : Int) = ((10723151780598845931 : Nat) : Int) from rfl, mixM_b]
  rw [show (2147483648 : Int) = ((2 ^ 31 : Nat) : Int) from rfl, mixX_b]
  rfl
theorem ofInt_inj {x y : Int} (e : BitVec.ofInt 64 x = BitVec.ofInt 64 y) : x % 18446744073709551616 = y % 18446744073709551616 := by
  rw [← ofI_toNat, ← ofI_toNat, e]
/-- Unlike numbers are mixed to unlike ones. -/
theorem mixI_inj {x y : Int} (hx : 0 ≤ x ∧ x < 18446744073709551616) (hy : 0 ≤ y ∧ y < 18446744073709551616) (e : mixI x = mixI y) : x = y := by
  rw [mixI_b, mixI_b] at e
  have e1 : bMix (BitVec.ofInt 64 x) = bMix (BitVec.ofInt 64 y) := BitVec.eq_of_toNat_eq (by omega)
  have e2 := ofInt_inj (bMix_inj e1)
  omega
theorem xorI_in (a b : Int) : 0 ≤ xorI a b ∧ xorI a b < 18446744073709551616 := wrap_in _
theorem u64_in (a : Int) : 0 ≤ u64 a ∧ u64 a < 18446744073709551616 := wrap_in _
theorem xorI_b (a b : Int) : xorI a b = ((BitVec.ofInt 64 a ^^^ BitVec.ofInt 64 b).toNat : Int) := by
  have := (BitVec.ofInt 64 a ^^^ BitVec.ofInt 64 b).isLt
  show IntKind.u64.wrap (((BitVec.ofInt 64 a ^^^ BitVec.ofInt 64 b).toNat : Nat) : Int) = _
  rw [IntKind.wrap_u64]
  omega
theorem xor_b_inj {a b c : BitVec 64} (e : a ^^^ b = a ^^^ c) : b = c := by
  apply BitVec.eq_of_getLsbD_eq
  intro i hi
  have z' := congrArg (fun w => BitVec.getLsbD w i) e
  simp only [BitVec.getLsbD_xor] at z'
  generalize a.getLsbD i = a at *
  generalize b.getLsbD i = b at *
  generalize c.getLsbD i = c at *
  revert z'
  cases a <;> cases b <;> cases c <;> simp
theorem xorI_inj_right {a b c : Int} (hb : 0 ≤ b ∧ b < 18446744073709551616) (hc : 0 ≤ c ∧ c < 18446744073709551616) (e : xorI a b = xorI a c) : b = c := by
  rw [xorI_b, xorI_b] at e
  have e1 := ofInt_inj (xor_b_inj (BitVec.eq_of_toNat_eq (Int.ofNat.inj e)))
  omega
theorem xorI_comm (a b : Int) : xorI a b = xorI b a := by rw [xorI_b, xorI_b, BitVec.xor_comm]
theorem xorI_inj_left {a b c : Int} (hb : 0 ≤ b ∧ b < 18446744073709551616) (hc : 0 ≤ c ∧ c < 18446744073709551616) (e : xorI b a = xorI c a) : b = c := by
  rw [xorI_comm b, xorI_comm c] at e
  exact xorI_inj_right hb hc e
theorem u64_inj {x y : Int} (hx : -9223372036854775808 ≤ x ∧ x ≤ 9223372036854775807) (hy : -9223372036854775808 ≤ y ∧ y ≤ 9223372036854775807) (e : u64 x = u64 y) : x = y := by
  unfold u64 at e
  rw [IntKind.wrap_u64, IntKind.wrap_u64] at e
  omega
/-- One step of a draw: told by what stands ahead, and by the number. -/
theorem step_left {a b n : Int} (ha : 0 ≤ a ∧ a < 18446744073709551616) (hb : 0 ≤ b ∧ b < 18446744073709551616) (e : mixI (xorI a n) = mixI (xorI b n)) : a = b :=
  xorI_inj_left ha hb (mixI_inj (xorI_in _ _) (xorI_in _ _) e)
theorem step_right {a m n : Int} (hm : 0 ≤ m ∧ m < 18446744073709551616) (hn : 0 ≤ n ∧ n < 18446744073709551616) (e : mixI (xorI a m) = mixI (xorI a n)) : m = n :=
  xorI_inj_right hm hn (mixI_inj (xorI_in _ _) (xorI_in _ _) e)

theorem awake1 : mixI 0 = 16294208416658607535 := by decide +kernel
theorem awake2 : belowI 9223372036854775808 10 = 5 := by decide +kernel
end HashW
end Go.Proofs.Ytkbnkhhapmdjkaa
