/-
  The walks of package bytes, its first part, continued: whole numbers, texts, numbers of a width.
-/
import Derived.Test.YtjmdjdkpcmekmaaBytesPuts
namespace Go.Proofs.Ytjmdjdkpcmekmaa
open Go.RowKit
open Go.Lib (uvarint uvarint_small uvarint_big uvarint_length64 uvarint_pos zigzag)
set_option linter.unusedVariables false
set_option linter.unusedSimpArgs false
namespace BytesW

theorem put_x {w : World} {A : Option Addr} {l : List UInt8} {c n : Nat} {x : Int} (hA : At w A l) (hl : l.length ≤ 900000) (hn : n < 18446744073709551616) (hx : x = n) :
    Calls Try.prog 18 #[.slice A l.length c, .int .u64 x] w (Gives w (l ++ uvarint n)) := hx ▸ put_c hA hl hn

theorem xor_i64 (a b : Int) : IntKind.u64.wrap (bits .xor .i64 a b) = (((a % 18446744073709551616).toNat ^^^ (b % 18446744073709551616).toNat : Nat) : Int) := by
  show IntKind.u64.wrap (IntKind.i64.wrap ((BitVec.ofInt 64 a ^^^ BitVec.ofInt 64 b).toNat : Int)) = _
  have h := Nat.xor_lt_two_pow (n := 64) (x := (a % 18446744073709551616).toNat) (y := (b % 18446744073709551616).toNat) (by omega) (by omega)
  rw [BitVec.toNat_xor, BitVec.toNat_ofInt, BitVec.toNat_ofInt, IntKind.wrap_u64, IntKind.wrap_i64]
  have e : ((2 ^ 64 : Nat) : Int) = 18446744073709551616 := by decide
  rw [e]
  omega
theorem zig_bits {n : Int} (h0 : -9223372036854775808 ≤ n) (h1 : n ≤ 9223372036854775807) : IntKind.u64.wrap (bits .xor .i64 (wrap64 (n * 2)) (n / 9223372036854775808)) = (zigzag n : Nat) := by
  rw [xor_i64]
  unfold wrap64 zigzag
  by_cases h : 0 ≤ n
  · rw [show n / 9223372036854775808 = 0 by omega, if_pos h]
    simp
    omega
  · rw [show n / 9223372036854775808 = -1 by omega, if_neg h, Nat.xor_comm, show (-1 % 18446744073709551616 : Int).toNat = 2 ^ 64 - 1 by decide, Lib.xor_ones64 _ (by omega)]
    omega

theorem isWidth_c {k : Int} {b : Bool} (h : decide (1 ≤ k ∧ k ≤ 8) = b) (w : World) :
    Calls Try.prog 35 #[.int .i64 k] w fun e w' => e = .returned (.bool b) ∧ w = w' := by
  by_cases h1 : 1 ≤ k
  · by_cases h2 : k ≤ 8
    · obtain rfl : b = true := by rw [← h]; simp [h1, h2]
      clear h
      go_enter Try.func35, Try.ntmps35
      go_wp2_with fail
      go_ret
      exact ⟨rfl, rfl⟩
    · obtain rfl : b = false := by rw [← h]; simp [h1, h2]
      clear h
      go_enter Try.func35, Try.ntmps35
      go_wp2_with fail
      go_ret
      exact ⟨rfl, rfl⟩
  · obtain rfl : b = false := by rw [← h]; simp [h1]
    clear h
    go_enter Try.func35, Try.ntmps35
    go_wp2_with fail
    go_ret
    exact ⟨rfl, rfl⟩

def fxI (n : Nat) (k : Int) : List UInt8 := if 1 ≤ k ∧ k ≤ 8 then fx n k.toNat else []
def FixRel (w : World) (l : List UInt8) (n k : Nat) (m v i : Value) (wr : World) : Prop :=
  ∃ (j : Nat) (x : Int), m = .int .u64 x ∧ x = ((n / 256 ^ j : Nat) : Int) ∧ i = .int .i64 j ∧ j ≤ k ∧ Own wr w.heap.size v (l ++ fx n j) ∧ Below w.heap.size w wr
end BytesW
end Go.Proofs.Ytjmdjdkpcmekmaa
