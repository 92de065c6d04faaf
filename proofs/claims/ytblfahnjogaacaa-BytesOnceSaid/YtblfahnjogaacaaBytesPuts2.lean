/-
  The walks of package bytes, its first part, continued: whole numbers, texts, numbers of a width.
-/
import Derived.Test.YtblfahnjogaacaaBytesPuts
namespace Go.Proofs.Ytblfahnjogaacaa
open Go.RowKit
open Go.Lib (uvarint uvarint_small uvarint_big uvarint_length64 uvarint_pos zigzag)
set_option linter.unusedVariables false
set_option linter.unusedSimpArgs false
namespace BytesW

theorem put_x {w : World} {A : Option Addr} {l : List UInt8} {c n : Nat} {x : Int} (hA : At w A l) (hl : l.length ≤ 900000) (hn : n < 18446744073709551616) (hx : x = n) :
    Calls Try.prog 11 #[.slice A l.length c, .int .u64 x] w (Gives w (l ++ uvarint n)) := hx ▸ put_c hA hl hn

theorem xor_i64 (a b : Int) : IntKind.u64.wrap (bits .xor .i64 a b) = (((a % 18446744073709551616).toNat ^^^ (b % 18446744073709551616).toNat : Nat) : Int) := by
  show IntKind.u64.wrap (IntKind.i64.wrap ((BitVec.ofInt 64 a ^^^ BitVec.ofInt 64 b).toNat : Int)) = _
  have h := Nat.xor_lt_two_pow (n := 64) (x := (a % 18446744073709551616).toNat) (y := (b % 18446744073709551616).toNat) (by omega) (by omega)
  rw [BitVec.toNat_xor, BitVec.toNat_ofInt, BitVec.toNat_ofInt, IntKind.wrap_u64, IntKind.wrap_i64]
  have e : ((2 ^ 64 : Nat) : Int) = 18446744073709551616 := by decide
  rw [e]
  omega
theorem zig_bits {n : Int} (h0 : -9223372036854775808 ≤ n) (h1 : n ≤ 9223372036854775807) : IntKind.u64.wrap (bits .xor .i64 (wrap64 (n * 2)) (n / 9223372036854775808)) = (zigzag n : Nat) := by
  rw [xor_i64]
  unfold wrap64 zigzag
  by_cases h : 0 ≤ n
  · rw [show n / 9223372036854775808 = 0 by omega, if_pos h]
    simp
    omega
  · rw [show n / 9223372036854775808 = -1 by omega, if_neg h, Nat.xor_comm, show (-1 % 18446744073709551616 : Int).toNat = 2 ^ 64 - 1 by decide, Lib.xor_ones64 _ (by omega)]
    omega

theorem putInt_c {w : World} {A : Option Addr} {l : List UInt8} {c : Nat} {n : Int} (hA : At w A l) (hl : l.length ≤ 900000) (h0 : -9223372036854775808 ≤ n) (h1 : n ≤ 9223372036854775807) :
    Calls Try.prog 12 #[.slice A l.length c, .int .i64 n] w (Gives w (l ++ uvarint (zigzag n))) := by
  have HZ := Lib.hid (zig_bits h0 h1)
  have HL := Lib.hid (Lib.zigzag_lt h0 h1)
  go_enter Try.func12, Try.ntmps12
  go_wp2_with fail
  go_at_call 11
  refine (put_x hA hl HL.out ?_).mono ?_
  · exact HZ.out
  rintro e w1 ⟨v1, rfl, hown1, hb1⟩
  go_wp2_with fail
  go_ret
  exact ⟨v1, rfl, hown1, hb1⟩

theorem putText_c {w : World} {A : Option Addr} {l s : List UInt8} {c : Nat} (hA : At w A l) (hl : l.length ≤ 900000) (hs : s.length ≤ 900000) :
    Calls Try.prog 13 #[.slice A l.length c, .string ⟨s.toArray⟩] w (Gives w (l ++ uvarint s.length ++ s)) := by
  have es : (⟨s.toArray⟩ : ByteArray).size = s.length := by simp [ByteArray.size]
  have ES := Lib.hid es
  have HL := Lib.hid (uvarint_length64 (x := s.length) (by omega))
  clear es
  go_enter Try.func13, Try.ntmps13
  go_wp2_with fail
  go_at_call 11
  refine (put_x (n := s.length) hA hl (by omega) ?_).mono ?_
  · first | rfl | (simp; done) | (simp [ByteArray.size]; omega)
  rintro e w1 ⟨v1, rfl, hown1, hb1⟩
  have hz := hb1.size
  have hl2 : (l ++ uvarint s.length).length ≤ 900010 := by
    have := HL.out
    simp
    omega
  go_wp2_with (at_builtin; refine wp_append_str rfl (.tmp 9) (.tmp 10) rfl rfl hown1 rfl (by omega) hb1.size ?_; intro v2 w2 hown2 hb2)
  go_ret
  exact ⟨v2, rfl, hown2, hb1.trans hb2⟩

theorem isWidth_c {k : Int} {b : Bool} (h : decide (1 ≤ k ∧ k ≤ 8) = b) (w : World) :
    Calls Try.prog 35 #[.int .i64 k] w fun e w' => e = .returned (.bool b) ∧ w = w' := by
  by_cases h1 : 1 ≤ k
  · by_cases h2 : k ≤ 8
    · obtain rfl : b = true := by rw [← h]; simp [h1, h2]
      clear h
      go_enter Try.func35, Try.ntmps35
      go_wp2_with fail
      go_ret
      exact ⟨rfl, rfl⟩
    · obtain rfl : b = false := by rw [← h]; simp [h1, h2]
      clear h
      go_enter Try.func35, Try.ntmps35
      go_wp2_with fail
      go_ret
      exact ⟨rfl, rfl⟩
  · obtain rfl : b = false := by rw [← h]; simp [h1]
    clear h
    go_enter Try.func35, Try.ntmps35
    go_wp2_with fail
    go_ret
    exact ⟨rfl, rfl⟩

def fxI (n : Nat) (k : Int) : List UInt8 := if 1 ≤ k ∧ k ≤ 8 then fx n k.toNat else []
def FixRel (w : World) (l : List UInt8) (n k : Nat) (m v i : Value) (wr : World) : Prop :=
  ∃ (j : Nat) (x : Int), m = .int .u64 x ∧ x = ((n / 256 ^ j : Nat) : Int) ∧ i = .int .i64 j ∧ j ≤ k ∧ Own wr w.heap.size v (l ++ fx n j) ∧ Below w.heap.size w wr
theorem putFixed_c {w : World} {A : Option Addr} {l : List UInt8} {c n : Nat} {x k : Int} (hA : At w A l) (hl : l.length ≤ 900000) (hn : n < 18446744073709551616) (hx : x = n) :
    Calls Try.prog 14 #[.slice A l.length c, .int .u64 x, .int .i64 k] w (Gives w (l ++ fxI n k)) := by
  have hx0 : 0 ≤ x := by omega
  have hx1 : x < 18446744073709551616 := by omega
  have HX := Lib.hid hx
  have HN := Lib.hid hn
  clear hx hn
  by_cases hk : 1 ≤ k ∧ k ≤ 8
  · have E1 := Lib.hid (show decide (1 ≤ k ∧ k ≤ 8) = true by simpa using hk)
    have HF := Lib.hid (show fxI n k = fx n k.toNat by unfold fxI; rw [if_pos hk])
    obtain ⟨h1, h2⟩ := hk
    obtain ⟨q, rfl⟩ := Int.eq_ofNat_of_zero_le (show 0 ≤ k by omega)
    go_enter Try.func14, Try.ntmps14
    go_wp2_with fail
    go_at_call 34
    refine (copied_c (room := 8) hA (by omega) (by omega)).mono ?_
    rintro e w1 ⟨v1, rfl, hown1, hb1⟩
    have hz1 := hb1.size
    go_wp2_with fail
    go_at_call 35
    refine (isWidth_c E1.out _).mono ?_
    rintro e w' ⟨rfl, rfl⟩
    go_wp2_with fail
    go_loopw [1, 7, 15] (FixRel w l n q) (fun _ _ i _ => q - (intOf i).toNat)
    case atStart => exact ⟨0, x, rfl, by simpa using HX.out, rfl, by omega, by simpa [fx] using hown1, hb1⟩
    case round =>
      obtain ⟨j, y, rfl, hy, rfl, hj, hown, hbw⟩ := hrel
      have hy0 : 0 ≤ y := by rw [hy]; exact Int.natCast_nonneg _
      have hy1 : y < 18446744073709551616 := by
        have h1 := Nat.div_le_self n (256 ^ j)
        have h2 := HN.out
        rw [hy]
        exact Int.ofNat_lt.2 (Nat.lt_of_le_of_lt h1 h2)
      have hll : (l ++ fx n j).length ≤ 900008 := by simp [fx_length]; omega
      have HY := Lib.hid hy
      have hz := hbw.size
      clear hy
      by_cases hjq : j < q
      · obtain ⟨z, hz⟩ : ∃ z : UInt8, z = (n / 256 ^ j % 256).toUInt8 := ⟨_, rfl⟩
        have e1 : y % 256 = z.toNat := by
          rw [hz, fx_byte, HY.out]
          rfl
        have E2 := Lib.hid e1
        have HZ := Lib.hid hz
        clear e1 hz
        go_wp2_with (at_builtin; refine wp_push rfl (.tmp 17) (.tmp 20) rfl wr _ rfl rfl hown z E2.out rfl (by omega) hbw.size ?_; intro v2 w2 hown2 hb2)
        go_roundw
        case rel =>
          refine ⟨j + 1, _, rfl, ?_, by go_num, by omega, ?_, hbw.trans hb2⟩
          · rw [HY.out, Nat.pow_succ, ← Nat.div_div_eq_div_mul]
            rfl
          · rw [HZ.out] at hown2
            simpa [fx, List.append_assoc] using hown2
        case measure => simp [intOf]; omega
      · have : j = q := by omega
        subst this
        go_wp2_with fail
        go_ret
        refine ⟨_, rfl, ?_, hbw⟩
        rw [HF.out]
        simpa using hown
  · have E1 := Lib.hid (show decide (1 ≤ k ∧ k ≤ 8) = false by simpa using hk)
    have HF := Lib.hid (show l ++ fxI n k = l by unfold fxI; rw [if_neg hk]; simp)
    clear hk
    go_enter Try.func14, Try.ntmps14
    go_wp2_with fail
    go_at_call 34
    refine (copied_c (room := 8) hA (by omega) (by omega)).mono ?_
    rintro e w1 ⟨v1, rfl, hown1, hb1⟩
    go_wp2_with fail
    go_at_call 35
    refine (isWidth_c E1.out _).mono ?_
    rintro e w' ⟨rfl, rfl⟩
    go_wp2_with fail
    go_ret
    exact ⟨v1, rfl, by rw [HF.out]; exact hown1, hb1⟩
end BytesW
end Go.Proofs.Ytblfahnjogaacaa
