/-
  The walks of package bytes, its first part: what is laid behind bytes.
-/
import Derived.Test.YtbnkaeigabifhaaDoorBytesMem
namespace Go.Proofs.YtbnkaeigabifhaaDoor
open Go.RowKit
open Go.Lib (uvarint uvarint_small uvarint_big uvarint_length64 uvarint_pos zigzag)
set_option linter.unusedVariables false
set_option linter.unusedSimpArgs false
namespace BytesW

theorem ret_u {k : IntKind} {a b : Int} (h : a = b) : Ending.returned (.int k a) = .returned (.int k b) := by rw [h]
/-- What is answered: a row of the call's own. -/
def Gives (w : World) (l : List UInt8) (e : Ending) (w' : World) : Prop := ∃ v, e = .returned v ∧ Own w' w.heap.size v l ∧ Below w.heap.size w w'

theorem copied_c {w : World} {A : Option Addr} {l : List UInt8} {c room : Nat} (hA : At w A l) (hl : l.length ≤ 1000000) (hr : room ≤ 100) :
    Calls Tryd.prog 59 #[.slice A l.length c, .int .i64 room] w (Gives w l) := by
  obtain ⟨i, hi, hz, hs1, hby⟩ := info_parts info5
  have hm : maxLen = 9223372036854775807 := rfl
  have HM := Lib.hid hm
  have HS := Lib.hid hs1
  have HB := Lib.hid hby
  have HZ := Lib.hid hz
  have HI := Lib.hid hi
  clear hm hs1 hby hz hi
  go_enter Tryd.func59, Tryd.ntmps59
  go_wp2_with (first
    | (at_make; refine wpList_make_own _ rfl _ _ 51 rfl w.heap.size 5 i (.int .u8 0) 1 under26 HI.out HZ.out HS.out .i64 .i64 _ (l.length + room) rfl rfl (by omega) (by rw [HB.out]; omega) (by rw [HM.out]; omega) (Nat.le_refl _) ?_; intro w1 hown1 hg1; have hb1 : Below w.heap.size w w1 := (Below.refl _ w).grown hg1 (Nat.le_refl _) (by simp))
    | (at_builtin; refine wp_append rfl (.tmp 9) (.tmp 10) rfl (l := []) (l2 := l) rfl hown1 rfl (hA.below hb1) (by simp; omega) hb1.size ?_; intro v2 w2 hown2 hb2))
  go_ret
  exact ⟨v2, rfl, hown2, hb1.trans hb2⟩

def PutRel (w : World) (l : List UInt8) (n : Nat) (m v : Value) (wr : World) : Prop :=
  ∃ (k : Nat) (pre : List UInt8), m = .int .u64 k ∧ k < 18446744073709551616 ∧ uvarint n = pre ++ uvarint k ∧ Own wr w.heap.size v (l ++ pre) ∧ Below w.heap.size w wr
end BytesW
end Go.Proofs.YtbnkaeigabifhaaDoor


/-
  The walks of package bytes, its first part, continued: whole numbers, texts, numbers of a width.
-/
namespace Go.Proofs.YtbnkaeigabifhaaDoor
open Go.RowKit
open Go.Lib (uvarint uvarint_small uvarint_big uvarint_length64 uvarint_pos zigzag)
set_option linter.unusedVariables false
set_option linter.unusedSimpArgs false
namespace BytesW

theorem xor_i64 (a b : Int) : IntKind.u64.wrap (bits .xor .i64 a b) = (((a % 18446744073709551616).toNat ^^^ (b % 18446744073709551616).toNat : Nat) : Int) := by
  show IntKind.u64.wrap (IntKind.i64.wrap ((BitVec.ofInt 64 a ^^^ BitVec.ofInt 64 b).toNat : Int)) = _
  have h := Nat.xor_lt_two_pow (n := 64) (x := (a % 18446744073709551616).toNat) (y := (b % 18446744073709551616).toNat) (by omega) (by omega)
  rw [BitVec.toNat_xor, BitVec.toNat_ofInt, BitVec.toNat_ofInt, IntKind.wrap_u64, IntKind.wrap_i64]
  have e : ((2 ^ 64 : Nat) : Int) = 18446744073709551616 := by decide
  rw [e]
  omega
theorem zig_bits {n : Int} (h0 : -9223372036854775808 ≤ n) (h1 : n ≤ 9223372036854775807) : IntKind.u64.wrap (bits .xor .i64 (wrap64 (n * 2)) (n / 9223372036854775808)) = (zigzag n : Nat) := by
  rw [xor_i64]
  unfold wrap64 zigzag
  by_cases h : 0 ≤ n
  · rw [show n / 9223372036854775808 = 0 by omega, if_pos h]
    simp
    omega
  · rw [show n / 9223372036854775808 = -1 by omega, if_neg h, Nat.xor_comm, show (-1 % 18446744073709551616 : Int).toNat = 2 ^ 64 - 1 by decide, Lib.xor_ones64 _ (by omega)]
    omega

theorem isWidth_c {k : Int} {b : Bool} (h : decide (1 ≤ k ∧ k ≤ 8) = b) (w : World) :
    Calls Tryd.prog 60 #[.int .i64 k] w fun e w' => e = .returned (.bool b) ∧ w = w' := by
  by_cases h1 : 1 ≤ k
  · by_cases h2 : k ≤ 8
    · obtain rfl : b = true := by rw [← h]; simp [h1, h2]
      clear h
      go_enter Tryd.func60, Tryd.ntmps60
      go_wp2_with fail
      go_ret
      exact ⟨rfl, rfl⟩
    · obtain rfl : b = false := by rw [← h]; simp [h1, h2]
      clear h
      go_enter Tryd.func60, Tryd.ntmps60
      go_wp2_with fail
      go_ret
      exact ⟨rfl, rfl⟩
  · obtain rfl : b = false := by rw [← h]; simp [h1]
    clear h
    go_enter Tryd.func60, Tryd.ntmps60
    go_wp2_with fail
    go_ret
    exact ⟨rfl, rfl⟩

def fxI (n : Nat) (k : Int) : List UInt8 := if 1 ≤ k ∧ k ≤ 8 then fx n k.toNat else []
def FixRel (w : World) (l : List UInt8) (n k : Nat) (m v i : Value) (wr : World) : Prop :=
  ∃ (j : Nat) (x : Int), m = .int .u64 x ∧ x = ((n / 256 ^ j : Nat) : Int) ∧ i = .int .i64 j ∧ j ≤ k ∧ Own wr w.heap.size v (l ++ fx n j) ∧ Below w.heap.size w wr
theorem putFixed_c {w : World} {A : Option Addr} {l : List UInt8} {c n : Nat} {x k : Int} (hA : At w A l) (hl : l.length ≤ 900000) (hn : n < 18446744073709551616) (hx : x = n) :
    Calls Tryd.prog 50 #[.slice A l.length c, .int .u64 x, .int .i64 k] w (Gives w (l ++ fxI n k)) := by
  have hx0 : 0 ≤ x := by omega
  have hx1 : x < 18446744073709551616 := by omega
  have HX := Lib.hid hx
  have HN := Lib.hid hn
  clear hx hn
  by_cases hk : 1 ≤ k ∧ k ≤ 8
  · have E1 := Lib.hid (show decide (1 ≤ k ∧ k ≤ 8) = true by simpa using hk)
    have HF := Lib.hid (show fxI n k = fx n k.toNat by unfold fxI; rw [if_pos hk])
    obtain ⟨h1, h2⟩ := hk
    obtain ⟨q, rfl⟩ := Int.eq_ofNat_of_zero_le (show 0 ≤ k by omega)
    go_enter Tryd.func50, Tryd.ntmps50
    go_wp2_with fail
    go_at_call 59
    refine (copied_c (room := 8) hA (by omega) (by omega)).mono ?_
    rintro e w1 ⟨v1, rfl, hown1, hb1⟩
    have hz1 := hb1.size
    go_wp2_with fail
    go_at_call 60
    refine (isWidth_c E1.out _).mono ?_
    rintro e w' ⟨rfl, rfl⟩
    go_wp2_with fail
    go_loopw [1, 7, 15] (FixRel w l n q) (fun _ _ i _ => q - (intOf i).toNat)
    case atStart => exact ⟨0, x, rfl, by simpa using HX.out, rfl, by omega, by simpa [fx] using hown1, hb1⟩
    case round =>
      obtain ⟨j, y, rfl, hy, rfl, hj, hown, hbw⟩ := hrel
      have hy0 : 0 ≤ y := by rw [hy]; exact Int.natCast_nonneg _
      have hy1 : y < 18446744073709551616 := by
        have h1 := Nat.div_le_self n (256 ^ j)
        have h2 := HN.out
        rw [hy]
        exact Int.ofNat_lt.2 (Nat.lt_of_le_of_lt h1 h2)
      have hll : (l ++ fx n j).length ≤ 900008 := by simp [fx_length]; omega
      have HY := Lib.hid hy
      have hz := hbw.size
      clear hy
      by_cases hjq : j < q
      · obtain ⟨z, hz⟩ : ∃ z : UInt8, z = (n / 256 ^ j % 256).toUInt8 := ⟨_, rfl⟩
        have e1 : y % 256 = z.toNat := by
          rw [hz, fx_byte, HY.out]
          rfl
        have E2 := Lib.hid e1
        have HZ := Lib.hid hz
        clear e1 hz
        go_wp2_with (at_builtin; refine wp_push rfl (.tmp 17) (.tmp 20) rfl wr _ rfl rfl hown z E2.out rfl (by omega) hbw.size ?_; intro v2 w2 hown2 hb2)
        go_roundw
        case rel =>
          refine ⟨j + 1, _, rfl, ?_, by go_num, by omega, ?_, hbw.trans hb2⟩
          · rw [HY.out, Nat.pow_succ, ← Nat.div_div_eq_div_mul]
            rfl
          · rw [HZ.out] at hown2
            simpa [fx, List.append_assoc] using hown2
        case measure => simp [intOf]; omega
      · have : j = q := by omega
        subst this
        go_wp2_with fail
        go_ret
        refine ⟨_, rfl, ?_, hbw⟩
        rw [HF.out]
        simpa using hown
  · have E1 := Lib.hid (show decide (1 ≤ k ∧ k ≤ 8) = false by simpa using hk)
    have HF := Lib.hid (show l ++ fxI n k = l by unfold fxI; rw [if_neg hk]; simp)
    clear hk
    go_enter Tryd.func50, Tryd.ntmps50
    go_wp2_with fail
    go_at_call 59
    refine (copied_c (room := 8) hA (by omega) (by omega)).mono ?_
    rintro e w1 ⟨v1, rfl, hown1, hb1⟩
    go_wp2_with fail
    go_at_call 60
    refine (isWidth_c E1.out _).mono ?_
    rintro e w' ⟨rfl, rfl⟩
    go_wp2_with fail
    go_ret
    exact ⟨v1, rfl, by rw [HF.out]; exact hown1, hb1⟩
end BytesW
end Go.Proofs.YtbnkaeigabifhaaDoor


/-
  slices.Clone, NewReader; whether a reader is sound, whether it has ended, what is left.
-/
namespace Go.Proofs.YtbnkaeigabifhaaDoor
open Go.RowKit
open Go.Lib (uvarint uvarint_small uvarint_big uvarint_length64 uvarint_pos zigzag)
set_option linter.unusedVariables false
set_option linter.unusedSimpArgs false
namespace BytesW

end BytesW
end Go.Proofs.YtbnkaeigabifhaaDoor


/-
  A reader goes over its next bytes; the number with which bytes begin; the end.
-/
namespace Go.Proofs.YtbnkaeigabifhaaDoor
open Go.RowKit
open Go.Lib (uvarint uvarint_small uvarint_big uvarint_length64 uvarint_pos zigzag)
set_option linter.unusedVariables false
set_option linter.unusedSimpArgs false
namespace BytesW

theorem grown_set (w : World) (p i : Nat) (v : Value) : w.grownBy (w.setCell ⟨p, i, none⟩ v) (some p) :=
  ⟨rfl, rfl, rfl, by simp [World.setCell], fun k hk hne => Below.heap_setCell _ _ _ _ (fun e => hne (by rw [e]))⟩
theorem heap_set {w : World} {p : Nat} {cs : Array Value} {t : TypeId} {fr : Nat × Nat} (h : w.heap[p]? = some (.cells cs t fr)) (i : Nat) (v : Value) : (w.setCell ⟨p, i, none⟩ v).heap[p]? = some (.cells (cs.setIfInBounds i v) t fr) := by
  simp [World.setCell, Array.getElem?_modify, h]
theorem grown_below {w w1 w2 : World} {p : Nat} (h : w.grownBy w1 (some p)) (hb : Below w1.heap.size w1 w2) : w.grownBy w2 (some p) :=
  h.trans ⟨hb.os, hb.tape, hb.output, hb.size, fun k hk _ => hb.block k hk⟩
theorem below_grown {w w1 w2 : World} {p : Nat} (hb : Below w.heap.size w w1) (h : w1.grownBy w2 (some p)) : w.grownBy w2 (some p) :=
  World.grownBy.trans (b := w1) ⟨hb.os, hb.tape, hb.output, hb.size, fun k hk _ => hb.block k hk⟩ h

theorem ret_2 {a b c d : Int} (h : a = b) (h2 : c = d) : Ending.returned (.tuple #[.int .u64 a, .int .i64 c]) = .returned (.tuple #[.int .u64 b, .int .i64 d]) := by rw [h, h2]
theorem or_pow {y z : Int} {acc v s : Nat} (hy : y = acc) (hz : z = v) (ha : acc < 2 ^ s) (ha2 : acc < 18446744073709551616) (hv : v * 2 ^ s < 18446744073709551616) :
    bits .or .u64 y (IntKind.u64.wrap (z * 2 ^ s)) = ((acc + v * 2 ^ s : Nat) : Int) := by
  subst hy hz
  have e : ((v : Int) * 2 ^ s) = ((v * 2 ^ s : Nat) : Int) := by simp
  have e2 : IntKind.u64.wrap ((v * 2 ^ s : Nat) : Int) = ((v * 2 ^ s : Nat) : Int) := by rw [IntKind.wrap_u64]; omega
  rw [e, e2, bits_or_u64_nat _ _ ha2 hv, Nat.or_comm, Nat.mul_comm v, ← Nat.two_pow_add_eq_or_of_lt ha, Nat.add_comm]
theorem mul_small {m s b : Nat} (h : m ≤ b) (c : Nat) (hc : b * 2 ^ s < c) : m * 2 ^ s < c := Nat.lt_of_le_of_lt (Nat.mul_le_mul_right _ h) hc
def ansN : Option (Nat × Nat) → Int | none => 0 | some (n, _) => n
def ansK : Option (Nat × Nat) → Int | none => -1 | some (_, k) => k
def NumRel (l : List UInt8) (n s i : Value) : Prop :=
  ∃ (k acc : Nat) (y : Int), i = .int .i64 k ∧ n = .int .u64 y ∧ s = .int .i64 ((7 * k : Nat) : Int) ∧ y = acc ∧ k ≤ l.length ∧ k ≤ 9 ∧ acc < 2 ^ (7 * k) ∧ pn (l.drop k) k acc = pn l 0 0
theorem rNum_none {l : List UInt8} (h : pn l 0 0 = none) : rNum (l, false) = (0, (l, true)) := by simp [rNum, h]
theorem rNum_some {l : List UInt8} {m k : Nat} (h : pn l 0 0 = some (m, k)) : rNum (l, false) = (m, (l.drop k, false)) := by simp [rNum, h]
theorem rNum_lt (s : St) : (rNum s).1 < 18446744073709551616 := by
  unfold rNum
  split
  · show 0 < 18446744073709551616
    omega
  · split
    · rename_i h
      exact (pn_some h).1
    · show 0 < 18446744073709551616
      omega
end BytesW
end Go.Proofs.YtbnkaeigabifhaaDoor


/-
  What is asked of a reader of the program.
-/
namespace Go.Proofs.YtbnkaeigabifhaaDoor
open Go.RowKit
open Go.Lib (uvarint uvarint_small uvarint_big uvarint_length64 uvarint_pos zigzag)
set_option linter.unusedVariables false
set_option linter.unusedSimpArgs false
namespace BytesW

theorem rStep_le {s : St} {n : Int} : (rStep s n).1.length ≤ s.1.length := by
  unfold rStep
  split
  · simp
  · split
    · simp; omega
    · simp
end BytesW
end Go.Proofs.YtbnkaeigabifhaaDoor
