/-
  The walks of package bytes, its first part: what is laid behind bytes.
-/
import Derived.Test.YtjmdjdkpcmekmaaBytesMem
namespace Go.Proofs.Ytjmdjdkpcmekmaa
open Go.RowKit
open Go.Lib (uvarint uvarint_small uvarint_big uvarint_length64 uvarint_pos zigzag)
set_option linter.unusedVariables false
set_option linter.unusedSimpArgs false
namespace BytesW

theorem ret_u {k : IntKind} {a b : Int} (h : a = b) : Ending.returned (.int k a) = .returned (.int k b) := by rw [h]
/-- What is answered: a row of the call's own. -/
def Gives (w : World) (l : List UInt8) (e : Ending) (w' : World) : Prop := ∃ v, e = .returned v ∧ Own w' w.heap.size v l ∧ Below w.heap.size w w'

theorem copied_c {w : World} {A : Option Addr} {l : List UInt8} {c room : Nat} (hA : At w A l) (hl : l.length ≤ 1000000) (hr : room ≤ 100) :
    Calls Try.prog 30 #[.slice A l.length c, .int .i64 room] w (Gives w l) := by
  obtain ⟨i, hi, hz, hs1, hby⟩ := info_parts info5
  have hm : maxLen = 9223372036854775807 := rfl
  have HM := Lib.hid hm
  have HS := Lib.hid hs1
  have HB := Lib.hid hby
  have HZ := Lib.hid hz
  have HI := Lib.hid hi
  clear hm hs1 hby hz hi
  go_enter Try.func30, Try.ntmps30
  go_wp2_with (first
    | (at_make; refine wpList_make_own _ rfl _ _ 22 rfl w.heap.size 5 i (.int .u8 0) 1 under26 HI.out HZ.out HS.out .i64 .i64 _ (l.length + room) rfl rfl (by omega) (by rw [HB.out]; omega) (by rw [HM.out]; omega) (Nat.le_refl _) ?_; intro w1 hown1 hg1; have hb1 : Below w.heap.size w w1 := (Below.refl _ w).grown hg1 (Nat.le_refl _) (by simp))
    | (at_builtin; refine wp_append rfl (.tmp 9) (.tmp 10) rfl (l := []) (l2 := l) rfl hown1 rfl (hA.below hb1) (by simp; omega) hb1.size ?_; intro v2 w2 hown2 hb2))
  go_ret
  exact ⟨v2, rfl, hown2, hb1.trans hb2⟩

def PutRel (w : World) (l : List UInt8) (n : Nat) (m v : Value) (wr : World) : Prop :=
  ∃ (k : Nat) (pre : List UInt8), m = .int .u64 k ∧ k < 18446744073709551616 ∧ uvarint n = pre ++ uvarint k ∧ Own wr w.heap.size v (l ++ pre) ∧ Below w.heap.size w wr
theorem put_c {w : World} {A : Option Addr} {l : List UInt8} {c n : Nat} (hA : At w A l) (hl : l.length ≤ 900000) (hn : n < 18446744073709551616) :
    Calls Try.prog 18 #[.slice A l.length c, .int .u64 n] w (Gives w (l ++ uvarint n)) := by
  have HU := Lib.hid (uvarint_length64 hn)
  have HN := Lib.hid hn
  clear hn
  go_enter Try.func18, Try.ntmps18
  go_wp2_with fail
  go_at_call 30
  refine (copied_c (room := 10) hA (by omega) (by omega)).mono ?_
  rintro e w1 ⟨v1, rfl, hown1, hb1⟩
  have hz1 := hb1.size
  go_wp2_with fail
  go_loopw [1, 5] (PutRel w l n) (fun m _ _ => (intOf m).toNat)
  case atStart => exact ⟨n, [], rfl, HN.out, by simp, by simpa using hown1, hb1⟩
  case round =>
    obtain ⟨k, pre, rfl, hk, he, hown, hbw⟩ := hrel
    have hp : (l ++ pre).length ≤ 900010 := by
      have h1 := HU.out
      rw [he] at h1
      simp at h1 ⊢
      omega
    have HE := Lib.hid he
    have HK := Lib.hid hk
    have hk' : (k : Int) < 18446744073709551616 := by omega
    have hz := hbw.size
    clear he hk
    obtain ⟨x, hx⟩ : ∃ x : Int, x = (k : Int) := ⟨_, rfl⟩
    rw [← hx]
    have hx0 : 0 ≤ x := by omega
    have hx1 : x < 18446744073709551616 := by omega
    have HX := Lib.hid hx
    clear hx hk'
    obtain ⟨y, hy⟩ : ∃ y : UInt8, y.toNat = if 128 ≤ k then k % 128 + 128 else k := by
      split
      · exact ⟨_, big_nat k⟩
      · exact ⟨_, small_nat (by omega)⟩
    by_cases h128 : 128 ≤ x
    · have e1 : bits .or .u8 (x % 256) 128 = y.toNat := by
        rw [if_pos (by have := HX.out; omega)] at hy
        rw [Lib.u8_or128_any _ (by omega) (by omega), hy]
        have := HX.out
        omega
      have E1 := Lib.hid e1
      have HY := Lib.hid hy
      clear e1 hy
      go_wp2_with (at_builtin; refine wp_push rfl (.tmp 10) (.tmp 14) rfl wr _ rfl rfl hown y E1.out rfl (by omega) hbw.size ?_; intro v2 w2 hown2 hb2)
      go_roundw
      case rel =>
        have hx := HX.out
        have hk := HK.out
        have hy := HY.out
        rw [if_pos (by omega)] at hy
        refine ⟨k / 128, pre ++ [y], ?_, by omega, ?_, by simpa [List.append_assoc] using hown2, hbw.trans hb2⟩
        · rw [hx]
          congr 1
        · rw [HE.out, uvarint_big (by omega), ← hy]
          simp
      case measure => simp [intOf]; omega
    · have e1 : x % 256 = y.toNat := by
        have := HX.out
        rw [if_neg (by omega)] at hy
        omega
      have E1 := Lib.hid e1
      have HY := Lib.hid hy
      clear e1 hy
      go_wp2_with (at_builtin; refine wp_push rfl (.tmp 18) (.tmp 21) rfl wr _ rfl rfl hown y ?_ rfl (by omega) hbw.size ?_; (first | exact E1.out | (have := E1.out; omega)); intro v2 w2 hown2 hb2)
      go_ret
      have hx := HX.out
      have hy := HY.out
      rw [if_neg (by omega)] at hy
      refine ⟨v2, rfl, ?_, hbw.trans hb2⟩
      have e : l ++ uvarint n = l ++ pre ++ [y] := by
        rw [HE.out, uvarint_small (by omega), ← hy]
        simp
      rw [e]
      exact hown2
end BytesW
end Go.Proofs.Ytjmdjdkpcmekmaa
