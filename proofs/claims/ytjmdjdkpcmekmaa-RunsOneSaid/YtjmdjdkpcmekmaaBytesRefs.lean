/-
  The walks of the reference: what is laid.
-/
import Derived.Test.YtjmdjdkpcmekmaaBytesPuts
namespace Go.Proofs.Ytjmdjdkpcmekmaa
open Go.RowKit
open Go.Lib (uvarint uvarint_small uvarint_big uvarint_length64 uvarint_pos zigzag)
set_option linter.unusedVariables false
set_option linter.unusedSimpArgs false
namespace BytesW

theorem r_num_c {w : World} {n : Nat} {x : Int} (hn : n < 18446744073709551616) (hx : x = n) :
    Calls Try.prog 19 #[.int .u64 x] w (Gives w (uvarint n)) := by
  have HU := Lib.hid (uvarint_length64 hn)
  have HN := Lib.hid hn
  have HX := Lib.hid hx
  clear hn hx
  go_enter Try.func19, Try.ntmps19
  go_wp2_with fail
  go_loopw [0, 3] (PutRel w [] n) (fun m _ _ => (intOf m).toNat)
  case atStart => exact ⟨n, [], by rw [HX.out], HN.out, by simp, Own.nil _ _, Below.refl _ _⟩
  case round =>
    obtain ⟨k, pre, rfl, hk, he, hown, hbw⟩ := hrel
    rw [List.nil_append] at hown
    have hp : pre.length ≤ 10 := by
      have h1 := HU.out
      rw [he] at h1
      simp at h1
      omega
    have HE := Lib.hid he
    have HK := Lib.hid hk
    have hz := hbw.size
    clear he
    obtain ⟨x, hx⟩ : ∃ x : Int, x = (k : Int) := ⟨_, rfl⟩
    rw [← hx]
    have hx0 : 0 ≤ x := by omega
    have hx1 : x < 18446744073709551616 := by omega
    have HX := Lib.hid hx
    clear hx hk
    obtain ⟨y, hy⟩ : ∃ y : UInt8, y.toNat = if 128 ≤ k then k % 128 + 128 else k := by
      split
      · exact ⟨_, big_nat k⟩
      · exact ⟨_, small_nat (by omega)⟩
    by_cases h128 : 128 ≤ x
    · have e1 : x % 128 + 128 = y.toNat := by
        rw [if_pos (by have := HX.out; omega)] at hy
        have := HX.out
        omega
      have E1 := Lib.hid e1
      have HY := Lib.hid hy
      clear e1 hy
      go_wp2_with (at_builtin; refine wp_push rfl (.tmp 6) (.tmp 11) rfl wr _ rfl rfl hown y ?_ rfl (by omega) hbw.size ?_; (first | exact E1.out | (have := E1.out; omega)); intro v2 w2 hown2 hb2)
      go_roundw
      case rel =>
        have hx := HX.out
        have hk := HK.out
        have hy := HY.out
        rw [if_pos (by omega)] at hy
        refine ⟨k / 128, pre ++ [y], ?_, by omega, ?_, by simpa [List.append_assoc] using hown2, hbw.trans hb2⟩
        · rw [hx]
          congr 1
        · rw [HE.out, uvarint_big (by omega), ← hy]
          simp
      case measure => simp [intOf]; omega
    · have e1 : x % 256 = y.toNat := by
        have := HX.out
        rw [if_neg (by omega)] at hy
        omega
      have E1 := Lib.hid e1
      have HY := Lib.hid hy
      clear e1 hy
      go_wp2_with (at_builtin; refine wp_push rfl (.tmp 15) (.tmp 18) rfl wr _ rfl rfl hown y ?_ rfl (by omega) hbw.size ?_; (first | exact E1.out | (have := E1.out; omega)); intro v2 w2 hown2 hb2)
      go_ret
      have hx := HX.out
      have hy := HY.out
      rw [if_neg (by omega)] at hy
      refine ⟨v2, rfl, ?_, hbw.trans hb2⟩
      have e : uvarint n = pre ++ [y] := by
        rw [HE.out, uvarint_small (by omega), ← hy]
        simp
      rw [e]
      exact hown2
end BytesW
end Go.Proofs.Ytjmdjdkpcmekmaa
