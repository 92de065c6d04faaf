/-
  Numbers of a width, read: of the program and of the reference.
-/
import Derived.Test.YtjmdjdkpcmekmaaBytesCalls
import Derived.Test.YtjmdjdkpcmekmaaBytesRCalls
namespace Go.Proofs.Ytjmdjdkpcmekmaa
open Go.RowKit
open Go.Lib (uvarint uvarint_small uvarint_big uvarint_length64 uvarint_pos zigzag)
set_option linter.unusedVariables false
set_option linter.unusedSimpArgs false
namespace BytesW

theorem pow256 (j : Nat) : 256 ^ j = 2 ^ (8 * j) := by rw [Nat.pow_mul]
theorem rFixed_is (s : St) (k : Int) : rFixed s k = (vf (rStep s (if 1 ≤ k ∧ k ≤ 8 then k else -1)).1, (rStep s (if 1 ≤ k ∧ k ≤ 8 then k else -1)).2) := by
  unfold rFixed rStep
  by_cases hb : s.2 = true
  · simp [hb, vf]
  · rw [if_neg hb, if_neg hb]
    by_cases hk : 1 ≤ k ∧ k ≤ 8
    · rw [if_pos hk]
      by_cases hl : k ≤ (s.1.length : Int)
      · rw [if_pos ⟨hk.1, hk.2, hl⟩, if_pos ⟨by omega, hl⟩]
      · rw [if_neg (fun h => hl h.2.2), if_neg (fun h => hl h.2)]
        rfl
    · rw [if_neg hk, if_neg (fun h => hk ⟨h.1, h.2.1⟩), if_neg (by omega)]
      rfl
theorem rStep_8 (s : St) {k : Int} (h : k ≤ 8) : (rStep s k).1.length ≤ 8 := by
  unfold rStep
  split
  · simp
  · split
    · simp
      omega
    · simp
def FixedRel (l : List UInt8) (n s i : Value) : Prop := ∃ (j : Nat) (y : Int), i = .int .i64 j ∧ n = .int .u64 y ∧ s = .int .i64 ((8 * j : Nat) : Int) ∧ y = ((vf (l.take j) : Nat) : Int) ∧ j ≤ l.length
theorem vf_take_lt (l : List UInt8) {j : Nat} (hj : j ≤ 8) : vf (l.take j) < 18446744073709551616 := by
  have h1 := vf_lt (l.take j)
  have h2 : 256 ^ (l.take j).length ≤ 256 ^ 8 := Nat.pow_le_pow_right (by omega) (by simp; omega)
  exact Nat.lt_of_lt_of_le h1 h2

theorem fixed_yes {w : World} {p : Nat} {s : St} {k : Int} {l : List UInt8} {s' : St} (h : RS w p s) (hk : 1 ≤ k ∧ k ≤ 8) (hr : rStep s k = (l, s')) (hl8 : l.length ≤ 8) :
    Calls Try.prog 22 #[.pointer (some ⟨p, 0, none⟩), .int .i64 k] w (NumP .u64 w p (vf l : Nat) s') := by
  have E1 := Lib.hid (show decide (1 ≤ k ∧ k ≤ 8) = true by simpa using hk)
  have HR := Lib.hid hr
  clear hr hk
  go_enter Try.func22, Try.ntmps22
  go_wp2_with (first
    | (go_at_call 35; refine (isWidth_c E1.out _).mono ?_; rintro e w' ⟨rfl, rfl⟩)
    | (go_at_call 34; refine (next_c h HR.out).mono ?_; rintro e w1 ⟨A1, d1, rfl, hA1, h1, h2, hg1, hs1⟩))
  (try dsimp only at hA1 h1 hs1 ⊢)
  have HA := Lib.hid hA1
  have HGS := Lib.hid (show w.grownBy w1 (some p) ∧ RS w1 p s' from ⟨hg1, hs1⟩)
  clear hA1 hg1 hs1
  go_loop [5, 6, 16] (FixedRel l) (fun _ _ i => l.length - (intOf i).toNat)
  case atStart => exact ⟨0, 0, rfl, rfl, rfl, by simp [vf], by omega⟩
  case round =>
    obtain ⟨j, y, rfl, rfl, rfl, hy, hj⟩ := hrel
    have hlt := vf_take_lt l (j := j) (by omega)
    have hy0 : 0 ≤ y := by omega
    have hy1 : y < 18446744073709551616 := by omega
    have HY := Lib.hid hy
    have HLT := Lib.hid hlt
    clear hy hlt
    by_cases hjl : j < l.length
    · obtain ⟨b, o, rfl, hc⟩ := HA.out.cells (fun e => by rw [e] at hjl; simp at hjl)
      obtain ⟨m, hm⟩ : ∃ m : Nat, m = (l[j]'hjl).toNat := ⟨_, rfl⟩
      obtain ⟨z, hz⟩ : ∃ z : Int, z = (m : Int) := ⟨_, rfl⟩
      have g1 : w1.cell? ⟨b, o + j, none⟩ = some (.int .u8 z) := by rw [hz, hm]; exact hc j _ (List.getElem?_eq_getElem hjl)
      have hb := (l[j]'hjl).toNat_lt
      have hz0 : 0 ≤ z := by omega
      have hz1 : z < 256 := by omega
      have HV : Hid (vf (l.take (j + 1)) = vf (l.take j) + m * 2 ^ (8 * j)) := Lib.hid (by
        rw [List.take_succ_eq_append_getElem hjl, vf_snoc, ← hm, ← pow256, List.length_take, Nat.min_eq_left (by omega)])
      have HAC : Hid (vf (l.take j) < 2 ^ (8 * j)) := Lib.hid (by
        have h := vf_lt (l.take j)
        rw [List.length_take, Nat.min_eq_left (by omega)] at h
        rw [← pow256]
        exact h)
      have HZ := Lib.hid hz
      have HM := Lib.hid (show m ≤ 255 by omega)
      clear hz hb hm hc
      go_wp2_with fail
      go_round
      case rel =>
        refine ⟨j + 1, _, by go_num, rfl, by (first | go_num | (congr 1; omega)), ?_, by omega⟩
        rw [HV.out]
        refine or_pow HY.out HZ.out HAC.out HLT.out (mul_small HM.out _ ?_)
        exact Nat.lt_of_le_of_lt (Nat.mul_le_mul_left 255 (Nat.pow_le_pow_right (by omega) (show 8 * j ≤ 56 by omega))) (by decide)
      case measure => simp [intOf]; omega
    · have HV : Hid (vf (l.take j) = vf l) := Lib.hid (by rw [List.take_of_length_le (by omega)])
      go_wp2_with fail
      go_ret
      exact ⟨ret_u (by rw [HY.out, HV.out]), HGS.out.1, HGS.out.2⟩

theorem fixed_no {w : World} {p : Nat} {s : St} {k : Int} {l : List UInt8} {s' : St} (h : RS w p s) (hk : ¬ (1 ≤ k ∧ k ≤ 8)) (hr : rStep s (-1) = (l, s')) (hl8 : l.length ≤ 8) :
    Calls Try.prog 22 #[.pointer (some ⟨p, 0, none⟩), .int .i64 k] w (NumP .u64 w p (vf l : Nat) s') := by
  have E1 := Lib.hid (show decide (1 ≤ k ∧ k ≤ 8) = false by simpa using hk)
  have HR := Lib.hid hr
  clear hr hk
  go_enter Try.func22, Try.ntmps22
  go_wp2_with (first
    | (go_at_call 35; refine (isWidth_c E1.out _).mono ?_; rintro e w' ⟨rfl, rfl⟩)
    | (go_at_call 34; refine (next_c h HR.out).mono ?_; rintro e w1 ⟨A1, d1, rfl, hA1, h1, h2, hg1, hs1⟩))
  (try dsimp only at hA1 h1 hs1 ⊢)
  have HA := Lib.hid hA1
  have HGS := Lib.hid (show w.grownBy w1 (some p) ∧ RS w1 p s' from ⟨hg1, hs1⟩)
  clear hA1 hg1 hs1
  go_loop [5, 6, 16] (FixedRel l) (fun _ _ i => l.length - (intOf i).toNat)
  case atStart => exact ⟨0, 0, rfl, rfl, rfl, by simp [vf], by omega⟩
  case round =>
    obtain ⟨j, y, rfl, rfl, rfl, hy, hj⟩ := hrel
    have hlt := vf_take_lt l (j := j) (by omega)
    have hy0 : 0 ≤ y := by omega
    have hy1 : y < 18446744073709551616 := by omega
    have HY := Lib.hid hy
    have HLT := Lib.hid hlt
    clear hy hlt
    by_cases hjl : j < l.length
    · obtain ⟨b, o, rfl, hc⟩ := HA.out.cells (fun e => by rw [e] at hjl; simp at hjl)
      obtain ⟨m, hm⟩ : ∃ m : Nat, m = (l[j]'hjl).toNat := ⟨_, rfl⟩
      obtain ⟨z, hz⟩ : ∃ z : Int, z = (m : Int) := ⟨_, rfl⟩
      have g1 : w1.cell? ⟨b, o + j, none⟩ = some (.int .u8 z) := by rw [hz, hm]; exact hc j _ (List.getElem?_eq_getElem hjl)
      have hb := (l[j]'hjl).toNat_lt
      have hz0 : 0 ≤ z := by omega
      have hz1 : z < 256 := by omega
      have HV : Hid (vf (l.take (j + 1)) = vf (l.take j) + m * 2 ^ (8 * j)) := Lib.hid (by
        rw [List.take_succ_eq_append_getElem hjl, vf_snoc, ← hm, ← pow256, List.length_take, Nat.min_eq_left (by omega)])
      have HAC : Hid (vf (l.take j) < 2 ^ (8 * j)) := Lib.hid (by
        have h := vf_lt (l.take j)
        rw [List.length_take, Nat.min_eq_left (by omega)] at h
        rw [← pow256]
        exact h)
      have HZ := Lib.hid hz
      have HM := Lib.hid (show m ≤ 255 by omega)
      clear hz hb hm hc
      go_wp2_with fail
      go_round
      case rel =>
        refine ⟨j + 1, _, by go_num, rfl, by (first | go_num | (congr 1; omega)), ?_, by omega⟩
        rw [HV.out]
        refine or_pow HY.out HZ.out HAC.out HLT.out (mul_small HM.out _ ?_)
        exact Nat.lt_of_le_of_lt (Nat.mul_le_mul_left 255 (Nat.pow_le_pow_right (by omega) (show 8 * j ≤ 56 by omega))) (by decide)
      case measure => simp [intOf]; omega
    · have HV : Hid (vf (l.take j) = vf l) := Lib.hid (by rw [List.take_of_length_le (by omega)])
      go_wp2_with fail
      go_ret
      exact ⟨ret_u (by rw [HY.out, HV.out]), HGS.out.1, HGS.out.2⟩

theorem fixed_c {w : World} {p : Nat} {s : St} {k : Int} {r : Nat × St} (h : RS w p s) (hr : rFixed s k = r) :
    Calls Try.prog 22 #[.pointer (some ⟨p, 0, none⟩), .int .i64 k] w (NumP .u64 w p r.1 r.2) := by
  rw [← hr, rFixed_is]
  by_cases hk : 1 ≤ k ∧ k ≤ 8
  · rw [if_pos hk]
    exact fixed_yes h hk rfl (rStep_8 _ hk.2)
  · rw [if_neg hk]
    exact fixed_no h hk rfl (rStep_8 _ (by omega))

def RFixedRel (l : List UInt8) (n i : Value) : Prop := ∃ (j : Nat) (y x : Int), i = .int .i64 x ∧ n = .int .u64 y ∧ x = (j : Int) - 1 ∧ y = ((vf (l.drop j) : Nat) : Int) ∧ j ≤ l.length
theorem vf_drop_lt (l : List UInt8) (hl : l.length ≤ 8) (j : Nat) : vf (l.drop j) < 18446744073709551616 := by
  have h1 := vf_lt (l.drop j)
  have h2 : 256 ^ (l.drop j).length ≤ 256 ^ 8 := Nat.pow_le_pow_right (by omega) (by simp; omega)
  exact Nat.lt_of_lt_of_le h1 h2

end BytesW
end Go.Proofs.Ytjmdjdkpcmekmaa
