/-
  The walks of the reference: what is laid.
-/
import Derived.Test.YtknckaegpdganaaDoorBytesPuts
namespace Go.Proofs.YtknckaegpdganaaDoor
open Go.RowKit
open Go.Lib (uvarint uvarint_small uvarint_big uvarint_length64 uvarint_pos zigzag)
set_option linter.unusedVariables false
set_option linter.unusedSimpArgs false
namespace BytesW

theorem r_num_c {w : World} {n : Nat} {x : Int} (hn : n < 18446744073709551616) (hx : x = n) :
    Calls Tryd.prog 68 #[.int .u64 x] w (Gives w (uvarint n)) := by
  have HU := Lib.hid (uvarint_length64 hn)
  have HN := Lib.hid hn
  have HX := Lib.hid hx
  clear hn hx
  go_enter Tryd.func68, Tryd.ntmps68
  go_wp2_with fail
  go_loopw [0, 3] (PutRel w [] n) (fun m _ _ => (intOf m).toNat)
  case atStart => exact ⟨n, [], by rw [HX.out], HN.out, by simp, Own.nil _ _, Below.refl _ _⟩
  case round =>
    obtain ⟨k, pre, rfl, hk, he, hown, hbw⟩ := hrel
    rw [List.nil_append] at hown
    have hp : pre.length ≤ 10 := by
      have h1 := HU.out
      rw [he] at h1
      simp at h1
      omega
    have HE := Lib.hid he
    have HK := Lib.hid hk
    have hz := hbw.size
    clear he
    obtain ⟨x, hx⟩ : ∃ x : Int, x = (k : Int) := ⟨_, rfl⟩
    rw [← hx]
    have hx0 : 0 ≤ x := by omega
    have hx1 : x < 18446744073709551616 := by omega
    have HX := Lib.hid hx
    clear hx hk
    obtain ⟨y, hy⟩ : ∃ y : UInt8, y.toNat = if 128 ≤ k then k % 128 + 128 else k := by
      split
      · exact ⟨_, big_nat k⟩
      · exact ⟨_, small_nat (by omega)⟩
    by_cases h128 : 128 ≤ x
    · have e1 : x % 128 + 128 = y.toNat := by
        rw [if_pos (by have := HX.out; omega)] at hy
        have := HX.out
        omega
      have E1 := Lib.hid e1
      have HY := Lib.hid hy
      clear e1 hy
      go_wp2_with (at_builtin; refine wp_push rfl (.tmp 6) (.tmp 11) rfl wr _ rfl rfl hown y ?_ rfl (by omega) hbw.size ?_; (first | exact E1.out | (have := E1.out; omega)); intro v2 w2 hown2 hb2)
      go_roundw
      case rel =>
        have hx := HX.out
        have hk := HK.out
        have hy := HY.out
        rw [if_pos (by omega)] at hy
        refine ⟨k / 128, pre ++ [y], ?_, by omega, ?_, by simpa [List.append_assoc] using hown2, hbw.trans hb2⟩
        · rw [hx]
          congr 1
        · rw [HE.out, uvarint_big (by omega), ← hy]
          simp
      case measure => simp [intOf]; omega
    · have e1 : x % 256 = y.toNat := by
        have := HX.out
        rw [if_neg (by omega)] at hy
        omega
      have E1 := Lib.hid e1
      have HY := Lib.hid hy
      clear e1 hy
      go_wp2_with (at_builtin; refine wp_push rfl (.tmp 15) (.tmp 18) rfl wr _ rfl rfl hown y ?_ rfl (by omega) hbw.size ?_; (first | exact E1.out | (have := E1.out; omega)); intro v2 w2 hown2 hb2)
      go_ret
      have hx := HX.out
      have hy := HY.out
      rw [if_neg (by omega)] at hy
      refine ⟨v2, rfl, ?_, hbw.trans hb2⟩
      have e : uvarint n = pre ++ [y] := by
        rw [HE.out, uvarint_small (by omega), ← hy]
        simp
      rw [e]
      exact hown2
end BytesW
end Go.Proofs.YtknckaegpdganaaDoor


/-
  The walks of the reference, continued: whole numbers, texts, numbers of a width; whether bytes begin with others.
-/
namespace Go.Proofs.YtknckaegpdganaaDoor
open Go.RowKit
open Go.Lib (uvarint uvarint_small uvarint_big uvarint_length64 uvarint_pos zigzag)
set_option linter.unusedVariables false
set_option linter.unusedSimpArgs false
namespace BytesW

def TextRel (w : World) (s : List UInt8) (v i : Value) (wr : World) : Prop :=
  ∃ j : Nat, i = .int .i64 j ∧ j ≤ s.length ∧ Own wr w.heap.size v (uvarint s.length ++ s.take j) ∧ Below w.heap.size w wr
def RFixRel (w : World) (n k : Nat) (m v i : Value) (wr : World) : Prop :=
  ∃ (j : Nat) (x : Int), m = .int .u64 x ∧ x = ((n / 256 ^ j : Nat) : Int) ∧ i = .int .i64 j ∧ j ≤ k ∧ Own wr w.heap.size v (fx n j) ∧ Below w.heap.size w wr
theorem r_fixed_c {w : World} {n : Nat} {x k : Int} (hn : n < 18446744073709551616) (hx : x = n) :
    Calls Tryd.prog 93 #[.int .u64 x, .int .i64 k] w (Gives w (fxI n k)) := by
  have hx0 : 0 ≤ x := by omega
  have hx1 : x < 18446744073709551616 := by omega
  have HX := Lib.hid hx
  have HN := Lib.hid hn
  clear hx hn
  by_cases hk : 1 ≤ k ∧ k ≤ 8
  · have HF := Lib.hid (show fxI n k = fx n k.toNat by unfold fxI; rw [if_pos hk])
    obtain ⟨h1, h2⟩ := hk
    obtain ⟨q, rfl⟩ := Int.eq_ofNat_of_zero_le (show 0 ≤ k by omega)
    go_enter Tryd.func93, Tryd.ntmps93
    go_wp2_with fail
    go_loopw [0, 5, 6] (RFixRel w n q) (fun _ _ i _ => q - (intOf i).toNat)
    case atStart => exact ⟨0, x, rfl, by simpa using HX.out, rfl, by omega, Own.nil _ _, Below.refl _ _⟩
    case round =>
      obtain ⟨j, y, rfl, hy, rfl, hj, hown, hbw⟩ := hrel
      have hy0 : 0 ≤ y := by rw [hy]; exact Int.natCast_nonneg _
      have hy1 : y < 18446744073709551616 := by
        have h1 := Nat.div_le_self n (256 ^ j)
        have h2 := HN.out
        rw [hy]
        exact Int.ofNat_lt.2 (Nat.lt_of_le_of_lt h1 h2)
      have hll : (fx n j).length ≤ 8 := by simp [fx_length]; omega
      have HY := Lib.hid hy
      have hz := hbw.size
      clear hy
      by_cases hjq : j < q
      · obtain ⟨z, hz⟩ : ∃ z : UInt8, z = (n / 256 ^ j % 256).toUInt8 := ⟨_, rfl⟩
        have e1 : y % 256 = z.toNat := by
          rw [hz, fx_byte, HY.out]
          rfl
        have E2 := Lib.hid e1
        have HZ := Lib.hid hz
        clear e1 hz
        go_wp2_with (at_builtin; refine wp_push rfl (.tmp 19) (.tmp 23) rfl wr _ rfl rfl hown z ?_ rfl (by omega) hbw.size ?_; (first | exact E2.out | (have := E2.out; omega)); intro v2 w2 hown2 hb2)
        go_roundw
        case rel =>
          refine ⟨j + 1, _, rfl, ?_, by go_num, by omega, ?_, hbw.trans hb2⟩
          · rw [HY.out, Nat.pow_succ, ← Nat.div_div_eq_div_mul]
            rfl
          · rw [HZ.out] at hown2
            simpa [fx, List.append_assoc] using hown2
        case measure => simp [intOf]; omega
      · have : j = q := by omega
        subst this
        go_wp2_with fail
        go_ret
        refine ⟨_, rfl, ?_, hbw⟩
        rw [HF.out]
        simpa using hown
  · have HF := Lib.hid (show fxI n k = [] by unfold fxI; rw [if_neg hk])
    by_cases h1 : 1 ≤ k
    · have h2 : ¬ k ≤ 8 := fun h => hk ⟨h1, h⟩
      clear hk
      go_enter Tryd.func93, Tryd.ntmps93
      go_wp2_with fail
      go_ret
      exact ⟨_, rfl, by rw [HF.out]; exact Own.nil _ _, Below.refl _ _⟩
    · clear hk
      go_enter Tryd.func93, Tryd.ntmps93
      go_wp2_with fail
      go_ret
      exact ⟨_, rfl, by rw [HF.out]; exact Own.nil _ _, Below.refl _ _⟩

def SameRel (w : World) (xs ys : List UInt8) (i : Value) (wr : World) : Prop := ∃ j q : Nat, i = .int .i64 j ∧ j ≤ ys.length ∧ ys.take j = xs.take j ∧ wr = w.drewN q
end BytesW
end Go.Proofs.YtknckaegpdganaaDoor


/-
  The reference's way to find the number with whose bytes a list begins.
-/
namespace Go.Proofs.YtknckaegpdganaaDoor
open Go.RowKit
open Go.Lib (uvarint uvarint_small uvarint_big uvarint_length64 uvarint_pos zigzag)
set_option linter.unusedVariables false
set_option linter.unusedSimpArgs false
namespace BytesW

def FirstRel (k : Nat) (v : Value) : Prop := ∃ i : Nat, v = .int .i64 ((i : Int) + 1) ∧ i < k
def InRel (l : List UInt8) (i : Nat) (v u : Value) : Prop :=
  ∃ (j : Nat) (y x : Int), j ≤ i + 1 ∧ v = .int .u64 y ∧ u = .int .i64 x ∧ y = ((vm ((l.take (i + 1)).drop j) : Nat) : Int) ∧ x = (j : Int) - 1
/-- A byte at hand: its number, its cell; what groups from there on make. -/
theorem cellAt {w : World} {b o : Nat} {l : List UInt8} {i t : Nat} (hc : ∀ (i : Nat) (x : UInt8), l[i]? = some x → w.cell? ⟨b, o + i, none⟩ = some (bv x)) (ht : t < i + 1) (hil : i < l.length) :
    ∃ z : Int, z = ((l[t]'(by omega)).toNat : Int) ∧ 0 ≤ z ∧ z < 256 ∧ w.cell? ⟨b, o + t, none⟩ = some (.int .u8 z) ∧ Hid (vm ((l.take (i + 1)).drop t) = (128 * vm ((l.take (i + 1)).drop (t + 1)) + (l[t]'(by omega)).toNat % 128) % 18446744073709551616) := by
  have hx := (l[t]'(by omega)).toNat_lt
  refine ⟨_, rfl, by omega, by omega, hc t _ (List.getElem?_eq_getElem (by omega)), Lib.hid ?_⟩
  rw [List.drop_eq_getElem_cons (i := t) (by simp; omega)]
  simp only [vm, List.getElem_take]

end BytesW
end Go.Proofs.YtknckaegpdganaaDoor


/-
  What is asked of a reader of the reference.
-/
namespace Go.Proofs.YtknckaegpdganaaDoor
open Go.RowKit
open Go.Lib (uvarint uvarint_small uvarint_big uvarint_length64 uvarint_pos zigzag)
set_option linter.unusedVariables false
set_option linter.unusedSimpArgs false
namespace BytesW

end BytesW
end Go.Proofs.YtknckaegpdganaaDoor


/-
  Numbers of a width, read: of the program and of the reference.
-/
namespace Go.Proofs.YtknckaegpdganaaDoor
open Go.RowKit
open Go.Lib (uvarint uvarint_small uvarint_big uvarint_length64 uvarint_pos zigzag)
set_option linter.unusedVariables false
set_option linter.unusedSimpArgs false
namespace BytesW

theorem pow256 (j : Nat) : 256 ^ j = 2 ^ (8 * j) := by rw [Nat.pow_mul]
theorem rFixed_is (s : St) (k : Int) : rFixed s k = (vf (rStep s (if 1 ≤ k ∧ k ≤ 8 then k else -1)).1, (rStep s (if 1 ≤ k ∧ k ≤ 8 then k else -1)).2) := by
  unfold rFixed rStep
  by_cases hb : s.2 = true
  · simp [hb, vf]
  · rw [if_neg hb, if_neg hb]
    by_cases hk : 1 ≤ k ∧ k ≤ 8
    · rw [if_pos hk]
      by_cases hl : k ≤ (s.1.length : Int)
      · rw [if_pos ⟨hk.1, hk.2, hl⟩, if_pos ⟨by omega, hl⟩]
      · rw [if_neg (fun h => hl h.2.2), if_neg (fun h => hl h.2)]
        rfl
    · rw [if_neg hk, if_neg (fun h => hk ⟨h.1, h.2.1⟩), if_neg (by omega)]
      rfl
theorem rStep_8 (s : St) {k : Int} (h : k ≤ 8) : (rStep s k).1.length ≤ 8 := by
  unfold rStep
  split
  · simp
  · split
    · simp
      omega
    · simp
def FixedRel (l : List UInt8) (n s i : Value) : Prop := ∃ (j : Nat) (y : Int), i = .int .i64 j ∧ n = .int .u64 y ∧ s = .int .i64 ((8 * j : Nat) : Int) ∧ y = ((vf (l.take j) : Nat) : Int) ∧ j ≤ l.length
theorem vf_take_lt (l : List UInt8) {j : Nat} (hj : j ≤ 8) : vf (l.take j) < 18446744073709551616 := by
  have h1 := vf_lt (l.take j)
  have h2 : 256 ^ (l.take j).length ≤ 256 ^ 8 := Nat.pow_le_pow_right (by omega) (by simp; omega)
  exact Nat.lt_of_lt_of_le h1 h2

theorem fixed_yes {w : World} {p : Nat} {s : St} {k : Int} {l : List UInt8} {s' : St} (h : RS w p s) (hk : 1 ≤ k ∧ k ≤ 8) (hr : rStep s k = (l, s')) (hl8 : l.length ≤ 8) :
    Calls Tryd.prog 76 #[.pointer (some ⟨p, 0, none⟩), .int .i64 k] w (NumP .u64 w p (vf l : Nat) s') := by
  have E1 := Lib.hid (show decide (1 ≤ k ∧ k ≤ 8) = true by simpa using hk)
  have HR := Lib.hid hr
  clear hr hk
  go_enter Tryd.func76, Tryd.ntmps76
  go_wp2_with (first
    | (go_at_call 89; refine (isWidth_c E1.out _).mono ?_; rintro e w' ⟨rfl, rfl⟩)
    | (go_at_call 98; refine (next_c h HR.out).mono ?_; rintro e w1 ⟨A1, d1, rfl, hA1, h1, h2, hg1, hs1⟩))
  (try dsimp only at hA1 h1 hs1 ⊢)
  have HA := Lib.hid hA1
  have HGS := Lib.hid (show w.grownBy w1 (some p) ∧ RS w1 p s' from ⟨hg1, hs1⟩)
  clear hA1 hg1 hs1
  go_loop [5, 6, 16] (FixedRel l) (fun _ _ i => l.length - (intOf i).toNat)
  case atStart => exact ⟨0, 0, rfl, rfl, rfl, by simp [vf], by omega⟩
  case round =>
    obtain ⟨j, y, rfl, rfl, rfl, hy, hj⟩ := hrel
    have hlt := vf_take_lt l (j := j) (by omega)
    have hy0 : 0 ≤ y := by omega
    have hy1 : y < 18446744073709551616 := by omega
    have HY := Lib.hid hy
    have HLT := Lib.hid hlt
    clear hy hlt
    by_cases hjl : j < l.length
    · obtain ⟨b, o, rfl, hc⟩ := HA.out.cells (fun e => by rw [e] at hjl; simp at hjl)
      obtain ⟨m, hm⟩ : ∃ m : Nat, m = (l[j]'hjl).toNat := ⟨_, rfl⟩
      obtain ⟨z, hz⟩ : ∃ z : Int, z = (m : Int) := ⟨_, rfl⟩
      have g1 : w1.cell? ⟨b, o + j, none⟩ = some (.int .u8 z) := by rw [hz, hm]; exact hc j _ (List.getElem?_eq_getElem hjl)
      have hb := (l[j]'hjl).toNat_lt
      have hz0 : 0 ≤ z := by omega
      have hz1 : z < 256 := by omega
      have HV : Hid (vf (l.take (j + 1)) = vf (l.take j) + m * 2 ^ (8 * j)) := Lib.hid (by
        rw [List.take_succ_eq_append_getElem hjl, vf_snoc, ← hm, ← pow256, List.length_take, Nat.min_eq_left (by omega)])
      have HAC : Hid (vf (l.take j) < 2 ^ (8 * j)) := Lib.hid (by
        have h := vf_lt (l.take j)
        rw [List.length_take, Nat.min_eq_left (by omega)] at h
        rw [← pow256]
        exact h)
      have HZ := Lib.hid hz
      have HM := Lib.hid (show m ≤ 255 by omega)
      clear hz hb hm hc
      go_wp2_with fail
      go_round
      case rel =>
        refine ⟨j + 1, _, by go_num, rfl, by (first | go_num | (congr 1; omega)), ?_, by omega⟩
        rw [HV.out]
        refine or_pow HY.out HZ.out HAC.out HLT.out (mul_small HM.out _ ?_)
        exact Nat.lt_of_le_of_lt (Nat.mul_le_mul_left 255 (Nat.pow_le_pow_right (by omega) (show 8 * j ≤ 56 by omega))) (by decide)
      case measure => simp [intOf]; omega
    · have HV : Hid (vf (l.take j) = vf l) := Lib.hid (by rw [List.take_of_length_le (by omega)])
      go_wp2_with fail
      go_ret
      exact ⟨ret_u (by rw [HY.out, HV.out]), HGS.out.1, HGS.out.2⟩

theorem fixed_no {w : World} {p : Nat} {s : St} {k : Int} {l : List UInt8} {s' : St} (h : RS w p s) (hk : ¬ (1 ≤ k ∧ k ≤ 8)) (hr : rStep s (-1) = (l, s')) (hl8 : l.length ≤ 8) :
    Calls Tryd.prog 76 #[.pointer (some ⟨p, 0, none⟩), .int .i64 k] w (NumP .u64 w p (vf l : Nat) s') := by
  have E1 := Lib.hid (show decide (1 ≤ k ∧ k ≤ 8) = false by simpa using hk)
  have HR := Lib.hid hr
  clear hr hk
  go_enter Tryd.func76, Tryd.ntmps76
  go_wp2_with (first
    | (go_at_call 89; refine (isWidth_c E1.out _).mono ?_; rintro e w' ⟨rfl, rfl⟩)
    | (go_at_call 98; refine (next_c h HR.out).mono ?_; rintro e w1 ⟨A1, d1, rfl, hA1, h1, h2, hg1, hs1⟩))
  (try dsimp only at hA1 h1 hs1 ⊢)
  have HA := Lib.hid hA1
  have HGS := Lib.hid (show w.grownBy w1 (some p) ∧ RS w1 p s' from ⟨hg1, hs1⟩)
  clear hA1 hg1 hs1
  go_loop [5, 6, 16] (FixedRel l) (fun _ _ i => l.length - (intOf i).toNat)
  case atStart => exact ⟨0, 0, rfl, rfl, rfl, by simp [vf], by omega⟩
  case round =>
    obtain ⟨j, y, rfl, rfl, rfl, hy, hj⟩ := hrel
    have hlt := vf_take_lt l (j := j) (by omega)
    have hy0 : 0 ≤ y := by omega
    have hy1 : y < 18446744073709551616 := by omega
    have HY := Lib.hid hy
    have HLT := Lib.hid hlt
    clear hy hlt
    by_cases hjl : j < l.length
    · obtain ⟨b, o, rfl, hc⟩ := HA.out.cells (fun e => by rw [e] at hjl; simp at hjl)
      obtain ⟨m, hm⟩ : ∃ m : Nat, m = (l[j]'hjl).toNat := ⟨_, rfl⟩
      obtain ⟨z, hz⟩ : ∃ z : Int, z = (m : Int) := ⟨_, rfl⟩
      have g1 : w1.cell? ⟨b, o + j, none⟩ = some (.int .u8 z) := by rw [hz, hm]; exact hc j _ (List.getElem?_eq_getElem hjl)
      have hb := (l[j]'hjl).toNat_lt
      have hz0 : 0 ≤ z := by omega
      have hz1 : z < 256 := by omega
      have HV : Hid (vf (l.take (j + 1)) = vf (l.take j) + m * 2 ^ (8 * j)) := Lib.hid (by
        rw [List.take_succ_eq_append_getElem hjl, vf_snoc, ← hm, ← pow256, List.length_take, Nat.min_eq_left (by omega)])
      have HAC : Hid (vf (l.take j) < 2 ^ (8 * j)) := Lib.hid (by
        have h := vf_lt (l.take j)
        rw [List.length_take, Nat.min_eq_left (by omega)] at h
        rw [← pow256]
        exact h)
      have HZ := Lib.hid hz
      have HM := Lib.hid (show m ≤ 255 by omega)
      clear hz hb hm hc
      go_wp2_with fail
      go_round
      case rel =>
        refine ⟨j + 1, _, by go_num, rfl, by (first | go_num | (congr 1; omega)), ?_, by omega⟩
        rw [HV.out]
        refine or_pow HY.out HZ.out HAC.out HLT.out (mul_small HM.out _ ?_)
        exact Nat.lt_of_le_of_lt (Nat.mul_le_mul_left 255 (Nat.pow_le_pow_right (by omega) (show 8 * j ≤ 56 by omega))) (by decide)
      case measure => simp [intOf]; omega
    · have HV : Hid (vf (l.take j) = vf l) := Lib.hid (by rw [List.take_of_length_le (by omega)])
      go_wp2_with fail
      go_ret
      exact ⟨ret_u (by rw [HY.out, HV.out]), HGS.out.1, HGS.out.2⟩

theorem fixed_c {w : World} {p : Nat} {s : St} {k : Int} {r : Nat × St} (h : RS w p s) (hr : rFixed s k = r) :
    Calls Tryd.prog 76 #[.pointer (some ⟨p, 0, none⟩), .int .i64 k] w (NumP .u64 w p r.1 r.2) := by
  rw [← hr, rFixed_is]
  by_cases hk : 1 ≤ k ∧ k ≤ 8
  · rw [if_pos hk]
    exact fixed_yes h hk rfl (rStep_8 _ hk.2)
  · rw [if_neg hk]
    exact fixed_no h hk rfl (rStep_8 _ (by omega))

def RFixedRel (l : List UInt8) (n i : Value) : Prop := ∃ (j : Nat) (y x : Int), i = .int .i64 x ∧ n = .int .u64 y ∧ x = (j : Int) - 1 ∧ y = ((vf (l.drop j) : Nat) : Int) ∧ j ≤ l.length
theorem vf_drop_lt (l : List UInt8) (hl : l.length ≤ 8) (j : Nat) : vf (l.drop j) < 18446744073709551616 := by
  have h1 := vf_lt (l.drop j)
  have h2 : 256 ^ (l.drop j).length ≤ 256 ^ 8 := Nat.pow_le_pow_right (by omega) (by simp; omega)
  exact Nat.lt_of_lt_of_le h1 h2

end BytesW
end Go.Proofs.YtknckaegpdganaaDoor
