/-
  The walks of the reference, continued: whole numbers, texts, numbers of a width; whether bytes begin with others.
-/
import Derived.Test.YtblfahnjogaacaaBytesPuts2
import Derived.Test.YtblfahnjogaacaaBytesRefs
namespace Go.Proofs.Ytblfahnjogaacaa
open Go.RowKit
open Go.Lib (uvarint uvarint_small uvarint_big uvarint_length64 uvarint_pos zigzag)
set_option linter.unusedVariables false
set_option linter.unusedSimpArgs false
namespace BytesW

theorem turned_c {n : Int} (h0 : -9223372036854775808 ≤ n) (h1 : n ≤ 9223372036854775807) (w : World) :
    Calls Try.prog 36 #[.int .i64 n] w fun e w' => e = .returned (.int .u64 (zigzag n : Nat)) ∧ w = w' := by
  obtain ⟨z, hz⟩ : ∃ z : Int, z = (zigzag n : Nat) := ⟨_, rfl⟩
  rw [← hz]
  have HZ := Lib.hid hz
  clear hz
  by_cases h : 0 ≤ n
  · go_enter Try.func36, Try.ntmps36
    go_wp2_with fail
    go_ret
    refine ⟨ret_u ?_, rfl⟩
    rw [HZ.out]
    unfold zigzag
    rw [if_pos h]
    (first | omega | (simp only [IntKind.wrap_u64]; omega))
  · go_enter Try.func36, Try.ntmps36
    go_wp2_with fail
    go_ret
    refine ⟨ret_u ?_, rfl⟩
    rw [HZ.out]
    unfold zigzag
    rw [if_neg (by omega)]
    (first | omega | (simp only [IntKind.wrap_u64, wrap64]; omega))

theorem r_int_c {w : World} {n : Int} (h0 : -9223372036854775808 ≤ n) (h1 : n ≤ 9223372036854775807) :
    Calls Try.prog 16 #[.int .i64 n] w (Gives w (uvarint (zigzag n))) := by
  have HL := Lib.hid (Lib.zigzag_lt h0 h1)
  go_enter Try.func16, Try.ntmps16
  go_wp2_with fail
  go_at_call 36
  refine (turned_c h0 h1 _).mono ?_
  rintro e w' ⟨rfl, rfl⟩
  go_wp2_with fail
  go_at_call 15
  refine (r_num_c HL.out rfl).mono ?_
  rintro e w1 ⟨v1, rfl, hown1, hb1⟩
  go_wp2_with fail
  go_ret
  exact ⟨v1, rfl, hown1, hb1⟩

def TextRel (w : World) (s : List UInt8) (v i : Value) (wr : World) : Prop :=
  ∃ j : Nat, i = .int .i64 j ∧ j ≤ s.length ∧ Own wr w.heap.size v (uvarint s.length ++ s.take j) ∧ Below w.heap.size w wr
theorem r_text_c {w : World} {s : List UInt8} (hs : s.length ≤ 900000) :
    Calls Try.prog 17 #[.string ⟨s.toArray⟩] w (Gives w (uvarint s.length ++ s)) := by
  have HL := Lib.hid (uvarint_length64 (x := s.length) (by omega))
  go_enter Try.func17, Try.ntmps17
  go_wp2_with fail
  go_at_call 15
  refine (r_num_c (n := s.length) (by omega) ?_).mono ?_
  · first | rfl | (simp; done) | (simp [ByteArray.size]; omega)
  rintro e w1 ⟨v1, rfl, hown1, hb1⟩
  go_wp2_with fail
  go_loopw [3, 4] (TextRel w s) (fun _ i _ => s.length - (intOf i).toNat)
  case atStart => exact ⟨0, rfl, by omega, by simpa using hown1, hb1⟩
  case round =>
    obtain ⟨j, rfl, hj, hown, hbw⟩ := hrel
    have hll : (uvarint s.length ++ s.take j).length ≤ 900010 := by
      have := HL.out
      simp
      omega
    have hz := hbw.size
    by_cases hjq : j < s.length
    · obtain ⟨y, hy⟩ : ∃ y : UInt8, y = s[j] := ⟨_, rfl⟩
      have HY := Lib.hid hy
      have hsj : s[j]? = some y := by rw [hy]; exact List.getElem?_eq_getElem hjq
      have HT := Lib.hid (show s.take (j + 1) = s.take j ++ [y] by rw [List.take_succ_eq_append_getElem hjq, hy])
      have HSJ := Lib.hid hsj
      clear hy hsj
      go_wp2_with (at_builtin; refine wp_push rfl (.tmp 15) (.tmp 19) rfl wr _ rfl rfl hown y ?_ rfl (by omega) hbw.size ?_; (first | (rw [HY.out]; rfl) | (simp [HY.out]; done)); intro v2 w2 hown2 hb2)
      go_roundw
      case rel => exact ⟨j + 1, by go_num, by omega, by rw [HT.out]; simpa [List.append_assoc] using hown2, hbw.trans hb2⟩
      case measure => simp [intOf]; omega
    · have HJ := Lib.hid (show s.take j = s from List.take_of_length_le (by omega))
      go_wp2_with fail
      go_ret
      exact ⟨_, rfl, by rw [HJ.out] at hown; exact hown, hbw⟩

def RFixRel (w : World) (n k : Nat) (m v i : Value) (wr : World) : Prop :=
  ∃ (j : Nat) (x : Int), m = .int .u64 x ∧ x = ((n / 256 ^ j : Nat) : Int) ∧ i = .int .i64 j ∧ j ≤ k ∧ Own wr w.heap.size v (fx n j) ∧ Below w.heap.size w wr
theorem r_fixed_c {w : World} {n : Nat} {x k : Int} (hn : n < 18446744073709551616) (hx : x = n) :
    Calls Try.prog 18 #[.int .u64 x, .int .i64 k] w (Gives w (fxI n k)) := by
  have hx0 : 0 ≤ x := by omega
  have hx1 : x < 18446744073709551616 := by omega
  have HX := Lib.hid hx
  have HN := Lib.hid hn
  clear hx hn
  by_cases hk : 1 ≤ k ∧ k ≤ 8
  · have HF := Lib.hid (show fxI n k = fx n k.toNat by unfold fxI; rw [if_pos hk])
    obtain ⟨h1, h2⟩ := hk
    obtain ⟨q, rfl⟩ := Int.eq_ofNat_of_zero_le (show 0 ≤ k by omega)
    go_enter Try.func18, Try.ntmps18
    go_wp2_with fail
    go_loopw [0, 5, 6] (RFixRel w n q) (fun _ _ i _ => q - (intOf i).toNat)
    case atStart => exact ⟨0, x, rfl, by simpa using HX.out, rfl, by omega, Own.nil _ _, Below.refl _ _⟩
    case round =>
      obtain ⟨j, y, rfl, hy, rfl, hj, hown, hbw⟩ := hrel
      have hy0 : 0 ≤ y := by rw [hy]; exact Int.natCast_nonneg _
      have hy1 : y < 18446744073709551616 := by
        have h1 := Nat.div_le_self n (256 ^ j)
        have h2 := HN.out
        rw [hy]
        exact Int.ofNat_lt.2 (Nat.lt_of_le_of_lt h1 h2)
      have hll : (fx n j).length ≤ 8 := by simp [fx_length]; omega
      have HY := Lib.hid hy
      have hz := hbw.size
      clear hy
      by_cases hjq : j < q
      · obtain ⟨z, hz⟩ : ∃ z : UInt8, z = (n / 256 ^ j % 256).toUInt8 := ⟨_, rfl⟩
        have e1 : y % 256 = z.toNat := by
          rw [hz, fx_byte, HY.out]
          rfl
        have E2 := Lib.hid e1
        have HZ := Lib.hid hz
        clear e1 hz
        go_wp2_with (at_builtin; refine wp_push rfl (.tmp 19) (.tmp 23) rfl wr _ rfl rfl hown z ?_ rfl (by omega) hbw.size ?_; (first | exact E2.out | (have := E2.out; omega)); intro v2 w2 hown2 hb2)
        go_roundw
        case rel =>
          refine ⟨j + 1, _, rfl, ?_, by go_num, by omega, ?_, hbw.trans hb2⟩
          · rw [HY.out, Nat.pow_succ, ← Nat.div_div_eq_div_mul]
            rfl
          · rw [HZ.out] at hown2
            simpa [fx, List.append_assoc] using hown2
        case measure => simp [intOf]; omega
      · have : j = q := by omega
        subst this
        go_wp2_with fail
        go_ret
        refine ⟨_, rfl, ?_, hbw⟩
        rw [HF.out]
        simpa using hown
  · have HF := Lib.hid (show fxI n k = [] by unfold fxI; rw [if_neg hk])
    by_cases h1 : 1 ≤ k
    · have h2 : ¬ k ≤ 8 := fun h => hk ⟨h1, h⟩
      clear hk
      go_enter Try.func18, Try.ntmps18
      go_wp2_with fail
      go_ret
      exact ⟨_, rfl, by rw [HF.out]; exact Own.nil _ _, Below.refl _ _⟩
    · clear hk
      go_enter Try.func18, Try.ntmps18
      go_wp2_with fail
      go_ret
      exact ⟨_, rfl, by rw [HF.out]; exact Own.nil _ _, Below.refl _ _⟩

def SameRel (w : World) (xs ys : List UInt8) (i : Value) (wr : World) : Prop := ∃ j q : Nat, i = .int .i64 j ∧ j ≤ ys.length ∧ ys.take j = xs.take j ∧ wr = w.drewN q
theorem same_c {w : World} {A B : Option Addr} {xs ys : List UInt8} {c d : Nat} {r : Bool} (hA : At w A xs) (hB : At w B ys) (hx : xs.length ≤ 2000000) (hy : ys.length ≤ 2000000) (h : decide (ys <+: xs) = r) :
    Calls Try.prog 51 #[.slice A xs.length c, .slice B ys.length d] w fun e w' => e = .returned (.bool r) ∧ Below w.heap.size w w' := by
  by_cases hlt : xs.length < ys.length
  · obtain rfl : r = false := by
      rw [← h]
      simp only [decide_eq_false_iff_not]
      intro hp
      have := hp.length_le
      omega
    clear h
    go_enter Try.func51, Try.ntmps51
    go_wp2_with fail
    go_ret
    exact ⟨rfl, Below.refl _ _⟩
  · have H := Lib.hid h
    have HR : Hid (ys <+: xs ↔ ys.take ys.length = xs.take ys.length) := Lib.hid (by rw [List.take_length]; exact List.prefix_iff_eq_take)
    clear h
    go_enter Try.func51, Try.ntmps51
    go_wp2_with fail
    go_loopw [5] (SameRel w xs ys) (fun i _ => ys.length - (intOf i).toNat)
    case atStart => exact ⟨0, 0, rfl, by omega, by simp, rfl⟩
    case round =>
      obtain ⟨j, q, rfl, hj, he, rfl⟩ := hrel
      have HE := Lib.hid he
      clear he
      by_cases hjq : j < ys.length
      · have hjx : j < xs.length := by omega
        obtain ⟨b1, o1, rfl, hc1⟩ := hA.cells (fun e => by rw [e] at hjx; simp at hjx)
        obtain ⟨b2, o2, rfl, hc2⟩ := hB.cells (fun e => by rw [e] at hjq; simp at hjq)
        have g1 := hc1 j xs[j] (List.getElem?_eq_getElem hjx)
        have g2 := hc2 j ys[j] (List.getElem?_eq_getElem hjq)
        clear hc1 hc2
        have HT1 := Lib.hid (List.take_succ_eq_append_getElem hjx)
        have HT2 := Lib.hid (List.take_succ_eq_append_getElem hjq)
        obtain ⟨x, hx'⟩ : ∃ x : UInt8, x = xs[j] := ⟨_, rfl⟩
        obtain ⟨y, hy'⟩ : ∃ y : UInt8, y = ys[j] := ⟨_, rfl⟩
        rw [← hx'] at g1 HT1
        rw [← hy'] at g2 HT2
        unfold bv at g1 g2
        obtain ⟨X, hX⟩ : ∃ X : Int, X = (x.toNat : Int) := ⟨_, rfl⟩
        obtain ⟨Y, hY⟩ : ∃ Y : Int, Y = (y.toNat : Int) := ⟨_, rfl⟩
        rw [← hX] at g1
        rw [← hY] at g2
        have HXY : Hid (X = Y ↔ x = y) := Lib.hid (by rw [hX, hY]; exact ⟨fun e => UInt8.toNat_inj.1 (by omega), fun e => by rw [e]⟩)
        clear hx' hy' hX hY
        by_cases hxy : X = Y
        · have HX2 := Lib.hid (HXY.out.1 hxy)
          clear HXY
          subst hxy
          go_wp2_with fail
          go_quiet (fail)
          go_wp2_with fail
          go_roundw
          case rel => exact ⟨j + 1, _, by go_num, by omega, by rw [HT1.out, HT2.out, HE.out, HX2.out], rfl⟩
          case measure => simp [intOf]; omega
        · have hr : r = false := by
            rw [← H.out]
            simp only [decide_eq_false_iff_not]
            rintro ⟨t, rfl⟩
            have h1 := HT1.out
            have h2 := HT2.out
            have h3 : ys.take (j + 1) = (ys ++ t).take (j + 1) := by rw [List.take_append_of_le_length (by omega)]
            rw [h1, h2, HE.out] at h3
            have := List.append_cancel_left h3
            simp at this
            exact hxy (HXY.out.2 (by simp [this]))
          subst hr
          have hn : (X == Y) = false := by simpa using hxy
          have hn2 : (X != Y) = true := by simpa using hxy
          clear HXY
          go_wp2_with fail
          go_quiet (fail)
          go_wp2_with fail
          go_ret
          exact ⟨rfl, BaseP.below_drewN (BaseP.below_drewN (Below.refl _ _) _) _⟩
      · have hr : r = true := by
          rw [← H.out]
          simp only [decide_eq_true_eq]
          have : j = ys.length := by omega
          subst this
          exact HR.out.2 HE.out
        subst hr
        go_wp2_with fail
        go_ret
        exact ⟨rfl, BaseP.below_drewN (Below.refl _ _) _⟩
end BytesW
end Go.Proofs.Ytblfahnjogaacaa
