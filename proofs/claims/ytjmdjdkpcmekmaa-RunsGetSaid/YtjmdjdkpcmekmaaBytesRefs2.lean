/-
  The walks of the reference, continued: whole numbers, texts, numbers of a width; whether bytes begin with others.
-/
import Derived.Test.YtjmdjdkpcmekmaaBytesPuts2
import Derived.Test.YtjmdjdkpcmekmaaBytesRefs
namespace Go.Proofs.Ytjmdjdkpcmekmaa
open Go.RowKit
open Go.Lib (uvarint uvarint_small uvarint_big uvarint_length64 uvarint_pos zigzag)
set_option linter.unusedVariables false
set_option linter.unusedSimpArgs false
namespace BytesW

def TextRel (w : World) (s : List UInt8) (v i : Value) (wr : World) : Prop :=
  ∃ j : Nat, i = .int .i64 j ∧ j ≤ s.length ∧ Own wr w.heap.size v (uvarint s.length ++ s.take j) ∧ Below w.heap.size w wr
def RFixRel (w : World) (n k : Nat) (m v i : Value) (wr : World) : Prop :=
  ∃ (j : Nat) (x : Int), m = .int .u64 x ∧ x = ((n / 256 ^ j : Nat) : Int) ∧ i = .int .i64 j ∧ j ≤ k ∧ Own wr w.heap.size v (fx n j) ∧ Below w.heap.size w wr
def SameRel (w : World) (xs ys : List UInt8) (i : Value) (wr : World) : Prop := ∃ j q : Nat, i = .int .i64 j ∧ j ≤ ys.length ∧ ys.take j = xs.take j ∧ wr = w.drewN q
theorem same_C {w : World} {A B : Option Addr} {xs ys : List UInt8} {c d : Nat} {r : Bool} (hA : AtC w A xs) (hB : AtC w B ys) (hx : xs.length ≤ 2000000) (hy : ys.length ≤ 2000000) (h : decide (ys <+: xs) = r) :
    Calls Try.prog 37 #[.slice A xs.length c, .slice B ys.length d] w fun e w' => e = .returned (.bool r) ∧ Below w.heap.size w w' := by
  by_cases hlt : xs.length < ys.length
  · obtain rfl : r = false := by
      rw [← h]
      simp only [decide_eq_false_iff_not]
      intro hp
      have := hp.length_le
      omega
    clear h
    go_enter Try.func37, Try.ntmps37
    go_wp2_with fail
    go_ret
    exact ⟨rfl, Below.refl _ _⟩
  · have H := Lib.hid h
    have HR : Hid (ys <+: xs ↔ ys.take ys.length = xs.take ys.length) := Lib.hid (by rw [List.take_length]; exact List.prefix_iff_eq_take)
    clear h
    go_enter Try.func37, Try.ntmps37
    go_wp2_with fail
    go_loopw [5] (SameRel w xs ys) (fun i _ => ys.length - (intOf i).toNat)
    case atStart => exact ⟨0, 0, rfl, by omega, by simp, rfl⟩
    case round =>
      obtain ⟨j, q, rfl, hj, he, rfl⟩ := hrel
      have HE := Lib.hid he
      clear he
      by_cases hjq : j < ys.length
      · have hjx : j < xs.length := by omega
        obtain ⟨b1, o1, rfl, hc1⟩ := hA.cells (fun e => by rw [e] at hjx; simp at hjx)
        obtain ⟨b2, o2, rfl, hc2⟩ := hB.cells (fun e => by rw [e] at hjq; simp at hjq)
        have g1 := hc1 j xs[j] (List.getElem?_eq_getElem hjx)
        have g2 := hc2 j ys[j] (List.getElem?_eq_getElem hjq)
        clear hc1 hc2
        have HT1 := Lib.hid (List.take_succ_eq_append_getElem hjx)
        have HT2 := Lib.hid (List.take_succ_eq_append_getElem hjq)
        obtain ⟨x, hx'⟩ : ∃ x : UInt8, x = xs[j] := ⟨_, rfl⟩
        obtain ⟨y, hy'⟩ : ∃ y : UInt8, y = ys[j] := ⟨_, rfl⟩
        rw [← hx'] at g1 HT1
        rw [← hy'] at g2 HT2
        unfold bv at g1 g2
        obtain ⟨X, hX⟩ : ∃ X : Int, X = (x.toNat : Int) := ⟨_, rfl⟩
        obtain ⟨Y, hY⟩ : ∃ Y : Int, Y = (y.toNat : Int) := ⟨_, rfl⟩
        rw [← hX] at g1
        rw [← hY] at g2
        have HXY : Hid (X = Y ↔ x = y) := Lib.hid (by rw [hX, hY]; exact ⟨fun e => UInt8.toNat_inj.1 (by omega), fun e => by rw [e]⟩)
        clear hx' hy' hX hY
        by_cases hxy : X = Y
        · have HX2 := Lib.hid (HXY.out.1 hxy)
          clear HXY
          subst hxy
          go_wp2_with fail
          go_quiet (fail)
          go_wp2_with fail
          go_roundw
          case rel => exact ⟨j + 1, _, by go_num, by omega, by rw [HT1.out, HT2.out, HE.out, HX2.out], rfl⟩
          case measure => simp [intOf]; omega
        · have hr : r = false := by
            rw [← H.out]
            simp only [decide_eq_false_iff_not]
            rintro ⟨t, rfl⟩
            have h1 := HT1.out
            have h2 := HT2.out
            have h3 : ys.take (j + 1) = (ys ++ t).take (j + 1) := by rw [List.take_append_of_le_length (by omega)]
            rw [h1, h2, HE.out] at h3
            have := List.append_cancel_left h3
            simp at this
            exact hxy (HXY.out.2 (by simp [this]))
          subst hr
          have hn : (X == Y) = false := by simpa using hxy
          have hn2 : (X != Y) = true := by simpa using hxy
          clear HXY
          go_wp2_with fail
          go_quiet (fail)
          go_wp2_with fail
          go_ret
          exact ⟨rfl, BaseP.below_drewN (BaseP.below_drewN (Below.refl _ _) _) _⟩
      · have hr : r = true := by
          rw [← H.out]
          simp only [decide_eq_true_eq]
          have : j = ys.length := by omega
          subst this
          exact HR.out.2 HE.out
        subst hr
        go_wp2_with fail
        go_ret
        exact ⟨rfl, BaseP.below_drewN (Below.refl _ _) _⟩
theorem same_c {w : World} {A B : Option Addr} {xs ys : List UInt8} {c d : Nat} {r : Bool} (hA : At w A xs) (hB : At w B ys) (hx : xs.length ≤ 2000000) (hy : ys.length ≤ 2000000) (h : decide (ys <+: xs) = r) :
    Calls Try.prog 37 #[.slice A xs.length c, .slice B ys.length d] w fun e w' => e = .returned (.bool r) ∧ Below w.heap.size w w' := same_C hA.c hB.c hx hy h
end BytesW
end Go.Proofs.Ytjmdjdkpcmekmaa
