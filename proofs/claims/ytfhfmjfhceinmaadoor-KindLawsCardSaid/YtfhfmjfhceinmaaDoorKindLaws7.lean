/-
  The law KindLaws, for every cell.
-/
import Derived.Test.YtfhfmjfhceinmaaDoorKindLaws4
import Derived.Test.YtfhfmjfhceinmaaDoorKindLaws5
import Derived.Test.YtfhfmjfhceinmaaDoorKindLaws6
namespace Go.Proofs.YtfhfmjfhceinmaaDoor
open Go.RowKit
namespace KindW
open KindP

theorem laws_k0 (l : Nat) (w : World) (hT : Tab w) :
    Calls Tryd.prog 8 #[.agg #[.int .u8 ((0 : Nat) : Int), .int .u8 l]] w fun e w' => e = .returned (.bool true) ∧ Below w.heap.size w w' := by
  by_cases h : l ≤ 0
  · have hd : decide (l ≤ 0) = true := decide_eq_true h
    have hm := may_true (k := 0) (by decide) h (Or.inl (by decide))
    exact laws_A1 0 l 0 false w hT ⟨by decide, by decide, by decide, by decide, by decide⟩ ⟨by decide, by decide⟩ (by decide) (by decide) (by decide) (by decide) (by decide) (by decide) (dec_le hd) hd hm (lamp_no (by decide) (by decide))
  · have hd : decide (l ≤ 0) = false := decide_eq_false h
    have hm := may_high (k := 0) h
    exact laws_A0 0 l 0 false w hT ⟨by decide, by decide, by decide, by decide, by decide⟩ ⟨by decide, by decide⟩ (by decide) (by decide) (by decide) (by decide) (by decide) (by decide) (dec_le hd) hd hm (lamp_false hm)

theorem laws_k1 (l : Nat) (w : World) (hT : Tab w) :
    Calls Tryd.prog 8 #[.agg #[.int .u8 ((1 : Nat) : Int), .int .u8 l]] w fun e w' => e = .returned (.bool true) ∧ Below w.heap.size w w' := by
  by_cases h : l ≤ 0
  · have hd : decide (l ≤ 0) = true := decide_eq_true h
    have hm := may_true (k := 1) (by decide) h (Or.inl (by decide))
    exact laws_B1 1 l 0 false w hT ⟨by decide, by decide, by decide, by decide, by decide⟩ ⟨by decide, by decide⟩ (by decide) (by decide) (by decide) (by decide) (by decide) (by decide) (by decide) (by decide) (dec_le hd) hd hm (lamp_no (by decide) (by decide))
  · have hd : decide (l ≤ 0) = false := decide_eq_false h
    have hm := may_high (k := 1) h
    exact laws_B0 1 l 0 false w hT ⟨by decide, by decide, by decide, by decide, by decide⟩ ⟨by decide, by decide⟩ (by decide) (by decide) (by decide) (by decide) (by decide) (by decide) (by decide) (by decide) (dec_le hd) hd hm (lamp_false hm)

theorem laws_k2 (l : Nat) (w : World) (hT : Tab w) :
    Calls Tryd.prog 8 #[.agg #[.int .u8 ((2 : Nat) : Int), .int .u8 l]] w fun e w' => e = .returned (.bool true) ∧ Below w.heap.size w w' := by
  by_cases h : l ≤ 0
  · have hd : decide (l ≤ 0) = true := decide_eq_true h
    have hm := may_true (k := 2) (by decide) h (Or.inl (by decide))
    exact laws_C1 2 l 0 false w hT ⟨by decide, by decide, by decide, by decide, by decide⟩ ⟨by decide, by decide⟩ (by decide) (by decide) (by decide) (by decide) (by decide) (by decide) (dec_le hd) hd hm (lamp_no (by decide) (by decide))
  · have hd : decide (l ≤ 0) = false := decide_eq_false h
    have hm := may_high (k := 2) h
    exact laws_C0 2 l 0 false w hT ⟨by decide, by decide, by decide, by decide, by decide⟩ ⟨by decide, by decide⟩ (by decide) (by decide) (by decide) (by decide) (by decide) (by decide) (dec_le hd) hd hm (lamp_false hm)

theorem laws_k3 (l : Nat) (w : World) (hT : Tab w) :
    Calls Tryd.prog 8 #[.agg #[.int .u8 ((3 : Nat) : Int), .int .u8 l]] w fun e w' => e = .returned (.bool true) ∧ Below w.heap.size w w' := by
  by_cases h : l ≤ 0
  · have hd : decide (l ≤ 0) = true := decide_eq_true h
    have hm := may_true (k := 3) (by decide) h (Or.inl (by decide))
    exact laws_C1 3 l 0 false w hT ⟨by decide, by decide, by decide, by decide, by decide⟩ ⟨by decide, by decide⟩ (by decide) (by decide) (by decide) (by decide) (by decide) (by decide) (dec_le hd) hd hm (lamp_no (by decide) (by decide))
  · have hd : decide (l ≤ 0) = false := decide_eq_false h
    have hm := may_high (k := 3) h
    exact laws_C0 3 l 0 false w hT ⟨by decide, by decide, by decide, by decide, by decide⟩ ⟨by decide, by decide⟩ (by decide) (by decide) (by decide) (by decide) (by decide) (by decide) (dec_le hd) hd hm (lamp_false hm)

theorem laws_k4 (l : Nat) (w : World) (hT : Tab w) :
    Calls Tryd.prog 8 #[.agg #[.int .u8 ((4 : Nat) : Int), .int .u8 l]] w fun e w' => e = .returned (.bool true) ∧ Below w.heap.size w w' := by
  by_cases h : l ≤ 0
  · have hd : decide (l ≤ 0) = true := decide_eq_true h
    have hm := may_true (k := 4) (by decide) h (Or.inl (by decide))
    exact laws_D1 4 l 0 false w hT ⟨by decide, by decide, by decide, by decide, by decide⟩ ⟨by decide, by decide⟩ (by decide) (by decide) (by decide) (by decide) (by decide) (by decide) (dec_le hd) hd hm (lamp_no (by decide) (by decide))
  · have hd : decide (l ≤ 0) = false := decide_eq_false h
    have hm := may_high (k := 4) h
    exact laws_D0 4 l 0 false w hT ⟨by decide, by decide, by decide, by decide, by decide⟩ ⟨by decide, by decide⟩ (by decide) (by decide) (by decide) (by decide) (by decide) (by decide) (dec_le hd) hd hm (lamp_false hm)

theorem laws_k5 (l : Nat) (w : World) (hT : Tab w) :
    Calls Tryd.prog 8 #[.agg #[.int .u8 ((5 : Nat) : Int), .int .u8 l]] w fun e w' => e = .returned (.bool true) ∧ Below w.heap.size w w' := by
  by_cases h : l ≤ 0
  · have hd : decide (l ≤ 0) = true := decide_eq_true h
    have hm := may_true (k := 5) (by decide) h (Or.inl (by decide))
    exact laws_D1 5 l 0 false w hT ⟨by decide, by decide, by decide, by decide, by decide⟩ ⟨by decide, by decide⟩ (by decide) (by decide) (by decide) (by decide) (by decide) (by decide) (dec_le hd) hd hm (lamp_no (by decide) (by decide))
  · have hd : decide (l ≤ 0) = false := decide_eq_false h
    have hm := may_high (k := 5) h
    exact laws_D0 5 l 0 false w hT ⟨by decide, by decide, by decide, by decide, by decide⟩ ⟨by decide, by decide⟩ (by decide) (by decide) (by decide) (by decide) (by decide) (by decide) (dec_le hd) hd hm (lamp_false hm)

theorem laws_k6 (l : Nat) (w : World) (hT : Tab w) :
    Calls Tryd.prog 8 #[.agg #[.int .u8 ((6 : Nat) : Int), .int .u8 l]] w fun e w' => e = .returned (.bool true) ∧ Below w.heap.size w w' := by
  by_cases h : l ≤ 0
  · have hd : decide (l ≤ 0) = true := decide_eq_true h
    have hm := may_true (k := 6) (by decide) h (Or.inl (by decide))
    exact laws_C1 6 l 0 true w hT ⟨by decide, by decide, by decide, by decide, by decide⟩ ⟨by decide, by decide⟩ (by decide) (by decide) (by decide) (by decide) (by decide) (by decide) (dec_le hd) hd hm (lamp_no (by decide) (by decide))
  · have hd : decide (l ≤ 0) = false := decide_eq_false h
    have hm := may_high (k := 6) h
    exact laws_C0 6 l 0 true w hT ⟨by decide, by decide, by decide, by decide, by decide⟩ ⟨by decide, by decide⟩ (by decide) (by decide) (by decide) (by decide) (by decide) (by decide) (dec_le hd) hd hm (lamp_false hm)

theorem laws_k7 (l : Nat) (w : World) (hT : Tab w) :
    Calls Tryd.prog 8 #[.agg #[.int .u8 ((7 : Nat) : Int), .int .u8 l]] w fun e w' => e = .returned (.bool true) ∧ Below w.heap.size w w' := by
  by_cases h : l ≤ 0
  · have hd : decide (l ≤ 0) = true := decide_eq_true h
    have hm := may_true (k := 7) (by decide) h (Or.inl (by decide))
    exact laws_C1 7 l 0 true w hT ⟨by decide, by decide, by decide, by decide, by decide⟩ ⟨by decide, by decide⟩ (by decide) (by decide) (by decide) (by decide) (by decide) (by decide) (dec_le hd) hd hm (lamp_no (by decide) (by decide))
  · have hd : decide (l ≤ 0) = false := decide_eq_false h
    have hm := may_high (k := 7) h
    exact laws_C0 7 l 0 true w hT ⟨by decide, by decide, by decide, by decide, by decide⟩ ⟨by decide, by decide⟩ (by decide) (by decide) (by decide) (by decide) (by decide) (by decide) (dec_le hd) hd hm (lamp_false hm)

theorem laws_k8 (l : Nat) (w : World) (hT : Tab w) :
    Calls Tryd.prog 8 #[.agg #[.int .u8 ((8 : Nat) : Int), .int .u8 l]] w fun e w' => e = .returned (.bool true) ∧ Below w.heap.size w w' := by
  by_cases h : l ≤ 0
  · have hd : decide (l ≤ 0) = true := decide_eq_true h
    have hm := may_true (k := 8) (by decide) h (Or.inl (by decide))
    exact laws_D1 8 l 0 false w hT ⟨by decide, by decide, by decide, by decide, by decide⟩ ⟨by decide, by decide⟩ (by decide) (by decide) (by decide) (by decide) (by decide) (by decide) (dec_le hd) hd hm (lamp_no (by decide) (by decide))
  · have hd : decide (l ≤ 0) = false := decide_eq_false h
    have hm := may_high (k := 8) h
    exact laws_D0 8 l 0 false w hT ⟨by decide, by decide, by decide, by decide, by decide⟩ ⟨by decide, by decide⟩ (by decide) (by decide) (by decide) (by decide) (by decide) (by decide) (dec_le hd) hd hm (lamp_false hm)

theorem laws_k9 (l : Nat) (w : World) (hT : Tab w) :
    Calls Tryd.prog 8 #[.agg #[.int .u8 ((9 : Nat) : Int), .int .u8 l]] w fun e w' => e = .returned (.bool true) ∧ Below w.heap.size w w' := by
  by_cases h : l ≤ 0
  · have hd : decide (l ≤ 0) = true := decide_eq_true h
    have hm := may_true (k := 9) (by decide) h (Or.inl (by decide))
    exact laws_E1 9 l 0 false w hT ⟨by decide, by decide, by decide, by decide, by decide⟩ ⟨by decide, by decide⟩ (by decide) (by decide) (by decide) (by decide) (by decide) (by decide) (dec_le hd) hd hm (lamp_no (by decide) (by decide))
  · have hd : decide (l ≤ 0) = false := decide_eq_false h
    have hm := may_high (k := 9) h
    exact laws_E0 9 l 0 false w hT ⟨by decide, by decide, by decide, by decide, by decide⟩ ⟨by decide, by decide⟩ (by decide) (by decide) (by decide) (by decide) (by decide) (by decide) (dec_le hd) hd hm (lamp_false hm)

theorem laws_k10 (l : Nat) (w : World) (hT : Tab w) :
    Calls Tryd.prog 8 #[.agg #[.int .u8 ((10 : Nat) : Int), .int .u8 l]] w fun e w' => e = .returned (.bool true) ∧ Below w.heap.size w w' := by
  by_cases h : l ≤ 0
  · have hd : decide (l ≤ 0) = true := decide_eq_true h
    have hm := may_true (k := 10) (by decide) h (Or.inl (by decide))
    exact laws_M1 10 l 0 false w hT ⟨by decide, by decide, by decide, by decide, by decide⟩ ⟨by decide, by decide⟩ (by decide) (by decide) (by decide) (by decide) (by decide) (by decide) (by decide) (by decide) (by decide) (by decide) (dec_le hd) hd hm (lamp_no (by decide) (by decide))
  · have hd : decide (l ≤ 0) = false := decide_eq_false h
    have hm := may_high (k := 10) h
    exact laws_M0 10 l 0 false w hT ⟨by decide, by decide, by decide, by decide, by decide⟩ ⟨by decide, by decide⟩ (by decide) (by decide) (by decide) (by decide) (by decide) (by decide) (by decide) (by decide) (by decide) (by decide) (dec_le hd) hd hm (lamp_false hm)

theorem laws_k11 (l : Nat) (w : World) (hT : Tab w) :
    Calls Tryd.prog 8 #[.agg #[.int .u8 ((11 : Nat) : Int), .int .u8 l]] w fun e w' => e = .returned (.bool true) ∧ Below w.heap.size w w' := by
  by_cases h : l ≤ 15
  · have hd : decide (l ≤ 15) = true := decide_eq_true h
    by_cases hp : 0 < l
    · have hq : decide (0 < l) = true := decide_eq_true hp
      have hm := may_true (k := 11) (by decide) h (Or.inr hp)
      exact laws_K1 11 l 15 false w hT ⟨by decide, by decide, by decide, by decide, by decide⟩ ⟨by decide, by decide⟩ (by decide) (by decide) (by decide) (by decide) (by decide) (by decide) (dec_le hd) hd (dec_lt hq) hq (by simp; omega) (by simp; omega) hm (lamp_11 hm)
    · have hq : decide (0 < l) = false := decide_eq_false hp
      have hm := may_dark hp
      exact laws_K0 11 l 15 false w hT ⟨by decide, by decide, by decide, by decide, by decide⟩ ⟨by decide, by decide⟩ (by decide) (by decide) (by decide) (by decide) (by decide) (by decide) (dec_le hd) hd (dec_lt hq) hq hm (lamp_false hm)
  · have hd : decide (l ≤ 15) = false := decide_eq_false h
    have hm := may_high (k := 11) h
    exact laws_K2 11 l 15 false w hT ⟨by decide, by decide, by decide, by decide, by decide⟩ ⟨by decide, by decide⟩ (by decide) (by decide) (by decide) (by decide) (by decide) (by decide) (dec_le hd) hd hm (lamp_false hm)

theorem laws_k12 (l : Nat) (w : World) (hT : Tab w) :
    Calls Tryd.prog 8 #[.agg #[.int .u8 ((12 : Nat) : Int), .int .u8 l]] w fun e w' => e = .returned (.bool true) ∧ Below w.heap.size w w' := by
  by_cases h : l ≤ 3
  · have hd : decide (l ≤ 3) = true := decide_eq_true h
    have hm := may_true (k := 12) (by decide) h (Or.inl (by decide))
    exact laws_A1 12 l 3 true w hT ⟨by decide, by decide, by decide, by decide, by decide⟩ ⟨by decide, by decide⟩ (by decide) (by decide) (by decide) (by decide) (by decide) (by decide) (dec_le hd) hd hm (lamp_no (by decide) (by decide))
  · have hd : decide (l ≤ 3) = false := decide_eq_false h
    have hm := may_high (k := 12) h
    exact laws_A0 12 l 3 true w hT ⟨by decide, by decide, by decide, by decide, by decide⟩ ⟨by decide, by decide⟩ (by decide) (by decide) (by decide) (by decide) (by decide) (by decide) (dec_le hd) hd hm (lamp_false hm)

theorem laws_k13 (l : Nat) (w : World) (hT : Tab w) :
    Calls Tryd.prog 8 #[.agg #[.int .u8 ((13 : Nat) : Int), .int .u8 l]] w fun e w' => e = .returned (.bool true) ∧ Below w.heap.size w w' := by
  by_cases h : l ≤ 7
  · have hd : decide (l ≤ 7) = true := decide_eq_true h
    have hm := may_true (k := 13) (by decide) h (Or.inl (by decide))
    exact laws_F1 13 l 7 false w hT ⟨by decide, by decide, by decide, by decide, by decide⟩ ⟨by decide, by decide⟩ (by decide) (by decide) (by decide) (by decide) (by decide) (by decide) (by decide) (by decide) (dec_le hd) hd hm (lamp_no (by decide) (by decide))
  · have hd : decide (l ≤ 7) = false := decide_eq_false h
    have hm := may_high (k := 13) h
    exact laws_F0 13 l 7 false w hT ⟨by decide, by decide, by decide, by decide, by decide⟩ ⟨by decide, by decide⟩ (by decide) (by decide) (by decide) (by decide) (by decide) (by decide) (by decide) (by decide) (dec_le hd) hd hm (lamp_false hm)

theorem laws_k14 (l : Nat) (w : World) (hT : Tab w) :
    Calls Tryd.prog 8 #[.agg #[.int .u8 ((14 : Nat) : Int), .int .u8 l]] w fun e w' => e = .returned (.bool true) ∧ Below w.heap.size w w' := by
  by_cases h : l ≤ 1
  · have hd : decide (l ≤ 1) = true := decide_eq_true h
    have hm := may_true (k := 14) (by decide) h (Or.inl (by decide))
    exact laws_A2 14 l 1 false w hT ⟨by decide, by decide, by decide, by decide, by decide⟩ ⟨by decide, by decide⟩ (by decide) (by decide) (by decide) (by decide) (by decide) (by decide) (dec_le hd) hd hm (lamp_14 hm)
  · have hd : decide (l ≤ 1) = false := decide_eq_false h
    have hm := may_high (k := 14) h
    exact laws_A0 14 l 1 false w hT ⟨by decide, by decide, by decide, by decide, by decide⟩ ⟨by decide, by decide⟩ (by decide) (by decide) (by decide) (by decide) (by decide) (by decide) (dec_le hd) hd hm (lamp_false hm)

theorem law_laws (k l : Nat) (w : World) (hT : Tab w) :
    Calls Tryd.prog 8 #[.agg #[.int .u8 k, .int .u8 l]] w fun e w' => e = .returned (.bool true) ∧ Below w.heap.size w w' := by
  by_cases h : k < 15
  · match k, h with
    | 0, _ => exact laws_k0 l w hT
    | 1, _ => exact laws_k1 l w hT
    | 2, _ => exact laws_k2 l w hT
    | 3, _ => exact laws_k3 l w hT
    | 4, _ => exact laws_k4 l w hT
    | 5, _ => exact laws_k5 l w hT
    | 6, _ => exact laws_k6 l w hT
    | 7, _ => exact laws_k7 l w hT
    | 8, _ => exact laws_k8 l w hT
    | 9, _ => exact laws_k9 l w hT
    | 10, _ => exact laws_k10 l w hT
    | 11, _ => exact laws_k11 l w hT
    | 12, _ => exact laws_k12 l w hT
    | 13, _ => exact laws_k13 l w hT
    | 14, _ => exact laws_k14 l w hT
  · have hm := may_out (k := k) (l := l) h
    have ho : ∀ f : List Nat, (∀ x ∈ f, x < 15) → inL f k = false := fun f hf => inL_out (by omega) hf
    exact laws_G k l w hT ⟨ho _ (by decide), ho _ (by decide), ho _ (by decide), ho _ (by decide), ho _ (by decide)⟩ ⟨ho _ (by decide), by simp [KindP.most, mosts, List.getD, h]⟩ (by simp; omega) (by simp; omega) (by simp; omega) (by simp; omega) hm (lamp_false hm)
end KindW
end Go.Proofs.YtfhfmjfhceinmaaDoor
