/-
  What the walks of the law KindLaws share.
-/
import Derived.Test.YtfhfmjfhceinmaaDoorKindLaws3
namespace Go.Proofs.YtfhfmjfhceinmaaDoor
open Go.RowKit
attribute [local go_sem ↓] Go.wp_at_zero Go.wp_at_succ
set_option linter.unusedSimpArgs false
set_option linter.unusedVariables false
namespace KindW
open KindP

/-- All that the law asks of a kind. -/
structure Sorts (k : Nat) (s y c m f : Bool) : Prop where
  soaks : soaks k = s
  yields : yields k = y
  clear : clear k = c
  movable : movable k = m
  falls : falls k = f

theorem S_start {k l : Nat} {w : World} (h : Good w (w.alloc (.cells #[.int .u8 k, .int .u8 l] 30))) :
    (w.alloc (.cells #[.int .u8 k, .int .u8 l] 30)).drew.cell? ⟨w.heap.size, 0, none⟩ = some (.int .u8 k) ∧ (w.alloc (.cells #[.int .u8 k, .int .u8 l] 30)).drew.cell? ⟨w.heap.size, 1, none⟩ = some (.int .u8 l) ∧
      w.heap.size < (w.alloc (.cells #[.int .u8 k, .int .u8 l] 30)).drew.heap.size ∧ Good w (w.alloc (.cells #[.int .u8 k, .int .u8 l] 30)).drew :=
  ⟨by simp, by simp, by simp, h.drew⟩

theorem may_true {k l : Nat} (hk : k < 15) (hl : l ≤ KindP.most k) (h : k ≠ 11 ∨ 0 < l) : may k l = true := by
  rw [may_levels]
  simp [hk, hl]
  rcases h with h | h
  · exact Or.inl h
  · exact Or.inr h
theorem may_high {k l : Nat} (hl : ¬ l ≤ KindP.most k) : may k l = false := by
  rw [may_levels]
  simp
  omega
theorem may_dark {l : Nat} (hl : ¬ 0 < l) : may 11 l = false := by
  rw [may_levels]
  simp
  omega
theorem may_out {k l : Nat} (hk : ¬ k < 15) : may k l = false := by simp [may, hk]
theorem lamp_no {k l : Nat} (h11 : k ≠ 11) (h14 : k ≠ 14) : KindP.lamp k l = 0 := by simp [KindP.lamp, h11, h14]
theorem lamp_false {k l : Nat} (h : may k l = false) : KindP.lamp k l = 0 := by simp [KindP.lamp, h]
theorem lamp_14 {l : Nat} (h : may 14 l = true) : KindP.lamp 14 l = 10 := by simp [KindP.lamp, h]
theorem lamp_11 {l : Nat} (h : may 11 l = true) : KindP.lamp 11 l = l := by simp [KindP.lamp, h]
end KindW
end Go.Proofs.YtfhfmjfhceinmaaDoor
