/-
  The walk of the law KindCells: it returns true, and of what was there nothing has turned.
-/
import Derived.Test.YtfhfmjfhceinmaaDoorKindWalks4
import Derived.Deep.RegionHeld3
import Derived.Deep.DrawnRows
namespace Go.Proofs.YtfhfmjfhceinmaaDoor
open Go.RowKit
attribute [local go_sem ↓] Go.wp_at_zero Go.wp_at_succ
namespace KindW
open KindP

/-- What stays true of the world while the law runs: the table lies, and below the call's own blocks nothing has turned. -/
def Good (w w' : World) : Prop := Tab w' ∧ Below w.heap.size w w'
theorem Good.tab {w w' : World} (h : Good w w') : Tab w' := h.1
theorem Good.go {w w1 w2 : World} (h : Good w w1) (b : Below w1.heap.size w1 w2) : Good w w2 := ⟨h.1.below b, h.2.trans (b.mono h.2.size)⟩
theorem Good.drew {w w1 : World} (h : Good w w1) : Good w w1.drew := h.go ((Below.refl _ _).drew)

theorem S_tab {k l : Nat} {w w1 : World} (h : w1.cell? ⟨w.heap.size, 0, none⟩ = some (.int .u8 k) ∧ w1.cell? ⟨w.heap.size, 1, none⟩ = some (.int .u8 l) ∧ w.heap.size < w1.heap.size ∧ Good w w1) : Tab w1 := h.2.2.2.1
theorem S_below {k l : Nat} {w w1 : World} (h : w1.cell? ⟨w.heap.size, 0, none⟩ = some (.int .u8 k) ∧ w1.cell? ⟨w.heap.size, 1, none⟩ = some (.int .u8 l) ∧ w.heap.size < w1.heap.size ∧ Good w w1) : Below w.heap.size w w1 := h.2.2.2.2
theorem S_keep {k l : Nat} {w w1 w2 : World} (b : Below w1.heap.size w1 w2)
    (h : w1.cell? ⟨w.heap.size, 0, none⟩ = some (.int .u8 k) ∧ w1.cell? ⟨w.heap.size, 1, none⟩ = some (.int .u8 l) ∧ w.heap.size < w1.heap.size ∧ Good w w1) : w2.cell? ⟨w.heap.size, 0, none⟩ = some (.int .u8 k) ∧ w2.cell? ⟨w.heap.size, 1, none⟩ = some (.int .u8 l) ∧ w.heap.size < w2.heap.size ∧ Good w w2 := by
  obtain ⟨h0, h1, hs, hG⟩ := h
  exact ⟨(b.cell hs).trans h0, (b.cell hs).trans h1, Nat.lt_of_lt_of_le hs b.size, hG.go b⟩

set_option maxHeartbeats 1000000 in
theorem law_cells (k l : Nat) (w : World) (hT : Tab w) :
    Calls Tryd.prog 5 #[.agg #[.int .u8 k, .int .u8 l]] w fun e w' => e = .returned (.bool true) ∧ Below w.heap.size w w' := by
  have hG : Good w (w.alloc (.cells #[.int .u8 k, .int .u8 l] 30)) := ⟨hT.below ((Below.refl _ w).alloc (Nat.le_refl _) _), (Below.refl _ w).alloc (Nat.le_refl _) _⟩
  clear hT
  go_enter Tryd.func5, Tryd.ntmps5
  go_wp2_with fail
  go_region_held3 (fun w' => w'.cell? ⟨w.heap.size, 0, none⟩ = some (.int .u8 k) ∧ w'.cell? ⟨w.heap.size, 1, none⟩ = some (.int .u8 l) ∧ w.heap.size < w'.heap.size ∧ Good w w')
    (first | (exact ⟨by simp, by simp, by simp, Good.drew hG⟩) | (exact S_keep (by assumption) (by assumption)))
    (first | (go_at_call 28; refine (k_may k l _ ?_).mono ?_; exact S_tab (k := k) (l := l) (w := w) (by assumption); rintro e w' ⟨rfl, hb⟩) | (go_at_call 29; refine (r_may k l _).mono ?_; rintro e w' ⟨rfl, hb⟩) | (go_at_call 30; refine (k_lamp k l _ ?_).mono ?_; exact S_tab (k := k) (l := l) (w := w) (by assumption); rintro e w' ⟨rfl, hb⟩) | (go_at_call 31; refine (r_lamp k l _).mono ?_; rintro e w' ⟨rfl, hb⟩) | (go_at_call 13; refine (awake _ ?_).mono ?_; exact S_tab (k := k) (l := l) (w := w) (by assumption); rintro e w' ⟨rfl, hb⟩))
  go_wp2
  go_ret
  refine ⟨rfl, ?_⟩
  exact S_below (k := k) (l := l) (by assumption)
end KindW
end Go.Proofs.YtfhfmjfhceinmaaDoor
