/-
  The walks of package kind and of its reference: what each function answers, said by the plain functions of KindPlain, given that the table lies in its variable.
-/
import Derived.Test.YtfhfmjfhceinmaaDoorRows
import Derived.Test.YtfhfmjfhceinmaaDoorKindPlain
import Derived.WalkKit
import Derived.WalkSpells
import Derived.WalkLawsBesides
import Derived.Deep.QuietTactic
import Derived.BigQuiet
import Derived.Lib.Hide
namespace Go.Proofs.YtfhfmjfhceinmaaDoor
open Go.RowKit
namespace KindW
open KindP

/-- The table lies in its variable. -/
structure Tab (w : World) : Prop where
  name : ∀ k, k < 15 → w.cell? ⟨0, k * 4, none⟩ = some (.string ⟨(nm k).toArray⟩)
  least : ∀ k, k < 15 → w.cell? ⟨0, k * 4 + 1, none⟩ = some (.int .u8 (least k))
  most : ∀ k, k < 15 → w.cell? ⟨0, k * 4 + 2, none⟩ = some (.int .u8 (most k))
  trait : ∀ k, k < 15 → w.cell? ⟨0, k * 4 + 3, none⟩ = some (.int .u8 (trait k))
  size : 0 < w.heap.size

theorem Tab.below {w w' : World} (h : Tab w) (b : Below w.heap.size w w') : Tab w' :=
  ⟨fun k hk => (b.cell (p := ⟨0, _, none⟩) h.size).trans (h.name k hk), fun k hk => (b.cell (p := ⟨0, _, none⟩) h.size).trans (h.least k hk),
    fun k hk => (b.cell (p := ⟨0, _, none⟩) h.size).trans (h.most k hk), fun k hk => (b.cell (p := ⟨0, _, none⟩) h.size).trans (h.trait k hk), Nat.lt_of_lt_of_le h.size b.size⟩

set_option maxHeartbeats 400000 in
theorem name_any (k : Nat) (w : World) (hT : Tab w) :
    Calls Tryd.prog 11 #[.int .u8 k] w fun e w' => e = .returned (.string ⟨(nm k).toArray⟩) ∧ w = w' := by
  by_cases h : k < 15
  · have hc := hT.name k h
    clear hT
    go_enter Tryd.func11, Tryd.ntmps11
    go_wp2
    go_ret
    exact ⟨rfl, rfl⟩
  · have e : Hid (nm k = []) := Lib.hid (nm_out (by omega))
    clear hT
    go_enter Tryd.func11, Tryd.ntmps11
    go_wp2
    go_ret
    exact ⟨by rw [e.out]; rfl, rfl⟩

/-- The bits of a kind, asked by package kind. -/
def bit (k : Nat) (t : Int) : Bool := bits BinOp.and IntKind.u8 (KindP.trait k) t != 0
def hasB (k : Nat) (t : Int) : Bool := decide (k < 15) && bit k t

set_option maxHeartbeats 400000 in
theorem has_any (k : Nat) (t : Int) (w : World) (hT : Tab w) :
    Calls Tryd.prog 34 #[.int .u8 k, .int .u8 t] w fun e w' => e = .returned (.bool (hasB k t)) ∧ w = w' := by
  by_cases h : k < 15
  · have hc := hT.trait k h
    have e : Hid (hasB k t = bit k t) := Lib.hid (by simp [hasB, h])
    clear hT
    go_enter Tryd.func34, Tryd.ntmps34
    go_wp2
    go_ret
    exact ⟨by rw [e.out]; rfl, rfl⟩
  · have e : Hid (hasB k t = false) := Lib.hid (by simp [hasB, h])
    clear hT
    go_enter Tryd.func34, Tryd.ntmps34
    go_wp2
    go_ret
    exact ⟨by rw [e.out]; rfl, rfl⟩

theorem inL_out {l : List Nat} {k : Nat} (h : 15 ≤ k) (hl : ∀ x ∈ l, x < 15) : inL l k = false := by
  unfold inL
  rw [List.contains_eq_any_beq, List.any_eq_false]
  intro x hx
  have := hl x hx
  simp
  omega
theorem hasB_of {f : Nat → Bool} {t : Int} (h : ∀ k, k < 15 → bit k t = f k) (ho : ∀ k, 15 ≤ k → f k = false) (k : Nat) : hasB k t = f k := by
  by_cases hk : k < 15
  · simp [hasB, hk, h k hk]
  · simp [hasB, hk, ho k (by omega)]
theorem b_clear (k : Nat) : hasB k 1 = clear k := hasB_of (by decide) (fun _ h => inL_out h (by decide)) k
theorem b_movable (k : Nat) : hasB k 2 = movable k := hasB_of (by decide) (fun _ h => inL_out h (by decide)) k
theorem b_yields (k : Nat) : hasB k 4 = yields k := hasB_of (by decide) (fun _ h => inL_out h (by decide)) k
theorem b_soaks (k : Nat) : hasB k 8 = soaks k := hasB_of (by decide) (fun _ h => inL_out h (by decide)) k
theorem b_falls (k : Nat) : hasB k 16 = falls k := hasB_of (by decide) (fun _ h => inL_out h (by decide)) k
theorem b_burns (k : Nat) : hasB k 32 = burns k := hasB_of (by decide) (fun _ h => inL_out h (by decide)) k

set_option maxHeartbeats 400000 in
theorem k_clear (k : Nat) (w : World) (hT : Tab w) :
    Calls Tryd.prog 14 #[.int .u8 k] w fun e w' => e = .returned (.bool (clear k)) ∧ w = w' := by
  rw [← b_clear]
  go_enter Tryd.func14, Tryd.ntmps14
  go_wp2_with (go_at_call 34; refine (has_any k _ w hT).mono ?_; rintro e w' ⟨rfl, rfl⟩)
  go_ret
  exact ⟨rfl, rfl⟩

set_option maxHeartbeats 400000 in
theorem k_movable (k : Nat) (w : World) (hT : Tab w) :
    Calls Tryd.prog 16 #[.int .u8 k] w fun e w' => e = .returned (.bool (movable k)) ∧ w = w' := by
  rw [← b_movable]
  go_enter Tryd.func16, Tryd.ntmps16
  go_wp2_with (go_at_call 34; refine (has_any k _ w hT).mono ?_; rintro e w' ⟨rfl, rfl⟩)
  go_ret
  exact ⟨rfl, rfl⟩

set_option maxHeartbeats 400000 in
theorem k_yields (k : Nat) (w : World) (hT : Tab w) :
    Calls Tryd.prog 18 #[.int .u8 k] w fun e w' => e = .returned (.bool (yields k)) ∧ w = w' := by
  rw [← b_yields]
  go_enter Tryd.func18, Tryd.ntmps18
  go_wp2_with (go_at_call 34; refine (has_any k _ w hT).mono ?_; rintro e w' ⟨rfl, rfl⟩)
  go_ret
  exact ⟨rfl, rfl⟩

set_option maxHeartbeats 400000 in
theorem k_soaks (k : Nat) (w : World) (hT : Tab w) :
    Calls Tryd.prog 20 #[.int .u8 k] w fun e w' => e = .returned (.bool (soaks k)) ∧ w = w' := by
  rw [← b_soaks]
  go_enter Tryd.func20, Tryd.ntmps20
  go_wp2_with (go_at_call 34; refine (has_any k _ w hT).mono ?_; rintro e w' ⟨rfl, rfl⟩)
  go_ret
  exact ⟨rfl, rfl⟩

set_option maxHeartbeats 400000 in
theorem k_falls (k : Nat) (w : World) (hT : Tab w) :
    Calls Tryd.prog 22 #[.int .u8 k] w fun e w' => e = .returned (.bool (falls k)) ∧ w = w' := by
  rw [← b_falls]
  go_enter Tryd.func22, Tryd.ntmps22
  go_wp2_with (go_at_call 34; refine (has_any k _ w hT).mono ?_; rintro e w' ⟨rfl, rfl⟩)
  go_ret
  exact ⟨rfl, rfl⟩

set_option maxHeartbeats 400000 in
theorem k_burns (k : Nat) (w : World) (hT : Tab w) :
    Calls Tryd.prog 24 #[.int .u8 k] w fun e w' => e = .returned (.bool (burns k)) ∧ w = w' := by
  rw [← b_burns]
  go_enter Tryd.func24, Tryd.ntmps24
  go_wp2_with (go_at_call 34; refine (has_any k _ w hT).mono ?_; rintro e w' ⟨rfl, rfl⟩)
  go_ret
  exact ⟨rfl, rfl⟩

set_option maxHeartbeats 400000 in
theorem k_levels (k : Nat) (w : World) (hT : Tab w) :
    Calls Tryd.prog 26 #[.int .u8 k] w fun e w' => e = .returned (.int .u8 (KindP.most k)) ∧ w = w' := by
  by_cases h : k < 15
  · have hc := hT.most k h
    clear hT
    go_enter Tryd.func26, Tryd.ntmps26
    go_wp2
    go_ret
    exact ⟨rfl, rfl⟩
  · have e : Hid (KindP.most k = 0) := Lib.hid (by simp [KindP.most, mosts, List.getD, h])
    clear hT
    go_enter Tryd.func26, Tryd.ntmps26
    go_wp2
    go_ret
    exact ⟨by rw [e.out]; rfl, rfl⟩

/-- The list that a slice's block holds. -/
def Row (w : World) (b : Nat) (l : List Nat) : Prop := ∀ i, i < l.length → w.cell? ⟨b, i, none⟩ = some (.int .u8 (l.getD i 0))

set_option maxHeartbeats 400000 in
theorem r_in (k b n c : Nat) (l : List Nat) (w : World) (hn : n = l.length) (hl : l.length < 1000) (hc : Row w b l) :
    Calls Tryd.prog 35 #[.int .u8 k, .slice (some ⟨b, 0, none⟩) n c] w fun e w' => e = .returned (.bool (inL l k)) ∧ w = w' := by
  subst hn
  go_enter Tryd.func35, Tryd.ntmps35
  go_wp2
  go_loop [5] (fun i => ∃ j : Nat, j ≤ l.length ∧ i = .int .i64 j ∧ ∀ x ∈ l.take j, x ≠ k) (fun i => l.length - (intOf i).toNat)
  case atStart => exact ⟨0, by omega, rfl, by simp⟩
  case round =>
    obtain ⟨j, hj, rfl, hne⟩ := hrel
    by_cases hlt : j < l.length
    · have h1 := hc j hlt
      obtain ⟨y, hy⟩ : ∃ y, l.getD j 0 = y := ⟨_, rfl⟩
      have hm : l[j] = y := by
        rw [List.getD_eq_getElem?_getD, List.getElem?_eq_getElem hlt] at hy
        exact hy
      rw [hy] at h1
      by_cases he : y = k
      · have hin : Hid (inL l k = true) := Lib.hid (by
          unfold inL
          rw [List.contains_iff_mem, ← he, ← hm]
          exact List.getElem_mem hlt)
        subst he
        clear hy hm hc hne
        go_wp2
        go_ret
        exact ⟨by rw [hin.out]; rfl, rfl⟩
      · have hx2 : ((y : Int) == (k : Int)) = false := by simp; omega
        have hne2 : Hid (∀ x ∈ l.take (j + 1), x ≠ k) := Lib.hid (by
          intro x hx
          rw [List.take_succ_eq_append_getElem hlt, List.mem_append] at hx
          rcases hx with hx | hx
          · exact hne x hx
          · simp at hx
            rw [hx, hm]
            exact he)
        clear he hy hm hc hne
        go_wp2
        go_round
        case rel => exact ⟨j + 1, by omega, by go_num, hne2.out⟩
        case measure => simp [intOf]; omega
    · have hin : Hid (inL l k = false) := Lib.hid (by
        unfold inL
        rw [Bool.eq_false_iff]
        intro hk
        rw [List.contains_iff_mem] at hk
        rw [List.take_of_length_le (by omega)] at hne
        exact hne k hk rfl)
      clear hc hne
      go_wp2
      go_ret
      exact ⟨by rw [hin.out]; rfl, rfl⟩
end KindW
end Go.Proofs.YtfhfmjfhceinmaaDoor
