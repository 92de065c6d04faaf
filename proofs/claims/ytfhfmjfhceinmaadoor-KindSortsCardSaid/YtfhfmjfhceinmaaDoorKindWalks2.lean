/-
  The walks of package kind and of its reference, continued: the lists of the reference, levels, cells that may be, lamps, names looked up.
-/
import Derived.Test.YtfhfmjfhceinmaaDoorKindWalks
namespace Go.Proofs.YtfhfmjfhceinmaaDoor
open Go.RowKit
namespace KindW
open KindP

theorem row_new (w : World) (l : List Nat) (t : TypeId) : Row (w.alloc (.cells (l.map fun (n : Nat) => Value.int .u8 (n : Int)).toArray t)) w.heap.size l := by
  intro i hi
  rw [World.cell?_alloc_new]
  simp [hi]

set_option maxHeartbeats 400000 in
theorem r_clear (k : Nat) (w : World) :
    Calls Tryd.prog 15 #[.int .u8 k] w fun e w' => e = .returned (.bool (clear k)) ∧ Below w.heap.size w w' := by
  have hr := row_new w [0, 9, 11, 12, 13, 14] 5
  go_enter Tryd.func15, Tryd.ntmps15
  go_wp2_with (go_at_call 35; refine (r_in k _ _ _ [0, 9, 11, 12, 13, 14] _ rfl (by decide) ?hr).mono ?_; exact hr; rintro e w' ⟨rfl, rfl⟩)
  go_ret
  exact ⟨rfl, (Below.refl _ _).alloc (Nat.le_refl _) _⟩

set_option maxHeartbeats 400000 in
theorem r_movable (k : Nat) (w : World) :
    Calls Tryd.prog 17 #[.int .u8 k] w fun e w' => e = .returned (.bool (movable k)) ∧ Below w.heap.size w w' := by
  have hr := row_new w [2, 3, 4, 5, 6, 7, 8, 9] 5
  go_enter Tryd.func17, Tryd.ntmps17
  go_wp2_with (go_at_call 35; refine (r_in k _ _ _ [2, 3, 4, 5, 6, 7, 8, 9] _ rfl (by decide) ?hr).mono ?_; exact hr; rintro e w' ⟨rfl, rfl⟩)
  go_ret
  exact ⟨rfl, (Below.refl _ _).alloc (Nat.le_refl _) _⟩

set_option maxHeartbeats 400000 in
theorem r_yields (k : Nat) (w : World) :
    Calls Tryd.prog 19 #[.int .u8 k] w fun e w' => e = .returned (.bool (yields k)) ∧ Below w.heap.size w w' := by
  have hr := row_new w [0, 11, 12, 13, 14] 5
  go_enter Tryd.func19, Tryd.ntmps19
  go_wp2_with (go_at_call 35; refine (r_in k _ _ _ [0, 11, 12, 13, 14] _ rfl (by decide) ?hr).mono ?_; exact hr; rintro e w' ⟨rfl, rfl⟩)
  go_ret
  exact ⟨rfl, (Below.refl _ _).alloc (Nat.le_refl _) _⟩

set_option maxHeartbeats 400000 in
theorem r_soaks (k : Nat) (w : World) :
    Calls Tryd.prog 21 #[.int .u8 k] w fun e w' => e = .returned (.bool (soaks k)) ∧ Below w.heap.size w w' := by
  have hr := row_new w [0, 11, 12, 14] 5
  go_enter Tryd.func21, Tryd.ntmps21
  go_wp2_with (go_at_call 35; refine (r_in k _ _ _ [0, 11, 12, 14] _ rfl (by decide) ?hr).mono ?_; exact hr; rintro e w' ⟨rfl, rfl⟩)
  go_ret
  exact ⟨rfl, (Below.refl _ _).alloc (Nat.le_refl _) _⟩

set_option maxHeartbeats 400000 in
theorem r_falls (k : Nat) (w : World) :
    Calls Tryd.prog 23 #[.int .u8 k] w fun e w' => e = .returned (.bool (falls k)) ∧ Below w.heap.size w w' := by
  have hr := row_new w [4, 5, 8] 5
  go_enter Tryd.func23, Tryd.ntmps23
  go_wp2_with (go_at_call 35; refine (r_in k _ _ _ [4, 5, 8] _ rfl (by decide) ?hr).mono ?_; exact hr; rintro e w' ⟨rfl, rfl⟩)
  go_ret
  exact ⟨rfl, (Below.refl _ _).alloc (Nat.le_refl _) _⟩

set_option maxHeartbeats 400000 in
theorem r_burns (k : Nat) (w : World) :
    Calls Tryd.prog 25 #[.int .u8 k] w fun e w' => e = .returned (.bool (burns k)) ∧ Below w.heap.size w w' := by
  have hr := row_new w [6, 7, 12] 5
  go_enter Tryd.func25, Tryd.ntmps25
  go_wp2_with (go_at_call 35; refine (r_in k _ _ _ [6, 7, 12] _ rfl (by decide) ?hr).mono ?_; exact hr; rintro e w' ⟨rfl, rfl⟩)
  go_ret
  exact ⟨rfl, (Below.refl _ _).alloc (Nat.le_refl _) _⟩

set_option maxHeartbeats 400000 in
theorem r_levels (k : Nat) (w : World) :
    Calls Tryd.prog 27 #[.int .u8 k] w fun e w' => e = .returned (.int .u8 (KindP.most k)) ∧ w = w' := by
  by_cases h11 : k = 11
  · subst h11
    go_enter Tryd.func27, Tryd.ntmps27
    go_wp2
    go_ret
    exact ⟨rfl, rfl⟩
  by_cases h12 : k = 12
  · subst h12
    go_enter Tryd.func27, Tryd.ntmps27
    go_wp2
    go_ret
    exact ⟨rfl, rfl⟩
  by_cases h13 : k = 13
  · subst h13
    go_enter Tryd.func27, Tryd.ntmps27
    go_wp2
    go_ret
    exact ⟨rfl, rfl⟩
  by_cases h14 : k = 14
  · subst h14
    go_enter Tryd.func27, Tryd.ntmps27
    go_wp2
    go_ret
    exact ⟨rfl, rfl⟩
  have e : Hid (KindP.most k = 0) := Lib.hid (by
    by_cases h : k < 15
    · revert h11 h12 h13 h14
      revert k
      decide
    · simp [KindP.most, mosts, List.getD, h])
  have e11 : ((k : Int) == 11) = false := by simp; omega
  have e12 : ((k : Int) == 12) = false := by simp; omega
  have e13 : ((k : Int) == 13) = false := by simp; omega
  have e14 : ((k : Int) == 14) = false := by simp; omega
  clear h11 h12 h13 h14
  go_enter Tryd.func27, Tryd.ntmps27
  go_wp2
  go_ret
  exact ⟨by rw [e.out]; rfl, rfl⟩

set_option maxHeartbeats 400000 in
theorem r_name (k : Nat) (w : World) :
    Calls Tryd.prog 12 #[.int .u8 k] w fun e w' => e = .returned (.string ⟨(nm k).toArray⟩) ∧ Below w.heap.size w w' := by
  by_cases h : k < 15
  · go_enter Tryd.func12, Tryd.ntmps12
    go_wp2
    go_ret
    refine ⟨?_, (Below.refl _ _).alloc (Nat.le_refl _) _⟩
    match k, h with
    | 0, _ | 1, _ | 2, _ | 3, _ | 4, _ | 5, _ | 6, _ | 7, _ | 8, _ | 9, _ | 10, _ | 11, _ | 12, _ | 13, _ | 14, _ => rfl
  · have e : Hid (nm k = []) := Lib.hid (nm_out (by omega))
    go_enter Tryd.func12, Tryd.ntmps12
    go_wp2
    go_ret
    exact ⟨by rw [e.out]; rfl, (Below.refl _ _).alloc (Nat.le_refl _) _⟩

end KindW
end Go.Proofs.YtfhfmjfhceinmaaDoor
