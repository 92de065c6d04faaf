/-
  The library's calls at a disk: maps.Clone, slices.Clone.
-/
import Derived.Test.YtknckaegpdganaaDoorSectorDisk
-- mine: whole_c same_c awake_c take_c step_c back_c
namespace Go.Proofs.YtknckaegpdganaaDoor
open Go.RowKit
set_option linter.unusedVariables false
set_option linter.unusedSimpArgs false
set_option maxRecDepth 100000
namespace SecW
open BlkP RowG FrS PushG JournalP SecP
section
variable {w : World} {B pd M n : Nat} {d : Dk} {S : Nat → Prop} {f : Nat → Sec}
theorem clone_c (h : MapD w M n f) :
    Calls Tryd.prog 45 #[.map (some M)] w fun e w' => e = .returned (.map (some w.heap.size)) ∧ MapD w' w.heap.size n f ∧ Below w.heap.size w w' := by
  obtain ⟨h0, D, b, h1, h2⟩ := h
  refine (AnyW.maps_Clone_owns cloneL 3 secElem M b D w h1).mono ?_
  rintro e w' ⟨he, h3, _, hb⟩
  exact ⟨he, ⟨h0, D, b, h3, h2⟩, hb⟩
theorem clone_d (h : MapD w M n f) :
    Calls Tryd.prog 45 #[.map (some M)] w fun e w' => ∃ M', e = .returned (.map (some M')) ∧ w.heap.size ≤ M' ∧ MapD w' M' n f ∧ Below w.heap.size w w' := by
  refine (clone_c h).mono ?_
  rintro e w' ⟨rfl, hm, hb⟩
  exact ⟨_, rfl, Nat.le_refl _, hm, hb⟩
theorem own_madeW {w : World} : RowG.Own encW TW (w.alloc (.cells #[] TW)) w.heap.size (.slice (some ⟨w.heap.size, 0, none⟩) 0 0) [] := World.ownsRow_made w #[] 0 (Nat.le_refl _) (Nat.zero_le _) rfl
end
end SecW
end Go.Proofs.YtknckaegpdganaaDoor
