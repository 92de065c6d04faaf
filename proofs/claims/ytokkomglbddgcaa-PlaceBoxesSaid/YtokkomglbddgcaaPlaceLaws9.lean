/-
  The laws of place, ninth part: PlaceBoxes.
-/
import Derived.Test.YtokkomglbddgcaaPlaceLaws9A
import Derived.Test.YtokkomglbddgcaaPlaceLaws9B1
import Derived.Test.YtokkomglbddgcaaPlaceLaws9B2
import Derived.Test.YtokkomglbddgcaaPlaceLaws9EA
import Derived.Test.YtokkomglbddgcaaPlaceLaws9EB
namespace Go.Proofs.Ytokkomglbddgcaa
open Go.RowKit
namespace PlaceW
theorem law_boxes (x y z u v t leave : Int) (w : World) :
    Calls Try.prog 6 #[.agg #[.int .i64 x, .int .i64 y, .int .i64 z], .agg #[.int .i64 u, .int .i64 v, .int .i64 t], .int .i64 leave] w fun e w' => e = .returned (.bool true) ∧ Below w.heap.size w w' := by
  obtain ⟨b, h⟩ : ∃ b, boxOf x y z u v t = b := ⟨_, rfl⟩
  have hok := box_ok_of h
  rcases box_cases h with ⟨be, rfl, he⟩ | ⟨l1, l2, l3, h1, h2, h3, bn, rfl, a1, a2, a3, hL, hb⟩
  · by_cases hl : leave < 1
    · exact law_boxes_EA h he hl w
    · exact law_boxes_EB h he (by omega) w
  · have hm := List.length_pos_of_mem ((mem_box (bn := bn) a1 a2 a3).2 ⟨⟨Int.le_refl l1, a1⟩, ⟨Int.le_refl l2, a2⟩, ⟨Int.le_refl l3, a3⟩⟩)
    have hN : (boxPlaces ⟨l1, l2, l3, h1, h2, h3, bn, 0⟩).length ≤ 512 := by omega
    by_cases hl : leave < 1
    · exact law_boxes_A h hm hN hl w
    · by_cases hl2 : leave ≤ (((boxPlaces ⟨l1, l2, l3, h1, h2, h3, bn, 0⟩).length : Nat) : Int)
      · exact law_boxes_B1 h hm hN (by omega) hl2 w
      · exact law_boxes_B2 h hm hN (by omega) (by omega) w
end PlaceW
end Go.Proofs.Ytokkomglbddgcaa
