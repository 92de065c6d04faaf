/-
  Cut, at any number that is a natural one.
-/
import Derived.Test.YtknckaegpdganaaDoorSectorI
import Derived.Test.YtknckaegpdganaaDoorSectorCut
-- mine: whole_c same_c awake_c take_c step_c back_c
namespace Go.Proofs.YtknckaegpdganaaDoor
open Go.RowKit
set_option linter.unusedVariables false
set_option linter.unusedSimpArgs false
set_option maxRecDepth 100000
namespace SecW
open BlkP RowG FrS PushG JournalP SecP
theorem Cut_i {w : World} {B pd : Nat} {d : Dk} {S : Nat → Prop} {i : Int} {j : Nat} (hi : i = (j : Int)) (h : Dsk w B pd d S) (hl : d.ws.length ≤ 1000) (hj : j ≤ d.ws.length) :
    Calls Tryd.prog 18 #[.pointer (some ⟨pd, 0, none⟩), .int .i64 i] w fun e w' => ∃ p, e = .returned (.tuple #[.pointer (some ⟨p, 0, none⟩), .int .i64 0]) ∧ Made w p (d.cut j) w' := by
  subst hi
  exact Cut_c h hl hj
end SecW
end Go.Proofs.YtknckaegpdganaaDoor
