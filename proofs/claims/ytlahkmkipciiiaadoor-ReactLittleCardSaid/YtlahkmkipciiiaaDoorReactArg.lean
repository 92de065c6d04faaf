/-
  What is near, as an argument: its draw a Nat, the cell's own kind a byte.
-/
import Derived.Test.YtlahkmkipciiiaaDoorBurnArg
namespace Go.Proofs.YtlahkmkipciiiaaDoor
open Go.ChangeShapes Go.WideShapes Go.ChangeAt Go.RowKit Go.Deep
set_option linter.unusedVariables false
set_option maxRecDepth 100000
namespace ReactW
open BlkP RowG CellsW NearW
theorem open_react {W : World} {r : Reach} {b : Nat} {v : Value} (hv : Value.okWide Tryd.prog W r b 28 v) : ∃ (n : Nr) (d : Nat), v = nv n ∧ n.dr = (d : Int) ∧ d ≤ 18446744073709551615 ∧ n.s.1 < 256 := by
  obtain ⟨n, d, hn, h1, h2⟩ := BurnW.open_burn hv
  obtain ⟨m, hm0, hm, hc⟩ := OpenP.v_agg (n := 24) (ts := [5, 5, 5, 5, 5, 5, 5, 5, 5, 5, 5, 5, 5, 5, 5, 5, 5, 5, 5, 5, 5, 5, 5, 26]) (.inl ⟨_, Tryd.underlying28⟩) (by kernel_rfl) rfl (by kernel_rfl) hv
  have he : vals n = m := by
    have h : nv n = .agg m.toArray := hn.symm.trans hm0
    unfold nv at h
    injection h with h
    simpa using congrArg Array.toList h
  obtain ⟨c, e, k⟩ := hc 0 _ rfl
  rw [← he] at e
  obtain rfl : (.int .u8 (n.s.1 : Int) : Value) = c := Option.some.inj e
  obtain ⟨x, hx, l, u⟩ := OpenP.c_int (k := .u8) (lo := 0) (hi := 255) Tryd.underlying5 rfl rfl k
  obtain rfl : (n.s.1 : Int) = x := by
    injection hx
  exact ⟨n, d, hn, h1, h2, by omega⟩
end ReactW
end Go.Proofs.YtlahkmkipciiiaaDoor
