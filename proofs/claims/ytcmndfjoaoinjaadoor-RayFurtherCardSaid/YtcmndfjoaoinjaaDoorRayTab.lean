/-
  The table of the axes, out of what the rows list: where the variable reads as listed, its cells are known.
-/
import Derived.Test.YtcmndfjoaoinjaaDoorTie
import Derived.Test.YtcmndfjoaoinjaaDoorRayFirst
import Derived.ProofKit
import Derived.LaidMore
import Derived.OpenShut
namespace Go.Proofs.YtcmndfjoaoinjaaDoor
open Go.ChangeShapes Go.WideShapes Go.ChangeAt Go.RowKit
set_option maxRecDepth 100000
set_option linter.unusedVariables false
namespace RayW
open RayP
/-- The variable's name. -/
def axName : String := (Rows.rayKnownRow.laid.map (·.1)).headD default
theorem gAx : Tryd.prog.globalNamed axName = some 0 := by kernel_rfl
theorem tAx : (Tryd.prog.globals[0]?).map (·.type) = some 58 := by kernel_rfl
theorem cellsRow : Tryd.prog.cellsOf 57 = 3 := by kernel_rfl
theorem cellsTab : Tryd.prog.cellsOf 58 = 9 := by kernel_rfl
theorem cellsI : Tryd.prog.cellsOf 3 = 1 := by kernel_rfl
def ax (k j : Nat) : Int := axL.getD (k * 3 + j) 0
def rowD (k : Nat) : DataW Unit := .agg [.lit (.int .i64 (ax k 0)), .lit (.int .i64 (ax k 1)), .lit (.int .i64 (ax k 2))]
theorem rows_eq : (Rows.laid_bedrock_ray_axes : DataW Unit) = .agg ((List.range 3).map rowD) := by kernel_rfl
theorem cells_of_row {enc : TypeId × Value → Unit} {W : World} {base : Nat} {sp : Nat → Bool} {held : Bool} {fuel : Nat} {cs : List Value} {p : List MemPlace} {k : Nat}
    (h : DataW.trod enc Tryd.prog W base sp held fuel 57 cs = some (rowD k, p)) :
    cs = [.int .i64 (ax k 0), .int .i64 (ax k 1), .int .i64 (ax k 2)] := by
  obtain ⟨xs, n, rfl, hx, hlen, hn, hel⟩ := DataW.trod_struct Tryd.underlying57 h
  rw [cellsRow] at hlen
  match cs, hlen with
  | [c0, c1, c2], _ =>
    have e0 : DataW.trod enc Tryd.prog W base sp held n 3 (([c0, c1, c2].drop 0).take (Tryd.prog.cellsOf 3)) = xs[0]? := hel 0 _ rfl
    rw [cellsI] at e0
    have e1 : DataW.trod enc Tryd.prog W base sp held n 3 (([c0, c1, c2].drop 1).take (Tryd.prog.cellsOf 3)) = xs[1]? := hel 1 _ rfl
    rw [cellsI] at e1
    have e2 : DataW.trod enc Tryd.prog W base sp held n 3 (([c0, c1, c2].drop 2).take (Tryd.prog.cellsOf 3)) = xs[2]? := hel 2 _ rfl
    rw [cellsI] at e2
    match xs, hn with
    | [x0, x1, x2], _ =>
      simp only [List.drop_zero, List.take_succ_cons, List.take_zero, List.drop_succ_cons, List.getElem?_cons_zero, List.getElem?_cons_succ] at e0 e1 e2
      obtain ⟨n0, h0, hx0, _⟩ := DataW.trod_int Tryd.underlying3 e0
      obtain ⟨n1, h1, hx1, _⟩ := DataW.trod_int Tryd.underlying3 e1
      obtain ⟨n2, h2, hx2, _⟩ := DataW.trod_int Tryd.underlying3 e2
      simp only [List.cons.injEq, and_true] at h0 h1 h2
      simp only [rowD, List.map_cons, List.map_nil, Prod.mk.injEq, DataW.agg.injEq, List.cons.injEq, and_true, hx0, hx1, hx2, DataW.lit.injEq, Lit.int.injEq, true_and] at hx
      obtain ⟨⟨a0, a1, a2⟩, _⟩ := hx
      rw [h0, h1, h2, ← a0, ← a1, ← a2]
theorem ax_of_parts {W : World} {g0 : Nat} {t0 : TypeId} {cs0 : Array Value} {f0 : Nat} {p0 : List MemPlace} (hg0 : Tryd.prog.globalNamed axName = some g0) (ht0 : (Tryd.prog.globals[g0]?).map (·.type) = some t0) (hv0 : W.var? Tryd.prog axName = some cs0) (hd0 : DataW.trod (fun _ => ()) Tryd.prog W 0 (fun _ => true) false f0 t0 cs0.toList = some (Rows.laid_bedrock_ray_axes, p0)) : ATab W := by
  obtain rfl := Option.some.inj (gAx.symm.trans hg0)
  obtain rfl := Option.some.inj (tAx.symm.trans ht0)
  rw [rows_eq] at hd0
  obtain ⟨xs, m, rfl, hx, hlen, hn, hel⟩ := DataW.trod_array Tryd.underlying58 hd0
  rw [cellsTab] at hlen
  have hx1 : xs.map (·.1) = (List.range 3).map rowD := by
    have := congrArg Prod.fst hx
    simpa using this.symm
  have key : ∀ k, k < 3 → (cs0.toList.drop (k * 3)).take 3 = [.int .i64 (ax k 0), .int .i64 (ax k 1), .int .i64 (ax k 2)] := by
    intro k hk
    have e := hel k hk
    rw [cellsRow, List.getElem?_eq_getElem (by omega)] at e
    have ey : (xs[k]'(by omega)).1 = rowD k := by
      have := congrArg (fun l : List (DataW Unit) => l[k]?) hx1
      simpa [hk, hn] using this
    exact cells_of_row (p := (xs[k]'(by omega)).2) (by rw [e, ← ey])
  have at_ : ∀ k, k < 3 → ∀ j, j < 3 → cs0[k * 3 + j]? = some (.int .i64 (ax k j)) := by
    intro k hk j hj
    have e : cs0[k * 3 + j]? = [.int .i64 (ax k 0), .int .i64 (ax k 1), .int .i64 (ax k 2)][j]? := by rw [← key k hk, List.getElem?_take_of_lt hj, List.getElem?_drop, Array.getElem?_toList]
    rw [e]
    match j, hj with
    | 0, _ => rfl
    | 1, _ => rfl
    | 2, _ => rfl
  have cell := World.var?_cell hg0 hv0
  refine ⟨fun k v hk => ?_, World.block_lt_of_cell? W ⟨0, 0, none⟩ ((cell 0).trans (at_ 0 (by decide) 0 (by decide)))⟩
  have hk9 : k < 9 := (List.getElem?_eq_some_iff.1 hk).1
  have := at_ (k / 3) (by omega) (k % 3) (by omega)
  rw [show k / 3 * 3 + k % 3 = k by omega] at this
  rw [cell k, this]
  unfold ax
  rw [show k / 3 * 3 + k % 3 = k by omega, List.getD, hk]
  rfl
theorem ax_of_laid {W : World} (h : laidMetH Tryd.prog Rows.rayKnownRow.laid W) : ATab W := by
  rw [MakeChecks.laidMetH_plain _ _ _ (by kernel_rfl)] at h
  obtain ⟨ps, ⟨g0, t0, cs0, f0, p0, q0, hg0, ht0, hv0, hd0, _, _⟩, _, _⟩ := h
  exact ax_of_parts hg0 ht0 hv0 hd0
/-- The door's own heap meets the condition. -/
theorem door (os : Os) (args : Array Value) : laidMetH Tryd.prog Rows.rayKnownRow.laid ((World.doorLaid Tryd.prog 400 os).forCall (fun _ _ => 0) ⟨#[], args, []⟩).memory :=
  laidMetH_of_parts3 (fuel := 8) (laidMet_of_run' 8 (by kernel_rfl) (by kernel_rfl)) (by kernel_rfl) (by kernel_rfl)
end RayW
end Go.Proofs.YtcmndfjoaoinjaaDoor
