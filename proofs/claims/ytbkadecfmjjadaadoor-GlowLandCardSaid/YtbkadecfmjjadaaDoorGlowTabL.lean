/-
  The tables of package kind and of package land, out of what the row of GlowLand lists.
-/
import Derived.Test.YtbkadecfmjjadaaDoorGlowTab
import Derived.Test.YtbkadecfmjjadaaDoorGlowLandW
namespace Go.Proofs.YtbkadecfmjjadaaDoor
open Go.ChangeShapes Go.WideShapes Go.ChangeAt Go.RowKit
set_option maxRecDepth 100000
namespace LandW
open KindW LandP
/-- The variable's name. -/
def layName : String := ((Rows.glowLandRow.laid.map (·.1))[1]?).getD default
theorem gLay : Tryd.prog.globalNamed layName = some 0 := by kernel_rfl
theorem tLay : (Tryd.prog.globals[0]?).map (·.type) = some 65 := by kernel_rfl
theorem cellsLay : Tryd.prog.cellsOf 65 = 4 := by kernel_rfl
theorem lays_eq : (Rows.laid_bedrock_land_layers : DataW Unit) = .agg ((List.range 4).map fun k => .lit (.int .u8 (lay k))) := by kernel_rfl
theorem lay_of_parts {W : World} {g0 : Nat} {t0 : TypeId} {cs0 : Array Value} {f0 : Nat} {p0 : List MemPlace} (hg0 : Tryd.prog.globalNamed layName = some g0) (ht0 : (Tryd.prog.globals[g0]?).map (·.type) = some t0) (hv0 : W.var? Tryd.prog layName = some cs0) (hd0 : DataW.trod (fun _ => ()) Tryd.prog W 0 (fun _ => true) false f0 t0 cs0.toList = some (Rows.laid_bedrock_land_layers, p0)) : LTab W := by
  obtain rfl := Option.some.inj (gLay.symm.trans hg0)
  obtain rfl := Option.some.inj (tLay.symm.trans ht0)
  rw [lays_eq] at hd0
  obtain ⟨xs, m, rfl, hx, hlen, hn, hel⟩ := DataW.trod_array Tryd.underlying65 hd0
  rw [cellsLay] at hlen
  have hx1 : xs.map (·.1) = (List.range 4).map fun k => (.lit (.int .u8 (lay k)) : DataW Unit) := by
    have := congrArg Prod.fst hx
    simpa using this.symm
  have at_ : ∀ k, k < 4 → cs0[k]? = some (.int .u8 (lay k)) := by
    intro k hk
    have e := hel k hk
    rw [cellsU8, List.getElem?_eq_getElem (by omega)] at e
    have ey : (xs[k]'(by omega)).1 = .lit (.int .u8 (lay k)) := by
      have := congrArg (fun l : List (DataW Unit) => l[k]?) hx1
      simpa [hk, hn] using this
    have e' : DataW.trod (fun _ => ()) Tryd.prog W 0 (fun _ => true) false m 5 ((cs0.toList.drop (k * 1)).take 1) = some (xs[k]'(by omega)) := e
    obtain ⟨n1, h1, hx1', _⟩ := DataW.trod_int Tryd.underlying5 (show DataW.trod (fun _ => ()) Tryd.prog W 0 (fun _ => true) false m 5 ((cs0.toList.drop (k * 1)).take 1) = some ((xs[k]'(by omega)).1, (xs[k]'(by omega)).2) from e')
    rw [ey] at hx1'
    have e3 : n1 = (lay k : Int) := by
      have q := congrArg Prod.fst hx1'
      injection q with q
      injection q with _ q
      exact q.symm
    rw [e3] at h1
    have h2 := congrArg (fun l : List Value => l[0]?) h1
    simpa [List.getElem?_take, List.getElem?_drop] using h2
  have cell := World.var?_cell hg0 hv0
  refine ⟨fun k hk => (cell _).trans (at_ k hk), ?_⟩
  exact World.block_lt_of_cell? W ⟨0, 0, none⟩ ((cell 0).trans (at_ 0 (by decide)))

theorem both_of_laid {W : World} (h : laidMetH Tryd.prog Rows.glowLandRow.laid W) : Tab W ∧ LTab W := by
  rw [MakeChecks.laidMetH_plain _ _ _ (by kernel_rfl)] at h
  obtain ⟨ps, ⟨g0, t0, cs0, f0, p0, q0, hg0, ht0, hv0, hd0, ⟨g1, t1, cs1, f1, p1, q1, hg1, ht1, hv1, hd1, _, _⟩, _⟩, _, _⟩ := h
  exact ⟨tab_of_parts hg0 ht0 hv0 hd0, lay_of_parts hg1 ht1 hv1 hd1⟩
/-- The door's own heap meets the conditions. -/
theorem door_both (os : Os) (args : Array Value) : laidMetH Tryd.prog Rows.glowLandRow.laid ((World.doorLaid Tryd.prog 400 os).forCall (fun _ _ => 0) ⟨#[], args, []⟩).memory :=
  laidMetH_of_parts3 (fuel := 8) (laidMet_of_run' 8 (by kernel_rfl) (by kernel_rfl)) (by kernel_rfl) (by kernel_rfl)
end LandW
end Go.Proofs.YtbkadecfmjjadaaDoor
