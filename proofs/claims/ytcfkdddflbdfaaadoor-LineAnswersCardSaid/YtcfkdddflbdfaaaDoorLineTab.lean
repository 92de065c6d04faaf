/-
  The table of package kind, out of what the rows list: where the variable reads as listed, its cells are known.
-/
import Derived.Test.YtcfkdddflbdfaaaDoorTie
import Derived.Test.YtcfkdddflbdfaaaDoorKindWalks
import Derived.ProofKit
import Derived.LaidMore
import Derived.OpenShut
import Derived.Lay
import Derived.LaidSub
import Derived.Lib.LaidTab
import Derived.Test.YtcfkdddflbdfaaaDoorLineMem
namespace Go.Proofs.YtcfkdddflbdfaaaDoor
open Go.ChangeShapes Go.WideShapes Go.ChangeAt Go.RowKit
set_option maxRecDepth 100000
namespace KindW
open KindP

theorem own : ownKnob Tryd.prog.godebug = none := by kernel_rfl
theorem laidOut : laidOutB Tryd.prog = true := by kernel_rfl
/-- The variable's name. -/
def tabName : String := (Rows.lineAnswersRow.laid.map (·.1)).headD default
theorem gTab : Tryd.prog.globalNamed tabName = some 0 := by kernel_rfl
theorem tTab : (Tryd.prog.globals[0]?).map (·.type) = some 108 := by kernel_rfl
theorem cellsRow : Tryd.prog.cellsOf 107 = 4 := by kernel_rfl
theorem cellsTab : Tryd.prog.cellsOf 108 = 60 := by kernel_rfl
theorem cellsStr : Tryd.prog.cellsOf 9 = 1 := by kernel_rfl
theorem cellsU8 : Tryd.prog.cellsOf 5 = 1 := by kernel_rfl
theorem cellsTr : Tryd.prog.cellsOf 105 = 1 := by kernel_rfl

/-- The row of kind k, as data. -/
def rowD (k : Nat) : DataW Unit := .agg [.lit (.string (nm k)), .lit (.int .u8 (least k)), .lit (.int .u8 (most k)), .lit (.int .u8 (trait k))]
theorem rows_eq : (Rows.laid_bedrock_kind_rows : DataW Unit) = .agg ((List.range 15).map rowD) := by kernel_rfl

/-- A row's four cells, read off its datum. -/
theorem cells_of_row {enc : TypeId × Value → Unit} {W : World} {base : Nat} {sp : Nat → Bool} {held : Bool} {fuel : Nat} {cs : List Value} {p : List MemPlace} {k : Nat}
    (h : DataW.trod enc Tryd.prog W base sp held fuel 107 cs = some (rowD k, p)) :
    cs = [.string ⟨(nm k).toArray⟩, .int .u8 (least k), .int .u8 (most k), .int .u8 (trait k)] := by
  obtain ⟨xs, n, rfl, hx, hlen, hn, hel⟩ := DataW.trod_struct Tryd.underlying107 h
  rw [cellsRow] at hlen
  match cs, hlen with
  | [c0, c1, c2, c3], _ =>
    have e0 : DataW.trod enc Tryd.prog W base sp held n 9 (([c0, c1, c2, c3].drop 0).take (Tryd.prog.cellsOf 9)) = xs[0]? := hel 0 _ rfl
    rw [cellsStr] at e0
    have e1 : DataW.trod enc Tryd.prog W base sp held n 5 (([c0, c1, c2, c3].drop 1).take (Tryd.prog.cellsOf 5)) = xs[1]? := hel 1 _ rfl
    rw [cellsU8] at e1
    have e2 : DataW.trod enc Tryd.prog W base sp held n 5 (([c0, c1, c2, c3].drop 2).take (Tryd.prog.cellsOf 5)) = xs[2]? := hel 2 _ rfl
    rw [cellsU8] at e2
    have e3 : DataW.trod enc Tryd.prog W base sp held n 105 (([c0, c1, c2, c3].drop 3).take (Tryd.prog.cellsOf 105)) = xs[3]? := hel 3 _ rfl
    rw [cellsTr] at e3
    match xs, hn with
    | [x0, x1, x2, x3], _ =>
      simp only [List.drop_zero, List.take_succ_cons, List.take_zero, List.drop_succ_cons, List.getElem?_cons_zero, List.getElem?_cons_succ] at e0 e1 e2 e3
      obtain ⟨s, h0, hx0, _⟩ := DataW.trod_string Tryd.underlying9 e0
      obtain ⟨n1, h1, hx1, _⟩ := DataW.trod_int Tryd.underlying5 e1
      obtain ⟨n2, h2, hx2, _⟩ := DataW.trod_int Tryd.underlying5 e2
      obtain ⟨n3, h3, hx3, _⟩ := DataW.trod_int Tryd.underlying105 e3
      simp only [List.cons.injEq, and_true] at h0 h1 h2 h3
      simp only [rowD, List.map_cons, List.map_nil, Prod.mk.injEq, DataW.agg.injEq, List.cons.injEq, and_true, hx0, hx1, hx2, hx3, DataW.lit.injEq, Lit.string.injEq, Lit.int.injEq, true_and] at hx
      obtain ⟨⟨a0, a1, a2, a3⟩, _⟩ := hx
      rw [h0, h1, h2, h3, ← a1, ← a2, ← a3, a0]

theorem tab_of_parts {W : World} {g0 : Nat} {t0 : TypeId} {cs0 : Array Value} {f0 : Nat} {p0 : List MemPlace} (hg0 : Tryd.prog.globalNamed tabName = some g0) (ht0 : (Tryd.prog.globals[g0]?).map (·.type) = some t0) (hv0 : W.var? Tryd.prog tabName = some cs0) (hd0 : DataW.trod (fun _ => ()) Tryd.prog W 0 (fun _ => true) false f0 t0 cs0.toList = some (Rows.laid_bedrock_kind_rows, p0)) : Tab W := by
  obtain rfl := Option.some.inj (gTab.symm.trans hg0)
  obtain rfl := Option.some.inj (tTab.symm.trans ht0)
  rw [rows_eq] at hd0
  obtain ⟨xs, m, rfl, hx, hlen, hn, hel⟩ := DataW.trod_array Tryd.underlying108 hd0
  rw [cellsTab] at hlen
  have hx1 : xs.map (·.1) = (List.range 15).map rowD := by
    have := congrArg Prod.fst hx
    simpa using this.symm
  have key : ∀ k, k < 15 → (cs0.toList.drop (k * 4)).take 4 = [.string ⟨(nm k).toArray⟩, .int .u8 (least k), .int .u8 (most k), .int .u8 (trait k)] := by
    intro k hk
    have e := hel k hk
    rw [cellsRow, List.getElem?_eq_getElem (by omega)] at e
    have ey : (xs[k]'(by omega)).1 = rowD k := by
      have := congrArg (fun l : List (DataW Unit) => l[k]?) hx1
      simpa [hk, hn] using this
    exact cells_of_row (p := (xs[k]'(by omega)).2) (by rw [e, ← ey])
  have at_ : ∀ k, k < 15 → ∀ j, j < 4 → cs0[k * 4 + j]? = [(.string ⟨(nm k).toArray⟩ : Value), .int .u8 (least k), .int .u8 (most k), .int .u8 (trait k)][j]? := by
    intro k hk j hj
    rw [← key k hk, List.getElem?_take_of_lt hj, List.getElem?_drop, Array.getElem?_toList]
  have cell := World.var?_cell hg0 hv0
  refine ⟨fun k hk => (cell _).trans (at_ k hk 0 (by decide)), fun k hk => (cell _).trans (at_ k hk 1 (by decide)), fun k hk => (cell _).trans (at_ k hk 2 (by decide)), fun k hk => (cell _).trans (at_ k hk 3 (by decide)), ?_⟩
  exact World.block_lt_of_cell? W ⟨0, 0, none⟩ ((cell 0).trans (at_ 0 (by decide) 0 (by decide)))

theorem tab_of_laid {W : World} (h : laidMetH Tryd.prog Rows.lineAnswersRow.laid W) : Tab W := by
  rw [MakeChecks.laidMetH_plain _ _ _ (by kernel_rfl)] at h
  obtain ⟨ps, ⟨g0, t0, cs0, f0, p0, q0, hg0, ht0, hv0, hd0, _, _⟩, _, _⟩ := h
  exact tab_of_parts hg0 ht0 hv0 hd0
end KindW
namespace LineW
theorem own : ownKnob Tryd.prog.godebug = none := by kernel_rfl
theorem laidOut : laidOutB Tryd.prog = true := by kernel_rfl
theorem cutPow : (Rows.lineAnswersRow.laid.filter fun x => x.1 == powName) = [(powName, Lib.tabData .u64 Lib.pow10Tab)] := by kernel_rfl
theorem pow_of_laid {W : World} (h : laidMetH Tryd.prog Rows.lineAnswersRow.laid W) : Lib.TabIs Tryd.prog W powName .u64 Lib.pow10Tab := by
  rw [MakeChecks.laidMetH_plain _ _ _ (by kernel_rfl)] at h
  have h2 := h.filter (fun x => x.1 == powName)
  rw [cutPow] at h2
  exact Lib.tabIs_of_head gPow (by kernel_rfl) Tryd.underlying125 Tryd.underlying88 (by kernel_rfl) (by kernel_rfl) h2
/-- What the row lists is what the walks ask for. -/
theorem env_of_laid {W : World} (h : laidMetH Tryd.prog Rows.lineAnswersRow.laid W) : Env W := ⟨KindW.tab_of_laid h, pow_of_laid h⟩
/-- A heap that is laid out as listed meets the condition. -/
theorem door_met (os : Os) (args : Array Value) : laidMetH Tryd.prog Rows.lineAnswersRow.laid ((World.laidAll Tryd.prog os Rows.lineAnswersRow.laid).forCall (fun _ _ => 0) ⟨#[], args, []⟩).memory := by
  rw [MakeChecks.laidMetH_plain _ _ _ (by kernel_rfl)]
  exact laidMet_laidAll _ (by kernel_rfl) (by kernel_rfl)
theorem len14 {α : Type} {l : List α} (h : l.length = 14) : ∃ a0 a1 a2 a3 a4 a5 a6 a7 a8 a9 a10 a11 a12 a13 : α, l = [a0, a1, a2, a3, a4, a5, a6, a7, a8, a9, a10, a11, a12, a13] := by
  match l, h with
  | [a0, a1, a2, a3, a4, a5, a6, a7, a8, a9, a10, a11, a12, a13], _ => exact ⟨_, _, _, _, _, _, _, _, _, _, _, _, _, _, rfl⟩
theorem ofNat_toNat {z : Int} (h : 0 ≤ z) : ((z.toNat : Nat) : Int) = z := Int.toNat_of_nonneg h
end LineW
end Go.Proofs.YtcfkdddflbdfaaaDoor
