/-
  Bytes 0, however many, and what a string of them is; a disk that the chapter's examples are about.
-/
import Derived.Laws.MakeOwn
import Derived.Test.YtknckaegpdganaaDoorSectorI
-- mine: whole_c same_c awake_c take_c step_c back_c
namespace Go.Proofs.YtknckaegpdganaaDoor
open Go.RowKit
set_option linter.unusedVariables false
set_option linter.unusedSimpArgs false
set_option maxRecDepth 100000
namespace SecW
open BlkP RowG FrS PushG JournalP SecP
/-- make([]byte, n). -/
theorem wp_makeZ {w : World} {ops : Array Oper} {rest : List Oper} {o : Oper} {a : Act} {Q : Exit → Act → World → Prop} (hg : o.guard = none) (x y : Operand) (hop : o.op = Op.makeSlice 94 x y) {n : Nat} {z : Int} (hz : z = (n : Int)) (hl : a.eval x = .int .i64 z) (hc : a.eval y = .int .i64 z) (hn : n ≤ 1000000)
    (h : ∀ w', BytesW.AtC w' (some ⟨w.heap.size, 0, none⟩) (List.replicate n 0) → Below w.heap.size w w' → wpList Tryd.prog ops Q rest (a.put o.dst (.slice (some ⟨w.heap.size, 0, none⟩) n n)) w') : wpList Tryd.prog ops Q (o :: rest) a w := by
  subst hz
  obtain ⟨i, hi, hz, hs1, hb⟩ := info_parts BytesW.info5
  refine wpList_plain hg fun K hK' => ?_
  have hr := run_make (P := Tryd.prog) w 94 5 i _ BytesW.under26 hi hz .i64 .i64 n n (by omega) (Int.le_refl _) (by rw [hb]; omega) (by omega)
  unfold Oper.wp
  simp [execOp, hop, hl, hc, hr, Result.andThen]
  refine hK' _ _ (h _ ?_ ((Below.refl _ _).alloc (Nat.le_refl _) _))
  refine fun hne => ⟨w.heap.size, 0, rfl, by simp, fun j x hx => ?_⟩
  have hj : j < n := by
    have := (List.getElem?_eq_some_iff.1 hx).1
    simpa using this
  have hx0 : x = 0 := by
    have := (List.getElem?_eq_some_iff.1 hx).2
    simpa using this.symm
  subst hx0
  rw [cell_of_row _ _ _ _ _ _ (heap_alloc_new w _), hs1]
  simp [madeCells, Value.cells, hj, BytesW.bv, Nat.mod_one]
end SecW
end Go.Proofs.YtknckaegpdganaaDoor
