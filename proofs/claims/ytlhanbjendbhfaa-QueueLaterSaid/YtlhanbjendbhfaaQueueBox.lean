/-
  A heap of ticks as it is made: nothing noted.
-/
import Derived.Test.YtlhanbjendbhfaaQueueClone
namespace Go.Proofs.Ytlhanbjendbhfaa
open Go.RowKit
set_option linter.unusedVariables false
set_option linter.unusedSimpArgs false
namespace QueW
open BlkP RowG FrS PushG HeapP ChunkW
def noW : Nat → Nat := fun _ => 0
theorem pv_len (v : Value) (W : Nat → Nat) : (pvals v W).length = 4097 := by simp [pvals, cellsW]
set_option maxRecDepth 100000 in
theorem zeroP (w : World) : (zeroValue TPd).run Try.prog w = .ok (.agg (pvals (.slice none 0 0) noW).toArray) w := by kernel_rfl
theorem pv_fill (v u : Value) (W : Nat → Nat) : (pvals v W).toArray.setIfInBounds 0 u = (pvals u W).toArray := by
  rw [List.setIfInBounds_toArray]
  rfl
theorem run_buildP {A : Option Addr} {n c : Nat} (w : World) : (Instr.build TPd #[(0, .slice A n c)]).run Try.prog w = .ok (.agg (pvals (.slice A n c) noW).toArray) w := by
  obtain ⟨fields, hf, hp⟩ : ∃ fields, Try.prog.underlying TPd = some (.struct fields) ∧ (fields.mapM (fun f => do pure (f.offset, ← sizeOf f.type)) : Sem (Array (Nat × Nat))).run Try.prog w = .ok #[(0, 1), (1, 4096)] w := ⟨_, Try.underlying63, by kernel_rfl⟩
  unfold Instr.build
  simp only [Sem.run_bind, zeroP, Result.andThen_ok, run_underlying hf, hp, Value.cells]
  have hs : (pvals (.slice none 0 0) noW).toArray.size = 4097 := by simp [pv_len]
  obtain ⟨Z, hZ⟩ : ∃ Z, (pvals (.slice none 0 0) noW).toArray = Z := ⟨_, rfl⟩
  have hfill : Z.setIfInBounds 0 (.slice A n c) = (pvals (.slice A n c) noW).toArray := by rw [← hZ, pv_fill]
  rw [hZ] at hs ⊢
  simp [Instr.fill, hs, Value.cells, hfill]
section
variable {w : World} {ops : Array Oper} {rest : List Oper} {o : Oper} {a : Act} {Q : Exit → Act → World → Prop}
theorem wp_buildP (hgd : o.guard = none) (x : Operand) (ho : o.op = .build TPd #[(0, x)]) {A : Option Addr} {n c : Nat} (hx : a.eval x = .slice A n c)
    (h : wpList Try.prog ops Q rest (a.put o.dst (.agg (pvals (.slice A n c) noW).toArray)) w) : wpList Try.prog ops Q (o :: rest) a w := by
  refine wpList_plain hgd fun K hK => ?_
  unfold Oper.wp execOp
  simp only [ho, List.map_toArray, List.map_cons, List.map_nil, hx]
  simp only [Sem.run_bind, run_buildP, Result.andThen_ok, Sem.run_pure]
  exact hK _ _ h
theorem wp_boxP (hgd : o.guard = none) (x : Operand) (ho : o.op = .box TPd x) {v : Value} (hx : a.eval x = .agg (pvals v noW).toArray)
    (h : ∀ w', Blk w' w.heap.size TPd (pvals v noW) → Below w.heap.size w w' → w'.heap.size = w.heap.size + 1 → wpList Try.prog ops Q rest (a.put o.dst (.pointer (some ⟨w.heap.size, 0, none⟩))) w') : wpList Try.prog ops Q (o :: rest) a w := by
  refine wpList_plain hgd fun K hK => ?_
  unfold Oper.wp execOp
  simp only [ho, hx]
  refine hK _ _ (h _ (Blk.new w TPd (pvals v noW)) ((Below.refl _ w).alloc (Nat.le_refl _) _) (by simp))
end
end QueW
end Go.Proofs.Ytlhanbjendbhfaa
