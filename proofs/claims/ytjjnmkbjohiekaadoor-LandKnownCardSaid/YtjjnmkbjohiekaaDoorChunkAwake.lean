/-
  Least; the laws' own small words: ticks, awake.
-/
import Derived.Test.YtjjnmkbjohiekaaDoorChunkWake
import Derived.Test.YtjjnmkbjohiekaaDoorChunkWalks3
namespace Go.Proofs.YtjjnmkbjohiekaaDoor
open Go.RowKit
set_option linter.unusedVariables false
set_option linter.unusedSimpArgs false
namespace ChunkW
open BytesW PackW

theorem wp_minT {w : World} {ops : Array Oper} {rest : List Oper} {o : Oper} {a : Act} {Q : Exit → Act → World → Prop} (hgd : o.guard = none) (x y : Operand) (ho : o.op = .call { callee := .builtin .min, args := #[x, y], argTypes := #[2, 2] }) {X Y q : Int} (hx : a.eval x = .int .i64 X) (hy : a.eval y = .int .i64 Y) (hq : (if Y < X then Y else X) = q)
    (h : wpList Tryd.prog ops Q rest (a.put o.dst (.int .i64 q)) w) : wpList Tryd.prog ops Q (o :: rest) a w := by
  refine wpList_plain hgd fun K hK => ?_
  unfold Oper.wp execOp
  simp only [ho, resolve, invoke, builtin, Sem.run_bind, Sem.run_pure, Result.andThen_ok, List.map_toArray, List.map_cons, List.map_nil, hx, hy, run_min_int2, hq]
  exact hK _ _ h
def LeastRel (w : World) (ts : List Tick) (m i : Value) (wr : World) : Prop := ∃ (j : Nat) (x : Int), i = .int .i64 j ∧ m = .int .i64 x ∧ j ≤ ts.length ∧ leastT ts = minT x (ts.drop j) ∧ Below w.heap.size w wr
def LTRel (w : World) (n : Nat) (i : Value) (wr : World) : Prop := ∃ j : Nat, i = .int .i64 j ∧ j ≤ n ∧ Below w.heap.size w wr
theorem below_g {w0 w w' : World} {p : Nat} (hb : Below w0.heap.size w0 w) (hp : w0.heap.size ≤ p) (hg : w.grownBy w' (some p)) : Below w0.heap.size w0 w' :=
  hb.grown hg hb.size (fun k hk => by injection hk with hk; omega)
theorem zeros_may : zeros.all mayC = true := by
  rw [List.all_eq_true]
  intro x hx
  obtain rfl := (List.mem_replicate.1 hx).2
  decide
theorem zeros_mayL : zeros.all mayL = true := by
  rw [List.all_eq_true]
  intro x hx
  obtain rfl := (List.mem_replicate.1 hx).2
  decide
theorem check_zero : checkA ⟨zeros, zeros, []⟩ = 0 := by
  simp only [checkA, zeros_may, zeros_mayL]
  rfl
theorem zero_at {j : Nat} (h : j < 4096) : zeros[j]? = some (0, 0) := by
  rw [zeros, List.getElem?_replicate, if_pos h]
end ChunkW
end Go.Proofs.YtjjnmkbjohiekaaDoor
