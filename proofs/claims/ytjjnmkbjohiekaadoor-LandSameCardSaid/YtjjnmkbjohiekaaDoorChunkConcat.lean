/-
  slices.Grow of nothing, slices.Concat, of ticks.
-/
import Derived.Test.YtjjnmkbjohiekaaDoorChunkFind
namespace Go.Proofs.YtjjnmkbjohiekaaDoor
open Go.RowKit
set_option linter.unusedVariables false
set_option linter.unusedSimpArgs false
namespace ChunkW
open BytesW PackW

set_option maxRecDepth 100000 in
theorem run_growT (w : World) {n : Nat} (h0 : 0 < n) (hn : n ≤ 1000000) (ty : TypeId) : ∃ cap w', (Builtin.append_ #[45, 3] ty #[.slice none 0 0, .int .i64 n]).run Tryd.prog w = .ok (.slice (some ⟨w.heap.size, 0, none⟩) n cap) w' ∧
    OwnP tkv 56 w' w.heap.size (.slice (some ⟨w.heap.size, 0, none⟩) 0 cap) [] ∧ Below w.heap.size w w' ∧ n ≤ cap := by
  obtain ⟨i, hi, hz, hs1, hby⟩ := info_parts infoTick
  have hi2 : Tryd.prog.underlying 3 = some (.int .i64) := Tryd.underlying3
  have hn0 : ¬ n = 0 := by omega
  have hneg : ¬ (n : Int) < 0 := by omega
  have h63' : ¬ (9223372036854775807 < (n : Int)) := by omega
  have hbig : ¬ (281474976710656 : Int) < (n : Int) := by omega
  have hbig2 : ¬ (281474976710656 : Int) < (n : Int) * 16 := by omega
  have h48' : ¬ (281474976710656 < Builtin.nextslicecap n 0 * 16) := by rw [nextslicecap_zero h0]; omega
  have h48 : ¬ (281474976710656 < Builtin.nextslicecap n 0) := by rw [nextslicecap_zero h0]; omega
  have hw : IntKind.i64.wrap (n : Int) = n := by rw [IntKind.wrap_i64]; omega
  have hge := grownCap_ge w n 0 56
  have hle := grownCap_le_maxLen w n 0 56 (by unfold maxLen; omega)
  refine ⟨grownCap w n 0 56, w.drew.alloc (.cells (Builtin.zeroCells #[.int .i64 0, .int .i64 0] n ++ Builtin.zeroCells #[.int .i64 0, .int .i64 0] (grownCap w n 0 56 - n)) 56), ?_, ?_, ((Below.refl _ w).drew).alloc (Nat.le_refl _) _, hge⟩
  · simp [Builtin.append_, run_underlying underTicks, run_underlying hi2, sizeOf, typeInfo, zeroValue, hi, hz, hs1, hby, Builtin.lenOf, hn0, hneg, hbig, hw, h63', h48', h48, hbig2, Question.forced, run_firstCells_none, newRow, grownCap, asInt, asIntOf, Value.cells]
    intro h
    omega
  · refine ⟨rfl, .inr ⟨w.heap.size, _, _, rfl, Nat.le_refl _, heap_alloc_new w.drew _, Nat.zero_le _, hle, ?_, rfl⟩⟩
    simp only [Array.size_append, size_zeroCells, List.size_toArray, List.length_cons, List.length_nil]
    omega
/-- append(nothing, make(.., n)..). -/
theorem wp_growT {w : World} {ops : Array Oper} {rest : List Oper} {o : Oper} {a : Act} {Q : Exit → Act → World → Prop} (hgd : o.guard = none) (s x : Operand) (ho : o.op = .call { callee := .builtin .append, args := #[s, x], argTypes := #[45, 3] })
    (hs : a.eval s = .slice none 0 0) {n : Nat} (hx : a.eval x = .int .i64 n) (h0 : 0 < n) (hn : n ≤ 1000000)
    (h : ∀ cap w', OwnP tkv 56 w' w.heap.size (.slice (some ⟨w.heap.size, 0, none⟩) 0 cap) [] → Below w.heap.size w w' → n ≤ cap → wpList Tryd.prog ops Q rest (a.put o.dst (.slice (some ⟨w.heap.size, 0, none⟩) n cap)) w') : wpList Tryd.prog ops Q (o :: rest) a w := by
  refine wpList_plain hgd fun K hK => ?_
  obtain ⟨cap, w', hr, h1, h2, h3⟩ := run_growT w h0 hn o.type
  unfold Oper.wp execOp
  simp only [ho, resolve, invoke, builtin, Sem.run_bind, Sem.run_pure, Result.andThen_ok, List.map_toArray, List.map_cons, List.map_nil, hs, hx, hr]
  exact hK _ _ (h cap w' h1 h2 h3)
/-- A row of the call's own is handed back. -/
def GivesT (w : World) (l : List Tick) (e : Ending) (w' : World) : Prop := ∃ v, e = .returned v ∧ OwnP tkv 56 w' w.heap.size v l ∧ Below w.heap.size w w'

/-- A slice of these ticks. -/
def SlT (w : World) (v : Value) (l : List Tick) : Prop := ∃ A c, v = .slice A l.length c ∧ PairC tkv w A l
theorem SlT.below {w w' : World} {v : Value} {l : List Tick} (h : SlT w v l) (hb : Below w.heap.size w w') : SlT w' v l := by
  obtain ⟨A, c, e, h⟩ := h
  exact ⟨A, c, e, h.below hb⟩
/-- Rows of ticks, one behind the other. -/
def catT (ps : List (Value × List Tick)) : List Tick := ps.flatMap (·.2)
theorem catT_next {ps : List (Value × List Tick)} {j : Nat} {q : Value × List Tick} (h : ps[j]? = some q) : catT (ps.take (j + 1)) = catT (ps.take j) ++ q.2 := by
  rw [List.take_add_one, h]
  simp [catT]
theorem catT_le (ps : List (Value × List Tick)) (j : Nat) : (catT (ps.take j)).length ≤ (catT ps).length := by
  have h : catT ps = catT (ps.take j) ++ catT (ps.drop j) := by
    rw [catT, catT, catT, ← List.flatMap_append, List.take_append_drop]
  rw [h, List.length_append]
  omega
def CatT1 (ps : List (Value × List Tick)) (v i : Value) : Prop := ∃ (j m : Nat), i = .int .i64 j ∧ v = .int .i64 m ∧ j ≤ ps.length ∧ m = (catT (ps.take j)).length ∧ m ≤ 1000000
def CatT2 (w : World) (ps : List (Value × List Tick)) (v i : Value) (wr : World) : Prop := ∃ j : Nat, i = .int .i64 j ∧ j ≤ ps.length ∧ OwnP tkv 56 wr w.heap.size v (catT (ps.take j)) ∧ Below w.heap.size w wr

end ChunkW
end Go.Proofs.YtjjnmkbjohiekaaDoor
