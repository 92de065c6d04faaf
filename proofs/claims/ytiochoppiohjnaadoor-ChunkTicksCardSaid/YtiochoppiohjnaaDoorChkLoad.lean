/-
  A chunk that is there; its cells, or its lights, loaded as one value; whether two such are the same.
-/
import Derived.ChangeKeysEq
import Derived.MapKept
import Derived.Maps.OwnSet
import Derived.Deep.RegionHeld3
import Derived.Test.YtiochoppiohjnaaDoorPackMem
namespace Go.Proofs.YtiochoppiohjnaaDoor
open Go.RowKit
set_option linter.unusedVariables false
set_option linter.unusedSimpArgs false
set_option maxRecDepth 100000
namespace PackW
open BytesW

/-- A chunk that is there: its ticks' slice, and what it holds. -/
def ChkK (w : World) (p : Nat) (k : Ck) : Prop := ∃ A c, Chk w p k.cs k.ls (.slice A k.ts.length c) ∧ PairC tkv w A k.ts ∧ k.ts.length ≤ c ∧ c ≤ maxLen ∧ k.ts.length ≤ 1000000
theorem ChkK.below {w w' : World} {p : Nat} {k : Ck} (h : ChkK w p k) (hb : Below w.heap.size w w') : ChkK w' p k := by
  obtain ⟨A, c, h1, h2, h3⟩ := h
  exact ⟨A, c, h1.below hb, h2.below hb, h3⟩
/-- The cells of a chunk, as one value. -/
def arrC (C : List Cell) : Array Value := (flatP cv C).toArray
theorem sizeCells : (Tryd.prog.info? 41).map (·.size) = some 8192 := by kernel_rfl
theorem sizeCell : (Tryd.prog.info? 36).map (·.size) = some 2 := by kernel_rfl
theorem underArr : Tryd.prog.underlying 41 = some (.array 4096 36) := Tryd.underlying41
theorem underCell : (match Tryd.prog.underlying 36 with | some (.struct _) => true | _ => false) = true := by kernel_rfl
set_option maxRecDepth 100000 in
theorem run_loadC {w : World} {p : Nat} {C L : List Cell} {v : Value} (h : Chk w p C L v) : (loadVar 41 ⟨p, 0, none⟩).run Tryd.prog w = .ok (.agg (arrC C)) w := by
  have hl : (loadCells ⟨p, 0, none⟩ (flatP cv C).length).run Tryd.prog w = .ok (flatP cv C).toArray w :=
    run_loadCells_list (P := Tryd.prog) w ⟨p, 0, none⟩ (flatP cv C) (fun j u hu => by
      rw [addr_add, Nat.zero_add, h.cell, ckV, List.getElem?_append_left (List.getElem?_eq_some_iff.1 hu).1, hu])
  rw [flatP_len, h.2.1] at hl
  have hs := sizeCells
  cases hq : Tryd.prog.info? 41 with
  | none => simp [hq] at hs
  | some i =>
    have hs2 : i.size = 8192 := by simpa [hq] using hs
    have hagg : (isAgg 41).run Tryd.prog w = .ok true w := by
      unfold isAgg
      rw [Sem.run_bind, run_underlying underArr w]
      simp
    simp only [loadVar, Sem.run_bind, hagg, Result.andThen_ok, sizeOf, typeInfo, Sem.run_pure]
    have hl2 : (loadCells ⟨p, 0, none⟩ 8192).run Tryd.prog w = .ok (arrC C) w := hl
    simp [hq, hs2, hl2]
theorem extract_two {l : List Value} {j : Nat} {a b : Value} (h0 : l[j]? = some a) (h1 : l[j + 1]? = some b) : l.toArray.extract j (j + 2) = #[a, b] := by
  obtain ⟨h2, h3⟩ := List.getElem?_eq_some_iff.1 h0
  obtain ⟨h4, h5⟩ := List.getElem?_eq_some_iff.1 h1
  rw [List.extract_toArray]
  show ((l.drop j).take (j + 2 - j)).toArray = _
  rw [List.drop_eq_getElem_cons h2, List.drop_eq_getElem_cons h4, h3, h5, show j + 2 - j = 2 by omega]
  rfl
set_option maxRecDepth 100000 in
theorem run_indexC {w : World} {C : List Cell} {c : Cell} {j : Nat} (hC : C.length = 4096) (h : C[j]? = some c) : (Instr.index 41 (.agg (arrC C)) (.int .i64 j)).run Tryd.prog w = .ok (.agg #[bv c.1, bv c.2]) w := by
  have hj : j < 4096 := by have := (List.getElem?_eq_some_iff.1 h).1; omega
  obtain ⟨h0, h1⟩ := flatP_get (f := cv) h
  have he := extract_two h0 h1
  have hs := sizeCell
  have hu := underCell
  cases hq : Tryd.prog.info? 36 with
  | none => simp [hq] at hs
  | some i =>
    have hs2 : i.size = 2 := by simpa [hq] using hs
    cases hqu : Tryd.prog.underlying 36 with
    | none => simp [hqu] at hu
    | some d =>
      have hagg : (isAgg 36).run Tryd.prog w = .ok true w := by
        unfold isAgg
        rw [Sem.run_bind, run_underlying hqu w]
        cases d <;> simp_all
      have hp : (part 36 (arrC C) (j * 2)).run Tryd.prog w = .ok (.agg #[bv c.1, bv c.2]) w := by
        simp only [part, Sem.run_bind, hagg, Result.andThen_ok]
        simp [sizeOf, typeInfo, hq, hs2]
        exact he
      have hjI : (j : Int) < 4096 := by omega
      simp [Instr.index, asIntOf, run_underlying underArr, hjI, sizeOf, typeInfo, hq, hs2, hp]
      intro h
      omega
section
variable {w : World} {ops : Array Oper} {rest : List Oper} {o : Oper} {a : Act} {Q : Exit → Act → World → Prop}
theorem wp_loadC (hgd : o.guard = none) (x : Operand) (ho : o.op = .load 41 x) {p : Nat} {C L : List Cell} {v : Value} (hx : a.eval x = .pointer (some ⟨p, 0, none⟩)) (hk : Chk w p C L v)
    (h : wpList Tryd.prog ops Q rest (a.put o.dst (.agg (arrC C))) w) : wpList Tryd.prog ops Q (o :: rest) a w := by
  refine wpList_plain hgd fun K hK => ?_
  unfold Oper.wp execOp
  simp only [ho, hx, Instr.loadAt, Instr.sureAddr, Sem.run_bind, Sem.run_pure, Result.andThen_ok, run_loadC hk]
  exact hK _ _ h
theorem wp_indexC (hgd : o.guard = none) (x y : Operand) (ho : o.op = .index 41 x y) {C : List Cell} {c : Cell} {j : Nat} (hx : a.eval x = .agg (arrC C)) (hy : a.eval y = .int .i64 j) (hC : C.length = 4096) (hc : C[j]? = some c) {X Y : Int} (hX : X = (c.1.toNat : Int)) (hY : Y = (c.2.toNat : Int))
    (h : wpList Tryd.prog ops Q rest (a.put o.dst (.agg #[.int .u8 X, .int .u8 Y])) w) : wpList Tryd.prog ops Q (o :: rest) a w := by
  subst hX hY
  refine wpList_plain hgd fun K hK => ?_
  have hr := run_indexC (w := w) hC hc
  unfold Oper.wp execOp
  simp only [ho, hx, hy, Sem.run_bind, Sem.run_pure, Result.andThen_ok, hr]
  exact hK _ _ h
end

def encC (c : Cell) : Value := .agg #[bv c.1, bv c.2]
theorem fieldsCell : (Tryd.prog.fieldsOf 36).toList.map (fun f => (f.name != "_", f.type, f.offset)) = [(true, 5, 0), (true, 5, 1)] := by kernel_rfl
theorem underCell2 : Tryd.prog.underlying 36 = some (.struct (Tryd.prog.fieldsOf 36)) := by kernel_rfl
theorem stoodCell : Tryd.prog.stoodInHeld 36 = false := by kernel_rfl
theorem sizeU8 : (Tryd.prog.info? 5).map (·.size) = some 1 := by kernel_rfl
theorem run_partU8 (w : World) (x y : Value) : (part 5 #[x, y] 0).run Tryd.prog w = .ok x w ∧ (part 5 #[x, y] 1).run Tryd.prog w = .ok y w := by
  have hagg : (isAgg 5).run Tryd.prog w = .ok false w := by
    unfold isAgg
    rw [Sem.run_bind, run_underlying under5 w]
    simp
  constructor <;> simp [part, Sem.run_bind, hagg]
theorem run_eqU8 (w : World) (d : Nat) (x y : UInt8) : (Op.equalIn (d + 1) 5 (bv x) (bv y)).run Tryd.prog w = .ok (decide (x = y)) w := by
  have h := run_equalIn_int (P := Tryd.prog) w d 5 .u8 .u8 (x.toNat : Int) (y.toNat : Int) under5
  rw [bv, bv, h]
  congr 1
  rw [Bool.eq_iff_iff]
  simp only [beq_iff_eq, decide_eq_true_eq]
  constructor
  · intro h
    exact UInt8.toNat_inj.1 (by omega)
  · rintro rfl
    rfl
theorem run_eqCell (w : World) (d : Nat) (a b : Cell) : (Op.equalIn (d + 2) 36 (encC a) (encC b)).run Tryd.prog w = .ok (decide (a = b)) w := by
  have h := run_equalIn_agg (P := Tryd.prog) w (d + 1) 36 #[bv a.1, bv a.2] #[bv b.1, bv b.2] underCell2 stoodCell
  unfold encC
  rw [h]
  have hf := fieldsCell
  generalize (Tryd.prog.fieldsOf 36).toList = fs at hf ⊢
  have hl : fs.length = 2 := by simpa using congrArg List.length hf
  rcases fs with _ | ⟨f0, _ | ⟨f1, _ | ⟨f2, ft⟩⟩⟩
  · simp at hl
  · simp at hl
  · simp only [List.map_cons, List.map_nil, List.cons.injEq, Prod.mk.injEq, and_true] at hf
    obtain ⟨⟨n0, t0, o0⟩, n1, t1, o1⟩ := hf
    have m0 : f0.name ≠ "_" := by simpa using n0
    have m1 : f1.name ≠ "_" := by simpa using n1
    have e : decide (a = b) = (decide (a.1 = b.1) && decide (a.2 = b.2)) := by
      rw [Bool.eq_iff_iff]
      simp [Prod.ext_iff]
    rw [e]
    unfold Op.eqFields
    simp only [m0, t0, o0, ne_eq, not_false_eq_true, if_true, Sem.run_bind, (run_partU8 w (bv a.1) (bv a.2)).1, (run_partU8 w (bv b.1) (bv b.2)).1, Result.andThen_ok, run_eqU8]
    cases decide (a.1 = b.1)
    · simp
    · unfold Op.eqFields
      simp only [m1, t1, o1, ne_eq, not_false_eq_true, if_true, Sem.run_bind, (run_partU8 w (bv a.1) (bv a.2)).2, (run_partU8 w (bv b.1) (bv b.2)).2, Result.andThen_ok, run_eqU8, Bool.not_true, Bool.false_eq_true, if_false]
      cases decide (a.2 = b.2)
      · simp
      · simp [Op.eqFields]
  · simp at hl

theorem sizeLights : (Tryd.prog.info? 42).map (·.size) = some 8192 := by kernel_rfl
theorem sizeLight : (Tryd.prog.info? 38).map (·.size) = some 2 := by kernel_rfl
theorem underArrL : Tryd.prog.underlying 42 = some (.array 4096 38) := Tryd.underlying42
theorem fieldsLight : (Tryd.prog.fieldsOf 38).toList.map (fun f => (f.name != "_", f.type, f.offset)) = [(true, 5, 0), (true, 5, 1)] := by kernel_rfl
theorem underLight2 : Tryd.prog.underlying 38 = some (.struct (Tryd.prog.fieldsOf 38)) := by kernel_rfl
theorem stoodLight : Tryd.prog.stoodInHeld 38 = false := by kernel_rfl
theorem run_eqLight (w : World) (d : Nat) (a b : Cell) : (Op.equalIn (d + 2) 38 (encC a) (encC b)).run Tryd.prog w = .ok (decide (a = b)) w := by
  have h := run_equalIn_agg (P := Tryd.prog) w (d + 1) 38 #[bv a.1, bv a.2] #[bv b.1, bv b.2] underLight2 stoodLight
  unfold encC
  rw [h]
  have hf := fieldsLight
  generalize (Tryd.prog.fieldsOf 38).toList = fs at hf ⊢
  have hl : fs.length = 2 := by simpa using congrArg List.length hf
  rcases fs with _ | ⟨f0, _ | ⟨f1, _ | ⟨f2, ft⟩⟩⟩
  · simp at hl
  · simp at hl
  · simp only [List.map_cons, List.map_nil, List.cons.injEq, Prod.mk.injEq, and_true] at hf
    obtain ⟨⟨n0, t0, o0⟩, n1, t1, o1⟩ := hf
    have m0 : f0.name ≠ "_" := by simpa using n0
    have m1 : f1.name ≠ "_" := by simpa using n1
    have e : decide (a = b) = (decide (a.1 = b.1) && decide (a.2 = b.2)) := by
      rw [Bool.eq_iff_iff]
      simp [Prod.ext_iff]
    rw [e]
    unfold Op.eqFields
    simp only [m0, t0, o0, ne_eq, not_false_eq_true, if_true, Sem.run_bind, (run_partU8 w (bv a.1) (bv a.2)).1, (run_partU8 w (bv b.1) (bv b.2)).1, Result.andThen_ok, run_eqU8]
    cases decide (a.1 = b.1)
    · simp
    · unfold Op.eqFields
      simp only [m1, t1, o1, ne_eq, not_false_eq_true, if_true, Sem.run_bind, (run_partU8 w (bv a.1) (bv a.2)).2, (run_partU8 w (bv b.1) (bv b.2)).2, Result.andThen_ok, run_eqU8, Bool.not_true, Bool.false_eq_true, if_false]
      cases decide (a.2 = b.2)
      · simp
      · simp [Op.eqFields]
  · simp at hl
theorem underLight : (match Tryd.prog.underlying 38 with | some (.struct _) => true | _ => false) = true := by kernel_rfl
theorem cellsCell : Tryd.prog.cellsOf 36 = 2 := by kernel_rfl
theorem cellsLight : Tryd.prog.cellsOf 38 = 2 := by kernel_rfl
theorem run_partE {T : TypeId} (hs : (Tryd.prog.info? T).map (·.size) = some 2) (hu : (match Tryd.prog.underlying T with | some (.struct _) => true | _ => false) = true) (w : World) {C : List Cell} {c : Cell} {j : Nat} (h : C[j]? = some c) : (part T (arrC C) (j * 2)).run Tryd.prog w = .ok (encC c) w := by
  obtain ⟨h0, h1⟩ := flatP_get (f := cv) h
  have he := extract_two h0 h1
  cases hq : Tryd.prog.info? T with
  | none => simp [hq] at hs
  | some i =>
    have hs2 : i.size = 2 := by simpa [hq] using hs
    cases hqu : Tryd.prog.underlying T with
    | none => simp [hqu] at hu
    | some d =>
      have hagg : (isAgg T).run Tryd.prog w = .ok true w := by
        unfold isAgg
        rw [Sem.run_bind, run_underlying hqu w]
        cases d <;> simp_all
      simp only [part, Sem.run_bind, hagg, Result.andThen_ok]
      simp [sizeOf, typeInfo, hq, hs2]
      exact congrArg Value.agg he
theorem run_eqItems {T : TypeId} (hs : (Tryd.prog.info? T).map (·.size) = some 2) (hu : (match Tryd.prog.underlying T with | some (.struct _) => true | _ => false) = true) (heq : ∀ (w : World) (a b : Cell), (Op.equalIn 9999 T (encC a) (encC b)).run Tryd.prog w = .ok (decide (a = b)) w)
    (w : World) {C D : List Cell} (hC : C.length = 4096) (hD : D.length = 4096) : ∀ is : List Nat, (∀ i ∈ is, i < 4096) → (Op.eqItems 9999 T 2 (arrC C) (arrC D) is).run Tryd.prog w = .ok (is.all fun i => decide (C[i]? = D[i]?)) w
  | [], _ => by simp [Op.eqItems]
  | i :: is, h => by
    have hi := h i (by simp)
    have e1 : C[i]? = some C[i] := List.getElem?_eq_getElem (by omega)
    have e2 : D[i]? = some D[i] := List.getElem?_eq_getElem (by omega)
    have ih := run_eqItems hs hu heq w hC hD is (fun j hj => h j (by simp [hj]))
    rw [Op.eqItems]
    simp only [Sem.run_bind, run_partE hs hu w e1, run_partE hs hu w e2, heq, Result.andThen_ok, List.all_cons, e1, e2, Option.some.injEq]
    by_cases hcd : C[i] = D[i]
    · simp only [hcd, decide_true, Bool.not_true, Bool.false_eq_true, if_false, Bool.true_and]
      exact ih
    · simp [hcd]
theorem all_eq {C D : List Cell} (hC : C.length = 4096) (hD : D.length = 4096) : ((List.range 4096).all fun i => decide (C[i]? = D[i]?)) = decide (C = D) := by
  rw [Bool.eq_iff_iff, List.all_eq_true]
  simp only [List.mem_range, decide_eq_true_eq]
  constructor
  · intro h
    apply List.ext_getElem?
    intro i
    by_cases hi : i < 4096
    · exact h i hi
    · rw [List.getElem?_eq_none (by omega), List.getElem?_eq_none (by omega)]
  · rintro rfl i _
    rfl
theorem run_eqArrC (w : World) {C D : List Cell} (hC : C.length = 4096) (hD : D.length = 4096) : (Op.equalIn 10000 41 (.agg (arrC C)) (.agg (arrC D))).run Tryd.prog w = .ok (decide (C = D)) w := by
  cases hq : Tryd.prog.info? 36 with
  | none => have hs := sizeCell; simp [hq] at hs
  | some i =>
    rw [run_equalIn_array (P := Tryd.prog) w 9999 (arrC C) (arrC D) underArr hq, cellsCell, run_eqItems sizeCell underCell (fun w a b => run_eqCell w 9997 a b) w hC hD _ (fun i hi => by simpa using hi), all_eq hC hD]
theorem run_eqArrL (w : World) {C D : List Cell} (hC : C.length = 4096) (hD : D.length = 4096) : (Op.equalIn 10000 42 (.agg (arrC C)) (.agg (arrC D))).run Tryd.prog w = .ok (decide (C = D)) w := by
  cases hq : Tryd.prog.info? 38 with
  | none => have hs := sizeLight; simp [hq] at hs
  | some i =>
    rw [run_equalIn_array (P := Tryd.prog) w 9999 (arrC C) (arrC D) underArrL hq, cellsLight, run_eqItems sizeLight underLight (fun w a b => run_eqLight w 9997 a b) w hC hD _ (fun i hi => by simpa using hi), all_eq hC hD]
theorem guardC : Tryd.prog.eqGuardType Tryd.prog.depth 41 = false := by kernel_rfl
theorem guardL : Tryd.prog.eqGuardType Tryd.prog.depth 42 = false := by kernel_rfl
theorem run_loadL {w : World} {p : Nat} {C L : List Cell} {v : Value} (h : Chk w p C L v) : (loadVar 42 ⟨p, 8192, none⟩).run Tryd.prog w = .ok (.agg (arrC L)) w := by
  have hl : (loadCells ⟨p, 8192, none⟩ (flatP cv L).length).run Tryd.prog w = .ok (flatP cv L).toArray w :=
    run_loadCells_list (P := Tryd.prog) w ⟨p, 8192, none⟩ (flatP cv L) (fun j u hu => by
      have h1 := flatP_len (f := cv) C
      have hj := (List.getElem?_eq_some_iff.1 hu).1
      rw [addr_add, h.cell, ckV, List.getElem?_append_right (by rw [h1, h.2.1]; omega), h1, h.2.1, List.getElem?_append_left (by omega), show 8192 + j - 2 * 4096 = j by omega, hu])
  rw [flatP_len, h.2.2] at hl
  have hs := sizeLights
  cases hq : Tryd.prog.info? 42 with
  | none => simp [hq] at hs
  | some i =>
    have hs2 : i.size = 8192 := by simpa [hq] using hs
    have hagg : (isAgg 42).run Tryd.prog w = .ok true w := by
      unfold isAgg
      rw [Sem.run_bind, run_underlying underArrL w]
      simp
    simp only [loadVar, Sem.run_bind, hagg, Result.andThen_ok, sizeOf, typeInfo, Sem.run_pure]
    have hl2 : (loadCells ⟨p, 8192, none⟩ 8192).run Tryd.prog w = .ok (arrC L) w := hl
    simp [hq, hs2, hl2]
section
variable {o : Oper} {a : Act} {x y : Operand} {W : World} {p : Nat} {C D L : List Cell} {v : Value} {t : TypeId}
theorem yield_loadC (ho : o.op = .load 41 x) (hx : a.eval x = .pointer (some ⟨p, 0, none⟩)) (h : Chk W p C L v) : (execOp a.eval o).run Tryd.prog W = .ok (.value (.agg (arrC C))) W := by
  unfold execOp
  simp only [ho, hx, Instr.loadAt, Instr.sureAddr, Sem.run_bind, Sem.run_pure, Result.andThen_ok, run_loadC h]
theorem yield_loadL (ho : o.op = .load 42 x) (hx : a.eval x = .pointer (some ⟨p, 8192, none⟩)) (h : Chk W p C L v) : (execOp a.eval o).run Tryd.prog W = .ok (.value (.agg (arrC L))) W := by
  unfold execOp
  simp only [ho, hx, Instr.loadAt, Instr.sureAddr, Sem.run_bind, Sem.run_pure, Result.andThen_ok, run_loadL h]
theorem yield_neC (ho : o.op = .binOp .neq 41 x y t) (hx : a.eval x = .agg (arrC C)) (hy : a.eval y = .agg (arrC C)) (hC : C.length = 4096) : (execOp a.eval o).run Tryd.prog W = .ok (.value (.bool false)) W := by
  have h1 := run_neq_struct (P := Tryd.prog) W 41 (arrC C) (arrC C)
  rw [run_eqArrC W hC hC] at h1
  have h2 := run_eqGuard_agg (P := Tryd.prog) W .neq 41 x y (arrC C) (arrC C) guardC
  unfold execOp
  simp only [ho, hx, hy, Sem.run_bind, Sem.run_pure, h2, h1, Result.andThen_ok, decide_true, Bool.not_true]
theorem yield_neL (ho : o.op = .binOp .neq 42 x y t) (hx : a.eval x = .agg (arrC C)) (hy : a.eval y = .agg (arrC C)) (hC : C.length = 4096) : (execOp a.eval o).run Tryd.prog W = .ok (.value (.bool false)) W := by
  have h1 := run_neq_struct (P := Tryd.prog) W 42 (arrC C) (arrC C)
  rw [run_eqArrL W hC hC] at h1
  have h2 := run_eqGuard_agg (P := Tryd.prog) W .neq 42 x y (arrC C) (arrC C) guardL
  unfold execOp
  simp only [ho, hx, hy, Sem.run_bind, Sem.run_pure, h2, h1, Result.andThen_ok, decide_true, Bool.not_true]
end
theorem Chk.sameHeap {w W : World} {p : Nat} {C L : List Cell} {v : Value} (h : Chk w p C L v) (hw : W.heap = w.heap) : Chk W p C L v := ⟨by rw [hw]; exact h.1, h.2⟩
end PackW
end Go.Proofs.YtiochoppiohjnaaDoor
