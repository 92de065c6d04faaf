/-
  Whether two chunks are the same, by the laws' own function.
-/
import Derived.ChangeKeysEq
import Derived.Deep.RegionHeld3
import Derived.Test.YtdboebokjkkgkaaDoorPackPut
namespace Go.Proofs.YtdboebokjkkgkaaDoor
open Go.RowKit
set_option linter.unusedVariables false
set_option linter.unusedSimpArgs false
set_option maxRecDepth 100000
namespace PackW
open BytesW RunsW

theorem sizeLights : (Tryd.prog.info? 51).map (·.size) = some 8192 := by kernel_rfl
theorem sizeLight : (Tryd.prog.info? 45).map (·.size) = some 2 := by kernel_rfl
theorem underArrL : Tryd.prog.underlying 51 = some (.array 4096 45) := Tryd.underlying51
theorem fieldsLight : (Tryd.prog.fieldsOf 45).toList.map (fun f => (f.name != "_", f.type, f.offset)) = [(true, 5, 0), (true, 5, 1)] := by kernel_rfl
theorem underLight2 : Tryd.prog.underlying 45 = some (.struct (Tryd.prog.fieldsOf 45)) := by kernel_rfl
theorem stoodLight : Tryd.prog.stoodInHeld 45 = false := by kernel_rfl
theorem run_eqLight (w : World) (d : Nat) (a b : Cell) : (Op.equalIn (d + 2) 45 (encC a) (encC b)).run Tryd.prog w = .ok (decide (a = b)) w := by
  have h := run_equalIn_agg (P := Tryd.prog) w (d + 1) 45 #[bv a.1, bv a.2] #[bv b.1, bv b.2] underLight2 stoodLight
  unfold encC
  rw [h]
  have hf := fieldsLight
  generalize (Tryd.prog.fieldsOf 45).toList = fs at hf ⊢
  have hl : fs.length = 2 := by simpa using congrArg List.length hf
  rcases fs with _ | ⟨f0, _ | ⟨f1, _ | ⟨f2, ft⟩⟩⟩
  · simp at hl
  · simp at hl
  · simp only [List.map_cons, List.map_nil, List.cons.injEq, Prod.mk.injEq, and_true] at hf
    obtain ⟨⟨n0, t0, o0⟩, n1, t1, o1⟩ := hf
    have m0 : f0.name ≠ "_" := by simpa using n0
    have m1 : f1.name ≠ "_" := by simpa using n1
    have e : decide (a = b) = (decide (a.1 = b.1) && decide (a.2 = b.2)) := by
      rw [Bool.eq_iff_iff]
      simp [Prod.ext_iff]
    rw [e]
    unfold Op.eqFields
    simp only [m0, t0, o0, ne_eq, not_false_eq_true, if_true, Sem.run_bind, (run_partU8 w (bv a.1) (bv a.2)).1, (run_partU8 w (bv b.1) (bv b.2)).1, Result.andThen_ok, run_eqU8]
    cases decide (a.1 = b.1)
    · simp
    · unfold Op.eqFields
      simp only [m1, t1, o1, ne_eq, not_false_eq_true, if_true, Sem.run_bind, (run_partU8 w (bv a.1) (bv a.2)).2, (run_partU8 w (bv b.1) (bv b.2)).2, Result.andThen_ok, run_eqU8, Bool.not_true, Bool.false_eq_true, if_false]
      cases decide (a.2 = b.2)
      · simp
      · simp [Op.eqFields]
  · simp at hl
theorem underLight : (match Tryd.prog.underlying 45 with | some (.struct _) => true | _ => false) = true := by kernel_rfl
theorem cellsCell : Tryd.prog.cellsOf 43 = 2 := by kernel_rfl
theorem cellsLight : Tryd.prog.cellsOf 45 = 2 := by kernel_rfl
theorem run_partE {T : TypeId} (hs : (Tryd.prog.info? T).map (·.size) = some 2) (hu : (match Tryd.prog.underlying T with | some (.struct _) => true | _ => false) = true) (w : World) {C : List Cell} {c : Cell} {j : Nat} (h : C[j]? = some c) : (part T (arrC C) (j * 2)).run Tryd.prog w = .ok (encC c) w := by
  obtain ⟨h0, h1⟩ := flatP_get (f := cv) h
  have he := extract_two h0 h1
  cases hq : Tryd.prog.info? T with
  | none => simp [hq] at hs
  | some i =>
    have hs2 : i.size = 2 := by simpa [hq] using hs
    cases hqu : Tryd.prog.underlying T with
    | none => simp [hqu] at hu
    | some d =>
      have hagg : (isAgg T).run Tryd.prog w = .ok true w := by
        unfold isAgg
        rw [Sem.run_bind, run_underlying hqu w]
        cases d <;> simp_all
      simp only [part, Sem.run_bind, hagg, Result.andThen_ok]
      simp [sizeOf, typeInfo, hq, hs2]
      exact congrArg Value.agg he
theorem run_eqItems {T : TypeId} (hs : (Tryd.prog.info? T).map (·.size) = some 2) (hu : (match Tryd.prog.underlying T with | some (.struct _) => true | _ => false) = true) (heq : ∀ (w : World) (a b : Cell), (Op.equalIn 9999 T (encC a) (encC b)).run Tryd.prog w = .ok (decide (a = b)) w)
    (w : World) {C D : List Cell} (hC : C.length = 4096) (hD : D.length = 4096) : ∀ is : List Nat, (∀ i ∈ is, i < 4096) → (Op.eqItems 9999 T 2 (arrC C) (arrC D) is).run Tryd.prog w = .ok (is.all fun i => decide (C[i]? = D[i]?)) w
  | [], _ => by simp [Op.eqItems]
  | i :: is, h => by
    have hi := h i (by simp)
    have e1 : C[i]? = some C[i] := List.getElem?_eq_getElem (by omega)
    have e2 : D[i]? = some D[i] := List.getElem?_eq_getElem (by omega)
    have ih := run_eqItems hs hu heq w hC hD is (fun j hj => h j (by simp [hj]))
    rw [Op.eqItems]
    simp only [Sem.run_bind, run_partE hs hu w e1, run_partE hs hu w e2, heq, Result.andThen_ok, List.all_cons, e1, e2, Option.some.injEq]
    by_cases hcd : C[i] = D[i]
    · simp only [hcd, decide_true, Bool.not_true, Bool.false_eq_true, if_false, Bool.true_and]
      exact ih
    · simp [hcd]
theorem all_eq {C D : List Cell} (hC : C.length = 4096) (hD : D.length = 4096) : ((List.range 4096).all fun i => decide (C[i]? = D[i]?)) = decide (C = D) := by
  rw [Bool.eq_iff_iff, List.all_eq_true]
  simp only [List.mem_range, decide_eq_true_eq]
  constructor
  · intro h
    apply List.ext_getElem?
    intro i
    by_cases hi : i < 4096
    · exact h i hi
    · rw [List.getElem?_eq_none (by omega), List.getElem?_eq_none (by omega)]
  · rintro rfl i _
    rfl
theorem run_eqArrC (w : World) {C D : List Cell} (hC : C.length = 4096) (hD : D.length = 4096) : (Op.equalIn 10000 50 (.agg (arrC C)) (.agg (arrC D))).run Tryd.prog w = .ok (decide (C = D)) w := by
  cases hq : Tryd.prog.info? 43 with
  | none => have hs := sizeCell; simp [hq] at hs
  | some i =>
    rw [run_equalIn_array (P := Tryd.prog) w 9999 (arrC C) (arrC D) underArr hq, cellsCell, run_eqItems sizeCell underCell (fun w a b => run_eqCell w 9997 a b) w hC hD _ (fun i hi => by simpa using hi), all_eq hC hD]
theorem run_eqArrL (w : World) {C D : List Cell} (hC : C.length = 4096) (hD : D.length = 4096) : (Op.equalIn 10000 51 (.agg (arrC C)) (.agg (arrC D))).run Tryd.prog w = .ok (decide (C = D)) w := by
  cases hq : Tryd.prog.info? 45 with
  | none => have hs := sizeLight; simp [hq] at hs
  | some i =>
    rw [run_equalIn_array (P := Tryd.prog) w 9999 (arrC C) (arrC D) underArrL hq, cellsLight, run_eqItems sizeLight underLight (fun w a b => run_eqLight w 9997 a b) w hC hD _ (fun i hi => by simpa using hi), all_eq hC hD]
theorem guardC : Tryd.prog.eqGuardType Tryd.prog.depth 50 = false := by kernel_rfl
theorem guardL : Tryd.prog.eqGuardType Tryd.prog.depth 51 = false := by kernel_rfl
theorem run_loadL {w : World} {p : Nat} {C L : List Cell} {v : Value} (h : Chk w p C L v) : (loadVar 51 ⟨p, 8192, none⟩).run Tryd.prog w = .ok (.agg (arrC L)) w := by
  have hl : (loadCells ⟨p, 8192, none⟩ (flatP cv L).length).run Tryd.prog w = .ok (flatP cv L).toArray w :=
    run_loadCells_list (P := Tryd.prog) w ⟨p, 8192, none⟩ (flatP cv L) (fun j u hu => by
      have h1 := flatP_len (f := cv) C
      have hj := (List.getElem?_eq_some_iff.1 hu).1
      rw [addr_add, h.cell, ckV, List.getElem?_append_right (by rw [h1, h.2.1]; omega), h1, h.2.1, List.getElem?_append_left (by omega), show 8192 + j - 2 * 4096 = j by omega, hu])
  rw [flatP_len, h.2.2] at hl
  have hs := sizeLights
  cases hq : Tryd.prog.info? 51 with
  | none => simp [hq] at hs
  | some i =>
    have hs2 : i.size = 8192 := by simpa [hq] using hs
    have hagg : (isAgg 51).run Tryd.prog w = .ok true w := by
      unfold isAgg
      rw [Sem.run_bind, run_underlying underArrL w]
      simp
    simp only [loadVar, Sem.run_bind, hagg, Result.andThen_ok, sizeOf, typeInfo, Sem.run_pure]
    have hl2 : (loadCells ⟨p, 8192, none⟩ 8192).run Tryd.prog w = .ok (arrC L) w := hl
    simp [hq, hs2, hl2]
section
variable {o : Oper} {a : Act} {x y : Operand} {W : World} {p : Nat} {C D L : List Cell} {v : Value} {t : TypeId}
theorem yield_loadC (ho : o.op = .load 50 x) (hx : a.eval x = .pointer (some ⟨p, 0, none⟩)) (h : Chk W p C L v) : (execOp a.eval o).run Tryd.prog W = .ok (.value (.agg (arrC C))) W := by
  unfold execOp
  simp only [ho, hx, Instr.loadAt, Instr.sureAddr, Sem.run_bind, Sem.run_pure, Result.andThen_ok, run_loadC h]
theorem yield_loadL (ho : o.op = .load 51 x) (hx : a.eval x = .pointer (some ⟨p, 8192, none⟩)) (h : Chk W p C L v) : (execOp a.eval o).run Tryd.prog W = .ok (.value (.agg (arrC L))) W := by
  unfold execOp
  simp only [ho, hx, Instr.loadAt, Instr.sureAddr, Sem.run_bind, Sem.run_pure, Result.andThen_ok, run_loadL h]
theorem yield_neC (ho : o.op = .binOp .neq 50 x y t) (hx : a.eval x = .agg (arrC C)) (hy : a.eval y = .agg (arrC C)) (hC : C.length = 4096) : (execOp a.eval o).run Tryd.prog W = .ok (.value (.bool false)) W := by
  have h1 := run_neq_struct (P := Tryd.prog) W 50 (arrC C) (arrC C)
  rw [run_eqArrC W hC hC] at h1
  have h2 := run_eqGuard_agg (P := Tryd.prog) W .neq 50 x y (arrC C) (arrC C) guardC
  unfold execOp
  simp only [ho, hx, hy, Sem.run_bind, Sem.run_pure, h2, h1, Result.andThen_ok, decide_true, Bool.not_true]
theorem yield_neL (ho : o.op = .binOp .neq 51 x y t) (hx : a.eval x = .agg (arrC C)) (hy : a.eval y = .agg (arrC C)) (hC : C.length = 4096) : (execOp a.eval o).run Tryd.prog W = .ok (.value (.bool false)) W := by
  have h1 := run_neq_struct (P := Tryd.prog) W 51 (arrC C) (arrC C)
  rw [run_eqArrL W hC hC] at h1
  have h2 := run_eqGuard_agg (P := Tryd.prog) W .neq 51 x y (arrC C) (arrC C) guardL
  unfold execOp
  simp only [ho, hx, hy, Sem.run_bind, Sem.run_pure, h2, h1, Result.andThen_ok, decide_true, Bool.not_true]
end
theorem Chk.sameHeap {w W : World} {p : Nat} {C L : List Cell} {v : Value} (h : Chk w p C L v) (hw : W.heap = w.heap) : Chk W p C L v := ⟨by rw [hw]; exact h.1, h.2⟩

def SameRel (w : World) (n : Nat) (v : Value) (wr : World) : Prop := ∃ j : Nat, v = .int .i64 j ∧ j ≤ n ∧ Below w.heap.size w wr
set_option maxHeartbeats 8000000 in
theorem same6_c {w : World} {p q : Nat} {k : Ck} (hp : ChkK w p k) (hq : ChkK w q k) :
    Calls Tryd.prog 19 #[.pointer (some ⟨p, 0, none⟩), .pointer (some ⟨q, 0, none⟩)] w fun e w' => e = .returned (.bool true) ∧ Below w.heap.size w w' := by
  obtain ⟨C, L, ts⟩ := k
  obtain ⟨A, c, h1, h2, h3, h4, h5⟩ := hp
  obtain ⟨B, d, g1, g2, g3, g4, g5⟩ := hq
  simp only at h1 h2 h3 h5 g1 g2 g3
  obtain ⟨n, hn⟩ : ∃ n, n = ts.length := ⟨_, rfl⟩
  rw [← hn] at h1 h3 h5 g1 g3
  have HP := Lib.hid h1
  have HQ := Lib.hid g1
  have HC := Lib.hid h1.2.1
  have HL := Lib.hid h1.2.2
  have HA := Lib.hid h2
  have HB := Lib.hid g2
  have HN := Lib.hid hn
  clear hn h1 h2 g1 g2
  go_enter Tryd.func19, Tryd.ntmps19
  go_wp2_with fail
  have HW : Hid (∀ W : World, W.heap = w.heap → Below w.heap.size w W → True) := Lib.hid (fun _ _ _ => trivial)
  · refine wp_region_noPanic ?_
    refine wp_region_held_drew (S := fun w' => w'.heap = w.heap) (by kernel_rfl) rfl (fun hHeld => ?_)
    refine wpAnyH_take (i := 0) (oi := ⟨some 6, _, _, _, _, _⟩) (v := .pointer (some ⟨p, 0, none⟩)) rfl (by kernel_rfl) (by kernel_rfl) (by kernel_rfl) (fun _ _ _ h => h) (Or.inl ⟨by rfl, fun W hSW => by go_simp⟩) hHeld ?_
    simp only [Act.put, List.setIfInBounds_toArray, List.set_cons_zero, List.set_cons_succ]
    refine wpAnyH_take (i := 1) (oi := ⟨some 7, _, _, _, _, _⟩) (v := .pointer (some ⟨p, 0, none⟩)) rfl (by kernel_rfl) (by kernel_rfl) (by kernel_rfl) (fun _ _ _ h => h) (Or.inl ⟨by rfl, fun W hSW => by go_simp⟩) hHeld ?_
    simp only [Act.put, List.setIfInBounds_toArray, List.set_cons_zero, List.set_cons_succ]
    refine wpAnyH_take (i := 2) (oi := ⟨some 8, _, _, _, _, _⟩) (v := .pointer (some ⟨p, 0, none⟩)) rfl (by kernel_rfl) (by kernel_rfl) (by kernel_rfl) (fun _ _ _ h => h) (Or.inl ⟨by rfl, fun W hSW => by go_simp⟩) hHeld ?_
    simp only [Act.put, List.setIfInBounds_toArray, List.set_cons_zero, List.set_cons_succ]
    refine wpAnyH_take (i := 3) (oi := ⟨some 9, _, _, _, _, _⟩) (v := .agg (arrC C)) rfl (by kernel_rfl) (by kernel_rfl) (by kernel_rfl) (fun _ _ _ h => h) (Or.inl ⟨by rfl, fun W hSW => by exact yield_loadC rfl (by rfl) ((HP.out).sameHeap hSW)⟩) hHeld ?_
    simp only [Act.put, List.setIfInBounds_toArray, List.set_cons_zero, List.set_cons_succ]
    refine wpAnyH_take (i := 4) (oi := ⟨some 10, _, _, _, _, _⟩) (v := .pointer (some ⟨q, 0, none⟩)) rfl (by kernel_rfl) (by kernel_rfl) (by kernel_rfl) (fun _ _ _ h => h) (Or.inl ⟨by rfl, fun W hSW => by go_simp⟩) hHeld ?_
    simp only [Act.put, List.setIfInBounds_toArray, List.set_cons_zero, List.set_cons_succ]
    refine wpAnyH_take (i := 5) (oi := ⟨some 11, _, _, _, _, _⟩) (v := .pointer (some ⟨q, 0, none⟩)) rfl (by kernel_rfl) (by kernel_rfl) (by kernel_rfl) (fun _ _ _ h => h) (Or.inl ⟨by rfl, fun W hSW => by go_simp⟩) hHeld ?_
    simp only [Act.put, List.setIfInBounds_toArray, List.set_cons_zero, List.set_cons_succ]
    refine wpAnyH_take (i := 6) (oi := ⟨some 12, _, _, _, _, _⟩) (v := .pointer (some ⟨q, 0, none⟩)) rfl (by kernel_rfl) (by kernel_rfl) (by kernel_rfl) (fun _ _ _ h => h) (Or.inl ⟨by rfl, fun W hSW => by go_simp⟩) hHeld ?_
    simp only [Act.put, List.setIfInBounds_toArray, List.set_cons_zero, List.set_cons_succ]
    refine wpAnyH_take (i := 7) (oi := ⟨some 13, _, _, _, _, _⟩) (v := .agg (arrC C)) rfl (by kernel_rfl) (by kernel_rfl) (by kernel_rfl) (fun _ _ _ h => h) (Or.inl ⟨by rfl, fun W hSW => by exact yield_loadC rfl (by rfl) ((HQ.out).sameHeap hSW)⟩) hHeld ?_
    simp only [Act.put, List.setIfInBounds_toArray, List.set_cons_zero, List.set_cons_succ]
    refine wpAnyH_take (i := 8) (oi := ⟨some 14, _, _, _, _, _⟩) (v := .bool false) rfl (by kernel_rfl) (by kernel_rfl) (by kernel_rfl) (fun _ _ _ h => h) (Or.inl ⟨by rfl, fun W hSW => by exact yield_neC rfl (by rfl) (by rfl) HC.out⟩) hHeld ?_
    simp only [Act.put, List.setIfInBounds_toArray, List.set_cons_zero, List.set_cons_succ]
    refine wpAnyH_take (i := 9) (oi := ⟨some 15, _, _, _, _, _⟩) (v := .bool false) rfl (by kernel_rfl) (by kernel_rfl) (by kernel_rfl) (fun _ _ _ h => h) (Or.inl ⟨by rfl, fun W hSW => by go_simp⟩) hHeld ?_
    simp only [Act.put, List.setIfInBounds_toArray, List.set_cons_zero, List.set_cons_succ]
    refine wpAnyH_take (i := 10) (oi := ⟨some 16, _, _, _, _, _⟩) (v := .pointer (some ⟨p, 0, none⟩)) rfl (by kernel_rfl) (by kernel_rfl) (by kernel_rfl) (fun _ _ _ h => h) (Or.inl ⟨by rfl, fun W hSW => by go_simp⟩) hHeld ?_
    simp only [Act.put, List.setIfInBounds_toArray, List.set_cons_zero, List.set_cons_succ]
    refine wpAnyH_take (i := 11) (oi := ⟨some 17, _, _, _, _, _⟩) (v := .pointer (some ⟨p, 0, none⟩)) rfl (by kernel_rfl) (by kernel_rfl) (by kernel_rfl) (fun _ _ _ h => h) (Or.inl ⟨by rfl, fun W hSW => by go_simp⟩) hHeld ?_
    simp only [Act.put, List.setIfInBounds_toArray, List.set_cons_zero, List.set_cons_succ]
    refine wpAnyH_take (i := 12) (oi := ⟨some 18, _, _, _, _, _⟩) (v := .pointer (some ⟨p, 8192, none⟩)) rfl (by kernel_rfl) (by kernel_rfl) (by kernel_rfl) (fun _ _ _ h => h) (Or.inl ⟨by rfl, fun W hSW => by go_simp⟩) hHeld ?_
    simp only [Act.put, List.setIfInBounds_toArray, List.set_cons_zero, List.set_cons_succ]
    refine wpAnyH_take (i := 13) (oi := ⟨some 19, _, _, _, _, _⟩) (v := .agg (arrC L)) rfl (by kernel_rfl) (by kernel_rfl) (by kernel_rfl) (fun _ _ _ h => h) (Or.inl ⟨by rfl, fun W hSW => by exact yield_loadL rfl (by rfl) ((HP.out).sameHeap hSW)⟩) hHeld ?_
    simp only [Act.put, List.setIfInBounds_toArray, List.set_cons_zero, List.set_cons_succ]
    refine wpAnyH_take (i := 14) (oi := ⟨some 20, _, _, _, _, _⟩) (v := .pointer (some ⟨q, 0, none⟩)) rfl (by kernel_rfl) (by kernel_rfl) (by kernel_rfl) (fun _ _ _ h => h) (Or.inl ⟨by rfl, fun W hSW => by go_simp⟩) hHeld ?_
    simp only [Act.put, List.setIfInBounds_toArray, List.set_cons_zero, List.set_cons_succ]
    refine wpAnyH_take (i := 15) (oi := ⟨some 21, _, _, _, _, _⟩) (v := .pointer (some ⟨q, 0, none⟩)) rfl (by kernel_rfl) (by kernel_rfl) (by kernel_rfl) (fun _ _ _ h => h) (Or.inl ⟨by rfl, fun W hSW => by go_simp⟩) hHeld ?_
    simp only [Act.put, List.setIfInBounds_toArray, List.set_cons_zero, List.set_cons_succ]
    refine wpAnyH_take (i := 16) (oi := ⟨some 22, _, _, _, _, _⟩) (v := .pointer (some ⟨q, 8192, none⟩)) rfl (by kernel_rfl) (by kernel_rfl) (by kernel_rfl) (fun _ _ _ h => h) (Or.inl ⟨by rfl, fun W hSW => by go_simp⟩) hHeld ?_
    simp only [Act.put, List.setIfInBounds_toArray, List.set_cons_zero, List.set_cons_succ]
    refine wpAnyH_take (i := 17) (oi := ⟨some 23, _, _, _, _, _⟩) (v := .agg (arrC L)) rfl (by kernel_rfl) (by kernel_rfl) (by kernel_rfl) (fun _ _ _ h => h) (Or.inl ⟨by rfl, fun W hSW => by exact yield_loadL rfl (by rfl) ((HQ.out).sameHeap hSW)⟩) hHeld ?_
    simp only [Act.put, List.setIfInBounds_toArray, List.set_cons_zero, List.set_cons_succ]
    refine wpAnyH_take (i := 18) (oi := ⟨some 24, _, _, _, _, _⟩) (v := .bool false) rfl (by kernel_rfl) (by kernel_rfl) (by kernel_rfl) (fun _ _ _ h => h) (Or.inl ⟨by rfl, fun W hSW => by exact yield_neL rfl (by rfl) (by rfl) HL.out⟩) hHeld ?_
    simp only [Act.put, List.setIfInBounds_toArray, List.set_cons_zero, List.set_cons_succ]
    refine wpAnyH_take (i := 19) (oi := ⟨some 25, _, _, _, _, _⟩) (v := .bool false) rfl (by kernel_rfl) (by kernel_rfl) (by kernel_rfl) (fun _ _ _ h => h) (Or.inl ⟨by rfl, fun W hSW => by go_simp⟩) hHeld ?_
    simp only [Act.put, List.setIfInBounds_toArray, List.set_cons_zero, List.set_cons_succ]
    refine wpAnyH_take (i := 20) (oi := ⟨some 26, _, _, _, _, _⟩) (v := .bool false) rfl (by kernel_rfl) (by kernel_rfl) (by kernel_rfl) (fun _ _ _ h => h) (Or.inl ⟨by rfl, fun W hSW => by go_simp⟩) hHeld ?_
    simp only [Act.put, List.setIfInBounds_toArray, List.set_cons_zero, List.set_cons_succ]
    refine wpAnyH_take (i := 21) (oi := ⟨some 27, _, _, _, _, _⟩) (v := .pointer (some ⟨p, 0, none⟩)) rfl (by kernel_rfl) (by kernel_rfl) (by kernel_rfl) (fun _ _ _ h => h) (Or.inl ⟨by rfl, fun W hSW => by go_simp⟩) hHeld ?_
    simp only [Act.put, List.setIfInBounds_toArray, List.set_cons_zero, List.set_cons_succ]
    refine wpAnyH_take (i := 22) (oi := ⟨some 28, _, _, _, _, _⟩) (v := .pointer (some ⟨p, 0, none⟩)) rfl (by kernel_rfl) (by kernel_rfl) (by kernel_rfl) (fun _ _ _ h => h) (Or.inl ⟨by rfl, fun W hSW => by go_simp⟩) hHeld ?_
    simp only [Act.put, List.setIfInBounds_toArray, List.set_cons_zero, List.set_cons_succ]
    refine wpAnyH_take (i := 23) (oi := ⟨some 29, _, _, _, _, _⟩) (v := .pointer (some ⟨p, 16384, none⟩)) rfl (by kernel_rfl) (by kernel_rfl) (by kernel_rfl) (fun _ _ _ h => h) (Or.inl ⟨by rfl, fun W hSW => by go_simp⟩) hHeld ?_
    simp only [Act.put, List.setIfInBounds_toArray, List.set_cons_zero, List.set_cons_succ]
    refine wpAnyH_take (i := 24) (oi := ⟨some 30, _, _, _, _, _⟩) (v := .slice A n c) rfl (by kernel_rfl) (by kernel_rfl) (by kernel_rfl) (fun _ _ _ h => h) (Or.inl ⟨by rfl, fun W hSW => by have c := ((HP.out).sameHeap hSW).t; go_simp⟩) hHeld ?_
    simp only [Act.put, List.setIfInBounds_toArray, List.set_cons_zero, List.set_cons_succ]
    refine wpAnyH_take (i := 25) (oi := ⟨some 31, _, _, _, _, _⟩) (v := .int .i64 n) rfl (by kernel_rfl) (by kernel_rfl) (by kernel_rfl) (fun _ _ _ h => h) (Or.inl ⟨by rfl, fun W hSW => by go_simp⟩) hHeld ?_
    simp only [Act.put, List.setIfInBounds_toArray, List.set_cons_zero, List.set_cons_succ]
    refine wpAnyH_take (i := 26) (oi := ⟨some 32, _, _, _, _, _⟩) (v := .pointer (some ⟨q, 0, none⟩)) rfl (by kernel_rfl) (by kernel_rfl) (by kernel_rfl) (fun _ _ _ h => h) (Or.inl ⟨by rfl, fun W hSW => by go_simp⟩) hHeld ?_
    simp only [Act.put, List.setIfInBounds_toArray, List.set_cons_zero, List.set_cons_succ]
    refine wpAnyH_take (i := 27) (oi := ⟨some 33, _, _, _, _, _⟩) (v := .pointer (some ⟨q, 0, none⟩)) rfl (by kernel_rfl) (by kernel_rfl) (by kernel_rfl) (fun _ _ _ h => h) (Or.inl ⟨by rfl, fun W hSW => by go_simp⟩) hHeld ?_
    simp only [Act.put, List.setIfInBounds_toArray, List.set_cons_zero, List.set_cons_succ]
    refine wpAnyH_take (i := 28) (oi := ⟨some 34, _, _, _, _, _⟩) (v := .pointer (some ⟨q, 16384, none⟩)) rfl (by kernel_rfl) (by kernel_rfl) (by kernel_rfl) (fun _ _ _ h => h) (Or.inl ⟨by rfl, fun W hSW => by go_simp⟩) hHeld ?_
    simp only [Act.put, List.setIfInBounds_toArray, List.set_cons_zero, List.set_cons_succ]
    refine wpAnyH_take (i := 29) (oi := ⟨some 35, _, _, _, _, _⟩) (v := .slice B n d) rfl (by kernel_rfl) (by kernel_rfl) (by kernel_rfl) (fun _ _ _ h => h) (Or.inl ⟨by rfl, fun W hSW => by have c := ((HQ.out).sameHeap hSW).t; go_simp⟩) hHeld ?_
    simp only [Act.put, List.setIfInBounds_toArray, List.set_cons_zero, List.set_cons_succ]
    refine wpAnyH_take (i := 30) (oi := ⟨some 36, _, _, _, _, _⟩) (v := .int .i64 n) rfl (by kernel_rfl) (by kernel_rfl) (by kernel_rfl) (fun _ _ _ h => h) (Or.inl ⟨by rfl, fun W hSW => by go_simp⟩) hHeld ?_
    simp only [Act.put, List.setIfInBounds_toArray, List.set_cons_zero, List.set_cons_succ]
    refine wpAnyH_take (i := 31) (oi := ⟨some 37, _, _, _, _, _⟩) (v := .bool false) rfl (by kernel_rfl) (by kernel_rfl) (by kernel_rfl) (fun _ _ _ h => h) (Or.inl ⟨by rfl, fun W hSW => by go_simp⟩) hHeld ?_
    simp only [Act.put, List.setIfInBounds_toArray, List.set_cons_zero, List.set_cons_succ]
    refine wpAnyH_take (i := 32) (oi := ⟨some 38, _, _, _, _, _⟩) (v := .bool false) rfl (by kernel_rfl) (by kernel_rfl) (by kernel_rfl) (fun _ _ _ h => h) (Or.inl ⟨by rfl, fun W hSW => by go_simp⟩) hHeld ?_
    simp only [Act.put, List.setIfInBounds_toArray, List.set_cons_zero, List.set_cons_succ]
    refine wpAnyH_done (by kernel_rfl) ?_ _
    refine NoPanic.normal ?_
    go_wp2_with fail
    go_loopw [5] (SameRel w n) (fun v _ => n - (intOf v).toNat)
    case atStart => exact ⟨0, rfl, by omega, (Below.refl _ w).drew⟩
    case round =>
      obtain ⟨j, rfl, hj, hbw⟩ := hrel
      have HBW := Lib.hid hbw
      have tp := (HP.out.below hbw).t
      have tq := (HQ.out.below hbw).t
      clear hbw hHeld
      by_cases hjn : j < n
      · have hjI : (j : Int) < n := by omega
        have hj0 : (0 : Int) ≤ j := by omega
        obtain ⟨⟨x, y⟩, hx⟩ : ∃ x, ts[j]? = some x := ⟨_, List.getElem?_eq_getElem (by have := HN.out; omega)⟩
        obtain ⟨b1, o1, rfl, hl1, hc1⟩ := (HA.out.below HBW.out).cells (fun e => by rw [e] at hx; simp at hx)
        obtain ⟨b2, o2, rfl, hl2, hc2⟩ := (HB.out.below HBW.out).cells (fun e => by rw [e] at hx; simp at hx)
        obtain ⟨a0, a1⟩ := hc1 _ _ hx
        obtain ⟨e0, e1⟩ := hc2 _ _ hx
        simp only [tkv] at a0 a1 e0 e1
        clear hc1 hc2 hx
        go_wp2_with fail
        go_quiet (fail)
        go_wp2_with fail
        go_roundw
        case rel => exact ⟨j + 1, by go_num, by omega, BaseP.below_drewN HBW.out _⟩
        case measure => simp [intOf]; omega
      · have hjI : ¬ (j : Int) < n := by omega
        go_wp2_with fail
        go_ret
        exact ⟨rfl, HBW.out⟩
end PackW
end Go.Proofs.YtdboebokjkkgkaaDoor
