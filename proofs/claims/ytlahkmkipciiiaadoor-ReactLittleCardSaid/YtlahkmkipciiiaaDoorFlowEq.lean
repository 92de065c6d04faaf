/-
  Rows of cells held against each other, whole; six sides as one value.
-/
import Derived.ChangeKeysEq
import Derived.MapKept
import Derived.Test.YtlahkmkipciiiaaDoorFlowMem
namespace Go.Proofs.YtlahkmkipciiiaaDoor
open Go.RowKit
set_option linter.unusedVariables false
set_option linter.unusedSimpArgs false
set_option maxRecDepth 100000
namespace FlowW
open BlkP RowG FrS PushG FlowP
def encC : Enc Cl := ⟨fun c => [.int .u8 (c.1 : Int), .int .u8 (c.2 : Int)], 2, fun _ => rfl, fun x v h => by
  simp only [List.mem_cons, List.not_mem_nil, or_false] at h
  rcases h with rfl | rfl <;> rfl⟩
abbrev TS6 : TypeId := 24
abbrev T8 : TypeId := 5
def arrC (C : List Cl) : Array Value := (flat encC C).toArray
theorem extract_two {l : List Value} {j : Nat} {a b : Value} (h0 : l[j]? = some a) (h1 : l[j + 1]? = some b) : l.toArray.extract j (j + 2) = #[a, b] := by
  obtain ⟨h2, h3⟩ := List.getElem?_eq_some_iff.1 h0
  obtain ⟨h4, h5⟩ := List.getElem?_eq_some_iff.1 h1
  rw [List.extract_toArray]
  show ((l.drop j).take (j + 2 - j)).toArray = _
  rw [List.drop_eq_getElem_cons h2, List.drop_eq_getElem_cons h4, h3, h5, show j + 2 - j = 2 by omega]
  rfl
theorem sizeCell : (Tryd.prog.info? TC).map (·.size) = some 2 := by kernel_rfl
theorem sizeS6 : (Tryd.prog.info? TS6).map (·.size) = some 12 := by kernel_rfl
theorem underS6 : Tryd.prog.underlying TS6 = some (.array 6 TC) := Tryd.underlying24
theorem underCell : (match Tryd.prog.underlying TC with | some (.struct _) => true | _ => false) = true := by kernel_rfl
theorem under8 : Tryd.prog.underlying T8 = some (.int .u8) := Tryd.underlying5
theorem fieldsCell : (Tryd.prog.fieldsOf TC).toList.map (fun f => (f.name != "_", f.type, f.offset)) = [(true, T8, 0), (true, T8, 1)] := by kernel_rfl
theorem underCell2 : Tryd.prog.underlying TC = some (.struct (Tryd.prog.fieldsOf TC)) := by kernel_rfl
theorem stoodCell : Tryd.prog.stoodInHeld TC = false := by kernel_rfl
theorem run_partU8 (w : World) (x y : Value) : (part T8 #[x, y] 0).run Tryd.prog w = .ok x w ∧ (part T8 #[x, y] 1).run Tryd.prog w = .ok y w := by
  have hagg : (isAgg T8).run Tryd.prog w = .ok false w := by
    unfold isAgg
    rw [Sem.run_bind, run_underlying under8 w]
    simp
  constructor <;> simp [part, Sem.run_bind, hagg]
theorem run_eqU8 (w : World) (d : Nat) (x y : Nat) : (Op.equalIn (d + 1) T8 (.int .u8 (x : Int)) (.int .u8 (y : Int))).run Tryd.prog w = .ok (decide (x = y)) w := by
  have h := run_equalIn_int (P := Tryd.prog) w d T8 .u8 .u8 (x : Int) (y : Int) under8
  rw [h]
  congr 1
  rw [Bool.eq_iff_iff]
  simp only [beq_iff_eq, decide_eq_true_eq]
  omega
theorem run_eqCell (w : World) (d : Nat) (a b : Cl) : (Op.equalIn (d + 2) TC (cvl a) (cvl b)).run Tryd.prog w = .ok (decide (a = b)) w := by
  have h := run_equalIn_agg (P := Tryd.prog) w (d + 1) TC #[.int .u8 (a.1 : Int), .int .u8 (a.2 : Int)] #[.int .u8 (b.1 : Int), .int .u8 (b.2 : Int)] underCell2 stoodCell
  unfold cvl
  rw [h]
  have hf := fieldsCell
  generalize (Tryd.prog.fieldsOf TC).toList = fs at hf ⊢
  have hl : fs.length = 2 := by simpa using congrArg List.length hf
  rcases fs with _ | ⟨f0, _ | ⟨f1, _ | ⟨f2, ft⟩⟩⟩
  · simp at hl
  · simp at hl
  · simp only [List.map_cons, List.map_nil, List.cons.injEq, Prod.mk.injEq, and_true] at hf
    obtain ⟨⟨n0, t0, o0⟩, n1, t1, o1⟩ := hf
    have m0 : f0.name ≠ "_" := by simpa using n0
    have m1 : f1.name ≠ "_" := by simpa using n1
    have e : decide (a = b) = (decide (a.1 = b.1) && decide (a.2 = b.2)) := by
      rw [Bool.eq_iff_iff]
      simp [Prod.ext_iff]
    rw [e]
    unfold Op.eqFields
    simp only [m0, t0, o0, ne_eq, not_false_eq_true, if_true, Sem.run_bind, (run_partU8 w (.int .u8 (a.1 : Int)) (.int .u8 (a.2 : Int))).1, (run_partU8 w (.int .u8 (b.1 : Int)) (.int .u8 (b.2 : Int))).1, Result.andThen_ok, run_eqU8]
    cases decide (a.1 = b.1)
    · simp
    · unfold Op.eqFields
      simp only [m1, t1, o1, ne_eq, not_false_eq_true, if_true, Sem.run_bind, (run_partU8 w (.int .u8 (a.1 : Int)) (.int .u8 (a.2 : Int))).2, (run_partU8 w (.int .u8 (b.1 : Int)) (.int .u8 (b.2 : Int))).2, Result.andThen_ok, run_eqU8, Bool.not_true, Bool.false_eq_true, if_false]
      cases decide (a.2 = b.2)
      · simp
      · simp [Op.eqFields]
  · simp at hl
theorem cellsCell : Tryd.prog.cellsOf TC = 2 := by kernel_rfl
theorem run_partE {T : TypeId} (hs : (Tryd.prog.info? T).map (·.size) = some 2) (hu : (match Tryd.prog.underlying T with | some (.struct _) => true | _ => false) = true) (w : World) {C : List Cl} {c : Cl} {j : Nat} (h : C[j]? = some c) : (part T (arrC C) (j * 2)).run Tryd.prog w = .ok (cvl c) w := by
  have h0 := flat_get (e := encC) h (j := 0) (by decide)
  have h1 := flat_get (e := encC) h (j := 1) (by decide)
  have he := extract_two (l := flat encC C) (j := j * 2) (a := .int .u8 (c.1 : Int)) (b := .int .u8 (c.2 : Int)) h0 h1
  cases hq : Tryd.prog.info? T with
  | none => simp [hq] at hs
  | some i =>
    have hs2 : i.size = 2 := by simpa [hq] using hs
    cases hqu : Tryd.prog.underlying T with
    | none => simp [hqu] at hu
    | some d =>
      have hagg : (isAgg T).run Tryd.prog w = .ok true w := by
        unfold isAgg
        rw [Sem.run_bind, run_underlying hqu w]
        cases d <;> simp_all
      simp only [part, Sem.run_bind, hagg, Result.andThen_ok]
      simp [sizeOf, typeInfo, hq, hs2]
      exact congrArg Value.agg he
theorem run_eqItems {T : TypeId} {N d : Nat} (hs : (Tryd.prog.info? T).map (·.size) = some 2) (hu : (match Tryd.prog.underlying T with | some (.struct _) => true | _ => false) = true) (heq : ∀ (w : World) (a b : Cl), (Op.equalIn d T (cvl a) (cvl b)).run Tryd.prog w = .ok (decide (a = b)) w)
    (w : World) {C D : List Cl} (hC : C.length = N) (hD : D.length = N) : ∀ is : List Nat, (∀ i ∈ is, i < N) → (Op.eqItems d T 2 (arrC C) (arrC D) is).run Tryd.prog w = .ok (is.all fun i => decide (C[i]? = D[i]?)) w
  | [], _ => by simp [Op.eqItems]
  | i :: is, h => by
    have hi := h i (by simp)
    have e1 : C[i]? = some C[i] := List.getElem?_eq_getElem (by omega)
    have e2 : D[i]? = some D[i] := List.getElem?_eq_getElem (by omega)
    have ih := run_eqItems hs hu heq w hC hD is (fun j hj => h j (by simp [hj]))
    rw [Op.eqItems]
    simp only [Sem.run_bind, run_partE hs hu w e1, run_partE hs hu w e2, heq, Result.andThen_ok, List.all_cons, e1, e2, Option.some.injEq]
    by_cases hcd : C[i] = D[i]
    · simp only [hcd, decide_true, Bool.not_true, Bool.false_eq_true, if_false, Bool.true_and]
      exact ih
    · simp [hcd]
theorem all_eq {N : Nat} {C D : List Cl} (hC : C.length = N) (hD : D.length = N) : ((List.range N).all fun i => decide (C[i]? = D[i]?)) = decide (C = D) := by
  rw [Bool.eq_iff_iff, List.all_eq_true]
  simp only [List.mem_range, decide_eq_true_eq]
  constructor
  · intro h
    apply List.ext_getElem?
    intro i
    by_cases hi : i < N
    · exact h i hi
    · rw [List.getElem?_eq_none (by omega), List.getElem?_eq_none (by omega)]
  · rintro rfl i _
    rfl
theorem run_eqArr (w : World) {C D : List Cl} (hC : C.length = 6) (hD : D.length = 6) : (Op.equalIn 10000 TS6 (.agg (arrC C)) (.agg (arrC D))).run Tryd.prog w = .ok (decide (C = D)) w := by
  cases hq : Tryd.prog.info? TC with
  | none => have hs := sizeCell; simp [hq] at hs
  | some i =>
    rw [run_equalIn_array (P := Tryd.prog) w 9999 (arrC C) (arrC D) underS6 hq, cellsCell, run_eqItems (N := 6) sizeCell underCell (fun w a b => run_eqCell w 9997 a b) w hC hD _ (fun i hi => by simpa using hi), all_eq hC hD]
theorem guardS6 : Tryd.prog.eqGuardType Tryd.prog.depth TS6 = false := by kernel_rfl
section
variable {w : World} {ops : Array Oper} {rest : List Oper} {o : Oper} {a : Act} {Q : Exit → Act → World → Prop}
theorem wp_eqS (hgd : o.guard = none) (x y : Operand) (t : TypeId) (ho : o.op = .binOp .eql TS6 x y t) {C D : List Cl} (hx : a.eval x = .agg (arrC C)) (hy : a.eval y = .agg (arrC D)) (hC : C.length = 6) (hD : D.length = 6) {b : Bool} (hb : decide (C = D) = b)
    (h : wpList Tryd.prog ops Q rest (a.put o.dst (.bool b)) w) : wpList Tryd.prog ops Q (o :: rest) a w := by
  refine wpList_plain hgd fun K hK => ?_
  have h1 := run_eql_struct (P := Tryd.prog) w TS6 (arrC C) (arrC D)
  rw [run_eqArr w hC hD] at h1
  have h2 := run_eqGuard_agg (P := Tryd.prog) w .eql TS6 x y (arrC C) (arrC D) guardS6
  unfold Oper.wp execOp
  simp only [ho, hx, hy, Sem.run_bind, Sem.run_pure, h2, h1, Result.andThen_ok, hb]
  exact hK _ _ h
/-- The sides of what is near, where nothing is but Air. -/
theorem field_zero (w : World) : (Instr.field TN (.agg #[.int .u8 0, .int .u8 0, .int .u8 0, .int .u8 0, .int .u8 0, .int .u8 0, .int .u8 0, .int .u8 0, .int .u8 0, .int .u8 0, .int .u8 0, .int .u8 0, .int .u8 0, .int .u8 0, .int .u8 0, .int .u8 0, .int .u8 0, .int .u8 0, .int .u8 0, .int .u8 0, .int .u8 0, .int .u8 0, .int .u8 0, .int .u64 0]) 1).run Tryd.prog w = .ok (.agg #[.int .u8 0, .int .u8 0, .int .u8 0, .int .u8 0, .int .u8 0, .int .u8 0, .int .u8 0, .int .u8 0, .int .u8 0, .int .u8 0, .int .u8 0, .int .u8 0]) w := by kernel_rfl
/-- The six sides, as one value. -/
theorem wp_loadS (hgd : o.guard = none) (x : Operand) (ho : o.op = .load TS6 x) {p : Nat} {n : Nr} (hx : a.eval x = .pointer (some ⟨p, 2, none⟩)) (hk : Blk w p TN (vals n))
    (h : wpList Tryd.prog ops Q rest (a.put o.dst (.agg (arrC [n.sd 0, n.sd 1, n.sd 2, n.sd 3, n.sd 4, n.sd 5]))) w) : wpList Tryd.prog ops Q (o :: rest) a w := by
  refine wpList_load_mid hgd TS6 x ho p 2 hx (flat encC [n.sd 0, n.sd 1, n.sd 2, n.sd 3, n.sd 4, n.sd 5]) (.array 6 TC) (fun j v hv => ?_) underS6 rfl (by rw [sizeS6, flat_len]; rfl) h
  refine hk.cell ?_
  have e : (vals n)[2 + j]? = (flat encC [n.sd 0, n.sd 1, n.sd 2, n.sd 3, n.sd 4, n.sd 5] ++ (valsU n.un ++ [u8 n.lt, .int .u64 n.dr]))[j]? := by
    rw [show vals n = u8 n.s.1 :: u8 n.s.2 :: (flat encC [n.sd 0, n.sd 1, n.sd 2, n.sd 3, n.sd 4, n.sd 5] ++ (valsU n.un ++ [u8 n.lt, .int .u64 n.dr])) from rfl, show 2 + j = j + 1 + 1 by omega, List.getElem?_cons_succ, List.getElem?_cons_succ]
  rw [e, List.getElem?_append_left (List.getElem?_eq_some_iff.1 hv).1]
  exact hv
end
end FlowW
end Go.Proofs.YtlahkmkipciiiaaDoor
