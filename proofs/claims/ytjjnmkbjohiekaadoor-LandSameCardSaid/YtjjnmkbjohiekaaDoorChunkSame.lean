/-
  Copy, Same of the program.
-/
import Derived.Test.YtjjnmkbjohiekaaDoorChunkOf
import Derived.Laws.Tables
namespace Go.Proofs.YtjjnmkbjohiekaaDoor
open Go.RowKit
set_option linter.unusedVariables false
set_option linter.unusedSimpArgs false
namespace ChunkW
open BytesW PackW

set_option maxRecDepth 100000
theorem flat_one (C : List Cell) : ∀ v ∈ flatP cv C, v.oneCell' = true := fun v hv => by
  obtain ⟨x, _, hx⟩ := List.mem_flatMap.1 hv
  simp only [List.mem_cons, List.not_mem_nil, or_false] at hx
  rcases hx with rfl | rfl <;> rfl
theorem ckV_one {C L : List Cell} {v : Value} (hv : v.oneCell' = true) : (ckV C L v).toArray.all (·.oneCell') = true := by
  rw [Array.all_eq_true_iff_forall_mem]
  intro x hx
  simp only [List.mem_toArray, ckV, List.mem_append, List.mem_cons, List.not_mem_nil, or_false] at hx
  rcases hx with hx | hx | rfl
  · exact flat_one C x hx
  · exact flat_one L x hx
  · exact hv
theorem sizeChunk : (Tryd.prog.info? 47).map (·.size) = some 16385 := by kernel_rfl
theorem underChunk : (match Tryd.prog.underlying 47 with | some (.struct _) => true | _ => false) = true := by kernel_rfl
theorem run_loadK {w : World} {p : Nat} {C L : List Cell} {v : Value} (h : Chk w p C L v) : (loadVar 47 ⟨p, 0, none⟩).run Tryd.prog w = .ok (.agg (ckV C L v).toArray) w := by
  have hl : (loadCells ⟨p, 0, none⟩ (ckV C L v).length).run Tryd.prog w = .ok (ckV C L v).toArray w :=
    run_loadCells_list (P := Tryd.prog) w ⟨p, 0, none⟩ (ckV C L v) (fun j u hu => by rw [addr_add, Nat.zero_add, h.cell, hu])
  rw [ckV_len h.2.1 h.2.2] at hl
  have hs := sizeChunk
  have hu := underChunk
  cases hq : Tryd.prog.info? 47 with
  | none => simp [hq] at hs
  | some i =>
    have hs2 : i.size = 16385 := by simpa [hq] using hs
    cases hqu : Tryd.prog.underlying 47 with
    | none => simp [hqu] at hu
    | some d =>
      have hagg : (isAgg 47).run Tryd.prog w = .ok true w := by
        unfold isAgg
        rw [Sem.run_bind, run_underlying hqu w]
        cases d <;> simp_all
      simp only [loadVar, Sem.run_bind, hagg, Result.andThen_ok, sizeOf, typeInfo, Sem.run_pure]
      simp [hq, hs2, hl]
theorem grown_row (w : World) (g : Nat) (cells : Array Value) : w.grownBy (w.setRow g cells) (some g) := ⟨rfl, rfl, rfl, by simp [World.setRow], fun k hk hne => by
  simp only [World.setRow, Array.getElem?_modify]
  rw [if_neg (fun e => hne (by rw [e]))]⟩
section
variable {w : World} {ops : Array Oper} {rest : List Oper} {o : Oper} {a : Act} {Q : Exit → Act → World → Prop}
theorem wp_loadK (hgd : o.guard = none) (x : Operand) (ho : o.op = .load 47 x) {p : Nat} {C L : List Cell} {v : Value} (hx : a.eval x = .pointer (some ⟨p, 0, none⟩)) (hk : Chk w p C L v)
    (h : wpList Tryd.prog ops Q rest (a.put o.dst (.agg (ckV C L v).toArray)) w) : wpList Tryd.prog ops Q (o :: rest) a w := by
  refine wpList_plain hgd fun K hK => ?_
  unfold Oper.wp execOp
  simp only [ho, hx, Instr.loadAt, Instr.sureAddr, Sem.run_bind, Sem.run_pure, Result.andThen_ok, run_loadK hk]
  exact hK _ _ h
theorem wp_storeK (hgd : o.guard = none) (x y : Operand) (ho : o.op = .store 47 x y) {g : Nat} {C L C0 L0 : List Cell} {v v0 : Value} (hx : a.eval x = .pointer (some ⟨g, 0, none⟩)) (hy : a.eval y = .agg (ckV C L v).toArray) (hv : v.oneCell' = true) (hC : C.length = 4096) (hL : L.length = 4096) (hk : Chk w g C0 L0 v0)
    (h : ∀ w', Chk w' g C L v → w.grownBy w' (some g) → wpList Tryd.prog ops Q rest (a.put o.dst undef) w') : wpList Tryd.prog ops Q (o :: rest) a w := by
  refine wpList_plain hgd fun K hK => ?_
  refine wp_store_row (P := Tryd.prog) 47 x y ho g (ckV C L v).toArray hx hy 47 (ckV C0 L0 v0).toArray hk.1 (by rw [sizeChunk]; simp [ckV_len hC hL]) (by simp [ckV_len hC hL, ckV_len hk.2.1 hk.2.2]) (ckV_one hv) ?_
  refine hK _ _ (h _ ⟨setRow_heap w g (ckV C0 L0 v0).toArray (ckV C L v).toArray _ _ hk.1, hC, hL⟩ ?_)
  exact (grown_row w g _)
end
theorem at_storeK {x y : Operand} {P : Program} {w : World} {ops : Array Oper} {rest : List Oper} {a : Act} {Q : Exit → Act → World → Prop} {ty : TypeId} {pos : String} {af : _} {g : _} (h : wpList P ops Q ((⟨none, .store 47 x y, ty, pos, af, g⟩ : Oper) :: rest) a w) : wpList P ops Q ((⟨none, .store 47 x y, ty, pos, af, g⟩ : Oper) :: rest) a w := h
/-- What Copy answers: a chunk whose ticks are its own. -/
def CopyP (w : World) (k : Ck) (e : Ending) (w' : World) : Prop := ∃ g TA tc, e = .returned (.pointer (some ⟨g, 0, none⟩)) ∧ Chk w' g k.cs k.ls (.slice TA k.ts.length tc) ∧ OwnP tkv 56 w' w.heap.size (.slice TA k.ts.length tc) k.ts ∧ w.heap.size ≤ g ∧ k.ts.length ≤ 1000000 ∧ Below w.heap.size w w'
theorem CopyP.k {w' : World} {B g n tc : Nat} {C L : List Cell} {TA : Option Addr} {ts : List Tick} (hn : n = ts.length) (h1 : Chk w' g C L (.slice TA n tc)) (h2 : OwnP tkv 56 w' B (.slice TA n tc) ts) (h3 : ts.length ≤ 1000000) : ChkK w' g ⟨C, L, ts⟩ := by
  subst hn
  obtain ⟨A, c, e, hA, g1, g2⟩ := h2.typed
  injection e with e1 e2 e3
  subst e1 e3
  exact ⟨_, _, h1, hA.c, g1, g2, h3⟩
theorem chk_setO {w : World} {p B n tc : Nat} {C L : List Cell} {v : Value} {TA : Option Addr} {l : List Tick} (h : Chk w p C L v) (ho : OwnP tkv 56 w B (.slice TA n tc) l) : OwnP tkv 56 (w.setCell ⟨p, 16384, none⟩ (.slice TA n tc)) B (.slice TA n tc) l := by
  unfold OwnP at ho ⊢
  refine ho.kept (grown_set w p 16384 _) (.inr fun e => ?_)
  rcases ho.2 with ⟨e2, _⟩ | ⟨g, cap, cur, e2, _, hgb, _⟩
  · rw [e2] at e
    simp [Value.ownBlock] at e
  · rw [e2] at e
    obtain rfl : g = p := by simpa [Value.ownBlock] using e
    rw [h.1] at hgb
    injection hgb with hgb
    injection hgb with _ h2
    exact absurd h2 (by decide)

section
variable {o : Oper} {a : Act} {x y : Operand} {W : World} {C D : List Cell} {t : TypeId} {b : Bool}
theorem yield_eqC (ho : o.op = .binOp .eql 43 x y t) (hx : a.eval x = .agg (arrC C)) (hy : a.eval y = .agg (arrC D)) (hC : C.length = 4096) (hD : D.length = 4096) (hb : decide (C = D) = b) : (execOp a.eval o).run Tryd.prog W = .ok (.value (.bool b)) W := by
  have h1 := run_eql_struct (P := Tryd.prog) W 43 (arrC C) (arrC D)
  rw [run_eqArrC W hC hD] at h1
  have h2 := run_eqGuard_agg (P := Tryd.prog) W .eql 43 x y (arrC C) (arrC D) guardC
  unfold execOp
  simp only [ho, hx, hy, Sem.run_bind, Sem.run_pure, h2, h1, Result.andThen_ok, hb]
theorem yield_eqL (ho : o.op = .binOp .eql 44 x y t) (hx : a.eval x = .agg (arrC C)) (hy : a.eval y = .agg (arrC D)) (hC : C.length = 4096) (hD : D.length = 4096) (hb : decide (C = D) = b) : (execOp a.eval o).run Tryd.prog W = .ok (.value (.bool b)) W := by
  have h1 := run_eql_struct (P := Tryd.prog) W 44 (arrC C) (arrC D)
  rw [run_eqArrL W hC hD] at h1
  have h2 := run_eqGuard_agg (P := Tryd.prog) W .eql 44 x y (arrC C) (arrC D) guardL
  unfold execOp
  simp only [ho, hx, hy, Sem.run_bind, Sem.run_pure, h2, h1, Result.andThen_ok, hb]
end
theorem run_nil_eqIn (w : World) (d : Nat) (a : Addr) (hu : Tryd.prog.underlying 33 = some (.pointer (Tryd.prog.pointee 33))) : (Op.equalIn (d + 1) 33 (.pointer none) (.pointer (some a))).run Tryd.prog w = .ok false w := by
  simp [Op.equalIn, run_underlying hu]
theorem run_nil_equal (w : World) (a : Addr) : (Op.equal 33 (.pointer none) (.pointer (some a))).run Tryd.prog w = .ok false w := run_nil_eqIn w 9999 a (by kernel_rfl)
theorem run_nil_eq (w : World) (a : Addr) : (binOp .eql 33 (.pointer none) (.pointer (some a))).run Tryd.prog w = .ok (.bool false) w := by
  simp only [binOp]
  simp [run_nil_equal w a]
end ChunkW
end Go.Proofs.YtjjnmkbjohiekaaDoor
