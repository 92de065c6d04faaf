/-
  Bytes in memory, within a fence (a row with a record, a loop's round): the operations on slices of bytes, as laws for the fenced walk.
-/
import Derived.OwnWalkIn
import Derived.TacticsInMore
import Derived.Maps.OwnIn
import Derived.RangeFuncBox
import Derived.Test.YtiochoppiohjnaaDoorBytesMem
namespace Go.Proofs.YtiochoppiohjnaaDoor
open Go.RowKit
set_option linter.unusedVariables false
set_option linter.unusedSimpArgs false
namespace BytesW

/-- Succeeds, and does nothing, where the operation at hand writes slot t. -/
theorem gi_slot (t : Tmp) {F : Fence} {n : Nat} {P : Program} {w : World} {ops : Array Oper} {rest : List Oper} {a : Act} {Q : Exit → Act → World → Prop} {op : Op} {ty : TypeId} {pos : String} {af : _} {g : _} (h : wpListIn F n P ops Q ((⟨some t, op, ty, pos, af, g⟩ : Oper) :: rest) a w) : wpListIn F n P ops Q ((⟨some t, op, ty, pos, af, g⟩ : Oper) :: rest) a w := h

theorem run_upto (w : World) {A : Option Addr} {L c : Nat} {n : Int} (h0 : 0 ≤ n) (h1 : n ≤ L) (h2 : L ≤ c) : (Instr.sliceAt 97 (.slice A L c) none (some (.int .i64 n)) none).run Tryd.prog w = .ok (.slice A n.toNat c) w := by
  have e : (if c = 0 then A else A.map (·.add 0)) = A := by
    split
    · rfl
    · cases A <;> simp [Addr.add]
  have h3 : n ≤ c := by omega
  obtain ⟨i, hi, _, hs, _⟩ := info_parts info5
  simp [Instr.sliceAt, Instr.slice, run_underlying under26, Instr.sliceBounds, run_sliceBound, h0, h3, e, Result.andThen, sizeOf, typeInfo, hi, hs]
theorem run_from (w : World) {A : Option Addr} {L c k : Nat} (h1 : k ≤ L) : (Instr.sliceAt 97 (.slice A L c) (some (.int .i64 k)) none none).run Tryd.prog w = .ok (.slice (if c = k then A else A.map (·.add k)) (L - k) (c - k)) w := by
  obtain ⟨i, hi, _, hs, _⟩ := info_parts info5
  have h0 : (k : Int) ≤ L := by omega
  simp [Instr.sliceAt, Instr.slice, run_underlying under26, Instr.sliceBounds, run_sliceBound, h0, h1, Result.andThen, sizeOf, typeInfo, hi, hs]
/-- append of bytes to a row of the call's own, any source. -/
theorem run_app {w : World} {B : Nat} {v : Value} {l l2 : List UInt8} (hown : Own w B v l) {A : Option Addr} {c : Nat} (hAt : At w A l2) (hl : l.length + l2.length ≤ 4000000) (hB : B ≤ w.heap.size) (ty : TypeId) :
    ∃ v' w', (Builtin.append_ #[97, 97] ty #[v, .slice A l2.length c]).run Tryd.prog w = .ok v' w' ∧ Own w' B v' (l ++ l2) ∧ w.grownBy w' v.ownBlock := by
  obtain ⟨i, hi, hz, hs1, hby⟩ := info_parts info5
  have hm : maxLen = 9223372036854775807 := rfl
  rcases A with _ | ad
  · have h0 : l2 = [] := by
      rcases l2 with _ | ⟨y, l2⟩
      · rfl
      · obtain ⟨b, o, cs, fr, hA, _⟩ := hAt (by simp)
        cases hA
    subst h0
    have hr : (Builtin.append_ #[97, 97] ty #[v, .slice none 0 c]).run Tryd.prog w = .ok v w := by
      rcases hown.2 with ⟨rfl, hn⟩ | ⟨g, cap, cur, rfl, _, _, hnc, _⟩
      · simp [Builtin.append_, run_underlying under26, sizeOf, typeInfo, hi, Builtin.lenOf, Builtin.firstCells]
      · simp [Builtin.append_, run_underlying under26, sizeOf, typeInfo, hi, Builtin.lenOf, Builtin.firstCells, hnc, storeCells]
    exact ⟨v, w, hr, by simpa using hown, World.grownBy.refl _ _⟩
  · have hnews : ∀ j u, (l2.map bv)[j]? = some u → w.cell? (ad.add j) = some u := fun j u hu => by
      rw [List.getElem?_map] at hu
      obtain ⟨y, hy, rfl⟩ := Option.map_eq_some_iff.1 hu
      obtain ⟨b, o, hA, hc⟩ := hAt.cells (fun e => by subst e; simp at hy)
      obtain rfl := Option.some.inj hA
      rw [addr_add]
      exact hc j y hy
    obtain ⟨v', w', hr, h2, h3, _, _⟩ := run_append_own_at (P := Tryd.prog) w B 97 ty 5 i _ 1 1 under26 hi hz hs1 hby rfl (by omega) v l.length (l.map bv) hown ad l2.length c (l2.map bv) (by simp) hnews
      (fun u hu => by obtain ⟨y, _, rfl⟩ := List.mem_map.1 hu; rfl) (by omega) (by omega) hB
    refine ⟨v', w', hr, ?_, h3⟩
    unfold Own
    rw [List.length_append, List.map_append]
    exact h2

/-- 'out = append(out, ..)', out a boxed variable: behind the append (w2) and the store; w1: the world behind what else was laid since W. -/
theorem boxed_app {W w1 w2 : World} {B n₀ : Nat} {v v2 : Value} {l l2 : List UInt8} (hv : Boxed W B 97 v) (hown : Own W n₀ v l) (hb : Below W.heap.size W w1) (hn₀ : n₀ ≤ W.heap.size) (hB : n₀ ≤ B) (hown2 : Own w2 n₀ v2 l2) (hg : w1.grownBy w2 v.ownBlock) :
    Boxed w2 B 97 v ∧ Boxed (w2.setCell ⟨B, 0, none⟩ v2) B 97 v2 ∧ Own (w2.setCell ⟨B, 0, none⟩ v2) n₀ v2 l2 ∧ KeepsOthers W (w2.setCell ⟨B, 0, none⟩ v2) ∧ Below n₀ W (w2.setCell ⟨B, 0, none⟩ v2) := by
  have hv1 : Boxed w1 B 97 v := (hb.block B hv.lt).trans hv
  have hown1 := hown.below hb
  have hv2 : Boxed w2 B 97 v := hv1.kept hg (hv1.not_row (by decide) hown1)
  have hgn : W.grownBy w1 none := ⟨hb.os, hb.tape, hb.output, hb.size, fun k hk _ => hb.block k hk⟩
  refine ⟨hv2, hv2.set v2, hown2.kept (grownBy_setCell' w2 B v2) (.inr (hv2.not_row (by decide) hown2).symm), ?_, ?_⟩
  · refine ((KeepsOthers.of_grownBy hgn fun j o ej hj => by cases ej).trans (KeepsOthers.of_grownBy hg fun j o ej hj => ?_)).trans (KeepsOthers.setCell _ _ _)
    rcases hown1.2 with ⟨rfl, _⟩ | ⟨g, cap, cur, rfl, _, hgb, _⟩
    · simp [Value.ownBlock] at ej
    · obtain rfl : g = j := by simpa [Value.ownBlock] using ej
      rw [hgb] at hj; cases hj; rfl
  · refine ((hb.mono hn₀).grown hg (Nat.le_trans hn₀ hb.size) fun j ej => ?_).setCell (p := ⟨B, 0, none⟩) hB v2
    rcases hown.2 with ⟨rfl, _⟩ | ⟨g, cap, cur, rfl, hb', _, _⟩
    · simp [Value.ownBlock] at ej
    · obtain rfl : g = j := by simpa [Value.ownBlock] using ej
      exact hb'

section
variable {F : Fence} {nF : Nat} {w : World} {ops : Array Oper} {rest : List Oper} {o : Oper} {a : Act} {Q : Exit → Act → World → Prop}
/-- b[:n]. -/
theorem wpI_upto (hgd : o.guard = none) (x y : Operand) (ho : o.op = .slice 97 x none (some y) none) {A : Option Addr} {L c : Nat} {n : Int} (hx : a.eval x = .slice A L c) (hy : a.eval y = .int .i64 n) (h0 : 0 ≤ n) (h1 : n ≤ L) (h2 : L ≤ c)
    (h : wpListIn F nF Tryd.prog ops Q rest (a.put o.dst (.slice A n.toNat c)) w) : wpListIn F nF Tryd.prog ops Q (o :: rest) a w := by
  refine wpListIn_plain hgd fun K hK => ?_
  unfold Oper.wpIn
  refine ⟨by simp [Oper.about, ho], ?_⟩
  rw [Oper.semAt_plain F _ _ (by rw [ho]; intro c hc'; cases hc')]
  simp [execOp, ho, hx, hy, run_upto w h0 h1 h2, Result.andThen]
  exact hK _ _ h
/-- b[n:]: at some address, of which is known what it holds, in a world of one's choice. -/
theorem wpI_from (hgd : o.guard = none) (x y : Operand) (ho : o.op = .slice 97 x (some y) none none) {A : Option Addr} {c k : Nat} {l : List UInt8} {w0 : World} (hx : a.eval x = .slice A l.length c) (hy : a.eval y = .int .i64 k) (hA : At w0 A l) (h1 : k ≤ l.length) (h2 : l.length ≤ c)
    (h : ∀ A', At w0 A' (l.drop k) → wpListIn F nF Tryd.prog ops Q rest (a.put o.dst (.slice A' (l.length - k) (c - k))) w) : wpListIn F nF Tryd.prog ops Q (o :: rest) a w := by
  refine wpListIn_plain hgd fun K hK => ?_
  unfold Oper.wpIn
  refine ⟨by simp [Oper.about, ho], ?_⟩
  rw [Oper.semAt_plain F _ _ (by rw [ho]; intro c hc'; cases hc')]
  simp [execOp, ho, hx, hy, run_from w h1, Result.andThen]
  exact hK _ _ (h _ (hA.drop k c h2))
/-- b[n:]: at some address, of which is known what it holds, in a world of one's choice. -/
theorem wpI_fromC (hgd : o.guard = none) (x y : Operand) (ho : o.op = .slice 97 x (some y) none none) {A : Option Addr} {c k : Nat} {l : List UInt8} {w0 : World} (hx : a.eval x = .slice A l.length c) (hy : a.eval y = .int .i64 k) (hA : AtC w0 A l) (h1 : k ≤ l.length) (h2 : l.length ≤ c)
    (h : ∀ A', AtC w0 A' (l.drop k) → wpListIn F nF Tryd.prog ops Q rest (a.put o.dst (.slice A' (l.length - k) (c - k))) w) : wpListIn F nF Tryd.prog ops Q (o :: rest) a w := by
  refine wpListIn_plain hgd fun K hK => ?_
  unfold Oper.wpIn
  refine ⟨by simp [Oper.about, ho], ?_⟩
  rw [Oper.semAt_plain F _ _ (by rw [ho]; intro c hc'; cases hc')]
  simp [execOp, ho, hx, hy, run_from w h1, Result.andThen]
  exact hK _ _ (h _ (hA.drop k c h2))
/-- append(v, b..): v of the call's own. -/
theorem wpI_append (hgd : o.guard = none) (s x : Operand) (ho : o.op = .call { callee := .builtin .append, args := #[s, x], argTypes := #[97, 97] })
    {B : Nat} {v : Value} {l l2 : List UInt8} (hs : a.eval s = v) (hown : Own w B v l) {A : Option Addr} {c : Nat} (hx : a.eval x = .slice A l2.length c) (hAt : At w A l2) (hl : l.length + l2.length ≤ 4000000) (hB : B ≤ w.heap.size)
    (h : ∀ v' w', Own w' B v' (l ++ l2) → w.grownBy w' v.ownBlock → wpListIn F nF Tryd.prog ops Q rest (a.put o.dst v') w') : wpListIn F nF Tryd.prog ops Q (o :: rest) a w := by
  refine wpListIn_plain hgd fun K hK => ?_
  obtain ⟨v', w', hr, h1, h2⟩ := run_app (c := c) hown hAt hl hB o.type
  unfold Oper.wpIn
  refine ⟨by simp [Oper.about, ho, resolve, Target.leads, Sem.run_pure], ?_⟩
  rw [Oper.semAt_plain F _ _ (by rw [ho]; intro c hc'; cases hc')]
  unfold execOp
  simp only [ho, resolve, invoke, builtin, Sem.run_bind, Sem.run_pure, Result.andThen_ok, List.map_toArray, List.map_cons, List.map_nil, hs, hx, hr]
  exact hK _ _ (h v' w' h1 h2)
/-- append(v, b..) as one operation of a region. -/
theorem step_app {K : Act → World → Prop} {E : Prop} (hgd : o.guard = none) (s x : Operand) (ho : o.op = .call { callee := .builtin .append, args := #[s, x], argTypes := #[97, 97] })
    {B : Nat} {v : Value} {l l2 : List UInt8} (hs : a.eval s = v) (hown : Own w B v l) {A : Option Addr} {c : Nat} (hx : a.eval x = .slice A l2.length c) (hAt : At w A l2) (hl : l.length + l2.length ≤ 4000000) (hB : B ≤ w.heap.size)
    (h : ∀ v' w', Own w' B v' (l ++ l2) → w.grownBy w' v.ownBlock → K (a.put o.dst v') w') : if Region.wanted o (yielded ops a.tmps) = true then Oper.wp Tryd.prog o a w K Q else E := by
  have hw : Region.wanted o (yielded ops a.tmps) = true := by simp [Region.wanted, hgd]
  rw [if_pos hw]
  obtain ⟨v', w', hr, h1, h2⟩ := run_app (c := c) hown hAt hl hB o.type
  unfold Oper.wp execOp
  simp only [ho, resolve, invoke, builtin, Sem.run_bind, Sem.run_pure, Result.andThen_ok, List.map_toArray, List.map_cons, List.map_nil, hs, hx, hr]
  exact h v' w' h1 h2
end
end BytesW
end Go.Proofs.YtiochoppiohjnaaDoor
