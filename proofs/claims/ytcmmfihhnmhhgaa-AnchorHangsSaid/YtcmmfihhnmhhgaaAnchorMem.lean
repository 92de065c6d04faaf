/-
  The memory of spots: rows of them, what appends to them, what copies within them.
-/
import Derived.Laws.CopyOwn
import Derived.Test.YtcmmfihhnmhhgaaAnchorPlain
import Derived.Test.YtcmmfihhnmhhgaaFrS
import Derived.Test.YtcmmfihhnmhhgaaPushG
import Derived.Test.YtcmmfihhnmhhgaaPlaceWalks6
namespace Go.Proofs.Ytcmmfihhnmhhgaa
open Go.RowKit
set_option linter.unusedVariables false
set_option linter.unusedSimpArgs false
namespace AncW
open BlkP RowG FrS PushG AncP
theorem may_is (x y z : Int) : PlaceW.spotB x y z = may (x, y, z) := rfl
def encS : Enc V := ⟨fun q => [.int .i64 q.1, .int .i64 q.2.1, .int .i64 q.2.2], 3, fun _ => rfl, fun x v h => by
  simp only [List.mem_cons, List.not_mem_nil, or_false] at h
  rcases h with rfl | rfl | rfl <;> rfl⟩
abbrev TS : TypeId := 23
abbrev TSS : TypeId := 37
abbrev TA : TypeId := 25
theorem infoS : (Try.prog.info? TS).map (fun i => (i.zero, i.size, i.bytes)) = some (some (.agg #[.int .i64 0, .int .i64 0, .int .i64 0]), 3, 24) := by kernel_rfl
theorem underSS : Try.prog.underlying TSS = some (.slice TS) := by kernel_rfl
theorem run_pushS {w0 : World} {B : Nat} {v : Value} {l : List V} {y : V} {n : Nat} (hn : l.length = n) (hown : RowG.Own encS TS w0 B v l) (hl : n ≤ 1000000) (hB : B ≤ w0.heap.size) (ty : TypeId) :
    ∃ g cp w', (Builtin.append_ #[TSS, TSS] ty #[v, .slice (some ⟨w0.heap.size, 0, none⟩) 1 1]).run Try.prog (w0.alloc (.cells #[.int .i64 y.1, .int .i64 y.2.1, .int .i64 y.2.2] TS)) = .ok (.slice (some ⟨g, 0, none⟩) (n + 1) cp) w' ∧ Pushed encS TS w0 B v l y (n + 1) g cp w' := by
  subst hn
  obtain ⟨g, cp, w', hr, h2, h3, h4⟩ := run_pushG encS underSS infoS rfl (by decide) (by decide) (y := y) (c := #[.int .i64 y.1, .int .i64 y.2.1, .int .i64 y.2.2]) rfl hown hl hB ty
  refine ⟨g, cp, w', hr, h2, h3, ?_⟩
  rcases h4 with q | ⟨g', q, hg⟩
  · exact .inl q.symm
  · have : g = g' := by simpa [Value.ownBlock] using q
    subst this
    exact .inr hg
section
variable {w0 : World} {ops : Array Oper} {rest : List Oper} {o : Oper} {a : Act} {Q : Exit → Act → World → Prop} {W : World}
theorem wp_pushS (hgd : o.guard = none) (s x : Operand) (ho : o.op = .call { callee := .builtin .append, args := #[s, x], argTypes := #[TSS, TSS] }) {B : Nat} {v : Value} {l : List V} {y : V} {x1 x2 x3 : Int} {n : Nat}
    (hW : W = w0.alloc (.cells #[.int .i64 x1, .int .i64 x2, .int .i64 x3] TS)) (hy : y = (x1, x2, x3)) (hs : a.eval s = v) (hown : RowG.Own encS TS w0 B v l) (hx : a.eval x = .slice (some ⟨w0.heap.size, 0, none⟩) 1 1) (hn : l.length = n) (hl : n ≤ 1000000) (hB : B ≤ w0.heap.size)
    (h : ∀ g c w', Pushed encS TS w0 B v l y (n + 1) g c w' → wpList Try.prog ops Q rest (a.put o.dst (.slice (some ⟨g, 0, none⟩) (n + 1) c)) w') : wpList Try.prog ops Q (o :: rest) a W := by
  subst hW hy
  refine wpList_plain hgd fun K hK => ?_
  obtain ⟨g, c, w', hr, h2⟩ := run_pushS (y := (x1, x2, x3)) hn hown hl hB o.type
  unfold Oper.wp execOp
  simp only at hr
  simp only [ho, resolve, invoke, builtin, Sem.run_bind, Sem.run_pure, Result.andThen_ok, List.map_toArray, List.map_cons, List.map_nil, hs, hx, hr]
  exact hK _ _ (h g c w' h2)
theorem step_pushS {K : Act → World → Prop} {E : Prop} (hgd : o.guard = none) (s x : Operand) (ho : o.op = .call { callee := .builtin .append, args := #[s, x], argTypes := #[TSS, TSS] }) {B : Nat} {v : Value} {l : List V} {y : V} {x1 x2 x3 : Int} {n : Nat}
    (hW : W = w0.alloc (.cells #[.int .i64 x1, .int .i64 x2, .int .i64 x3] TS)) (hy : y = (x1, x2, x3)) (hs : a.eval s = v) (hown : RowG.Own encS TS w0 B v l) (hx : a.eval x = .slice (some ⟨w0.heap.size, 0, none⟩) 1 1) (hn : l.length = n) (hl : n ≤ 1000000) (hB : B ≤ w0.heap.size)
    (h : ∀ g c w', Pushed encS TS w0 B v l y (n + 1) g c w' → K (a.put o.dst (.slice (some ⟨g, 0, none⟩) (n + 1) c)) w') :
    if Region.wanted o (yielded ops a.tmps) = true then Oper.wp Try.prog o a W K Q else E := by
  subst hW hy
  have hw : Region.wanted o (yielded ops a.tmps) = true := by simp [Region.wanted, hgd]
  rw [if_pos hw]
  obtain ⟨g, c, w', hr, h2⟩ := run_pushS (y := (x1, x2, x3)) hn hown hl hB o.type
  unfold Oper.wp execOp
  simp only at hr
  simp only [ho, resolve, invoke, builtin, Sem.run_bind, Sem.run_pure, Result.andThen_ok, List.map_toArray, List.map_cons, List.map_nil, hs, hx, hr]
  exact h g c w' h2
end
end AncW
end Go.Proofs.Ytcmmfihhnmhhgaa
