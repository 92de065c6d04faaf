/-
  Anchors held against each other, one and both.
-/
import Derived.ChangeKeysEq
import Derived.MapKept
import Derived.Test.YtcmmfihhnmhhgaaAnchorRef
namespace Go.Proofs.Ytcmmfihhnmhhgaa
open Go.RowKit
set_option linter.unusedVariables false
set_option linter.unusedSimpArgs false
set_option maxRecDepth 100000
namespace AncW
open BlkP RowG FrS PushG AncP
theorem fieldsA : (Try.prog.fieldsOf TA).toList.map (fun f => (f.name != "_", f.type, f.offset)) = [(true, TS, 0), (true, 4, 3)] := by kernel_rfl
theorem underA : Try.prog.underlying TA = some (.struct (Try.prog.fieldsOf TA)) := by kernel_rfl
theorem stoodA : Try.prog.stoodInHeld TA = false := by kernel_rfl
theorem underTT : Try.prog.underlying TT = some (.array 2 TA) := Try.underlying26
theorem cellsA : Try.prog.cellsOf TA = 4 := by kernel_rfl
theorem part_s (w : World) (x y z o : Value) : (part TS #[x, y, z, o] 0).run Try.prog w = .ok (.agg #[x, y, z]) w := by kernel_rfl
theorem part_o (w : World) (x y z o : Value) : (part 4 #[x, y, z, o] 3).run Try.prog w = .ok o w := by kernel_rfl
theorem part_a (w : World) (a b c d x y z o : Value) : (part TA #[a, b, c, d, x, y, z, o] 0).run Try.prog w = .ok (.agg #[a, b, c, d]) w := by kernel_rfl
theorem part_b (w : World) (a b c d x y z o : Value) : (part TA #[a, b, c, d, x, y, z, o] 4).run Try.prog w = .ok (.agg #[x, y, z, o]) w := by kernel_rfl
theorem run_eqB (w : World) (d : Nat) (x y : Bool) : (Op.equalIn (d + 1) 4 (.bool x) (.bool y)).run Try.prog w = .ok (decide (x = y)) w := by
  cases x <;> cases y <;> kernel_rfl
theorem run_eqAn (w : World) (d : Nat) (a c : An) : (Op.equalIn (d + 3) TA (.agg #[.int .i64 a.1.1, .int .i64 a.1.2.1, .int .i64 a.1.2.2, .bool a.2]) (.agg #[.int .i64 c.1.1, .int .i64 c.1.2.1, .int .i64 c.1.2.2, .bool c.2])).run Try.prog w = .ok (decide (a = c)) w := by
  have h := run_equalIn_agg (P := Try.prog) w (d + 2) TA #[.int .i64 a.1.1, .int .i64 a.1.2.1, .int .i64 a.1.2.2, .bool a.2] #[.int .i64 c.1.1, .int .i64 c.1.2.1, .int .i64 c.1.2.2, .bool c.2] underA stoodA
  rw [h]
  have hf := fieldsA
  generalize (Try.prog.fieldsOf TA).toList = fs at hf ⊢
  have hl : fs.length = 2 := by simpa using congrArg List.length hf
  rcases fs with _ | ⟨f0, _ | ⟨f1, _ | ⟨f2, ft⟩⟩⟩
  · simp at hl
  · simp at hl
  · simp only [List.map_cons, List.map_nil, List.cons.injEq, Prod.mk.injEq, and_true] at hf
    obtain ⟨⟨n0, t0, o0⟩, n1, t1, o1⟩ := hf
    have m0 : f0.name ≠ "_" := by simpa using n0
    have m1 : f1.name ≠ "_" := by simpa using n1
    have e : decide (a = c) = (decide (a.1 = c.1) && decide (a.2 = c.2)) := by
      rw [Bool.eq_iff_iff]
      simp [Prod.ext_iff]
    rw [e]
    unfold Op.eqFields
    simp only [m0, t0, o0, ne_eq, not_false_eq_true, if_true, Sem.run_bind, part_s, Result.andThen_ok, run_eqV w d a.1 c.1]
    cases decide (a.1 = c.1)
    · simp
    · unfold Op.eqFields
      simp only [m1, t1, o1, ne_eq, not_false_eq_true, if_true, Sem.run_bind, part_o, Result.andThen_ok, run_eqB w (d + 1), Bool.not_true, Bool.false_eq_true, if_false]
      cases decide (a.2 = c.2)
      · simp
      · simp [Op.eqFields]
  · simp at hl
theorem run_eqAA (w : World) (a b c d : An) : (Op.equalIn 10000 TT (.agg #[.int .i64 a.1.1, .int .i64 a.1.2.1, .int .i64 a.1.2.2, .bool a.2, .int .i64 b.1.1, .int .i64 b.1.2.1, .int .i64 b.1.2.2, .bool b.2]) (.agg #[.int .i64 c.1.1, .int .i64 c.1.2.1, .int .i64 c.1.2.2, .bool c.2, .int .i64 d.1.1, .int .i64 d.1.2.1, .int .i64 d.1.2.2, .bool d.2])).run Try.prog w = .ok (decide (a = c) && decide (b = d)) w := by
  cases hq : Try.prog.info? TA with
  | none =>
    have hs : (Try.prog.info? TA).isSome = true := by kernel_rfl
    rw [hq] at hs
    cases hs
  | some i =>
    rw [run_equalIn_array (P := Try.prog) w 9999 _ _ underTT hq, cellsA]
    rw [show List.range 2 = [0, 1] from rfl]
    rw [Op.eqItems]
    simp only [Nat.zero_mul, Sem.run_bind, part_a, Result.andThen_ok, run_eqAn w 9996 a c]
    cases decide (a = c)
    · simp
    · simp only [Bool.not_true, Bool.false_eq_true, if_false, Bool.true_and]
      rw [Op.eqItems]
      simp only [Nat.one_mul, Sem.run_bind, part_b, Result.andThen_ok, run_eqAn w 9996 b d]
      cases decide (b = d)
      · simp
      · simp [Op.eqItems]
theorem run_sameAA (w : World) (a b : An) : (Op.equalIn 10000 TT (.agg #[.int .i64 a.1.1, .int .i64 a.1.2.1, .int .i64 a.1.2.2, .bool a.2, .int .i64 b.1.1, .int .i64 b.1.2.1, .int .i64 b.1.2.2, .bool b.2]) (.agg #[.int .i64 a.1.1, .int .i64 a.1.2.1, .int .i64 a.1.2.2, .bool a.2, .int .i64 b.1.1, .int .i64 b.1.2.1, .int .i64 b.1.2.2, .bool b.2])).run Try.prog w = .ok true w := by
  rw [run_eqAA]
  simp
theorem run_sameA (w : World) (a : An) : (Op.equalIn 10000 TA (.agg #[.int .i64 a.1.1, .int .i64 a.1.2.1, .int .i64 a.1.2.2, .bool a.2]) (.agg #[.int .i64 a.1.1, .int .i64 a.1.2.1, .int .i64 a.1.2.2, .bool a.2])).run Try.prog w = .ok true w := by
  rw [run_eqAn w 9997]
  simp
end AncW
end Go.Proofs.Ytcmmfihhnmhhgaa
