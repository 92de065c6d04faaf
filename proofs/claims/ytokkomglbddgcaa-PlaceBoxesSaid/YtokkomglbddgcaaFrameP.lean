/-
  What the rows' frames share: arguments opened to their cells, and read again behind the call.
-/
import Derived.Test.YtokkomglbddgcaaRows
import Derived.ProofKit
import Derived.OpenShut
import Derived.Carry
import Derived.Lib.SmallJoins
namespace Go.Proofs.Ytokkomglbddgcaa
open Go.ChangeShapes Go.WideShapes Go.ChangeAt Go.RowKit
set_option linter.unusedVariables false
namespace FrameP

theorem own : ownKnob Try.prog.godebug = none := by kernel_rfl
theorem laidOut : laidOutB Try.prog = true := by kernel_rfl

section
variable {H : Type} {enc : TypeId × Value → H} {w : World} {base : Nat} {spare : Nat → Bool} {held : Bool}

/-- An int. -/
theorem open_i64 {r : Reach} {b0 : Nat} {v : Value} {d : DataW H} {p : List MemPlace} (hv : Value.okWide Try.prog w r b0 3 v) (h : DataW.Trod enc Try.prog w base spare held 3 v d p) :
    ∃ n : Int, v = .int .i64 n ∧ -9223372036854775808 ≤ n ∧ n ≤ 9223372036854775807 := by
  obtain ⟨n, rfl, rfl, rfl, hw⟩ := open_int Try.underlying3 hv h
  exact ⟨n, rfl, bounds_i64 hw⟩
/-- Three ints: a place. -/
theorem open_place {r : Reach} {b0 : Nat} {v : Value} {d : DataW H} {p : List MemPlace} (hv : Value.okWide Try.prog w r b0 23 v) (h : DataW.Trod enc Try.prog w base spare held 23 v d p) :
    ∃ x y z : Int, v = .agg #[.int .i64 x, .int .i64 y, .int .i64 z] := by
  obtain ⟨c0, c1, c2, y0, y1, y2, m, rfl, rfl, rfl, hy0, hy1, hy2⟩ := Joins.open_agg3 Try.underlying23 (by kernel_rfl) (show Try.prog.cellsOf 23 = 3 by kernel_rfl) hv h
  obtain ⟨n0, e0, rfl, u0⟩ := DataW.trod_int Try.underlying3 hy0
  obtain ⟨n1, e1, rfl, u1⟩ := DataW.trod_int Try.underlying3 hy1
  obtain ⟨n2, e2, rfl, u2⟩ := DataW.trod_int Try.underlying3 hy2
  simp only [List.cons.injEq, and_true] at e0 e1 e2
  subst e0 e1 e2
  exact ⟨_, _, _, rfl⟩
/-- Three ints: a spot. -/
theorem open_spot {r : Reach} {b0 : Nat} {v : Value} {d : DataW H} {p : List MemPlace} (hv : Value.okWide Try.prog w r b0 24 v) (h : DataW.Trod enc Try.prog w base spare held 24 v d p) :
    ∃ x y z : Int, v = .agg #[.int .i64 x, .int .i64 y, .int .i64 z] := by
  obtain ⟨c0, c1, c2, y0, y1, y2, m, rfl, rfl, rfl, hy0, hy1, hy2⟩ := Joins.open_agg3 Try.underlying24 (by kernel_rfl) (show Try.prog.cellsOf 24 = 3 by kernel_rfl) hv h
  obtain ⟨n0, e0, rfl, u0⟩ := DataW.trod_int Try.underlying3 hy0
  obtain ⟨n1, e1, rfl, u1⟩ := DataW.trod_int Try.underlying3 hy1
  obtain ⟨n2, e2, rfl, u2⟩ := DataW.trod_int Try.underlying3 hy2
  simp only [List.cons.injEq, and_true] at e0 e1 e2
  subst e0 e1 e2
  exact ⟨_, _, _, rfl⟩
/-- A place's or spot's cells inside another struct. -/
theorem three_ints {t : TypeId} (ht : t = 23 ∨ t = 24) {fuel : Nat} {cs : List Value} {x : DataW H × List MemPlace} (h : DataW.trod enc Try.prog w base spare held fuel t cs = some x) :
    ∃ a b c : Int, cs = [.int .i64 a, .int .i64 b, .int .i64 c] := by
  have hu : ∃ f0 f1 f2 : Field, Try.prog.underlying t = some (.struct #[f0, f1, f2]) ∧ f0.type = 3 ∧ f1.type = 3 ∧ f2.type = 3 ∧ f0.offset = 0 ∧ f1.offset = 1 ∧ f2.offset = 2 ∧ Try.prog.cellsOf t = 3 := by
    rcases ht with rfl | rfl
    · exact ⟨_, _, _, Try.underlying23, rfl, rfl, rfl, rfl, rfl, rfl, by kernel_rfl⟩
    · exact ⟨_, _, _, Try.underlying24, rfl, rfl, rfl, rfl, rfl, rfl, by kernel_rfl⟩
  obtain ⟨f0, f1, f2, hs, t0, t1, t2, o0, o1, o2, hC⟩ := hu
  have ci : Try.prog.cellsOf 3 = 1 := by kernel_rfl
  obtain ⟨xs, n, _, _, hl, _, hf⟩ := DataW.trod_struct hs h
  rw [hC] at hl
  match cs, hl with
  | [c0, c1, c2], _ =>
    have a0 := hf 0 f0 rfl
    have a1 := hf 1 f1 rfl
    have a2 := hf 2 f2 rfl
    rw [t0, o0, ci] at a0
    rw [t1, o1, ci] at a1
    rw [t2, o2, ci] at a2
    have hx : ∀ (i : Nat) (c : Value), DataW.trod enc Try.prog w base spare held n 3 [c] = xs[i]? → (∃ y, xs[i]? = some y) → ∃ m : Int, c = .int .i64 m := by
      intro i c hc ⟨y, hy⟩
      rw [hy] at hc
      obtain ⟨m, e, _, _⟩ := DataW.trod_int Try.underlying3 hc
      exact ⟨m, by simpa using e⟩
    have hn : xs.length = 3 := by simpa using ‹xs.length = _›
    obtain ⟨m0, rfl⟩ := hx 0 c0 a0 ⟨_, List.getElem?_eq_getElem (by omega)⟩
    obtain ⟨m1, rfl⟩ := hx 1 c1 a1 ⟨_, List.getElem?_eq_getElem (by omega)⟩
    obtain ⟨m2, rfl⟩ := hx 2 c2 a2 ⟨_, List.getElem?_eq_getElem (by omega)⟩
    exact ⟨m0, m1, m2, rfl⟩
/-- Two places and two spots. -/
theorem open_pair {r : Reach} {b0 : Nat} {v : Value} {d : DataW H} {p : List MemPlace} (hv : Value.okWide Try.prog w r b0 38 v) (h : DataW.Trod enc Try.prog w base spare held 38 v d p) :
    ∃ a1 a2 a3 b1 b2 b3 s1 s2 s3 t1 t2 t3 : Int, v = .agg #[.int .i64 a1, .int .i64 a2, .int .i64 a3, .int .i64 b1, .int .i64 b2, .int .i64 b3, .int .i64 s1, .int .i64 s2, .int .i64 s3, .int .i64 t1, .int .i64 t2, .int .i64 t3] := by
  obtain ⟨cs, rfl, hsz⟩ := okWide_struct Try.underlying38 hv
  obtain ⟨fuel, hf⟩ := h
  have cp : Try.prog.cellsOf 23 = 3 := by kernel_rfl
  have cq : Try.prog.cellsOf 24 = 3 := by kernel_rfl
  have cc : Try.prog.cellsOf 38 = 12 := by kernel_rfl
  obtain ⟨xs, n, _, _, hl, hn, hg⟩ := DataW.trod_struct Try.underlying38 hf
  obtain ⟨l⟩ := cs
  simp only [Value.cells] at hl hg
  rw [cc] at hl
  match l, hl with
  | [c0, c1, c2, c3, c4, c5, c6, c7, c8, c9, c10, c11], _ =>
    have hn4 : xs.length = 4 := by simpa using hn
    have a0 : DataW.trod enc Try.prog w base spare held n 23 [c0, c1, c2] = xs[0]? := by simpa [cp] using hg 0 _ rfl
    have a1 : DataW.trod enc Try.prog w base spare held n 23 [c3, c4, c5] = xs[1]? := by simpa [cp] using hg 1 _ rfl
    have a2 : DataW.trod enc Try.prog w base spare held n 24 [c6, c7, c8] = xs[2]? := by simpa [cq] using hg 2 _ rfl
    have a3 : DataW.trod enc Try.prog w base spare held n 24 [c9, c10, c11] = xs[3]? := by simpa [cq] using hg 3 _ rfl
    rw [List.getElem?_eq_getElem (by omega)] at a0 a1 a2 a3
    obtain ⟨_, _, _, e0⟩ := three_ints (.inl rfl) a0
    obtain ⟨_, _, _, e1⟩ := three_ints (.inl rfl) a1
    obtain ⟨_, _, _, e2⟩ := three_ints (.inr rfl) a2
    obtain ⟨_, _, _, e3⟩ := three_ints (.inr rfl) a3
    simp only [List.cons.injEq, and_true] at e0 e1 e2 e3
    obtain ⟨rfl, rfl, rfl⟩ := e0
    obtain ⟨rfl, rfl, rfl⟩ := e1
    obtain ⟨rfl, rfl, rfl⟩ := e2
    obtain ⟨rfl, rfl, rfl⟩ := e3
    exact ⟨_, _, _, _, _, _, _, _, _, _, _, _, rfl⟩
end
end FrameP
end Go.Proofs.Ytokkomglbddgcaa
