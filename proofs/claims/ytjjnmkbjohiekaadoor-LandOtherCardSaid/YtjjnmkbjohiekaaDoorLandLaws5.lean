/-
  LandOther: plain facts.
-/
import Derived.Test.YtjjnmkbjohiekaaDoorLandIs
namespace Go.Proofs.YtjjnmkbjohiekaaDoor
open Go.RowKit
set_option linter.unusedVariables false
set_option linter.unusedSimpArgs false
namespace LandP
open BytesW PackW PlaceW ChunkW

/-- A block's first cells. -/
def Box (W : World) (b : Nat) (vs : List Value) : Prop := b < W.heap.size ∧ ∀ (i : Nat) (v : Value), vs[i]? = some v → W.cell? ⟨b, i, none⟩ = some v
theorem Box.below {w w' : World} {b : Nat} {vs : List Value} (h : Box w b vs) (hb : Below w.heap.size w w') : Box w' b vs := ⟨Nat.lt_of_lt_of_le h.1 hb.size, fun i v hv => (hb.cell (p := ⟨b, i, none⟩) h.1).trans (h.2 i v hv)⟩
theorem Box.grown {w w' : World} {b p : Nat} {vs : List Value} (h : Box w b vs) (hne : b ≠ p) (hg : w.grownBy w' (some p)) : Box w' b vs := ⟨Nat.lt_of_lt_of_le h.1 hg.size, fun i v hv => cellG (h.2 i v hv) h.1 hne hg⟩
theorem Box.of2 {W : World} {b : Nat} {u v : Value} (h : b < W.heap.size) (h0 : W.cell? ⟨b, 0, none⟩ = some u) (h1 : W.cell? ⟨b, 1, none⟩ = some v) : Box W b [u, v] := ⟨h, fun i x hx => by
  match i, hx with
  | 0, hx => simp at hx; rw [← hx]; exact h0
  | 1, hx => simp at hx; rw [← hx]; exact h1
  | k + 2, hx => simp at hx⟩
theorem Box.of3 {W : World} {b : Nat} {u v t : Value} (h : b < W.heap.size) (h0 : W.cell? ⟨b, 0, none⟩ = some u) (h1 : W.cell? ⟨b, 1, none⟩ = some v) (h2 : W.cell? ⟨b, 2, none⟩ = some t) : Box W b [u, v, t] := ⟨h, fun i x hx => by
  match i, hx with
  | 0, hx => simp at hx; rw [← hx]; exact h0
  | 1, hx => simp at hx; rw [← hx]; exact h1
  | 2, hx => simp at hx; rw [← hx]; exact h2
  | k + 3, hx => simp at hx⟩
theorem Box.of6 {W : World} {b : Nat} {u v t x y z : Value} (h : b < W.heap.size) (h0 : W.cell? ⟨b, 0, none⟩ = some u) (h1 : W.cell? ⟨b, 1, none⟩ = some v) (h2 : W.cell? ⟨b, 2, none⟩ = some t) (h3 : W.cell? ⟨b, 3, none⟩ = some x) (h4 : W.cell? ⟨b, 4, none⟩ = some y) (h5 : W.cell? ⟨b, 5, none⟩ = some z) : Box W b [u, v, t, x, y, z] := ⟨h, fun i a hx => by
  match i, hx with
  | 0, hx => simp at hx; rw [← hx]; exact h0
  | 1, hx => simp at hx; rw [← hx]; exact h1
  | 2, hx => simp at hx; rw [← hx]; exact h2
  | 3, hx => simp at hx; rw [← hx]; exact h3
  | 4, hx => simp at hx; rw [← hx]; exact h4
  | 5, hx => simp at hx; rw [← hx]; exact h5
  | k + 6, hx => simp at hx⟩
/-- What is known on the way: the spot, what is put, the two boxes, the chunk. -/
structure Oth (w W : World) (n b7 b8 p : Nat) (S O C7 C8 : List Value) (C L : List Cell) (v : Value) : Prop where
  s : Box W n S
  o : Box W (n + 1) O
  c : Box W b7 C7
  l : Box W b8 C8
  k : Chk W p C L v
  b : Below w.heap.size w W
section
variable {w W W' : World} {n b7 b8 p : Nat} {S O C7 C8 : List Value} {C L C' L' : List Cell} {v v' : Value}
theorem Oth.below (h : Oth w W n b7 b8 p S O C7 C8 C L v) (hb : Below W.heap.size W W') : Oth w W' n b7 b8 p S O C7 C8 C L v := ⟨h.s.below hb, h.o.below hb, h.c.below hb, h.l.below hb, h.k.below hb, below_t h.b hb⟩
theorem Oth.grown (h : Oth w W n b7 b8 p S O C7 C8 C L v) (hg : W.grownBy W' (some p)) (hk : Chk W' p C' L' v') (hp : w.heap.size ≤ p) (h0 : n ≠ p) (h1 : n + 1 ≠ p) (h7 : b7 ≠ p) (h8 : b8 ≠ p) : Oth w W' n b7 b8 p S O C7 C8 C' L' v' := ⟨h.s.grown h0 hg, h.o.grown h1 hg, h.c.grown h7 hg, h.l.grown h8 hg, hk, grown_below h.b hg hp⟩
end
theorem gr_set {w w' : World} {p i : Nat} {v : Value} (h : w.grownBy w' (some p)) : w.grownBy (w'.setCell ⟨p, i, none⟩ v) (some p) := World.grownBy.trans h (grown_set _ _ _ _)
theorem ckk_of {W : World} {p tc : Nat} {C L : List Cell} {TA : Option Addr} (h : Chk W p C L (.slice TA 0 tc)) (hc : tc ≤ maxLen) : ChkK W p ⟨C, L, []⟩ := ⟨TA, tc, h, PairC.nil, Nat.zero_le _, hc, Nat.zero_le _⟩
theorem set_is {l : List Cell} {j : Nat} {c d : Cell} (h : l[j]? = some c) : decide (l.set j d = l) = decide (d = c) := by
  obtain ⟨hj, e⟩ := List.getElem?_eq_some_iff.1 h
  rw [decide_eq_decide]
  constructor
  · intro q
    have := congrArg (fun r : List Cell => r[j]?) q
    simp only [List.getElem?_set_self hj, h] at this
    injection this
  · rintro rfl
    rw [← e]
    simp
theorem set_back {l : List Cell} {j : Nat} {c d : Cell} (h : l[j]? = some c) : (l.set j d).set j c = l := by
  obtain ⟨hj, e⟩ := List.getElem?_eq_some_iff.1 h
  rw [List.set_set, ← e]
  simp
theorem guardCell : Tryd.prog.eqGuardType Tryd.prog.depth 25 = false := by kernel_rfl
theorem guardLight : Tryd.prog.eqGuardType Tryd.prog.depth 28 = false := by kernel_rfl
section
variable {o : Oper} {a : Act} {x y : Operand} {W : World} {c d : Cell} {t : TypeId} {b : Bool}
theorem yield_eq1 (ho : o.op = .binOp .eql 25 x y t) (hx : a.eval x = .agg #[bv c.1, bv c.2]) (hy : a.eval y = .agg #[bv d.1, bv d.2]) (hb : decide (c = d) = b) : (execOp a.eval o).run Tryd.prog W = .ok (.value (.bool b)) W := by
  have h1 := run_eql_struct (P := Tryd.prog) W 25 #[bv c.1, bv c.2] #[bv d.1, bv d.2]
  have h3 := run_eqCell W 9998 c d
  unfold encC at h3
  rw [h3] at h1
  have h2 := run_eqGuard_agg (P := Tryd.prog) W .eql 25 x y #[bv c.1, bv c.2] #[bv d.1, bv d.2] guardCell
  unfold execOp
  simp only [ho, hx, hy, Sem.run_bind, Sem.run_pure, h2, h1, Result.andThen_ok, hb]
theorem yield_eq2 (ho : o.op = .binOp .eql 28 x y t) (hx : a.eval x = .agg #[bv c.1, bv c.2]) (hy : a.eval y = .agg #[bv d.1, bv d.2]) (hb : decide (c = d) = b) : (execOp a.eval o).run Tryd.prog W = .ok (.value (.bool b)) W := by
  have h1 := run_eql_struct (P := Tryd.prog) W 28 #[bv c.1, bv c.2] #[bv d.1, bv d.2]
  have h3 := run_eqLight W 9998 c d
  unfold encC at h3
  rw [h3] at h1
  have h2 := run_eqGuard_agg (P := Tryd.prog) W .eql 28 x y #[bv c.1, bv c.2] #[bv d.1, bv d.2] guardLight
  unfold execOp
  simp only [ho, hx, hy, Sem.run_bind, Sem.run_pure, h2, h1, Result.andThen_ok, hb]
end
end LandP
end Go.Proofs.YtjjnmkbjohiekaaDoor
