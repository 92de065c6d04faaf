/-
  Chunks that are made of parts: the plain words, parts in memory, rows of pairs that are appended.
-/
import Derived.Test.YtdboebokjkkgkaaDoorPackPut
import Derived.Test.YtdboebokjkkgkaaDoorBitsP
namespace Go.Proofs.YtdboebokjkkgkaaDoor
open Go.RowKit
set_option linter.unusedVariables false
set_option linter.unusedSimpArgs false
namespace PackW
open BytesW RunsW

/-- A part: cells and lights from an index on. -/
structure Pt where
  at_ : Int
  many : Int
  cell : Cell
  light : Cell
def atOf (q : Pt) : Nat := (q.at_ % 4096).toNat
def lenOf (q : Pt) : Nat := min q.many.toNat (4096 - atOf q)
/-- m cells from a on are c. -/
def lay (C : List Cell) (a m : Nat) (c : Cell) : List Cell := C.take a ++ (List.replicate m c ++ C.drop (a + m))
def layP (k : List Cell × List Cell) (q : Pt) : List Cell × List Cell := (lay k.1 (atOf q) (lenOf q) q.cell, lay k.2 (atOf q) (lenOf q) q.light)
def madeP (n : Nat) (l : List Pt) : List Cell × List Cell := (l.take n).foldl layP (zeros, zeros)
theorem lay_zero (C : List Cell) (a : Nat) (c : Cell) : lay C a 0 c = C := by simp [lay]
theorem lay_len {C : List Cell} {a m : Nat} {c : Cell} (h : a + m ≤ C.length) : (lay C a m c).length = C.length := by
  simp only [lay, List.length_append, List.length_take, List.length_replicate, List.length_drop]
  omega
theorem lay_set {C : List Cell} {a m : Nat} {c : Cell} (h : a + m < C.length) : (lay C a m c).set (a + m) c = lay C a (m + 1) c := by
  have h1 : (C.take a).length = a := by simp; omega
  rw [lay, List.set_append_right _ _ (by omega), h1, List.set_append_right _ _ (by simp), List.length_replicate, show a + m - a - m = 0 by omega, List.drop_eq_getElem_cons (by omega), List.set_cons_zero, lay, show a + (m + 1) = a + m + 1 by omega]
  rw [List.replicate_succ', List.append_assoc]
  rfl
theorem made_next {l : List Pt} {j : Nat} {q : Pt} (h : l[j]? = some q) : madeP (j + 1) l = layP (madeP j l) q := by
  rw [madeP, List.take_add_one, h]
  simp [madeP]
theorem atOf_lt (q : Pt) : atOf q < 4096 := by
  unfold atOf
  omega
theorem lenOf_le (q : Pt) : atOf q + lenOf q ≤ 4096 := by
  have := atOf_lt q
  unfold lenOf
  omega
theorem and4095 (q : Pt) : bits .and .i64 q.at_ 4095 = (atOf q : Int) := by
  have h := BitsP.and_mask q.at_ 12 (by omega)
  have e : ((2 ^ 12 - 1 : Nat) : Int) = 4095 := by decide
  rw [e] at h
  rw [h]
  unfold atOf
  have : ((2 ^ 12 : Nat) : Int) = 4096 := by decide
  rw [this]
  omega

theorem Chk.drew {w : World} {p : Nat} {C L : List Cell} {v : Value} (h : Chk w p C L v) : Chk w.drew p C L v := ⟨h.1, h.2⟩
/-- Parts in memory. -/
def PartC (w : World) (A : Option Addr) (l : List Pt) : Prop :=
  l ≠ [] → ∃ b o, A = some ⟨b, o, none⟩ ∧ b < w.heap.size ∧ ∀ (i : Nat) (q : Pt), l[i]? = some q → w.cell? ⟨b, o + i * 6, none⟩ = some (.int .i64 q.at_) ∧ w.cell? ⟨b, o + i * 6 + 1, none⟩ = some (.int .i64 q.many) ∧ w.cell? ⟨b, o + i * 6 + 2, none⟩ = some (bv q.cell.1) ∧ w.cell? ⟨b, o + i * 6 + 3, none⟩ = some (bv q.cell.2) ∧ w.cell? ⟨b, o + i * 6 + 4, none⟩ = some (bv q.light.1) ∧ w.cell? ⟨b, o + i * 6 + 5, none⟩ = some (bv q.light.2)
theorem PartC.nil {w : World} {A : Option Addr} : PartC w A [] := fun h => absurd rfl h
theorem PartC.below {w w' : World} {A : Option Addr} {l : List Pt} (h : PartC w A l) (hb : Below w.heap.size w w') : PartC w' A l := fun hl => by
  obtain ⟨b, o, hA, hlt, hc⟩ := h hl
  refine ⟨b, o, hA, Nat.lt_of_lt_of_le hlt hb.size, fun i q hq => ?_⟩
  obtain ⟨h0, h1, h2, h3, h4, h5⟩ := hc i q hq
  exact ⟨(hb.cell hlt).trans h0, (hb.cell hlt).trans h1, (hb.cell hlt).trans h2, (hb.cell hlt).trans h3, (hb.cell hlt).trans h4, (hb.cell hlt).trans h5⟩
/-- Fits of a part's numbers. -/
def PtOk (q : Pt) : Prop := (-9223372036854775808 ≤ q.at_ ∧ q.at_ ≤ 9223372036854775807) ∧ (-9223372036854775808 ≤ q.many ∧ q.many ≤ 9223372036854775807)

/-- t[:n] of ticks. -/
theorem run_uptoT (w : World) {A : Option Addr} {L c n : Nat} (h1 : n ≤ L) (h2 : L ≤ c) : (Instr.sliceAt 23 (.slice A L c) none (some (.int .i64 (n : Int))) none).run Tryd.prog w = .ok (.slice A n c) w := by
  obtain ⟨i, hi, _, hs, _⟩ := info_parts infoTick
  have e : (if c = 0 then A else A.map (·.add 0)) = A := by
    split
    · rfl
    · cases A <;> simp [Addr.add]
  have h3 : n ≤ c := by omega
  simp [Instr.sliceAt, Instr.slice, run_underlying underTicks, Instr.sliceBounds, run_sliceBound, h3, e, Result.andThen, sizeOf, typeInfo, hi, hs]
section
variable {α : Type} {f : α → Value × Value} {E T : TypeId}
/-- append(v, l2..) of pairs. -/
theorem run_appP {w : World} {B : Nat} {v : Value} {l l2 : List α} (hT : Tryd.prog.underlying T = some (.slice E)) {z : Value} {bytes : Nat} (hI : (Tryd.prog.info? E).map (fun i => (i.zero, i.size, i.bytes)) = some (some z, 2, bytes)) (hz : z.cells.size = 2) (hby : bytes ≤ 16) (h1 : ∀ y, (f y).1.oneCell' = true ∧ (f y).2.oneCell' = true)
    (hown : OwnP f E w B v l) {A : Option Addr} {c : Nat} (hAt : PairC f w A l2) (hl : l.length + l2.length ≤ 2000000) (hB : B ≤ w.heap.size) (ty : TypeId) :
    ∃ v' w', (Builtin.append_ #[T, T] ty #[v, .slice A l2.length c]).run Tryd.prog w = .ok v' w' ∧ OwnP f E w' B v' (l ++ l2) ∧ w.grownBy w' v.ownBlock := by
  obtain ⟨i, hi, hz0, hs0, hb0⟩ := info_parts hI
  have hm : maxLen = 9223372036854775807 := rfl
  have hb2 : (l.length + l2.length) * bytes ≤ (l.length + l2.length) * 16 := Nat.mul_le_mul_left _ hby
  rcases A with _ | ad
  · have h0 : l2 = [] := by
      rcases l2 with _ | ⟨y, l2⟩
      · rfl
      · obtain ⟨b, o, hA, _⟩ := hAt (by simp)
        cases hA
    subst h0
    have hr : (Builtin.append_ #[T, T] ty #[v, .slice none 0 c]).run Tryd.prog w = .ok v w := by
      rcases hown.2 with ⟨rfl, hn⟩ | ⟨g, cap, cur, rfl, _, _, hnc, _⟩
      · simp [Builtin.append_, run_underlying hT, sizeOf, typeInfo, hi, Builtin.lenOf, Builtin.firstCells]
      · simp [Builtin.append_, run_underlying hT, sizeOf, typeInfo, hi, Builtin.lenOf, Builtin.firstCells, hnc, storeCells]
    exact ⟨v, w, hr, by simpa using hown, World.grownBy.refl _ _⟩
  · have hnews : ∀ j u, (flatP f l2)[j]? = some u → w.cell? (ad.add j) = some u := fun j u hu => by
      obtain ⟨hj, e⟩ := List.getElem?_eq_some_iff.1 hu
      rw [flatP_len] at hj
      have hj2 : j / 2 < l2.length := by omega
      obtain ⟨b, o, hA, _, hc⟩ := hAt (fun e => by rw [e] at hj2; simp at hj2)
      obtain rfl := Option.some.inj hA
      obtain ⟨c0, c1⟩ := hc (j / 2) _ (List.getElem?_eq_getElem hj2)
      obtain ⟨f0, f1⟩ := flatP_get (f := f) (List.getElem?_eq_getElem hj2)
      rw [addr_add]
      rcases Nat.mod_two_eq_zero_or_one j with h2 | h2
      · rw [show j / 2 * 2 = j by omega] at c0 f0
        rw [f0] at hu
        rw [c0, hu]
      · rw [show j / 2 * 2 + 1 = j by omega] at f1
        rw [show o + j / 2 * 2 + 1 = o + j by omega] at c1
        rw [f1] at hu
        rw [c1, hu]
    obtain ⟨v', w', hr, a1, a2, _, _⟩ := run_append_own_at (P := Tryd.prog) w B T ty E i z 2 bytes hT hi hz0 hs0 hb0 hz (by omega) v l.length (flatP f l) hown ad l2.length c (flatP f l2) (by rw [flatP_len]; omega) hnews
      (fun u hu => by
        obtain ⟨x, _, hx⟩ := List.mem_flatMap.1 hu
        have := h1 x
        simp only [List.mem_cons, List.not_mem_nil, or_false] at hx
        rcases hx with rfl | rfl
        · exact this.1
        · exact this.2) (by omega) (by omega) hB
    refine ⟨v', w', hr, ?_, a2⟩
    unfold OwnP
    rw [List.length_append, flatP_app]
    exact a1
theorem step_appP {w : World} {ops : Array Oper} {o : Oper} {a : Act} {Q : Exit → Act → World → Prop} {K : Act → World → Prop} {X : Prop} (hgd : o.guard = none) (s x : Operand) (ho : o.op = .call { callee := .builtin .append, args := #[s, x], argTypes := #[T, T] })
    (hT : Tryd.prog.underlying T = some (.slice E)) {z : Value} {bytes : Nat} (hI : (Tryd.prog.info? E).map (fun i => (i.zero, i.size, i.bytes)) = some (some z, 2, bytes)) (hz : z.cells.size = 2) (hby : bytes ≤ 16) (h1 : ∀ y, (f y).1.oneCell' = true ∧ (f y).2.oneCell' = true)
    {B : Nat} {v : Value} {l l2 : List α} (hs : a.eval s = v) (hown : OwnP f E w B v l) {A : Option Addr} {n c : Nat} (hn : n = l2.length) (hx : a.eval x = .slice A n c) (hAt : PairC f w A l2) (hl : l.length + l2.length ≤ 2000000) (hB : B ≤ w.heap.size)
    (h : ∀ v' w', OwnP f E w' B v' (l ++ l2) → w.grownBy w' v.ownBlock → Below B w w' → K (a.put o.dst v') w') : if Region.wanted o (yielded ops a.tmps) = true then Oper.wp Tryd.prog o a w K Q else X := by
  have hw : Region.wanted o (yielded ops a.tmps) = true := by simp [Region.wanted, hgd]
  rw [if_pos hw]
  subst hn
  obtain ⟨v', w', hr, a1, a2⟩ := run_appP hT hI hz hby h1 hown (c := c) hAt hl hB o.type
  unfold Oper.wp execOp
  simp only [ho, resolve, invoke, builtin, Sem.run_bind, Sem.run_pure, Result.andThen_ok, List.map_toArray, List.map_cons, List.map_nil, hs, hx, hr]
  exact h v' w' a1 a2 (hown.grownB a2 hB)
theorem wp_appP {w : World} {ops : Array Oper} {rest : List Oper} {o : Oper} {a : Act} {Q : Exit → Act → World → Prop} (hgd : o.guard = none) (s x : Operand) (ho : o.op = .call { callee := .builtin .append, args := #[s, x], argTypes := #[T, T] })
    (hT : Tryd.prog.underlying T = some (.slice E)) {z : Value} {bytes : Nat} (hI : (Tryd.prog.info? E).map (fun i => (i.zero, i.size, i.bytes)) = some (some z, 2, bytes)) (hz : z.cells.size = 2) (hby : bytes ≤ 16) (h1 : ∀ y, (f y).1.oneCell' = true ∧ (f y).2.oneCell' = true)
    {B : Nat} {v : Value} {l l2 : List α} (hs : a.eval s = v) (hown : OwnP f E w B v l) {A : Option Addr} {c : Nat} (hx : a.eval x = .slice A l2.length c) (hAt : PairC f w A l2) (hl : l.length + l2.length ≤ 2000000) (hB : B ≤ w.heap.size)
    (h : ∀ v' w', OwnP f E w' B v' (l ++ l2) → w.grownBy w' v.ownBlock → Below B w w' → wpList Tryd.prog ops Q rest (a.put o.dst v') w') : wpList Tryd.prog ops Q (o :: rest) a w := by
  refine wpList_plain hgd fun K hK => ?_
  obtain ⟨v', w', hr, a1, a2⟩ := run_appP hT hI hz hby h1 hown (c := c) hAt hl hB o.type
  unfold Oper.wp execOp
  simp only [ho, resolve, invoke, builtin, Sem.run_bind, Sem.run_pure, Result.andThen_ok, List.map_toArray, List.map_cons, List.map_nil, hs, hx, hr]
  exact hK _ _ (h v' w' a1 a2 (hown.grownB a2 hB))
end
end PackW
end Go.Proofs.YtdboebokjkkgkaaDoor
