/-
  Rows of pairs that grow.
-/
import Derived.Test.YtiochoppiohjnaaDoorPackMem
namespace Go.Proofs.YtiochoppiohjnaaDoor
open Go.RowKit
set_option linter.unusedVariables false
set_option linter.unusedSimpArgs false
namespace PackW
open BytesW

theorem calls_namedW {P : Program} {f : Nat} {args : Array Value} {Q : Ending → World → Prop} {W : World} (S : World → Prop) (h : S W) (k : ∀ W', S W' → Calls P f args W' Q) : Calls P f args W Q := k W h
theorem x_namedW {K : Exit → Act → World → Prop} {a : Act} {e : Exit} {W : World} (S : World → Prop) (h : S W) (k : ∀ W', S W' → K e a W') : K e a W := k W h
theorem below_t {w0 w w' : World} (hb : Below w0.heap.size w0 w) (h : Below w.heap.size w w') : Below w0.heap.size w0 w' := hb.trans (h.mono hb.size)
theorem infoTick : (Tryd.prog.info? 63).map (fun i => (i.zero, i.size, i.bytes)) = some (some (.agg #[.int .i64 0, .int .i64 0]), 2, 16) := by kernel_rfl
theorem infoCell : (Tryd.prog.info? 36).map (fun i => (i.zero, i.size, i.bytes)) = some (some (.agg #[.int .u8 0, .int .u8 0]), 2, 2) := by kernel_rfl
theorem underTicks : Tryd.prog.underlying 23 = some (.slice 63) := Tryd.underlying23
section
variable {α : Type} {f : α → Value × Value} {E T : TypeId}
theorem OwnP.grownB {w w' : World} {B : Nat} {v : Value} {l : List α} (h : OwnP f E w B v l) (hg : w.grownBy w' v.ownBlock) (hB : B ≤ w.heap.size) : Below B w w' :=
  (Below.refl B w).grown hg hB (fun k hk => (World.ownsRow.lt h k hk).1)
theorem run_push {w : World} {B : Nat} {v : Value} {l : List α} (hT : Tryd.prog.underlying T = some (.slice E)) {z : Value} {bytes : Nat} (hI : (Tryd.prog.info? E).map (fun i => (i.zero, i.size, i.bytes)) = some (some z, 2, bytes)) (hz : z.cells.size = 2) (hby : bytes ≤ 16) (h1 : ∀ y, (f y).1.oneCell' = true ∧ (f y).2.oneCell' = true)
    (hown : OwnP f E w B v l) (y : α) {g : Nat} (h0 : w.cell? ⟨g, 0, none⟩ = some (f y).1) (h2 : w.cell? ⟨g, 1, none⟩ = some (f y).2) (hl : l.length ≤ 2000000) (hB : B ≤ w.heap.size) (ty : TypeId) :
    ∃ v' w', (Builtin.append_ #[T, T] ty #[v, .slice (some ⟨g, 0, none⟩) 1 1]).run Tryd.prog w = .ok v' w' ∧ OwnP f E w' B v' (l ++ [y]) ∧ w.grownBy w' v.ownBlock := by
  obtain ⟨i, hi, hz0, hs0, hb0⟩ := info_parts hI
  have hm : maxLen = 9223372036854775807 := rfl
  have hb2 : (l.length + 1) * bytes ≤ (l.length + 1) * 16 := Nat.mul_le_mul_left _ hby
  obtain ⟨v', w', hr, a1, a2, _, _⟩ := run_append_own_at (P := Tryd.prog) w B T ty E i z 2 bytes hT hi hz0 hs0 hb0 hz (by omega) v l.length (flatP f l) hown ⟨g, 0, none⟩ 1 1 [(f y).1, (f y).2] rfl
    (fun j u hu => by
      rw [addr_add]
      match j, hu with
      | 0, hu =>
        have : (f y).1 = u := by simpa using hu
        subst this
        exact h0
      | 1, hu =>
        have : (f y).2 = u := by simpa using hu
        subst this
        exact h2)
    (fun u hu => by
      have := h1 y
      simp only [List.mem_cons, List.not_mem_nil, or_false] at hu
      rcases hu with rfl | rfl
      · exact this.1
      · exact this.2) (by omega) (by omega) hB
  refine ⟨v', w', hr, ?_, a2⟩
  unfold OwnP
  rw [List.length_append, flatP_app]
  exact a1
/-- append(v, y) of one pair: y lies in a new block of its own. -/
theorem wp_pushP {w : World} {ops : Array Oper} {rest : List Oper} {o : Oper} {a : Act} {Q : Exit → Act → World → Prop} (hgd : o.guard = none) (s x : Operand) (ho : o.op = .call { callee := .builtin .append, args := #[s, x], argTypes := #[T, T] })
    (hT : Tryd.prog.underlying T = some (.slice E)) {z : Value} {bytes : Nat} (hI : (Tryd.prog.info? E).map (fun i => (i.zero, i.size, i.bytes)) = some (some z, 2, bytes)) (hz : z.cells.size = 2) (hby : bytes ≤ 16) (h1 : ∀ y, (f y).1.oneCell' = true ∧ (f y).2.oneCell' = true)
    {B : Nat} {v : Value} {l : List α} (w0 : World) (u1 u2 : Value) (hw : w = w0.alloc (.cells #[u1, u2] E)) (hs : a.eval s = v) (hown : OwnP f E w0 B v l) (y : α) (hu1 : u1 = (f y).1) (hu2 : u2 = (f y).2) (hx : a.eval x = .slice (some ⟨w0.heap.size, 0, none⟩) 1 1) (hl : l.length ≤ 2000000) (hB : B ≤ w0.heap.size)
    (h : ∀ v' w', OwnP f E w' B v' (l ++ [y]) → Below B w0 w' → wpList Tryd.prog ops Q rest (a.put o.dst v') w') : wpList Tryd.prog ops Q (o :: rest) a w := by
  subst hw hu1 hu2
  refine wpList_plain hgd fun K hK => ?_
  have hown2 := hown.alloc (.cells #[(f y).1, (f y).2] E)
  obtain ⟨v', w', hr, a1, a2⟩ := run_push hT hI hz hby h1 hown2 y (g := w0.heap.size) (by rw [World.cell?_alloc_new]; rfl) (by rw [World.cell?_alloc_new]; rfl) hl (by simp; omega) o.type
  unfold Oper.wp execOp
  simp only [ho, resolve, invoke, builtin, Sem.run_bind, Sem.run_pure, Result.andThen_ok, List.map_toArray, List.map_cons, List.map_nil, hs, hx, hr]
  exact hK _ _ (h v' w' a1 (((Below.refl B w0).alloc hB _).trans (hown2.grownB a2 (by simp; omega))))
theorem one_tk (y : Tick) : (tkv y).1.oneCell' = true ∧ (tkv y).2.oneCell' = true := ⟨rfl, rfl⟩
theorem one_cv (y : Cell) : (cv y).1.oneCell' = true ∧ (cv y).2.oneCell' = true := ⟨rfl, rfl⟩
end
theorem Chk.drew {w : World} {p : Nat} {C L : List Cell} {v : Value} (h : Chk w p C L v) : Chk w.drew p C L v := ⟨h.1, h.2⟩
/-- t[:n] of ticks. -/
theorem run_uptoT (w : World) {A : Option Addr} {L c n : Nat} (h1 : n ≤ L) (h2 : L ≤ c) : (Instr.sliceAt 23 (.slice A L c) none (some (.int .i64 (n : Int))) none).run Tryd.prog w = .ok (.slice A n c) w := by
  obtain ⟨i, hi, _, hs, _⟩ := info_parts infoTick
  have e : (if c = 0 then A else A.map (·.add 0)) = A := by
    split
    · rfl
    · cases A <;> simp [Addr.add]
  have h3 : n ≤ c := by omega
  simp [Instr.sliceAt, Instr.slice, run_underlying underTicks, Instr.sliceBounds, run_sliceBound, h3, e, Result.andThen, sizeOf, typeInfo, hi, hs]
section
variable {α : Type} {f : α → Value × Value} {E T : TypeId}
/-- append(v, l2..) of pairs. -/
theorem run_appP {w : World} {B : Nat} {v : Value} {l l2 : List α} (hT : Tryd.prog.underlying T = some (.slice E)) {z : Value} {bytes : Nat} (hI : (Tryd.prog.info? E).map (fun i => (i.zero, i.size, i.bytes)) = some (some z, 2, bytes)) (hz : z.cells.size = 2) (hby : bytes ≤ 16) (h1 : ∀ y, (f y).1.oneCell' = true ∧ (f y).2.oneCell' = true)
    (hown : OwnP f E w B v l) {A : Option Addr} {c : Nat} (hAt : PairC f w A l2) (hl : l.length + l2.length ≤ 2000000) (hB : B ≤ w.heap.size) (ty : TypeId) :
    ∃ v' w', (Builtin.append_ #[T, T] ty #[v, .slice A l2.length c]).run Tryd.prog w = .ok v' w' ∧ OwnP f E w' B v' (l ++ l2) ∧ w.grownBy w' v.ownBlock := by
  obtain ⟨i, hi, hz0, hs0, hb0⟩ := info_parts hI
  have hm : maxLen = 9223372036854775807 := rfl
  have hb2 : (l.length + l2.length) * bytes ≤ (l.length + l2.length) * 16 := Nat.mul_le_mul_left _ hby
  rcases A with _ | ad
  · have h0 : l2 = [] := by
      rcases l2 with _ | ⟨y, l2⟩
      · rfl
      · obtain ⟨b, o, hA, _⟩ := hAt (by simp)
        cases hA
    subst h0
    have hr : (Builtin.append_ #[T, T] ty #[v, .slice none 0 c]).run Tryd.prog w = .ok v w := by
      rcases hown.2 with ⟨rfl, hn⟩ | ⟨g, cap, cur, rfl, _, _, hnc, _⟩
      · simp [Builtin.append_, run_underlying hT, sizeOf, typeInfo, hi, Builtin.lenOf, Builtin.firstCells]
      · simp [Builtin.append_, run_underlying hT, sizeOf, typeInfo, hi, Builtin.lenOf, Builtin.firstCells, hnc, storeCells]
    exact ⟨v, w, hr, by simpa using hown, World.grownBy.refl _ _⟩
  · have hnews : ∀ j u, (flatP f l2)[j]? = some u → w.cell? (ad.add j) = some u := fun j u hu => by
      obtain ⟨hj, e⟩ := List.getElem?_eq_some_iff.1 hu
      rw [flatP_len] at hj
      have hj2 : j / 2 < l2.length := by omega
      obtain ⟨b, o, hA, _, hc⟩ := hAt (fun e => by rw [e] at hj2; simp at hj2)
      obtain rfl := Option.some.inj hA
      obtain ⟨c0, c1⟩ := hc (j / 2) _ (List.getElem?_eq_getElem hj2)
      obtain ⟨f0, f1⟩ := flatP_get (f := f) (List.getElem?_eq_getElem hj2)
      rw [addr_add]
      rcases Nat.mod_two_eq_zero_or_one j with h2 | h2
      · rw [show j / 2 * 2 = j by omega] at c0 f0
        rw [f0] at hu
        rw [c0, hu]
      · rw [show j / 2 * 2 + 1 = j by omega] at f1
        rw [show o + j / 2 * 2 + 1 = o + j by omega] at c1
        rw [f1] at hu
        rw [c1, hu]
    obtain ⟨v', w', hr, a1, a2, _, _⟩ := run_append_own_at (P := Tryd.prog) w B T ty E i z 2 bytes hT hi hz0 hs0 hb0 hz (by omega) v l.length (flatP f l) hown ad l2.length c (flatP f l2) (by rw [flatP_len]; omega) hnews
      (fun u hu => by
        obtain ⟨x, _, hx⟩ := List.mem_flatMap.1 hu
        have := h1 x
        simp only [List.mem_cons, List.not_mem_nil, or_false] at hx
        rcases hx with rfl | rfl
        · exact this.1
        · exact this.2) (by omega) (by omega) hB
    refine ⟨v', w', hr, ?_, a2⟩
    unfold OwnP
    rw [List.length_append, flatP_app]
    exact a1
theorem step_appP {w : World} {ops : Array Oper} {o : Oper} {a : Act} {Q : Exit → Act → World → Prop} {K : Act → World → Prop} {X : Prop} (hgd : o.guard = none) (s x : Operand) (ho : o.op = .call { callee := .builtin .append, args := #[s, x], argTypes := #[T, T] })
    (hT : Tryd.prog.underlying T = some (.slice E)) {z : Value} {bytes : Nat} (hI : (Tryd.prog.info? E).map (fun i => (i.zero, i.size, i.bytes)) = some (some z, 2, bytes)) (hz : z.cells.size = 2) (hby : bytes ≤ 16) (h1 : ∀ y, (f y).1.oneCell' = true ∧ (f y).2.oneCell' = true)
    {B : Nat} {v : Value} {l l2 : List α} (hs : a.eval s = v) (hown : OwnP f E w B v l) {A : Option Addr} {n c : Nat} (hn : n = l2.length) (hx : a.eval x = .slice A n c) (hAt : PairC f w A l2) (hl : l.length + l2.length ≤ 2000000) (hB : B ≤ w.heap.size)
    (h : ∀ v' w', OwnP f E w' B v' (l ++ l2) → w.grownBy w' v.ownBlock → Below B w w' → K (a.put o.dst v') w') : if Region.wanted o (yielded ops a.tmps) = true then Oper.wp Tryd.prog o a w K Q else X := by
  have hw : Region.wanted o (yielded ops a.tmps) = true := by simp [Region.wanted, hgd]
  rw [if_pos hw]
  subst hn
  obtain ⟨v', w', hr, a1, a2⟩ := run_appP hT hI hz hby h1 hown (c := c) hAt hl hB o.type
  unfold Oper.wp execOp
  simp only [ho, resolve, invoke, builtin, Sem.run_bind, Sem.run_pure, Result.andThen_ok, List.map_toArray, List.map_cons, List.map_nil, hs, hx, hr]
  exact h v' w' a1 a2 (hown.grownB a2 hB)
theorem wp_appP {w : World} {ops : Array Oper} {rest : List Oper} {o : Oper} {a : Act} {Q : Exit → Act → World → Prop} (hgd : o.guard = none) (s x : Operand) (ho : o.op = .call { callee := .builtin .append, args := #[s, x], argTypes := #[T, T] })
    (hT : Tryd.prog.underlying T = some (.slice E)) {z : Value} {bytes : Nat} (hI : (Tryd.prog.info? E).map (fun i => (i.zero, i.size, i.bytes)) = some (some z, 2, bytes)) (hz : z.cells.size = 2) (hby : bytes ≤ 16) (h1 : ∀ y, (f y).1.oneCell' = true ∧ (f y).2.oneCell' = true)
    {B : Nat} {v : Value} {l l2 : List α} (hs : a.eval s = v) (hown : OwnP f E w B v l) {A : Option Addr} {c : Nat} (hx : a.eval x = .slice A l2.length c) (hAt : PairC f w A l2) (hl : l.length + l2.length ≤ 2000000) (hB : B ≤ w.heap.size)
    (h : ∀ v' w', OwnP f E w' B v' (l ++ l2) → w.grownBy w' v.ownBlock → Below B w w' → wpList Tryd.prog ops Q rest (a.put o.dst v') w') : wpList Tryd.prog ops Q (o :: rest) a w := by
  refine wpList_plain hgd fun K hK => ?_
  obtain ⟨v', w', hr, a1, a2⟩ := run_appP hT hI hz hby h1 hown (c := c) hAt hl hB o.type
  unfold Oper.wp execOp
  simp only [ho, resolve, invoke, builtin, Sem.run_bind, Sem.run_pure, Result.andThen_ok, List.map_toArray, List.map_cons, List.map_nil, hs, hx, hr]
  exact hK _ _ (h v' w' a1 a2 (hown.grownB a2 hB))
end
end PackW
end Go.Proofs.YtiochoppiohjnaaDoor
