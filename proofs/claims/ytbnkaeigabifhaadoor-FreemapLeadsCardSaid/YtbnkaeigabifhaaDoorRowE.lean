/-
  Rows of elements of any kind: row[:k], row[k:], append of a whole slice behind a row of the call's own; as a walk's arm and as one operation of a drawn region (general).
-/
import Derived.Test.YtbnkaeigabifhaaDoorRowG
import Derived.Test.YtbnkaeigabifhaaDoorPushG
namespace Go.Proofs.YtbnkaeigabifhaaDoor
open Go.RowKit
set_option linter.unusedVariables false
set_option linter.unusedSimpArgs false
namespace RowE
open BlkP RowG
/-- What the program's types say of such rows. -/
structure Ty {α : Type} (e : Enc α) (T E : TypeId) (bytes : Nat) : Prop where
  under : Tryd.prog.underlying T = some (.slice E)
  info : ∃ z : Value, (Tryd.prog.info? E).map (fun i => (i.zero, i.size, i.bytes)) = some (some z, e.k, bytes) ∧ z.cells.size = e.k
  pos : 0 < e.k
theorem kadd (b o k : Nat) : (⟨b, o, none⟩ : Addr).add k = ⟨b, o + k, none⟩ := by unfold Addr.add; split <;> simp_all
section
variable {α : Type} {e : Enc α} {T E : TypeId} {by_ : Nat} {w : World} {l : List α}
theorem flat_at {j : Nat} (hk : 0 < e.k) (hj : j < l.length * e.k) : ∃ x, l[j / e.k]? = some x ∧ (flat e l)[j]? = (e.f x)[j % e.k]? := by
  have h1 : j / e.k < l.length := Nat.div_lt_of_lt_mul (by rw [Nat.mul_comm]; exact hj)
  refine ⟨_, List.getElem?_eq_getElem h1, ?_⟩
  have hg := flat_get (e := e) (i := j / e.k) (j := j % e.k) (List.getElem?_eq_getElem h1) (Nat.mod_lt _ hk)
  rw [← hg, Nat.div_add_mod']
theorem rd_cell {A : Addr} {n c j : Nat} {u : Value} (hk : 0 < e.k) (hR : Rd e w (.slice (some A) n c) l) (hu : (flat e l)[j]? = some u) : w.cell? (A.add j) = some u := by
  have hj : j < l.length * e.k := by
    have := (List.getElem?_eq_some_iff.1 hu).1
    rwa [flat_len] at this
  obtain ⟨x, hx, he⟩ := flat_at hk hj
  rw [he] at hu
  obtain ⟨b, o, hA, _, hc⟩ := hR.at hx
  obtain rfl := Option.some.inj hA
  have := hc _ u hu
  rw [Nat.add_assoc, Nat.div_add_mod'] at this
  rw [kadd]
  exact this
theorem rd_len {A : Option Addr} {n c : Nat} (hR : Rd e w (.slice A n c) l) : n = l.length ∧ n ≤ c ∧ c ≤ 9223372036854775807 := by
  obtain ⟨A', c', he, h1, h2, _⟩ := hR
  injection he with e1 e2 e3
  subst e1 e2 e3
  exact ⟨rfl, h1, h2⟩
/-- append(row, cells...): a slice that is only read, behind a row of the call's own. -/
theorem run_appE (hT : Ty e T E by_) {B : Nat} {v : Value} {l0 : List α} {A : Option Addr} {n c : Nat} (hown : RowG.Own e E w B v l0) (hR : Rd e w (.slice A n c) l) (hl : (l0.length + n) * by_ ≤ 140737488355328) (hl2 : l0.length + n ≤ 9223372036854775807) (hB : B ≤ w.heap.size) (ty : TypeId) :
    ∃ v' w', (Builtin.append_ #[T, T] ty #[v, .slice A n c]).run Tryd.prog w = .ok v' w' ∧ RowG.Own e E w' B v' (l0 ++ l) ∧ w.grownBy w' v.ownBlock ∧ (v'.ownBlock = v.ownBlock ∨ v'.ownBlock = some w.heap.size) := by
  obtain ⟨z, hI, hz0⟩ := hT.info
  obtain ⟨i, hi, hz, hs1, hby⟩ := info_parts hI
  have hm : maxLen = 9223372036854775807 := rfl
  obtain ⟨hn, _, _⟩ := rd_len hR
  by_cases h0 : n = 0
  · have hl0 : l = [] := List.eq_nil_of_length_eq_zero (by omega)
    subst hl0
    subst h0
    obtain ⟨A0, c0, rfl, hc0, hc1, _⟩ := hown.form rfl
    refine ⟨.slice A0 l0.length c0, w, ?_, by simpa using hown, World.grownBy.refl _ _, .inl rfl⟩
    cases A <;> cases A0 <;> simp [Builtin.append_, run_underlying hT.under, sizeOf, typeInfo, hi, Builtin.lenOf, Builtin.firstCells, storeCells, loadCells, loadCellsFrom, hc0]
  · obtain ⟨ad, rfl⟩ : ∃ ad, A = some ad := by
      obtain ⟨A', c', he, _, _, hne⟩ := hR
      injection he with h1 h2 h3
      obtain ⟨b, o, hA, _⟩ := hne (by intro q; rw [q] at hn; exact h0 hn)
      exact ⟨_, h1.trans hA⟩
    obtain ⟨v', w', hr, h2, h3, _, h5⟩ := run_append_own_at (P := Tryd.prog) w B T ty E i _ e.k by_ hT.under hi hz hs1 hby hz0 hT.pos v l0.length (flat e l0) hown ad n c (flat e l) (by rw [flat_len, hn]) (fun j u hu => rd_cell hT.pos hR hu) (fun u hu => by
      obtain ⟨x, _, hx⟩ := List.mem_flatMap.1 hu
      exact e.one x u hx) (by omega) hl hB
    refine ⟨v', w', hr, ?_, h3, h5⟩
    unfold RowG.Own
    rw [flat_app, List.length_append, ← hn]
    exact h2
theorem rd_take {A : Option Addr} {n c : Nat} (h : Rd e w (.slice A n c) l) {k : Nat} (hk : k ≤ l.length) : Rd e w (.slice A k c) (l.take k) := by
  obtain ⟨A', c', he, h1, h2, hne⟩ := h
  injection he with e1 e2 e3
  subst e1 e3
  have hl : (l.take k).length = k := by rw [List.length_take]; omega
  refine ⟨A, c, by rw [hl], by rw [hl]; omega, h2, fun q => ?_⟩
  obtain ⟨b, o, hA, hlt, hcs⟩ := hne (fun e => q (by rw [e]; simp))
  refine ⟨b, o, hA, hlt, fun i x hx => hcs i x ?_⟩
  rw [List.getElem?_take] at hx
  split at hx
  · exact hx
  · cases hx
theorem rd_drop {A : Option Addr} {n c : Nat} (h : Rd e w (.slice A n c) l) {k : Nat} (hk : k ≤ l.length) : Rd e w (.slice (if c = k then A else A.map (·.add (k * e.k))) (n - k) (c - k)) (l.drop k) := by
  obtain ⟨A', c', he, h1, h2, hne⟩ := h
  injection he with e1 e2 e3
  subst e1 e2 e3
  refine ⟨_, c - k, by rw [List.length_drop], by rw [List.length_drop]; omega, by omega, fun q => ?_⟩
  obtain ⟨b, o, hA, hlt, hcs⟩ := hne (fun e => q (by rw [e]; simp))
  have hlk : k < l.length := by
    apply Classical.byContradiction
    intro hc
    exact q (List.drop_eq_nil_of_le (by omega))
  refine ⟨b, o + k * e.k, by rw [if_neg (by omega), hA]; simp [kadd], hlt, fun i x hx j u hu => ?_⟩
  rw [List.getElem?_drop] at hx
  have := hcs (k + i) x hx j u hu
  rw [Nat.add_mul, ← Nat.add_assoc] at this
  exact this
theorem run_uptoE (hT : Ty e T E by_) (w' : World) {A : Option Addr} {L c k : Nat} (h1 : k ≤ L) (h2 : L ≤ c) : (Instr.sliceAt T (.slice A L c) none (some (.int .i64 (k : Int))) none).run Tryd.prog w' = .ok (.slice A k c) w' := by
  have e0 : (if c = 0 then A else A.map (·.add 0)) = A := by
    split
    · rfl
    · cases A <;> simp [Addr.add]
  have h3 : (k : Int) ≤ c := by omega
  have h3n : k ≤ c := by omega
  obtain ⟨z, hI, _⟩ := hT.info
  obtain ⟨i, hi, _, hs, _⟩ := info_parts hI
  simp [Instr.sliceAt, Instr.slice, run_underlying hT.under, Instr.sliceBounds, run_sliceBound, h3, h3n, e0, Result.andThen, sizeOf, typeInfo, hi, hs]
theorem run_fromE (hT : Ty e T E by_) (w' : World) {A : Option Addr} {L c k : Nat} (h1 : k ≤ L) (h2 : L ≤ c) : (Instr.sliceAt T (.slice A L c) (some (.int .i64 (k : Int))) none none).run Tryd.prog w' = .ok (.slice (if c = k then A else A.map (·.add (k * e.k))) (L - k) (c - k)) w' := by
  have h0 : (k : Int) ≤ L := by omega
  obtain ⟨z, hI, _⟩ := hT.info
  obtain ⟨i, hi, _, hs, _⟩ := info_parts hI
  simp [Instr.sliceAt, Instr.slice, run_underlying hT.under, Instr.sliceBounds, run_sliceBound, h0, h1, Result.andThen, sizeOf, typeInfo, hi, hs]
end
section
variable {α : Type} {e : Enc α} {T E : TypeId} {by_ : Nat} {w : World} {l : List α} {ops : Array Oper} {rest : List Oper} {o : Oper} {a : Act} {Q : Exit → Act → World → Prop}
theorem wp_appE (hT : Ty e T E by_) (hgd : o.guard = none) (s x : Operand) (ho : o.op = .call { callee := .builtin .append, args := #[s, x], argTypes := #[T, T] })
    {B : Nat} {v : Value} {l0 : List α} {A : Option Addr} {n c : Nat} (hs : a.eval s = v) (hx : a.eval x = .slice A n c) (hown : RowG.Own e E w B v l0) (hR : Rd e w (.slice A n c) l) (hl : (l0.length + n) * by_ ≤ 140737488355328) (hl2 : l0.length + n ≤ 9223372036854775807) (hB : B ≤ w.heap.size)
    (h : ∀ v' w', RowG.Own e E w' B v' (l0 ++ l) → w.grownBy w' v.ownBlock → (v'.ownBlock = v.ownBlock ∨ v'.ownBlock = some w.heap.size) → wpList Tryd.prog ops Q rest (a.put o.dst v') w') : wpList Tryd.prog ops Q (o :: rest) a w := by
  refine wpList_plain hgd fun K hK => ?_
  obtain ⟨v', w', hr, h2, h3, h4⟩ := run_appE hT hown hR hl hl2 hB o.type
  unfold Oper.wp execOp
  simp only [ho, resolve, invoke, builtin, Sem.run_bind, Sem.run_pure, Result.andThen_ok, List.map_toArray, List.map_cons, List.map_nil, hs, hx, hr]
  exact hK _ _ (h v' w' h2 h3 h4)
theorem step_appE {K : Act → World → Prop} {G : Prop} (hT : Ty e T E by_) (hgd : o.guard = none) (s x : Operand) (ho : o.op = .call { callee := .builtin .append, args := #[s, x], argTypes := #[T, T] })
    {B : Nat} {v : Value} {l0 : List α} {A : Option Addr} {n c : Nat} (hs : a.eval s = v) (hx : a.eval x = .slice A n c) (hown : RowG.Own e E w B v l0) (hR : Rd e w (.slice A n c) l) (hl : (l0.length + n) * by_ ≤ 140737488355328) (hl2 : l0.length + n ≤ 9223372036854775807) (hB : B ≤ w.heap.size)
    (h : ∀ v' w', RowG.Own e E w' B v' (l0 ++ l) → w.grownBy w' v.ownBlock → (v'.ownBlock = v.ownBlock ∨ v'.ownBlock = some w.heap.size) → K (a.put o.dst v') w') : if Region.wanted o (yielded ops a.tmps) = true then Oper.wp Tryd.prog o a w K Q else G := by
  have hw : Region.wanted o (yielded ops a.tmps) = true := by simp [Region.wanted, hgd]
  rw [if_pos hw]
  obtain ⟨v', w', hr, h2, h3, h4⟩ := run_appE hT hown hR hl hl2 hB o.type
  unfold Oper.wp execOp
  simp only [ho, resolve, invoke, builtin, Sem.run_bind, Sem.run_pure, Result.andThen_ok, List.map_toArray, List.map_cons, List.map_nil, hs, hx, hr]
  exact h v' w' h2 h3 h4
/-- append(v, x) of one element, x in a new block of its own, as one operation of a drawn region; and as a walk's arm. -/
theorem step_pushE {K : Act → World → Prop} {G : Prop} (hT : Ty e T E by_) (hby : by_ ≤ 100) (hgd : o.guard = none) (s x : Operand) (ho : o.op = .call { callee := .builtin .append, args := #[s, x], argTypes := #[T, T] }) {w0 : World} {B : Nat} {v : Value} {y : α} {c : Array Value}
    (hW : w = w0.alloc (.cells c E)) (hc : c.toList = e.f y) (hs : a.eval s = v) (hown : RowG.Own e E w0 B v l) {g0 : Nat} (hx : a.eval x = .slice (some ⟨g0, 0, none⟩) 1 1) (hg0 : g0 = w0.heap.size) (hl : l.length ≤ 1000000) (hB : B ≤ w0.heap.size)
    (h : ∀ g c' w', PushG.Pushed e E w0 B v l y (l.length + 1) g c' w' → K (a.put o.dst (.slice (some ⟨g, 0, none⟩) (l.length + 1) c')) w') : if Region.wanted o (yielded ops a.tmps) = true then Oper.wp Tryd.prog o a w K Q else G := by
  subst hW hg0
  have hw : Region.wanted o (yielded ops a.tmps) = true := by simp [Region.wanted, hgd]
  rw [if_pos hw]
  obtain ⟨z, hI, hz⟩ := hT.info
  obtain ⟨g, cp, w', hr, h2, h3, h4⟩ := PushG.run_pushG e hT.under hI hz hT.pos hby (y := y) (c := c) hc hown hl hB o.type
  unfold Oper.wp execOp
  simp only [ho, resolve, invoke, builtin, Sem.run_bind, Sem.run_pure, Result.andThen_ok, List.map_toArray, List.map_cons, List.map_nil, hs, hx, hr]
  refine h g cp w' ⟨h2, h3, ?_⟩
  rcases h4 with q | ⟨g', q, hg⟩
  · exact .inl q.symm
  · have : g = g' := by simpa [Value.ownBlock] using q
    subst this
    exact .inr hg
theorem wp_pushE (hT : Ty e T E by_) (hby : by_ ≤ 100) (hgd : o.guard = none) (s x : Operand) (ho : o.op = .call { callee := .builtin .append, args := #[s, x], argTypes := #[T, T] }) {w0 : World} {B : Nat} {v : Value} {y : α} {c : Array Value}
    (hW : w = w0.alloc (.cells c E)) (hc : c.toList = e.f y) (hs : a.eval s = v) (hown : RowG.Own e E w0 B v l) {g0 : Nat} (hx : a.eval x = .slice (some ⟨g0, 0, none⟩) 1 1) (hg0 : g0 = w0.heap.size) (hl : l.length ≤ 1000000) (hB : B ≤ w0.heap.size)
    (h : ∀ g c' w', PushG.Pushed e E w0 B v l y (l.length + 1) g c' w' → wpList Tryd.prog ops Q rest (a.put o.dst (.slice (some ⟨g, 0, none⟩) (l.length + 1) c')) w') : wpList Tryd.prog ops Q (o :: rest) a w := by
  subst hW hg0
  refine wpList_plain hgd fun K hK => ?_
  obtain ⟨z, hI, hz⟩ := hT.info
  obtain ⟨g, cp, w', hr, h2, h3, h4⟩ := PushG.run_pushG e hT.under hI hz hT.pos hby (y := y) (c := c) hc hown hl hB o.type
  unfold Oper.wp execOp
  simp only [ho, resolve, invoke, builtin, Sem.run_bind, Sem.run_pure, Result.andThen_ok, List.map_toArray, List.map_cons, List.map_nil, hs, hx, hr]
  refine hK _ _ (h g cp w' ⟨h2, h3, ?_⟩)
  rcases h4 with q | ⟨g', q, hg⟩
  · exact .inl q.symm
  · have : g = g' := by simpa [Value.ownBlock] using q
    subst this
    exact .inr hg
/-- row[:k]. -/
theorem wp_uptoE (hT : Ty e T E by_) (hgd : o.guard = none) (x y : Operand) (ho : o.op = .slice T x none (some y) none) {A : Option Addr} {L c k : Nat} (hx : a.eval x = .slice A L c) (hy : a.eval y = .int .i64 (k : Int)) (hR : Rd e w (.slice A L c) l) (h1 : k ≤ l.length)
    (h : Rd e w (.slice A k c) (l.take k) → wpList Tryd.prog ops Q rest (a.put o.dst (.slice A k c)) w) : wpList Tryd.prog ops Q (o :: rest) a w := by
  refine wpList_plain hgd fun K hK => ?_
  obtain ⟨hn, hc, _⟩ := rd_len hR
  have hr := run_uptoE hT w (A := A) (L := L) (c := c) (k := k) (by omega) hc
  unfold Oper.wp
  simp [execOp, ho, hx, hy, hr, Result.andThen]
  exact hK _ _ (h (rd_take hR h1))
/-- row[k:]: at some address, of which is known what it holds. -/
theorem wp_fromE (hT : Ty e T E by_) (hgd : o.guard = none) (x y : Operand) (ho : o.op = .slice T x (some y) none none) {A : Option Addr} {L c k : Nat} (hx : a.eval x = .slice A L c) (hy : a.eval y = .int .i64 (k : Int)) (hR : Rd e w (.slice A L c) l) (h1 : k ≤ l.length)
    (h : ∀ A', Rd e w (.slice A' (L - k) (c - k)) (l.drop k) → wpList Tryd.prog ops Q rest (a.put o.dst (.slice A' (L - k) (c - k))) w) : wpList Tryd.prog ops Q (o :: rest) a w := by
  refine wpList_plain hgd fun K hK => ?_
  obtain ⟨hn, hc, _⟩ := rd_len hR
  have hr := run_fromE hT w (A := A) (L := L) (c := c) (k := k) (by omega) hc
  unfold Oper.wp
  simp [execOp, ho, hx, hy, hr, Result.andThen]
  exact hK _ _ (h _ (rd_drop hR h1))
end
end RowE
end Go.Proofs.YtbnkaeigabifhaaDoor
