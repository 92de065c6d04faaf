/-
  Rows of ticks: row[:k], row[k:], append of many. Where an index stands among ticks that rise, plainly. The reference's queue in memory.
-/
import Derived.Test.YtlhanbjendbhfaaQueueNew
namespace Go.Proofs.Ytlhanbjendbhfaa
open Go.RowKit
set_option linter.unusedVariables false
set_option linter.unusedSimpArgs false
namespace QueW
open BlkP RowG FrS PushG HeapP ChunkW
/-- append(row, cells...): a slice that is only read, behind a row of the call's own. -/
theorem run_appT {w : World} {B : Nat} {v : Value} {l0 : List Tick} {A : Option Addr} {n c : Nat} {l : List Tick} (hown : RowG.Own encT TT w B v l0) (hR : Rd encT w (.slice A n c) l) (hn : n = l.length) (hl : (l0.length + n) * 16 ≤ 140737488355328) (hB : B ≤ w.heap.size) (ty : TypeId) :
    ∃ v' w', (Builtin.append_ #[TSl, TSl] ty #[v, .slice A n c]).run Try.prog w = .ok v' w' ∧ RowG.Own encT TT w' B v' (l0 ++ l) ∧ w.grownBy w' v.ownBlock := by
  obtain ⟨i, hi, hz, hs1, hby⟩ := info_parts infoT
  have hm : maxLen = 9223372036854775807 := rfl
  rcases A with _ | ad
  · obtain ⟨A', c', he, _, _, hne⟩ := hR
    injection he with h1 h2 h3
    subst h1
    have h0 : l = [] := by
      apply Classical.byContradiction
      intro q
      obtain ⟨b, o, hA, _⟩ := hne q
      cases hA
    subst h0
    have hn0 : n = 0 := hn
    subst hn0
    obtain ⟨A0, c0, rfl, hc0, hc1, _⟩ := hown.form rfl
    refine ⟨.slice A0 l0.length c0, w, ?_, by simpa using hown, World.grownBy.refl _ _⟩
    cases A0 <;> simp [Builtin.append_, run_underlying underS, sizeOf, typeInfo, hi, Builtin.lenOf, Builtin.firstCells, hc0, storeCells]
  · by_cases h0 : l = []
    · subst h0
      have hn0 : n = 0 := hn
      subst hn0
      obtain ⟨A0, c0, rfl, hc0, hc1, _⟩ := hown.form rfl
      refine ⟨.slice A0 l0.length c0, w, ?_, by simpa using hown, World.grownBy.refl _ _⟩
      cases A0 <;> simp [Builtin.append_, run_underlying underS, sizeOf, typeInfo, hi, Builtin.lenOf, Builtin.firstCells, storeCells, loadCells, loadCellsFrom, hc0]
    · obtain ⟨A', c', he, _, _, hne⟩ := hR
      injection he with h1 h2 h3
      subst h1
      obtain ⟨b, o, hA, hlt, hcs⟩ := hne h0
      injection hA with hA
      subst hA
      have hadd : ∀ k, (⟨b, o, none⟩ : Addr).add k = ⟨b, o + k, none⟩ := fun k => by unfold Addr.add; split <;> simp_all
      obtain ⟨v', w', hr, h2, h3, _, _⟩ := run_append_own_at (P := Try.prog) w B TSl ty TT i _ 2 16 underS hi hz hs1 hby rfl (by omega) v l0.length (flat encT l0) hown ⟨b, o, none⟩ n c (flat encT l) (by rw [flat_len, hn]; rfl) (fun j u hu => by
        rw [hadd]
        have hj : j < l.length * 2 := by
          have := (List.getElem?_eq_some_iff.1 hu).1
          rw [flat_len] at this
          exact this
        obtain ⟨x, hx⟩ : ∃ x, l[j / 2]? = some x := ⟨_, List.getElem?_eq_getElem (by omega)⟩
        have e : j = j / 2 * 2 + j % 2 := by omega
        have hg := flat_get (e := encT) (j := j % 2) hx (show j % 2 < 2 by omega)
        have hg2 : (flat encT l)[j]? = (encT.f x)[j % 2]? := by
          rw [← hg]
          congr 1
        rw [hg2] at hu
        have := hcs (j / 2) x hx (j % 2) u hu
        have e2 : o + j / 2 * encT.k + j % 2 = o + j := by
          show o + j / 2 * 2 + j % 2 = o + j
          omega
        rw [e2] at this
        exact this) (fun u hu => by
        obtain ⟨x, _, hx⟩ := List.mem_flatMap.1 hu
        exact encT.one x u hx) (by omega) (by omega) (by omega)
      refine ⟨v', w', hr, ?_, h3⟩
      unfold RowG.Own
      rw [flat_app, List.length_append, ← hn]
      exact h2
theorem wp_appT {w : World} {ops : Array Oper} {rest : List Oper} {o : Oper} {a : Act} {Q : Exit → Act → World → Prop} (hgd : o.guard = none) (s x : Operand) (ho : o.op = .call { callee := .builtin .append, args := #[s, x], argTypes := #[TSl, TSl] })
    {B : Nat} {v : Value} {l0 : List Tick} {A : Option Addr} {n c : Nat} {l : List Tick} (hs : a.eval s = v) (hx : a.eval x = .slice A n c) (hown : RowG.Own encT TT w B v l0) (hR : Rd encT w (.slice A n c) l) (hn : n = l.length) (hl : (l0.length + n) * 16 ≤ 140737488355328) (hB : B ≤ w.heap.size)
    (h : ∀ v' w', RowG.Own encT TT w' B v' (l0 ++ l) → w.grownBy w' v.ownBlock → wpList Try.prog ops Q rest (a.put o.dst v') w') : wpList Try.prog ops Q (o :: rest) a w := by
  refine wpList_plain hgd fun K hK => ?_
  obtain ⟨v', w', hr, h2, h3⟩ := run_appT hown hR hn hl hB o.type
  unfold Oper.wp execOp
  simp only [ho, resolve, invoke, builtin, Sem.run_bind, Sem.run_pure, Result.andThen_ok, List.map_toArray, List.map_cons, List.map_nil, hs, hx, hr]
  exact hK _ _ (h v' w' h2 h3)
theorem kadd (b o k : Nat) : (⟨b, o, none⟩ : Addr).add k = ⟨b, o + k, none⟩ := by unfold Addr.add; split <;> simp_all
theorem rd_take {w : World} {A : Option Addr} {n c : Nat} {l : List Tick} (h : Rd encT w (.slice A n c) l) (k : Nat) (hk : k ≤ l.length) : Rd encT w (.slice A k c) (l.take k) := by
  obtain ⟨A', c', he, h1, h2, hne⟩ := h
  injection he with e1 e2 e3
  subst e1 e3
  have hl : (l.take k).length = k := by rw [List.length_take]; omega
  refine ⟨A, c, by rw [hl], by rw [hl]; omega, h2, fun q => ?_⟩
  obtain ⟨b, o, hA, hlt, hcs⟩ := hne (fun e => q (by rw [e]; simp))
  refine ⟨b, o, hA, hlt, fun i x hx => hcs i x ?_⟩
  rw [List.getElem?_take] at hx
  split at hx
  · exact hx
  · cases hx
theorem rd_drop {w : World} {A : Option Addr} {n c : Nat} {l : List Tick} (h : Rd encT w (.slice A n c) l) (k : Nat) (hk : k ≤ l.length) : Rd encT w (.slice (if c = k then A else A.map (·.add (k * 2))) (n - k) (c - k)) (l.drop k) := by
  obtain ⟨A', c', he, h1, h2, hne⟩ := h
  injection he with e1 e2 e3
  subst e1 e2 e3
  refine ⟨_, c - k, by rw [List.length_drop], by rw [List.length_drop]; omega, by omega, fun q => ?_⟩
  obtain ⟨b, o, hA, hlt, hcs⟩ := hne (fun e => q (by rw [e]; simp))
  have hlk : k < l.length := by
    apply Classical.byContradiction
    intro hc
    exact q (List.drop_eq_nil_of_le (by omega))
  refine ⟨b, o + k * 2, by rw [if_neg (by omega), hA]; simp [kadd], hlt, fun i x hx j u hu => ?_⟩
  rw [List.getElem?_drop] at hx
  have := hcs (k + i) x hx j u hu
  rw [show o + k * 2 + i * encT.k + j = o + (k + i) * encT.k + j from by show o + k * 2 + i * 2 + j = o + (k + i) * 2 + j; omega]
  exact this
section
variable {w : World} {ops : Array Oper} {rest : List Oper} {o : Oper} {a : Act} {Q : Exit → Act → World → Prop}
/-- row[:n]. -/
theorem wp_uptoR (hgd : o.guard = none) (x y : Operand) (ho : o.op = .slice TSl x none (some y) none) {A : Option Addr} {L c n : Nat} {l : List Tick} (hx : a.eval x = .slice A L c) (hy : a.eval y = .int .i64 (n : Int)) (hR : Rd encT w (.slice A L c) l) (h1 : n ≤ l.length)
    (h : Rd encT w (.slice A n c) (l.take n) → wpList Try.prog ops Q rest (a.put o.dst (.slice A n c)) w) : wpList Try.prog ops Q (o :: rest) a w := by
  refine wpList_plain hgd fun K hK => ?_
  have e : (if c = 0 then A else A.map (·.add 0)) = A := by
    split
    · rfl
    · cases A <;> simp [Addr.add]
  have hlc : l.length ≤ c := by
    obtain ⟨_, _, he, h2, _⟩ := hR
    injection he with _ e2 e3
    omega
  unfold Oper.wp
  have h3 : (n : Int) ≤ c := by omega
  have h3n : n ≤ c := by omega
  obtain ⟨i, hi, _, hs, _⟩ := info_parts infoT
  have hr : (Instr.sliceAt TSl (.slice A L c) none (some (.int .i64 (n : Int))) none).run Try.prog w = .ok (.slice A n c) w := by
    simp [Instr.sliceAt, Instr.slice, run_underlying underS, Instr.sliceBounds, run_sliceBound, h3, h3n, e, Result.andThen, sizeOf, typeInfo, hi, hs, show encT.k = 2 from rfl]
  simp [execOp, ho, hx, hy, hr, Result.andThen]
  exact hK _ _ (h (rd_take hR n h1))
/-- row[k:]: at some address, of which is known what it holds. -/
theorem wp_fromR (hgd : o.guard = none) (x y : Operand) (ho : o.op = .slice TSl x (some y) none none) {A : Option Addr} {L c k : Nat} {l : List Tick} (hx : a.eval x = .slice A L c) (hy : a.eval y = .int .i64 (k : Int)) (hR : Rd encT w (.slice A L c) l) (h1 : k ≤ l.length)
    (h : ∀ A', Rd encT w (.slice A' (L - k) (c - k)) (l.drop k) → wpList Try.prog ops Q rest (a.put o.dst (.slice A' (L - k) (c - k))) w) : wpList Try.prog ops Q (o :: rest) a w := by
  refine wpList_plain hgd fun K hK => ?_
  have hL : L = l.length := by
    obtain ⟨_, _, he, h2, _⟩ := hR
    injection he
  unfold Oper.wp
  obtain ⟨i, hi, _, hs, _⟩ := info_parts infoT
  have h0 : (k : Int) ≤ L := by omega
  have h0n : k ≤ L := by omega
  have hr : (Instr.sliceAt TSl (.slice A L c) (some (.int .i64 (k : Int))) none none).run Try.prog w = .ok (.slice (if c = k then A else A.map (·.add (k * 2))) (L - k) (c - k)) w := by
    simp [Instr.sliceAt, Instr.slice, run_underlying underS, Instr.sliceBounds, run_sliceBound, h0, h0n, Result.andThen, sizeOf, typeInfo, hi, hs, show encT.k = 2 from rfl]
  simp [execOp, ho, hx, hy, hr, Result.andThen]
  exact hK _ _ (h _ (rd_drop hR k h1))
end

/-! ### Where an index stands -/
def plcL (a : Int) : List Tick → Nat
  | [] => 0
  | t :: r => if t.1 < a then plcL a r + 1 else 0
theorem plc_le (a : Int) : ∀ L : List Tick, plcL a L ≤ L.length
  | [] => Nat.le_refl _
  | t :: r => by
    rw [plcL]
    have := plc_le a r
    split <;> simp <;> omega
theorem plc_is {a : Int} : ∀ {L : List Tick} {i : Nat}, i ≤ L.length → (∀ j t, j < i → L[j]? = some t → t.1 < a) → (∀ t, L[i]? = some t → ¬ t.1 < a) → plcL a L = i
  | [], i, h, _, _ => by simp at h; simp [plcL, h]
  | t :: r, 0, h, _, h2 => by rw [plcL, if_neg (h2 t rfl)]
  | t :: r, i + 1, h, h1, h2 => by
    rw [plcL, if_pos (h1 0 t (by omega) rfl), plc_is (i := i) (by simpa using h) (fun j u hj hu => h1 (j + 1) u (by omega) (by simpa using hu)) (fun u hu => h2 u (by simpa using hu))]
theorem plc_due {a : Int} : ∀ {L : List Tick} {n : Int}, ChunkW.up n L → (dueL a L ≠ 0 → L[plcL a L]? = some (a, dueL a L)) ∧ (dueL a L = 0 → ∀ t, L[plcL a L]? = some t → t.1 ≠ a)
  | [], n, _ => ⟨fun h => absurd rfl h, fun _ t h => by simp at h⟩
  | t :: r, n, hu => by
    obtain ⟨h1, h2, h3, h4⟩ := hu
    obtain ⟨i1, i2⟩ := plc_due (a := a) h4
    rw [plcL, dueL]
    by_cases e : t.1 = a
    · rw [if_neg (show ¬ t.1 < a by omega), if_pos e]
      exact ⟨fun _ => by simp only [List.getElem?_cons_zero, ← e], fun h => by omega⟩
    · rw [if_neg e]
      by_cases hlt : t.1 < a
      · rw [if_pos hlt]
        exact ⟨fun h => by simpa using i1 h, fun h x hx => i2 h x (by simpa using hx)⟩
      · rw [if_neg hlt]
        refine ⟨fun h => absurd (due_up h4 (by omega)) h, fun _ x hx => ?_⟩
        have : t = x := by simpa using hx
        rw [← this]
        exact e
theorem put_plc_new {a d : Int} : ∀ {L : List Tick} {n : Int}, ChunkW.up n L → dueL a L = 0 → putL a d L = L.take (plcL a L) ++ [(a, d)] ++ L.drop (plcL a L)
  | [], n, _, _ => by simp [putL, plcL]
  | t :: r, n, hu, h => by
    obtain ⟨h1, h2, h3, h4⟩ := hu
    rw [dueL] at h
    by_cases e : t.1 = a
    · rw [if_pos e] at h
      omega
    · rw [if_neg e] at h
      rw [putL, if_neg e, plcL]
      by_cases hlt : t.1 < a
      · rw [if_neg (by omega), if_pos hlt, put_plc_new h4 h]
        simp
      · rw [if_pos (by omega), if_neg hlt]
        simp
theorem put_plc_old {a d : Int} : ∀ {L : List Tick} {n : Int}, ChunkW.up n L → dueL a L ≠ 0 → d < dueL a L → putL a d L = L.take (plcL a L) ++ [(a, d)] ++ L.drop (plcL a L + 1)
  | [], n, _, h, _ => absurd rfl h
  | t :: r, n, hu, h, hd => by
    obtain ⟨h1, h2, h3, h4⟩ := hu
    rw [dueL] at h hd
    by_cases e : t.1 = a
    · rw [if_pos e] at h hd
      rw [putL, if_pos e, if_pos hd, plcL, if_neg (by omega)]
      simp
    · rw [if_neg e] at h hd
      have hlt : t.1 < a := by
        apply Classical.byContradiction
        intro q
        exact h (due_up h4 (by omega))
      rw [putL, if_neg e, if_neg (by omega), plcL, if_pos hlt, put_plc_old h4 h hd]
      simp
theorem del_plc {a : Int} : ∀ {L : List Tick} {n : Int}, ChunkW.up n L → dueL a L ≠ 0 → delL a L = L.take (plcL a L) ++ L.drop (plcL a L + 1)
  | [], n, _, h => absurd rfl h
  | t :: r, n, hu, h => by
    obtain ⟨h1, h2, h3, h4⟩ := hu
    rw [dueL] at h
    by_cases e : t.1 = a
    · rw [delL, if_pos e, plcL, if_neg (by omega)]
      simp
    · rw [if_neg e] at h
      have hlt : t.1 < a := by
        apply Classical.byContradiction
        intro q
        exact h (due_up h4 (by omega))
      rw [delL, if_neg e, plcL, if_pos hlt, del_plc h4 h]
      simp
/-! ### The reference's queue -/
abbrev TRQ : TypeId := 37
def RQ (w : World) (rb : Nat) (L : List Tick) (T : Nat → Prop) : Prop := ∃ v, Blk w rb TRQ [v] ∧ RowG.Own encT TT w 0 v L ∧ Good L ∧ ∀ k, T k ↔ (k = rb ∨ v.ownBlock = some k)
def RTurned (w : World) (rb : Nat) (T : Nat → Prop) (L' : List Tick) (w' : World) : Prop := ∃ T', RQ w' rb L' T' ∧ Fr (fun k => k = rb) w w' ∧ ∀ k, T' k → T k ∨ w.heap.size ≤ k
section
variable {w w' : World} {rb : Nat} {L : List Tick} {S T : Nat → Prop}
theorem RQ.fr (h : RQ w rb L T) (hf : Fr S w w') (hd : ∀ k, T k → ¬ S k) : RQ w' rb L T := by
  obtain ⟨v, h1, h2, h3, h4⟩ := h
  exact ⟨v, hf.blk h1 (hd _ ((h4 _).2 (.inl rfl))), hf.own h2 (fun g hg => hd _ ((h4 _).2 (.inr hg))), h3, h4⟩
theorem RQ.below (h : RQ w rb L T) (hb : Below w.heap.size w w') : RQ w' rb L T := h.fr (Fr.below (fun _ => False) hb) (fun _ _ q => q)
theorem RQ.lt (h : RQ w rb L T) {k : Nat} (hk : T k) : k < w.heap.size := by
  obtain ⟨v, h1, h2, h3, h4⟩ := h
  rcases (h4 k).1 hk with rfl | q
  · exact h1.lt
  · exact (h2.ge k q).2
theorem RQ.self (h : RQ w rb L T) : T rb := by
  obtain ⟨v, h1, h2, h3, h4⟩ := h
  exact (h4 _).2 (.inl rfl)
theorem RQ.good (h : RQ w rb L T) : Good L := by
  obtain ⟨v, h1, h2, h3, h4⟩ := h
  exact h3
theorem RTurned.same (h : RQ w rb L T) (hb : Below w.heap.size w w') : RTurned w rb T L w' := ⟨T, h.below hb, Fr.below _ hb, fun _ hk => .inl hk⟩
end
end QueW
end Go.Proofs.Ytlhanbjendbhfaa
