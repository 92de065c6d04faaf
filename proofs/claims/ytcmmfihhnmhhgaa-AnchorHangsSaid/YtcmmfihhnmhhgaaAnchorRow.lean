/-
  Rows of spots: row[k:] as a value; copy within a row; a spot that is stored; spots held against each other.
-/
import Derived.Laws.CopyOwn
import Derived.Deep.RegionLaw
import Derived.Test.YtcmmfihhnmhhgaaAnchorSpots
namespace Go.Proofs.Ytcmmfihhnmhhgaa
open Go.RowKit
set_option linter.unusedVariables false
set_option linter.unusedSimpArgs false
namespace AncW
open BlkP RowG FrS PushG AncP
/-- row[k:] -/
def cutV (g n c k : Nat) : Value := .slice (if c = k then some ⟨g, 0, none⟩ else some ⟨g, k * 3, none⟩) (n - k) (c - k)
theorem kadd (b o k : Nat) : (⟨b, o, none⟩ : Addr).add k = ⟨b, o + k, none⟩ := by unfold Addr.add; split <;> simp_all
theorem run_cutS (w : World) {g n c k : Nat} (h : k ≤ n) (hc : n ≤ c) : (Instr.sliceAt TSS (.slice (some ⟨g, 0, none⟩) n c) (some (.int .i64 (k : Int))) none none).run Try.prog w = .ok (cutV g n c k) w := by
  obtain ⟨i, hi, _, hs, _⟩ := info_parts infoS
  have h0 : (k : Int) ≤ n := by omega
  have e : (if c = k then some (⟨g, 0, none⟩ : Addr) else some ((⟨g, 0, none⟩ : Addr).add (k * 3))) = (if c = k then some ⟨g, 0, none⟩ else some ⟨g, k * 3, none⟩) := by rw [kadd, Nat.zero_add]
  simp [Instr.sliceAt, Instr.slice, run_underlying underSS, Instr.sliceBounds, run_sliceBound, h, h0, Result.andThen, sizeOf, typeInfo, hi, hs, cutV, kadd]
theorem run_eqS (w : World) (p q : V) {r : Bool} (h : decide (p = q) = r) : (binOp .eql TS (.agg #[.int .i64 p.1, .int .i64 p.2.1, .int .i64 p.2.2]) (.agg #[.int .i64 q.1, .int .i64 q.2.1, .int .i64 q.2.2])).run Try.prog w = .ok (.bool r) w := by
  subst h
  have he : (Op.equal TS (.agg #[.int .i64 p.1, .int .i64 p.2.1, .int .i64 p.2.2]) (.agg #[.int .i64 q.1, .int .i64 q.2.1, .int .i64 q.2.2])).run Try.prog w = .ok (decide (p = q)) w := run_eqV w 9998 p q
  simp only [binOp, Sem.run_bind, he, Result.andThen_ok, Sem.run_pure]
theorem run_neS (w : World) (p q : V) {r : Bool} (h : decide (p = q) = r) : (binOp .neq TS (.agg #[.int .i64 p.1, .int .i64 p.2.1, .int .i64 p.2.2]) (.agg #[.int .i64 q.1, .int .i64 q.2.1, .int .i64 q.2.2])).run Try.prog w = .ok (.bool !r) w := by
  subst h
  have he : (Op.equal TS (.agg #[.int .i64 p.1, .int .i64 p.2.1, .int .i64 p.2.2]) (.agg #[.int .i64 q.1, .int .i64 q.2.1, .int .i64 q.2.2])).run Try.prog w = .ok (decide (p = q)) w := run_eqV w 9998 p q
  simp only [binOp, Sem.run_bind, he, Result.andThen_ok, Sem.run_pure]
theorem flat_take (l : List V) (i : Nat) : (flat encS l).take (i * 3) = flat encS (l.take i) := by
  apply List.ext_getElem?
  intro j
  have h1 : (flat encS l).length = l.length * 3 := flat_len l
  have h2 : (flat encS (l.take i)).length = (min i l.length) * 3 := by rw [flat_len, List.length_take]; rfl
  by_cases hj : j < i * 3
  · rw [List.getElem?_take_of_lt hj]
    by_cases hl : j < l.length * 3
    · have hi : j / 3 < l.length := Nat.div_lt_of_lt_mul (by omega)
      have a1 := flat_get (e := encS) (l := l) (i := j / 3) (j := j % 3) (List.getElem?_eq_getElem hi) (Nat.mod_lt _ (by decide))
      have a2 := flat_get (e := encS) (l := l.take i) (i := j / 3) (j := j % 3) (x := l[j / 3]) (by rw [List.getElem?_take_of_lt (by omega), List.getElem?_eq_getElem hi]) (Nat.mod_lt _ (by decide))
      have e : j / 3 * encS.k + j % 3 = j := by
        show j / 3 * 3 + j % 3 = j
        omega
      rw [e] at a1 a2
      rw [a1, a2]
    · rw [List.getElem?_eq_none (by omega), List.getElem?_eq_none (by omega)]
  · rw [List.getElem?_take_eq_none (by omega), List.getElem?_eq_none (by omega)]
section
variable {w : World} {B g n c i : Nat} {L : List V}
theorem own_parts (h : RowG.Own encS TS w B (.slice (some ⟨g, 0, none⟩) n c) L) : L.length = n ∧ B ≤ g ∧ n ≤ c ∧ c ≤ 9223372036854775807 ∧ ∃ cur : Array Value, w.heap[g]? = some (.cells cur TS (0, 0)) ∧ cur.size = c * 3 ∧ cur.toList.take (n * 3) = flat encS L := by
  unfold RowG.Own at h
  rcases h.2 with ⟨h0, _⟩ | ⟨g', cap, cur, h0, hB, hg, hn, hc, hs, ht⟩
  · cases h0
  · injection h0 with h0 h1 h2
    injection h0 with h0
    injection h0 with h0
    subst h0 h1 h2
    exact ⟨rfl, hB, hn, hc, cur, hg, hs, ht⟩
theorem own_make {cur : Array Value} (hB : B ≤ g) (hL : L.length = n) (hn : n ≤ c) (hc : c ≤ 9223372036854775807) (hg : w.heap[g]? = some (.cells cur TS (0, 0))) (hs : cur.size = c * 3) (ht : cur.toList.take (n * 3) = flat encS L) : RowG.Own encS TS w B (.slice (some ⟨g, 0, none⟩) n c) L := by
  subst hL
  unfold RowG.Own
  exact ⟨flat_len L, .inr ⟨g, c, cur, rfl, hB, hg, hn, hc, hs, ht⟩⟩
/-- What copy(row[i+1:], row[i:]) makes of the row. -/
def slid (L : List V) (n i : Nat) : List V := L.take (i + 1) ++ (L.drop i).take (n - i)
theorem slid_len (h : L.length = n + 1) (hi : i ≤ n) : (slid L n i).length = n + 1 := by
  unfold slid
  rw [List.length_append, List.length_take, List.length_take, List.length_drop]
  omega
theorem slid_set {l : List V} {z s : V} (h : l.length = n) (hi : i ≤ n) : (slid (l ++ [z]) n i).set i s = l.take i ++ s :: l.drop i := by
  have e : (List.drop i (l ++ [z])).take (n - i) = l.drop i := by
    rw [List.drop_append_of_le_length (by omega), List.take_append_of_le_length (by rw [List.length_drop]; omega), List.take_of_length_le (by rw [List.length_drop]; omega)]
  unfold slid
  rw [e]
  by_cases hin : i = n
  · subst hin
    rw [List.take_of_length_le (by rw [List.length_append, h]; exact Nat.le_refl _), List.take_of_length_le (by omega), List.drop_eq_nil_of_le (by omega)]
    apply List.ext_getElem?
    intro j
    simp only [List.append_nil, List.getElem?_set, List.length_append, List.length_singleton, List.getElem?_append]
    by_cases h1 : i = j
    · subst h1
      simp [h]
    · by_cases h2 : j < l.length
      · simp [h1, h2]
      · rw [if_neg h1, if_neg h2, if_neg h2, List.getElem?_eq_none (by simp; omega), List.getElem?_eq_none (by simp; omega)]
  · rw [List.take_append_of_le_length (by omega), List.set_append_left _ _ (by rw [List.length_take]; omega), List.take_add_one, List.getElem?_eq_getElem (show i < l.length by omega), Option.toList_some]
    rw [List.set_append_right _ _ (by rw [List.length_take]; omega), List.length_take]
    rw [show i - min i l.length = 0 by omega]
    simp
theorem run_copyS (h : RowG.Own encS TS w B (.slice (some ⟨g, 0, none⟩) (n + 1) c) L) (hi : i ≤ n) (ty : TypeId) : ∃ w', (Builtin.copy_ #[TSS, TSS] ty #[cutV g (n + 1) c (i + 1), cutV g (n + 1) c i]).run Try.prog w = .ok (goInt ((n - i : Nat) : Int)) w' ∧ RowG.Own encS TS w' B (.slice (some ⟨g, 0, none⟩) (n + 1) c) (slid L n i) ∧ w.grownBy w' (some g) := by
  obtain ⟨hL, hB, hn, hc, cur, hg, hs, ht⟩ := own_parts h
  obtain ⟨inf, hinf, _, hsz, _⟩ := info_parts infoS
  have hmin : Nat.min (n + 1 - i) (n + 1 - (i + 1)) = n - i := by simp only [Nat.min_def]; split <;> omega
  by_cases h0 : i = n
  · subst h0
    refine ⟨w, ?_, ?_, World.grownBy.refl _ _⟩
    · have e : i + 1 - i = 1 := by omega
      by_cases hc1 : c = i + 1
      · have hne : ¬ c = i := by omega
        simp [cutV, Builtin.copy_, run_underlying underSS, Builtin.lenOf, Builtin.firstCells, sizeOf, typeInfo, hinf, hsz, loadCells, loadCellsFrom, storeCells, hc1, Result.andThen, e]
      · have hne : ¬ c = i := by omega
        simp [cutV, Builtin.copy_, run_underlying underSS, Builtin.lenOf, Builtin.firstCells, sizeOf, typeInfo, hinf, hsz, loadCells, loadCellsFrom, storeCells, hc1, hne, Result.andThen, e]
    · have e : slid L i i = L := by
        unfold slid
        rw [Nat.sub_self, List.take_zero, List.append_nil, List.take_of_length_le (by omega)]
      rw [e]
      exact h
  · have hd : cutV g (n + 1) c (i + 1) = .slice (some ⟨g, (i + 1) * 3, none⟩) (n - i) (c - (i + 1)) := by
      unfold cutV
      rw [if_neg (by omega), show n + 1 - (i + 1) = n - i by omega]
    have hsv : cutV g (n + 1) c i = .slice (some ⟨g, i * 3, none⟩) (n + 1 - i) (c - i) := by
      unfold cutV
      rw [if_neg (by omega)]
    obtain ⟨cs, hcs⟩ : ∃ cs, flat encS ((L.drop i).take (n - i)) = cs := ⟨_, rfl⟩
    have hcl : cs.length = (n - i) * 3 := by rw [← hcs, flat_len, List.length_take, List.length_drop]; show min (n - i) _ * 3 = _; rw [Nat.min_eq_left (by omega)]
    have hsrc : ∀ j v, cs[j]? = some v → w.cell? ((⟨g, i * 3, none⟩ : Addr).add j) = some v := by
      intro j v hv
      have hj : j < (n - i) * 3 := by
        rw [← hcl]
        exact (List.getElem?_eq_some_iff.1 hv).1
      rw [kadd]
      have hq : j / 3 < ((L.drop i).take (n - i)).length := by
        rw [List.length_take, List.length_drop]
        have : j / 3 < n - i := Nat.div_lt_of_lt_mul (by omega)
        omega
      have a1 := flat_get (e := encS) (l := (L.drop i).take (n - i)) (i := j / 3) (j := j % 3) (List.getElem?_eq_getElem hq) (Nat.mod_lt _ (by decide))
      have e : j / 3 * encS.k + j % 3 = j := by
        show j / 3 * 3 + j % 3 = j
        omega
      rw [e, hcs, hv] at a1
      have hx : L[i + j / 3]? = some (((L.drop i).take (n - i))[j / 3]) := by
        have h1 : ((L.drop i).take (n - i))[j / 3]? = some (((L.drop i).take (n - i))[j / 3]) := List.getElem?_eq_getElem hq
        rw [List.getElem?_take, List.getElem?_drop] at h1
        split at h1
        · exact h1
        · cases h1
      have := h.cell hx a1.symm
      rw [show (i + j / 3) * encS.k + j % 3 = i * 3 + j from by show (i + j / 3) * 3 + j % 3 = _; omega] at this
      exact this
    have hfit : (i + 1) * 3 + 0 + cs.length ≤ cur.size := by
      rw [hcl, hs]
      omega
    have hl := run_loadCells_list (P := Try.prog) w ⟨g, i * 3, none⟩ cs hsrc
    have hst := run_storeCells_at Try.prog g ((i + 1) * 3) TS cs 0 cur w hg hfit (by
      intro v hv
      rw [← hcs] at hv
      obtain ⟨x, _, hx⟩ := List.mem_flatMap.1 hv
      exact encS.one x v hx)
    rw [hcl] at hl
    refine ⟨w.setRow g (cur.toList.take ((i + 1) * 3) ++ cs ++ cur.toList.drop ((i + 1) * 3 + cs.length)).toArray, ?_, ?_, grown_row w g _⟩
    · rw [hd, hsv]
      simp only [Nat.add_zero] at hst
      simp [Builtin.copy_, run_underlying underSS, Builtin.lenOf, Builtin.firstCells, sizeOf, typeInfo, hinf, hsz, hmin, hl, hst, Result.andThen, show min (n + 1 - i) (n - i) = n - i by omega]
    · have hlen : (cur.toList.take ((i + 1) * 3)).length = (i + 1) * 3 := by
        rw [List.length_take, Array.length_toList, hs, Nat.min_eq_left (Nat.mul_le_mul_right 3 (by omega))]
      refine own_make hB (slid_len hL hi) hn hc (setRow_heap w g cur _ TS _ hg) ?_ ?_
      · rw [List.size_toArray, List.length_append, List.length_append, hlen, hcl, List.length_drop, Array.length_toList, hs]
        have := Nat.mul_le_mul_right 3 hn
        omega
      · rw [List.append_assoc]
        have e1 : cur.toList.take ((i + 1) * 3) = flat encS (L.take (i + 1)) := by
          rw [← flat_take, ← ht, List.take_take, Nat.min_eq_left (Nat.mul_le_mul_right 3 (by omega))]
        have e2 : (n + 1) * 3 = (flat encS (L.take (i + 1)) ++ cs).length := by
          rw [List.length_append, ← e1, hlen, hcl]
          omega
        rw [e1, ← List.append_assoc, e2, List.take_append_of_le_length (Nat.le_refl _), List.take_of_length_le (Nat.le_refl _), ← hcs]
        unfold slid
        rw [flat_app]
end
section
variable {ops : Array Oper} {o : Oper} {a : Act} {Q : Exit → Act → World → Prop} {W : World}
/-- copy(row[i+1:], row[i:]) as one operation of a region. -/
theorem step_copyS {K : Act → World → Prop} {E : Prop} (hgd : o.guard = none) (d s : Operand) (ho : o.op = .call { callee := .builtin .copy, args := #[d, s], argTypes := #[TSS, TSS] }) {B g n c i : Nat} {L : List V}
    (hown : RowG.Own encS TS W B (.slice (some ⟨g, 0, none⟩) (n + 1) c) L) (hi : i ≤ n) (hd : a.eval d = cutV g (n + 1) c (i + 1)) (hs : a.eval s = cutV g (n + 1) c i)
    (h : ∀ w', RowG.Own encS TS w' B (.slice (some ⟨g, 0, none⟩) (n + 1) c) (slid L n i) → W.grownBy w' (some g) → K (a.put o.dst (goInt ((n - i : Nat) : Int))) w') : if Region.wanted o (yielded ops a.tmps) = true then Oper.wp Try.prog o a W K Q else E := by
  have hw : Region.wanted o (yielded ops a.tmps) = true := by simp [Region.wanted, hgd]
  rw [if_pos hw]
  obtain ⟨w', hr, h2, h3⟩ := run_copyS hown hi o.type
  unfold Oper.wp execOp
  simp only [ho, resolve, invoke, builtin, Sem.run_bind, Sem.run_pure, Result.andThen_ok, List.map_toArray, List.map_cons, List.map_nil, hs, hd, hr]
  exact h w' h2 h3
end
/-- A spot is stored in a row. -/
theorem own_put {w : World} {B g n c i : Nat} {l : List V} {x y : V} (h : RowG.Own encS TS w B (.slice (some ⟨g, 0, none⟩) n c) l) (hx : l[i]? = some x) :
    RowG.Own encS TS (((w.setCell ⟨g, i * 3, none⟩ (.int .i64 y.1)).setCell ⟨g, i * 3 + 1, none⟩ (.int .i64 y.2.1)).setCell ⟨g, i * 3 + 2, none⟩ (.int .i64 y.2.2)) B (.slice (some ⟨g, 0, none⟩) n c) (l.set i y) ∧ w.grownBy (((w.setCell ⟨g, i * 3, none⟩ (.int .i64 y.1)).setCell ⟨g, i * 3 + 1, none⟩ (.int .i64 y.2.1)).setCell ⟨g, i * 3 + 2, none⟩ (.int .i64 y.2.2)) (some g) := by
  have hi := (List.getElem?_eq_some_iff.1 hx).1
  obtain ⟨h1, g1⟩ := Own.store (j := 0) (y := (y.1, x.2.1, x.2.2)) (u := .int .i64 y.1) h hx (by decide) rfl
  obtain ⟨h2, g2⟩ := Own.store (i := i) (j := 1) (x := (y.1, x.2.1, x.2.2)) (y := (y.1, y.2.1, x.2.2)) (u := .int .i64 y.2.1) h1 (by simp [hi]) (by decide) rfl
  obtain ⟨h3, g3⟩ := Own.store (i := i) (j := 2) (x := (y.1, y.2.1, x.2.2)) (y := y) (u := .int .i64 y.2.2) h2 (by simp [hi]) (by decide) rfl
  rw [List.set_set, List.set_set] at h3
  exact ⟨h3, (g1.trans g2).trans g3⟩
end AncW
end Go.Proofs.Ytcmmfihhnmhhgaa
