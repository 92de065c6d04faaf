/-
  Rows of cells that a law makes, fills or copies.
-/
import Derived.Test.YtbkadecfmjjadaaDoorGlowWorks
namespace Go.Proofs.YtbkadecfmjjadaaDoor
open Go.RowKit
set_option linter.unusedVariables false
set_option linter.unusedSimpArgs false
namespace GlowW
open BlkP RowG KindP KindW
theorem infoCell : (Tryd.prog.info? 32).map (fun i => (i.zero, i.size, i.bytes)) = some (some (.agg #[.int .u8 0, .int .u8 0]), 2, 2) := by kernel_rfl
theorem underCells : Tryd.prog.underlying 22 = some (.slice 32) := by kernel_rfl
theorem flat_rep (n : Nat) : flat enc2 (List.replicate n (0, 0)) = List.replicate (n * 2) (.int .u8 0) := by
  induction n with
  | zero => rfl
  | succ n ih =>
    have h : flat enc2 (List.replicate (n + 1) (0, 0)) = enc2.f (0, 0) ++ flat enc2 (List.replicate n (0, 0)) := rfl
    rw [h, ih, Nat.succ_mul, List.replicate_succ, List.replicate_succ]
    rfl
theorem rd_blk {w : World} {g n : Nat} {l : List (Nat × Nat)} (h : Blk w g 32 (flat enc2 l)) (hn : n = l.length) (hn2 : n ≤ 9223372036854775807) : Rd enc2 w (.slice (some ⟨g, 0, none⟩) n n) l := by
  subst hn
  refine ⟨some ⟨g, 0, none⟩, l.length, rfl, Nat.le_refl _, hn2, fun _ => ⟨g, 0, rfl, h.lt, fun i x hx j u hu => ?_⟩⟩
  have hj : j < enc2.k := by
    rw [← enc2.len x]
    exact (List.getElem?_eq_some_iff.1 hu).1
  rw [Nat.zero_add]
  exact h.cell ((flat_get hx hj).trans hu)
theorem rd_newG {w : World} {g n : Nat} {l : List (Nat × Nat)} {c : Array Value} (hg : g = w.heap.size) (hc : c.toList = flat enc2 l) (hn : n = l.length) (hn2 : n ≤ 9223372036854775807) : Rd enc2 (w.alloc (.cells c 32)) (.slice (some ⟨g, 0, none⟩) n n) l := by
  subst hg
  exact rd_new hc hn hn2
theorem wp_makeC (w : World) {ops : Array Oper} {rest : List Oper} {o : Oper} {a : Act} {Q : Exit → Act → World → Prop} (hg : o.guard = none) (l c : Operand) (hop : o.op = Op.makeSlice 22 l c) (n : Nat) (hl : a.eval l = .int .i64 n) (hc : a.eval c = .int .i64 n) (hn : n ≤ 1000000)
    (h : ∀ w', Blk w' w.heap.size 32 (flat enc2 (List.replicate n (0, 0))) → Below w.heap.size w w' → wpList Tryd.prog ops Q rest (a.put o.dst (.slice (some ⟨w.heap.size, 0, none⟩) n n)) w') : wpList Tryd.prog ops Q (o :: rest) a w := by
  obtain ⟨i, hi, hz, hs1, hby⟩ := info_parts infoCell
  refine wpList_plain hg fun K hK' => ?_
  have hr := run_make (P := Tryd.prog) w 22 32 i _ underCells hi hz .i64 .i64 n n (by omega) (Int.le_refl _) (by rw [hby]; omega) (by omega)
  unfold Oper.wp
  simp [execOp, hop, hl, hc, hr, Result.andThen]
  refine hK' _ _ (h _ ?_ ((Below.refl _ _).alloc (Nat.le_refl _) _))
  have e := made2 (.int .u8 0) n
  rw [hs1, flat_rep]
  exact Blk.newA' rfl e
/-- append(nil, b.Cells..): a copy, of the law's own. -/
theorem run_copyC {w : World} {A : Option Addr} {n c : Nat} {l : List (Nat × Nat)} (hR : Rd enc2 w (.slice A n c) l) (hn : n = l.length) (hl : n ≤ 1000000) (ty : TypeId) :
    ∃ v' w', (Builtin.append_ #[22, 22] ty #[.slice none 0 0, .slice A n c]).run Tryd.prog w = .ok v' w' ∧ RowG.Own enc2 32 w' w.heap.size v' l ∧ Below w.heap.size w w' := by
  obtain ⟨i, hi, hz, hs1, hby⟩ := info_parts infoCell
  have hm : maxLen = 9223372036854775807 := rfl
  rcases A with _ | ad
  · obtain ⟨A', c', he, _, _, hne⟩ := hR
    injection he with h1 h2 h3
    subst h1
    have h0 : l = [] := by
      apply Classical.byContradiction
      intro q
      obtain ⟨b, o, hA, _⟩ := hne q
      cases hA
    subst h0
    have hn0 : n = 0 := hn
    subst hn0
    refine ⟨.slice none 0 0, w, ?_, Own.nil _ _ _ _, Below.refl _ _⟩
    simp [Builtin.append_, run_underlying underCells, sizeOf, typeInfo, hi, Builtin.lenOf, Builtin.firstCells]
  · by_cases h0 : l = []
    · subst h0
      have hn0 : n = 0 := hn
      subst hn0
      refine ⟨.slice none 0 0, w, ?_, Own.nil _ _ _ _, Below.refl _ _⟩
      simp [Builtin.append_, run_underlying underCells, sizeOf, typeInfo, hi, Builtin.lenOf, Builtin.firstCells, storeCells, loadCells, loadCellsFrom]
    · obtain ⟨A', c', he, _, _, hne⟩ := hR
      injection he with h1 h2 h3
      subst h1
      obtain ⟨b, o, hA, hlt, hcs⟩ := hne h0
      injection hA with hA
      subst hA
      have hadd : ∀ k, (⟨b, o, none⟩ : Addr).add k = ⟨b, o + k, none⟩ := fun k => by unfold Addr.add; split <;> simp_all
      obtain ⟨v', w', hr, h2, h3, _, _⟩ := run_append_own_at (P := Tryd.prog) w w.heap.size 22 ty 32 i _ 2 2 underCells hi hz hs1 hby rfl (by omega) (.slice none 0 0) 0 [] (World.ownsRow_nil _ _ _ _) ⟨b, o, none⟩ n c (flat enc2 l) (by rw [flat_len, hn]; rfl) (fun j u hu => by
        rw [hadd]
        have hj : j < l.length * 2 := by
          have := (List.getElem?_eq_some_iff.1 hu).1
          rw [flat_len] at this
          exact this
        obtain ⟨x, hx⟩ : ∃ x, l[j / 2]? = some x := ⟨_, List.getElem?_eq_getElem (by omega)⟩
        have e : j = j / 2 * 2 + j % 2 := by omega
        have hg := flat_get (e := enc2) (j := j % 2) hx (show j % 2 < 2 by omega)
        have hg2 : (flat enc2 l)[j]? = (enc2.f x)[j % 2]? := by
          rw [← hg]
          congr 1
        rw [hg2] at hu
        have := hcs (j / 2) x hx (j % 2) u hu
        have e2 : o + j / 2 * enc2.k + j % 2 = o + j := by
          show o + j / 2 * 2 + j % 2 = o + j
          omega
        rw [e2] at this
        exact this) (fun u hu => by
        obtain ⟨x, _, hx⟩ := List.mem_flatMap.1 hu
        exact enc2.one x u hx) (by omega) (by omega) (by omega)
      refine ⟨v', w', hr, ?_, (Below.refl _ _).grown h3 (by omega) (fun k hk => by cases hk)⟩
      unfold RowG.Own
      rw [Nat.zero_add, List.nil_append] at h2
      rw [← hn]
      exact h2
theorem wp_copyC {w : World} {ops : Array Oper} {rest : List Oper} {o : Oper} {a : Act} {Q : Exit → Act → World → Prop} (hgd : o.guard = none) (s x : Operand) (ho : o.op = .call { callee := .builtin .append, args := #[s, x], argTypes := #[22, 22] })
    {A : Option Addr} {n c : Nat} {l : List (Nat × Nat)} (hs : a.eval s = .slice none 0 0) (hx : a.eval x = .slice A n c) (hR : Rd enc2 w (.slice A n c) l) (hn : n = l.length) (hl : n ≤ 1000000)
    (h : ∀ v' w', RowG.Own enc2 32 w' w.heap.size v' l → Below w.heap.size w w' → wpList Tryd.prog ops Q rest (a.put o.dst v') w') : wpList Tryd.prog ops Q (o :: rest) a w := by
  refine wpList_plain hgd fun K hK => ?_
  obtain ⟨v', w', hr, h2, h3⟩ := run_copyC hR hn hl o.type
  unfold Oper.wp execOp
  simp only [ho, resolve, invoke, builtin, Sem.run_bind, Sem.run_pure, Result.andThen_ok, List.map_toArray, List.map_cons, List.map_nil, hs, hx, hr]
  exact hK _ _ (h v' w' h2 h3)
end GlowW
end Go.Proofs.YtbkadecfmjjadaaDoor
