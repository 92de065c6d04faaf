/-
  How many cells a box that came in can have; a copy of them, however many.
-/
import Derived.Test.YtbkadecfmjjadaaDoorGlowCells
import Derived.Test.YtbkadecfmjjadaaDoorGlowOpen
import Derived.SizedLaws
namespace Go.Proofs.YtbkadecfmjjadaaDoor
open Go.ChangeShapes Go.WideShapes Go.ChangeAt Go.RowKit Go.Deep
set_option linter.unusedVariables false
set_option linter.unusedSimpArgs false
namespace GlowW
open BlkP RowG KindP KindW
section
variable {H : Type} {enc : TypeId × Value → H} {W : World}
theorem box_sized {X Y Z : Int} {A : Option Addr} {n c : Nat} {d : DataW H} {p : List MemPlace} {ts : List TypeId} {ds : List (DataW H)} (h : DataW.Trod enc Tryd.prog W 0 (fun _ => true) true 24 (.agg #[.int .i64 X, .int .i64 Y, .int .i64 Z, .slice A n c]) d p)
    (hsz : (DataW.weightsEach Tryd.prog (24 :: ts) (d :: ds)).all (· ≤ reachBytes) = true) : n * 2 ≤ 140737488355328 := by
  obtain ⟨fuel, hf⟩ := h
  obtain ⟨ys, n', _, hx, _, hyl, hg⟩ := DataW.trod_struct (cs := [.int .i64 X, .int .i64 Y, .int .i64 Z, .slice A n c]) Tryd.underlying24 hf
  injection hx with hd _
  have hyl2 : ys.length = 4 := hyl
  have h3 := hg 3 _ rfl
  rw [List.getElem?_eq_getElem (by omega)] at h3
  have z0 : Tryd.prog.cellsOf 22 = 1 := by kernel_rfl
  have zb : Tryd.prog.bytesOf 32 = 2 := by kernel_rfl
  rcases DataW.trod_slice (cs := [.slice A n c]) Tryd.underlying22 (by simpa [z0] using h3) with ⟨h0, _⟩ | ⟨a, len, cap, elems, rest, m, _, hcs, he, _, _, _, hl, _⟩
  · injection h0 with h0 _
    injection h0 with _ h0 _
    omega
  · injection hcs with hcs _
    injection hcs with _ hn _
    have hy : (ys.map (·.1))[3]? = some (DataW.slice (elems.map (·.1)) (rest.map (·.1))) := by
      rw [List.getElem?_map, List.getElem?_eq_getElem (by omega)]
      have := congrArg Prod.fst he
      simpa using this
    have hmem : ((elems.map (·.1)).length + (rest.map (·.1)).length) * Tryd.prog.bytesOf 32 ∈ DataW.weights Tryd.prog 24 d := by
      rw [hd]
      unfold DataW.weights
      rw [Tryd.underlying24]
      exact DataW.weights_mem_each (j := 3) (t := 22) rfl hy _ (by unfold DataW.weights; rw [Tryd.underlying22]; simp)
    have hall := List.all_eq_true.1 hsz _ (DataW.weights_mem_each (j := 0) rfl rfl _ hmem)
    rw [zb, List.length_map, List.length_map] at hall
    have hr := reachBytes_lt
    simp only [decide_eq_true_eq] at hall
    omega
end
theorem run_copyB {w : World} {A : Option Addr} {n c : Nat} {l : List (Nat × Nat)} (hR : Rd enc2 w (.slice A n c) l) (hn : n = l.length) (hl : n * 2 ≤ 140737488355328) (ty : TypeId) :
    ∃ v' w', (Builtin.append_ #[22, 22] ty #[.slice none 0 0, .slice A n c]).run Tryd.prog w = .ok v' w' ∧ RowG.Own enc2 32 w' w.heap.size v' l ∧ Below w.heap.size w w' := by
  obtain ⟨i, hi, hz, hs1, hby⟩ := info_parts infoCell
  have hm : maxLen = 9223372036854775807 := rfl
  rcases A with _ | ad
  · obtain ⟨A', c', he, _, _, hne⟩ := hR
    injection he with h1 h2 h3
    subst h1
    have h0 : l = [] := by
      apply Classical.byContradiction
      intro q
      obtain ⟨b, o, hA, _⟩ := hne q
      cases hA
    subst h0
    have hn0 : n = 0 := hn
    subst hn0
    refine ⟨.slice none 0 0, w, ?_, Own.nil _ _ _ _, Below.refl _ _⟩
    simp [Builtin.append_, run_underlying underCells, sizeOf, typeInfo, hi, Builtin.lenOf, Builtin.firstCells]
  · by_cases h0 : l = []
    · subst h0
      have hn0 : n = 0 := hn
      subst hn0
      refine ⟨.slice none 0 0, w, ?_, Own.nil _ _ _ _, Below.refl _ _⟩
      simp [Builtin.append_, run_underlying underCells, sizeOf, typeInfo, hi, Builtin.lenOf, Builtin.firstCells, storeCells, loadCells, loadCellsFrom]
    · obtain ⟨A', c', he, _, _, hne⟩ := hR
      injection he with h1 h2 h3
      subst h1
      obtain ⟨b, o, hA, hlt, hcs⟩ := hne h0
      injection hA with hA
      subst hA
      have hadd : ∀ k, (⟨b, o, none⟩ : Addr).add k = ⟨b, o + k, none⟩ := fun k => by unfold Addr.add; split <;> simp_all
      obtain ⟨v', w', hr, h2, h3, _, _⟩ := run_append_own_at (P := Tryd.prog) w w.heap.size 22 ty 32 i _ 2 2 underCells hi hz hs1 hby rfl (by omega) (.slice none 0 0) 0 [] (World.ownsRow_nil _ _ _ _) ⟨b, o, none⟩ n c (flat enc2 l) (by rw [flat_len, hn]; rfl) (fun j u hu => by
        rw [hadd]
        have hj : j < l.length * 2 := by
          have := (List.getElem?_eq_some_iff.1 hu).1
          rw [flat_len] at this
          exact this
        obtain ⟨x, hx⟩ : ∃ x, l[j / 2]? = some x := ⟨_, List.getElem?_eq_getElem (by omega)⟩
        have e : j = j / 2 * 2 + j % 2 := by omega
        have hg := flat_get (e := enc2) (j := j % 2) hx (show j % 2 < 2 by omega)
        have hg2 : (flat enc2 l)[j]? = (enc2.f x)[j % 2]? := by
          rw [← hg]
          congr 1
        rw [hg2] at hu
        have := hcs (j / 2) x hx (j % 2) u hu
        have e2 : o + j / 2 * enc2.k + j % 2 = o + j := by
          show o + j / 2 * 2 + j % 2 = o + j
          omega
        rw [e2] at this
        exact this) (fun u hu => by
        obtain ⟨x, _, hx⟩ := List.mem_flatMap.1 hu
        exact enc2.one x u hx) (by omega) (by omega) (by omega)
      refine ⟨v', w', hr, ?_, (Below.refl _ _).grown h3 (by omega) (fun k hk => by cases hk)⟩
      unfold RowG.Own
      rw [Nat.zero_add, List.nil_append] at h2
      rw [← hn]
      exact h2
theorem wp_copyB {w : World} {ops : Array Oper} {rest : List Oper} {o : Oper} {a : Act} {Q : Exit → Act → World → Prop} (hgd : o.guard = none) (s x : Operand) (ho : o.op = .call { callee := .builtin .append, args := #[s, x], argTypes := #[22, 22] })
    {A : Option Addr} {n c : Nat} {l : List (Nat × Nat)} (hs : a.eval s = .slice none 0 0) (hx : a.eval x = .slice A n c) (hR : Rd enc2 w (.slice A n c) l) (hn : n = l.length) (hl : n * 2 ≤ 140737488355328)
    (h : ∀ v' w', RowG.Own enc2 32 w' w.heap.size v' l → Below w.heap.size w w' → wpList Tryd.prog ops Q rest (a.put o.dst v') w') : wpList Tryd.prog ops Q (o :: rest) a w := by
  refine wpList_plain hgd fun K hK => ?_
  obtain ⟨v', w', hr, h2, h3⟩ := run_copyB hR hn hl o.type
  unfold Oper.wp execOp
  simp only [ho, resolve, invoke, builtin, Sem.run_bind, Sem.run_pure, Result.andThen_ok, List.map_toArray, List.map_cons, List.map_nil, hs, hx, hr]
  exact hK _ _ (h v' w' h2 h3)
end GlowW
end Go.Proofs.YtbkadecfmjjadaaDoor
