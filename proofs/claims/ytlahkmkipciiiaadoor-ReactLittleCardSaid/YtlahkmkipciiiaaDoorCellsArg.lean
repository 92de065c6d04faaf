/-
  A slice of cells that came in ([]api.Cell): what is known of it; how many they can be; append of such a slice to a row of the call's own, however long (general).
-/
import Derived.Test.YtlahkmkipciiiaaDoorOpenQ
import Derived.Test.YtlahkmkipciiiaaDoorOpenP
import Derived.Test.YtlahkmkipciiiaaDoorRowG
import Derived.SizedLaws
namespace Go.Proofs.YtlahkmkipciiiaaDoor
open Go.ChangeShapes Go.WideShapes Go.ChangeAt Go.RowKit Go.Deep
set_option linter.unusedVariables false
set_option linter.unusedSimpArgs false
namespace CellsW
open BlkP RowG
abbrev TK : TypeId := 23
abbrev TKS : TypeId := 73
/-- A cell: its kind, its level. -/
def encK : Enc (Nat × Nat) := ⟨fun c => [.int .u8 (c.1 : Int), .int .u8 (c.2 : Int)], 2, fun _ => rfl, fun x v h => by
  simp only [List.mem_cons, List.not_mem_nil, or_false] at h
  rcases h with rfl | rfl <;> rfl⟩
section
variable {H : Type} {enc : TypeId × Value → H} {W : World}
theorem u8_elem {k : Nat} {c0 : Value} {y : DataW H × List MemPlace} (h : DataW.trod enc Tryd.prog W 0 (fun _ => true) true k 5 [c0] = some y) : ∃ x : Nat, c0 = .int .u8 (x : Int) ∧ x < 256 := by
  obtain ⟨a, ha, _, wa⟩ := DataW.trod_int (cs := [c0]) Tryd.underlying5 h
  simp at ha
  have hw : 0 ≤ a ∧ a ≤ 255 := by
    simp [Lit.wf] at wa
    have h1 : IntKind.u8.min = 0 := rfl
    have h2 : IntKind.u8.max = 255 := rfl
    omega
  obtain ⟨n, rfl⟩ := Int.eq_ofNat_of_zero_le hw.1
  exact ⟨n, ha, by omega⟩
theorem cell_elem {k : Nat} {c0 c1 : Value} {y : DataW H × List MemPlace} (h : DataW.trod enc Tryd.prog W 0 (fun _ => true) true k TK [c0, c1] = some y) : ∃ x : Nat × Nat, c0 = .int .u8 (x.1 : Int) ∧ c1 = .int .u8 (x.2 : Int) ∧ x.1 < 256 ∧ x.2 < 256 := by
  obtain ⟨ys, n', _, _, _, hyl, hf⟩ := DataW.trod_struct Tryd.underlying23 h
  have hyl2 : ys.length = 2 := hyl
  have h0 := hf 0 _ rfl
  have h1 := hf 1 _ rfl
  rw [List.getElem?_eq_getElem (by omega)] at h0 h1
  have hc : Tryd.prog.cellsOf 5 = 1 := by kernel_rfl
  obtain ⟨a, ha, hla⟩ := u8_elem (c0 := c0) (by simpa [hc] using h0)
  obtain ⟨b, hb, hlb⟩ := u8_elem (c0 := c1) (by simpa [hc] using h1)
  exact ⟨(a, b), ha, hb, hla, hlb⟩
/-- A{j}, x{j} (the cells), c{j} (its capacity). -/
theorem open_cells {v : Value} {d : DataW H} {p : List MemPlace} (hone : v.cells.toList = [v]) (h : DataW.Trod enc Tryd.prog W 0 (fun _ => true) true TKS v d p) :
    ∃ (A : Option Addr) (xs : List (Nat × Nat)) (c : Nat), v = .slice A xs.length c ∧ (Rd encK W (.slice A xs.length c) xs ∧ ∀ x ∈ xs, x.1 < 256 ∧ x.2 < 256) := by
  obtain ⟨A, n, c, rfl, hnc, hcm, hnil, hel⟩ := OpenQ.slice_at (C := 2) Tryd.underlying73 (by kernel_rfl) hone h
  have hm : maxLen = 9223372036854775807 := rfl
  rcases A with _ | a
  · have := hnil rfl
    subst this
    exact ⟨none, [], c, rfl, ⟨none, c, rfl, by simp, by omega, fun h => absurd rfl h⟩, fun x h => by cases h⟩
  · have each : ∀ i, i < n → ∃ x : Nat × Nat, W.cell? (a.add (i * 2)) = some (.int .u8 (x.1 : Int)) ∧ W.cell? (a.add (i * 2 + 1)) = some (.int .u8 (x.2 : Int)) ∧ x.1 < 256 ∧ x.2 < 256 := fun i hi => by
      obtain ⟨cs, k, y, hl, hc, ht⟩ := hel a rfl i hi
      match cs, hl with
      | [c0, c1], _ =>
        obtain ⟨x, rfl, rfl, h1, h2⟩ := cell_elem ht
        exact ⟨x, hc 0 (by omega), hc 1 (by omega), h1, h2⟩
    obtain ⟨xs, hl, hxs⟩ := OpenQ.listed n each
    subst hl
    refine ⟨some a, xs, c, rfl, ⟨some a, c, rfl, hnc, by omega, fun hne => ?_⟩, fun x hx => ?_⟩
    · have h0 : 0 < xs.length := List.length_pos_iff.2 hne
      obtain ⟨b, o, rfl, hb⟩ := OpenQ.plain (by simpa using (hxs 0 _ (List.getElem?_eq_getElem h0)).1)
      have hadd : ∀ k, (⟨b, o, none⟩ : Addr).add k = ⟨b, o + k, none⟩ := fun k => by unfold Addr.add; split <;> simp_all
      refine ⟨b, o, rfl, hb, fun i x hi j u hu => ?_⟩
      obtain ⟨g0, g1, _, _⟩ := hxs i _ hi
      rw [hadd] at g0 g1
      match j, hu with
      | 0, hu =>
        have : Value.int .u8 (x.1 : Int) = u := by simpa [encK] using hu
        subst this
        exact g0
      | 1, hu =>
        have : Value.int .u8 (x.2 : Int) = u := by simpa [encK] using hu
        subst this
        exact g1
    · obtain ⟨i, hi⟩ := List.getElem?_of_mem hx
      exact ⟨(hxs i x hi).2.2.1, (hxs i x hi).2.2.2⟩
/-- How many they can be: the argument numbered j. -/
theorem cells_sized {A : Option Addr} {n c j : Nat} {d : DataW H} {p : List MemPlace} {ts : List TypeId} {ds : List (DataW H)} (h : DataW.Trod enc Tryd.prog W 0 (fun _ => true) true TKS (.slice A n c) d p) (ht : ts[j]? = some TKS) (hd : ds[j]? = some d)
    (hsz : (DataW.weightsEach Tryd.prog ts ds).all (· ≤ reachBytes) = true) : n * 2 ≤ reachBytes := by
  obtain ⟨fuel, hf⟩ := h
  have zb : Tryd.prog.bytesOf TK = 2 := by kernel_rfl
  rcases DataW.trod_slice (cs := [.slice A n c]) Tryd.underlying73 hf with ⟨h0, _⟩ | ⟨a, len, cap, elems, rest, m, _, hcs, he, _, _, _, hl, _⟩
  · injection h0 with h0 _
    injection h0 with _ h0 _
    omega
  · injection hcs with hcs _
    injection hcs with _ hn _
    have hy : d = DataW.slice (elems.map (·.1)) (rest.map (·.1)) := by
      have := congrArg Prod.fst he
      simpa using this
    have hmem : ((elems.map (·.1)).length + (rest.map (·.1)).length) * Tryd.prog.bytesOf TK ∈ DataW.weights Tryd.prog TKS d := by
      rw [hy]
      unfold DataW.weights
      rw [Tryd.underlying73]
      simp
    have hall := List.all_eq_true.1 hsz _ (DataW.weights_mem_each (j := j) ht hd _ hmem)
    rw [zb, List.length_map, List.length_map] at hall
    simp only [decide_eq_true_eq] at hall
    omega
end
theorem infoK : (Tryd.prog.info? TK).map (fun i => (i.zero, i.size, i.bytes)) = some (some (.agg #[.int .u8 0, .int .u8 0]), 2, 2) := by kernel_rfl
theorem underKS : Tryd.prog.underlying TKS = some (.slice TK) := by kernel_rfl
/-- append(row, cells...): a slice that is only read, behind a row of the call's own. -/
theorem run_appK {w : World} {B : Nat} {v : Value} {l0 : List (Nat × Nat)} {A : Option Addr} {n c : Nat} {l : List (Nat × Nat)} (hown : RowG.Own encK TK w B v l0) (hR : Rd encK w (.slice A n c) l) (hn : n = l.length) (hl : (l0.length + n) * 2 ≤ 140737488355328) (hB : B ≤ w.heap.size) (ty : TypeId) :
    ∃ v' w', (Builtin.append_ #[TKS, TKS] ty #[v, .slice A n c]).run Tryd.prog w = .ok v' w' ∧ RowG.Own encK TK w' B v' (l0 ++ l) ∧ w.grownBy w' v.ownBlock := by
  obtain ⟨i, hi, hz, hs1, hby⟩ := info_parts infoK
  have hm : maxLen = 9223372036854775807 := rfl
  rcases A with _ | ad
  · obtain ⟨A', c', he, _, _, hne⟩ := hR
    injection he with h1 h2 h3
    subst h1
    have h0 : l = [] := by
      apply Classical.byContradiction
      intro q
      obtain ⟨b, o, hA, _⟩ := hne q
      cases hA
    subst h0
    have hn0 : n = 0 := hn
    subst hn0
    obtain ⟨A0, c0, rfl, hc0, hc1, _⟩ := hown.form rfl
    refine ⟨.slice A0 l0.length c0, w, ?_, by simpa using hown, World.grownBy.refl _ _⟩
    cases A0 <;> simp [Builtin.append_, run_underlying underKS, sizeOf, typeInfo, hi, Builtin.lenOf, Builtin.firstCells, hc0, storeCells]
  · by_cases h0 : l = []
    · subst h0
      have hn0 : n = 0 := hn
      subst hn0
      obtain ⟨A0, c0, rfl, hc0, hc1, _⟩ := hown.form rfl
      refine ⟨.slice A0 l0.length c0, w, ?_, by simpa using hown, World.grownBy.refl _ _⟩
      cases A0 <;> simp [Builtin.append_, run_underlying underKS, sizeOf, typeInfo, hi, Builtin.lenOf, Builtin.firstCells, storeCells, loadCells, loadCellsFrom, hc0]
    · obtain ⟨A', c', he, _, _, hne⟩ := hR
      injection he with h1 h2 h3
      subst h1
      obtain ⟨b, o, hA, hlt, hcs⟩ := hne h0
      injection hA with hA
      subst hA
      have hadd : ∀ k, (⟨b, o, none⟩ : Addr).add k = ⟨b, o + k, none⟩ := fun k => by unfold Addr.add; split <;> simp_all
      obtain ⟨v', w', hr, h2, h3, _, _⟩ := run_append_own_at (P := Tryd.prog) w B TKS ty TK i _ 2 2 underKS hi hz hs1 hby rfl (by omega) v l0.length (flat encK l0) hown ⟨b, o, none⟩ n c (flat encK l) (by rw [flat_len, hn]; rfl) (fun j u hu => by
        rw [hadd]
        have hj : j < l.length * 2 := by
          have := (List.getElem?_eq_some_iff.1 hu).1
          rw [flat_len] at this
          exact this
        obtain ⟨x, hx⟩ : ∃ x, l[j / 2]? = some x := ⟨_, List.getElem?_eq_getElem (by omega)⟩
        have e : j = j / 2 * 2 + j % 2 := by omega
        have hg := flat_get (e := encK) (j := j % 2) hx (show j % 2 < 2 by omega)
        have hg2 : (flat encK l)[j]? = (encK.f x)[j % 2]? := by
          rw [← hg]
          congr 1
        rw [hg2] at hu
        have := hcs (j / 2) x hx (j % 2) u hu
        have e2 : o + j / 2 * encK.k + j % 2 = o + j := by
          show o + j / 2 * 2 + j % 2 = o + j
          omega
        rw [e2] at this
        exact this) (fun u hu => by
        obtain ⟨x, _, hx⟩ := List.mem_flatMap.1 hu
        exact encK.one x u hx) (by omega) (by omega) (by omega)
      refine ⟨v', w', hr, ?_, h3⟩
      unfold RowG.Own
      rw [flat_app, List.length_append, ← hn]
      exact h2
theorem wp_appK {w : World} {ops : Array Oper} {rest : List Oper} {o : Oper} {a : Act} {Q : Exit → Act → World → Prop} (hgd : o.guard = none) (s x : Operand) (ho : o.op = .call { callee := .builtin .append, args := #[s, x], argTypes := #[TKS, TKS] })
    {B : Nat} {v : Value} {l0 : List (Nat × Nat)} {A : Option Addr} {n c : Nat} {l : List (Nat × Nat)} (hs : a.eval s = v) (hx : a.eval x = .slice A n c) (hown : RowG.Own encK TK w B v l0) (hR : Rd encK w (.slice A n c) l) (hn : n = l.length) (hl : (l0.length + n) * 2 ≤ 140737488355328) (hB : B ≤ w.heap.size)
    (h : ∀ v' w', RowG.Own encK TK w' B v' (l0 ++ l) → w.grownBy w' v.ownBlock → wpList Tryd.prog ops Q rest (a.put o.dst v') w') : wpList Tryd.prog ops Q (o :: rest) a w := by
  refine wpList_plain hgd fun K hK => ?_
  obtain ⟨v', w', hr, h2, h3⟩ := run_appK hown hR hn hl hB o.type
  unfold Oper.wp execOp
  simp only [ho, resolve, invoke, builtin, Sem.run_bind, Sem.run_pure, Result.andThen_ok, List.map_toArray, List.map_cons, List.map_nil, hs, hx, hr]
  exact hK _ _ (h v' w' h2 h3)
/-- []api.Cell{}: a row of the call's own, of no cell: its block is the one made last. -/
theorem own_made (w : World) : RowG.Own encK TK (w.alloc (.cells #[] TK)) w.heap.size (.slice (some ⟨w.heap.size, 0, none⟩) 0 0) [] := by
  unfold RowG.Own
  exact World.ownsRow_made w #[] 0 (Nat.le_refl _) (Nat.zero_le _) rfl
end CellsW
end Go.Proofs.YtlahkmkipciiiaaDoor
