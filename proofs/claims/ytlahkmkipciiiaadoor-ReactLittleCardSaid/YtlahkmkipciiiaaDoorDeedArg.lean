/-
  A deed that came in (api.Deed by value), its changes with any whole number for where; how many they can be; append of such changes to a row of the call's own, however many; [4]api.Cell that came in (general).
-/
import Derived.Test.YtlahkmkipciiiaaDoorNearMem
import Derived.Test.YtlahkmkipciiiaaDoorOpenQ
import Derived.SizedLaws
namespace Go.Proofs.YtlahkmkipciiiaaDoor
open Go.ChangeShapes Go.WideShapes Go.ChangeAt Go.RowKit Go.Deep
set_option linter.unusedVariables false
set_option linter.unusedSimpArgs false
namespace DeedW
open BlkP RowG CellsW NearW
/-- A change: where (any whole number), and which cell. -/
def encZ : Enc (Int × Cl) := ⟨fun x => [.int .i64 x.1, .int .u8 (x.2.1 : Int), .int .u8 (x.2.2 : Int)], 3, fun _ => rfl, fun x v h => by
  simp only [List.mem_cons, List.not_mem_nil, or_false] at h
  rcases h with rfl | rfl | rfl <;> rfl⟩
section
variable {H : Type} {enc : TypeId × Value → H} {W : World}
theorem change_elem {k : Nat} {c0 c1 c2 : Value} {y : DataW H × List MemPlace} (h : DataW.trod enc Tryd.prog W 0 (fun _ => true) true k 36 [c0, c1, c2] = some y) : ∃ x : Int × Cl, c0 = .int .i64 x.1 ∧ c1 = .int .u8 (x.2.1 : Int) ∧ c2 = .int .u8 (x.2.2 : Int) ∧ (-9223372036854775808 ≤ x.1 ∧ x.1 ≤ 9223372036854775807) ∧ x.2.1 < 256 ∧ x.2.2 < 256 := by
  obtain ⟨ys, n', _, _, _, hyl, hf⟩ := DataW.trod_struct Tryd.underlying36 h
  have hyl2 : ys.length = 2 := hyl
  have h0 := hf 0 _ rfl
  have h1 := hf 1 _ rfl
  rw [List.getElem?_eq_getElem (by omega)] at h0 h1
  have hc : Tryd.prog.cellsOf 3 = 1 := by kernel_rfl
  have hc1 : Tryd.prog.cellsOf 23 = 2 := by kernel_rfl
  obtain ⟨a, ha, _, wa⟩ := DataW.trod_int (cs := [c0]) Tryd.underlying3 (by simpa [hc] using h0)
  simp at ha
  have hw : -9223372036854775808 ≤ a ∧ a ≤ 9223372036854775807 := by
    simp [Lit.wf] at wa
    have h1 : IntKind.i64.min = -9223372036854775808 := rfl
    have h2 : IntKind.i64.max = 9223372036854775807 := rfl
    omega
  obtain ⟨x, hx1, hx2, hx3, hx4⟩ := cell_elem (c0 := c1) (c1 := c2) (by simpa [hc1] using h1)
  exact ⟨(a, x), ha, hx1, hx2, hw, hx3, hx4⟩
theorem open_changes {v : Value} {d : DataW H} {p : List MemPlace} (hone : v.cells.toList = [v]) (h : DataW.Trod enc Tryd.prog W 0 (fun _ => true) true 29 v d p) :
    ∃ (A : Option Addr) (xs : List (Int × Cl)) (c : Nat), v = .slice A xs.length c ∧ (Rd encZ W (.slice A xs.length c) xs ∧ ∀ x ∈ xs, (-9223372036854775808 ≤ x.1 ∧ x.1 ≤ 9223372036854775807) ∧ x.2.1 < 256 ∧ x.2.2 < 256) := by
  obtain ⟨A, n, c, rfl, hnc, hcm, hnil, hel⟩ := OpenQ.slice_at (C := 3) Tryd.underlying29 (by kernel_rfl) hone h
  have hm : maxLen = 9223372036854775807 := rfl
  rcases A with _ | a
  · have := hnil rfl
    subst this
    exact ⟨none, [], c, rfl, ⟨none, c, rfl, by simp, by omega, fun h => absurd rfl h⟩, fun x h => by cases h⟩
  · have each : ∀ i, i < n → ∃ x : Int × Cl, W.cell? (a.add (i * 3)) = some (.int .i64 x.1) ∧ W.cell? (a.add (i * 3 + 1)) = some (.int .u8 (x.2.1 : Int)) ∧ W.cell? (a.add (i * 3 + 2)) = some (.int .u8 (x.2.2 : Int)) ∧ (-9223372036854775808 ≤ x.1 ∧ x.1 ≤ 9223372036854775807) ∧ x.2.1 < 256 ∧ x.2.2 < 256 := fun i hi => by
      obtain ⟨cs, k, y, hl, hc, ht⟩ := hel a rfl i hi
      match cs, hl with
      | [c0, c1, c2], _ =>
        obtain ⟨x, rfl, rfl, rfl, h0, h1, h2⟩ := change_elem ht
        exact ⟨x, hc 0 (by omega), hc 1 (by omega), hc 2 (by omega), h0, h1, h2⟩
    obtain ⟨xs, hl, hxs⟩ := OpenQ.listed n each
    subst hl
    refine ⟨some a, xs, c, rfl, ⟨some a, c, rfl, hnc, by omega, fun hne => ?_⟩, fun x hx => ?_⟩
    · have h0 : 0 < xs.length := List.length_pos_iff.2 hne
      obtain ⟨b, o, rfl, hb⟩ := OpenQ.plain (by simpa using (hxs 0 _ (List.getElem?_eq_getElem h0)).1)
      have hadd : ∀ k, (⟨b, o, none⟩ : Addr).add k = ⟨b, o + k, none⟩ := fun k => by unfold Addr.add; split <;> simp_all
      refine ⟨b, o, rfl, hb, fun i x hi j u hu => ?_⟩
      obtain ⟨g0, g1, g2, _, _⟩ := hxs i _ hi
      rw [hadd] at g0 g1 g2
      have hu' : [(.int .i64 x.1 : Value), .int .u8 (x.2.1 : Int), .int .u8 (x.2.2 : Int)][j]? = some u := hu
      have hj : j < 3 := by
        have := (List.getElem?_eq_some_iff.1 hu').1
        simpa using this
      match j, hj with
      | 0, _ => simp at hu'; subst hu'; exact g0
      | 1, _ => simp at hu'; subst hu'; exact g1
      | 2, _ => simp at hu'; subst hu'; exact g2
    · obtain ⟨i, hi⟩ := List.getElem?_of_mem hx
      exact (hxs i x hi).2.2.2
theorem open_deed {r : Reach} {b : Nat} {v : Value} {d : DataW H} {p : List MemPlace} (hv : Value.okWide Tryd.prog W r b 31 v) (h : DataW.Trod enc Tryd.prog W 0 (fun _ => true) true 31 v d p) :
    ∃ (A : Option Addr) (xs : List (Int × Cl)) (c : Nat) (ag dl : Int), v = .agg #[.slice A xs.length c, .int .i64 ag, .int .i64 dl] ∧ (Rd encZ W (.slice A xs.length c) xs ∧ ∀ x ∈ xs, (-9223372036854775808 ≤ x.1 ∧ x.1 ≤ 9223372036854775807) ∧ x.2.1 < 256 ∧ x.2.2 < 256) ∧ (-9223372036854775808 ≤ ag ∧ ag ≤ 9223372036854775807) ∧ (-9223372036854775808 ≤ dl ∧ dl ≤ 9223372036854775807) := by
  obtain ⟨m, rfl, hm, hc⟩ := OpenP.v_agg (n := 3) (ts := [29, 3, 3]) (.inl ⟨_, Tryd.underlying31⟩) (by kernel_rfl) rfl (by kernel_rfl) hv
  obtain ⟨e0, e1, e2, rfl⟩ := OpenP.len3 hm
  obtain ⟨_, e, k0⟩ := hc 0 _ rfl
  obtain rfl := Option.some.inj e
  obtain ⟨_, e, k1⟩ := hc 1 _ rfl
  obtain rfl := Option.some.inj e
  obtain ⟨_, e, k2⟩ := hc 2 _ rfl
  obtain rfl := Option.some.inj e
  obtain ⟨n1, rfl, l1, u1⟩ := OpenP.c_int (k := .i64) (lo := -9223372036854775808) (hi := 9223372036854775807) Tryd.underlying3 rfl rfl k1
  obtain ⟨n2, rfl, l2, u2⟩ := OpenP.c_int (k := .i64) (lo := -9223372036854775808) (hi := 9223372036854775807) Tryd.underlying3 rfl rfl k2
  have o0 : e0.cells.toList = [e0] := OpenQ.v_slice (W := W) (r := r) (b := b) Tryd.underlying29 (by unfold Value.okWide; rw [Tryd.underlying29]; exact k0)
  obtain ⟨fuel, hf⟩ := h
  obtain ⟨ys, n', _, _, _, hyl, hg⟩ := DataW.trod_struct (cs := [e0, .int .i64 n1, .int .i64 n2]) Tryd.underlying31 hf
  have hyl2 : ys.length = 3 := hyl
  have h0 := hg 0 _ rfl
  rw [List.getElem?_eq_getElem (by omega)] at h0
  have z0 : Tryd.prog.cellsOf 29 = 1 := by kernel_rfl
  obtain ⟨A, xs, c, rfl, hR⟩ := open_changes (v := e0) (d := (ys[0]'(by omega)).1) (p := (ys[0]'(by omega)).2) o0 ⟨n', by rw [o0]; simpa [z0] using h0⟩
  exact ⟨A, xs, c, n1, n2, rfl, hR, ⟨l1, u1⟩, l2, u2⟩
/-- How many changes they can be: the argument numbered j. -/
theorem deed_sized {A : Option Addr} {n c j : Nat} {ag dl : Int} {d : DataW H} {p : List MemPlace} {ts : List TypeId} {ds : List (DataW H)} (h : DataW.Trod enc Tryd.prog W 0 (fun _ => true) true 31 (.agg #[.slice A n c, .int .i64 ag, .int .i64 dl]) d p) (ht : ts[j]? = some 31) (hd : ds[j]? = some d)
    (hsz : (DataW.weightsEach Tryd.prog ts ds).all (· ≤ reachBytes) = true) : n * 16 ≤ reachBytes := by
  obtain ⟨fuel, hf⟩ := h
  obtain ⟨ys, n', _, hx, _, hyl, hg⟩ := DataW.trod_struct (cs := [.slice A n c, .int .i64 ag, .int .i64 dl]) Tryd.underlying31 hf
  injection hx with hdd _
  have hyl2 : ys.length = 3 := hyl
  have h0 := hg 0 _ rfl
  rw [List.getElem?_eq_getElem (by omega)] at h0
  have z0 : Tryd.prog.cellsOf 29 = 1 := by kernel_rfl
  have zb : Tryd.prog.bytesOf 36 = 16 := by kernel_rfl
  rcases DataW.trod_slice (cs := [.slice A n c]) Tryd.underlying29 (by simpa [z0] using h0) with ⟨h0, _⟩ | ⟨a, len, cap, elems, rest, m, _, hcs, he, _, _, _, hl, _⟩
  · injection h0 with h0 _
    injection h0 with _ h0 _
    omega
  · injection hcs with hcs _
    injection hcs with _ hn _
    have hy : (ys.map (·.1))[0]? = some (DataW.slice (elems.map (·.1)) (rest.map (·.1))) := by
      rw [List.getElem?_map, List.getElem?_eq_getElem (by omega)]
      have := congrArg Prod.fst he
      simpa using this
    have hmem : ((elems.map (·.1)).length + (rest.map (·.1)).length) * Tryd.prog.bytesOf 36 ∈ DataW.weights Tryd.prog 31 d := by
      rw [hdd]
      unfold DataW.weights
      rw [Tryd.underlying31]
      exact DataW.weights_mem_each (j := 0) (t := 29) rfl hy _ (by unfold DataW.weights; rw [Tryd.underlying29]; simp)
    have hall := List.all_eq_true.1 hsz _ (DataW.weights_mem_each (j := j) ht hd _ hmem)
    rw [zb, List.length_map, List.length_map] at hall
    simp only [decide_eq_true_eq] at hall
    omega
end
/-- append(row, changes...): a slice that is only read, behind a row of the call's own. -/
theorem run_appZ {w : World} {B : Nat} {v : Value} {l0 : List (Int × Cl)} {A : Option Addr} {n c : Nat} {l : List (Int × Cl)} (hown : RowG.Own encZ TX w B v l0) (hR : Rd encZ w (.slice A n c) l) (hn : n = l.length) (hl : (l0.length + n) * 16 ≤ 140737488355328) (hB : B ≤ w.heap.size) (ty : TypeId) :
    ∃ v' w', (Builtin.append_ #[TXS, TXS] ty #[v, .slice A n c]).run Tryd.prog w = .ok v' w' ∧ RowG.Own encZ TX w' B v' (l0 ++ l) ∧ w.grownBy w' v.ownBlock := by
  obtain ⟨i, hi, hz, hs1, hby⟩ := info_parts infoX
  have hm : maxLen = 9223372036854775807 := rfl
  rcases A with _ | ad
  · obtain ⟨A', c', he, _, _, hne⟩ := hR
    injection he with h1 h2 h3
    subst h1
    have h0 : l = [] := by
      apply Classical.byContradiction
      intro q
      obtain ⟨b, o, hA, _⟩ := hne q
      cases hA
    subst h0
    have hn0 : n = 0 := hn
    subst hn0
    obtain ⟨A0, c0, rfl, hc0, hc1, _⟩ := hown.form rfl
    refine ⟨.slice A0 l0.length c0, w, ?_, by simpa using hown, World.grownBy.refl _ _⟩
    cases A0 <;> simp [Builtin.append_, run_underlying underXS, sizeOf, typeInfo, hi, Builtin.lenOf, Builtin.firstCells, hc0, storeCells]
  · by_cases h0 : l = []
    · subst h0
      have hn0 : n = 0 := hn
      subst hn0
      obtain ⟨A0, c0, rfl, hc0, hc1, _⟩ := hown.form rfl
      refine ⟨.slice A0 l0.length c0, w, ?_, by simpa using hown, World.grownBy.refl _ _⟩
      cases A0 <;> simp [Builtin.append_, run_underlying underXS, sizeOf, typeInfo, hi, Builtin.lenOf, Builtin.firstCells, storeCells, loadCells, loadCellsFrom, hc0]
    · obtain ⟨A', c', he, _, _, hne⟩ := hR
      injection he with h1 h2 h3
      subst h1
      obtain ⟨b, o, hA, hlt, hcs⟩ := hne h0
      injection hA with hA
      subst hA
      have hadd : ∀ k, (⟨b, o, none⟩ : Addr).add k = ⟨b, o + k, none⟩ := fun k => by unfold Addr.add; split <;> simp_all
      obtain ⟨v', w', hr, h2, h3, _, _⟩ := run_append_own_at (P := Tryd.prog) w B TXS ty TX i _ 3 16 underXS hi hz hs1 hby rfl (by omega) v l0.length (flat encZ l0) hown ⟨b, o, none⟩ n c (flat encZ l) (by rw [flat_len, hn]; rfl) (fun j u hu => by
        rw [hadd]
        have hj : j < l.length * 3 := by
          have := (List.getElem?_eq_some_iff.1 hu).1
          rw [flat_len] at this
          exact this
        obtain ⟨x, hx⟩ : ∃ x, l[j / 3]? = some x := ⟨_, List.getElem?_eq_getElem (by omega)⟩
        have e : j = j / 3 * 3 + j % 3 := by omega
        have hg := flat_get (e := encZ) (j := j % 3) hx (show j % 3 < 3 by omega)
        have hg2 : (flat encZ l)[j]? = (encZ.f x)[j % 3]? := by
          rw [← hg]
          congr 1
        rw [hg2] at hu
        have := hcs (j / 3) x hx (j % 3) u hu
        have e2 : o + j / 3 * encZ.k + j % 3 = o + j := by
          show o + j / 3 * 3 + j % 3 = o + j
          omega
        rw [e2] at this
        exact this) (fun u hu => by
        obtain ⟨x, _, hx⟩ := List.mem_flatMap.1 hu
        exact encZ.one x u hx) (by omega) (by omega) (by omega)
      refine ⟨v', w', hr, ?_, h3⟩
      unfold RowG.Own
      rw [flat_app, List.length_append, ← hn]
      exact h2
theorem wp_appZ {w : World} {ops : Array Oper} {rest : List Oper} {o : Oper} {a : Act} {Q : Exit → Act → World → Prop} (hgd : o.guard = none) (s x : Operand) (ho : o.op = .call { callee := .builtin .append, args := #[s, x], argTypes := #[TXS, TXS] })
    {B : Nat} {v : Value} {l0 : List (Int × Cl)} {A : Option Addr} {n c : Nat} {l : List (Int × Cl)} (hs : a.eval s = v) (hx : a.eval x = .slice A n c) (hown : RowG.Own encZ TX w B v l0) (hR : Rd encZ w (.slice A n c) l) (hn : n = l.length) (hl : (l0.length + n) * 16 ≤ 140737488355328) (hB : B ≤ w.heap.size)
    (h : ∀ v' w', RowG.Own encZ TX w' B v' (l0 ++ l) → w.grownBy w' v.ownBlock → wpList Tryd.prog ops Q rest (a.put o.dst v') w') : wpList Tryd.prog ops Q (o :: rest) a w := by
  refine wpList_plain hgd fun K hK => ?_
  obtain ⟨v', w', hr, h2, h3⟩ := run_appZ hown hR hn hl hB o.type
  unfold Oper.wp execOp
  simp only [ho, resolve, invoke, builtin, Sem.run_bind, Sem.run_pure, Result.andThen_ok, List.map_toArray, List.map_cons, List.map_nil, hs, hx, hr]
  exact hK _ _ (h v' w' h2 h3)
/-- []api.Change{}: a row of the call's own, of no change: its block is the one made last. -/
theorem own_madeZ (w : World) : RowG.Own encZ TX (w.alloc (.cells #[] TX)) w.heap.size (.slice (some ⟨w.heap.size, 0, none⟩) 0 0) [] := by
  unfold RowG.Own
  exact World.ownsRow_made w #[] 0 (Nat.le_refl _) (Nat.zero_le _) rfl
/-- Four cells that came in ([4]api.Cell by value), as cells. -/
theorem open_unders {W : World} {r : Reach} {b : Nat} {v : Value} (hv : Value.okWide Tryd.prog W r b 25 v) : ∃ f : Nat → Cl, v = .agg (valsU f).toArray := by
  obtain ⟨m, rfl, hm, hc⟩ := OpenP.v_agg (n := 8) (ts := [5, 5, 5, 5, 5, 5, 5, 5]) (.inr ⟨_, _, Tryd.underlying25⟩) (by kernel_rfl) rfl (by kernel_rfl) hv
  match m, hm with
  | [e0, e1, e2, e3, e4, e5, e6, e7], _ =>
    obtain ⟨_, e, k0⟩ := hc 0 _ rfl
    obtain rfl := Option.some.inj e
    obtain ⟨x0, rfl, l0, u0⟩ := OpenP.c_int (k := .u8) (lo := 0) (hi := 255) Tryd.underlying5 rfl rfl k0
    obtain ⟨n0, rfl⟩ := Int.eq_ofNat_of_zero_le l0
    obtain ⟨_, e, k1⟩ := hc 1 _ rfl
    obtain rfl := Option.some.inj e
    obtain ⟨x1, rfl, l1, u1⟩ := OpenP.c_int (k := .u8) (lo := 0) (hi := 255) Tryd.underlying5 rfl rfl k1
    obtain ⟨n1, rfl⟩ := Int.eq_ofNat_of_zero_le l1
    obtain ⟨_, e, k2⟩ := hc 2 _ rfl
    obtain rfl := Option.some.inj e
    obtain ⟨x2, rfl, l2, u2⟩ := OpenP.c_int (k := .u8) (lo := 0) (hi := 255) Tryd.underlying5 rfl rfl k2
    obtain ⟨n2, rfl⟩ := Int.eq_ofNat_of_zero_le l2
    obtain ⟨_, e, k3⟩ := hc 3 _ rfl
    obtain rfl := Option.some.inj e
    obtain ⟨x3, rfl, l3, u3⟩ := OpenP.c_int (k := .u8) (lo := 0) (hi := 255) Tryd.underlying5 rfl rfl k3
    obtain ⟨n3, rfl⟩ := Int.eq_ofNat_of_zero_le l3
    obtain ⟨_, e, k4⟩ := hc 4 _ rfl
    obtain rfl := Option.some.inj e
    obtain ⟨x4, rfl, l4, u4⟩ := OpenP.c_int (k := .u8) (lo := 0) (hi := 255) Tryd.underlying5 rfl rfl k4
    obtain ⟨n4, rfl⟩ := Int.eq_ofNat_of_zero_le l4
    obtain ⟨_, e, k5⟩ := hc 5 _ rfl
    obtain rfl := Option.some.inj e
    obtain ⟨x5, rfl, l5, u5⟩ := OpenP.c_int (k := .u8) (lo := 0) (hi := 255) Tryd.underlying5 rfl rfl k5
    obtain ⟨n5, rfl⟩ := Int.eq_ofNat_of_zero_le l5
    obtain ⟨_, e, k6⟩ := hc 6 _ rfl
    obtain rfl := Option.some.inj e
    obtain ⟨x6, rfl, l6, u6⟩ := OpenP.c_int (k := .u8) (lo := 0) (hi := 255) Tryd.underlying5 rfl rfl k6
    obtain ⟨n6, rfl⟩ := Int.eq_ofNat_of_zero_le l6
    obtain ⟨_, e, k7⟩ := hc 7 _ rfl
    obtain rfl := Option.some.inj e
    obtain ⟨x7, rfl, l7, u7⟩ := OpenP.c_int (k := .u8) (lo := 0) (hi := 255) Tryd.underlying5 rfl rfl k7
    obtain ⟨n7, rfl⟩ := Int.eq_ofNat_of_zero_le l7
    exact ⟨fun i => [(n0, n1), (n2, n3), (n4, n5), (n6, n7)].getD i (0, 0), rfl⟩
end DeedW
end Go.Proofs.YtlahkmkipciiiaaDoor
