/-
  What is near a place (api.Near), as one block: loaded, boxed, stored, answered, opened as an argument; a deed's row of changes; append of one change, of one cell (general: FlowMem's text without water).
-/
import Derived.Deep.RegionHeld3
import Derived.Deep.MidRow
import Derived.Laws.Tables
import Derived.Test.YtlahkmkipciiiaaDoorKindLamp
import Derived.Test.YtlahkmkipciiiaaDoorFrS
import Derived.Test.YtlahkmkipciiiaaDoorPushG
import Derived.Test.YtlahkmkipciiiaaDoorOpenP
import Derived.Test.YtlahkmkipciiiaaDoorCellsArg
namespace Go.Proofs.YtlahkmkipciiiaaDoor
open Go.RowKit Go.ChangeShapes Go.WideShapes
set_option linter.unusedVariables false
set_option linter.unusedSimpArgs false
namespace NearW
open BlkP RowG FrS PushG CellsW
abbrev Cl := Nat × Nat
/-- What is near: the cell, its sides by directions, the cells below its level sides; light and draw. -/
structure Nr where
  s : Cl
  sd : Nat → Cl
  un : Nat → Cl
  lt : Nat
  dr : Int
def upd (f : Nat → Cl) (d : Nat) (c : Cl) : Nat → Cl := fun i => if i = d then c else f i
abbrev TN : TypeId := 28
abbrev TC : TypeId := 23
abbrev TD : TypeId := 31
abbrev TX : TypeId := 36
abbrev TXS : TypeId := 29
def u8 (k : Nat) : Value := .int .u8 (k : Int)
def valsS (f : Nat → Cl) : List Value := [u8 (f 0).1, u8 (f 0).2, u8 (f 1).1, u8 (f 1).2, u8 (f 2).1, u8 (f 2).2, u8 (f 3).1, u8 (f 3).2, u8 (f 4).1, u8 (f 4).2, u8 (f 5).1, u8 (f 5).2]
def valsU (f : Nat → Cl) : List Value := [u8 (f 0).1, u8 (f 0).2, u8 (f 1).1, u8 (f 1).2, u8 (f 2).1, u8 (f 2).2, u8 (f 3).1, u8 (f 3).2]
/-- What is near, cell by cell. -/
def vals (n : Nr) : List Value := u8 n.s.1 :: u8 n.s.2 :: (valsS n.sd ++ valsU n.un ++ [u8 n.lt, .int .u64 n.dr])
theorem vals_len (n : Nr) : (vals n).length = 24 := rfl
theorem vals_size (n : Nr) : (vals n).toArray.size = 24 := rfl
theorem vals_one (n : Nr) : (vals n).toArray.all (·.oneCell') = true := by simp [vals, valsS, valsU, u8, Value.oneCell']
theorem g_kind (n : Nr) : (vals n)[0]? = some (.int .u8 (n.s.1 : Int)) := rfl
theorem g_lev (n : Nr) : (vals n)[1]? = some (.int .u8 (n.s.2 : Int)) := rfl
theorem g_sk (n : Nr) {d : Nat} (h : d < 6) : (vals n)[2 + d * 2]? = some (.int .u8 ((n.sd d).1 : Int)) := by
  match d, h with
  | 0, _ => rfl
  | 1, _ => rfl
  | 2, _ => rfl
  | 3, _ => rfl
  | 4, _ => rfl
  | 5, _ => rfl
theorem g_sl (n : Nr) {d : Nat} (h : d < 6) : (vals n)[2 + d * 2 + 1]? = some (.int .u8 ((n.sd d).2 : Int)) := by
  match d, h with
  | 0, _ => rfl
  | 1, _ => rfl
  | 2, _ => rfl
  | 3, _ => rfl
  | 4, _ => rfl
  | 5, _ => rfl
theorem g_uk (n : Nr) {d : Nat} (h : d < 4) : (vals n)[14 + d * 2]? = some (.int .u8 ((n.un d).1 : Int)) := by
  match d, h with
  | 0, _ => rfl
  | 1, _ => rfl
  | 2, _ => rfl
  | 3, _ => rfl
theorem g_ul (n : Nr) {d : Nat} (h : d < 4) : (vals n)[14 + d * 2 + 1]? = some (.int .u8 ((n.un d).2 : Int)) := by
  match d, h with
  | 0, _ => rfl
  | 1, _ => rfl
  | 2, _ => rfl
  | 3, _ => rfl
theorem upd_c (f : Nat → Cl) (d : Nat) (c : Cl) (i : Nat) : upd f d c i = if i = d then c else f i := rfl
theorem set_s (n : Nr) (c : Cl) : ((vals n).set 0 (.int .u8 (c.1 : Int))).set 1 (.int .u8 (c.2 : Int)) = vals {n with s := c} := rfl
theorem set_side (n : Nr) {d : Nat} (h : d < 6) (c : Cl) : ((vals n).set (2 + d * 2) (.int .u8 (c.1 : Int))).set (2 + d * 2 + 1) (.int .u8 (c.2 : Int)) = vals {n with sd := upd n.sd d c} := by
  match d, h with
  | 0, _ => rfl
  | 1, _ => rfl
  | 2, _ => rfl
  | 3, _ => rfl
  | 4, _ => rfl
  | 5, _ => rfl
theorem set_under (n : Nr) {d : Nat} (h : d < 4) (c : Cl) : ((vals n).set (14 + d * 2) (.int .u8 (c.1 : Int))).set (14 + d * 2 + 1) (.int .u8 (c.2 : Int)) = vals {n with un := upd n.un d c} := by
  match d, h with
  | 0, _ => rfl
  | 1, _ => rfl
  | 2, _ => rfl
  | 3, _ => rfl
theorem set_light (n : Nr) (l : Nat) : (vals n).set 22 (.int .u8 (l : Int)) = vals {n with lt := l} := rfl
theorem set_draw (n : Nr) (d : Int) : (vals n).set 23 (.int .u64 d) = vals {n with dr := d} := rfl
/-- As one value. -/
def nv (n : Nr) : Value := .agg (vals n).toArray
def cvl (c : Cl) : Value := .agg #[.int .u8 (c.1 : Int), .int .u8 (c.2 : Int)]
theorem sizeN : (Tryd.prog.info? TN).map (·.size) = some 24 := by kernel_rfl
theorem underN : (match Tryd.prog.underlying TN with | some (.struct _) => true | _ => false) = true := by kernel_rfl
theorem addr_add0 (b i : Nat) : (⟨b, 0, none⟩ : Addr).add i = ⟨b, i, none⟩ := by unfold Addr.add; split <;> simp_all
set_option maxRecDepth 100000 in
theorem run_loadN {w : World} {b : Nat} {n : Nr} (h : Blk w b TN (vals n)) : (loadVar TN ⟨b, 0, none⟩).run Tryd.prog w = .ok (.agg (vals n).toArray) w := by
  have hl : (loadCells ⟨b, 0, none⟩ (vals n).length).run Tryd.prog w = .ok (vals n).toArray w :=
    run_loadCells_list (P := Tryd.prog) w ⟨b, 0, none⟩ (vals n) (fun j u hu => by rw [addr_add0]; exact h.cell hu)
  rw [vals_len] at hl
  have hs := sizeN
  have hu := underN
  cases hq : Tryd.prog.info? TN with
  | none => simp [hq] at hs
  | some i =>
    have hs2 : i.size = 24 := by simpa [hq] using hs
    cases hqu : Tryd.prog.underlying TN with
    | none => simp [hqu] at hu
    | some d =>
      have hagg : (isAgg TN).run Tryd.prog w = .ok true w := by
        unfold isAgg
        rw [Sem.run_bind, run_underlying hqu w]
        cases d <;> simp_all
      simp only [loadVar, Sem.run_bind, hagg, Result.andThen_ok, sizeOf, typeInfo, Sem.run_pure]
      simp [hq, hs2, hl]
theorem grown_row (w : World) (g : Nat) (cells : Array Value) : w.grownBy (w.setRow g cells) (some g) := ⟨rfl, rfl, rfl, by simp [World.setRow], fun k hk hne => by
  simp only [World.setRow, Array.getElem?_modify]
  rw [if_neg (fun e => hne (by rw [e]))]⟩
section
variable {w : World} {ops : Array Oper} {rest : List Oper} {o : Oper} {a : Act} {Q : Exit → Act → World → Prop}
theorem wp_loadN (hgd : o.guard = none) (x : Operand) (ho : o.op = .load TN x) {p : Nat} {n : Nr} (hx : a.eval x = .pointer (some ⟨p, 0, none⟩)) (hk : Blk w p TN (vals n))
    (h : wpList Tryd.prog ops Q rest (a.put o.dst (nv n)) w) : wpList Tryd.prog ops Q (o :: rest) a w := by
  refine wpList_plain hgd fun K hK => ?_
  unfold Oper.wp execOp
  simp only [ho, hx, Instr.loadAt, Instr.sureAddr, Sem.run_bind, Sem.run_pure, Result.andThen_ok, run_loadN hk]
  exact hK _ _ h
theorem wp_boxN (hgd : o.guard = none) (x : Operand) (ho : o.op = .box TN x) {n : Nr} (hx : a.eval x = nv n)
    (h : ∀ w', Blk w' w.heap.size TN (vals n) → Below w.heap.size w w' → w'.heap.size = w.heap.size + 1 → wpList Tryd.prog ops Q rest (a.put o.dst (.pointer (some ⟨w.heap.size, 0, none⟩))) w') : wpList Tryd.prog ops Q (o :: rest) a w := by
  refine wpList_plain hgd fun K hK => ?_
  unfold Oper.wp execOp
  simp only [ho, hx]
  refine hK _ _ (h _ (Blk.new w TN (vals n)) ((Below.refl _ w).alloc (Nat.le_refl _) _) (by simp))
theorem wp_storeN (hgd : o.guard = none) (x y : Operand) (ho : o.op = .store TN x y) {g : Nat} {n : Nr} {us : List Value} (hx : a.eval x = .pointer (some ⟨g, 0, none⟩)) (hy : a.eval y = nv n) (hk : Blk w g TN us) (hu : us.length = 24)
    (h : ∀ w', Blk w' g TN (vals n) → w.grownBy w' (some g) → w'.heap.size = w.heap.size → wpList Tryd.prog ops Q rest (a.put o.dst undef) w') : wpList Tryd.prog ops Q (o :: rest) a w := by
  refine wpList_plain hgd fun K hK => ?_
  refine wp_store_row (P := Tryd.prog) TN x y ho g (vals n).toArray hx hy TN us.toArray hk (by rw [sizeN]; rfl) (by simp [hu, vals_len]) (vals_one n) ?_
  refine hK _ _ (h _ (setRow_heap w g us.toArray (vals n).toArray _ _ hk) (grown_row w g _) ?_)
  simp [World.setRow]
end
theorem at_boxN {x : Operand} {i : _} {P : Program} {w : World} {ops : Array Oper} {rest : List Oper} {a : Act} {Q : Exit → Act → World → Prop} {ty : TypeId} {pos : String} {af : _} {g : _} (h : wpList P ops Q ((⟨i, .box TN x, ty, pos, af, g⟩ : Oper) :: rest) a w) : wpList P ops Q ((⟨i, .box TN x, ty, pos, af, g⟩ : Oper) :: rest) a w := h
theorem at_loadN {x : Operand} {i : _} {P : Program} {w : World} {ops : Array Oper} {rest : List Oper} {a : Act} {Q : Exit → Act → World → Prop} {ty : TypeId} {pos : String} {af : _} {g : _} (h : wpList P ops Q ((⟨i, .load TN x, ty, pos, af, g⟩ : Oper) :: rest) a w) : wpList P ops Q ((⟨i, .load TN x, ty, pos, af, g⟩ : Oper) :: rest) a w := h
theorem at_storeN {x y : Operand} {P : Program} {w : World} {ops : Array Oper} {rest : List Oper} {a : Act} {Q : Exit → Act → World → Prop} {ty : TypeId} {pos : String} {af : _} {g : _} (h : wpList P ops Q ((⟨none, .store TN x y, ty, pos, af, g⟩ : Oper) :: rest) a w) : wpList P ops Q ((⟨none, .store TN x y, ty, pos, af, g⟩ : Oper) :: rest) a w := h

theorem at_slot (t : Tmp) {P : Program} {w : World} {ops : Array Oper} {rest : List Oper} {a : Act} {Q : Exit → Act → World → Prop} {op : Op} {ty : TypeId} {pos : String} {af : _} {g : _} (h : wpList P ops Q ((⟨some t, op, ty, pos, af, g⟩ : Oper) :: rest) a w) : wpList P ops Q ((⟨some t, op, ty, pos, af, g⟩ : Oper) :: rest) a w := h
theorem list_named {P : Program} {ops : Array Oper} {Q : Exit → Act → World → Prop} {rest : List Oper} {a : Act} {W : World} (S : World → Prop) (h : S W) (k : ∀ W', S W' → wpList P ops Q rest a W') : wpList P ops Q rest a W := k W h
theorem calls_named {P : Program} {f : FuncId} {args : Array Value} {R : Ending → World → Prop} {W : World} (S : World → Prop) (h : S W) (k : ∀ W', S W' → Calls P f args W' R) : Calls P f args W R := k W h
theorem wr64 {x : Int} (h1 : -9223372036854775808 ≤ x) (h2 : x ≤ 9223372036854775807) : wrap64 x = x := by
  unfold wrap64
  omega
/-- Nothing near but Air. -/
def nz : Nr := ⟨(0, 0), fun _ => (0, 0), fun _ => (0, 0), 0, 0⟩

theorem results_N {fn : Func} {tmps : Array Value} {w : World} {b : Nat} {n : Nr} (hr : fn.results = #[.cell 2 TN]) (ht : tmps.getD 2 undef = .pointer (some ⟨b, 0, none⟩)) (h : Blk w b TN (vals n)) : (results fn tmps).run Tryd.prog w = .ok (nv n) w := by
  have hl := run_loadN h
  unfold results
  rw [hr]
  simp only [Array.mapM_eq_mapM_toList, List.mapM_cons, List.mapM_nil, map_eq_pure_bind, ht, asAddr, bind_assoc, pure_bind, Sem.run_bind, Sem.run_pure, hl, Result.andThen_ok]
  rfl

/-! ### Changes -/
/-- A change: where, and which cell. -/
def encX : Enc (Nat × Cl) := ⟨fun x => [.int .i64 (x.1 : Int), .int .u8 (x.2.1 : Int), .int .u8 (x.2.2 : Int)], 3, fun _ => rfl, fun x v h => by
  simp only [List.mem_cons, List.not_mem_nil, or_false] at h
  rcases h with rfl | rfl | rfl <;> rfl⟩
theorem infoX : (Tryd.prog.info? TX).map (fun i => (i.zero, i.size, i.bytes)) = some (some (.agg #[.int .i64 0, .int .u8 0, .int .u8 0]), 3, 16) := by kernel_rfl
theorem underXS : Tryd.prog.underlying TXS = some (.slice TX) := by kernel_rfl
/-- A deed that is answered: its changes are a row of the call's own. -/
def DeedP (w : World) (l : List (Nat × Cl)) (e : Ending) (w' : World) : Prop := ∃ v, e = .returned (.agg #[v, .int .i64 0, .int .i64 0]) ∧ RowG.Own encX TX w' w.heap.size v l ∧ Below w.heap.size w w'

theorem grown_set (w : World) (g i : Nat) (v : Value) : w.grownBy (w.setCell ⟨g, i, none⟩ v) (some g) := ⟨rfl, rfl, rfl, by simp, fun k _ hne => heap_setCell_other w ⟨g, i, none⟩ k v (fun e => hne (by rw [e]))⟩
theorem own_ne {w : World} {B b : Nat} {v : Value} {l : List (Nat × Cl)} {T : TypeId} {us : List Value} (h : RowG.Own encX TX w B v l) (hb : Blk w b T us) (hT : T ≠ TX) : v.ownBlock ≠ some b := fun e => by
  unfold RowG.Own at h
  rcases h.2 with ⟨rfl, _⟩ | ⟨g', cap, cur, rfl, _, hgg, _⟩
  · cases e
  · obtain rfl : g' = b := by simpa [Value.ownBlock] using e
    have := hgg.symm.trans hb
    injection this with this
    injection this with _ h2
    exact hT h2.symm
section
variable {w0 : World} {ops : Array Oper} {rest : List Oper} {o : Oper} {a : Act} {Q : Exit → Act → World → Prop} {W : World}
theorem wp_pushX (hgd : o.guard = none) (s x : Operand) (ho : o.op = .call { callee := .builtin .append, args := #[s, x], argTypes := #[TXS, TXS] }) {B : Nat} {v : Value} {l : List (Nat × Cl)} {y : Nat × Cl} {n : Nat}
    (hW : W = w0.alloc (.cells #[.int .i64 (y.1 : Int), .int .u8 (y.2.1 : Int), .int .u8 (y.2.2 : Int)] TX)) (hs : a.eval s = v) (hown : RowG.Own encX TX w0 B v l) {g0 : Nat} (hx : a.eval x = .slice (some ⟨g0, 0, none⟩) 1 1) (hg0 : g0 = w0.heap.size) (hn : l.length = n) (hl : n ≤ 1000000) (hB : B ≤ w0.heap.size)
    (h : ∀ g c w', Pushed encX TX w0 B v l y (n + 1) g c w' → wpList Tryd.prog ops Q rest (a.put o.dst (.slice (some ⟨g, 0, none⟩) (n + 1) c)) w') : wpList Tryd.prog ops Q (o :: rest) a W := by
  subst hW hn hg0
  refine wpList_plain hgd fun K hK => ?_
  obtain ⟨g, cp, w', hr, h2, h3, h4⟩ := run_pushG encX underXS infoX rfl (by decide) (by decide) (y := y) (c := #[.int .i64 (y.1 : Int), .int .u8 (y.2.1 : Int), .int .u8 (y.2.2 : Int)]) rfl hown hl hB o.type
  unfold Oper.wp execOp
  simp only [ho, resolve, invoke, builtin, Sem.run_bind, Sem.run_pure, Result.andThen_ok, List.map_toArray, List.map_cons, List.map_nil, hs, hx, hr]
  refine hK _ _ (h g cp w' ⟨h2, h3, ?_⟩)
  rcases h4 with q | ⟨g', q, hg⟩
  · exact .inl q.symm
  · have : g = g' := by simpa [Value.ownBlock] using q
    subst this
    exact .inr hg
end
theorem own_setD {w : World} {B R i : Nat} {v x : Value} {l : List (Nat × Cl)} {us : List Value} (h : RowG.Own encX TX w B v l) (hb : Blk w R TD us) : RowG.Own encX TX (w.setCell ⟨R, i, none⟩ x) B v l := h.grown (grown_set w R i x) (.inr (own_ne h hb (by decide)))
/-- The answer is stored into its block. -/
theorem own_set3 {w : World} {B R : Nat} {v x y z : Value} {l : List (Nat × Cl)} {us : List Value} (h : RowG.Own encX TX w B v l) (hb : Blk w R TD us) : RowG.Own encX TX (((w.setCell ⟨R, 0, none⟩ x).setCell ⟨R, 1, none⟩ y).setCell ⟨R, 2, none⟩ z) B v l :=
  own_setD (own_setD (own_setD h hb) (hb.set 0 x)) ((hb.set 0 x).set 1 y)
section
variable {w0 : World} {ops : Array Oper} {rest : List Oper} {o : Oper} {a : Act} {Q : Exit → Act → World → Prop} {W : World}
theorem wp_pushC (hgd : o.guard = none) (s x : Operand) (ho : o.op = .call { callee := .builtin .append, args := #[s, x], argTypes := #[TKS, TKS] }) {B : Nat} {v : Value} {l : List Cl} {y : Cl} {n : Nat}
    (hW : W = w0.alloc (.cells #[.int .u8 (y.1 : Int), .int .u8 (y.2 : Int)] TC)) (hs : a.eval s = v) (hown : RowG.Own encK TC w0 B v l) {g0 : Nat} (hx : a.eval x = .slice (some ⟨g0, 0, none⟩) 1 1) (hg0 : g0 = w0.heap.size) (hn : l.length = n) (hl : n ≤ 1000000) (hB : B ≤ w0.heap.size)
    (h : ∀ g c w', Pushed encK TC w0 B v l y (n + 1) g c w' → wpList Tryd.prog ops Q rest (a.put o.dst (.slice (some ⟨g, 0, none⟩) (n + 1) c)) w') : wpList Tryd.prog ops Q (o :: rest) a W := by
  subst hW hn hg0
  refine wpList_plain hgd fun K hK => ?_
  obtain ⟨g, cp, w', hr, h2, h3, h4⟩ := run_pushG encK underKS infoK rfl (by decide) (by decide) (y := y) (c := #[.int .u8 (y.1 : Int), .int .u8 (y.2 : Int)]) rfl hown hl hB o.type
  unfold Oper.wp execOp
  simp only [ho, resolve, invoke, builtin, Sem.run_bind, Sem.run_pure, Result.andThen_ok, List.map_toArray, List.map_cons, List.map_nil, hs, hx, hr]
  refine hK _ _ (h g cp w' ⟨h2, h3, ?_⟩)
  rcases h4 with q | ⟨g', q, hg⟩
  · exact .inl q.symm
  · have : g = g' := by simpa [Value.ownBlock] using q
    subst this
    exact .inr hg
end
theorem Blk.cell_eq {w : World} {b : Nat} {T : TypeId} {vs : List Value} (h : Blk w b T vs) (i : Nat) : w.cell? ⟨b, i, none⟩ = vs[i]? := (cell_of_row w b i _ _ _ h).trans (by simp)
/-- A row of changes, as a block. -/
theorem own_blk {w : World} {B g n c : Nat} {l : List (Nat × Cl)} (h : RowG.Own encX TX w B (.slice (some ⟨g, 0, none⟩) n c) l) : ∃ us, Blk w g TX us ∧ ∀ i j x u, l[i]? = some x → (encX.f x)[j]? = some u → us[i * 3 + j]? = some u := by
  have hc := fun i j x u hx hu => h.cell (i := i) (j := j) (x := x) (u := u) hx hu
  unfold RowG.Own at h
  rcases h.2 with ⟨h0, _⟩ | ⟨g', cap, cur, h0, _, hgg, _⟩
  · cases h0
  · injection h0 with h0
    injection h0 with h0
    injection h0 with h0
    subst h0
    refine ⟨cur.toList, hgg, fun i j x u hx hu => ?_⟩
    rw [← Blk.cell_eq (show Blk w g TX cur.toList from hgg)]
    exact hc i j x u hx hu
set_option maxRecDepth 100000 in
theorem open_near {W : World} {r : Reach} {b : Nat} {v : Value} (hv : Value.okWide Tryd.prog W r b 28 v) : ∃ n : Nr, v = nv n := by
  obtain ⟨m, rfl, hm, hc⟩ := OpenP.v_agg (n := 24) (ts := [5, 5, 5, 5, 5, 5, 5, 5, 5, 5, 5, 5, 5, 5, 5, 5, 5, 5, 5, 5, 5, 5, 5, 26]) (.inl ⟨_, Tryd.underlying28⟩) (by kernel_rfl) rfl (by kernel_rfl) hv
  match m, hm with
  | [e0, e1, e2, e3, e4, e5, e6, e7, e8, e9, e10, e11, e12, e13, e14, e15, e16, e17, e18, e19, e20, e21, e22, e23], _ =>
    obtain ⟨_, e, k0⟩ := hc 0 _ rfl
    obtain rfl := Option.some.inj e
    obtain ⟨x0, rfl, l0, u0⟩ := OpenP.c_int (k := .u8) (lo := 0) (hi := 255) Tryd.underlying5 rfl rfl k0
    obtain ⟨n0, rfl⟩ := Int.eq_ofNat_of_zero_le l0
    obtain ⟨_, e, k1⟩ := hc 1 _ rfl
    obtain rfl := Option.some.inj e
    obtain ⟨x1, rfl, l1, u1⟩ := OpenP.c_int (k := .u8) (lo := 0) (hi := 255) Tryd.underlying5 rfl rfl k1
    obtain ⟨n1, rfl⟩ := Int.eq_ofNat_of_zero_le l1
    obtain ⟨_, e, k2⟩ := hc 2 _ rfl
    obtain rfl := Option.some.inj e
    obtain ⟨x2, rfl, l2, u2⟩ := OpenP.c_int (k := .u8) (lo := 0) (hi := 255) Tryd.underlying5 rfl rfl k2
    obtain ⟨n2, rfl⟩ := Int.eq_ofNat_of_zero_le l2
    obtain ⟨_, e, k3⟩ := hc 3 _ rfl
    obtain rfl := Option.some.inj e
    obtain ⟨x3, rfl, l3, u3⟩ := OpenP.c_int (k := .u8) (lo := 0) (hi := 255) Tryd.underlying5 rfl rfl k3
    obtain ⟨n3, rfl⟩ := Int.eq_ofNat_of_zero_le l3
    obtain ⟨_, e, k4⟩ := hc 4 _ rfl
    obtain rfl := Option.some.inj e
    obtain ⟨x4, rfl, l4, u4⟩ := OpenP.c_int (k := .u8) (lo := 0) (hi := 255) Tryd.underlying5 rfl rfl k4
    obtain ⟨n4, rfl⟩ := Int.eq_ofNat_of_zero_le l4
    obtain ⟨_, e, k5⟩ := hc 5 _ rfl
    obtain rfl := Option.some.inj e
    obtain ⟨x5, rfl, l5, u5⟩ := OpenP.c_int (k := .u8) (lo := 0) (hi := 255) Tryd.underlying5 rfl rfl k5
    obtain ⟨n5, rfl⟩ := Int.eq_ofNat_of_zero_le l5
    obtain ⟨_, e, k6⟩ := hc 6 _ rfl
    obtain rfl := Option.some.inj e
    obtain ⟨x6, rfl, l6, u6⟩ := OpenP.c_int (k := .u8) (lo := 0) (hi := 255) Tryd.underlying5 rfl rfl k6
    obtain ⟨n6, rfl⟩ := Int.eq_ofNat_of_zero_le l6
    obtain ⟨_, e, k7⟩ := hc 7 _ rfl
    obtain rfl := Option.some.inj e
    obtain ⟨x7, rfl, l7, u7⟩ := OpenP.c_int (k := .u8) (lo := 0) (hi := 255) Tryd.underlying5 rfl rfl k7
    obtain ⟨n7, rfl⟩ := Int.eq_ofNat_of_zero_le l7
    obtain ⟨_, e, k8⟩ := hc 8 _ rfl
    obtain rfl := Option.some.inj e
    obtain ⟨x8, rfl, l8, u8⟩ := OpenP.c_int (k := .u8) (lo := 0) (hi := 255) Tryd.underlying5 rfl rfl k8
    obtain ⟨n8, rfl⟩ := Int.eq_ofNat_of_zero_le l8
    obtain ⟨_, e, k9⟩ := hc 9 _ rfl
    obtain rfl := Option.some.inj e
    obtain ⟨x9, rfl, l9, u9⟩ := OpenP.c_int (k := .u8) (lo := 0) (hi := 255) Tryd.underlying5 rfl rfl k9
    obtain ⟨n9, rfl⟩ := Int.eq_ofNat_of_zero_le l9
    obtain ⟨_, e, k10⟩ := hc 10 _ rfl
    obtain rfl := Option.some.inj e
    obtain ⟨x10, rfl, l10, u10⟩ := OpenP.c_int (k := .u8) (lo := 0) (hi := 255) Tryd.underlying5 rfl rfl k10
    obtain ⟨n10, rfl⟩ := Int.eq_ofNat_of_zero_le l10
    obtain ⟨_, e, k11⟩ := hc 11 _ rfl
    obtain rfl := Option.some.inj e
    obtain ⟨x11, rfl, l11, u11⟩ := OpenP.c_int (k := .u8) (lo := 0) (hi := 255) Tryd.underlying5 rfl rfl k11
    obtain ⟨n11, rfl⟩ := Int.eq_ofNat_of_zero_le l11
    obtain ⟨_, e, k12⟩ := hc 12 _ rfl
    obtain rfl := Option.some.inj e
    obtain ⟨x12, rfl, l12, u12⟩ := OpenP.c_int (k := .u8) (lo := 0) (hi := 255) Tryd.underlying5 rfl rfl k12
    obtain ⟨n12, rfl⟩ := Int.eq_ofNat_of_zero_le l12
    obtain ⟨_, e, k13⟩ := hc 13 _ rfl
    obtain rfl := Option.some.inj e
    obtain ⟨x13, rfl, l13, u13⟩ := OpenP.c_int (k := .u8) (lo := 0) (hi := 255) Tryd.underlying5 rfl rfl k13
    obtain ⟨n13, rfl⟩ := Int.eq_ofNat_of_zero_le l13
    obtain ⟨_, e, k14⟩ := hc 14 _ rfl
    obtain rfl := Option.some.inj e
    obtain ⟨x14, rfl, l14, u14⟩ := OpenP.c_int (k := .u8) (lo := 0) (hi := 255) Tryd.underlying5 rfl rfl k14
    obtain ⟨n14, rfl⟩ := Int.eq_ofNat_of_zero_le l14
    obtain ⟨_, e, k15⟩ := hc 15 _ rfl
    obtain rfl := Option.some.inj e
    obtain ⟨x15, rfl, l15, u15⟩ := OpenP.c_int (k := .u8) (lo := 0) (hi := 255) Tryd.underlying5 rfl rfl k15
    obtain ⟨n15, rfl⟩ := Int.eq_ofNat_of_zero_le l15
    obtain ⟨_, e, k16⟩ := hc 16 _ rfl
    obtain rfl := Option.some.inj e
    obtain ⟨x16, rfl, l16, u16⟩ := OpenP.c_int (k := .u8) (lo := 0) (hi := 255) Tryd.underlying5 rfl rfl k16
    obtain ⟨n16, rfl⟩ := Int.eq_ofNat_of_zero_le l16
    obtain ⟨_, e, k17⟩ := hc 17 _ rfl
    obtain rfl := Option.some.inj e
    obtain ⟨x17, rfl, l17, u17⟩ := OpenP.c_int (k := .u8) (lo := 0) (hi := 255) Tryd.underlying5 rfl rfl k17
    obtain ⟨n17, rfl⟩ := Int.eq_ofNat_of_zero_le l17
    obtain ⟨_, e, k18⟩ := hc 18 _ rfl
    obtain rfl := Option.some.inj e
    obtain ⟨x18, rfl, l18, u18⟩ := OpenP.c_int (k := .u8) (lo := 0) (hi := 255) Tryd.underlying5 rfl rfl k18
    obtain ⟨n18, rfl⟩ := Int.eq_ofNat_of_zero_le l18
    obtain ⟨_, e, k19⟩ := hc 19 _ rfl
    obtain rfl := Option.some.inj e
    obtain ⟨x19, rfl, l19, u19⟩ := OpenP.c_int (k := .u8) (lo := 0) (hi := 255) Tryd.underlying5 rfl rfl k19
    obtain ⟨n19, rfl⟩ := Int.eq_ofNat_of_zero_le l19
    obtain ⟨_, e, k20⟩ := hc 20 _ rfl
    obtain rfl := Option.some.inj e
    obtain ⟨x20, rfl, l20, u20⟩ := OpenP.c_int (k := .u8) (lo := 0) (hi := 255) Tryd.underlying5 rfl rfl k20
    obtain ⟨n20, rfl⟩ := Int.eq_ofNat_of_zero_le l20
    obtain ⟨_, e, k21⟩ := hc 21 _ rfl
    obtain rfl := Option.some.inj e
    obtain ⟨x21, rfl, l21, u21⟩ := OpenP.c_int (k := .u8) (lo := 0) (hi := 255) Tryd.underlying5 rfl rfl k21
    obtain ⟨n21, rfl⟩ := Int.eq_ofNat_of_zero_le l21
    obtain ⟨_, e, k22⟩ := hc 22 _ rfl
    obtain rfl := Option.some.inj e
    obtain ⟨x22, rfl, l22, u22⟩ := OpenP.c_int (k := .u8) (lo := 0) (hi := 255) Tryd.underlying5 rfl rfl k22
    obtain ⟨n22, rfl⟩ := Int.eq_ofNat_of_zero_le l22
    obtain ⟨_, e, k23⟩ := hc 23 _ rfl
    obtain rfl := Option.some.inj e
    obtain ⟨x23, rfl, l23, u23⟩ := OpenP.c_int (k := .u64) (lo := 0) (hi := 18446744073709551615) Tryd.underlying26 rfl rfl k23
    exact ⟨⟨(n0, n1), fun i => [(n2, n3), (n4, n5), (n6, n7), (n8, n9), (n10, n11), (n12, n13)].getD i (0, 0), fun i => [(n14, n15), (n16, n17), (n18, n19), (n20, n21)].getD i (0, 0), n22, x23⟩, rfl⟩
end NearW
end Go.Proofs.YtlahkmkipciiiaaDoor
