/-
  Water's memory: what is near, as one block; loaded, stored; a deed's row of changes.
-/
import Derived.Deep.RegionHeld3
import Derived.Deep.MidRow
import Derived.Laws.Tables
import Derived.Test.YtlahkmkipciiiaaDoorFlowPlain
import Derived.Test.YtlahkmkipciiiaaDoorKindLamp
import Derived.Test.YtlahkmkipciiiaaDoorFrS
import Derived.Test.YtlahkmkipciiiaaDoorPushG
namespace Go.Proofs.YtlahkmkipciiiaaDoor
open Go.RowKit
set_option linter.unusedVariables false
set_option linter.unusedSimpArgs false
namespace FlowW
open BlkP RowG FrS PushG FlowP
abbrev TN : TypeId := 28
abbrev TC : TypeId := 23
abbrev TD : TypeId := 31
abbrev TX : TypeId := 36
abbrev TXS : TypeId := 29
abbrev TCS : TypeId := 73
def u8 (k : Nat) : Value := .int .u8 (k : Int)
def valsS (f : Nat → Cl) : List Value := [u8 (f 0).1, u8 (f 0).2, u8 (f 1).1, u8 (f 1).2, u8 (f 2).1, u8 (f 2).2, u8 (f 3).1, u8 (f 3).2, u8 (f 4).1, u8 (f 4).2, u8 (f 5).1, u8 (f 5).2]
def valsU (f : Nat → Cl) : List Value := [u8 (f 0).1, u8 (f 0).2, u8 (f 1).1, u8 (f 1).2, u8 (f 2).1, u8 (f 2).2, u8 (f 3).1, u8 (f 3).2]
/-- What is near, cell by cell. -/
def vals (n : Nr) : List Value := u8 n.s.1 :: u8 n.s.2 :: (valsS n.sd ++ valsU n.un ++ [u8 n.lt, .int .u64 n.dr])
theorem vals_len (n : Nr) : (vals n).length = 24 := rfl
theorem vals_size (n : Nr) : (vals n).toArray.size = 24 := rfl
theorem vals_one (n : Nr) : (vals n).toArray.all (·.oneCell') = true := by simp [vals, valsS, valsU, u8, Value.oneCell']
theorem g_kind (n : Nr) : (vals n)[0]? = some (.int .u8 (n.s.1 : Int)) := rfl
theorem g_lev (n : Nr) : (vals n)[1]? = some (.int .u8 (n.s.2 : Int)) := rfl
theorem g_sk (n : Nr) {d : Nat} (h : d < 6) : (vals n)[2 + d * 2]? = some (.int .u8 ((n.sd d).1 : Int)) := by
  match d, h with
  | 0, _ => rfl
  | 1, _ => rfl
  | 2, _ => rfl
  | 3, _ => rfl
  | 4, _ => rfl
  | 5, _ => rfl
theorem g_sl (n : Nr) {d : Nat} (h : d < 6) : (vals n)[2 + d * 2 + 1]? = some (.int .u8 ((n.sd d).2 : Int)) := by
  match d, h with
  | 0, _ => rfl
  | 1, _ => rfl
  | 2, _ => rfl
  | 3, _ => rfl
  | 4, _ => rfl
  | 5, _ => rfl
theorem g_uk (n : Nr) {d : Nat} (h : d < 4) : (vals n)[14 + d * 2]? = some (.int .u8 ((n.un d).1 : Int)) := by
  match d, h with
  | 0, _ => rfl
  | 1, _ => rfl
  | 2, _ => rfl
  | 3, _ => rfl
theorem g_ul (n : Nr) {d : Nat} (h : d < 4) : (vals n)[14 + d * 2 + 1]? = some (.int .u8 ((n.un d).2 : Int)) := by
  match d, h with
  | 0, _ => rfl
  | 1, _ => rfl
  | 2, _ => rfl
  | 3, _ => rfl
theorem upd_c (f : Nat → Cl) (d : Nat) (c : Cl) (i : Nat) : upd f d c i = if i = d then c else f i := rfl
theorem set_s (n : Nr) (c : Cl) : ((vals n).set 0 (.int .u8 (c.1 : Int))).set 1 (.int .u8 (c.2 : Int)) = vals {n with s := c} := rfl
theorem set_side (n : Nr) {d : Nat} (h : d < 6) (c : Cl) : ((vals n).set (2 + d * 2) (.int .u8 (c.1 : Int))).set (2 + d * 2 + 1) (.int .u8 (c.2 : Int)) = vals {n with sd := upd n.sd d c} := by
  match d, h with
  | 0, _ => rfl
  | 1, _ => rfl
  | 2, _ => rfl
  | 3, _ => rfl
  | 4, _ => rfl
  | 5, _ => rfl
theorem set_under (n : Nr) {d : Nat} (h : d < 4) (c : Cl) : ((vals n).set (14 + d * 2) (.int .u8 (c.1 : Int))).set (14 + d * 2 + 1) (.int .u8 (c.2 : Int)) = vals {n with un := upd n.un d c} := by
  match d, h with
  | 0, _ => rfl
  | 1, _ => rfl
  | 2, _ => rfl
  | 3, _ => rfl
theorem set_light (n : Nr) (l : Nat) : (vals n).set 22 (.int .u8 (l : Int)) = vals {n with lt := l} := rfl
theorem set_draw (n : Nr) (d : Int) : (vals n).set 23 (.int .u64 d) = vals {n with dr := d} := rfl
/-- As one value. -/
def nv (n : Nr) : Value := .agg (vals n).toArray
def cvl (c : Cl) : Value := .agg #[.int .u8 (c.1 : Int), .int .u8 (c.2 : Int)]
theorem sizeN : (Tryd.prog.info? TN).map (·.size) = some 24 := by kernel_rfl
theorem underN : (match Tryd.prog.underlying TN with | some (.struct _) => true | _ => false) = true := by kernel_rfl
theorem addr_add0 (b i : Nat) : (⟨b, 0, none⟩ : Addr).add i = ⟨b, i, none⟩ := by unfold Addr.add; split <;> simp_all
set_option maxRecDepth 100000 in
theorem run_loadN {w : World} {b : Nat} {n : Nr} (h : Blk w b TN (vals n)) : (loadVar TN ⟨b, 0, none⟩).run Tryd.prog w = .ok (.agg (vals n).toArray) w := by
  have hl : (loadCells ⟨b, 0, none⟩ (vals n).length).run Tryd.prog w = .ok (vals n).toArray w :=
    run_loadCells_list (P := Tryd.prog) w ⟨b, 0, none⟩ (vals n) (fun j u hu => by rw [addr_add0]; exact h.cell hu)
  rw [vals_len] at hl
  have hs := sizeN
  have hu := underN
  cases hq : Tryd.prog.info? TN with
  | none => simp [hq] at hs
  | some i =>
    have hs2 : i.size = 24 := by simpa [hq] using hs
    cases hqu : Tryd.prog.underlying TN with
    | none => simp [hqu] at hu
    | some d =>
      have hagg : (isAgg TN).run Tryd.prog w = .ok true w := by
        unfold isAgg
        rw [Sem.run_bind, run_underlying hqu w]
        cases d <;> simp_all
      simp only [loadVar, Sem.run_bind, hagg, Result.andThen_ok, sizeOf, typeInfo, Sem.run_pure]
      simp [hq, hs2, hl]
theorem grown_row (w : World) (g : Nat) (cells : Array Value) : w.grownBy (w.setRow g cells) (some g) := ⟨rfl, rfl, rfl, by simp [World.setRow], fun k hk hne => by
  simp only [World.setRow, Array.getElem?_modify]
  rw [if_neg (fun e => hne (by rw [e]))]⟩
section
variable {w : World} {ops : Array Oper} {rest : List Oper} {o : Oper} {a : Act} {Q : Exit → Act → World → Prop}
theorem wp_loadN (hgd : o.guard = none) (x : Operand) (ho : o.op = .load TN x) {p : Nat} {n : Nr} (hx : a.eval x = .pointer (some ⟨p, 0, none⟩)) (hk : Blk w p TN (vals n))
    (h : wpList Tryd.prog ops Q rest (a.put o.dst (nv n)) w) : wpList Tryd.prog ops Q (o :: rest) a w := by
  refine wpList_plain hgd fun K hK => ?_
  unfold Oper.wp execOp
  simp only [ho, hx, Instr.loadAt, Instr.sureAddr, Sem.run_bind, Sem.run_pure, Result.andThen_ok, run_loadN hk]
  exact hK _ _ h
theorem wp_boxN (hgd : o.guard = none) (x : Operand) (ho : o.op = .box TN x) {n : Nr} (hx : a.eval x = nv n)
    (h : ∀ w', Blk w' w.heap.size TN (vals n) → Below w.heap.size w w' → w'.heap.size = w.heap.size + 1 → wpList Tryd.prog ops Q rest (a.put o.dst (.pointer (some ⟨w.heap.size, 0, none⟩))) w') : wpList Tryd.prog ops Q (o :: rest) a w := by
  refine wpList_plain hgd fun K hK => ?_
  unfold Oper.wp execOp
  simp only [ho, hx]
  refine hK _ _ (h _ (Blk.new w TN (vals n)) ((Below.refl _ w).alloc (Nat.le_refl _) _) (by simp))
theorem wp_storeN (hgd : o.guard = none) (x y : Operand) (ho : o.op = .store TN x y) {g : Nat} {n : Nr} {us : List Value} (hx : a.eval x = .pointer (some ⟨g, 0, none⟩)) (hy : a.eval y = nv n) (hk : Blk w g TN us) (hu : us.length = 24)
    (h : ∀ w', Blk w' g TN (vals n) → w.grownBy w' (some g) → w'.heap.size = w.heap.size → wpList Tryd.prog ops Q rest (a.put o.dst undef) w') : wpList Tryd.prog ops Q (o :: rest) a w := by
  refine wpList_plain hgd fun K hK => ?_
  refine wp_store_row (P := Tryd.prog) TN x y ho g (vals n).toArray hx hy TN us.toArray hk (by rw [sizeN]; rfl) (by simp [hu, vals_len]) (vals_one n) ?_
  refine hK _ _ (h _ (setRow_heap w g us.toArray (vals n).toArray _ _ hk) (grown_row w g _) ?_)
  simp [World.setRow]
end
theorem at_boxN {x : Operand} {i : _} {P : Program} {w : World} {ops : Array Oper} {rest : List Oper} {a : Act} {Q : Exit → Act → World → Prop} {ty : TypeId} {pos : String} {af : _} {g : _} (h : wpList P ops Q ((⟨i, .box TN x, ty, pos, af, g⟩ : Oper) :: rest) a w) : wpList P ops Q ((⟨i, .box TN x, ty, pos, af, g⟩ : Oper) :: rest) a w := h
theorem at_loadN {x : Operand} {i : _} {P : Program} {w : World} {ops : Array Oper} {rest : List Oper} {a : Act} {Q : Exit → Act → World → Prop} {ty : TypeId} {pos : String} {af : _} {g : _} (h : wpList P ops Q ((⟨i, .load TN x, ty, pos, af, g⟩ : Oper) :: rest) a w) : wpList P ops Q ((⟨i, .load TN x, ty, pos, af, g⟩ : Oper) :: rest) a w := h
theorem at_storeN {x y : Operand} {P : Program} {w : World} {ops : Array Oper} {rest : List Oper} {a : Act} {Q : Exit → Act → World → Prop} {ty : TypeId} {pos : String} {af : _} {g : _} (h : wpList P ops Q ((⟨none, .store TN x y, ty, pos, af, g⟩ : Oper) :: rest) a w) : wpList P ops Q ((⟨none, .store TN x y, ty, pos, af, g⟩ : Oper) :: rest) a w := h

theorem at_slot (t : Tmp) {P : Program} {w : World} {ops : Array Oper} {rest : List Oper} {a : Act} {Q : Exit → Act → World → Prop} {op : Op} {ty : TypeId} {pos : String} {af : _} {g : _} (h : wpList P ops Q ((⟨some t, op, ty, pos, af, g⟩ : Oper) :: rest) a w) : wpList P ops Q ((⟨some t, op, ty, pos, af, g⟩ : Oper) :: rest) a w := h
theorem list_named {P : Program} {ops : Array Oper} {Q : Exit → Act → World → Prop} {rest : List Oper} {a : Act} {W : World} (S : World → Prop) (h : S W) (k : ∀ W', S W' → wpList P ops Q rest a W') : wpList P ops Q rest a W := k W h
theorem calls_named {P : Program} {f : FuncId} {args : Array Value} {R : Ending → World → Prop} {W : World} (S : World → Prop) (h : S W) (k : ∀ W', S W' → Calls P f args W' R) : Calls P f args W R := k W h
theorem wr64 {x : Int} (h1 : -9223372036854775808 ≤ x) (h2 : x ≤ 9223372036854775807) : wrap64 x = x := by
  unfold wrap64
  omega
/-- Nothing near but Air. -/
def nz : Nr := ⟨(0, 0), fun _ => (0, 0), fun _ => (0, 0), 0, 0⟩

theorem results_N {fn : Func} {tmps : Array Value} {w : World} {b : Nat} {n : Nr} (hr : fn.results = #[.cell 2 TN]) (ht : tmps.getD 2 undef = .pointer (some ⟨b, 0, none⟩)) (h : Blk w b TN (vals n)) : (results fn tmps).run Tryd.prog w = .ok (nv n) w := by
  have hl := run_loadN h
  unfold results
  rw [hr]
  simp only [Array.mapM_eq_mapM_toList, List.mapM_cons, List.mapM_nil, map_eq_pure_bind, ht, asAddr, bind_assoc, pure_bind, Sem.run_bind, Sem.run_pure, hl, Result.andThen_ok]
  rfl

/-! ### Changes -/
/-- A change: where, and which cell. -/
def encX : Enc (Nat × Cl) := ⟨fun x => [.int .i64 (x.1 : Int), .int .u8 (x.2.1 : Int), .int .u8 (x.2.2 : Int)], 3, fun _ => rfl, fun x v h => by
  simp only [List.mem_cons, List.not_mem_nil, or_false] at h
  rcases h with rfl | rfl | rfl <;> rfl⟩
theorem infoX : (Tryd.prog.info? TX).map (fun i => (i.zero, i.size, i.bytes)) = some (some (.agg #[.int .i64 0, .int .u8 0, .int .u8 0]), 3, 16) := by kernel_rfl
theorem underXS : Tryd.prog.underlying TXS = some (.slice TX) := by kernel_rfl
/-- A deed that is answered: its changes are a row of the call's own. -/
def DeedP (w : World) (l : List (Nat × Cl)) (e : Ending) (w' : World) : Prop := ∃ v, e = .returned (.agg #[v, .int .i64 0, .int .i64 0]) ∧ RowG.Own encX TX w' w.heap.size v l ∧ Below w.heap.size w w'

theorem soaks_b {k : Nat} {b : Bool} (h : KindP.soaks k = b) (w : World) (hT : KindW.Tab w) : Calls Tryd.prog 69 #[.int .u8 (k : Int)] w fun e w' => e = .returned (.bool b) ∧ Below w.heap.size w w' := by
  refine (KindW.k_soaks k w hT).mono ?_
  rintro e w' ⟨rfl, rfl⟩
  exact ⟨by rw [h], Below.refl _ _⟩
theorem lev_b (w : World) (hT : KindW.Tab w) : Calls Tryd.prog 49 #[.int .u8 13] w fun e w' => e = .returned (.int .u8 7) ∧ Below w.heap.size w w' := by
  refine (KindW.k_levels 13 w hT).mono ?_
  rintro e w' ⟨rfl, rfl⟩
  exact ⟨rfl, Below.refl _ _⟩

abbrev tabB : Nat := 0
theorem tab_fr {w w' : World} {S : Nat → Prop} (h : KindW.Tab w) (hf : Fr S w w') (hn : ¬ S tabB) : KindW.Tab w' :=
  ⟨fun k hk => (hf.cell (p := ⟨tabB, _, none⟩) h.size hn).trans (h.name k hk), fun k hk => (hf.cell (p := ⟨tabB, _, none⟩) h.size hn).trans (h.least k hk),
    fun k hk => (hf.cell (p := ⟨tabB, _, none⟩) h.size hn).trans (h.most k hk), fun k hk => (hf.cell (p := ⟨tabB, _, none⟩) h.size hn).trans (h.trait k hk), Nat.lt_of_lt_of_le h.size hf.size⟩

/-! ### One cell -/
set_option maxRecDepth 100000 in
set_option maxHeartbeats 4000000 in
theorem counted_c {w : World} {k l k' l' : Nat} (hT : KindW.Tab w) (h : sure (k, l) = (k', l')) : Calls Tryd.prog 67 #[.agg #[.int .u8 (k : Int), .int .u8 (l : Int)]] w fun e w' => e = .returned (.agg #[.int .u8 (k' : Int), .int .u8 (l' : Int)]) ∧ Below w.heap.size w w' := by
  have HT := Lib.hid hT
  clear hT
  cases hm : KindP.may k l with
  | true =>
    obtain ⟨rfl, rfl⟩ : k = k' ∧ l = l' := by simpa [sure, hm] using h
    have HM := Lib.hid hm
    clear hm h
    go_enter Tryd.func67, Tryd.ntmps67
    go_wp2_with fail
    refine (KindW.k_may_b HM.out _ (HT.out.below (by (repeat' (first | (with_reducible exact Below.refl _ _) | (with_reducible refine Below.setCell ?_ (by (first | omega | (simp; done) | (simp; omega))) _) | (with_reducible refine Below.alloc ?_ (by (first | omega | (simp; done) | (simp; omega))) _) | (with_reducible refine Below.drew ?_) | (with_reducible refine below_drewN ?_ _)))))).mono ?_
    rintro e1 w1 ⟨rfl, hb⟩
    have h1 : Blk w1 w.heap.size TC [.int .u8 k, .int .u8 l] := Blk.below (by (repeat' (first | (with_reducible refine BlkP.Blk.drew ?_) | (with_reducible refine BlkP.Blk.drewN ?_ _) | (with_reducible refine BlkP.Blk.setAt (us := ?_) (by first | omega | (simp; done) | (simp; omega)) rfl ?_ ?_) | (with_reducible refine BlkP.Blk.otherAt ?_ (by first | omega | (simp; done) | (simp; omega))) | (with_reducible refine BlkP.Blk.newA' (by first | omega | (simp; done) | (simp; omega)) rfl) | (with_reducible refine BlkP.Blk.alloc ?_ _) | (exact rfl)))) hb
    have h2 : Blk w1 (w.heap.size + 1) TC [.int .u8 0, .int .u8 0] := Blk.below (by (repeat' (first | (with_reducible refine BlkP.Blk.drew ?_) | (with_reducible refine BlkP.Blk.drewN ?_ _) | (with_reducible refine BlkP.Blk.setAt (us := ?_) (by first | omega | (simp; done) | (simp; omega)) rfl ?_ ?_) | (with_reducible refine BlkP.Blk.otherAt ?_ (by first | omega | (simp; done) | (simp; omega))) | (with_reducible refine BlkP.Blk.newA' (by first | omega | (simp; done) | (simp; omega)) rfl) | (with_reducible refine BlkP.Blk.alloc ?_ _) | (exact rfl)))) hb
    have hB : Below w.heap.size w w1 := by (repeat' (first | (with_reducible exact Below.refl _ _) | (with_reducible refine Below.setCell ?_ (by (first | omega | (simp; done) | (simp; omega))) _) | (with_reducible refine Below.alloc ?_ (by (first | omega | (simp; done) | (simp; omega))) _) | (with_reducible refine Below.drew ?_) | (with_reducible refine below_drewN ?_ _) | (with_reducible refine Below.trans ?_ (Below.mono hb (by (first | omega | (simp; done) | (simp; omega)))))))
    have HB := Lib.hid hB
    have c0 := h1.cell (i := 0) rfl
    have c1 := h1.cell (i := 1) rfl
    have z0 := h2.cell (i := 0) rfl
    have z1 := h2.cell (i := 1) rfl
    have f0 := h2.frozen 0
    have f1 := h2.frozen 1
    have l1 := h2.lt
    clear hb hB h1 h2
    go_wp2_with fail
    refine bodyPost_ret (v := .agg #[.int .u8 (k : Int), .int .u8 (l : Int)]) (by simp [results, Tryd.results67, go_sem, l1, z0, z1]) rfl ?_
    exact ⟨rfl, by (repeat' (first | (with_reducible exact Below.refl _ _) | (with_reducible refine Below.setCell ?_ (by (first | omega | (simp; done) | (simp; omega))) _) | (with_reducible refine Below.alloc ?_ (by (first | omega | (simp; done) | (simp; omega))) _) | (with_reducible refine Below.drew ?_) | (with_reducible refine below_drewN ?_ _) | (with_reducible refine Below.trans ?_ (Below.mono HB.out (by (first | omega | (simp; done) | (simp; omega)))))))⟩
  | false =>
    obtain ⟨rfl, rfl⟩ : 1 = k' ∧ 0 = l' := by simpa [sure, hm] using h
    have HM := Lib.hid hm
    clear hm h
    go_enter Tryd.func67, Tryd.ntmps67
    go_wp2_with fail
    refine (KindW.k_may_b HM.out _ (HT.out.below (by (repeat' (first | (with_reducible exact Below.refl _ _) | (with_reducible refine Below.setCell ?_ (by (first | omega | (simp; done) | (simp; omega))) _) | (with_reducible refine Below.alloc ?_ (by (first | omega | (simp; done) | (simp; omega))) _) | (with_reducible refine Below.drew ?_) | (with_reducible refine below_drewN ?_ _)))))).mono ?_
    rintro e1 w1 ⟨rfl, hb⟩
    have h2 : Blk w1 (w.heap.size + 1) TC [.int .u8 0, .int .u8 0] := Blk.below (by (repeat' (first | (with_reducible refine BlkP.Blk.drew ?_) | (with_reducible refine BlkP.Blk.drewN ?_ _) | (with_reducible refine BlkP.Blk.setAt (us := ?_) (by first | omega | (simp; done) | (simp; omega)) rfl ?_ ?_) | (with_reducible refine BlkP.Blk.otherAt ?_ (by first | omega | (simp; done) | (simp; omega))) | (with_reducible refine BlkP.Blk.newA' (by first | omega | (simp; done) | (simp; omega)) rfl) | (with_reducible refine BlkP.Blk.alloc ?_ _) | (exact rfl)))) hb
    have hB : Below w.heap.size w w1 := by (repeat' (first | (with_reducible exact Below.refl _ _) | (with_reducible refine Below.setCell ?_ (by (first | omega | (simp; done) | (simp; omega))) _) | (with_reducible refine Below.alloc ?_ (by (first | omega | (simp; done) | (simp; omega))) _) | (with_reducible refine Below.drew ?_) | (with_reducible refine below_drewN ?_ _) | (with_reducible refine Below.trans ?_ (Below.mono hb (by (first | omega | (simp; done) | (simp; omega)))))))
    have HB := Lib.hid hB
    have z0 := h2.cell (i := 0) rfl
    have z1 := h2.cell (i := 1) rfl
    have f0 := h2.frozen 0
    have f1 := h2.frozen 1
    have l1 := h2.lt
    clear hb hB h2
    go_wp2_with fail
    refine bodyPost_ret (v := .agg #[.int .u8 1, .int .u8 0]) (by simp [results, Tryd.results67, go_sem, l1, z0, z1]) rfl ?_
    exact ⟨rfl, by (repeat' (first | (with_reducible exact Below.refl _ _) | (with_reducible refine Below.setCell ?_ (by (first | omega | (simp; done) | (simp; omega))) _) | (with_reducible refine Below.alloc ?_ (by (first | omega | (simp; done) | (simp; omega))) _) | (with_reducible refine Below.drew ?_) | (with_reducible refine below_drewN ?_ _) | (with_reducible refine Below.trans ?_ (Below.mono HB.out (by (first | omega | (simp; done) | (simp; omega)))))))⟩
set_option maxRecDepth 100000 in
theorem isWater_c {w : World} {k l : Nat} {b : Bool} (h : wet (k, l) = b) : Calls Tryd.prog 37 #[.agg #[.int .u8 (k : Int), .int .u8 (l : Int)]] w fun e w' => e = .returned (.bool b) ∧ Below w.heap.size w w' := by
  have HE := Lib.hid (show ((k : Int) == 13) = b from by
    rw [← h, Bool.eq_iff_iff, beq_iff_eq]
    simp only [wet, beq_iff_eq]
    omega)
  clear h
  go_enter Tryd.func37, Tryd.ntmps37
  go_wp2_with fail
  go_ret
  exact ⟨congrArg (fun b => Ending.returned (.bool b)) HE.out, by (repeat' (first | (with_reducible exact Below.refl _ _) | (with_reducible refine Below.setCell ?_ (by (first | omega | (simp; done) | (simp; omega))) _) | (with_reducible refine Below.alloc ?_ (by (first | omega | (simp; done) | (simp; omega))) _) | (with_reducible refine Below.drew ?_) | (with_reducible refine below_drewN ?_ _)))⟩
set_option maxRecDepth 100000 in
theorem water_c {w : World} {l : Int} : Calls Tryd.prog 40 #[.int .u8 l] w fun e w' => e = .returned (.agg #[.int .u8 13, .int .u8 l]) ∧ Below w.heap.size w w' := by
  go_enter Tryd.func40, Tryd.ntmps40
  go_wp2_with fail
  refine bodyPost_ret (v := .agg #[.int .u8 13, .int .u8 l]) (by simp [results, Tryd.results40, go_sem]) rfl ?_
  exact ⟨rfl, by (repeat' (first | (with_reducible exact Below.refl _ _) | (with_reducible refine Below.setCell ?_ (by (first | omega | (simp; done) | (simp; omega))) _) | (with_reducible refine Below.alloc ?_ (by (first | omega | (simp; done) | (simp; omega))) _) | (with_reducible refine Below.drew ?_) | (with_reducible refine below_drewN ?_ _)))⟩
end FlowW
end Go.Proofs.YtlahkmkipciiiaaDoor
