/-
  Small functions of anchor, of its reference and of its laws.
-/
import Derived.BigQuiet
import Derived.BigRegion
import Derived.Lib.Hide
import Derived.Deep.RegionHeld3
import Derived.Deep.MidRow
import Derived.Laws.Tables
import Derived.Test.YtcmmfihhnmhhgaaAnchorMem
namespace Go.Proofs.Ytcmmfihhnmhhgaa
open Go.RowKit
set_option linter.unusedVariables false
set_option linter.unusedSimpArgs false
namespace AncW
open BlkP RowG FrS PushG AncP
open PlaceW (bcell below_drewN)

abbrev TT : TypeId := 26
theorem sizeTT : (Try.prog.info? TT).map (·.size) = some 8 := by kernel_rfl
theorem grown_row (w : World) (g : Nat) (cells : Array Value) : w.grownBy (w.setRow g cells) (some g) := ⟨rfl, rfl, rfl, by simp [World.setRow], fun k hk hne => by
  simp only [World.setRow, Array.getElem?_modify]
  rw [if_neg (fun e => hne (by rw [e]))]⟩
theorem calls_named {P : Program} {f : FuncId} {args : Array Value} {R : Ending → World → Prop} {W : World} (S : World → Prop) (h : S W) (k : ∀ W', S W' → Calls P f args W' R) : Calls P f args W R := k W h
theorem list_named {P : Program} {ops : Array Oper} {Q : Exit → Act → World → Prop} {rest : List Oper} {a : Act} {W : World} (S : World → Prop) (h : S W) (k : ∀ W', S W' → wpList P ops Q rest a W') : wpList P ops Q rest a W := k W h
theorem at_slot (t : Tmp) {P : Program} {w : World} {ops : Array Oper} {rest : List Oper} {a : Act} {Q : Exit → Act → World → Prop} {op : Op} {ty : TypeId} {pos : String} {af : _} {g : _} (h : wpList P ops Q ((⟨some t, op, ty, pos, af, g⟩ : Oper) :: rest) a w) : wpList P ops Q ((⟨some t, op, ty, pos, af, g⟩ : Oper) :: rest) a w := h
theorem at_storeT (T : TypeId) {x y : Operand} {P : Program} {w : World} {ops : Array Oper} {rest : List Oper} {a : Act} {Q : Exit → Act → World → Prop} {ty : TypeId} {pos : String} {af : _} {g : _} (h : wpList P ops Q ((⟨none, .store T x y, ty, pos, af, g⟩ : Oper) :: rest) a w) : wpList P ops Q ((⟨none, .store T x y, ty, pos, af, g⟩ : Oper) :: rest) a w := h
theorem wp_storeT {w : World} {ops : Array Oper} {rest : List Oper} {o : Oper} {a : Act} {Q : Exit → Act → World → Prop} (T : TypeId) (hgd : o.guard = none) (x y : Operand) (ho : o.op = .store T x y) {g : Nat} {vs us : List Value} {n : Nat} (hs : (Try.prog.info? T).map (·.size) = some n) (h1 : vs.toArray.all (·.oneCell') = true) (hn : vs.length = n) (hx : a.eval x = .pointer (some ⟨g, 0, none⟩)) (hy : a.eval y = .agg vs.toArray) (hk : Blk w g T us) (hu : us.length = n)
    (h : ∀ w', Blk w' g T vs → w.grownBy w' (some g) → w'.heap.size = w.heap.size → wpList Try.prog ops Q rest (a.put o.dst undef) w') : wpList Try.prog ops Q (o :: rest) a w := by
  refine wpList_plain hgd fun K hK => ?_
  refine wp_store_row (P := Try.prog) T x y ho g vs.toArray hx hy T us.toArray hk (by rw [hs]; simp [hn]) (by simp [hu, hn]) h1 ?_
  refine hK _ _ (h _ (setRow_heap w g us.toArray vs.toArray _ _ hk) (grown_row w g _) ?_)
  simp [World.setRow]
theorem wp_known {w : World} {ops : Array Oper} {rest : List Oper} {o : Oper} {a : Act} {Q : Exit → Act → World → Prop} (hgd : o.guard = none) {v : Value} (hr : (execOp a.eval o).run Try.prog w = .ok (.value v) w) (h : wpList Try.prog ops Q rest (a.put o.dst v) w) : wpList Try.prog ops Q (o :: rest) a w := by
  refine wpList_plain hgd fun K hK => ?_
  unfold Oper.wp
  rw [hr]
  exact hK _ _ h
def idB (n : Int) : Bool := decide (n = 0 ∨ n = 1)
def offA : An := ((0, 0, 0), false)
def putA (a b : An) (id : Int) (s : Int × Int × Int × Bool) : (An × An) × Int :=
  if id = 0 ∨ id = 1 then (if s.2.2.2 = true then (if id = 0 then (((s.1, s.2.1, s.2.2.1), true), b) else (a, ((s.1, s.2.1, s.2.2.1), true)), 0) else ((offA, offA), 10)) else ((offA, offA), 2)
def liftA (a b : An) (id : Int) : (An × An) × Int := if id = 0 ∨ id = 1 then (if id = 0 then (offA, b) else (a, offA), 0) else ((offA, offA), 2)
set_option maxRecDepth 100000 in
set_option maxHeartbeats 16000000 in
theorem isID_c {n : Int} {r : Bool} (h : idB n = r) (w : World) :
    Calls Try.prog 21 #[.int .i64 n] w fun e w' => e = .returned (.bool r) ∧ w = w' := by
  subst h
  by_cases h1 : 0 ≤ n
  · by_cases h2 : n < 2
    · have e : Hid (idB n = true) := Lib.hid (decide_eq_true (by omega))
      go_enter Try.func21, Try.ntmps21
      go_wp2
      go_ret
      exact ⟨by rw [e.out]; rfl, rfl⟩
    · have e : Hid (idB n = false) := Lib.hid (decide_eq_false (by omega))
      go_enter Try.func21, Try.ntmps21
      go_wp2
      go_ret
      exact ⟨by rw [e.out]; rfl, rfl⟩
  · have e : Hid (idB n = false) := Lib.hid (decide_eq_false (by omega))
    go_enter Try.func21, Try.ntmps21
    go_wp2
    go_ret
    exact ⟨by rw [e.out]; rfl, rfl⟩
set_option maxRecDepth 100000 in
set_option maxHeartbeats 16000000 in
theorem isBeside_c {n m : Int} {r : Bool} (h1 : -65536 ≤ n) (h2 : n < 65536) (h : by1 m n = r) (w : World) :
    Calls Try.prog 28 #[.int .i64 n, .int .i64 m] w fun e w' => e = .returned (.bool r) ∧ w = w' := by
  subst h
  have w1 : wrap64 (n - 1) = n - 1 := by unfold wrap64; omega
  have w2 : wrap64 (n + 1) = n + 1 := by unfold wrap64; omega
  by_cases a1 : n - 1 ≤ m
  · by_cases a2 : m ≤ n + 1
    · have e : Hid (by1 m n = true) := Lib.hid (by1_iff.2 (by omega))
      go_enter Try.func28, Try.ntmps28
      go_wp2
      go_ret
      exact ⟨by rw [e.out]; rfl, rfl⟩
    · have e : Hid (by1 m n = false) := Lib.hid (by rw [← Bool.not_eq_true, by1_iff]; omega)
      go_enter Try.func28, Try.ntmps28
      go_wp2
      go_ret
      exact ⟨by rw [e.out]; rfl, rfl⟩
  · have e : Hid (by1 m n = false) := Lib.hid (by rw [← Bool.not_eq_true, by1_iff]; omega)
    go_enter Try.func28, Try.ntmps28
    go_wp2
    go_ret
    exact ⟨by rw [e.out]; rfl, rfl⟩
set_option maxRecDepth 100000 in
set_option maxHeartbeats 16000000 in
theorem by1_c {n m : Int} {r : Bool} (h1 : -65536 ≤ n) (h2 : n < 65536) (i1 : -9223372036854775808 ≤ m) (i2 : m < 9223372036854775808) (h : by1 m n = r) (w : World) :
    Calls Try.prog 30 #[.int .i64 m, .int .i64 n] w fun e w' => e = .returned (.bool r) ∧ w = w' := by
  by_cases e0 : m = n
  · have e0' : (m == n) = true := by simp [e0]
    obtain rfl : true = r := by rw [← h]; symm; exact by1_iff.2 (by omega)
    clear h
    go_enter Try.func30, Try.ntmps30
    go_wp2
    go_ret
    exact ⟨rfl, rfl⟩
  · have e0' : (m == n) = false := by simp [e0]
    by_cases lt : m < n
    · have gt : ¬ n < m := by omega
      have w1 : wrap64 (n - 1) = n - 1 := by unfold wrap64; omega
      by_cases e1 : m = n - 1
      · have e1' : (m == n - 1) = true := by simp [e1]
        obtain rfl : true = r := by rw [← h]; symm; exact by1_iff.2 (by omega)
        clear h
        go_enter Try.func30, Try.ntmps30
        go_wp2
        go_ret
        exact ⟨rfl, rfl⟩
      · have e1' : (m == n - 1) = false := by simp [e1]
        obtain rfl : false = r := by rw [← h]; symm; rw [← Bool.not_eq_true, by1_iff]; omega
        clear h
        go_enter Try.func30, Try.ntmps30
        go_wp2
        go_ret
        exact ⟨rfl, rfl⟩
    · have gt : n < m := by omega
      have w1 : wrap64 (m - 1) = m - 1 := by unfold wrap64; omega
      by_cases e1 : n = m - 1
      · have e1' : (n == m - 1) = true := by simp [e1]
        obtain rfl : true = r := by rw [← h]; symm; exact by1_iff.2 (by omega)
        clear h
        go_enter Try.func30, Try.ntmps30
        go_wp2
        go_ret
        exact ⟨rfl, rfl⟩
      · have e1' : (n == m - 1) = false := by simp [e1]
        obtain rfl : false = r := by rw [← h]; symm; rw [← Bool.not_eq_true, by1_iff]; omega
        clear h
        go_enter Try.func30, Try.ntmps30
        go_wp2
        go_ret
        exact ⟨rfl, rfl⟩
set_option maxRecDepth 100000 in
set_option maxHeartbeats 16000000 in
theorem in1_c {a : An} {x y z : Int} {bs : Nat} (hs : -65536 ≤ x ∧ x < 65536 ∧ -65536 ≤ z ∧ z < 65536) {w : World} (hb : Blk w bs TS [.int .i64 x, .int .i64 y, .int .i64 z]) :
    Calls Try.prog 27 #[.agg #[.int .i64 a.1.1, .int .i64 a.1.2.1, .int .i64 a.1.2.2, .bool a.2], .pointer (some ⟨bs, 0, none⟩)] w fun e w' => e = .returned (.bool (besides a (x, y, z))) ∧ Below w.heap.size w w' := by
  obtain ⟨⟨ax, ay, az⟩, ao⟩ := a
  have HS := Lib.hid hs
  have c0 := hb.cell (i := 0) rfl
  have c2 := hb.cell (i := 2) rfl
  have bl := hb.lt
  cases ao with
  | false =>
    clear hs hb
    go_enter Try.func27, Try.ntmps27
    go_wp2_with (go_at_call 28; (first | (with_reducible refine (isBeside_c HS.out.1 HS.out.2.1 HX.out _).mono ?_) | (with_reducible refine (isBeside_c HS.out.2.2.1 HS.out.2.2.2 HZ.out _).mono ?_)); rintro e w' ⟨rfl, rfl⟩)
    go_ret
    exact ⟨by simp [besides, Bool.false_and], by (repeat' (first | (with_reducible exact Below.refl _ _) | (with_reducible refine Below.setCell ?_ (by (first | omega | (simp; done) | (simp; omega))) _) | (with_reducible refine Below.alloc ?_ (by (first | omega | (simp; done) | (simp; omega))) _) | (with_reducible refine Below.drew ?_) | (with_reducible refine below_drewN ?_ _)))⟩
  | true =>
    cases hx : by1 ax x with
    | false =>
      have HX := Lib.hid hx
      clear hx
      clear hs hb
      go_enter Try.func27, Try.ntmps27
      go_wp2_with (go_at_call 28; (first | (with_reducible refine (isBeside_c HS.out.1 HS.out.2.1 HX.out _).mono ?_) | (with_reducible refine (isBeside_c HS.out.2.2.1 HS.out.2.2.2 HZ.out _).mono ?_)); rintro e w' ⟨rfl, rfl⟩)
      go_ret
      exact ⟨by simp [besides, HX.out], by (repeat' (first | (with_reducible exact Below.refl _ _) | (with_reducible refine Below.setCell ?_ (by (first | omega | (simp; done) | (simp; omega))) _) | (with_reducible refine Below.alloc ?_ (by (first | omega | (simp; done) | (simp; omega))) _) | (with_reducible refine Below.drew ?_) | (with_reducible refine below_drewN ?_ _)))⟩
    | true =>
      have HX := Lib.hid hx
      clear hx
      cases hz : by1 az z <;>
      · have HZ := Lib.hid hz
        clear hz
        clear hs hb
        go_enter Try.func27, Try.ntmps27
        go_wp2_with (go_at_call 28; (first | (with_reducible refine (isBeside_c HS.out.1 HS.out.2.1 HX.out _).mono ?_) | (with_reducible refine (isBeside_c HS.out.2.2.1 HS.out.2.2.2 HZ.out _).mono ?_)); rintro e w' ⟨rfl, rfl⟩)
        go_ret
        exact ⟨by simp [besides, HX.out, HZ.out], by (repeat' (first | (with_reducible exact Below.refl _ _) | (with_reducible refine Below.setCell ?_ (by (first | omega | (simp; done) | (simp; omega))) _) | (with_reducible refine Below.alloc ?_ (by (first | omega | (simp; done) | (simp; omega))) _) | (with_reducible refine Below.drew ?_) | (with_reducible refine below_drewN ?_ _)))⟩
set_option maxRecDepth 100000 in
set_option maxHeartbeats 16000000 in
theorem on_c {x y z : Int} (w : World) :
    Calls Try.prog 17 #[.int .i64 x, .int .i64 y, .int .i64 z] w fun e w' => e = .returned (.agg #[.int .i64 x, .int .i64 y, .int .i64 z, .bool true]) ∧ Below w.heap.size w w' := by
  go_enter Try.func17, Try.ntmps17
  go_wp2
  refine bodyPost_ret (v := .agg #[.int .i64 x, .int .i64 y, .int .i64 z, .bool true]) (by simp [results, Try.results17, go_sem]) rfl ?_
  exact ⟨rfl, by (repeat' (first | (with_reducible exact Below.refl _ _) | (with_reducible refine Below.setCell ?_ (by (first | omega | (simp; done) | (simp; omega))) _) | (with_reducible refine Below.alloc ?_ (by (first | omega | (simp; done) | (simp; omega))) _) | (with_reducible refine Below.drew ?_) | (with_reducible refine below_drewN ?_ _)))⟩
set_option maxRecDepth 100000 in
set_option maxHeartbeats 16000000 in
theorem Put_c {a b c d : An} {id n x y z : Int} (h : putA a b id (PlaceW.spotOf x y z) = ((c, d), n)) (w : World) :
    Calls Try.prog 7 #[.agg #[.int .i64 a.1.1, .int .i64 a.1.2.1, .int .i64 a.1.2.2, .bool a.2, .int .i64 b.1.1, .int .i64 b.1.2.1, .int .i64 b.1.2.2, .bool b.2], .int .i64 id, .agg #[.int .i64 x, .int .i64 y, .int .i64 z]] w fun e w' => e = .returned (.tuple #[.agg #[.int .i64 c.1.1, .int .i64 c.1.2.1, .int .i64 c.1.2.2, .bool c.2, .int .i64 d.1.1, .int .i64 d.1.2.1, .int .i64 d.1.2.2, .bool d.2], .int .i64 n]) ∧ Below w.heap.size w w' := by
  obtain ⟨⟨ax, ay, az⟩, ao⟩ := a
  obtain ⟨⟨bx, by', bz⟩, bo⟩ := b
  obtain ⟨⟨X, Y, Z, r⟩, hp⟩ : ∃ s, PlaceW.spotOf x y z = s := ⟨_, rfl⟩
  have HP := Lib.hid hp
  by_cases hid : id = 0 ∨ id = 1
  · have HI := Lib.hid (show idB id = true from decide_eq_true hid)
    cases r with
    | false =>
      obtain ⟨⟨rfl, rfl⟩, rfl⟩ : (offA = c ∧ offA = d) ∧ 10 = n := by simpa [putA, hp, hid] using h
      rcases hid with rfl | rfl <;>
      · clear h hp
        obtain ⟨s, hs⟩ : ∃ s, w.heap.size = s := ⟨_, rfl⟩
        have HS := Lib.hid hs
        go_enter Try.func7, Try.ntmps7
        go_wp2_with fail
        refine (isID_c HI.out _).mono ?_
        rintro e w' ⟨rfl, rfl⟩
        go_wp2_with fail
        refine calls_named (S := fun W => Below w.heap.size w W ∧ s + 3 ≤ W.heap.size ∧ Blk W s TT [.int .i64 ax, .int .i64 ay, .int .i64 az, .bool ao, .int .i64 bx, .int .i64 by', .int .i64 bz, .bool bo] ∧ Blk W (s + 2) TT [.int .i64 0, .int .i64 0, .int .i64 0, .bool false, .int .i64 0, .int .i64 0, .int .i64 0, .bool false]) ⟨by (repeat' (first | (with_reducible exact Below.refl _ _) | (with_reducible refine Below.setCell ?_ (by (first | omega | (simp; done) | (simp; omega))) _) | (with_reducible refine Below.alloc ?_ (by (first | omega | (simp; done) | (simp; omega))) _) | (with_reducible refine Below.drew ?_) | (with_reducible refine below_drewN ?_ _))), by simp; omega, by subst hs; (repeat' (first | (with_reducible refine BlkP.Blk.drew ?_) | (with_reducible refine BlkP.Blk.drewN ?_ _) | (with_reducible refine BlkP.Blk.setAt (us := ?_) (by first | omega | (simp; done) | (simp; omega)) rfl ?_ ?_) | (with_reducible refine BlkP.Blk.otherAt ?_ (by first | omega | (simp; done) | (simp; omega))) | (with_reducible refine BlkP.Blk.newA' (by first | omega | (simp; done) | (simp; omega)) rfl) | (with_reducible refine BlkP.Blk.alloc ?_ _) | (exact rfl))), by subst hs; (repeat' (first | (with_reducible refine BlkP.Blk.drew ?_) | (with_reducible refine BlkP.Blk.drewN ?_ _) | (with_reducible refine BlkP.Blk.setAt (us := ?_) (by first | omega | (simp; done) | (simp; omega)) rfl ?_ ?_) | (with_reducible refine BlkP.Blk.otherAt ?_ (by first | omega | (simp; done) | (simp; omega))) | (with_reducible refine BlkP.Blk.newA' (by first | omega | (simp; done) | (simp; omega)) rfl) | (with_reducible refine BlkP.Blk.alloc ?_ _) | (exact rfl)))⟩ ?_
        rintro w1 ⟨hb1, hz1, h1, h2⟩
        have B1 := Lib.hid hb1
        refine (PlaceW.spot_c HP.out _).mono ?_
        rintro e w2 ⟨rfl, hb2⟩
        have B2 := Lib.hid (below_t hb1 hb2)
        have K1 := Lib.hid (h1.below hb2)
        have K2 := Lib.hid (h2.below hb2)
        have hz2 := hb2.size
        clear hb1 h1 h2 hb2
        have kl := K2.out.lt
        go_wp2_with ((with_reducible refine at_storeT TT ?_); refine Classical.byContradiction (fun hG => ?_))
        refine hG ?_
        clear hG
        refine list_named (S := fun W => Below w.heap.size w W ∧ Blk W (s + 2) TT [.int .i64 0, .int .i64 0, .int .i64 0, .bool false, .int .i64 0, .int .i64 0, .int .i64 0, .bool false]) ⟨by (repeat' (first | (with_reducible exact Below.refl _ _) | (with_reducible refine Below.setCell ?_ (by (first | omega | (simp; done) | (simp; omega))) _) | (with_reducible refine Below.alloc ?_ (by (first | omega | (simp; done) | (simp; omega))) _) | (with_reducible refine Below.drew ?_) | (with_reducible refine below_drewN ?_ _) | (with_reducible refine Below.trans ?_ (Below.mono B2.out (by (first | omega | (simp; done) | (simp; omega))))))), by (repeat' (first | (with_reducible exact K2.out) | (with_reducible refine BlkP.Blk.drew ?_) | (with_reducible refine BlkP.Blk.drewN ?_ _) | (with_reducible refine BlkP.Blk.setAt (us := ?_) (by first | omega | (simp; done) | (simp; omega)) rfl ?_ ?_) | (with_reducible refine BlkP.Blk.otherAt ?_ (by first | omega | (simp; done) | (simp; omega))) | (with_reducible refine BlkP.Blk.newA' (by first | omega | (simp; done) | (simp; omega)) rfl) | (with_reducible refine BlkP.Blk.alloc ?_ _) | (exact rfl)))⟩ ?_
        rintro w3 ⟨hb3, h3⟩
        refine wp_storeT TT rfl (.tmp 6) (.tmp 21) rfl sizeTT (vs := [.int .i64 0, .int .i64 0, .int .i64 0, .bool false, .int .i64 0, .int .i64 0, .int .i64 0, .bool false]) (us := [.int .i64 0, .int .i64 0, .int .i64 0, .bool false, .int .i64 0, .int .i64 0, .int .i64 0, .bool false]) (n := 8) (by simp [Value.oneCell']) rfl rfl rfl h3 rfl ?_
        intro w4 h4 hg4 hz4
        have B4 := Lib.hid (show Below w.heap.size w w4 from hb3.grown hg4 hb3.size (fun k hk => by cases hk; have := HS.out; omega))
        have d0 := h4.cell (i := 0) rfl
        have df0 := h4.frozen 0
        have d1 := h4.cell (i := 1) rfl
        have df1 := h4.frozen 1
        have d2 := h4.cell (i := 2) rfl
        have df2 := h4.frozen 2
        have d3 := h4.cell (i := 3) rfl
        have df3 := h4.frozen 3
        have d4 := h4.cell (i := 4) rfl
        have df4 := h4.frozen 4
        have d5 := h4.cell (i := 5) rfl
        have df5 := h4.frozen 5
        have d6 := h4.cell (i := 6) rfl
        have df6 := h4.frozen 6
        have d7 := h4.cell (i := 7) rfl
        have df7 := h4.frozen 7
        clear hg4 hb3 h3
        go_wp2_with fail
        refine bodyPost_ret (v := .tuple #[.agg #[.int .i64 0, .int .i64 0, .int .i64 0, .bool false, .int .i64 0, .int .i64 0, .int .i64 0, .bool false], .int .i64 10]) (by simp [results, Try.results7, go_sem, d0, d1, d2, d3, d4, d5, d6, d7]) rfl ?_
        exact ⟨rfl, B4.out⟩
    | true =>
      rcases hid with rfl | rfl
      · obtain ⟨⟨rfl, rfl⟩, rfl⟩ : (((X, Y, Z), true) = c ∧ ((bx, by', bz), bo) = d) ∧ 0 = n := by simpa [putA, hp] using h
        clear h hp
        obtain ⟨s, hs⟩ : ∃ s, w.heap.size = s := ⟨_, rfl⟩
        have HS := Lib.hid hs
        go_enter Try.func7, Try.ntmps7
        go_wp2_with fail
        refine (isID_c HI.out _).mono ?_
        rintro e w' ⟨rfl, rfl⟩
        go_wp2_with fail
        refine calls_named (S := fun W => Below w.heap.size w W ∧ s + 3 ≤ W.heap.size ∧ Blk W s TT [.int .i64 ax, .int .i64 ay, .int .i64 az, .bool ao, .int .i64 bx, .int .i64 by', .int .i64 bz, .bool bo] ∧ Blk W (s + 2) TT [.int .i64 0, .int .i64 0, .int .i64 0, .bool false, .int .i64 0, .int .i64 0, .int .i64 0, .bool false]) ⟨by (repeat' (first | (with_reducible exact Below.refl _ _) | (with_reducible refine Below.setCell ?_ (by (first | omega | (simp; done) | (simp; omega))) _) | (with_reducible refine Below.alloc ?_ (by (first | omega | (simp; done) | (simp; omega))) _) | (with_reducible refine Below.drew ?_) | (with_reducible refine below_drewN ?_ _))), by simp; omega, by subst hs; (repeat' (first | (with_reducible refine BlkP.Blk.drew ?_) | (with_reducible refine BlkP.Blk.drewN ?_ _) | (with_reducible refine BlkP.Blk.setAt (us := ?_) (by first | omega | (simp; done) | (simp; omega)) rfl ?_ ?_) | (with_reducible refine BlkP.Blk.otherAt ?_ (by first | omega | (simp; done) | (simp; omega))) | (with_reducible refine BlkP.Blk.newA' (by first | omega | (simp; done) | (simp; omega)) rfl) | (with_reducible refine BlkP.Blk.alloc ?_ _) | (exact rfl))), by subst hs; (repeat' (first | (with_reducible refine BlkP.Blk.drew ?_) | (with_reducible refine BlkP.Blk.drewN ?_ _) | (with_reducible refine BlkP.Blk.setAt (us := ?_) (by first | omega | (simp; done) | (simp; omega)) rfl ?_ ?_) | (with_reducible refine BlkP.Blk.otherAt ?_ (by first | omega | (simp; done) | (simp; omega))) | (with_reducible refine BlkP.Blk.newA' (by first | omega | (simp; done) | (simp; omega)) rfl) | (with_reducible refine BlkP.Blk.alloc ?_ _) | (exact rfl)))⟩ ?_
        rintro w1 ⟨hb1, hz1, h1, h2⟩
        have B1 := Lib.hid hb1
        refine (PlaceW.spot_c HP.out _).mono ?_
        rintro e w2 ⟨rfl, hb2⟩
        have B2 := Lib.hid (below_t hb1 hb2)
        have K1 := Lib.hid (h1.below hb2)
        have K2 := Lib.hid (h2.below hb2)
        have hz2 := hb2.size
        clear hb1 h1 h2 hb2
        have c0 := K1.out.cell (i := 0) rfl
        have cf0 := K1.out.frozen 0
        have c1 := K1.out.cell (i := 1) rfl
        have cf1 := K1.out.frozen 1
        have c2 := K1.out.cell (i := 2) rfl
        have cf2 := K1.out.frozen 2
        have c3 := K1.out.cell (i := 3) rfl
        have cf3 := K1.out.frozen 3
        have c4 := K1.out.cell (i := 4) rfl
        have cf4 := K1.out.frozen 4
        have c5 := K1.out.cell (i := 5) rfl
        have cf5 := K1.out.frozen 5
        have c6 := K1.out.cell (i := 6) rfl
        have cf6 := K1.out.frozen 6
        have c7 := K1.out.cell (i := 7) rfl
        have cf7 := K1.out.frozen 7
        have kl := K1.out.lt
        go_wp2_with ((with_reducible refine at_slot 26 ?_); refine Classical.byContradiction (fun hG => ?_))
        refine hG ?_
        clear hG
        refine list_named (S := fun W => Below w.heap.size w W ∧ Blk W s TT [.int .i64 X, .int .i64 Y, .int .i64 Z, .bool true, .int .i64 bx, .int .i64 by', .int .i64 bz, .bool bo] ∧ Blk W (s + 2) TT [.int .i64 0, .int .i64 0, .int .i64 0, .bool false, .int .i64 0, .int .i64 0, .int .i64 0, .bool false]) ⟨by (repeat' (first | (with_reducible exact Below.refl _ _) | (with_reducible refine Below.setCell ?_ (by (first | omega | (simp; done) | (simp; omega))) _) | (with_reducible refine Below.alloc ?_ (by (first | omega | (simp; done) | (simp; omega))) _) | (with_reducible refine Below.drew ?_) | (with_reducible refine below_drewN ?_ _) | (with_reducible refine Below.trans ?_ (Below.mono B2.out (by (first | omega | (simp; done) | (simp; omega))))))), by (repeat' (first | (with_reducible exact K1.out) | (with_reducible refine BlkP.Blk.drew ?_) | (with_reducible refine BlkP.Blk.drewN ?_ _) | (with_reducible refine BlkP.Blk.setAt (us := ?_) (by first | omega | (simp; done) | (simp; omega)) rfl ?_ ?_) | (with_reducible refine BlkP.Blk.otherAt ?_ (by first | omega | (simp; done) | (simp; omega))) | (with_reducible refine BlkP.Blk.newA' (by first | omega | (simp; done) | (simp; omega)) rfl) | (with_reducible refine BlkP.Blk.alloc ?_ _) | (exact rfl))), by (repeat' (first | (with_reducible exact K2.out) | (with_reducible refine BlkP.Blk.drew ?_) | (with_reducible refine BlkP.Blk.drewN ?_ _) | (with_reducible refine BlkP.Blk.setAt (us := ?_) (by first | omega | (simp; done) | (simp; omega)) rfl ?_ ?_) | (with_reducible refine BlkP.Blk.otherAt ?_ (by first | omega | (simp; done) | (simp; omega))) | (with_reducible refine BlkP.Blk.newA' (by first | omega | (simp; done) | (simp; omega)) rfl) | (with_reducible refine BlkP.Blk.alloc ?_ _) | (exact rfl)))⟩ ?_
        rintro w3 ⟨hb3, h3, g3⟩
        have B3 := Lib.hid hb3
        have G3 := Lib.hid g3
        clear c0 cf0 c1 cf1 c2 cf2 c3 cf3 c4 cf4 c5 cf5 c6 cf6 c7 cf7 kl hb3 g3
        have c0 := h3.cell (i := 0) rfl
        have cf0 := h3.frozen 0
        have c1 := h3.cell (i := 1) rfl
        have cf1 := h3.frozen 1
        have c2 := h3.cell (i := 2) rfl
        have cf2 := h3.frozen 2
        have c3 := h3.cell (i := 3) rfl
        have cf3 := h3.frozen 3
        have c4 := h3.cell (i := 4) rfl
        have cf4 := h3.frozen 4
        have c5 := h3.cell (i := 5) rfl
        have cf5 := h3.frozen 5
        have c6 := h3.cell (i := 6) rfl
        have cf6 := h3.frozen 6
        have c7 := h3.cell (i := 7) rfl
        have cf7 := h3.frozen 7
        have kl := h3.lt
        go_wp2_with ((with_reducible refine at_storeT TT ?_); refine Classical.byContradiction (fun hG => ?_))
        refine hG ?_
        clear hG
        refine wp_storeT TT rfl (.tmp 6) (.tmp 26) rfl sizeTT (vs := [.int .i64 X, .int .i64 Y, .int .i64 Z, .bool true, .int .i64 bx, .int .i64 by', .int .i64 bz, .bool bo]) (us := [.int .i64 0, .int .i64 0, .int .i64 0, .bool false, .int .i64 0, .int .i64 0, .int .i64 0, .bool false]) (n := 8) (by simp [Value.oneCell']) rfl rfl rfl G3.out rfl ?_
        intro w4 h4 hg4 hz4
        have B4 := Lib.hid (show Below w.heap.size w w4 from B3.out.grown hg4 B3.out.size (fun k hk => by cases hk; have := HS.out; omega))
        clear c0 cf0 c1 cf1 c2 cf2 c3 cf3 c4 cf4 c5 cf5 c6 cf6 c7 cf7 kl h3
        have d0 := h4.cell (i := 0) rfl
        have df0 := h4.frozen 0
        have d1 := h4.cell (i := 1) rfl
        have df1 := h4.frozen 1
        have d2 := h4.cell (i := 2) rfl
        have df2 := h4.frozen 2
        have d3 := h4.cell (i := 3) rfl
        have df3 := h4.frozen 3
        have d4 := h4.cell (i := 4) rfl
        have df4 := h4.frozen 4
        have d5 := h4.cell (i := 5) rfl
        have df5 := h4.frozen 5
        have d6 := h4.cell (i := 6) rfl
        have df6 := h4.frozen 6
        have d7 := h4.cell (i := 7) rfl
        have df7 := h4.frozen 7
        clear hg4
        go_wp2_with fail
        refine bodyPost_ret (v := .tuple #[.agg #[.int .i64 X, .int .i64 Y, .int .i64 Z, .bool true, .int .i64 bx, .int .i64 by', .int .i64 bz, .bool bo], .int .i64 0]) (by simp [results, Try.results7, go_sem, d0, d1, d2, d3, d4, d5, d6, d7]) rfl ?_
        exact ⟨rfl, B4.out⟩
      · obtain ⟨⟨rfl, rfl⟩, rfl⟩ : (((ax, ay, az), ao) = c ∧ ((X, Y, Z), true) = d) ∧ 0 = n := by simpa [putA, hp] using h
        clear h hp
        obtain ⟨s, hs⟩ : ∃ s, w.heap.size = s := ⟨_, rfl⟩
        have HS := Lib.hid hs
        go_enter Try.func7, Try.ntmps7
        go_wp2_with fail
        refine (isID_c HI.out _).mono ?_
        rintro e w' ⟨rfl, rfl⟩
        go_wp2_with fail
        refine calls_named (S := fun W => Below w.heap.size w W ∧ s + 3 ≤ W.heap.size ∧ Blk W s TT [.int .i64 ax, .int .i64 ay, .int .i64 az, .bool ao, .int .i64 bx, .int .i64 by', .int .i64 bz, .bool bo] ∧ Blk W (s + 2) TT [.int .i64 0, .int .i64 0, .int .i64 0, .bool false, .int .i64 0, .int .i64 0, .int .i64 0, .bool false]) ⟨by (repeat' (first | (with_reducible exact Below.refl _ _) | (with_reducible refine Below.setCell ?_ (by (first | omega | (simp; done) | (simp; omega))) _) | (with_reducible refine Below.alloc ?_ (by (first | omega | (simp; done) | (simp; omega))) _) | (with_reducible refine Below.drew ?_) | (with_reducible refine below_drewN ?_ _))), by simp; omega, by subst hs; (repeat' (first | (with_reducible refine BlkP.Blk.drew ?_) | (with_reducible refine BlkP.Blk.drewN ?_ _) | (with_reducible refine BlkP.Blk.setAt (us := ?_) (by first | omega | (simp; done) | (simp; omega)) rfl ?_ ?_) | (with_reducible refine BlkP.Blk.otherAt ?_ (by first | omega | (simp; done) | (simp; omega))) | (with_reducible refine BlkP.Blk.newA' (by first | omega | (simp; done) | (simp; omega)) rfl) | (with_reducible refine BlkP.Blk.alloc ?_ _) | (exact rfl))), by subst hs; (repeat' (first | (with_reducible refine BlkP.Blk.drew ?_) | (with_reducible refine BlkP.Blk.drewN ?_ _) | (with_reducible refine BlkP.Blk.setAt (us := ?_) (by first | omega | (simp; done) | (simp; omega)) rfl ?_ ?_) | (with_reducible refine BlkP.Blk.otherAt ?_ (by first | omega | (simp; done) | (simp; omega))) | (with_reducible refine BlkP.Blk.newA' (by first | omega | (simp; done) | (simp; omega)) rfl) | (with_reducible refine BlkP.Blk.alloc ?_ _) | (exact rfl)))⟩ ?_
        rintro w1 ⟨hb1, hz1, h1, h2⟩
        have B1 := Lib.hid hb1
        refine (PlaceW.spot_c HP.out _).mono ?_
        rintro e w2 ⟨rfl, hb2⟩
        have B2 := Lib.hid (below_t hb1 hb2)
        have K1 := Lib.hid (h1.below hb2)
        have K2 := Lib.hid (h2.below hb2)
        have hz2 := hb2.size
        clear hb1 h1 h2 hb2
        have c0 := K1.out.cell (i := 0) rfl
        have cf0 := K1.out.frozen 0
        have c1 := K1.out.cell (i := 1) rfl
        have cf1 := K1.out.frozen 1
        have c2 := K1.out.cell (i := 2) rfl
        have cf2 := K1.out.frozen 2
        have c3 := K1.out.cell (i := 3) rfl
        have cf3 := K1.out.frozen 3
        have c4 := K1.out.cell (i := 4) rfl
        have cf4 := K1.out.frozen 4
        have c5 := K1.out.cell (i := 5) rfl
        have cf5 := K1.out.frozen 5
        have c6 := K1.out.cell (i := 6) rfl
        have cf6 := K1.out.frozen 6
        have c7 := K1.out.cell (i := 7) rfl
        have cf7 := K1.out.frozen 7
        have kl := K1.out.lt
        go_wp2_with ((with_reducible refine at_slot 26 ?_); refine Classical.byContradiction (fun hG => ?_))
        refine hG ?_
        clear hG
        refine list_named (S := fun W => Below w.heap.size w W ∧ Blk W s TT [.int .i64 ax, .int .i64 ay, .int .i64 az, .bool ao, .int .i64 X, .int .i64 Y, .int .i64 Z, .bool true] ∧ Blk W (s + 2) TT [.int .i64 0, .int .i64 0, .int .i64 0, .bool false, .int .i64 0, .int .i64 0, .int .i64 0, .bool false]) ⟨by (repeat' (first | (with_reducible exact Below.refl _ _) | (with_reducible refine Below.setCell ?_ (by (first | omega | (simp; done) | (simp; omega))) _) | (with_reducible refine Below.alloc ?_ (by (first | omega | (simp; done) | (simp; omega))) _) | (with_reducible refine Below.drew ?_) | (with_reducible refine below_drewN ?_ _) | (with_reducible refine Below.trans ?_ (Below.mono B2.out (by (first | omega | (simp; done) | (simp; omega))))))), by (repeat' (first | (with_reducible exact K1.out) | (with_reducible refine BlkP.Blk.drew ?_) | (with_reducible refine BlkP.Blk.drewN ?_ _) | (with_reducible refine BlkP.Blk.setAt (us := ?_) (by first | omega | (simp; done) | (simp; omega)) rfl ?_ ?_) | (with_reducible refine BlkP.Blk.otherAt ?_ (by first | omega | (simp; done) | (simp; omega))) | (with_reducible refine BlkP.Blk.newA' (by first | omega | (simp; done) | (simp; omega)) rfl) | (with_reducible refine BlkP.Blk.alloc ?_ _) | (exact rfl))), by (repeat' (first | (with_reducible exact K2.out) | (with_reducible refine BlkP.Blk.drew ?_) | (with_reducible refine BlkP.Blk.drewN ?_ _) | (with_reducible refine BlkP.Blk.setAt (us := ?_) (by first | omega | (simp; done) | (simp; omega)) rfl ?_ ?_) | (with_reducible refine BlkP.Blk.otherAt ?_ (by first | omega | (simp; done) | (simp; omega))) | (with_reducible refine BlkP.Blk.newA' (by first | omega | (simp; done) | (simp; omega)) rfl) | (with_reducible refine BlkP.Blk.alloc ?_ _) | (exact rfl)))⟩ ?_
        rintro w3 ⟨hb3, h3, g3⟩
        have B3 := Lib.hid hb3
        have G3 := Lib.hid g3
        clear c0 cf0 c1 cf1 c2 cf2 c3 cf3 c4 cf4 c5 cf5 c6 cf6 c7 cf7 kl hb3 g3
        have c0 := h3.cell (i := 0) rfl
        have cf0 := h3.frozen 0
        have c1 := h3.cell (i := 1) rfl
        have cf1 := h3.frozen 1
        have c2 := h3.cell (i := 2) rfl
        have cf2 := h3.frozen 2
        have c3 := h3.cell (i := 3) rfl
        have cf3 := h3.frozen 3
        have c4 := h3.cell (i := 4) rfl
        have cf4 := h3.frozen 4
        have c5 := h3.cell (i := 5) rfl
        have cf5 := h3.frozen 5
        have c6 := h3.cell (i := 6) rfl
        have cf6 := h3.frozen 6
        have c7 := h3.cell (i := 7) rfl
        have cf7 := h3.frozen 7
        have kl := h3.lt
        go_wp2_with ((with_reducible refine at_storeT TT ?_); refine Classical.byContradiction (fun hG => ?_))
        refine hG ?_
        clear hG
        refine wp_storeT TT rfl (.tmp 6) (.tmp 26) rfl sizeTT (vs := [.int .i64 ax, .int .i64 ay, .int .i64 az, .bool ao, .int .i64 X, .int .i64 Y, .int .i64 Z, .bool true]) (us := [.int .i64 0, .int .i64 0, .int .i64 0, .bool false, .int .i64 0, .int .i64 0, .int .i64 0, .bool false]) (n := 8) (by simp [Value.oneCell']) rfl rfl rfl G3.out rfl ?_
        intro w4 h4 hg4 hz4
        have B4 := Lib.hid (show Below w.heap.size w w4 from B3.out.grown hg4 B3.out.size (fun k hk => by cases hk; have := HS.out; omega))
        clear c0 cf0 c1 cf1 c2 cf2 c3 cf3 c4 cf4 c5 cf5 c6 cf6 c7 cf7 kl h3
        have d0 := h4.cell (i := 0) rfl
        have df0 := h4.frozen 0
        have d1 := h4.cell (i := 1) rfl
        have df1 := h4.frozen 1
        have d2 := h4.cell (i := 2) rfl
        have df2 := h4.frozen 2
        have d3 := h4.cell (i := 3) rfl
        have df3 := h4.frozen 3
        have d4 := h4.cell (i := 4) rfl
        have df4 := h4.frozen 4
        have d5 := h4.cell (i := 5) rfl
        have df5 := h4.frozen 5
        have d6 := h4.cell (i := 6) rfl
        have df6 := h4.frozen 6
        have d7 := h4.cell (i := 7) rfl
        have df7 := h4.frozen 7
        clear hg4
        go_wp2_with fail
        refine bodyPost_ret (v := .tuple #[.agg #[.int .i64 ax, .int .i64 ay, .int .i64 az, .bool ao, .int .i64 X, .int .i64 Y, .int .i64 Z, .bool true], .int .i64 0]) (by simp [results, Try.results7, go_sem, d0, d1, d2, d3, d4, d5, d6, d7]) rfl ?_
        exact ⟨rfl, B4.out⟩
  · have HI := Lib.hid (show idB id = false from decide_eq_false hid)
    have n0 : (id != 0) = true := by simp; omega
    have n1 : (id != 1) = true := by simp; omega
    obtain ⟨⟨rfl, rfl⟩, rfl⟩ : (offA = c ∧ offA = d) ∧ 2 = n := by simpa [putA, hid] using h
    clear h hp
    go_enter Try.func7, Try.ntmps7
    go_wp2_with fail
    refine (isID_c HI.out _).mono ?_
    rintro e w' ⟨rfl, rfl⟩
    go_wp2_with fail
    refine bodyPost_ret (v := .tuple #[.agg #[.int .i64 0, .int .i64 0, .int .i64 0, .bool false, .int .i64 0, .int .i64 0, .int .i64 0, .bool false], .int .i64 2]) (by simp [results, Try.results7, go_sem]) rfl ?_
    refine ⟨rfl, ?_⟩
    (repeat' (first | (with_reducible exact Below.refl _ _) | (with_reducible refine Below.setCell ?_ (by (first | omega | (simp; done) | (simp; omega))) _) | (with_reducible refine Below.alloc ?_ (by (first | omega | (simp; done) | (simp; omega))) _) | (with_reducible refine Below.drew ?_) | (with_reducible refine below_drewN ?_ _)))
set_option maxRecDepth 100000 in
set_option maxHeartbeats 16000000 in
theorem rPut_c {a b c d : An} {id n x y z : Int} (h : putA a b id (PlaceW.spotOf x y z) = ((c, d), n)) (w : World) :
    Calls Try.prog 8 #[.agg #[.int .i64 a.1.1, .int .i64 a.1.2.1, .int .i64 a.1.2.2, .bool a.2, .int .i64 b.1.1, .int .i64 b.1.2.1, .int .i64 b.1.2.2, .bool b.2], .int .i64 id, .agg #[.int .i64 x, .int .i64 y, .int .i64 z]] w fun e w' => e = .returned (.tuple #[.agg #[.int .i64 c.1.1, .int .i64 c.1.2.1, .int .i64 c.1.2.2, .bool c.2, .int .i64 d.1.1, .int .i64 d.1.2.1, .int .i64 d.1.2.2, .bool d.2], .int .i64 n]) ∧ Below w.heap.size w w' := by
  obtain ⟨⟨ax, ay, az⟩, ao⟩ := a
  obtain ⟨⟨bx, by', bz⟩, bo⟩ := b
  obtain ⟨⟨X, Y, Z, r⟩, hp⟩ : ∃ s, PlaceW.spotOf x y z = s := ⟨_, rfl⟩
  have HP := Lib.hid hp
  by_cases hid : id = 0 ∨ id = 1
  · have HI := Lib.hid (show idB id = true from decide_eq_true hid)
    cases r with
    | false =>
      obtain ⟨⟨rfl, rfl⟩, rfl⟩ : (offA = c ∧ offA = d) ∧ 10 = n := by simpa [putA, hp, hid] using h
      rcases hid with rfl | rfl <;>
      · clear h hp
        obtain ⟨s, hs⟩ : ∃ s, w.heap.size = s := ⟨_, rfl⟩
        have HS := Lib.hid hs
        go_enter Try.func8, Try.ntmps8
        go_wp2_with fail
        refine calls_named (S := fun W => Below w.heap.size w W ∧ s + 3 ≤ W.heap.size ∧ Blk W s TT [.int .i64 ax, .int .i64 ay, .int .i64 az, .bool ao, .int .i64 bx, .int .i64 by', .int .i64 bz, .bool bo] ∧ Blk W (s + 2) TT [.int .i64 0, .int .i64 0, .int .i64 0, .bool false, .int .i64 0, .int .i64 0, .int .i64 0, .bool false]) ⟨by (repeat' (first | (with_reducible exact Below.refl _ _) | (with_reducible refine Below.setCell ?_ (by (first | omega | (simp; done) | (simp; omega))) _) | (with_reducible refine Below.alloc ?_ (by (first | omega | (simp; done) | (simp; omega))) _) | (with_reducible refine Below.drew ?_) | (with_reducible refine below_drewN ?_ _))), by simp; omega, by subst hs; (repeat' (first | (with_reducible refine BlkP.Blk.drew ?_) | (with_reducible refine BlkP.Blk.drewN ?_ _) | (with_reducible refine BlkP.Blk.setAt (us := ?_) (by first | omega | (simp; done) | (simp; omega)) rfl ?_ ?_) | (with_reducible refine BlkP.Blk.otherAt ?_ (by first | omega | (simp; done) | (simp; omega))) | (with_reducible refine BlkP.Blk.newA' (by first | omega | (simp; done) | (simp; omega)) rfl) | (with_reducible refine BlkP.Blk.alloc ?_ _) | (exact rfl))), by subst hs; (repeat' (first | (with_reducible refine BlkP.Blk.drew ?_) | (with_reducible refine BlkP.Blk.drewN ?_ _) | (with_reducible refine BlkP.Blk.setAt (us := ?_) (by first | omega | (simp; done) | (simp; omega)) rfl ?_ ?_) | (with_reducible refine BlkP.Blk.otherAt ?_ (by first | omega | (simp; done) | (simp; omega))) | (with_reducible refine BlkP.Blk.newA' (by first | omega | (simp; done) | (simp; omega)) rfl) | (with_reducible refine BlkP.Blk.alloc ?_ _) | (exact rfl)))⟩ ?_
        rintro w1 ⟨hb1, hz1, h1, h2⟩
        have B1 := Lib.hid hb1
        refine (PlaceW.r_spot_c HP.out _).mono ?_
        rintro e w2 ⟨rfl, hb2⟩
        have B2 := Lib.hid (below_t hb1 hb2)
        have K1 := Lib.hid (h1.below hb2)
        have K2 := Lib.hid (h2.below hb2)
        have hz2 := hb2.size
        clear hb1 h1 h2 hb2
        have kl := K2.out.lt
        go_wp2_with ((with_reducible refine at_storeT TT ?_); refine Classical.byContradiction (fun hG => ?_))
        refine hG ?_
        clear hG
        refine list_named (S := fun W => Below w.heap.size w W ∧ Blk W (s + 2) TT [.int .i64 0, .int .i64 0, .int .i64 0, .bool false, .int .i64 0, .int .i64 0, .int .i64 0, .bool false]) ⟨by (repeat' (first | (with_reducible exact Below.refl _ _) | (with_reducible refine Below.setCell ?_ (by (first | omega | (simp; done) | (simp; omega))) _) | (with_reducible refine Below.alloc ?_ (by (first | omega | (simp; done) | (simp; omega))) _) | (with_reducible refine Below.drew ?_) | (with_reducible refine below_drewN ?_ _) | (with_reducible refine Below.trans ?_ (Below.mono B2.out (by (first | omega | (simp; done) | (simp; omega))))))), by (repeat' (first | (with_reducible exact K2.out) | (with_reducible refine BlkP.Blk.drew ?_) | (with_reducible refine BlkP.Blk.drewN ?_ _) | (with_reducible refine BlkP.Blk.setAt (us := ?_) (by first | omega | (simp; done) | (simp; omega)) rfl ?_ ?_) | (with_reducible refine BlkP.Blk.otherAt ?_ (by first | omega | (simp; done) | (simp; omega))) | (with_reducible refine BlkP.Blk.newA' (by first | omega | (simp; done) | (simp; omega)) rfl) | (with_reducible refine BlkP.Blk.alloc ?_ _) | (exact rfl)))⟩ ?_
        rintro w3 ⟨hb3, h3⟩
        refine wp_storeT TT rfl (.tmp 6) (.tmp 24) rfl sizeTT (vs := [.int .i64 0, .int .i64 0, .int .i64 0, .bool false, .int .i64 0, .int .i64 0, .int .i64 0, .bool false]) (us := [.int .i64 0, .int .i64 0, .int .i64 0, .bool false, .int .i64 0, .int .i64 0, .int .i64 0, .bool false]) (n := 8) (by simp [Value.oneCell']) rfl rfl rfl h3 rfl ?_
        intro w4 h4 hg4 hz4
        have B4 := Lib.hid (show Below w.heap.size w w4 from hb3.grown hg4 hb3.size (fun k hk => by cases hk; have := HS.out; omega))
        have d0 := h4.cell (i := 0) rfl
        have df0 := h4.frozen 0
        have d1 := h4.cell (i := 1) rfl
        have df1 := h4.frozen 1
        have d2 := h4.cell (i := 2) rfl
        have df2 := h4.frozen 2
        have d3 := h4.cell (i := 3) rfl
        have df3 := h4.frozen 3
        have d4 := h4.cell (i := 4) rfl
        have df4 := h4.frozen 4
        have d5 := h4.cell (i := 5) rfl
        have df5 := h4.frozen 5
        have d6 := h4.cell (i := 6) rfl
        have df6 := h4.frozen 6
        have d7 := h4.cell (i := 7) rfl
        have df7 := h4.frozen 7
        clear hg4 hb3 h3
        go_wp2_with fail
        refine bodyPost_ret (v := .tuple #[.agg #[.int .i64 0, .int .i64 0, .int .i64 0, .bool false, .int .i64 0, .int .i64 0, .int .i64 0, .bool false], .int .i64 10]) (by simp [results, Try.results8, go_sem, d0, d1, d2, d3, d4, d5, d6, d7]) rfl ?_
        exact ⟨rfl, B4.out⟩
    | true =>
      rcases hid with rfl | rfl
      · obtain ⟨⟨rfl, rfl⟩, rfl⟩ : (((X, Y, Z), true) = c ∧ ((bx, by', bz), bo) = d) ∧ 0 = n := by simpa [putA, hp] using h
        clear h hp
        obtain ⟨s, hs⟩ : ∃ s, w.heap.size = s := ⟨_, rfl⟩
        have HS := Lib.hid hs
        go_enter Try.func8, Try.ntmps8
        go_wp2_with fail
        refine calls_named (S := fun W => Below w.heap.size w W ∧ s + 3 ≤ W.heap.size ∧ Blk W s TT [.int .i64 ax, .int .i64 ay, .int .i64 az, .bool ao, .int .i64 bx, .int .i64 by', .int .i64 bz, .bool bo] ∧ Blk W (s + 2) TT [.int .i64 0, .int .i64 0, .int .i64 0, .bool false, .int .i64 0, .int .i64 0, .int .i64 0, .bool false]) ⟨by (repeat' (first | (with_reducible exact Below.refl _ _) | (with_reducible refine Below.setCell ?_ (by (first | omega | (simp; done) | (simp; omega))) _) | (with_reducible refine Below.alloc ?_ (by (first | omega | (simp; done) | (simp; omega))) _) | (with_reducible refine Below.drew ?_) | (with_reducible refine below_drewN ?_ _))), by simp; omega, by subst hs; (repeat' (first | (with_reducible refine BlkP.Blk.drew ?_) | (with_reducible refine BlkP.Blk.drewN ?_ _) | (with_reducible refine BlkP.Blk.setAt (us := ?_) (by first | omega | (simp; done) | (simp; omega)) rfl ?_ ?_) | (with_reducible refine BlkP.Blk.otherAt ?_ (by first | omega | (simp; done) | (simp; omega))) | (with_reducible refine BlkP.Blk.newA' (by first | omega | (simp; done) | (simp; omega)) rfl) | (with_reducible refine BlkP.Blk.alloc ?_ _) | (exact rfl))), by subst hs; (repeat' (first | (with_reducible refine BlkP.Blk.drew ?_) | (with_reducible refine BlkP.Blk.drewN ?_ _) | (with_reducible refine BlkP.Blk.setAt (us := ?_) (by first | omega | (simp; done) | (simp; omega)) rfl ?_ ?_) | (with_reducible refine BlkP.Blk.otherAt ?_ (by first | omega | (simp; done) | (simp; omega))) | (with_reducible refine BlkP.Blk.newA' (by first | omega | (simp; done) | (simp; omega)) rfl) | (with_reducible refine BlkP.Blk.alloc ?_ _) | (exact rfl)))⟩ ?_
        rintro w1 ⟨hb1, hz1, h1, h2⟩
        have B1 := Lib.hid hb1
        refine (PlaceW.r_spot_c HP.out _).mono ?_
        rintro e w2 ⟨rfl, hb2⟩
        have B2 := Lib.hid (below_t hb1 hb2)
        have K1 := Lib.hid (h1.below hb2)
        have K2 := Lib.hid (h2.below hb2)
        have hz2 := hb2.size
        clear hb1 h1 h2 hb2
        have c0 := K1.out.cell (i := 0) rfl
        have cf0 := K1.out.frozen 0
        have c1 := K1.out.cell (i := 1) rfl
        have cf1 := K1.out.frozen 1
        have c2 := K1.out.cell (i := 2) rfl
        have cf2 := K1.out.frozen 2
        have c3 := K1.out.cell (i := 3) rfl
        have cf3 := K1.out.frozen 3
        have c4 := K1.out.cell (i := 4) rfl
        have cf4 := K1.out.frozen 4
        have c5 := K1.out.cell (i := 5) rfl
        have cf5 := K1.out.frozen 5
        have c6 := K1.out.cell (i := 6) rfl
        have cf6 := K1.out.frozen 6
        have c7 := K1.out.cell (i := 7) rfl
        have cf7 := K1.out.frozen 7
        have kl := K1.out.lt
        go_wp2_with ((with_reducible refine at_slot 29 ?_); refine Classical.byContradiction (fun hG => ?_))
        refine hG ?_
        clear hG
        refine list_named (S := fun W => Below w.heap.size w W ∧ Blk W s TT [.int .i64 X, .int .i64 Y, .int .i64 Z, .bool true, .int .i64 bx, .int .i64 by', .int .i64 bz, .bool bo] ∧ Blk W (s + 2) TT [.int .i64 0, .int .i64 0, .int .i64 0, .bool false, .int .i64 0, .int .i64 0, .int .i64 0, .bool false]) ⟨by (repeat' (first | (with_reducible exact Below.refl _ _) | (with_reducible refine Below.setCell ?_ (by (first | omega | (simp; done) | (simp; omega))) _) | (with_reducible refine Below.alloc ?_ (by (first | omega | (simp; done) | (simp; omega))) _) | (with_reducible refine Below.drew ?_) | (with_reducible refine below_drewN ?_ _) | (with_reducible refine Below.trans ?_ (Below.mono B2.out (by (first | omega | (simp; done) | (simp; omega))))))), by (repeat' (first | (with_reducible exact K1.out) | (with_reducible refine BlkP.Blk.drew ?_) | (with_reducible refine BlkP.Blk.drewN ?_ _) | (with_reducible refine BlkP.Blk.setAt (us := ?_) (by first | omega | (simp; done) | (simp; omega)) rfl ?_ ?_) | (with_reducible refine BlkP.Blk.otherAt ?_ (by first | omega | (simp; done) | (simp; omega))) | (with_reducible refine BlkP.Blk.newA' (by first | omega | (simp; done) | (simp; omega)) rfl) | (with_reducible refine BlkP.Blk.alloc ?_ _) | (exact rfl))), by (repeat' (first | (with_reducible exact K2.out) | (with_reducible refine BlkP.Blk.drew ?_) | (with_reducible refine BlkP.Blk.drewN ?_ _) | (with_reducible refine BlkP.Blk.setAt (us := ?_) (by first | omega | (simp; done) | (simp; omega)) rfl ?_ ?_) | (with_reducible refine BlkP.Blk.otherAt ?_ (by first | omega | (simp; done) | (simp; omega))) | (with_reducible refine BlkP.Blk.newA' (by first | omega | (simp; done) | (simp; omega)) rfl) | (with_reducible refine BlkP.Blk.alloc ?_ _) | (exact rfl)))⟩ ?_
        rintro w3 ⟨hb3, h3, g3⟩
        have B3 := Lib.hid hb3
        have G3 := Lib.hid g3
        clear c0 cf0 c1 cf1 c2 cf2 c3 cf3 c4 cf4 c5 cf5 c6 cf6 c7 cf7 kl hb3 g3
        have c0 := h3.cell (i := 0) rfl
        have cf0 := h3.frozen 0
        have c1 := h3.cell (i := 1) rfl
        have cf1 := h3.frozen 1
        have c2 := h3.cell (i := 2) rfl
        have cf2 := h3.frozen 2
        have c3 := h3.cell (i := 3) rfl
        have cf3 := h3.frozen 3
        have c4 := h3.cell (i := 4) rfl
        have cf4 := h3.frozen 4
        have c5 := h3.cell (i := 5) rfl
        have cf5 := h3.frozen 5
        have c6 := h3.cell (i := 6) rfl
        have cf6 := h3.frozen 6
        have c7 := h3.cell (i := 7) rfl
        have cf7 := h3.frozen 7
        have kl := h3.lt
        go_wp2_with ((with_reducible refine at_storeT TT ?_); refine Classical.byContradiction (fun hG => ?_))
        refine hG ?_
        clear hG
        refine wp_storeT TT rfl (.tmp 6) (.tmp 29) rfl sizeTT (vs := [.int .i64 X, .int .i64 Y, .int .i64 Z, .bool true, .int .i64 bx, .int .i64 by', .int .i64 bz, .bool bo]) (us := [.int .i64 0, .int .i64 0, .int .i64 0, .bool false, .int .i64 0, .int .i64 0, .int .i64 0, .bool false]) (n := 8) (by simp [Value.oneCell']) rfl rfl rfl G3.out rfl ?_
        intro w4 h4 hg4 hz4
        have B4 := Lib.hid (show Below w.heap.size w w4 from B3.out.grown hg4 B3.out.size (fun k hk => by cases hk; have := HS.out; omega))
        clear c0 cf0 c1 cf1 c2 cf2 c3 cf3 c4 cf4 c5 cf5 c6 cf6 c7 cf7 kl h3
        have d0 := h4.cell (i := 0) rfl
        have df0 := h4.frozen 0
        have d1 := h4.cell (i := 1) rfl
        have df1 := h4.frozen 1
        have d2 := h4.cell (i := 2) rfl
        have df2 := h4.frozen 2
        have d3 := h4.cell (i := 3) rfl
        have df3 := h4.frozen 3
        have d4 := h4.cell (i := 4) rfl
        have df4 := h4.frozen 4
        have d5 := h4.cell (i := 5) rfl
        have df5 := h4.frozen 5
        have d6 := h4.cell (i := 6) rfl
        have df6 := h4.frozen 6
        have d7 := h4.cell (i := 7) rfl
        have df7 := h4.frozen 7
        clear hg4
        go_wp2_with fail
        refine bodyPost_ret (v := .tuple #[.agg #[.int .i64 X, .int .i64 Y, .int .i64 Z, .bool true, .int .i64 bx, .int .i64 by', .int .i64 bz, .bool bo], .int .i64 0]) (by simp [results, Try.results8, go_sem, d0, d1, d2, d3, d4, d5, d6, d7]) rfl ?_
        exact ⟨rfl, B4.out⟩
      · obtain ⟨⟨rfl, rfl⟩, rfl⟩ : (((ax, ay, az), ao) = c ∧ ((X, Y, Z), true) = d) ∧ 0 = n := by simpa [putA, hp] using h
        clear h hp
        obtain ⟨s, hs⟩ : ∃ s, w.heap.size = s := ⟨_, rfl⟩
        have HS := Lib.hid hs
        go_enter Try.func8, Try.ntmps8
        go_wp2_with fail
        refine calls_named (S := fun W => Below w.heap.size w W ∧ s + 3 ≤ W.heap.size ∧ Blk W s TT [.int .i64 ax, .int .i64 ay, .int .i64 az, .bool ao, .int .i64 bx, .int .i64 by', .int .i64 bz, .bool bo] ∧ Blk W (s + 2) TT [.int .i64 0, .int .i64 0, .int .i64 0, .bool false, .int .i64 0, .int .i64 0, .int .i64 0, .bool false]) ⟨by (repeat' (first | (with_reducible exact Below.refl _ _) | (with_reducible refine Below.setCell ?_ (by (first | omega | (simp; done) | (simp; omega))) _) | (with_reducible refine Below.alloc ?_ (by (first | omega | (simp; done) | (simp; omega))) _) | (with_reducible refine Below.drew ?_) | (with_reducible refine below_drewN ?_ _))), by simp; omega, by subst hs; (repeat' (first | (with_reducible refine BlkP.Blk.drew ?_) | (with_reducible refine BlkP.Blk.drewN ?_ _) | (with_reducible refine BlkP.Blk.setAt (us := ?_) (by first | omega | (simp; done) | (simp; omega)) rfl ?_ ?_) | (with_reducible refine BlkP.Blk.otherAt ?_ (by first | omega | (simp; done) | (simp; omega))) | (with_reducible refine BlkP.Blk.newA' (by first | omega | (simp; done) | (simp; omega)) rfl) | (with_reducible refine BlkP.Blk.alloc ?_ _) | (exact rfl))), by subst hs; (repeat' (first | (with_reducible refine BlkP.Blk.drew ?_) | (with_reducible refine BlkP.Blk.drewN ?_ _) | (with_reducible refine BlkP.Blk.setAt (us := ?_) (by first | omega | (simp; done) | (simp; omega)) rfl ?_ ?_) | (with_reducible refine BlkP.Blk.otherAt ?_ (by first | omega | (simp; done) | (simp; omega))) | (with_reducible refine BlkP.Blk.newA' (by first | omega | (simp; done) | (simp; omega)) rfl) | (with_reducible refine BlkP.Blk.alloc ?_ _) | (exact rfl)))⟩ ?_
        rintro w1 ⟨hb1, hz1, h1, h2⟩
        have B1 := Lib.hid hb1
        refine (PlaceW.r_spot_c HP.out _).mono ?_
        rintro e w2 ⟨rfl, hb2⟩
        have B2 := Lib.hid (below_t hb1 hb2)
        have K1 := Lib.hid (h1.below hb2)
        have K2 := Lib.hid (h2.below hb2)
        have hz2 := hb2.size
        clear hb1 h1 h2 hb2
        have c0 := K1.out.cell (i := 0) rfl
        have cf0 := K1.out.frozen 0
        have c1 := K1.out.cell (i := 1) rfl
        have cf1 := K1.out.frozen 1
        have c2 := K1.out.cell (i := 2) rfl
        have cf2 := K1.out.frozen 2
        have c3 := K1.out.cell (i := 3) rfl
        have cf3 := K1.out.frozen 3
        have c4 := K1.out.cell (i := 4) rfl
        have cf4 := K1.out.frozen 4
        have c5 := K1.out.cell (i := 5) rfl
        have cf5 := K1.out.frozen 5
        have c6 := K1.out.cell (i := 6) rfl
        have cf6 := K1.out.frozen 6
        have c7 := K1.out.cell (i := 7) rfl
        have cf7 := K1.out.frozen 7
        have kl := K1.out.lt
        go_wp2_with ((with_reducible refine at_slot 29 ?_); refine Classical.byContradiction (fun hG => ?_))
        refine hG ?_
        clear hG
        refine list_named (S := fun W => Below w.heap.size w W ∧ Blk W s TT [.int .i64 ax, .int .i64 ay, .int .i64 az, .bool ao, .int .i64 X, .int .i64 Y, .int .i64 Z, .bool true] ∧ Blk W (s + 2) TT [.int .i64 0, .int .i64 0, .int .i64 0, .bool false, .int .i64 0, .int .i64 0, .int .i64 0, .bool false]) ⟨by (repeat' (first | (with_reducible exact Below.refl _ _) | (with_reducible refine Below.setCell ?_ (by (first | omega | (simp; done) | (simp; omega))) _) | (with_reducible refine Below.alloc ?_ (by (first | omega | (simp; done) | (simp; omega))) _) | (with_reducible refine Below.drew ?_) | (with_reducible refine below_drewN ?_ _) | (with_reducible refine Below.trans ?_ (Below.mono B2.out (by (first | omega | (simp; done) | (simp; omega))))))), by (repeat' (first | (with_reducible exact K1.out) | (with_reducible refine BlkP.Blk.drew ?_) | (with_reducible refine BlkP.Blk.drewN ?_ _) | (with_reducible refine BlkP.Blk.setAt (us := ?_) (by first | omega | (simp; done) | (simp; omega)) rfl ?_ ?_) | (with_reducible refine BlkP.Blk.otherAt ?_ (by first | omega | (simp; done) | (simp; omega))) | (with_reducible refine BlkP.Blk.newA' (by first | omega | (simp; done) | (simp; omega)) rfl) | (with_reducible refine BlkP.Blk.alloc ?_ _) | (exact rfl))), by (repeat' (first | (with_reducible exact K2.out) | (with_reducible refine BlkP.Blk.drew ?_) | (with_reducible refine BlkP.Blk.drewN ?_ _) | (with_reducible refine BlkP.Blk.setAt (us := ?_) (by first | omega | (simp; done) | (simp; omega)) rfl ?_ ?_) | (with_reducible refine BlkP.Blk.otherAt ?_ (by first | omega | (simp; done) | (simp; omega))) | (with_reducible refine BlkP.Blk.newA' (by first | omega | (simp; done) | (simp; omega)) rfl) | (with_reducible refine BlkP.Blk.alloc ?_ _) | (exact rfl)))⟩ ?_
        rintro w3 ⟨hb3, h3, g3⟩
        have B3 := Lib.hid hb3
        have G3 := Lib.hid g3
        clear c0 cf0 c1 cf1 c2 cf2 c3 cf3 c4 cf4 c5 cf5 c6 cf6 c7 cf7 kl hb3 g3
        have c0 := h3.cell (i := 0) rfl
        have cf0 := h3.frozen 0
        have c1 := h3.cell (i := 1) rfl
        have cf1 := h3.frozen 1
        have c2 := h3.cell (i := 2) rfl
        have cf2 := h3.frozen 2
        have c3 := h3.cell (i := 3) rfl
        have cf3 := h3.frozen 3
        have c4 := h3.cell (i := 4) rfl
        have cf4 := h3.frozen 4
        have c5 := h3.cell (i := 5) rfl
        have cf5 := h3.frozen 5
        have c6 := h3.cell (i := 6) rfl
        have cf6 := h3.frozen 6
        have c7 := h3.cell (i := 7) rfl
        have cf7 := h3.frozen 7
        have kl := h3.lt
        go_wp2_with ((with_reducible refine at_storeT TT ?_); refine Classical.byContradiction (fun hG => ?_))
        refine hG ?_
        clear hG
        refine wp_storeT TT rfl (.tmp 6) (.tmp 29) rfl sizeTT (vs := [.int .i64 ax, .int .i64 ay, .int .i64 az, .bool ao, .int .i64 X, .int .i64 Y, .int .i64 Z, .bool true]) (us := [.int .i64 0, .int .i64 0, .int .i64 0, .bool false, .int .i64 0, .int .i64 0, .int .i64 0, .bool false]) (n := 8) (by simp [Value.oneCell']) rfl rfl rfl G3.out rfl ?_
        intro w4 h4 hg4 hz4
        have B4 := Lib.hid (show Below w.heap.size w w4 from B3.out.grown hg4 B3.out.size (fun k hk => by cases hk; have := HS.out; omega))
        clear c0 cf0 c1 cf1 c2 cf2 c3 cf3 c4 cf4 c5 cf5 c6 cf6 c7 cf7 kl h3
        have d0 := h4.cell (i := 0) rfl
        have df0 := h4.frozen 0
        have d1 := h4.cell (i := 1) rfl
        have df1 := h4.frozen 1
        have d2 := h4.cell (i := 2) rfl
        have df2 := h4.frozen 2
        have d3 := h4.cell (i := 3) rfl
        have df3 := h4.frozen 3
        have d4 := h4.cell (i := 4) rfl
        have df4 := h4.frozen 4
        have d5 := h4.cell (i := 5) rfl
        have df5 := h4.frozen 5
        have d6 := h4.cell (i := 6) rfl
        have df6 := h4.frozen 6
        have d7 := h4.cell (i := 7) rfl
        have df7 := h4.frozen 7
        clear hg4
        go_wp2_with fail
        refine bodyPost_ret (v := .tuple #[.agg #[.int .i64 ax, .int .i64 ay, .int .i64 az, .bool ao, .int .i64 X, .int .i64 Y, .int .i64 Z, .bool true], .int .i64 0]) (by simp [results, Try.results8, go_sem, d0, d1, d2, d3, d4, d5, d6, d7]) rfl ?_
        exact ⟨rfl, B4.out⟩
  · have HI := Lib.hid (show idB id = false from decide_eq_false hid)
    have n0 : (id != 0) = true := by simp; omega
    have n1 : (id != 1) = true := by simp; omega
    obtain ⟨⟨rfl, rfl⟩, rfl⟩ : (offA = c ∧ offA = d) ∧ 2 = n := by simpa [putA, hid] using h
    clear h hp
    go_enter Try.func8, Try.ntmps8
    go_wp2_with fail
    refine bodyPost_ret (v := .tuple #[.agg #[.int .i64 0, .int .i64 0, .int .i64 0, .bool false, .int .i64 0, .int .i64 0, .int .i64 0, .bool false], .int .i64 2]) (by simp [results, Try.results8, go_sem]) rfl ?_
    refine ⟨rfl, ?_⟩
    (repeat' (first | (with_reducible exact Below.refl _ _) | (with_reducible refine Below.setCell ?_ (by (first | omega | (simp; done) | (simp; omega))) _) | (with_reducible refine Below.alloc ?_ (by (first | omega | (simp; done) | (simp; omega))) _) | (with_reducible refine Below.drew ?_) | (with_reducible refine below_drewN ?_ _)))
set_option maxRecDepth 100000 in
set_option maxHeartbeats 16000000 in
theorem Lift_c {a b c d : An} {id n : Int} (h : liftA a b id = ((c, d), n)) (w : World) :
    Calls Try.prog 9 #[.agg #[.int .i64 a.1.1, .int .i64 a.1.2.1, .int .i64 a.1.2.2, .bool a.2, .int .i64 b.1.1, .int .i64 b.1.2.1, .int .i64 b.1.2.2, .bool b.2], .int .i64 id] w fun e w' => e = .returned (.tuple #[.agg #[.int .i64 c.1.1, .int .i64 c.1.2.1, .int .i64 c.1.2.2, .bool c.2, .int .i64 d.1.1, .int .i64 d.1.2.1, .int .i64 d.1.2.2, .bool d.2], .int .i64 n]) ∧ Below w.heap.size w w' := by
  obtain ⟨⟨ax, ay, az⟩, ao⟩ := a
  obtain ⟨⟨bx, by', bz⟩, bo⟩ := b
  by_cases hid : id = 0 ∨ id = 1
  · have HI := Lib.hid (show idB id = true from decide_eq_true hid)
    rcases hid with rfl | rfl
    · obtain ⟨⟨rfl, rfl⟩, rfl⟩ : (offA = c ∧ ((bx, by', bz), bo) = d) ∧ 0 = n := by simpa [liftA] using h
      clear h
      go_enter Try.func9, Try.ntmps9
      go_wp2_with fail
      refine (isID_c HI.out _).mono ?_
      rintro e w' ⟨rfl, rfl⟩
      go_wp2_with fail
      refine bodyPost_ret (v := .tuple #[.agg #[.int .i64 0, .int .i64 0, .int .i64 0, .bool false, .int .i64 bx, .int .i64 by', .int .i64 bz, .bool bo], .int .i64 0]) (by simp [results, Try.results9, go_sem]) rfl ?_
      refine ⟨rfl, ?_⟩
      (repeat' (first | (with_reducible exact Below.refl _ _) | (with_reducible refine Below.setCell ?_ (by (first | omega | (simp; done) | (simp; omega))) _) | (with_reducible refine Below.alloc ?_ (by (first | omega | (simp; done) | (simp; omega))) _) | (with_reducible refine Below.drew ?_) | (with_reducible refine below_drewN ?_ _)))
    · obtain ⟨⟨rfl, rfl⟩, rfl⟩ : (((ax, ay, az), ao) = c ∧ offA = d) ∧ 0 = n := by simpa [liftA] using h
      clear h
      go_enter Try.func9, Try.ntmps9
      go_wp2_with fail
      refine (isID_c HI.out _).mono ?_
      rintro e w' ⟨rfl, rfl⟩
      go_wp2_with fail
      refine bodyPost_ret (v := .tuple #[.agg #[.int .i64 ax, .int .i64 ay, .int .i64 az, .bool ao, .int .i64 0, .int .i64 0, .int .i64 0, .bool false], .int .i64 0]) (by simp [results, Try.results9, go_sem]) rfl ?_
      refine ⟨rfl, ?_⟩
      (repeat' (first | (with_reducible exact Below.refl _ _) | (with_reducible refine Below.setCell ?_ (by (first | omega | (simp; done) | (simp; omega))) _) | (with_reducible refine Below.alloc ?_ (by (first | omega | (simp; done) | (simp; omega))) _) | (with_reducible refine Below.drew ?_) | (with_reducible refine below_drewN ?_ _)))
  · have HI := Lib.hid (show idB id = false from decide_eq_false hid)
    have n0 : (id != 0) = true := by simp; omega
    have n1 : (id != 1) = true := by simp; omega
    obtain ⟨⟨rfl, rfl⟩, rfl⟩ : (offA = c ∧ offA = d) ∧ 2 = n := by simpa [liftA, hid] using h
    clear h
    go_enter Try.func9, Try.ntmps9
    go_wp2_with fail
    refine (isID_c HI.out _).mono ?_
    rintro e w' ⟨rfl, rfl⟩
    go_wp2_with fail
    refine bodyPost_ret (v := .tuple #[.agg #[.int .i64 0, .int .i64 0, .int .i64 0, .bool false, .int .i64 0, .int .i64 0, .int .i64 0, .bool false], .int .i64 2]) (by simp [results, Try.results9, go_sem]) rfl ?_
    refine ⟨rfl, ?_⟩
    (repeat' (first | (with_reducible exact Below.refl _ _) | (with_reducible refine Below.setCell ?_ (by (first | omega | (simp; done) | (simp; omega))) _) | (with_reducible refine Below.alloc ?_ (by (first | omega | (simp; done) | (simp; omega))) _) | (with_reducible refine Below.drew ?_) | (with_reducible refine below_drewN ?_ _)))
set_option maxRecDepth 100000 in
set_option maxHeartbeats 16000000 in
theorem rLift_c {a b c d : An} {id n : Int} (h : liftA a b id = ((c, d), n)) (w : World) :
    Calls Try.prog 10 #[.agg #[.int .i64 a.1.1, .int .i64 a.1.2.1, .int .i64 a.1.2.2, .bool a.2, .int .i64 b.1.1, .int .i64 b.1.2.1, .int .i64 b.1.2.2, .bool b.2], .int .i64 id] w fun e w' => e = .returned (.tuple #[.agg #[.int .i64 c.1.1, .int .i64 c.1.2.1, .int .i64 c.1.2.2, .bool c.2, .int .i64 d.1.1, .int .i64 d.1.2.1, .int .i64 d.1.2.2, .bool d.2], .int .i64 n]) ∧ Below w.heap.size w w' := by
  obtain ⟨⟨ax, ay, az⟩, ao⟩ := a
  obtain ⟨⟨bx, by', bz⟩, bo⟩ := b
  by_cases hid : id = 0 ∨ id = 1
  · have HI := Lib.hid (show idB id = true from decide_eq_true hid)
    rcases hid with rfl | rfl
    · obtain ⟨⟨rfl, rfl⟩, rfl⟩ : (offA = c ∧ ((bx, by', bz), bo) = d) ∧ 0 = n := by simpa [liftA] using h
      clear h
      go_enter Try.func10, Try.ntmps10
      go_wp2_with fail
      refine bodyPost_ret (v := .tuple #[.agg #[.int .i64 0, .int .i64 0, .int .i64 0, .bool false, .int .i64 bx, .int .i64 by', .int .i64 bz, .bool bo], .int .i64 0]) (by simp [results, Try.results10, go_sem]) rfl ?_
      refine ⟨rfl, ?_⟩
      (repeat' (first | (with_reducible exact Below.refl _ _) | (with_reducible refine Below.setCell ?_ (by (first | omega | (simp; done) | (simp; omega))) _) | (with_reducible refine Below.alloc ?_ (by (first | omega | (simp; done) | (simp; omega))) _) | (with_reducible refine Below.drew ?_) | (with_reducible refine below_drewN ?_ _)))
    · obtain ⟨⟨rfl, rfl⟩, rfl⟩ : (((ax, ay, az), ao) = c ∧ offA = d) ∧ 0 = n := by simpa [liftA] using h
      clear h
      go_enter Try.func10, Try.ntmps10
      go_wp2_with fail
      refine bodyPost_ret (v := .tuple #[.agg #[.int .i64 ax, .int .i64 ay, .int .i64 az, .bool ao, .int .i64 0, .int .i64 0, .int .i64 0, .bool false], .int .i64 0]) (by simp [results, Try.results10, go_sem]) rfl ?_
      refine ⟨rfl, ?_⟩
      (repeat' (first | (with_reducible exact Below.refl _ _) | (with_reducible refine Below.setCell ?_ (by (first | omega | (simp; done) | (simp; omega))) _) | (with_reducible refine Below.alloc ?_ (by (first | omega | (simp; done) | (simp; omega))) _) | (with_reducible refine Below.drew ?_) | (with_reducible refine below_drewN ?_ _)))
  · have HI := Lib.hid (show idB id = false from decide_eq_false hid)
    have n0 : (id != 0) = true := by simp; omega
    have n1 : (id != 1) = true := by simp; omega
    obtain ⟨⟨rfl, rfl⟩, rfl⟩ : (offA = c ∧ offA = d) ∧ 2 = n := by simpa [liftA, hid] using h
    clear h
    go_enter Try.func10, Try.ntmps10
    go_wp2_with fail
    refine bodyPost_ret (v := .tuple #[.agg #[.int .i64 0, .int .i64 0, .int .i64 0, .bool false, .int .i64 0, .int .i64 0, .int .i64 0, .bool false], .int .i64 2]) (by simp [results, Try.results10, go_sem]) rfl ?_
    refine ⟨rfl, ?_⟩
    (repeat' (first | (with_reducible exact Below.refl _ _) | (with_reducible refine Below.setCell ?_ (by (first | omega | (simp; done) | (simp; omega))) _) | (with_reducible refine Below.alloc ?_ (by (first | omega | (simp; done) | (simp; omega))) _) | (with_reducible refine Below.drew ?_) | (with_reducible refine below_drewN ?_ _)))
end AncW
end Go.Proofs.Ytcmmfihhnmhhgaa
