/-
  What kinds do, as a row of functions; delays; is a cell movable.
-/
import Derived.Test.YtlahkmkipciiiaaDoorBurnRPlant
import Derived.Test.YtlahkmkipciiiaaDoorBurnPlant
import Derived.Test.YtlahkmkipciiiaaDoorFlowNx
import Derived.Test.YtlahkmkipciiiaaDoorFlowRef3
import Derived.Test.YtlahkmkipciiiaaDoorFallRun
import Derived.Test.YtlahkmkipciiiaaDoorFallRef
import Derived.Test.YtlahkmkipciiiaaDoorReactPlain
import Derived.Test.YtlahkmkipciiiaaDoorDeedArg
namespace Go.Proofs.YtlahkmkipciiiaaDoor
open Go.RowKit
set_option linter.unusedVariables false
set_option linter.unusedSimpArgs false
namespace ReactW
open BlkP RowG FrS PushG CellsW NearW BurnP BurnW ReactP DeedW

abbrev TH : TypeId := 47
abbrev THS : TypeId := 71
/-- What kind k does, as a function's value. -/
def fnv (k : Nat) : Value := if k = 4 ∨ k = 5 ∨ k = 8 then .func (.func 20) #[] #[] else if k = 13 then .func (.func 21) #[] #[] else if k = 14 then .func (.func 22) #[] #[] else if k = 12 then .func (.func 23) #[] #[] else .nilFunc
/-- The row, cell by cell. -/
def hvals : List Value := (List.range 15).flatMap fun k => [.int .i64 (delay k), fnv k]
theorem hvals_len : hvals.length = 30 := rfl
theorem hvals_one : hvals.toArray.all (·.oneCell') = true := by simp [hvals, List.range, List.range.loop, fnv, Value.oneCell']
theorem hvals_d {k : Nat} (h : k < 15) : hvals[k * 2]? = some (.int .i64 (delay k)) := by
  match k, h with
  | 0, _ => rfl
  | 1, _ => rfl
  | 2, _ => rfl
  | 3, _ => rfl
  | 4, _ => rfl
  | 5, _ => rfl
  | 6, _ => rfl
  | 7, _ => rfl
  | 8, _ => rfl
  | 9, _ => rfl
  | 10, _ => rfl
  | 11, _ => rfl
  | 12, _ => rfl
  | 13, _ => rfl
  | 14, _ => rfl
theorem hvals_f {k : Nat} (h : k < 15) : hvals[k * 2 + 1]? = some (fnv k) := by
  match k, h with
  | 0, _ => rfl
  | 1, _ => rfl
  | 2, _ => rfl
  | 3, _ => rfl
  | 4, _ => rfl
  | 5, _ => rfl
  | 6, _ => rfl
  | 7, _ => rfl
  | 8, _ => rfl
  | 9, _ => rfl
  | 10, _ => rfl
  | 11, _ => rfl
  | 12, _ => rfl
  | 13, _ => rfl
  | 14, _ => rfl
theorem delay_out {k : Nat} (h : 15 ≤ k) : delay k = 0 := by
  unfold delay
  rw [if_neg (by omega), if_neg (by omega), if_neg (by omega), if_neg (by omega)]
theorem fnv_out {k : Nat} (h : 15 ≤ k) : fnv k = .nilFunc := by
  unfold fnv
  rw [if_neg (by omega), if_neg (by omega), if_neg (by omega), if_neg (by omega)]
def zvals : List Value := (List.range 15).flatMap fun _ => [.int .i64 0, .nilFunc]
theorem fnv_one (k : Nat) : (fnv k).oneCell' = true := by
  unfold fnv
  split
  · rfl
  · split
    · rfl
    · split
      · rfl
      · split <;> rfl
theorem two_one {d : Int} {f : Value} (h : f.oneCell' = true) : [Value.int .i64 d, f].toArray.all (·.oneCell') = true := by simp [show (Value.int .i64 d).oneCell' = true from rfl, h]
theorem sizeH : (Tryd.prog.info? TH).map (·.size) = some 2 := by kernel_rfl
theorem sizeHS : (Tryd.prog.info? THS).map (·.size) = some 30 := by kernel_rfl
section
variable {w : World} {ops : Array Oper} {rest : List Oper} {o : Oper} {a : Act} {Q : Exit → Act → World → Prop}
/-- An operation whose value is known. -/
theorem wp_known (hgd : o.guard = none) {v : Value} (hr : (execOp a.eval o).run Tryd.prog w = .ok (.value v) w) (h : wpList Tryd.prog ops Q rest (a.put o.dst v) w) : wpList Tryd.prog ops Q (o :: rest) a w := by
  refine wpList_plain hgd fun K hK => ?_
  unfold Oper.wp
  rw [hr]
  exact hK _ _ h
theorem wp_storeT (T : TypeId) (hgd : o.guard = none) (x y : Operand) (ho : o.op = .store T x y) {g : Nat} {vs us : List Value} {n : Nat} (hs : (Tryd.prog.info? T).map (·.size) = some n) (h1 : vs.toArray.all (·.oneCell') = true) (hn : vs.length = n) (hx : a.eval x = .pointer (some ⟨g, 0, none⟩)) (hy : a.eval y = .agg vs.toArray) (hk : Blk w g T us) (hu : us.length = n)
    (h : ∀ w', Blk w' g T vs → w.grownBy w' (some g) → w'.heap.size = w.heap.size → wpList Tryd.prog ops Q rest (a.put o.dst undef) w') : wpList Tryd.prog ops Q (o :: rest) a w := by
  refine wpList_plain hgd fun K hK => ?_
  refine wp_store_row (P := Tryd.prog) T x y ho g vs.toArray hx hy T us.toArray hk (by rw [hs]; simp [hn]) (by simp [hu, hn]) h1 ?_
  refine hK _ _ (h _ (setRow_heap w g us.toArray vs.toArray _ _ hk) (grown_row w g _) ?_)
  simp [World.setRow]
end
theorem at_storeT (T : TypeId) {x y : Operand} {P : Program} {w : World} {ops : Array Oper} {rest : List Oper} {a : Act} {Q : Exit → Act → World → Prop} {ty : TypeId} {pos : String} {af : _} {g : _} (h : wpList P ops Q ((⟨none, .store T x y, ty, pos, af, g⟩ : Oper) :: rest) a w) : wpList P ops Q ((⟨none, .store T x y, ty, pos, af, g⟩ : Oper) :: rest) a w := h
set_option maxRecDepth 100000 in
set_option maxHeartbeats 16000000 in
theorem habit_c {w : World} {k : Nat} {d : Int} {f : Value} (h8 : k < 256) (hd : delay k = d) (hf : fnv k = f) : Calls Tryd.prog 30 #[.int .u8 (k : Int)] w fun e w' => e = .returned (.agg #[.int .i64 d, f]) ∧ Below w.heap.size w w' := by
  have HD := Lib.hid hd
  have HF := Lib.hid hf
  have HO := Lib.hid (show f.oneCell' = true from hf ▸ fnv_one k)
  obtain ⟨s, hs⟩ : ∃ s, w.heap.size = s := ⟨_, rfl⟩
  have HS := Lib.hid hs
  clear hd hf
  go_enter Tryd.func30, Tryd.ntmps30
  go_wp2_with ((with_reducible refine at_slot 10 ?_); refine Classical.byContradiction (fun hG => ?_))
  refine hG ?_
  clear hG
  refine list_named (S := fun W => Below w.heap.size w W ∧ Blk W s TH [.int .i64 0, .nilFunc]) ⟨by (repeat' (first | (with_reducible exact Below.refl _ _) | (with_reducible refine Below.setCell ?_ (by (first | omega | (simp; done) | (simp; omega))) _) | (with_reducible refine Below.alloc ?_ (by (first | omega | (simp; done) | (simp; omega))) _) | (with_reducible refine Below.drew ?_) | (with_reducible refine below_drewN ?_ _))), by subst hs; (repeat' (first | (with_reducible refine BlkP.Blk.drew ?_) | (with_reducible refine BlkP.Blk.drewN ?_ _) | (with_reducible refine BlkP.Blk.setAt (us := ?_) (by first | omega | (simp; done) | (simp; omega)) rfl ?_ ?_) | (with_reducible refine BlkP.Blk.otherAt ?_ (by first | omega | (simp; done) | (simp; omega))) | (with_reducible refine BlkP.Blk.newA' (by first | omega | (simp; done) | (simp; omega)) rfl) | (with_reducible refine BlkP.Blk.alloc ?_ _) | (exact rfl)))⟩ ?_
  rintro w1 ⟨hb1, h1⟩
  try rw [hs]
  have HB1 := Lib.hid hb1
  have H1 := Lib.hid h1
  have hls := h1.lt
  clear hb1 h1
  refine wp_known rfl (v := .agg hvals.toArray) (by kernel_rfl) ?_
  obtain ⟨hv, hhv⟩ : ∃ x, x = hvals.toArray := ⟨_, rfl⟩
  rw [← hhv]
  have HHV := Lib.hid hhv
  obtain ⟨b, hb⟩ : ∃ b, w1.heap.size = b := ⟨_, rfl⟩
  clear hhv
  go_wp2_with ((with_reducible refine at_storeT THS ?_); refine Classical.byContradiction (fun hG => ?_))
  refine hG ?_
  clear hG
  refine list_named (S := fun W => Below w.heap.size w W ∧ Blk W s TH [.int .i64 0, .nilFunc] ∧ Blk W b THS zvals) ⟨by subst hb; have := HB1.out.size; (repeat' (first | (with_reducible exact Below.refl _ _) | (with_reducible refine Below.setCell ?_ (by (first | omega | (simp; done) | (simp; omega))) _) | (with_reducible refine Below.alloc ?_ (by (first | omega | (simp; done) | (simp; omega))) _) | (with_reducible refine Below.drew ?_) | (with_reducible refine below_drewN ?_ _) | (with_reducible refine Below.trans ?_ (Below.mono HB1.out (by (first | omega | (simp; done) | (simp; omega))))))), by (repeat' (first | (with_reducible exact H1.out) | (with_reducible refine BlkP.Blk.drew ?_) | (with_reducible refine BlkP.Blk.drewN ?_ _) | (with_reducible refine BlkP.Blk.setAt (us := ?_) (by first | omega | (simp; done) | (simp; omega)) rfl ?_ ?_) | (with_reducible refine BlkP.Blk.otherAt ?_ (by first | omega | (simp; done) | (simp; omega))) | (with_reducible refine BlkP.Blk.newA' (by first | omega | (simp; done) | (simp; omega)) rfl) | (with_reducible refine BlkP.Blk.alloc ?_ _) | (exact rfl))), by subst hb; (repeat' (first | (with_reducible refine BlkP.Blk.drew ?_) | (with_reducible refine BlkP.Blk.drewN ?_ _) | (with_reducible refine BlkP.Blk.setAt (us := ?_) (by first | omega | (simp; done) | (simp; omega)) rfl ?_ ?_) | (with_reducible refine BlkP.Blk.otherAt ?_ (by first | omega | (simp; done) | (simp; omega))) | (with_reducible refine BlkP.Blk.newA' (by first | omega | (simp; done) | (simp; omega)) rfl) | (with_reducible refine BlkP.Blk.alloc ?_ _) | (exact rfl)))⟩ ?_
  rintro w2 ⟨hb2, h2, hu2⟩
  refine wp_storeT THS rfl (.tmp 3) (.tmp 10) rfl (vs := hvals) (us := zvals) sizeHS hvals_one hvals_len rfl (by rw [← HHV.out]; rfl) hu2 rfl ?_
  intro w3 hv3 hg3 hz3
  have HB3 := Lib.hid (show Below w.heap.size w w3 from hb2.grown hg3 (by have := hb2.size; omega) (fun q hq => by injection hq with hq; have := HB1.out.size; omega))
  have H3 := Lib.hid (h2.grown hg3 (fun q => by injection q with q; omega))
  have HV3 := Lib.hid hv3
  have f0 := H3.out.frozen 0
  have f1 := H3.out.frozen 1
  have z0 := H3.out.cell (i := 0) rfl
  have z1 := H3.out.cell (i := 1) rfl
  have ls := H3.out.lt
  clear hb2 h2 hu2 hg3 hz3 hv3 hb hls
  by_cases hk : k < 15
  · have hkI : ¬ (15 : Int) ≤ (k : Int) := by omega
    have hkJ : (k : Int) < 15 := by omega
    have c0 := HV3.out.cell (hvals_d hk)
    have c1 := HV3.out.cell (hvals_f hk)
    rw [HD.out] at c0
    rw [HF.out] at c1
    have lv := HV3.out.lt
    go_wp2_with ((with_reducible refine at_storeT TH ?_); refine Classical.byContradiction (fun hG => ?_))
    refine hG ?_
    clear hG
    refine wp_storeT TH rfl (.tmp 2) (.tmp 17) rfl (vs := [.int .i64 d, f]) (us := [.int .i64 0, .nilFunc]) sizeH (two_one HO.out) rfl rfl rfl H3.out rfl ?_
    intro w4 h4 hg4 hz4
    have HB4 := Lib.hid (show Below w.heap.size w w4 from HB3.out.grown hg4 HB3.out.size (fun q hq => by injection hq with hq; have := HS.out; omega))
    have z0 := h4.cell (i := 0) rfl
    have z1 := h4.cell (i := 1) rfl
    have ls := h4.lt
    clear hg4 hz4
    go_wp2_with fail
    refine bodyPost_ret (v := .agg #[.int .i64 d, f]) (by simp [results, Tryd.results30, go_sem, ls, z0, z1]) rfl ?_
    exact ⟨rfl, HB4.out⟩
  · have hkI : (15 : Int) ≤ (k : Int) := by omega
    have hkJ : (k : Int) < 256 := by omega
    obtain rfl : 0 = d := by rw [← HD.out, delay_out (by omega)]
    obtain rfl : .nilFunc = f := by rw [← HF.out, fnv_out (by omega)]
    clear hk
    go_wp2_with ((with_reducible refine at_storeT TH ?_); refine Classical.byContradiction (fun hG => ?_))
    refine hG ?_
    clear hG
    refine wp_storeT TH rfl (.tmp 2) (.tmp 14) rfl (vs := [.int .i64 0, .nilFunc]) (us := [.int .i64 0, .nilFunc]) sizeH (two_one HO.out) rfl rfl rfl H3.out rfl ?_
    intro w4 h4 hg4 hz4
    have HB4 := Lib.hid (show Below w.heap.size w w4 from HB3.out.grown hg4 HB3.out.size (fun q hq => by injection hq with hq; have := HS.out; omega))
    have z0 := h4.cell (i := 0) rfl
    have z1 := h4.cell (i := 1) rfl
    have ls := h4.lt
    clear hg4 hz4
    go_wp2_with fail
    refine bodyPost_ret (v := .agg #[.int .i64 0, .nilFunc]) (by simp [results, Tryd.results30, go_sem, ls, z0, z1]) rfl ?_
    exact ⟨rfl, HB4.out⟩
end ReactW
end Go.Proofs.YtlahkmkipciiiaaDoor


/-
  Delay, movable; the reference's Delay, one.
-/
namespace Go.Proofs.YtlahkmkipciiiaaDoor
open Go.RowKit
set_option linter.unusedVariables false
set_option linter.unusedSimpArgs false
namespace ReactW
open BlkP RowG FrS PushG CellsW NearW BurnP BurnW ReactP DeedW

theorem field_habit (w : World) (d : Int) (f : Value) : (Instr.field TH (.agg #[.int .i64 d, f]) 0).run Tryd.prog w = .ok (.int .i64 d) w := by kernel_rfl
set_option maxRecDepth 100000 in
set_option maxHeartbeats 4000000 in
theorem Delay_c {w : World} {k : Nat} {d : Int} (h8 : k < 256) (hd : delay k = d) : Calls Tryd.prog 11 #[.int .u8 (k : Int)] w fun e w' => e = .returned (.int .i64 d) ∧ Below w.heap.size w w' := by
  have HD := Lib.hid hd
  obtain ⟨f, hf⟩ : ∃ f, fnv k = f := ⟨_, rfl⟩
  have HF := Lib.hid hf
  clear hd hf
  go_enter Tryd.func11, Tryd.ntmps11
  go_wp2_with fail
  refine (habit_c h8 HD.out HF.out).mono ?_
  rintro e w1 ⟨rfl, hb1⟩
  have HB1 := Lib.hid (show Below w.heap.size w w1 by (repeat' (first | (with_reducible exact Below.refl _ _) | (with_reducible refine Below.setCell ?_ (by (first | omega | (simp; done) | (simp; omega))) _) | (with_reducible refine Below.alloc ?_ (by (first | omega | (simp; done) | (simp; omega))) _) | (with_reducible refine Below.drew ?_) | (with_reducible refine below_drewN ?_ _) | (with_reducible refine Below.trans ?_ (Below.mono hb1 (by (first | omega | (simp; done) | (simp; omega))))))))
  have hfd := field_habit w1 d f
  clear hb1
  go_wp2_with fail
  go_ret
  exact ⟨rfl, HB1.out⟩
set_option maxRecDepth 100000 in
set_option maxHeartbeats 4000000 in
theorem rDelay_c {w : World} {k : Nat} {d : Int} (hd : delay k = d) : Calls Tryd.prog 12 #[.int .u8 (k : Int)] w fun e w' => e = .returned (.int .i64 d) ∧ Below w.heap.size w w' := by
  by_cases h4 : k = 4
  · subst h4
    obtain rfl : 1 = d := by rw [← hd]; rfl
    clear hd
    go_enter Tryd.func12, Tryd.ntmps12
    go_wp2_with fail
    go_ret
    exact ⟨rfl, by (repeat' (first | (with_reducible exact Below.refl _ _) | (with_reducible refine Below.setCell ?_ (by (first | omega | (simp; done) | (simp; omega))) _) | (with_reducible refine Below.alloc ?_ (by (first | omega | (simp; done) | (simp; omega))) _) | (with_reducible refine Below.drew ?_) | (with_reducible refine below_drewN ?_ _)))⟩
  by_cases h5 : k = 5
  · subst h5
    obtain rfl : 1 = d := by rw [← hd]; rfl
    clear hd
    go_enter Tryd.func12, Tryd.ntmps12
    go_wp2_with fail
    go_ret
    exact ⟨rfl, by (repeat' (first | (with_reducible exact Below.refl _ _) | (with_reducible refine Below.setCell ?_ (by (first | omega | (simp; done) | (simp; omega))) _) | (with_reducible refine Below.alloc ?_ (by (first | omega | (simp; done) | (simp; omega))) _) | (with_reducible refine Below.drew ?_) | (with_reducible refine below_drewN ?_ _)))⟩
  by_cases h8 : k = 8
  · subst h8
    obtain rfl : 1 = d := by rw [← hd]; rfl
    clear hd
    go_enter Tryd.func12, Tryd.ntmps12
    go_wp2_with fail
    go_ret
    exact ⟨rfl, by (repeat' (first | (with_reducible exact Below.refl _ _) | (with_reducible refine Below.setCell ?_ (by (first | omega | (simp; done) | (simp; omega))) _) | (with_reducible refine Below.alloc ?_ (by (first | omega | (simp; done) | (simp; omega))) _) | (with_reducible refine Below.drew ?_) | (with_reducible refine below_drewN ?_ _)))⟩
  by_cases h13 : k = 13
  · subst h13
    obtain rfl : 2 = d := by rw [← hd]; rfl
    clear hd
    go_enter Tryd.func12, Tryd.ntmps12
    go_wp2_with fail
    go_ret
    exact ⟨rfl, by (repeat' (first | (with_reducible exact Below.refl _ _) | (with_reducible refine Below.setCell ?_ (by (first | omega | (simp; done) | (simp; omega))) _) | (with_reducible refine Below.alloc ?_ (by (first | omega | (simp; done) | (simp; omega))) _) | (with_reducible refine Below.drew ?_) | (with_reducible refine below_drewN ?_ _)))⟩
  by_cases h14 : k = 14
  · subst h14
    obtain rfl : 3 = d := by rw [← hd]; rfl
    clear hd
    go_enter Tryd.func12, Tryd.ntmps12
    go_wp2_with fail
    go_ret
    exact ⟨rfl, by (repeat' (first | (with_reducible exact Below.refl _ _) | (with_reducible refine Below.setCell ?_ (by (first | omega | (simp; done) | (simp; omega))) _) | (with_reducible refine Below.alloc ?_ (by (first | omega | (simp; done) | (simp; omega))) _) | (with_reducible refine Below.drew ?_) | (with_reducible refine below_drewN ?_ _)))⟩
  by_cases h12 : k = 12
  · subst h12
    obtain rfl : 5 = d := by rw [← hd]; rfl
    clear hd
    go_enter Tryd.func12, Tryd.ntmps12
    go_wp2_with fail
    go_ret
    exact ⟨rfl, by (repeat' (first | (with_reducible exact Below.refl _ _) | (with_reducible refine Below.setCell ?_ (by (first | omega | (simp; done) | (simp; omega))) _) | (with_reducible refine Below.alloc ?_ (by (first | omega | (simp; done) | (simp; omega))) _) | (with_reducible refine Below.drew ?_) | (with_reducible refine below_drewN ?_ _)))⟩
  obtain rfl : 0 = d := by rw [← hd]; unfold delay; rw [if_neg (by omega), if_neg (by omega), if_neg (by omega), if_neg (by omega)]
  have i4 : ((k : Int) == 4) = false := by simp; omega
  have i5 : ((k : Int) == 5) = false := by simp; omega
  have i8 : ((k : Int) == 8) = false := by simp; omega
  have i13 : ((k : Int) == 13) = false := by simp; omega
  have i14 : ((k : Int) == 14) = false := by simp; omega
  have i12 : ((k : Int) == 12) = false := by simp; omega
  clear hd h4 h5 h8 h13 h14 h12
  go_enter Tryd.func12, Tryd.ntmps12
  go_wp2_with fail
  go_ret
  exact ⟨rfl, by (repeat' (first | (with_reducible exact Below.refl _ _) | (with_reducible refine Below.setCell ?_ (by (first | omega | (simp; done) | (simp; omega))) _) | (with_reducible refine Below.alloc ?_ (by (first | omega | (simp; done) | (simp; omega))) _) | (with_reducible refine Below.drew ?_) | (with_reducible refine below_drewN ?_ _)))⟩
set_option maxRecDepth 100000 in
set_option maxHeartbeats 4000000 in
theorem movb_c {w : World} {k l : Nat} {x : Int} (hT : KindW.Tab w) (h : one (k, l) = x) : Calls Tryd.prog 62 #[.agg #[.int .u8 (k : Int), .int .u8 (l : Int)]] w fun e w' => e = .returned (.int .i64 x) ∧ Below w.heap.size w w' := by
  have HT := Lib.hid hT
  clear hT
  cases hm : KindP.may k l with
  | true =>
    have HM := Lib.hid hm
    cases hv : KindP.movable k with
    | true =>
      obtain rfl : 1 = x := by rw [← h]; simp [one, kd, mv, hm, hv]
      have HV := Lib.hid hv
      clear hm hv h
      go_enter Tryd.func62, Tryd.ntmps62
      go_wp2_with fail
      refine (KindW.k_may_b HM.out _ (HT.out.below (by (repeat' (first | (with_reducible exact Below.refl _ _) | (with_reducible refine Below.setCell ?_ (by (first | omega | (simp; done) | (simp; omega))) _) | (with_reducible refine Below.alloc ?_ (by (first | omega | (simp; done) | (simp; omega))) _) | (with_reducible refine Below.drew ?_) | (with_reducible refine below_drewN ?_ _)))))).mono ?_
      rintro e1 w1 ⟨rfl, hb⟩
      have h1 : Blk w1 w.heap.size TC [.int .u8 k, .int .u8 l] := Blk.below (by (repeat' (first | (with_reducible refine BlkP.Blk.drew ?_) | (with_reducible refine BlkP.Blk.drewN ?_ _) | (with_reducible refine BlkP.Blk.setAt (us := ?_) (by first | omega | (simp; done) | (simp; omega)) rfl ?_ ?_) | (with_reducible refine BlkP.Blk.otherAt ?_ (by first | omega | (simp; done) | (simp; omega))) | (with_reducible refine BlkP.Blk.newA' (by first | omega | (simp; done) | (simp; omega)) rfl) | (with_reducible refine BlkP.Blk.alloc ?_ _) | (exact rfl)))) hb
      have HB := Lib.hid (show Below w.heap.size w w1 by (repeat' (first | (with_reducible exact Below.refl _ _) | (with_reducible refine Below.setCell ?_ (by (first | omega | (simp; done) | (simp; omega))) _) | (with_reducible refine Below.alloc ?_ (by (first | omega | (simp; done) | (simp; omega))) _) | (with_reducible refine Below.drew ?_) | (with_reducible refine below_drewN ?_ _) | (with_reducible refine Below.trans ?_ (Below.mono hb (by (first | omega | (simp; done) | (simp; omega))))))))
      have c0 := h1.cell (i := 0) rfl
      have c1 := h1.cell (i := 1) rfl
      have l1 := h1.lt
      clear hb h1
      go_wp2_with fail
      refine (KindW.k_movable k _ (HT.out.below (HB.out))).mono ?_
      rw [HV.out]
      rintro e1 w2 ⟨rfl, rfl⟩
      go_wp2_with fail
      go_ret
      exact ⟨rfl, HB.out⟩
    | false =>
      obtain rfl : 0 = x := by rw [← h]; simp [one, kd, mv, hm, hv]
      have HV := Lib.hid hv
      clear hm hv h
      go_enter Tryd.func62, Tryd.ntmps62
      go_wp2_with fail
      refine (KindW.k_may_b HM.out _ (HT.out.below (by (repeat' (first | (with_reducible exact Below.refl _ _) | (with_reducible refine Below.setCell ?_ (by (first | omega | (simp; done) | (simp; omega))) _) | (with_reducible refine Below.alloc ?_ (by (first | omega | (simp; done) | (simp; omega))) _) | (with_reducible refine Below.drew ?_) | (with_reducible refine below_drewN ?_ _)))))).mono ?_
      rintro e1 w1 ⟨rfl, hb⟩
      have h1 : Blk w1 w.heap.size TC [.int .u8 k, .int .u8 l] := Blk.below (by (repeat' (first | (with_reducible refine BlkP.Blk.drew ?_) | (with_reducible refine BlkP.Blk.drewN ?_ _) | (with_reducible refine BlkP.Blk.setAt (us := ?_) (by first | omega | (simp; done) | (simp; omega)) rfl ?_ ?_) | (with_reducible refine BlkP.Blk.otherAt ?_ (by first | omega | (simp; done) | (simp; omega))) | (with_reducible refine BlkP.Blk.newA' (by first | omega | (simp; done) | (simp; omega)) rfl) | (with_reducible refine BlkP.Blk.alloc ?_ _) | (exact rfl)))) hb
      have HB := Lib.hid (show Below w.heap.size w w1 by (repeat' (first | (with_reducible exact Below.refl _ _) | (with_reducible refine Below.setCell ?_ (by (first | omega | (simp; done) | (simp; omega))) _) | (with_reducible refine Below.alloc ?_ (by (first | omega | (simp; done) | (simp; omega))) _) | (with_reducible refine Below.drew ?_) | (with_reducible refine below_drewN ?_ _) | (with_reducible refine Below.trans ?_ (Below.mono hb (by (first | omega | (simp; done) | (simp; omega))))))))
      have c0 := h1.cell (i := 0) rfl
      have c1 := h1.cell (i := 1) rfl
      have l1 := h1.lt
      clear hb h1
      go_wp2_with fail
      refine (KindW.k_movable k _ (HT.out.below (HB.out))).mono ?_
      rw [HV.out]
      rintro e1 w2 ⟨rfl, rfl⟩
      go_wp2_with fail
      go_ret
      exact ⟨rfl, HB.out⟩
  | false =>
    obtain rfl : 0 = x := by
      rw [← h]
      simp only [one, kd, hm, Bool.false_eq_true, if_false]
      decide
    have HM := Lib.hid hm
    clear hm h
    go_enter Tryd.func62, Tryd.ntmps62
    go_wp2_with fail
    refine (KindW.k_may_b HM.out _ (HT.out.below (by (repeat' (first | (with_reducible exact Below.refl _ _) | (with_reducible refine Below.setCell ?_ (by (first | omega | (simp; done) | (simp; omega))) _) | (with_reducible refine Below.alloc ?_ (by (first | omega | (simp; done) | (simp; omega))) _) | (with_reducible refine Below.drew ?_) | (with_reducible refine below_drewN ?_ _)))))).mono ?_
    rintro e1 w1 ⟨rfl, hb⟩
    have HB := Lib.hid (show Below w.heap.size w w1 by (repeat' (first | (with_reducible exact Below.refl _ _) | (with_reducible refine Below.setCell ?_ (by (first | omega | (simp; done) | (simp; omega))) _) | (with_reducible refine Below.alloc ?_ (by (first | omega | (simp; done) | (simp; omega))) _) | (with_reducible refine Below.drew ?_) | (with_reducible refine below_drewN ?_ _) | (with_reducible refine Below.trans ?_ (Below.mono hb (by (first | omega | (simp; done) | (simp; omega))))))))
    clear hb
    go_wp2_with fail
    go_ret
    exact ⟨rfl, HB.out⟩
set_option maxRecDepth 100000 in
set_option maxHeartbeats 4000000 in
theorem rone_c {w : World} {k l : Nat} {x : Int} (h : one (k, l) = x) : Calls Tryd.prog 32 #[.agg #[.int .u8 (k : Int), .int .u8 (l : Int)]] w fun e w' => e = .returned (.int .i64 x) ∧ Below w.heap.size w w' := by
  cases hm : KindP.may k l with
  | true =>
    have HM := Lib.hid hm
    cases hv : KindP.movable k with
    | true =>
      obtain rfl : 1 = x := by rw [← h]; simp [one, kd, mv, hm, hv]
      have HV := Lib.hid hv
      clear hm hv h
      go_enter Tryd.func32, Tryd.ntmps32
      go_wp2_with fail
      refine (KindW.r_may_b HM.out _).mono ?_
      rintro e1 w1 ⟨rfl, hb⟩
      have h1 : Blk w1 w.heap.size TC [.int .u8 k, .int .u8 l] := Blk.below (by (repeat' (first | (with_reducible refine BlkP.Blk.drew ?_) | (with_reducible refine BlkP.Blk.drewN ?_ _) | (with_reducible refine BlkP.Blk.setAt (us := ?_) (by first | omega | (simp; done) | (simp; omega)) rfl ?_ ?_) | (with_reducible refine BlkP.Blk.otherAt ?_ (by first | omega | (simp; done) | (simp; omega))) | (with_reducible refine BlkP.Blk.newA' (by first | omega | (simp; done) | (simp; omega)) rfl) | (with_reducible refine BlkP.Blk.alloc ?_ _) | (exact rfl)))) hb
      have HB := Lib.hid (show Below w.heap.size w w1 by (repeat' (first | (with_reducible exact Below.refl _ _) | (with_reducible refine Below.setCell ?_ (by (first | omega | (simp; done) | (simp; omega))) _) | (with_reducible refine Below.alloc ?_ (by (first | omega | (simp; done) | (simp; omega))) _) | (with_reducible refine Below.drew ?_) | (with_reducible refine below_drewN ?_ _) | (with_reducible refine Below.trans ?_ (Below.mono hb (by (first | omega | (simp; done) | (simp; omega))))))))
      have c0 := h1.cell (i := 0) rfl
      have c1 := h1.cell (i := 1) rfl
      have l1 := h1.lt
      clear hb h1
      go_wp2_with fail
      refine (KindW.r_movable k _).mono ?_
      rw [HV.out]
      rintro e1 w2 ⟨rfl, hb2⟩
      have HB2 := Lib.hid (below_t HB.out hb2)
      clear hb2
      go_wp2_with fail
      go_ret
      exact ⟨rfl, HB2.out⟩
    | false =>
      obtain rfl : 0 = x := by rw [← h]; simp [one, kd, mv, hm, hv]
      have HV := Lib.hid hv
      clear hm hv h
      go_enter Tryd.func32, Tryd.ntmps32
      go_wp2_with fail
      refine (KindW.r_may_b HM.out _).mono ?_
      rintro e1 w1 ⟨rfl, hb⟩
      have h1 : Blk w1 w.heap.size TC [.int .u8 k, .int .u8 l] := Blk.below (by (repeat' (first | (with_reducible refine BlkP.Blk.drew ?_) | (with_reducible refine BlkP.Blk.drewN ?_ _) | (with_reducible refine BlkP.Blk.setAt (us := ?_) (by first | omega | (simp; done) | (simp; omega)) rfl ?_ ?_) | (with_reducible refine BlkP.Blk.otherAt ?_ (by first | omega | (simp; done) | (simp; omega))) | (with_reducible refine BlkP.Blk.newA' (by first | omega | (simp; done) | (simp; omega)) rfl) | (with_reducible refine BlkP.Blk.alloc ?_ _) | (exact rfl)))) hb
      have HB := Lib.hid (show Below w.heap.size w w1 by (repeat' (first | (with_reducible exact Below.refl _ _) | (with_reducible refine Below.setCell ?_ (by (first | omega | (simp; done) | (simp; omega))) _) | (with_reducible refine Below.alloc ?_ (by (first | omega | (simp; done) | (simp; omega))) _) | (with_reducible refine Below.drew ?_) | (with_reducible refine below_drewN ?_ _) | (with_reducible refine Below.trans ?_ (Below.mono hb (by (first | omega | (simp; done) | (simp; omega))))))))
      have c0 := h1.cell (i := 0) rfl
      have c1 := h1.cell (i := 1) rfl
      have l1 := h1.lt
      clear hb h1
      go_wp2_with fail
      refine (KindW.r_movable k _).mono ?_
      rw [HV.out]
      rintro e1 w2 ⟨rfl, hb2⟩
      have HB2 := Lib.hid (below_t HB.out hb2)
      clear hb2
      go_wp2_with fail
      go_ret
      exact ⟨rfl, HB2.out⟩
  | false =>
    obtain rfl : 0 = x := by
      rw [← h]
      simp only [one, kd, hm, Bool.false_eq_true, if_false]
      decide
    have HM := Lib.hid hm
    clear hm h
    go_enter Tryd.func32, Tryd.ntmps32
    go_wp2_with fail
    refine (KindW.r_may_b HM.out _).mono ?_
    rintro e1 w1 ⟨rfl, hb⟩
    have HB := Lib.hid (show Below w.heap.size w w1 by (repeat' (first | (with_reducible exact Below.refl _ _) | (with_reducible refine Below.setCell ?_ (by (first | omega | (simp; done) | (simp; omega))) _) | (with_reducible refine Below.alloc ?_ (by (first | omega | (simp; done) | (simp; omega))) _) | (with_reducible refine Below.drew ?_) | (with_reducible refine below_drewN ?_ _) | (with_reducible refine Below.trans ?_ (Below.mono hb (by (first | omega | (simp; done) | (simp; omega))))))))
    clear hb
    go_wp2_with fail
    go_ret
    exact ⟨rfl, HB.out⟩
end ReactW
end Go.Proofs.YtlahkmkipciiiaaDoor


/-
  How many of the cell and its sides are movable.
-/
namespace Go.Proofs.YtlahkmkipciiiaaDoor
open Go.RowKit
set_option linter.unusedVariables false
set_option linter.unusedSimpArgs false
namespace ReactW
open BlkP RowG FrS PushG CellsW NearW BurnP BurnW ReactP DeedW

def six (f : Nat → Cl) : List Cl := [f 0, f 1, f 2, f 3, f 4, f 5]
theorem six_at (f : Nat → Cl) {j : Nat} (h : j < 6) : ∀ w, (Instr.index FlowW.TS6 (.agg (FlowW.arrC (six f))) (.int .i64 (j : Int))).run Tryd.prog w = .ok (cvl (f j)) w := by
  match j, h with
  | 0, _ => exact fun _ => by kernel_rfl
  | 1, _ => exact fun _ => by kernel_rfl
  | 2, _ => exact fun _ => by kernel_rfl
  | 3, _ => exact fun _ => by kernel_rfl
  | 4, _ => exact fun _ => by kernel_rfl
  | 5, _ => exact fun _ => by kernel_rfl
/-- How many of the first j sides are movable. -/
def sumTo (f : Nat → Cl) : Nat → Int
  | 0 => 0
  | j + 1 => sumTo f j + one (f j)
theorem sum_le (f : Nat → Cl) : ∀ j, 0 ≤ sumTo f j ∧ sumTo f j ≤ (j : Int)
  | 0 => ⟨Int.le_refl _, Int.le_refl _⟩
  | j + 1 => by
    have h := sum_le f j
    have a := one_le (f j)
    simp only [sumTo]
    omega
theorem sum_six (f : Nat → Cl) : sumTo f 6 = cnt6 f := by
  simp only [sumTo, cnt6]
  omega
set_option maxRecDepth 100000 in
set_option maxHeartbeats 8000000 in
theorem movbs_c {w : World} {n : Nr} {x : Int} (hT : KindW.Tab w) (hx : cnt n = x) : Calls Tryd.prog 31 #[nv n] w fun e w' => e = .returned (.int .i64 x) ∧ Below w.heap.size w w' := by
  have HT := Lib.hid hT
  have HX := Lib.hid hx
  obtain ⟨⟨k0, l0⟩, hs0⟩ : ∃ c, n.s = c := ⟨_, rfl⟩
  have HS0 := Lib.hid hs0
  obtain ⟨o0, ho0⟩ : ∃ c, one (k0, l0) = c := ⟨_, rfl⟩
  have HO0 := Lib.hid ho0
  have HO1 := Lib.hid (show 0 ≤ o0 ∧ o0 ≤ 1 from ho0 ▸ one_le _)
  obtain ⟨s, hs⟩ : ∃ s, w.heap.size = s := ⟨_, rfl⟩
  have HS := Lib.hid hs
  clear hT hx hs0 ho0
  go_enter Tryd.func31, Tryd.ntmps31
  go_wp2_with ((with_reducible refine at_slot 1 ?_); refine Classical.byContradiction (fun hG => ?_))
  refine hG ?_
  clear hG
  refine wp_boxN rfl (.tmp 0) rfl rfl ?_
  intro w1 h1 hb1 hz1
  rw [hs] at h1 hz1
  try rw [hs]
  have HB1 := Lib.hid hb1
  have H1 := Lib.hid h1
  have c0 := h1.cell (i := 0) (g_kind n)
  have c1 := h1.cell (i := 1) (g_lev n)
  rw [HS0.out] at c0 c1
  simp only at c0 c1
  have ls := h1.lt
  clear h1 hb1 hz1 hs
  go_wp2_with fail
  refine (movb_c (HT.out.below HB1.out) HO0.out).mono ?_
  rintro e w2 ⟨rfl, hb2⟩
  have HB2 := Lib.hid (below_t HB1.out hb2)
  have H2 := Lib.hid (H1.out.below hb2)
  clear hb2 c0 c1 ls
  go_wp2_with ((with_reducible refine at_slot 10 ?_); refine Classical.byContradiction (fun hG => ?_))
  refine hG ?_
  clear hG
  refine FlowW.wp_loadS rfl (.tmp 9) rfl rfl (n := toF n) H2.out ?_
  obtain ⟨arr, harr⟩ : ∃ a, FlowW.arrC [(toF n).sd 0, (toF n).sd 1, (toF n).sd 2, (toF n).sd 3, (toF n).sd 4, (toF n).sd 5] = a := ⟨_, rfl⟩
  rw [harr]
  have HARR := Lib.hid (show FlowW.arrC (six n.sd) = arr from harr)
  clear harr
  go_wp2_with fail
  go_loopw [3, 5, 11] (fun v3 _ v11 wr => ∃ j : Nat, v11 = .int .i64 (j : Nat) ∧ v3 = .int .i64 (o0 + sumTo n.sd j) ∧ j ≤ 6 ∧ Below w2.heap.size w2 wr) (fun _ _ v _ => 6 - (intOf v).toNat)
  case atStart => exact ⟨0, rfl, by simp [sumTo], by omega, Below.refl _ _⟩
  case round =>
    obtain ⟨j, rfl, rfl, hj, hbr⟩ := hrel
    have HBR := Lib.hid hbr
    have HB9 := Lib.hid (below_t HB2.out hbr)
    obtain ⟨q, hq⟩ : ∃ q, sumTo n.sd j = q := ⟨_, rfl⟩
    have HQ := Lib.hid hq
    have hq1 : 0 ≤ q := by rw [← hq]; exact (sum_le n.sd j).1
    have hq2 : q ≤ 6 := by have := (sum_le n.sd j).2; omega
    have ho1 := HO1.out.1
    have ho2 := HO1.out.2
    rw [hq]
    by_cases hjl : j < 6
    · have hjI : (j : Int) < 6 := by omega
      have HWR := Lib.hid (show wrap64 ((j : Int) + 1) = ((j + 1 : Nat) : Int) by rw [wr64 (by omega) (by omega)]; omega)
      obtain ⟨⟨k1, l1⟩, hk1⟩ : ∃ c, n.sd j = c := ⟨_, rfl⟩
      have HK1 := Lib.hid hk1
      have hidx := six_at n.sd hjl
      rw [HARR.out, hk1] at hidx
      obtain ⟨o1, ho1'⟩ : ∃ c, one (k1, l1) = c := ⟨_, rfl⟩
      have HOO := Lib.hid ho1'
      have hoa : 0 ≤ o1 := by rw [← ho1']; exact (one_le _).1
      have hob : o1 ≤ 1 := by rw [← ho1']; exact (one_le _).2
      have HSUM := Lib.hid (show sumTo n.sd (j + 1) = q + o1 from by simp only [sumTo]; rw [hq, hk1, ho1'])
      obtain ⟨bx, hbx⟩ : ∃ b, wr.heap.size = b := ⟨_, rfl⟩
      clear hbr hq hk1 ho1' hjl
      unfold cvl at hidx
      go_wp2_with fail
      refine (movb_c (HT.out.below (by have := HB9.out.size; (repeat' (first | (with_reducible exact Below.refl _ _) | (with_reducible refine Below.setCell ?_ (by (first | omega | (simp; done) | (simp; omega))) _) | (with_reducible refine Below.alloc ?_ (by (first | omega | (simp; done) | (simp; omega))) _) | (with_reducible refine Below.drew ?_) | (with_reducible refine below_drewN ?_ _) | (with_reducible refine Below.trans ?_ (Below.mono HB9.out (by (first | omega | (simp; done) | (simp; omega))))))))) HOO.out).mono ?_
      rintro e w4 ⟨rfl, hb4⟩
      have HB4 := Lib.hid (show Below w2.heap.size w2 w4 by have := HBR.out.size; (repeat' (first | (with_reducible exact Below.refl _ _) | (with_reducible refine Below.setCell ?_ (by (first | omega | (simp; done) | (simp; omega))) _) | (with_reducible refine Below.alloc ?_ (by (first | omega | (simp; done) | (simp; omega))) _) | (with_reducible refine Below.drew ?_) | (with_reducible refine below_drewN ?_ _) | (with_reducible refine Below.trans ?_ (Below.mono HBR.out (by (first | omega | (simp; done) | (simp; omega))))) | (with_reducible refine Below.trans ?_ (Below.mono hb4 (by (first | omega | (simp; done) | (simp; omega))))))))
      have HWS := Lib.hid (show wrap64 (o0 + q + o1) = o0 + (q + o1) from by rw [wr64 (by omega) (by omega)]; omega)
      clear hb4
      go_wp2_with fail
      go_roundw
      case rel => exact ⟨j + 1, by first | rfl | rw [HWR.out] | (congr 1; omega), by rw [HSUM.out]; first | rfl | rw [HWS.out] | (congr 1; omega), by omega, HB4.out⟩
      case measure =>
        simp only [intOf]
        omega
    · have hjI : ¬ (j : Int) < 6 := by omega
      obtain rfl : j = 6 := by omega
      have HE := Lib.hid (show x = o0 + q from by
        rw [← HX.out, ← HQ.out, sum_six]
        unfold cnt
        rw [HS0.out, HO0.out])
      clear hbr hq hjl
      go_wp2_with fail
      go_ret
      exact ⟨congrArg (fun t => Ending.returned (.int .i64 t)) HE.out.symm, HB9.out⟩
end ReactW
end Go.Proofs.YtlahkmkipciiiaaDoor


/-
  What is near behind a deed.
-/
namespace Go.Proofs.YtlahkmkipciiiaaDoor
open Go.RowKit
set_option linter.unusedVariables false
set_option linter.unusedSimpArgs false
namespace ReactW
open BlkP RowG FrS PushG CellsW NearW BurnP BurnW ReactP DeedW

theorem results_NT {fn : Func} {tmps : Array Value} {w : World} {b t : Nat} {n : Nr} (hr : fn.results = #[.cell t TN]) (ht : tmps.getD t undef = .pointer (some ⟨b, 0, none⟩)) (h : Blk w b TN (vals n)) : (results fn tmps).run Tryd.prog w = .ok (nv n) w := by
  have hl := run_loadN h
  unfold results
  rw [hr]
  simp only [Array.mapM_eq_mapM_toList, List.mapM_cons, List.mapM_nil, map_eq_pure_bind, ht, asAddr, bind_assoc, pure_bind, Sem.run_bind, Sem.run_pure, hl, Result.andThen_ok]
  rfl
theorem behind_app (n : Nr) (l : List (Int × Cl)) (x : Int × Cl) : behind n (l ++ [x]) = put (behind n l) x := by
  unfold behind
  rw [List.foldl_append]
  rfl
theorem put_other (n : Nr) {z : Int} (h0 : z ≠ 0) (h : ¬ (1 ≤ z ∧ z ≤ 6)) (c : Cl) : put n (z, c) = n := by
  unfold put
  rw [if_neg h0, if_neg h]
theorem put_self (n : Nr) (c : Cl) : put n (0, c) = {n with s := c} := rfl
theorem put_side (n : Nr) {d : Nat} (h1 : 1 ≤ d) (h2 : d ≤ 6) (c : Cl) : put n ((d : Int), c) = {n with sd := upd n.sd (d - 1) c} := by
  rw [put_at n h2 c, if_neg (by omega)]
set_option maxRecDepth 100000 in
set_option maxHeartbeats 16000000 in
theorem Behind_c {w : World} {n : Nr} {A : Option Addr} {k c : Nat} {ag dl : Int} {L : List (Int × Cl)} (hR : Rd encZ w (.slice A k c) L) (hk : L.length = k) (hb : k ≤ 140737488355328) :
    Calls Tryd.prog 14 #[nv n, .agg #[.slice A k c, .int .i64 ag, .int .i64 dl]] w fun e w' => e = .returned (nv (behind n L)) ∧ Below w.heap.size w w' := by
  have HR := Lib.hid hR
  have HK := Lib.hid hk
  have hkI : (k : Int) ≤ 140737488355328 := by omega
  obtain ⟨s, hs⟩ : ∃ s, w.heap.size = s := ⟨_, rfl⟩
  have HS := Lib.hid hs
  clear hR hk
  go_enter Tryd.func14, Tryd.ntmps14
  go_wp2_with ((with_reducible refine at_slot 2 ?_); refine Classical.byContradiction (fun hG => ?_))
  refine hG ?_
  clear hG
  refine wp_boxN rfl (.tmp 0) rfl rfl ?_
  intro w1 h1 hb1 hz1
  rw [hs] at h1 hz1
  try rw [hs]
  have HB1 := Lib.hid hb1
  have H1 := Lib.hid h1
  clear h1 hb1
  go_wp2_with ((with_reducible refine at_slot 7 ?_); refine Classical.byContradiction (fun hG => ?_))
  refine hG ?_
  clear hG
  refine list_named (S := fun W => Below w.heap.size w W ∧ Blk W s TN (vals n) ∧ Blk W (s + 1) TD [.slice A k c, .int .i64 ag, .int .i64 dl] ∧ Blk W (s + 2) TN (vals nz)) ⟨by have zz := HB1.out.size; (repeat' (first | (with_reducible exact Below.refl _ _) | (with_reducible refine Below.setCell ?_ (by (first | omega | (simp; done) | (simp; omega))) _) | (with_reducible refine Below.alloc ?_ (by (first | omega | (simp; done) | (simp; omega))) _) | (with_reducible refine Below.drew ?_) | (with_reducible refine below_drewN ?_ _) | (with_reducible refine Below.trans ?_ (Below.mono HB1.out (by (first | omega | (simp; done) | (simp; omega))))))), by (repeat' (first | (with_reducible exact H1.out) | (with_reducible refine BlkP.Blk.drew ?_) | (with_reducible refine BlkP.Blk.drewN ?_ _) | (with_reducible refine BlkP.Blk.setAt (us := ?_) (by first | omega | (simp; done) | (simp; omega)) rfl ?_ ?_) | (with_reducible refine BlkP.Blk.otherAt ?_ (by first | omega | (simp; done) | (simp; omega))) | (with_reducible refine BlkP.Blk.newA' (by first | omega | (simp; done) | (simp; omega)) rfl) | (with_reducible refine BlkP.Blk.alloc ?_ _) | (exact rfl))), by (repeat' (first | (with_reducible refine BlkP.Blk.drew ?_) | (with_reducible refine BlkP.Blk.drewN ?_ _) | (with_reducible refine BlkP.Blk.setAt (us := ?_) (by first | omega | (simp; done) | (simp; omega)) rfl ?_ ?_) | (with_reducible refine BlkP.Blk.otherAt ?_ (by first | omega | (simp; done) | (simp; omega))) | (with_reducible refine BlkP.Blk.newA' (by first | omega | (simp; done) | (simp; omega)) rfl) | (with_reducible refine BlkP.Blk.alloc ?_ _) | (exact rfl))), by (repeat' (first | (with_reducible refine BlkP.Blk.drew ?_) | (with_reducible refine BlkP.Blk.drewN ?_ _) | (with_reducible refine BlkP.Blk.setAt (us := ?_) (by first | omega | (simp; done) | (simp; omega)) rfl ?_ ?_) | (with_reducible refine BlkP.Blk.otherAt ?_ (by first | omega | (simp; done) | (simp; omega))) | (with_reducible refine BlkP.Blk.newA' (by first | omega | (simp; done) | (simp; omega)) rfl) | (with_reducible refine BlkP.Blk.alloc ?_ _) | (exact rfl)))⟩ ?_
  rintro w2 ⟨hb2, h2, hr2, hz2⟩
  try rw [hz1]
  have HB2 := Lib.hid hb2
  have H2 := Lib.hid h2
  have HZ2 := Lib.hid hz2
  have d0 := hr2.cell (i := 0) rfl
  have ld := hr2.lt
  clear hb2 h2 hr2 hz2 hz1 hs
  go_wp2_with fail
  go_loopw [6, 10] (fun _ v10 wr => ∃ j : Nat, v10 = .int .i64 (j : Nat) ∧ j ≤ k ∧ (Blk wr s TN (vals (behind n (L.take j))) ∧ Blk wr (s + 2) TN (vals nz)) ∧ Below w.heap.size w wr) (fun _ v _ => k - (intOf v).toNat)
  case atStart => exact ⟨0, rfl, by omega, ⟨H2.out, HZ2.out⟩, HB2.out⟩
  case round =>
    obtain ⟨j, rfl, hj, ⟨hr, hzr⟩, hbr⟩ := hrel
    obtain ⟨m, hm⟩ : ∃ m, behind n (L.take j) = m := ⟨_, rfl⟩
    rw [hm] at hr
    have HM := Lib.hid hm
    have HRR := Lib.hid hr
    have HZR := Lib.hid hzr
    have HBR := Lib.hid hbr
    have ls := hr.lt
    have lz := hzr.lt
    by_cases hjl : j < k
    · have hjI : (j : Int) < (k : Int) := by omega
      have HWR := Lib.hid (show wrap64 ((j : Int) + 1) = ((j + 1 : Nat) : Int) by rw [wr64 (by omega) (by omega)]; omega)
      obtain ⟨⟨z, kk, mm⟩, hx⟩ : ∃ x, L[j]? = some x := ⟨_, List.getElem?_eq_getElem (by rw [HK.out]; exact hjl)⟩
      have HNX := Lib.hid (show behind n (L.take (j + 1)) = put m (z, (kk, mm)) from by
        rw [List.take_add_one, hx, Option.toList_some, behind_app, hm])
      obtain ⟨b1, o, hA, hlt, hc⟩ := (HR.out.below hbr).at hx
      subst hA
      have p0 : wr.cell? ⟨b1, o + j * 3, none⟩ = some (.int .i64 z) := hc 0 _ rfl
      have p1 : wr.cell? ⟨b1, o + j * 3 + 1, none⟩ = some (.int .u8 (kk : Int)) := hc 1 _ rfl
      have p2 : wr.cell? ⟨b1, o + j * 3 + 2, none⟩ = some (.int .u8 (mm : Int)) := hc 2 _ rfl
      obtain ⟨bx, hbx⟩ : ∃ b, wr.heap.size = b := ⟨_, rfl⟩
      rw [hbx] at hlt ls lz
      clear hr hzr hbr hc hx hm hjl
      go_wp2_with ((with_reducible refine at_slot 15 ?_); refine Classical.byContradiction (fun hG => ?_))
      refine hG ?_
      clear hG
      refine list_named (S := fun W => Below w.heap.size w W ∧ Blk W s TN (vals m) ∧ Blk W (s + 2) TN (vals nz) ∧ Blk W bx TX [.int .i64 z, .int .u8 (kk : Int), .int .u8 (mm : Int)]) ⟨by have := HBR.out.size; (repeat' (first | (with_reducible exact Below.refl _ _) | (with_reducible refine Below.setCell ?_ (by (first | omega | (simp; done) | (simp; omega))) _) | (with_reducible refine Below.alloc ?_ (by (first | omega | (simp; done) | (simp; omega))) _) | (with_reducible refine Below.drew ?_) | (with_reducible refine below_drewN ?_ _) | (with_reducible refine Below.trans ?_ (Below.mono HBR.out (by (first | omega | (simp; done) | (simp; omega))))))), by (repeat' (first | (with_reducible exact HRR.out) | (with_reducible refine BlkP.Blk.drew ?_) | (with_reducible refine BlkP.Blk.drewN ?_ _) | (with_reducible refine BlkP.Blk.setAt (us := ?_) (by first | omega | (simp; done) | (simp; omega)) rfl ?_ ?_) | (with_reducible refine BlkP.Blk.otherAt ?_ (by first | omega | (simp; done) | (simp; omega))) | (with_reducible refine BlkP.Blk.newA' (by first | omega | (simp; done) | (simp; omega)) rfl) | (with_reducible refine BlkP.Blk.alloc ?_ _) | (exact rfl))), by (repeat' (first | (with_reducible exact HZR.out) | (with_reducible refine BlkP.Blk.drew ?_) | (with_reducible refine BlkP.Blk.drewN ?_ _) | (with_reducible refine BlkP.Blk.setAt (us := ?_) (by first | omega | (simp; done) | (simp; omega)) rfl ?_ ?_) | (with_reducible refine BlkP.Blk.otherAt ?_ (by first | omega | (simp; done) | (simp; omega))) | (with_reducible refine BlkP.Blk.newA' (by first | omega | (simp; done) | (simp; omega)) rfl) | (with_reducible refine BlkP.Blk.alloc ?_ _) | (exact rfl))), by subst hbx; (repeat' (first | (with_reducible refine BlkP.Blk.drew ?_) | (with_reducible refine BlkP.Blk.drewN ?_ _) | (with_reducible refine BlkP.Blk.setAt (us := ?_) (by first | omega | (simp; done) | (simp; omega)) rfl ?_ ?_) | (with_reducible refine BlkP.Blk.otherAt ?_ (by first | omega | (simp; done) | (simp; omega))) | (with_reducible refine BlkP.Blk.newA' (by first | omega | (simp; done) | (simp; omega)) rfl) | (with_reducible refine BlkP.Blk.alloc ?_ _) | (exact rfl)))⟩ ?_
      rintro w3 ⟨hb3, h3, hz3, hx3⟩
      try rw [hbx]
      have HB3 := Lib.hid hb3
      have H3 := Lib.hid h3
      have HZ3 := Lib.hid hz3
      have x0 := hx3.cell (i := 0) rfl
      have x1 := hx3.cell (i := 1) rfl
      have x2 := hx3.cell (i := 2) rfl
      have lx := hx3.lt
      have ls3 := h3.lt
      have hneb : bx ≠ s := by omega
      clear hb3 h3 hz3 hx3 p0 p1 p2
      by_cases hz0 : z = 0
      · subst hz0
        have f0 := H3.out.frozen 0
        have f1 := H3.out.frozen 1
        have a0 := H3.out.cell (i := 0) (g_kind m)
        have a1 := H3.out.cell (i := 1) (g_lev m)
        go_wp2_with fail
        go_roundw
        case rel => exact ⟨j + 1, by first | rfl | rw [HWR.out] | (congr 1; omega), by omega, ⟨by rw [HNX.out, put_self m (kk, mm), ← set_s m (kk, mm)]; exact (H3.out.set _ _).set _ _, (HZ3.out.other (by simp) _).other (by simp) _⟩, (HB3.out.setCell (by have := HS.out; simp; omega) _).setCell (by have := HS.out; simp; omega) _⟩
        case measure =>
          simp only [intOf]
          omega
      · by_cases hz16 : 1 ≤ z ∧ z ≤ 6
        · obtain ⟨d, rfl⟩ := Int.eq_ofNat_of_zero_le (show 0 ≤ z by omega)
          have hd1 : 1 ≤ d := by omega
          have hd6 : d ≤ 6 := by omega
          have hzI : ((d : Int) == 0) = false := by simp; omega
          have hz1I : (1 : Int) ≤ (d : Int) := by omega
          have hz7I : (d : Int) < 7 := by omega
          have hd5 : d - 1 < 6 := by omega
          have hd5I : (d : Int) - 1 < 6 := by omega
          have hd0I : 0 ≤ (d : Int) - 1 := by omega
          have f0 := H3.out.frozen (2 + (d - 1) * 2)
          have f1 := H3.out.frozen (2 + (d - 1) * 2 + 1)
          have a0 := H3.out.cell (g_sk m (d := d - 1) hd5)
          have a1 := H3.out.cell (g_sl m (d := d - 1) hd5)
          clear hz0 hz16
          go_wp2_with fail
          go_roundw
          case rel => exact ⟨j + 1, by first | rfl | rw [HWR.out] | (congr 1; omega), by omega, ⟨by rw [HNX.out, put_side m hd1 hd6 (kk, mm), ← set_side m hd5 (kk, mm)]; exact (H3.out.set _ _).set _ _, (HZ3.out.other (by simp) _).other (by simp) _⟩, (HB3.out.setCell (by have := HS.out; simp; omega) _).setCell (by have := HS.out; simp; omega) _⟩
          case measure =>
            simp only [intOf]
            omega
        · have HPO := Lib.hid (put_other m hz0 hz16 (kk, mm))
          have hzI : (z == 0) = false := by simp; exact hz0
          by_cases hz1 : 1 ≤ z
          · have hz7 : ¬ z < 7 := by omega
            clear hz16 hz0
            go_wp2_with fail
            go_roundw
            case rel => exact ⟨j + 1, by first | rfl | rw [HWR.out] | (congr 1; omega), by omega, ⟨by rw [HNX.out, HPO.out]; exact H3.out, HZ3.out⟩, HB3.out⟩
            case measure =>
              simp only [intOf]
              omega
          · clear hz16 hz0
            go_wp2_with fail
            go_roundw
            case rel => exact ⟨j + 1, by first | rfl | rw [HWR.out] | (congr 1; omega), by omega, ⟨by rw [HNX.out, HPO.out]; exact H3.out, HZ3.out⟩, HB3.out⟩
            case measure =>
              simp only [intOf]
              omega
    · have hjI : ¬ (j : Int) < (k : Int) := by omega
      obtain rfl : j = k := by omega
      have HE := Lib.hid (show m = behind n L from by rw [← hm, List.take_of_length_le (by rw [HK.out]; omega)])
      clear hr hzr hbr hm hjl
      go_wp2_with ((with_reducible refine at_slot 38 ?_); refine Classical.byContradiction (fun hG => ?_))
      refine hG ?_
      clear hG
      refine wp_loadN rfl (.tmp 2) rfl rfl (n := m) HRR.out ?_
      go_wp2_with ((with_reducible refine at_storeN ?_); refine Classical.byContradiction (fun hG => ?_))
      refine hG ?_
      clear hG
      refine wp_storeN rfl (.tmp 4) (.tmp 38) rfl rfl rfl HZR.out rfl ?_
      intro w5 h5 hg5 hz5
      have HB5 := Lib.hid (show Below w.heap.size w w5 from HBR.out.grown hg5 (by have := HBR.out.size; omega) (fun q hq => by injection hq with hq; have := HS.out; omega))
      have H5 := Lib.hid h5
      have l5 := h5.lt
      clear hg5 hz5 h5
      go_wp2_with fail
      refine bodyPost_ret (v := nv m) (results_NT Tryd.results14 rfl H5.out) rfl ?_
      exact ⟨by rw [HE.out], HB5.out⟩
end ReactW
end Go.Proofs.YtlahkmkipciiiaaDoor


/-
  The reference's Behind.
-/
namespace Go.Proofs.YtlahkmkipciiiaaDoor
open Go.RowKit
set_option linter.unusedVariables false
set_option linter.unusedSimpArgs false
namespace ReactW
open BlkP RowG FrS PushG CellsW NearW BurnP BurnW ReactP DeedW

/-- One change, of which the first t sides are looked through. -/
def mid (m : Nr) (z : Int) (c : Cl) (t : Nat) : Nr := if z = 0 then {m with s := c} else if 1 ≤ z ∧ z ≤ (t : Int) then {m with sd := upd m.sd (z - 1).toNat c} else m
theorem mid_six (m : Nr) (z : Int) (c : Cl) : mid m z c 6 = put m (z, c) := rfl
theorem mid_0 (m : Nr) (c : Cl) : mid m 0 c 0 = {m with s := c} := rfl
theorem mid_z {m : Nr} {z : Int} {c : Cl} (h : z ≠ 0) : mid m z c 0 = m := by
  unfold mid
  rw [if_neg h, if_neg (by omega)]
theorem mid_hit (m : Nr) (t : Nat) (c : Cl) : mid m ((t : Int) + 1) c (t + 1) = {mid m ((t : Int) + 1) c t with sd := upd (mid m ((t : Int) + 1) c t).sd t c} := by
  unfold mid
  rw [if_neg (by omega), if_pos (by omega), if_neg (by omega), if_neg (by omega), show ((t : Int) + 1 - 1).toNat = t by omega]
theorem mid_miss {m : Nr} {z : Int} {c : Cl} {t : Nat} (h : z ≠ (t : Int) + 1) : mid m z c (t + 1) = mid m z c t := by
  unfold mid
  by_cases h0 : z = 0
  · rw [if_pos h0, if_pos h0]
  · rw [if_neg h0, if_neg h0]
    by_cases h1 : 1 ≤ z ∧ z ≤ (t : Int)
    · rw [if_pos h1, if_pos (by omega)]
    · rw [if_neg h1, if_neg (by omega)]
set_option maxRecDepth 100000 in
set_option maxHeartbeats 16000000 in
theorem rBehind_c {w : World} {n : Nr} {A : Option Addr} {k c : Nat} {ag dl : Int} {L : List (Int × Cl)} (hR : Rd encZ w (.slice A k c) L) (hk : L.length = k) (hb : k ≤ 140737488355328) :
    Calls Tryd.prog 15 #[nv n, .agg #[.slice A k c, .int .i64 ag, .int .i64 dl]] w fun e w' => e = .returned (nv (behind n L)) ∧ Below w.heap.size w w' := by
  have HR := Lib.hid hR
  have HK := Lib.hid hk
  have hkI : (k : Int) ≤ 140737488355328 := by omega
  obtain ⟨s, hs⟩ : ∃ s, w.heap.size = s := ⟨_, rfl⟩
  have HS := Lib.hid hs
  clear hR hk
  go_enter Tryd.func15, Tryd.ntmps15
  go_wp2_with ((with_reducible refine at_slot 2 ?_); refine Classical.byContradiction (fun hG => ?_))
  refine hG ?_
  clear hG
  refine wp_boxN rfl (.tmp 0) rfl rfl ?_
  intro w1 h1 hb1 hz1
  rw [hs] at h1 hz1
  try rw [hs]
  have HB1 := Lib.hid hb1
  have H1 := Lib.hid h1
  clear h1 hb1
  go_wp2_with ((with_reducible refine at_slot 9 ?_); refine Classical.byContradiction (fun hG => ?_))
  refine hG ?_
  clear hG
  refine list_named (S := fun W => Below w.heap.size w W ∧ Blk W s TN (vals n) ∧ Blk W (s + 1) TD [.slice A k c, .int .i64 ag, .int .i64 dl] ∧ Blk W (s + 2) TN (vals nz) ∧ W.heap.size = s + 3) ⟨by have zz := HB1.out.size; (repeat' (first | (with_reducible exact Below.refl _ _) | (with_reducible refine Below.setCell ?_ (by (first | omega | (simp; done) | (simp; omega))) _) | (with_reducible refine Below.alloc ?_ (by (first | omega | (simp; done) | (simp; omega))) _) | (with_reducible refine Below.drew ?_) | (with_reducible refine below_drewN ?_ _) | (with_reducible refine Below.trans ?_ (Below.mono HB1.out (by (first | omega | (simp; done) | (simp; omega))))))), by (repeat' (first | (with_reducible exact H1.out) | (with_reducible refine BlkP.Blk.drew ?_) | (with_reducible refine BlkP.Blk.drewN ?_ _) | (with_reducible refine BlkP.Blk.setAt (us := ?_) (by first | omega | (simp; done) | (simp; omega)) rfl ?_ ?_) | (with_reducible refine BlkP.Blk.otherAt ?_ (by first | omega | (simp; done) | (simp; omega))) | (with_reducible refine BlkP.Blk.newA' (by first | omega | (simp; done) | (simp; omega)) rfl) | (with_reducible refine BlkP.Blk.alloc ?_ _) | (exact rfl))), by (repeat' (first | (with_reducible refine BlkP.Blk.drew ?_) | (with_reducible refine BlkP.Blk.drewN ?_ _) | (with_reducible refine BlkP.Blk.setAt (us := ?_) (by first | omega | (simp; done) | (simp; omega)) rfl ?_ ?_) | (with_reducible refine BlkP.Blk.otherAt ?_ (by first | omega | (simp; done) | (simp; omega))) | (with_reducible refine BlkP.Blk.newA' (by first | omega | (simp; done) | (simp; omega)) rfl) | (with_reducible refine BlkP.Blk.alloc ?_ _) | (exact rfl))), by (repeat' (first | (with_reducible refine BlkP.Blk.drew ?_) | (with_reducible refine BlkP.Blk.drewN ?_ _) | (with_reducible refine BlkP.Blk.setAt (us := ?_) (by first | omega | (simp; done) | (simp; omega)) rfl ?_ ?_) | (with_reducible refine BlkP.Blk.otherAt ?_ (by first | omega | (simp; done) | (simp; omega))) | (with_reducible refine BlkP.Blk.newA' (by first | omega | (simp; done) | (simp; omega)) rfl) | (with_reducible refine BlkP.Blk.alloc ?_ _) | (exact rfl))), by simp; omega⟩ ?_
  rintro w2 ⟨hb2, h2, hd2, hz2, hs2⟩
  try rw [hz1]
  refine wp_loadN rfl (.tmp 2) rfl rfl (n := n) h2 ?_
  go_wp2_with ((with_reducible refine at_storeN ?_); refine Classical.byContradiction (fun hG => ?_))
  refine hG ?_
  clear hG
  refine list_named (S := fun W => Below w.heap.size w W ∧ Blk W (s + 1) TD [.slice A k c, .int .i64 ag, .int .i64 dl] ∧ Blk W (s + 2) TN (vals nz) ∧ Blk W (s + 3) TN (vals nz)) ⟨by have zz := hb2.size; (repeat' (first | (with_reducible exact Below.refl _ _) | (with_reducible refine Below.setCell ?_ (by (first | omega | (simp; done) | (simp; omega))) _) | (with_reducible refine Below.alloc ?_ (by (first | omega | (simp; done) | (simp; omega))) _) | (with_reducible refine Below.drew ?_) | (with_reducible refine below_drewN ?_ _) | (with_reducible refine Below.trans ?_ (Below.mono hb2 (by (first | omega | (simp; done) | (simp; omega))))))), by (repeat' (first | (with_reducible exact hd2) | (with_reducible refine BlkP.Blk.drew ?_) | (with_reducible refine BlkP.Blk.drewN ?_ _) | (with_reducible refine BlkP.Blk.setAt (us := ?_) (by first | omega | (simp; done) | (simp; omega)) rfl ?_ ?_) | (with_reducible refine BlkP.Blk.otherAt ?_ (by first | omega | (simp; done) | (simp; omega))) | (with_reducible refine BlkP.Blk.newA' (by first | omega | (simp; done) | (simp; omega)) rfl) | (with_reducible refine BlkP.Blk.alloc ?_ _) | (exact rfl))), by (repeat' (first | (with_reducible exact hz2) | (with_reducible refine BlkP.Blk.drew ?_) | (with_reducible refine BlkP.Blk.drewN ?_ _) | (with_reducible refine BlkP.Blk.setAt (us := ?_) (by first | omega | (simp; done) | (simp; omega)) rfl ?_ ?_) | (with_reducible refine BlkP.Blk.otherAt ?_ (by first | omega | (simp; done) | (simp; omega))) | (with_reducible refine BlkP.Blk.newA' (by first | omega | (simp; done) | (simp; omega)) rfl) | (with_reducible refine BlkP.Blk.alloc ?_ _) | (exact rfl))), by rw [← hs2]; (repeat' (first | (with_reducible refine BlkP.Blk.drew ?_) | (with_reducible refine BlkP.Blk.drewN ?_ _) | (with_reducible refine BlkP.Blk.setAt (us := ?_) (by first | omega | (simp; done) | (simp; omega)) rfl ?_ ?_) | (with_reducible refine BlkP.Blk.otherAt ?_ (by first | omega | (simp; done) | (simp; omega))) | (with_reducible refine BlkP.Blk.newA' (by first | omega | (simp; done) | (simp; omega)) rfl) | (with_reducible refine BlkP.Blk.alloc ?_ _) | (exact rfl)))⟩ ?_
  rintro w3 ⟨hb3, hd3, hz3, ho3⟩
  try rw [hs2]
  refine wp_storeN rfl (.tmp 5) (.tmp 9) rfl rfl rfl ho3 rfl ?_
  intro w4 h4 hg4 hz4
  have HB4 := Lib.hid (show Below w.heap.size w w4 from hb3.grown hg4 (by have := hb3.size; omega) (fun q hq => by injection hq with hq; omega))
  have HD4 := Lib.hid (hd3.grown hg4 (fun q => by injection q with q; omega))
  have HZ4 := Lib.hid (hz3.grown hg4 (fun q => by injection q with q; omega))
  have H4 := Lib.hid h4
  clear h4 hg4 hz4 hb3 hd3 hz3 ho3 hb2 h2 hd2 hz2 hs2 hz1 hs
  go_wp2_with fail
  go_loopw [6, 7, 8] (fun v6 _ _ wr => ∃ j : Nat, v6 = .int .i64 (j : Nat) ∧ j ≤ k ∧ (Blk wr (s + 3) TN (vals (behind n (L.take j))) ∧ Blk wr (s + 2) TN (vals nz) ∧ Blk wr (s + 1) TD [.slice A k c, .int .i64 ag, .int .i64 dl]) ∧ Below w.heap.size w wr) (fun v _ _ _ => k - (intOf v).toNat)
  case atStart => exact ⟨0, rfl, by omega, ⟨H4.out, HZ4.out, HD4.out⟩, HB4.out⟩
  case round =>
    obtain ⟨j, rfl, hj, ⟨hr, hzr, hdr⟩, hbr⟩ := hrel
    obtain ⟨m, hm⟩ : ∃ m, behind n (L.take j) = m := ⟨_, rfl⟩
    rw [hm] at hr
    have HM := Lib.hid hm
    have HRR := Lib.hid hr
    have HZR := Lib.hid hzr
    have HDR := Lib.hid hdr
    have HBR := Lib.hid hbr
    have d0 := hdr.cell (i := 0) rfl
    have ls := hr.lt
    have lz := hzr.lt
    have ld := hdr.lt
    by_cases hjl : j < k
    · have hjI : (j : Int) < (k : Int) := by omega
      have HWR := Lib.hid (show wrap64 ((j : Int) + 1) = ((j + 1 : Nat) : Int) by rw [wr64 (by omega) (by omega)]; omega)
      obtain ⟨⟨z, kk, mm⟩, hx⟩ : ∃ x, L[j]? = some x := ⟨_, List.getElem?_eq_getElem (by rw [HK.out]; exact hjl)⟩
      have HNX := Lib.hid (show behind n (L.take (j + 1)) = put m (z, (kk, mm)) from by
        rw [List.take_add_one, hx, Option.toList_some, behind_app, hm])
      obtain ⟨b1, o, hA, hlt, hc⟩ := (HR.out.below hbr).at hx
      subst hA
      have p0 : wr.cell? ⟨b1, o + j * 3, none⟩ = some (.int .i64 z) := hc 0 _ rfl
      have p1 : wr.cell? ⟨b1, o + j * 3 + 1, none⟩ = some (.int .u8 (kk : Int)) := hc 1 _ rfl
      have p2 : wr.cell? ⟨b1, o + j * 3 + 2, none⟩ = some (.int .u8 (mm : Int)) := hc 2 _ rfl
      obtain ⟨bx, hbx⟩ : ∃ b, wr.heap.size = b := ⟨_, rfl⟩
      rw [hbx] at hlt ls lz ld
      clear hr hzr hdr hbr hc hx hm hjl
      go_wp2_with ((with_reducible refine at_slot 22 ?_); refine Classical.byContradiction (fun hG => ?_))
      refine hG ?_
      clear hG
      refine list_named (S := fun W => Below w.heap.size w W ∧ Blk W (s + 3) TN (vals m) ∧ Blk W (s + 2) TN (vals nz) ∧ Blk W (s + 1) TD [.slice (some ⟨b1, o, none⟩) k c, .int .i64 ag, .int .i64 dl] ∧ Blk W bx TX [.int .i64 z, .int .u8 (kk : Int), .int .u8 (mm : Int)]) ⟨by have := HBR.out.size; (repeat' (first | (with_reducible exact Below.refl _ _) | (with_reducible refine Below.setCell ?_ (by (first | omega | (simp; done) | (simp; omega))) _) | (with_reducible refine Below.alloc ?_ (by (first | omega | (simp; done) | (simp; omega))) _) | (with_reducible refine Below.drew ?_) | (with_reducible refine below_drewN ?_ _) | (with_reducible refine Below.trans ?_ (Below.mono HBR.out (by (first | omega | (simp; done) | (simp; omega))))))), by (repeat' (first | (with_reducible exact HRR.out) | (with_reducible refine BlkP.Blk.drew ?_) | (with_reducible refine BlkP.Blk.drewN ?_ _) | (with_reducible refine BlkP.Blk.setAt (us := ?_) (by first | omega | (simp; done) | (simp; omega)) rfl ?_ ?_) | (with_reducible refine BlkP.Blk.otherAt ?_ (by first | omega | (simp; done) | (simp; omega))) | (with_reducible refine BlkP.Blk.newA' (by first | omega | (simp; done) | (simp; omega)) rfl) | (with_reducible refine BlkP.Blk.alloc ?_ _) | (exact rfl))), by (repeat' (first | (with_reducible exact HZR.out) | (with_reducible refine BlkP.Blk.drew ?_) | (with_reducible refine BlkP.Blk.drewN ?_ _) | (with_reducible refine BlkP.Blk.setAt (us := ?_) (by first | omega | (simp; done) | (simp; omega)) rfl ?_ ?_) | (with_reducible refine BlkP.Blk.otherAt ?_ (by first | omega | (simp; done) | (simp; omega))) | (with_reducible refine BlkP.Blk.newA' (by first | omega | (simp; done) | (simp; omega)) rfl) | (with_reducible refine BlkP.Blk.alloc ?_ _) | (exact rfl))), by (repeat' (first | (with_reducible exact HDR.out) | (with_reducible refine BlkP.Blk.drew ?_) | (with_reducible refine BlkP.Blk.drewN ?_ _) | (with_reducible refine BlkP.Blk.setAt (us := ?_) (by first | omega | (simp; done) | (simp; omega)) rfl ?_ ?_) | (with_reducible refine BlkP.Blk.otherAt ?_ (by first | omega | (simp; done) | (simp; omega))) | (with_reducible refine BlkP.Blk.newA' (by first | omega | (simp; done) | (simp; omega)) rfl) | (with_reducible refine BlkP.Blk.alloc ?_ _) | (exact rfl))), by subst hbx; (repeat' (first | (with_reducible refine BlkP.Blk.drew ?_) | (with_reducible refine BlkP.Blk.drewN ?_ _) | (with_reducible refine BlkP.Blk.setAt (us := ?_) (by first | omega | (simp; done) | (simp; omega)) rfl ?_ ?_) | (with_reducible refine BlkP.Blk.otherAt ?_ (by first | omega | (simp; done) | (simp; omega))) | (with_reducible refine BlkP.Blk.newA' (by first | omega | (simp; done) | (simp; omega)) rfl) | (with_reducible refine BlkP.Blk.alloc ?_ _) | (exact rfl)))⟩ ?_
      rintro w3 ⟨hb3, h3, hz3, hd3, hx3⟩
      try rw [hbx]
      have HB3 := Lib.hid hb3
      have H3 := Lib.hid h3
      have HZ3 := Lib.hid hz3
      have HD3 := Lib.hid hd3
      have HX3 := Lib.hid hx3
      have x0 := hx3.cell (i := 0) rfl
      have x1 := hx3.cell (i := 1) rfl
      have x2 := hx3.cell (i := 2) rfl
      have lx := hx3.lt
      have ls3 := h3.lt
      clear hb3 h3 hz3 hd3 hx3 p0 p1 p2 d0
      by_cases hz0 : z = 0
      · subst hz0
        have f0 := H3.out.frozen 0
        have f1 := H3.out.frozen 1
        have a0 := H3.out.cell (i := 0) (g_kind m)
        have a1 := H3.out.cell (i := 1) (g_lev m)
        go_wp2_with fail
        go_loopw [8] (fun v8 wr => ∃ t : Nat, v8 = .int .i64 (t : Nat) ∧ t ≤ 6 ∧ (Blk wr (s + 3) TN (vals (mid m 0 (kk, mm) t)) ∧ Blk wr (s + 2) TN (vals nz) ∧ Blk wr (s + 1) TD [.slice (some ⟨b1, o, none⟩) k c, .int .i64 ag, .int .i64 dl] ∧ Blk wr bx TX [.int .i64 0, .int .u8 (kk : Int), .int .u8 (mm : Int)]) ∧ Below w.heap.size w wr) (fun v _ => 6 - (intOf v).toNat)
        case atStart => exact ⟨0, rfl, by omega, ⟨by rw [mid_0, ← set_s m (kk, mm)]; exact (H3.out.set _ _).set _ _, (HZ3.out.other (by simp) _).other (by simp) _, (HD3.out.other (by simp) _).other (by simp) _, (HX3.out.other (by simp; omega) _).other (by simp; omega) _⟩, (HB3.out.setCell (by have := HS.out; simp; omega) _).setCell (by have := HS.out; simp; omega) _⟩
        case round =>
          obtain ⟨t, rfl, ht, ⟨hr, hzr, hdr, hxr⟩, hbr⟩ := hrel
          have HRQ := Lib.hid hr
          have HZQ := Lib.hid hzr
          have HDQ := Lib.hid hdr
          have HXQ := Lib.hid hxr
          have HBQ := Lib.hid hbr
          have x0 := hxr.cell (i := 0) rfl
          have x1 := hxr.cell (i := 1) rfl
          have x2 := hxr.cell (i := 2) rfl
          have lx := hxr.lt
          have ls := hr.lt
          by_cases htl : t < 6
          · have htI : (t : Int) < 6 := by omega
            have HWT := Lib.hid (show wrap64 ((t : Int) + 1) = ((t + 1 : Nat) : Int) by rw [wr64 (by omega) (by omega)]; omega)
            by_cases hzt : (0 : Int) = (t : Int) + 1
            · have hzI : ((0 : Int) == (t : Int) + 1) = true := by simp; exact hzt
              have HMH := Lib.hid (show mid m 0 (kk, mm) (t + 1) = {mid m 0 (kk, mm) t with sd := upd (mid m 0 (kk, mm) t).sd t (kk, mm)} from by rw [hzt]; exact mid_hit m t (kk, mm))
              have f0 := hr.frozen (2 + t * 2)
              have f1 := hr.frozen (2 + t * 2 + 1)
              have a0 := hr.cell (g_sk (mid m 0 (kk, mm) t) htl)
              have a1 := hr.cell (g_sl (mid m 0 (kk, mm) t) htl)
              clear hr hzr hdr hxr hbr hzt
              go_wp2_with fail
              go_roundw
              case rel => exact ⟨t + 1, by first | rfl | rw [HWT.out] | (congr 1; omega), by omega, ⟨by rw [HMH.out, ← set_side (mid m 0 (kk, mm) t) htl (kk, mm)]; exact (HRQ.out.set _ _).set _ _, (HZQ.out.other (by simp) _).other (by simp) _, (HDQ.out.other (by simp) _).other (by simp) _, (HXQ.out.other (by simp; omega) _).other (by simp; omega) _⟩, (HBQ.out.setCell (by have := HS.out; simp; omega) _).setCell (by have := HS.out; simp; omega) _⟩
              case measure =>
                simp only [intOf]
                omega
            · have hzI : ((0 : Int) == (t : Int) + 1) = false := by simp; exact hzt
              have HMM := Lib.hid (mid_miss (m := m) (c := (kk, mm)) hzt)
              clear hr hzr hdr hxr hbr hzt
              go_wp2_with fail
              go_roundw
              case rel => exact ⟨t + 1, by first | rfl | rw [HWT.out] | (congr 1; omega), by omega, ⟨by rw [HMM.out]; exact HRQ.out, HZQ.out, HDQ.out, HXQ.out⟩, HBQ.out⟩
              case measure =>
                simp only [intOf]
                omega
          · have htI : ¬ (t : Int) < 6 := by omega
            obtain rfl : t = 6 := by omega
            clear hr hzr hdr hxr hbr htl x0 x1 x2
            go_wp2_with fail
            go_roundw
            case rel => exact ⟨j + 1, by first | rfl | rw [HWR.out] | (congr 1; omega), by omega, ⟨by rw [HNX.out, ← mid_six]; exact HRQ.out, HZQ.out, HDQ.out⟩, HBQ.out⟩
            case measure =>
              simp only [intOf]
              omega
      · have hzI : (z == 0) = false := by simp; exact hz0
        have HMZ := Lib.hid (mid_z (m := m) (c := (kk, mm)) hz0)
        clear hz0
        go_wp2_with fail
        go_loopw [8] (fun v8 wr => ∃ t : Nat, v8 = .int .i64 (t : Nat) ∧ t ≤ 6 ∧ (Blk wr (s + 3) TN (vals (mid m z (kk, mm) t)) ∧ Blk wr (s + 2) TN (vals nz) ∧ Blk wr (s + 1) TD [.slice (some ⟨b1, o, none⟩) k c, .int .i64 ag, .int .i64 dl] ∧ Blk wr bx TX [.int .i64 z, .int .u8 (kk : Int), .int .u8 (mm : Int)]) ∧ Below w.heap.size w wr) (fun v _ => 6 - (intOf v).toNat)
        case atStart => exact ⟨0, rfl, by omega, ⟨by rw [HMZ.out]; exact H3.out, HZ3.out, HD3.out, HX3.out⟩, HB3.out⟩
        case round =>
          obtain ⟨t, rfl, ht, ⟨hr, hzr, hdr, hxr⟩, hbr⟩ := hrel
          have HRQ := Lib.hid hr
          have HZQ := Lib.hid hzr
          have HDQ := Lib.hid hdr
          have HXQ := Lib.hid hxr
          have HBQ := Lib.hid hbr
          have x0 := hxr.cell (i := 0) rfl
          have x1 := hxr.cell (i := 1) rfl
          have x2 := hxr.cell (i := 2) rfl
          have lx := hxr.lt
          have ls := hr.lt
          by_cases htl : t < 6
          · have htI : (t : Int) < 6 := by omega
            have HWT := Lib.hid (show wrap64 ((t : Int) + 1) = ((t + 1 : Nat) : Int) by rw [wr64 (by omega) (by omega)]; omega)
            by_cases hzt : z = (t : Int) + 1
            · have hzI : (z == (t : Int) + 1) = true := by simp; exact hzt
              have HMH := Lib.hid (show mid m z (kk, mm) (t + 1) = {mid m z (kk, mm) t with sd := upd (mid m z (kk, mm) t).sd t (kk, mm)} from by rw [hzt]; exact mid_hit m t (kk, mm))
              have f0 := hr.frozen (2 + t * 2)
              have f1 := hr.frozen (2 + t * 2 + 1)
              have a0 := hr.cell (g_sk (mid m z (kk, mm) t) htl)
              have a1 := hr.cell (g_sl (mid m z (kk, mm) t) htl)
              clear hr hzr hdr hxr hbr hzt
              go_wp2_with fail
              go_roundw
              case rel => exact ⟨t + 1, by first | rfl | rw [HWT.out] | (congr 1; omega), by omega, ⟨by rw [HMH.out, ← set_side (mid m z (kk, mm) t) htl (kk, mm)]; exact (HRQ.out.set _ _).set _ _, (HZQ.out.other (by simp) _).other (by simp) _, (HDQ.out.other (by simp) _).other (by simp) _, (HXQ.out.other (by simp; omega) _).other (by simp; omega) _⟩, (HBQ.out.setCell (by have := HS.out; simp; omega) _).setCell (by have := HS.out; simp; omega) _⟩
              case measure =>
                simp only [intOf]
                omega
            · have hzI : (z == (t : Int) + 1) = false := by simp; exact hzt
              have HMM := Lib.hid (mid_miss (m := m) (c := (kk, mm)) hzt)
              clear hr hzr hdr hxr hbr hzt
              go_wp2_with fail
              go_roundw
              case rel => exact ⟨t + 1, by first | rfl | rw [HWT.out] | (congr 1; omega), by omega, ⟨by rw [HMM.out]; exact HRQ.out, HZQ.out, HDQ.out, HXQ.out⟩, HBQ.out⟩
              case measure =>
                simp only [intOf]
                omega
          · have htI : ¬ (t : Int) < 6 := by omega
            obtain rfl : t = 6 := by omega
            clear hr hzr hdr hxr hbr htl x0 x1 x2
            go_wp2_with fail
            go_roundw
            case rel => exact ⟨j + 1, by first | rfl | rw [HWR.out] | (congr 1; omega), by omega, ⟨by rw [HNX.out, ← mid_six]; exact HRQ.out, HZQ.out, HDQ.out⟩, HBQ.out⟩
            case measure =>
              simp only [intOf]
              omega
    · have hjI : ¬ (j : Int) < (k : Int) := by omega
      obtain rfl : j = k := by omega
      have HE := Lib.hid (show m = behind n L from by rw [← hm, List.take_of_length_le (by rw [HK.out]; omega)])
      clear hr hzr hdr hbr hm hjl
      go_wp2_with ((with_reducible refine at_slot 42 ?_); refine Classical.byContradiction (fun hG => ?_))
      refine hG ?_
      clear hG
      refine wp_loadN rfl (.tmp 5) rfl rfl (n := m) HRR.out ?_
      go_wp2_with ((with_reducible refine at_storeN ?_); refine Classical.byContradiction (fun hG => ?_))
      refine hG ?_
      clear hG
      refine wp_storeN rfl (.tmp 4) (.tmp 42) rfl rfl rfl HZR.out rfl ?_
      intro w5 h5 hg5 hz5
      have HB5 := Lib.hid (show Below w.heap.size w w5 from HBR.out.grown hg5 (by have := HBR.out.size; omega) (fun q hq => by injection hq with hq; have := HS.out; omega))
      have H5 := Lib.hid h5
      have l5 := h5.lt
      clear hg5 hz5 h5
      go_wp2_with fail
      refine bodyPost_ret (v := nv m) (results_NT Tryd.results15 rfl H5.out) rfl ?_
      exact ⟨by rw [HE.out], HB5.out⟩
end ReactW
end Go.Proofs.YtlahkmkipciiiaaDoor
