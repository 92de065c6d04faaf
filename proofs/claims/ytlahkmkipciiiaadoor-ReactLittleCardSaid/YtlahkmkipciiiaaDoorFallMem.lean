/-
  Rows of cells from a place on, and up to one (general); one cell: what it counts as, does it fall, does it yield, is it movable; a deed.
-/
import Derived.Test.YtlahkmkipciiiaaDoorNearMem
import Derived.Test.YtlahkmkipciiiaaDoorFallPlain
namespace Go.Proofs.YtlahkmkipciiiaaDoor
open Go.RowKit
set_option linter.unusedVariables false
set_option linter.unusedSimpArgs false
namespace FallW
open BlkP RowG FrS PushG CellsW NearW
open FallP hiding Cl
theorem kadd (b o k : Nat) : (⟨b, o, none⟩ : Addr).add k = ⟨b, o + k, none⟩ := by unfold Addr.add; split <;> simp_all
theorem rd_take {w : World} {A : Option Addr} {n c : Nat} {l : List Cl} (h : Rd encK w (.slice A n c) l) (k : Nat) (hk : k ≤ l.length) : Rd encK w (.slice A k c) (l.take k) := by
  obtain ⟨A', c', he, h1, h2, hne⟩ := h
  injection he with e1 e2 e3
  subst e1 e3
  have hl : (l.take k).length = k := by rw [List.length_take]; omega
  refine ⟨A, c, by rw [hl], by rw [hl]; omega, h2, fun q => ?_⟩
  obtain ⟨b, o, hA, hlt, hcs⟩ := hne (fun e => q (by rw [e]; simp))
  refine ⟨b, o, hA, hlt, fun i x hx => hcs i x ?_⟩
  rw [List.getElem?_take] at hx
  split at hx
  · exact hx
  · cases hx
theorem rd_drop {w : World} {A : Option Addr} {n c : Nat} {l : List Cl} (h : Rd encK w (.slice A n c) l) (k : Nat) (hk : k ≤ l.length) : Rd encK w (.slice (if c = k then A else A.map (·.add (k * 2))) (n - k) (c - k)) (l.drop k) := by
  obtain ⟨A', c', he, h1, h2, hne⟩ := h
  injection he with e1 e2 e3
  subst e1 e2 e3
  refine ⟨_, c - k, by rw [List.length_drop], by rw [List.length_drop]; omega, by omega, fun q => ?_⟩
  obtain ⟨b, o, hA, hlt, hcs⟩ := hne (fun e => q (by rw [e]; simp))
  have hlk : k < l.length := by
    apply Classical.byContradiction
    intro hc
    exact q (List.drop_eq_nil_of_le (by omega))
  refine ⟨b, o + k * 2, by rw [if_neg (by omega), hA]; simp [kadd], hlt, fun i x hx j u hu => ?_⟩
  rw [List.getElem?_drop] at hx
  have := hcs (k + i) x hx j u hu
  rw [show o + k * 2 + i * encK.k + j = o + (k + i) * encK.k + j from by show o + k * 2 + i * 2 + j = o + (k + i) * 2 + j; omega]
  exact this
section
variable {w : World} {ops : Array Oper} {rest : List Oper} {o : Oper} {a : Act} {Q : Exit → Act → World → Prop}
/-- row[:n]. -/
theorem wp_uptoK (hgd : o.guard = none) (x y : Operand) (ho : o.op = .slice TKS x none (some y) none) {A : Option Addr} {L c n : Nat} {l : List Cl} (hx : a.eval x = .slice A L c) (hy : a.eval y = .int .i64 (n : Int)) (hR : Rd encK w (.slice A L c) l) (h1 : n ≤ l.length)
    (h : Rd encK w (.slice A n c) (l.take n) → wpList Tryd.prog ops Q rest (a.put o.dst (.slice A n c)) w) : wpList Tryd.prog ops Q (o :: rest) a w := by
  refine wpList_plain hgd fun K hK => ?_
  have e : (if c = 0 then A else A.map (·.add 0)) = A := by
    split
    · rfl
    · cases A <;> simp [Addr.add]
  have hlc : l.length ≤ c := by
    obtain ⟨_, _, he, h2, _⟩ := hR
    injection he with _ e2 e3
    omega
  unfold Oper.wp
  have h3 : (n : Int) ≤ c := by omega
  have h3n : n ≤ c := by omega
  obtain ⟨i, hi, _, hs, _⟩ := info_parts infoK
  have hr : (Instr.sliceAt TKS (.slice A L c) none (some (.int .i64 (n : Int))) none).run Tryd.prog w = .ok (.slice A n c) w := by
    simp [Instr.sliceAt, Instr.slice, run_underlying underKS, Instr.sliceBounds, run_sliceBound, h3, h3n, e, Result.andThen, sizeOf, typeInfo, hi, hs]
  simp [execOp, ho, hx, hy, hr, Result.andThen]
  exact hK _ _ (h (rd_take hR n h1))
/-- row[k:]: at some address, of which is known what it holds. -/
theorem wp_fromK (hgd : o.guard = none) (x y : Operand) (ho : o.op = .slice TKS x (some y) none none) {A : Option Addr} {L c k : Nat} {l : List Cl} (hx : a.eval x = .slice A L c) (hy : a.eval y = .int .i64 (k : Int)) (hR : Rd encK w (.slice A L c) l) (h1 : k ≤ l.length)
    (h : ∀ A', Rd encK w (.slice A' (L - k) (c - k)) (l.drop k) → wpList Tryd.prog ops Q rest (a.put o.dst (.slice A' (L - k) (c - k))) w) : wpList Tryd.prog ops Q (o :: rest) a w := by
  refine wpList_plain hgd fun K hK => ?_
  have hL : L = l.length := by
    obtain ⟨_, _, he, h2, _⟩ := hR
    injection he
  unfold Oper.wp
  obtain ⟨i, hi, _, hs, _⟩ := info_parts infoK
  have h0 : (k : Int) ≤ L := by omega
  have h0n : k ≤ L := by omega
  have hr : (Instr.sliceAt TKS (.slice A L c) (some (.int .i64 (k : Int))) none none).run Tryd.prog w = .ok (.slice (if c = k then A else A.map (·.add (k * 2))) (L - k) (c - k)) w := by
    simp [Instr.sliceAt, Instr.slice, run_underlying underKS, Instr.sliceBounds, run_sliceBound, h0, h0n, Result.andThen, sizeOf, typeInfo, hi, hs]
  simp [execOp, ho, hx, hy, hr, Result.andThen]
  exact hK _ _ (h _ (rd_drop hR k h1))
end

/-! ### One cell -/
set_option maxRecDepth 100000 in
set_option maxHeartbeats 4000000 in
theorem counted_c {w : World} {k l q : Nat} (hT : KindW.Tab w) (h : kd (k, l) = q) : Calls Tryd.prog 65 #[.agg #[.int .u8 (k : Int), .int .u8 (l : Int)]] w fun e w' => e = .returned (.int .u8 (q : Int)) ∧ Below w.heap.size w w' := by
  have HT := Lib.hid hT
  clear hT
  cases hm : KindP.may k l with
  | true =>
    obtain rfl : k = q := by simpa [kd, hm] using h
    have HM := Lib.hid hm
    clear hm h
    go_enter Tryd.func65, Tryd.ntmps65
    go_wp2_with fail
    refine (KindW.k_may_b HM.out _ (HT.out.below (by (repeat' (first | (with_reducible exact Below.refl _ _) | (with_reducible refine Below.setCell ?_ (by (first | omega | (simp; done) | (simp; omega))) _) | (with_reducible refine Below.alloc ?_ (by (first | omega | (simp; done) | (simp; omega))) _) | (with_reducible refine Below.drew ?_) | (with_reducible refine below_drewN ?_ _)))))).mono ?_
    rintro e1 w1 ⟨rfl, hb⟩
    have h1 : Blk w1 w.heap.size TC [.int .u8 k, .int .u8 l] := Blk.below (by (repeat' (first | (with_reducible refine BlkP.Blk.drew ?_) | (with_reducible refine BlkP.Blk.drewN ?_ _) | (with_reducible refine BlkP.Blk.setAt (us := ?_) (by first | omega | (simp; done) | (simp; omega)) rfl ?_ ?_) | (with_reducible refine BlkP.Blk.otherAt ?_ (by first | omega | (simp; done) | (simp; omega))) | (with_reducible refine BlkP.Blk.newA' (by first | omega | (simp; done) | (simp; omega)) rfl) | (with_reducible refine BlkP.Blk.alloc ?_ _) | (exact rfl)))) hb
    have HB := Lib.hid (show Below w.heap.size w w1 by (repeat' (first | (with_reducible exact Below.refl _ _) | (with_reducible refine Below.setCell ?_ (by (first | omega | (simp; done) | (simp; omega))) _) | (with_reducible refine Below.alloc ?_ (by (first | omega | (simp; done) | (simp; omega))) _) | (with_reducible refine Below.drew ?_) | (with_reducible refine below_drewN ?_ _) | (with_reducible refine Below.trans ?_ (Below.mono hb (by (first | omega | (simp; done) | (simp; omega))))))))
    have c0 := h1.cell (i := 0) rfl
    clear hb h1
    go_wp2_with fail
    go_ret
    exact ⟨rfl, HB.out⟩
  | false =>
    obtain rfl : 1 = q := by simpa [kd, hm] using h
    have HM := Lib.hid hm
    clear hm h
    go_enter Tryd.func65, Tryd.ntmps65
    go_wp2_with fail
    refine (KindW.k_may_b HM.out _ (HT.out.below (by (repeat' (first | (with_reducible exact Below.refl _ _) | (with_reducible refine Below.setCell ?_ (by (first | omega | (simp; done) | (simp; omega))) _) | (with_reducible refine Below.alloc ?_ (by (first | omega | (simp; done) | (simp; omega))) _) | (with_reducible refine Below.drew ?_) | (with_reducible refine below_drewN ?_ _)))))).mono ?_
    rintro e1 w1 ⟨rfl, hb⟩
    have HB := Lib.hid (show Below w.heap.size w w1 by (repeat' (first | (with_reducible exact Below.refl _ _) | (with_reducible refine Below.setCell ?_ (by (first | omega | (simp; done) | (simp; omega))) _) | (with_reducible refine Below.alloc ?_ (by (first | omega | (simp; done) | (simp; omega))) _) | (with_reducible refine Below.drew ?_) | (with_reducible refine below_drewN ?_ _) | (with_reducible refine Below.trans ?_ (Below.mono hb (by (first | omega | (simp; done) | (simp; omega))))))))
    clear hb
    go_wp2_with fail
    go_ret
    exact ⟨rfl, HB.out⟩
set_option maxRecDepth 100000 in
set_option maxHeartbeats 4000000 in
theorem rof_c {w : World} {k l q : Nat} (h : kd (k, l) = q) : Calls Tryd.prog 52 #[.agg #[.int .u8 (k : Int), .int .u8 (l : Int)]] w fun e w' => e = .returned (.int .u8 (q : Int)) ∧ Below w.heap.size w w' := by
  cases hm : KindP.may k l with
  | true =>
    obtain rfl : k = q := by simpa [kd, hm] using h
    have HM := Lib.hid hm
    clear hm h
    go_enter Tryd.func52, Tryd.ntmps52
    go_wp2_with fail
    refine (KindW.r_may_b HM.out _).mono ?_
    rintro e1 w1 ⟨rfl, hb⟩
    have h1 : Blk w1 w.heap.size TC [.int .u8 k, .int .u8 l] := Blk.below (by (repeat' (first | (with_reducible refine BlkP.Blk.drew ?_) | (with_reducible refine BlkP.Blk.drewN ?_ _) | (with_reducible refine BlkP.Blk.setAt (us := ?_) (by first | omega | (simp; done) | (simp; omega)) rfl ?_ ?_) | (with_reducible refine BlkP.Blk.otherAt ?_ (by first | omega | (simp; done) | (simp; omega))) | (with_reducible refine BlkP.Blk.newA' (by first | omega | (simp; done) | (simp; omega)) rfl) | (with_reducible refine BlkP.Blk.alloc ?_ _) | (exact rfl)))) hb
    have HB := Lib.hid (show Below w.heap.size w w1 by (repeat' (first | (with_reducible exact Below.refl _ _) | (with_reducible refine Below.setCell ?_ (by (first | omega | (simp; done) | (simp; omega))) _) | (with_reducible refine Below.alloc ?_ (by (first | omega | (simp; done) | (simp; omega))) _) | (with_reducible refine Below.drew ?_) | (with_reducible refine below_drewN ?_ _) | (with_reducible refine Below.trans ?_ (Below.mono hb (by (first | omega | (simp; done) | (simp; omega))))))))
    have c0 := h1.cell (i := 0) rfl
    clear hb h1
    go_wp2_with fail
    go_ret
    exact ⟨rfl, HB.out⟩
  | false =>
    obtain rfl : 1 = q := by simpa [kd, hm] using h
    have HM := Lib.hid hm
    clear hm h
    go_enter Tryd.func52, Tryd.ntmps52
    go_wp2_with fail
    refine (KindW.r_may_b HM.out _).mono ?_
    rintro e1 w1 ⟨rfl, hb⟩
    have HB := Lib.hid (show Below w.heap.size w w1 by (repeat' (first | (with_reducible exact Below.refl _ _) | (with_reducible refine Below.setCell ?_ (by (first | omega | (simp; done) | (simp; omega))) _) | (with_reducible refine Below.alloc ?_ (by (first | omega | (simp; done) | (simp; omega))) _) | (with_reducible refine Below.drew ?_) | (with_reducible refine below_drewN ?_ _) | (with_reducible refine Below.trans ?_ (Below.mono hb (by (first | omega | (simp; done) | (simp; omega))))))))
    clear hb
    go_wp2_with fail
    go_ret
    exact ⟨rfl, HB.out⟩
set_option maxRecDepth 100000 in
set_option maxHeartbeats 4000000 in
theorem falls_c {w : World} {k l : Nat} {b : Bool} (hT : KindW.Tab w) (h : falls (k, l) = b) : Calls Tryd.prog 33 #[.agg #[.int .u8 (k : Int), .int .u8 (l : Int)]] w fun e w' => e = .returned (.bool b) ∧ Below w.heap.size w w' := by
  have HT := Lib.hid hT
  obtain ⟨q, hq⟩ : ∃ q, kd (k, l) = q := ⟨_, rfl⟩
  have HQ := Lib.hid hq
  have HE := Lib.hid (show KindP.falls q = b from by rw [← hq]; exact h)
  clear hT h hq
  go_enter Tryd.func33, Tryd.ntmps33
  go_wp2_with fail
  refine (counted_c (HT.out.below (by (repeat' (first | (with_reducible exact Below.refl _ _) | (with_reducible refine Below.setCell ?_ (by (first | omega | (simp; done) | (simp; omega))) _) | (with_reducible refine Below.alloc ?_ (by (first | omega | (simp; done) | (simp; omega))) _) | (with_reducible refine Below.drew ?_) | (with_reducible refine below_drewN ?_ _))))) HQ.out).mono ?_
  rintro e1 w1 ⟨rfl, hb⟩
  have HB := Lib.hid (show Below w.heap.size w w1 by (repeat' (first | (with_reducible exact Below.refl _ _) | (with_reducible refine Below.setCell ?_ (by (first | omega | (simp; done) | (simp; omega))) _) | (with_reducible refine Below.alloc ?_ (by (first | omega | (simp; done) | (simp; omega))) _) | (with_reducible refine Below.drew ?_) | (with_reducible refine below_drewN ?_ _) | (with_reducible refine Below.trans ?_ (Below.mono hb (by (first | omega | (simp; done) | (simp; omega))))))))
  clear hb
  go_wp2_with fail
  refine (KindW.k_falls q _ (HT.out.below HB.out)).mono ?_
  rintro e2 w2 ⟨rfl, rfl⟩
  go_wp2_with fail
  go_ret
  exact ⟨congrArg (fun b => Ending.returned (.bool b)) HE.out, HB.out⟩
theorem rfalls_c {w : World} {k l q : Nat} {b : Bool} (hk : kd (k, l) = q) (h : falls (k, l) = b) : Calls Tryd.prog 51 #[.int .u8 (q : Int)] w fun e w' => e = .returned (.bool b) ∧ Below w.heap.size w w' := by
  refine (KindW.r_falls q w).mono ?_
  rintro e w' ⟨rfl, hb⟩
  exact ⟨by rw [← h, ← hk]; rfl, hb⟩
set_option maxRecDepth 100000 in
set_option maxHeartbeats 4000000 in
theorem yields_c {w : World} {k l : Nat} {b : Bool} (hT : KindW.Tab w) (h : yields (k, l) = b) : Calls Tryd.prog 34 #[.agg #[.int .u8 (k : Int), .int .u8 (l : Int)]] w fun e w' => e = .returned (.bool b) ∧ Below w.heap.size w w' := by
  have HT := Lib.hid hT
  obtain ⟨q, hq⟩ : ∃ q, kd (k, l) = q := ⟨_, rfl⟩
  have HQ := Lib.hid hq
  have HE := Lib.hid (show KindP.yields q = b from by rw [← hq]; exact h)
  clear hT h hq
  go_enter Tryd.func34, Tryd.ntmps34
  go_wp2_with fail
  refine (counted_c (HT.out.below (by (repeat' (first | (with_reducible exact Below.refl _ _) | (with_reducible refine Below.setCell ?_ (by (first | omega | (simp; done) | (simp; omega))) _) | (with_reducible refine Below.alloc ?_ (by (first | omega | (simp; done) | (simp; omega))) _) | (with_reducible refine Below.drew ?_) | (with_reducible refine below_drewN ?_ _))))) HQ.out).mono ?_
  rintro e1 w1 ⟨rfl, hb⟩
  have HB := Lib.hid (show Below w.heap.size w w1 by (repeat' (first | (with_reducible exact Below.refl _ _) | (with_reducible refine Below.setCell ?_ (by (first | omega | (simp; done) | (simp; omega))) _) | (with_reducible refine Below.alloc ?_ (by (first | omega | (simp; done) | (simp; omega))) _) | (with_reducible refine Below.drew ?_) | (with_reducible refine below_drewN ?_ _) | (with_reducible refine Below.trans ?_ (Below.mono hb (by (first | omega | (simp; done) | (simp; omega))))))))
  clear hb
  go_wp2_with fail
  refine (KindW.k_yields q _ (HT.out.below HB.out)).mono ?_
  rintro e2 w2 ⟨rfl, rfl⟩
  go_wp2_with fail
  go_ret
  exact ⟨congrArg (fun b => Ending.returned (.bool b)) HE.out, HB.out⟩
theorem ryields_c {w : World} {k l q : Nat} {b : Bool} (hk : kd (k, l) = q) (h : yields (k, l) = b) : Calls Tryd.prog 53 #[.int .u8 (q : Int)] w fun e w' => e = .returned (.bool b) ∧ Below w.heap.size w w' := by
  refine (KindW.r_yields q w).mono ?_
  rintro e w' ⟨rfl, hb⟩
  exact ⟨by rw [← h, ← hk]; rfl, hb⟩
theorem rmovable_c {w : World} {k l q : Nat} {b : Bool} (hk : kd (k, l) = q) (h : movable (k, l) = b) : Calls Tryd.prog 63 #[.int .u8 (q : Int)] w fun e w' => e = .returned (.bool b) ∧ Below w.heap.size w w' := by
  refine (KindW.r_movable q w).mono ?_
  rintro e w' ⟨rfl, hb⟩
  exact ⟨by rw [← h, ← hk]; rfl, hb⟩
set_option maxRecDepth 100000 in
theorem deed_c {w : World} {A : Option Addr} {n c : Nat} : Calls Tryd.prog 35 #[.slice A n c] w fun e w' => e = .returned (.agg #[.slice A n c, .int .i64 0, .int .i64 0]) ∧ Below w.heap.size w w' := by
  go_enter Tryd.func35, Tryd.ntmps35
  go_wp2_with fail
  refine bodyPost_ret (v := .agg #[.slice A n c, .int .i64 0, .int .i64 0]) (by simp [results, Tryd.results35, go_sem]) rfl ?_
  exact ⟨rfl, by (repeat' (first | (with_reducible exact Below.refl _ _) | (with_reducible refine Below.setCell ?_ (by (first | omega | (simp; done) | (simp; omega))) _) | (with_reducible refine Below.alloc ?_ (by (first | omega | (simp; done) | (simp; omega))) _) | (with_reducible refine Below.drew ?_) | (with_reducible refine below_drewN ?_ _)))⟩
end FallW
end Go.Proofs.YtlahkmkipciiiaaDoor
