/-
  One cell: what it counts as, is it water, does it burn, the fire that comes of it, what is left of fire, is it movable; what is near as it counts; is there such a one beside.
-/
import Derived.Test.YtlahkmkipciiiaaDoorBurnPlain
namespace Go.Proofs.YtlahkmkipciiiaaDoor
open Go.RowKit
set_option linter.unusedVariables false
set_option linter.unusedSimpArgs false
namespace BurnW
open BlkP RowG FrS PushG CellsW NearW BurnP
/-- A deed that is answered: its changes are a row of the call's own. -/
def DeedQ (w : World) (D : Dd) (e : Ending) (w' : World) : Prop := ∃ v, e = .returned (.agg #[v, .int .i64 D.ag, .int .i64 D.dl]) ∧ RowG.Own encX TX w' w.heap.size v D.l ∧ Below w.heap.size w w'
theorem beq_int {k c : Nat} {b : Bool} (h : (k == c) = b) : ((k : Int) == (c : Int)) = b := by
  rw [← h, Bool.eq_iff_iff, beq_iff_eq, beq_iff_eq]
  omega
set_option maxRecDepth 100000 in
set_option maxHeartbeats 4000000 in
theorem counted_c {w : World} {k l k' l' : Nat} (hT : KindW.Tab w) (h : sure (k, l) = (k', l')) : Calls Tryd.prog 70 #[.agg #[.int .u8 (k : Int), .int .u8 (l : Int)]] w fun e w' => e = .returned (.agg #[.int .u8 (k' : Int), .int .u8 (l' : Int)]) ∧ Below w.heap.size w w' := by
  have HT := Lib.hid hT
  clear hT
  cases hm : KindP.may k l with
  | true =>
    obtain ⟨rfl, rfl⟩ : k = k' ∧ l = l' := by simpa [sure, hm] using h
    have HM := Lib.hid hm
    clear hm h
    go_enter Tryd.func70, Tryd.ntmps70
    go_wp2_with fail
    refine (KindW.k_may_b HM.out _ (HT.out.below (by (repeat' (first | (with_reducible exact Below.refl _ _) | (with_reducible refine Below.setCell ?_ (by (first | omega | (simp; done) | (simp; omega))) _) | (with_reducible refine Below.alloc ?_ (by (first | omega | (simp; done) | (simp; omega))) _) | (with_reducible refine Below.drew ?_) | (with_reducible refine below_drewN ?_ _)))))).mono ?_
    rintro e1 w1 ⟨rfl, hb⟩
    have h1 : Blk w1 w.heap.size TC [.int .u8 k, .int .u8 l] := Blk.below (by (repeat' (first | (with_reducible refine BlkP.Blk.drew ?_) | (with_reducible refine BlkP.Blk.drewN ?_ _) | (with_reducible refine BlkP.Blk.setAt (us := ?_) (by first | omega | (simp; done) | (simp; omega)) rfl ?_ ?_) | (with_reducible refine BlkP.Blk.otherAt ?_ (by first | omega | (simp; done) | (simp; omega))) | (with_reducible refine BlkP.Blk.newA' (by first | omega | (simp; done) | (simp; omega)) rfl) | (with_reducible refine BlkP.Blk.alloc ?_ _) | (exact rfl)))) hb
    have h2 : Blk w1 (w.heap.size + 1) TC [.int .u8 0, .int .u8 0] := Blk.below (by (repeat' (first | (with_reducible refine BlkP.Blk.drew ?_) | (with_reducible refine BlkP.Blk.drewN ?_ _) | (with_reducible refine BlkP.Blk.setAt (us := ?_) (by first | omega | (simp; done) | (simp; omega)) rfl ?_ ?_) | (with_reducible refine BlkP.Blk.otherAt ?_ (by first | omega | (simp; done) | (simp; omega))) | (with_reducible refine BlkP.Blk.newA' (by first | omega | (simp; done) | (simp; omega)) rfl) | (with_reducible refine BlkP.Blk.alloc ?_ _) | (exact rfl)))) hb
    have hB : Below w.heap.size w w1 := by (repeat' (first | (with_reducible exact Below.refl _ _) | (with_reducible refine Below.setCell ?_ (by (first | omega | (simp; done) | (simp; omega))) _) | (with_reducible refine Below.alloc ?_ (by (first | omega | (simp; done) | (simp; omega))) _) | (with_reducible refine Below.drew ?_) | (with_reducible refine below_drewN ?_ _) | (with_reducible refine Below.trans ?_ (Below.mono hb (by (first | omega | (simp; done) | (simp; omega)))))))
    have HB := Lib.hid hB
    have c0 := h1.cell (i := 0) rfl
    have c1 := h1.cell (i := 1) rfl
    have z0 := h2.cell (i := 0) rfl
    have z1 := h2.cell (i := 1) rfl
    have f0 := h2.frozen 0
    have f1 := h2.frozen 1
    have l1 := h2.lt
    clear hb hB h1 h2
    go_wp2_with fail
    refine bodyPost_ret (v := .agg #[.int .u8 (k : Int), .int .u8 (l : Int)]) (by simp [results, Tryd.results70, go_sem, l1, z0, z1]) rfl ?_
    exact ⟨rfl, by (repeat' (first | (with_reducible exact Below.refl _ _) | (with_reducible refine Below.setCell ?_ (by (first | omega | (simp; done) | (simp; omega))) _) | (with_reducible refine Below.alloc ?_ (by (first | omega | (simp; done) | (simp; omega))) _) | (with_reducible refine Below.drew ?_) | (with_reducible refine below_drewN ?_ _) | (with_reducible refine Below.trans ?_ (Below.mono HB.out (by (first | omega | (simp; done) | (simp; omega)))))))⟩
  | false =>
    obtain ⟨rfl, rfl⟩ : 1 = k' ∧ 0 = l' := by simpa [sure, hm] using h
    have HM := Lib.hid hm
    clear hm h
    go_enter Tryd.func70, Tryd.ntmps70
    go_wp2_with fail
    refine (KindW.k_may_b HM.out _ (HT.out.below (by (repeat' (first | (with_reducible exact Below.refl _ _) | (with_reducible refine Below.setCell ?_ (by (first | omega | (simp; done) | (simp; omega))) _) | (with_reducible refine Below.alloc ?_ (by (first | omega | (simp; done) | (simp; omega))) _) | (with_reducible refine Below.drew ?_) | (with_reducible refine below_drewN ?_ _)))))).mono ?_
    rintro e1 w1 ⟨rfl, hb⟩
    have h2 : Blk w1 (w.heap.size + 1) TC [.int .u8 0, .int .u8 0] := Blk.below (by (repeat' (first | (with_reducible refine BlkP.Blk.drew ?_) | (with_reducible refine BlkP.Blk.drewN ?_ _) | (with_reducible refine BlkP.Blk.setAt (us := ?_) (by first | omega | (simp; done) | (simp; omega)) rfl ?_ ?_) | (with_reducible refine BlkP.Blk.otherAt ?_ (by first | omega | (simp; done) | (simp; omega))) | (with_reducible refine BlkP.Blk.newA' (by first | omega | (simp; done) | (simp; omega)) rfl) | (with_reducible refine BlkP.Blk.alloc ?_ _) | (exact rfl)))) hb
    have hB : Below w.heap.size w w1 := by (repeat' (first | (with_reducible exact Below.refl _ _) | (with_reducible refine Below.setCell ?_ (by (first | omega | (simp; done) | (simp; omega))) _) | (with_reducible refine Below.alloc ?_ (by (first | omega | (simp; done) | (simp; omega))) _) | (with_reducible refine Below.drew ?_) | (with_reducible refine below_drewN ?_ _) | (with_reducible refine Below.trans ?_ (Below.mono hb (by (first | omega | (simp; done) | (simp; omega)))))))
    have HB := Lib.hid hB
    have z0 := h2.cell (i := 0) rfl
    have z1 := h2.cell (i := 1) rfl
    have f0 := h2.frozen 0
    have f1 := h2.frozen 1
    have l1 := h2.lt
    clear hb hB h2
    go_wp2_with fail
    refine bodyPost_ret (v := .agg #[.int .u8 1, .int .u8 0]) (by simp [results, Tryd.results70, go_sem, l1, z0, z1]) rfl ?_
    exact ⟨rfl, by (repeat' (first | (with_reducible exact Below.refl _ _) | (with_reducible refine Below.setCell ?_ (by (first | omega | (simp; done) | (simp; omega))) _) | (with_reducible refine Below.alloc ?_ (by (first | omega | (simp; done) | (simp; omega))) _) | (with_reducible refine Below.drew ?_) | (with_reducible refine below_drewN ?_ _) | (with_reducible refine Below.trans ?_ (Below.mono HB.out (by (first | omega | (simp; done) | (simp; omega)))))))⟩
set_option maxRecDepth 100000 in
set_option maxHeartbeats 4000000 in
theorem rof_c {w : World} {k l q : Nat} (h : kd (k, l) = q) : Calls Tryd.prog 58 #[.agg #[.int .u8 (k : Int), .int .u8 (l : Int)]] w fun e w' => e = .returned (.int .u8 (q : Int)) ∧ Below w.heap.size w w' := by
  cases hm : KindP.may k l with
  | true =>
    obtain rfl : k = q := by simpa [kd, hm] using h
    have HM := Lib.hid hm
    clear hm h
    go_enter Tryd.func58, Tryd.ntmps58
    go_wp2_with fail
    refine (KindW.r_may_b HM.out _).mono ?_
    rintro e1 w1 ⟨rfl, hb⟩
    have h1 : Blk w1 w.heap.size TC [.int .u8 k, .int .u8 l] := Blk.below (by (repeat' (first | (with_reducible refine BlkP.Blk.drew ?_) | (with_reducible refine BlkP.Blk.drewN ?_ _) | (with_reducible refine BlkP.Blk.setAt (us := ?_) (by first | omega | (simp; done) | (simp; omega)) rfl ?_ ?_) | (with_reducible refine BlkP.Blk.otherAt ?_ (by first | omega | (simp; done) | (simp; omega))) | (with_reducible refine BlkP.Blk.newA' (by first | omega | (simp; done) | (simp; omega)) rfl) | (with_reducible refine BlkP.Blk.alloc ?_ _) | (exact rfl)))) hb
    have HB := Lib.hid (show Below w.heap.size w w1 by (repeat' (first | (with_reducible exact Below.refl _ _) | (with_reducible refine Below.setCell ?_ (by (first | omega | (simp; done) | (simp; omega))) _) | (with_reducible refine Below.alloc ?_ (by (first | omega | (simp; done) | (simp; omega))) _) | (with_reducible refine Below.drew ?_) | (with_reducible refine below_drewN ?_ _) | (with_reducible refine Below.trans ?_ (Below.mono hb (by (first | omega | (simp; done) | (simp; omega))))))))
    have c0 := h1.cell (i := 0) rfl
    clear hb h1
    go_wp2_with fail
    go_ret
    exact ⟨rfl, HB.out⟩
  | false =>
    obtain rfl : 1 = q := by simpa [kd, hm] using h
    have HM := Lib.hid hm
    clear hm h
    go_enter Tryd.func58, Tryd.ntmps58
    go_wp2_with fail
    refine (KindW.r_may_b HM.out _).mono ?_
    rintro e1 w1 ⟨rfl, hb⟩
    have HB := Lib.hid (show Below w.heap.size w w1 by (repeat' (first | (with_reducible exact Below.refl _ _) | (with_reducible refine Below.setCell ?_ (by (first | omega | (simp; done) | (simp; omega))) _) | (with_reducible refine Below.alloc ?_ (by (first | omega | (simp; done) | (simp; omega))) _) | (with_reducible refine Below.drew ?_) | (with_reducible refine below_drewN ?_ _) | (with_reducible refine Below.trans ?_ (Below.mono hb (by (first | omega | (simp; done) | (simp; omega))))))))
    clear hb
    go_wp2_with fail
    go_ret
    exact ⟨rfl, HB.out⟩
set_option maxRecDepth 100000 in
set_option maxHeartbeats 4000000 in
theorem isWater_c {w : World} {k l : Nat} {b : Bool} (h : (k == 13) = b) : Calls Tryd.prog 45 #[.agg #[.int .u8 (k : Int), .int .u8 (l : Int)]] w fun e w' => e = .returned (.bool b) ∧ Below w.heap.size w w' := by
  have hI := beq_int h
  cases b with
  | true =>
    clear h
    go_enter Tryd.func45, Tryd.ntmps45
    go_wp2_with fail
    go_ret
    exact ⟨by first | rfl | (simp; done) | (simp at hI; simp [hI]), by (repeat' (first | (with_reducible exact Below.refl _ _) | (with_reducible refine Below.setCell ?_ (by (first | omega | (simp; done) | (simp; omega))) _) | (with_reducible refine Below.alloc ?_ (by (first | omega | (simp; done) | (simp; omega))) _) | (with_reducible refine Below.drew ?_) | (with_reducible refine below_drewN ?_ _)))⟩
  | false =>
    clear h
    go_enter Tryd.func45, Tryd.ntmps45
    go_wp2_with fail
    go_ret
    exact ⟨by first | rfl | (simp; done) | (simp at hI; simp [hI]), by (repeat' (first | (with_reducible exact Below.refl _ _) | (with_reducible refine Below.setCell ?_ (by (first | omega | (simp; done) | (simp; omega))) _) | (with_reducible refine Below.alloc ?_ (by (first | omega | (simp; done) | (simp; omega))) _) | (with_reducible refine Below.drew ?_) | (with_reducible refine below_drewN ?_ _)))⟩
set_option maxRecDepth 100000 in
set_option maxHeartbeats 4000000 in
theorem burns_c {w : World} {k l : Nat} {b : Bool} (hT : KindW.Tab w) (h : KindP.burns k = b) : Calls Tryd.prog 46 #[.agg #[.int .u8 (k : Int), .int .u8 (l : Int)]] w fun e w' => e = .returned (.bool b) ∧ Below w.heap.size w w' := by
  have HT := Lib.hid hT
  have HE := Lib.hid h
  clear hT h
  go_enter Tryd.func46, Tryd.ntmps46
  go_wp2_with fail
  refine (KindW.k_burns k _ (HT.out.below (by (repeat' (first | (with_reducible exact Below.refl _ _) | (with_reducible refine Below.setCell ?_ (by (first | omega | (simp; done) | (simp; omega))) _) | (with_reducible refine Below.alloc ?_ (by (first | omega | (simp; done) | (simp; omega))) _) | (with_reducible refine Below.drew ?_) | (with_reducible refine below_drewN ?_ _)))))).mono ?_
  rintro e1 w1 ⟨rfl, rfl⟩
  go_wp2_with fail
  go_ret
  exact ⟨congrArg (fun b => Ending.returned (.bool b)) HE.out, by (repeat' (first | (with_reducible exact Below.refl _ _) | (with_reducible refine Below.setCell ?_ (by (first | omega | (simp; done) | (simp; omega))) _) | (with_reducible refine Below.alloc ?_ (by (first | omega | (simp; done) | (simp; omega))) _) | (with_reducible refine Below.drew ?_) | (with_reducible refine below_drewN ?_ _)))⟩
set_option maxRecDepth 100000 in
set_option maxHeartbeats 4000000 in
theorem movables_c {w : World} {k l : Nat} {x : Int} (hT : KindW.Tab w) (h : mv k = x) : Calls Tryd.prog 72 #[.agg #[.int .u8 (k : Int), .int .u8 (l : Int)]] w fun e w' => e = .returned (.int .i64 x) ∧ Below w.heap.size w w' := by
  have HT := Lib.hid hT
  clear hT
  cases hm : KindP.movable k with
  | true =>
    obtain rfl : 1 = x := by simpa [mv, hm] using h
    have HM := Lib.hid hm
    clear h hm
    go_enter Tryd.func72, Tryd.ntmps72
    go_wp2_with fail
    refine (KindW.k_movable k _ (HT.out.below (by (repeat' (first | (with_reducible exact Below.refl _ _) | (with_reducible refine Below.setCell ?_ (by (first | omega | (simp; done) | (simp; omega))) _) | (with_reducible refine Below.alloc ?_ (by (first | omega | (simp; done) | (simp; omega))) _) | (with_reducible refine Below.drew ?_) | (with_reducible refine below_drewN ?_ _)))))).mono ?_
    rw [HM.out]
    rintro e1 w1 ⟨rfl, rfl⟩
    go_wp2_with fail
    go_ret
    exact ⟨rfl, by (repeat' (first | (with_reducible exact Below.refl _ _) | (with_reducible refine Below.setCell ?_ (by (first | omega | (simp; done) | (simp; omega))) _) | (with_reducible refine Below.alloc ?_ (by (first | omega | (simp; done) | (simp; omega))) _) | (with_reducible refine Below.drew ?_) | (with_reducible refine below_drewN ?_ _)))⟩
  | false =>
    obtain rfl : 0 = x := by simpa [mv, hm] using h
    have HM := Lib.hid hm
    clear h hm
    go_enter Tryd.func72, Tryd.ntmps72
    go_wp2_with fail
    refine (KindW.k_movable k _ (HT.out.below (by (repeat' (first | (with_reducible exact Below.refl _ _) | (with_reducible refine Below.setCell ?_ (by (first | omega | (simp; done) | (simp; omega))) _) | (with_reducible refine Below.alloc ?_ (by (first | omega | (simp; done) | (simp; omega))) _) | (with_reducible refine Below.drew ?_) | (with_reducible refine below_drewN ?_ _)))))).mono ?_
    rw [HM.out]
    rintro e1 w1 ⟨rfl, rfl⟩
    go_wp2_with fail
    go_ret
    exact ⟨rfl, by (repeat' (first | (with_reducible exact Below.refl _ _) | (with_reducible refine Below.setCell ?_ (by (first | omega | (simp; done) | (simp; omega))) _) | (with_reducible refine Below.alloc ?_ (by (first | omega | (simp; done) | (simp; omega))) _) | (with_reducible refine Below.drew ?_) | (with_reducible refine below_drewN ?_ _)))⟩
set_option maxRecDepth 100000 in
set_option maxHeartbeats 4000000 in
theorem flame_c {w : World} {k l a b : Nat} (h : flame k = (a, b)) : Calls Tryd.prog 47 #[.agg #[.int .u8 (k : Int), .int .u8 (l : Int)]] w fun e w' => e = .returned (.agg #[.int .u8 (a : Int), .int .u8 (b : Int)]) ∧ Below w.heap.size w w' := by
  by_cases hk : k = 6
  · have hI : ((k : Int) == 6) = true := by simp; omega
    obtain ⟨rfl, rfl⟩ : 14 = a ∧ 1 = b := by simpa [flame, hk] using h
    clear h hk
    go_enter Tryd.func47, Tryd.ntmps47
    go_wp2_with fail
    refine bodyPost_ret (v := .agg #[.int .u8 14, .int .u8 1]) (by simp [results, Tryd.results47, go_sem]) rfl ?_
    exact ⟨rfl, by (repeat' (first | (with_reducible exact Below.refl _ _) | (with_reducible refine Below.setCell ?_ (by (first | omega | (simp; done) | (simp; omega))) _) | (with_reducible refine Below.alloc ?_ (by (first | omega | (simp; done) | (simp; omega))) _) | (with_reducible refine Below.drew ?_) | (with_reducible refine below_drewN ?_ _)))⟩
  · have hI : ((k : Int) == 6) = false := by simp; omega
    obtain ⟨rfl, rfl⟩ : 14 = a ∧ 0 = b := by simpa [flame, hk] using h
    clear h hk
    go_enter Tryd.func47, Tryd.ntmps47
    go_wp2_with fail
    refine bodyPost_ret (v := .agg #[.int .u8 14, .int .u8 0]) (by simp [results, Tryd.results47, go_sem]) rfl ?_
    exact ⟨rfl, by (repeat' (first | (with_reducible exact Below.refl _ _) | (with_reducible refine Below.setCell ?_ (by (first | omega | (simp; done) | (simp; omega))) _) | (with_reducible refine Below.alloc ?_ (by (first | omega | (simp; done) | (simp; omega))) _) | (with_reducible refine Below.drew ?_) | (with_reducible refine below_drewN ?_ _)))⟩
set_option maxRecDepth 100000 in
set_option maxHeartbeats 4000000 in
theorem left_c {w : World} {k l a b : Nat} (h : left l = (a, b)) : Calls Tryd.prog 48 #[.agg #[.int .u8 (k : Int), .int .u8 (l : Int)]] w fun e w' => e = .returned (.agg #[.int .u8 (a : Int), .int .u8 (b : Int)]) ∧ Below w.heap.size w w' := by
  by_cases hk : l = 1
  · have hI : ((l : Int) == 1) = true := by simp; omega
    obtain ⟨rfl, rfl⟩ : 8 = a ∧ 0 = b := by simpa [left, hk] using h
    clear h hk
    go_enter Tryd.func48, Tryd.ntmps48
    go_wp2_with fail
    refine bodyPost_ret (v := .agg #[.int .u8 8, .int .u8 0]) (by simp [results, Tryd.results48, go_sem]) rfl ?_
    exact ⟨rfl, by (repeat' (first | (with_reducible exact Below.refl _ _) | (with_reducible refine Below.setCell ?_ (by (first | omega | (simp; done) | (simp; omega))) _) | (with_reducible refine Below.alloc ?_ (by (first | omega | (simp; done) | (simp; omega))) _) | (with_reducible refine Below.drew ?_) | (with_reducible refine below_drewN ?_ _)))⟩
  · have hI : ((l : Int) == 1) = false := by simp; omega
    obtain ⟨rfl, rfl⟩ : 0 = a ∧ 0 = b := by simpa [left, hk] using h
    clear h hk
    go_enter Tryd.func48, Tryd.ntmps48
    go_wp2_with fail
    refine bodyPost_ret (v := .agg #[.int .u8 0, .int .u8 0]) (by simp [results, Tryd.results48, go_sem]) rfl ?_
    exact ⟨rfl, by (repeat' (first | (with_reducible exact Below.refl _ _) | (with_reducible refine Below.setCell ?_ (by (first | omega | (simp; done) | (simp; omega))) _) | (with_reducible refine Below.alloc ?_ (by (first | omega | (simp; done) | (simp; omega))) _) | (with_reducible refine Below.drew ?_) | (with_reducible refine below_drewN ?_ _)))⟩
end BurnW
end Go.Proofs.YtlahkmkipciiiaaDoor
