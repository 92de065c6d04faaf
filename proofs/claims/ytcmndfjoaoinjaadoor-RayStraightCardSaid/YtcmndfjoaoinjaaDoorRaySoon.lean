/-
  The walk of soonest: which crossing comes first.
-/
import Derived.Test.YtcmndfjoaoinjaaDoorRayWalks
namespace Go.Proofs.YtcmndfjoaoinjaaDoor
open Go.RowKit
set_option linter.unusedVariables false
set_option linter.unusedSimpArgs false
namespace RayP
open PlaceW BlkP

set_option maxHeartbeats 2000000 in
theorem soonest_00 {o0 s0 q0 o1 s1 q1 o2 s2 q2 : Int} (p00 : 0 ≤ o0 * s0) (p00' : o0 * s0 ≤ 100000000) (p01 : 0 ≤ o0 * s1) (p01' : o0 * s1 ≤ 100000000) (p02 : 0 ≤ o0 * s2) (p02' : o0 * s2 ≤ 100000000)
    (p10 : 0 ≤ o1 * s0) (p10' : o1 * s0 ≤ 100000000) (p12 : 0 ≤ o1 * s2) (p12' : o1 * s2 ≤ 100000000) (p20 : 0 ≤ o2 * s0) (p20' : o2 * s0 ≤ 100000000) (p21 : 0 ≤ o2 * s1) (p21' : o2 * s1 ≤ 100000000)
    (h1 : ¬ o1 * s0 < o0 * s1) (h2 : ¬ o2 * s0 < o0 * s2) (w : World) :
    Calls Tryd.prog 18 #[.agg #[.int .i64 o0, .int .i64 s0, .int .i64 q0, .int .i64 o1, .int .i64 s1, .int .i64 q1, .int .i64 o2, .int .i64 s2, .int .i64 q2]] w fun e w' => e = .returned (.agg #[.int .i64 o0, .int .i64 s0, .int .i64 q0]) ∧ Below w.heap.size w w' := by
  have i0 : ∀ w, (Instr.index 43 (.agg #[.int .i64 o0, .int .i64 s0, .int .i64 q0, .int .i64 o1, .int .i64 s1, .int .i64 q1, .int .i64 o2, .int .i64 s2, .int .i64 q2]) (.int .i64 0)).run Tryd.prog w = .ok (.agg #[.int .i64 o0, .int .i64 s0, .int .i64 q0]) w := fun _ => by kernel_rfl
  have i1 : ∀ w, (Instr.index 43 (.agg #[.int .i64 o0, .int .i64 s0, .int .i64 q0, .int .i64 o1, .int .i64 s1, .int .i64 q1, .int .i64 o2, .int .i64 s2, .int .i64 q2]) (.int .i64 1)).run Tryd.prog w = .ok (.agg #[.int .i64 o1, .int .i64 s1, .int .i64 q1]) w := fun _ => by kernel_rfl
  have i2 : ∀ w, (Instr.index 43 (.agg #[.int .i64 o0, .int .i64 s0, .int .i64 q0, .int .i64 o1, .int .i64 s1, .int .i64 q1, .int .i64 o2, .int .i64 s2, .int .i64 q2]) (.int .i64 2)).run Tryd.prog w = .ok (.agg #[.int .i64 o2, .int .i64 s2, .int .i64 q2]) w := fun _ => by kernel_rfl
  go_enter Tryd.func18, Tryd.ntmps18
  go_wp2_with fail
  go_loopw [9] (fun i wr => SoonL w (cr o0 s0 q0) (cr o0 s0 q0) (cr o0 s0 q0) i wr) (fun i _ => (3 - intOf i).toNat)
  case atStart => exact .inl ⟨rfl, by (repeat' (first | (with_reducible refine BlkP.Blk.drew ?_) | (with_reducible refine BlkP.Blk.drewN ?_ _) | (with_reducible refine BlkP.Blk.setAt (us := ?_) (by first | omega | (simp; done) | (simp; omega)) rfl ?_ ?_) | (with_reducible refine BlkP.Blk.otherAt ?_ (by first | omega | (simp; done) | (simp; omega))) | (with_reducible refine BlkP.Blk.newA' (by first | omega | (simp; done) | (simp; omega)) rfl) | (with_reducible refine BlkP.Blk.alloc ?_ _) | (exact rfl))), by (repeat' (first | (with_reducible refine BlkP.Blk.drew ?_) | (with_reducible refine BlkP.Blk.drewN ?_ _) | (with_reducible refine BlkP.Blk.setAt (us := ?_) (by first | omega | (simp; done) | (simp; omega)) rfl ?_ ?_) | (with_reducible refine BlkP.Blk.otherAt ?_ (by first | omega | (simp; done) | (simp; omega))) | (with_reducible refine BlkP.Blk.newA' (by first | omega | (simp; done) | (simp; omega)) rfl) | (with_reducible refine BlkP.Blk.alloc ?_ _) | (exact rfl))), by (repeat' (first | (with_reducible exact Below.refl _ _) | (with_reducible refine Below.setCell ?_ (by (first | omega | (simp; done) | (simp; omega))) _) | (with_reducible refine Below.alloc ?_ (by (first | omega | (simp; done) | (simp; omega))) _) | (with_reducible refine Below.drew ?_) | (with_reducible refine below_drewN ?_ _)))⟩
  case round =>
    rcases hrel with ⟨rfl, hR⟩ | ⟨rfl, hR⟩ | ⟨rfl, hR⟩ | ⟨rfl, hR⟩
    · obtain ⟨hB1, hB2, hbl⟩ := hR
      have c0 := hB2.cell (i := 0) (v := .int .i64 o0) rfl
      have c1 := hB2.cell (i := 1) (v := .int .i64 s0) rfl
      have c2 := hB2.cell (i := 2) (v := .int .i64 q0) rfl
      have hz := hB2.lt
      have HB1 := Lib.hid hB1
      have HB2 := Lib.hid hB2
      have HBL := Lib.hid hbl
      clear hB1 hB2 hbl
      go_wp2_with fail
      have hB1 := HB1.out
      have hB2 := HB2.out
      have hbl := HBL.out
      go_roundw
      case rel => exact .inr (.inl ⟨rfl, by (repeat' (first | (with_reducible exact hB1) | (with_reducible refine BlkP.Blk.drew ?_) | (with_reducible refine BlkP.Blk.drewN ?_ _) | (with_reducible refine BlkP.Blk.setAt (us := ?_) (by first | omega | (simp; done) | (simp; omega)) rfl ?_ ?_) | (with_reducible refine BlkP.Blk.otherAt ?_ (by first | omega | (simp; done) | (simp; omega))) | (with_reducible refine BlkP.Blk.newA' (by first | omega | (simp; done) | (simp; omega)) rfl) | (with_reducible refine BlkP.Blk.alloc ?_ _) | (exact rfl))), by (repeat' (first | (with_reducible exact hB2) | (with_reducible refine BlkP.Blk.drew ?_) | (with_reducible refine BlkP.Blk.drewN ?_ _) | (with_reducible refine BlkP.Blk.setAt (us := ?_) (by first | omega | (simp; done) | (simp; omega)) rfl ?_ ?_) | (with_reducible refine BlkP.Blk.otherAt ?_ (by first | omega | (simp; done) | (simp; omega))) | (with_reducible refine BlkP.Blk.newA' (by first | omega | (simp; done) | (simp; omega)) rfl) | (with_reducible refine BlkP.Blk.alloc ?_ _) | (exact rfl))), by (repeat' (first | (with_reducible exact Below.refl _ _) | (with_reducible refine Below.setCell ?_ (by (first | omega | (simp; done) | (simp; omega))) _) | (with_reducible refine Below.alloc ?_ (by (first | omega | (simp; done) | (simp; omega))) _) | (with_reducible refine Below.drew ?_) | (with_reducible refine below_drewN ?_ _) | (with_reducible refine Below.trans ?_ (Below.mono hbl (by (first | omega | (simp; done) | (simp; omega)))))))⟩)
      case measure => simp [intOf]
    · obtain ⟨hB1, hB2, hbl⟩ := hR
      have c0 := hB2.cell (i := 0) (v := .int .i64 o0) rfl
      have c1 := hB2.cell (i := 1) (v := .int .i64 s0) rfl
      have c2 := hB2.cell (i := 2) (v := .int .i64 q0) rfl
      have hz := hB2.lt
      have HB1 := Lib.hid hB1
      have HB2 := Lib.hid hB2
      have HBL := Lib.hid hbl
      clear hB1 hB2 hbl
      go_wp2_with fail
      have hB1 := HB1.out
      have hB2 := HB2.out
      have hbl := HBL.out
      go_roundw
      case rel => exact .inr (.inr (.inl ⟨rfl, by (repeat' (first | (with_reducible exact hB1) | (with_reducible refine BlkP.Blk.drew ?_) | (with_reducible refine BlkP.Blk.drewN ?_ _) | (with_reducible refine BlkP.Blk.setAt (us := ?_) (by first | omega | (simp; done) | (simp; omega)) rfl ?_ ?_) | (with_reducible refine BlkP.Blk.otherAt ?_ (by first | omega | (simp; done) | (simp; omega))) | (with_reducible refine BlkP.Blk.newA' (by first | omega | (simp; done) | (simp; omega)) rfl) | (with_reducible refine BlkP.Blk.alloc ?_ _) | (exact rfl))), by (repeat' (first | (with_reducible exact hB2) | (with_reducible refine BlkP.Blk.drew ?_) | (with_reducible refine BlkP.Blk.drewN ?_ _) | (with_reducible refine BlkP.Blk.setAt (us := ?_) (by first | omega | (simp; done) | (simp; omega)) rfl ?_ ?_) | (with_reducible refine BlkP.Blk.otherAt ?_ (by first | omega | (simp; done) | (simp; omega))) | (with_reducible refine BlkP.Blk.newA' (by first | omega | (simp; done) | (simp; omega)) rfl) | (with_reducible refine BlkP.Blk.alloc ?_ _) | (exact rfl))), by (repeat' (first | (with_reducible exact Below.refl _ _) | (with_reducible refine Below.setCell ?_ (by (first | omega | (simp; done) | (simp; omega))) _) | (with_reducible refine Below.alloc ?_ (by (first | omega | (simp; done) | (simp; omega))) _) | (with_reducible refine Below.drew ?_) | (with_reducible refine below_drewN ?_ _) | (with_reducible refine Below.trans ?_ (Below.mono hbl (by (first | omega | (simp; done) | (simp; omega)))))))⟩))
      case measure => simp [intOf]
    · obtain ⟨hB1, hB2, hbl⟩ := hR
      have c0 := hB2.cell (i := 0) (v := .int .i64 o0) rfl
      have c1 := hB2.cell (i := 1) (v := .int .i64 s0) rfl
      have c2 := hB2.cell (i := 2) (v := .int .i64 q0) rfl
      have hz := hB2.lt
      have HB1 := Lib.hid hB1
      have HB2 := Lib.hid hB2
      have HBL := Lib.hid hbl
      clear hB1 hB2 hbl
      go_wp2_with fail
      have hB1 := HB1.out
      have hB2 := HB2.out
      have hbl := HBL.out
      go_roundw
      case rel => exact .inr (.inr (.inr ⟨rfl, by (repeat' (first | (with_reducible exact hB1) | (with_reducible refine BlkP.Blk.drew ?_) | (with_reducible refine BlkP.Blk.drewN ?_ _) | (with_reducible refine BlkP.Blk.setAt (us := ?_) (by first | omega | (simp; done) | (simp; omega)) rfl ?_ ?_) | (with_reducible refine BlkP.Blk.otherAt ?_ (by first | omega | (simp; done) | (simp; omega))) | (with_reducible refine BlkP.Blk.newA' (by first | omega | (simp; done) | (simp; omega)) rfl) | (with_reducible refine BlkP.Blk.alloc ?_ _) | (exact rfl))), by (repeat' (first | (with_reducible exact hB2) | (with_reducible refine BlkP.Blk.drew ?_) | (with_reducible refine BlkP.Blk.drewN ?_ _) | (with_reducible refine BlkP.Blk.setAt (us := ?_) (by first | omega | (simp; done) | (simp; omega)) rfl ?_ ?_) | (with_reducible refine BlkP.Blk.otherAt ?_ (by first | omega | (simp; done) | (simp; omega))) | (with_reducible refine BlkP.Blk.newA' (by first | omega | (simp; done) | (simp; omega)) rfl) | (with_reducible refine BlkP.Blk.alloc ?_ _) | (exact rfl))), by (repeat' (first | (with_reducible exact Below.refl _ _) | (with_reducible refine Below.setCell ?_ (by (first | omega | (simp; done) | (simp; omega))) _) | (with_reducible refine Below.alloc ?_ (by (first | omega | (simp; done) | (simp; omega))) _) | (with_reducible refine Below.drew ?_) | (with_reducible refine below_drewN ?_ _) | (with_reducible refine Below.trans ?_ (Below.mono hbl (by (first | omega | (simp; done) | (simp; omega)))))))⟩))
      case measure => simp [intOf]
    · obtain ⟨hB1, hB2, hbl⟩ := hR
      have c0 := hB2.cell (i := 0) (v := .int .i64 o0) rfl
      have c1 := hB2.cell (i := 1) (v := .int .i64 s0) rfl
      have c2 := hB2.cell (i := 2) (v := .int .i64 q0) rfl
      have d0 := hB1.cell (i := 0) (v := .int .i64 0) rfl
      have d1 := hB1.cell (i := 1) (v := .int .i64 0) rfl
      have d2 := hB1.cell (i := 2) (v := .int .i64 0) rfl
      have f0 := hB1.frozen 0
      have f1 := hB1.frozen 1
      have f2 := hB1.frozen 2
      have hz := hB2.lt
      have HBL := Lib.hid hbl
      have HB1 := Lib.hid hB1
      clear hB1 hB2 hbl
      go_wp2_with fail
      have hbl := HBL.out
      refine HeldP.bp_named (fun W => Blk W (w.heap.size + 1) 42 [.int .i64 o0, .int .i64 s0, .int .i64 q0] ∧ Below w.heap.size w W) ⟨by have hB1 := HB1.out; (repeat' (first | (with_reducible exact hB1) | (with_reducible refine BlkP.Blk.drew ?_) | (with_reducible refine BlkP.Blk.drewN ?_ _) | (with_reducible refine BlkP.Blk.setAt (us := ?_) (by first | omega | (simp; done) | (simp; omega)) rfl ?_ ?_) | (with_reducible refine BlkP.Blk.otherAt ?_ (by first | omega | (simp; done) | (simp; omega))) | (with_reducible refine BlkP.Blk.newA' (by first | omega | (simp; done) | (simp; omega)) rfl) | (with_reducible refine BlkP.Blk.alloc ?_ _) | (exact rfl))), by (repeat' (first | (with_reducible exact Below.refl _ _) | (with_reducible refine Below.setCell ?_ (by (first | omega | (simp; done) | (simp; omega))) _) | (with_reducible refine Below.alloc ?_ (by (first | omega | (simp; done) | (simp; omega))) _) | (with_reducible refine Below.drew ?_) | (with_reducible refine below_drewN ?_ _) | (with_reducible refine Below.trans ?_ (Below.mono hbl (by (first | omega | (simp; done) | (simp; omega)))))))⟩ ?_
      rintro W ⟨hW, hbW⟩
      have c0 := hW.cell (i := 0) (v := .int .i64 o0) rfl
      have c1 := hW.cell (i := 1) (v := .int .i64 s0) rfl
      have c2 := hW.cell (i := 2) (v := .int .i64 q0) rfl
      refine bodyPost_ret (v := .agg #[.int .i64 o0, .int .i64 s0, .int .i64 q0]) (by simp [results, Tryd.results18, go_sem, c0, c1, c2]) rfl ?_
      exact ⟨rfl, hbW⟩
set_option maxHeartbeats 2000000 in
theorem soonest_02 {o0 s0 q0 o1 s1 q1 o2 s2 q2 : Int} (p00 : 0 ≤ o0 * s0) (p00' : o0 * s0 ≤ 100000000) (p01 : 0 ≤ o0 * s1) (p01' : o0 * s1 ≤ 100000000) (p02 : 0 ≤ o0 * s2) (p02' : o0 * s2 ≤ 100000000)
    (p10 : 0 ≤ o1 * s0) (p10' : o1 * s0 ≤ 100000000) (p12 : 0 ≤ o1 * s2) (p12' : o1 * s2 ≤ 100000000) (p20 : 0 ≤ o2 * s0) (p20' : o2 * s0 ≤ 100000000) (p21 : 0 ≤ o2 * s1) (p21' : o2 * s1 ≤ 100000000)
    (h1 : ¬ o1 * s0 < o0 * s1) (h2 : o2 * s0 < o0 * s2) (w : World) :
    Calls Tryd.prog 18 #[.agg #[.int .i64 o0, .int .i64 s0, .int .i64 q0, .int .i64 o1, .int .i64 s1, .int .i64 q1, .int .i64 o2, .int .i64 s2, .int .i64 q2]] w fun e w' => e = .returned (.agg #[.int .i64 o2, .int .i64 s2, .int .i64 q2]) ∧ Below w.heap.size w w' := by
  have i0 : ∀ w, (Instr.index 43 (.agg #[.int .i64 o0, .int .i64 s0, .int .i64 q0, .int .i64 o1, .int .i64 s1, .int .i64 q1, .int .i64 o2, .int .i64 s2, .int .i64 q2]) (.int .i64 0)).run Tryd.prog w = .ok (.agg #[.int .i64 o0, .int .i64 s0, .int .i64 q0]) w := fun _ => by kernel_rfl
  have i1 : ∀ w, (Instr.index 43 (.agg #[.int .i64 o0, .int .i64 s0, .int .i64 q0, .int .i64 o1, .int .i64 s1, .int .i64 q1, .int .i64 o2, .int .i64 s2, .int .i64 q2]) (.int .i64 1)).run Tryd.prog w = .ok (.agg #[.int .i64 o1, .int .i64 s1, .int .i64 q1]) w := fun _ => by kernel_rfl
  have i2 : ∀ w, (Instr.index 43 (.agg #[.int .i64 o0, .int .i64 s0, .int .i64 q0, .int .i64 o1, .int .i64 s1, .int .i64 q1, .int .i64 o2, .int .i64 s2, .int .i64 q2]) (.int .i64 2)).run Tryd.prog w = .ok (.agg #[.int .i64 o2, .int .i64 s2, .int .i64 q2]) w := fun _ => by kernel_rfl
  go_enter Tryd.func18, Tryd.ntmps18
  go_wp2_with fail
  go_loopw [9] (fun i wr => SoonL w (cr o0 s0 q0) (cr o0 s0 q0) (cr o2 s2 q2) i wr) (fun i _ => (3 - intOf i).toNat)
  case atStart => exact .inl ⟨rfl, by (repeat' (first | (with_reducible refine BlkP.Blk.drew ?_) | (with_reducible refine BlkP.Blk.drewN ?_ _) | (with_reducible refine BlkP.Blk.setAt (us := ?_) (by first | omega | (simp; done) | (simp; omega)) rfl ?_ ?_) | (with_reducible refine BlkP.Blk.otherAt ?_ (by first | omega | (simp; done) | (simp; omega))) | (with_reducible refine BlkP.Blk.newA' (by first | omega | (simp; done) | (simp; omega)) rfl) | (with_reducible refine BlkP.Blk.alloc ?_ _) | (exact rfl))), by (repeat' (first | (with_reducible refine BlkP.Blk.drew ?_) | (with_reducible refine BlkP.Blk.drewN ?_ _) | (with_reducible refine BlkP.Blk.setAt (us := ?_) (by first | omega | (simp; done) | (simp; omega)) rfl ?_ ?_) | (with_reducible refine BlkP.Blk.otherAt ?_ (by first | omega | (simp; done) | (simp; omega))) | (with_reducible refine BlkP.Blk.newA' (by first | omega | (simp; done) | (simp; omega)) rfl) | (with_reducible refine BlkP.Blk.alloc ?_ _) | (exact rfl))), by (repeat' (first | (with_reducible exact Below.refl _ _) | (with_reducible refine Below.setCell ?_ (by (first | omega | (simp; done) | (simp; omega))) _) | (with_reducible refine Below.alloc ?_ (by (first | omega | (simp; done) | (simp; omega))) _) | (with_reducible refine Below.drew ?_) | (with_reducible refine below_drewN ?_ _)))⟩
  case round =>
    rcases hrel with ⟨rfl, hR⟩ | ⟨rfl, hR⟩ | ⟨rfl, hR⟩ | ⟨rfl, hR⟩
    · obtain ⟨hB1, hB2, hbl⟩ := hR
      have c0 := hB2.cell (i := 0) (v := .int .i64 o0) rfl
      have c1 := hB2.cell (i := 1) (v := .int .i64 s0) rfl
      have c2 := hB2.cell (i := 2) (v := .int .i64 q0) rfl
      have hz := hB2.lt
      have HB1 := Lib.hid hB1
      have HB2 := Lib.hid hB2
      have HBL := Lib.hid hbl
      clear hB1 hB2 hbl
      go_wp2_with fail
      have hB1 := HB1.out
      have hB2 := HB2.out
      have hbl := HBL.out
      go_roundw
      case rel => exact .inr (.inl ⟨rfl, by (repeat' (first | (with_reducible exact hB1) | (with_reducible refine BlkP.Blk.drew ?_) | (with_reducible refine BlkP.Blk.drewN ?_ _) | (with_reducible refine BlkP.Blk.setAt (us := ?_) (by first | omega | (simp; done) | (simp; omega)) rfl ?_ ?_) | (with_reducible refine BlkP.Blk.otherAt ?_ (by first | omega | (simp; done) | (simp; omega))) | (with_reducible refine BlkP.Blk.newA' (by first | omega | (simp; done) | (simp; omega)) rfl) | (with_reducible refine BlkP.Blk.alloc ?_ _) | (exact rfl))), by (repeat' (first | (with_reducible exact hB2) | (with_reducible refine BlkP.Blk.drew ?_) | (with_reducible refine BlkP.Blk.drewN ?_ _) | (with_reducible refine BlkP.Blk.setAt (us := ?_) (by first | omega | (simp; done) | (simp; omega)) rfl ?_ ?_) | (with_reducible refine BlkP.Blk.otherAt ?_ (by first | omega | (simp; done) | (simp; omega))) | (with_reducible refine BlkP.Blk.newA' (by first | omega | (simp; done) | (simp; omega)) rfl) | (with_reducible refine BlkP.Blk.alloc ?_ _) | (exact rfl))), by (repeat' (first | (with_reducible exact Below.refl _ _) | (with_reducible refine Below.setCell ?_ (by (first | omega | (simp; done) | (simp; omega))) _) | (with_reducible refine Below.alloc ?_ (by (first | omega | (simp; done) | (simp; omega))) _) | (with_reducible refine Below.drew ?_) | (with_reducible refine below_drewN ?_ _) | (with_reducible refine Below.trans ?_ (Below.mono hbl (by (first | omega | (simp; done) | (simp; omega)))))))⟩)
      case measure => simp [intOf]
    · obtain ⟨hB1, hB2, hbl⟩ := hR
      have c0 := hB2.cell (i := 0) (v := .int .i64 o0) rfl
      have c1 := hB2.cell (i := 1) (v := .int .i64 s0) rfl
      have c2 := hB2.cell (i := 2) (v := .int .i64 q0) rfl
      have hz := hB2.lt
      have HB1 := Lib.hid hB1
      have HB2 := Lib.hid hB2
      have HBL := Lib.hid hbl
      clear hB1 hB2 hbl
      go_wp2_with fail
      have hB1 := HB1.out
      have hB2 := HB2.out
      have hbl := HBL.out
      go_roundw
      case rel => exact .inr (.inr (.inl ⟨rfl, by (repeat' (first | (with_reducible exact hB1) | (with_reducible refine BlkP.Blk.drew ?_) | (with_reducible refine BlkP.Blk.drewN ?_ _) | (with_reducible refine BlkP.Blk.setAt (us := ?_) (by first | omega | (simp; done) | (simp; omega)) rfl ?_ ?_) | (with_reducible refine BlkP.Blk.otherAt ?_ (by first | omega | (simp; done) | (simp; omega))) | (with_reducible refine BlkP.Blk.newA' (by first | omega | (simp; done) | (simp; omega)) rfl) | (with_reducible refine BlkP.Blk.alloc ?_ _) | (exact rfl))), by (repeat' (first | (with_reducible exact hB2) | (with_reducible refine BlkP.Blk.drew ?_) | (with_reducible refine BlkP.Blk.drewN ?_ _) | (with_reducible refine BlkP.Blk.setAt (us := ?_) (by first | omega | (simp; done) | (simp; omega)) rfl ?_ ?_) | (with_reducible refine BlkP.Blk.otherAt ?_ (by first | omega | (simp; done) | (simp; omega))) | (with_reducible refine BlkP.Blk.newA' (by first | omega | (simp; done) | (simp; omega)) rfl) | (with_reducible refine BlkP.Blk.alloc ?_ _) | (exact rfl))), by (repeat' (first | (with_reducible exact Below.refl _ _) | (with_reducible refine Below.setCell ?_ (by (first | omega | (simp; done) | (simp; omega))) _) | (with_reducible refine Below.alloc ?_ (by (first | omega | (simp; done) | (simp; omega))) _) | (with_reducible refine Below.drew ?_) | (with_reducible refine below_drewN ?_ _) | (with_reducible refine Below.trans ?_ (Below.mono hbl (by (first | omega | (simp; done) | (simp; omega)))))))⟩))
      case measure => simp [intOf]
    · obtain ⟨hB1, hB2, hbl⟩ := hR
      have c0 := hB2.cell (i := 0) (v := .int .i64 o0) rfl
      have c1 := hB2.cell (i := 1) (v := .int .i64 s0) rfl
      have c2 := hB2.cell (i := 2) (v := .int .i64 q0) rfl
      have hz := hB2.lt
      have f0 := hB2.frozen 0
      have f1 := hB2.frozen 1
      have f2 := hB2.frozen 2
      have HB1 := Lib.hid hB1
      have HB2 := Lib.hid hB2
      have HBL := Lib.hid hbl
      clear hB1 hB2 hbl
      go_wp2_with fail
      have hB1 := HB1.out
      have hB2 := HB2.out
      have hbl := HBL.out
      go_roundw
      case rel => exact .inr (.inr (.inr ⟨rfl, by (repeat' (first | (with_reducible exact hB1) | (with_reducible refine BlkP.Blk.drew ?_) | (with_reducible refine BlkP.Blk.drewN ?_ _) | (with_reducible refine BlkP.Blk.setAt (us := ?_) (by first | omega | (simp; done) | (simp; omega)) rfl ?_ ?_) | (with_reducible refine BlkP.Blk.otherAt ?_ (by first | omega | (simp; done) | (simp; omega))) | (with_reducible refine BlkP.Blk.newA' (by first | omega | (simp; done) | (simp; omega)) rfl) | (with_reducible refine BlkP.Blk.alloc ?_ _) | (exact rfl))), by (repeat' (first | (with_reducible exact hB2) | (with_reducible refine BlkP.Blk.drew ?_) | (with_reducible refine BlkP.Blk.drewN ?_ _) | (with_reducible refine BlkP.Blk.setAt (us := ?_) (by first | omega | (simp; done) | (simp; omega)) rfl ?_ ?_) | (with_reducible refine BlkP.Blk.otherAt ?_ (by first | omega | (simp; done) | (simp; omega))) | (with_reducible refine BlkP.Blk.newA' (by first | omega | (simp; done) | (simp; omega)) rfl) | (with_reducible refine BlkP.Blk.alloc ?_ _) | (exact rfl))), by (repeat' (first | (with_reducible exact Below.refl _ _) | (with_reducible refine Below.setCell ?_ (by (first | omega | (simp; done) | (simp; omega))) _) | (with_reducible refine Below.alloc ?_ (by (first | omega | (simp; done) | (simp; omega))) _) | (with_reducible refine Below.drew ?_) | (with_reducible refine below_drewN ?_ _) | (with_reducible refine Below.trans ?_ (Below.mono hbl (by (first | omega | (simp; done) | (simp; omega)))))))⟩))
      case measure => simp [intOf]
    · obtain ⟨hB1, hB2, hbl⟩ := hR
      have c0 := hB2.cell (i := 0) (v := .int .i64 o2) rfl
      have c1 := hB2.cell (i := 1) (v := .int .i64 s2) rfl
      have c2 := hB2.cell (i := 2) (v := .int .i64 q2) rfl
      have d0 := hB1.cell (i := 0) (v := .int .i64 0) rfl
      have d1 := hB1.cell (i := 1) (v := .int .i64 0) rfl
      have d2 := hB1.cell (i := 2) (v := .int .i64 0) rfl
      have f0 := hB1.frozen 0
      have f1 := hB1.frozen 1
      have f2 := hB1.frozen 2
      have hz := hB2.lt
      have HBL := Lib.hid hbl
      have HB1 := Lib.hid hB1
      clear hB1 hB2 hbl
      go_wp2_with fail
      have hbl := HBL.out
      refine HeldP.bp_named (fun W => Blk W (w.heap.size + 1) 42 [.int .i64 o2, .int .i64 s2, .int .i64 q2] ∧ Below w.heap.size w W) ⟨by have hB1 := HB1.out; (repeat' (first | (with_reducible exact hB1) | (with_reducible refine BlkP.Blk.drew ?_) | (with_reducible refine BlkP.Blk.drewN ?_ _) | (with_reducible refine BlkP.Blk.setAt (us := ?_) (by first | omega | (simp; done) | (simp; omega)) rfl ?_ ?_) | (with_reducible refine BlkP.Blk.otherAt ?_ (by first | omega | (simp; done) | (simp; omega))) | (with_reducible refine BlkP.Blk.newA' (by first | omega | (simp; done) | (simp; omega)) rfl) | (with_reducible refine BlkP.Blk.alloc ?_ _) | (exact rfl))), by (repeat' (first | (with_reducible exact Below.refl _ _) | (with_reducible refine Below.setCell ?_ (by (first | omega | (simp; done) | (simp; omega))) _) | (with_reducible refine Below.alloc ?_ (by (first | omega | (simp; done) | (simp; omega))) _) | (with_reducible refine Below.drew ?_) | (with_reducible refine below_drewN ?_ _) | (with_reducible refine Below.trans ?_ (Below.mono hbl (by (first | omega | (simp; done) | (simp; omega)))))))⟩ ?_
      rintro W ⟨hW, hbW⟩
      have c0 := hW.cell (i := 0) (v := .int .i64 o2) rfl
      have c1 := hW.cell (i := 1) (v := .int .i64 s2) rfl
      have c2 := hW.cell (i := 2) (v := .int .i64 q2) rfl
      refine bodyPost_ret (v := .agg #[.int .i64 o2, .int .i64 s2, .int .i64 q2]) (by simp [results, Tryd.results18, go_sem, c0, c1, c2]) rfl ?_
      exact ⟨rfl, hbW⟩
set_option maxHeartbeats 2000000 in
theorem soonest_11 {o0 s0 q0 o1 s1 q1 o2 s2 q2 : Int} (p00 : 0 ≤ o0 * s0) (p00' : o0 * s0 ≤ 100000000) (p01 : 0 ≤ o0 * s1) (p01' : o0 * s1 ≤ 100000000) (p02 : 0 ≤ o0 * s2) (p02' : o0 * s2 ≤ 100000000)
    (p10 : 0 ≤ o1 * s0) (p10' : o1 * s0 ≤ 100000000) (p12 : 0 ≤ o1 * s2) (p12' : o1 * s2 ≤ 100000000) (p20 : 0 ≤ o2 * s0) (p20' : o2 * s0 ≤ 100000000) (p21 : 0 ≤ o2 * s1) (p21' : o2 * s1 ≤ 100000000)
    (h1 : o1 * s0 < o0 * s1) (h2 : ¬ o2 * s1 < o1 * s2) (w : World) :
    Calls Tryd.prog 18 #[.agg #[.int .i64 o0, .int .i64 s0, .int .i64 q0, .int .i64 o1, .int .i64 s1, .int .i64 q1, .int .i64 o2, .int .i64 s2, .int .i64 q2]] w fun e w' => e = .returned (.agg #[.int .i64 o1, .int .i64 s1, .int .i64 q1]) ∧ Below w.heap.size w w' := by
  have i0 : ∀ w, (Instr.index 43 (.agg #[.int .i64 o0, .int .i64 s0, .int .i64 q0, .int .i64 o1, .int .i64 s1, .int .i64 q1, .int .i64 o2, .int .i64 s2, .int .i64 q2]) (.int .i64 0)).run Tryd.prog w = .ok (.agg #[.int .i64 o0, .int .i64 s0, .int .i64 q0]) w := fun _ => by kernel_rfl
  have i1 : ∀ w, (Instr.index 43 (.agg #[.int .i64 o0, .int .i64 s0, .int .i64 q0, .int .i64 o1, .int .i64 s1, .int .i64 q1, .int .i64 o2, .int .i64 s2, .int .i64 q2]) (.int .i64 1)).run Tryd.prog w = .ok (.agg #[.int .i64 o1, .int .i64 s1, .int .i64 q1]) w := fun _ => by kernel_rfl
  have i2 : ∀ w, (Instr.index 43 (.agg #[.int .i64 o0, .int .i64 s0, .int .i64 q0, .int .i64 o1, .int .i64 s1, .int .i64 q1, .int .i64 o2, .int .i64 s2, .int .i64 q2]) (.int .i64 2)).run Tryd.prog w = .ok (.agg #[.int .i64 o2, .int .i64 s2, .int .i64 q2]) w := fun _ => by kernel_rfl
  go_enter Tryd.func18, Tryd.ntmps18
  go_wp2_with fail
  go_loopw [9] (fun i wr => SoonL w (cr o0 s0 q0) (cr o1 s1 q1) (cr o1 s1 q1) i wr) (fun i _ => (3 - intOf i).toNat)
  case atStart => exact .inl ⟨rfl, by (repeat' (first | (with_reducible refine BlkP.Blk.drew ?_) | (with_reducible refine BlkP.Blk.drewN ?_ _) | (with_reducible refine BlkP.Blk.setAt (us := ?_) (by first | omega | (simp; done) | (simp; omega)) rfl ?_ ?_) | (with_reducible refine BlkP.Blk.otherAt ?_ (by first | omega | (simp; done) | (simp; omega))) | (with_reducible refine BlkP.Blk.newA' (by first | omega | (simp; done) | (simp; omega)) rfl) | (with_reducible refine BlkP.Blk.alloc ?_ _) | (exact rfl))), by (repeat' (first | (with_reducible refine BlkP.Blk.drew ?_) | (with_reducible refine BlkP.Blk.drewN ?_ _) | (with_reducible refine BlkP.Blk.setAt (us := ?_) (by first | omega | (simp; done) | (simp; omega)) rfl ?_ ?_) | (with_reducible refine BlkP.Blk.otherAt ?_ (by first | omega | (simp; done) | (simp; omega))) | (with_reducible refine BlkP.Blk.newA' (by first | omega | (simp; done) | (simp; omega)) rfl) | (with_reducible refine BlkP.Blk.alloc ?_ _) | (exact rfl))), by (repeat' (first | (with_reducible exact Below.refl _ _) | (with_reducible refine Below.setCell ?_ (by (first | omega | (simp; done) | (simp; omega))) _) | (with_reducible refine Below.alloc ?_ (by (first | omega | (simp; done) | (simp; omega))) _) | (with_reducible refine Below.drew ?_) | (with_reducible refine below_drewN ?_ _)))⟩
  case round =>
    rcases hrel with ⟨rfl, hR⟩ | ⟨rfl, hR⟩ | ⟨rfl, hR⟩ | ⟨rfl, hR⟩
    · obtain ⟨hB1, hB2, hbl⟩ := hR
      have c0 := hB2.cell (i := 0) (v := .int .i64 o0) rfl
      have c1 := hB2.cell (i := 1) (v := .int .i64 s0) rfl
      have c2 := hB2.cell (i := 2) (v := .int .i64 q0) rfl
      have hz := hB2.lt
      have HB1 := Lib.hid hB1
      have HB2 := Lib.hid hB2
      have HBL := Lib.hid hbl
      clear hB1 hB2 hbl
      go_wp2_with fail
      have hB1 := HB1.out
      have hB2 := HB2.out
      have hbl := HBL.out
      go_roundw
      case rel => exact .inr (.inl ⟨rfl, by (repeat' (first | (with_reducible exact hB1) | (with_reducible refine BlkP.Blk.drew ?_) | (with_reducible refine BlkP.Blk.drewN ?_ _) | (with_reducible refine BlkP.Blk.setAt (us := ?_) (by first | omega | (simp; done) | (simp; omega)) rfl ?_ ?_) | (with_reducible refine BlkP.Blk.otherAt ?_ (by first | omega | (simp; done) | (simp; omega))) | (with_reducible refine BlkP.Blk.newA' (by first | omega | (simp; done) | (simp; omega)) rfl) | (with_reducible refine BlkP.Blk.alloc ?_ _) | (exact rfl))), by (repeat' (first | (with_reducible exact hB2) | (with_reducible refine BlkP.Blk.drew ?_) | (with_reducible refine BlkP.Blk.drewN ?_ _) | (with_reducible refine BlkP.Blk.setAt (us := ?_) (by first | omega | (simp; done) | (simp; omega)) rfl ?_ ?_) | (with_reducible refine BlkP.Blk.otherAt ?_ (by first | omega | (simp; done) | (simp; omega))) | (with_reducible refine BlkP.Blk.newA' (by first | omega | (simp; done) | (simp; omega)) rfl) | (with_reducible refine BlkP.Blk.alloc ?_ _) | (exact rfl))), by (repeat' (first | (with_reducible exact Below.refl _ _) | (with_reducible refine Below.setCell ?_ (by (first | omega | (simp; done) | (simp; omega))) _) | (with_reducible refine Below.alloc ?_ (by (first | omega | (simp; done) | (simp; omega))) _) | (with_reducible refine Below.drew ?_) | (with_reducible refine below_drewN ?_ _) | (with_reducible refine Below.trans ?_ (Below.mono hbl (by (first | omega | (simp; done) | (simp; omega)))))))⟩)
      case measure => simp [intOf]
    · obtain ⟨hB1, hB2, hbl⟩ := hR
      have c0 := hB2.cell (i := 0) (v := .int .i64 o0) rfl
      have c1 := hB2.cell (i := 1) (v := .int .i64 s0) rfl
      have c2 := hB2.cell (i := 2) (v := .int .i64 q0) rfl
      have hz := hB2.lt
      have f0 := hB2.frozen 0
      have f1 := hB2.frozen 1
      have f2 := hB2.frozen 2
      have HB1 := Lib.hid hB1
      have HB2 := Lib.hid hB2
      have HBL := Lib.hid hbl
      clear hB1 hB2 hbl
      go_wp2_with fail
      have hB1 := HB1.out
      have hB2 := HB2.out
      have hbl := HBL.out
      go_roundw
      case rel => exact .inr (.inr (.inl ⟨rfl, by (repeat' (first | (with_reducible exact hB1) | (with_reducible refine BlkP.Blk.drew ?_) | (with_reducible refine BlkP.Blk.drewN ?_ _) | (with_reducible refine BlkP.Blk.setAt (us := ?_) (by first | omega | (simp; done) | (simp; omega)) rfl ?_ ?_) | (with_reducible refine BlkP.Blk.otherAt ?_ (by first | omega | (simp; done) | (simp; omega))) | (with_reducible refine BlkP.Blk.newA' (by first | omega | (simp; done) | (simp; omega)) rfl) | (with_reducible refine BlkP.Blk.alloc ?_ _) | (exact rfl))), by (repeat' (first | (with_reducible exact hB2) | (with_reducible refine BlkP.Blk.drew ?_) | (with_reducible refine BlkP.Blk.drewN ?_ _) | (with_reducible refine BlkP.Blk.setAt (us := ?_) (by first | omega | (simp; done) | (simp; omega)) rfl ?_ ?_) | (with_reducible refine BlkP.Blk.otherAt ?_ (by first | omega | (simp; done) | (simp; omega))) | (with_reducible refine BlkP.Blk.newA' (by first | omega | (simp; done) | (simp; omega)) rfl) | (with_reducible refine BlkP.Blk.alloc ?_ _) | (exact rfl))), by (repeat' (first | (with_reducible exact Below.refl _ _) | (with_reducible refine Below.setCell ?_ (by (first | omega | (simp; done) | (simp; omega))) _) | (with_reducible refine Below.alloc ?_ (by (first | omega | (simp; done) | (simp; omega))) _) | (with_reducible refine Below.drew ?_) | (with_reducible refine below_drewN ?_ _) | (with_reducible refine Below.trans ?_ (Below.mono hbl (by (first | omega | (simp; done) | (simp; omega)))))))⟩))
      case measure => simp [intOf]
    · obtain ⟨hB1, hB2, hbl⟩ := hR
      have c0 := hB2.cell (i := 0) (v := .int .i64 o1) rfl
      have c1 := hB2.cell (i := 1) (v := .int .i64 s1) rfl
      have c2 := hB2.cell (i := 2) (v := .int .i64 q1) rfl
      have hz := hB2.lt
      have HB1 := Lib.hid hB1
      have HB2 := Lib.hid hB2
      have HBL := Lib.hid hbl
      clear hB1 hB2 hbl
      go_wp2_with fail
      have hB1 := HB1.out
      have hB2 := HB2.out
      have hbl := HBL.out
      go_roundw
      case rel => exact .inr (.inr (.inr ⟨rfl, by (repeat' (first | (with_reducible exact hB1) | (with_reducible refine BlkP.Blk.drew ?_) | (with_reducible refine BlkP.Blk.drewN ?_ _) | (with_reducible refine BlkP.Blk.setAt (us := ?_) (by first | omega | (simp; done) | (simp; omega)) rfl ?_ ?_) | (with_reducible refine BlkP.Blk.otherAt ?_ (by first | omega | (simp; done) | (simp; omega))) | (with_reducible refine BlkP.Blk.newA' (by first | omega | (simp; done) | (simp; omega)) rfl) | (with_reducible refine BlkP.Blk.alloc ?_ _) | (exact rfl))), by (repeat' (first | (with_reducible exact hB2) | (with_reducible refine BlkP.Blk.drew ?_) | (with_reducible refine BlkP.Blk.drewN ?_ _) | (with_reducible refine BlkP.Blk.setAt (us := ?_) (by first | omega | (simp; done) | (simp; omega)) rfl ?_ ?_) | (with_reducible refine BlkP.Blk.otherAt ?_ (by first | omega | (simp; done) | (simp; omega))) | (with_reducible refine BlkP.Blk.newA' (by first | omega | (simp; done) | (simp; omega)) rfl) | (with_reducible refine BlkP.Blk.alloc ?_ _) | (exact rfl))), by (repeat' (first | (with_reducible exact Below.refl _ _) | (with_reducible refine Below.setCell ?_ (by (first | omega | (simp; done) | (simp; omega))) _) | (with_reducible refine Below.alloc ?_ (by (first | omega | (simp; done) | (simp; omega))) _) | (with_reducible refine Below.drew ?_) | (with_reducible refine below_drewN ?_ _) | (with_reducible refine Below.trans ?_ (Below.mono hbl (by (first | omega | (simp; done) | (simp; omega)))))))⟩))
      case measure => simp [intOf]
    · obtain ⟨hB1, hB2, hbl⟩ := hR
      have c0 := hB2.cell (i := 0) (v := .int .i64 o1) rfl
      have c1 := hB2.cell (i := 1) (v := .int .i64 s1) rfl
      have c2 := hB2.cell (i := 2) (v := .int .i64 q1) rfl
      have d0 := hB1.cell (i := 0) (v := .int .i64 0) rfl
      have d1 := hB1.cell (i := 1) (v := .int .i64 0) rfl
      have d2 := hB1.cell (i := 2) (v := .int .i64 0) rfl
      have f0 := hB1.frozen 0
      have f1 := hB1.frozen 1
      have f2 := hB1.frozen 2
      have hz := hB2.lt
      have HBL := Lib.hid hbl
      have HB1 := Lib.hid hB1
      clear hB1 hB2 hbl
      go_wp2_with fail
      have hbl := HBL.out
      refine HeldP.bp_named (fun W => Blk W (w.heap.size + 1) 42 [.int .i64 o1, .int .i64 s1, .int .i64 q1] ∧ Below w.heap.size w W) ⟨by have hB1 := HB1.out; (repeat' (first | (with_reducible exact hB1) | (with_reducible refine BlkP.Blk.drew ?_) | (with_reducible refine BlkP.Blk.drewN ?_ _) | (with_reducible refine BlkP.Blk.setAt (us := ?_) (by first | omega | (simp; done) | (simp; omega)) rfl ?_ ?_) | (with_reducible refine BlkP.Blk.otherAt ?_ (by first | omega | (simp; done) | (simp; omega))) | (with_reducible refine BlkP.Blk.newA' (by first | omega | (simp; done) | (simp; omega)) rfl) | (with_reducible refine BlkP.Blk.alloc ?_ _) | (exact rfl))), by (repeat' (first | (with_reducible exact Below.refl _ _) | (with_reducible refine Below.setCell ?_ (by (first | omega | (simp; done) | (simp; omega))) _) | (with_reducible refine Below.alloc ?_ (by (first | omega | (simp; done) | (simp; omega))) _) | (with_reducible refine Below.drew ?_) | (with_reducible refine below_drewN ?_ _) | (with_reducible refine Below.trans ?_ (Below.mono hbl (by (first | omega | (simp; done) | (simp; omega)))))))⟩ ?_
      rintro W ⟨hW, hbW⟩
      have c0 := hW.cell (i := 0) (v := .int .i64 o1) rfl
      have c1 := hW.cell (i := 1) (v := .int .i64 s1) rfl
      have c2 := hW.cell (i := 2) (v := .int .i64 q1) rfl
      refine bodyPost_ret (v := .agg #[.int .i64 o1, .int .i64 s1, .int .i64 q1]) (by simp [results, Tryd.results18, go_sem, c0, c1, c2]) rfl ?_
      exact ⟨rfl, hbW⟩
set_option maxHeartbeats 2000000 in
theorem soonest_12 {o0 s0 q0 o1 s1 q1 o2 s2 q2 : Int} (p00 : 0 ≤ o0 * s0) (p00' : o0 * s0 ≤ 100000000) (p01 : 0 ≤ o0 * s1) (p01' : o0 * s1 ≤ 100000000) (p02 : 0 ≤ o0 * s2) (p02' : o0 * s2 ≤ 100000000)
    (p10 : 0 ≤ o1 * s0) (p10' : o1 * s0 ≤ 100000000) (p12 : 0 ≤ o1 * s2) (p12' : o1 * s2 ≤ 100000000) (p20 : 0 ≤ o2 * s0) (p20' : o2 * s0 ≤ 100000000) (p21 : 0 ≤ o2 * s1) (p21' : o2 * s1 ≤ 100000000)
    (h1 : o1 * s0 < o0 * s1) (h2 : o2 * s1 < o1 * s2) (w : World) :
    Calls Tryd.prog 18 #[.agg #[.int .i64 o0, .int .i64 s0, .int .i64 q0, .int .i64 o1, .int .i64 s1, .int .i64 q1, .int .i64 o2, .int .i64 s2, .int .i64 q2]] w fun e w' => e = .returned (.agg #[.int .i64 o2, .int .i64 s2, .int .i64 q2]) ∧ Below w.heap.size w w' := by
  have i0 : ∀ w, (Instr.index 43 (.agg #[.int .i64 o0, .int .i64 s0, .int .i64 q0, .int .i64 o1, .int .i64 s1, .int .i64 q1, .int .i64 o2, .int .i64 s2, .int .i64 q2]) (.int .i64 0)).run Tryd.prog w = .ok (.agg #[.int .i64 o0, .int .i64 s0, .int .i64 q0]) w := fun _ => by kernel_rfl
  have i1 : ∀ w, (Instr.index 43 (.agg #[.int .i64 o0, .int .i64 s0, .int .i64 q0, .int .i64 o1, .int .i64 s1, .int .i64 q1, .int .i64 o2, .int .i64 s2, .int .i64 q2]) (.int .i64 1)).run Tryd.prog w = .ok (.agg #[.int .i64 o1, .int .i64 s1, .int .i64 q1]) w := fun _ => by kernel_rfl
  have i2 : ∀ w, (Instr.index 43 (.agg #[.int .i64 o0, .int .i64 s0, .int .i64 q0, .int .i64 o1, .int .i64 s1, .int .i64 q1, .int .i64 o2, .int .i64 s2, .int .i64 q2]) (.int .i64 2)).run Tryd.prog w = .ok (.agg #[.int .i64 o2, .int .i64 s2, .int .i64 q2]) w := fun _ => by kernel_rfl
  go_enter Tryd.func18, Tryd.ntmps18
  go_wp2_with fail
  go_loopw [9] (fun i wr => SoonL w (cr o0 s0 q0) (cr o1 s1 q1) (cr o2 s2 q2) i wr) (fun i _ => (3 - intOf i).toNat)
  case atStart => exact .inl ⟨rfl, by (repeat' (first | (with_reducible refine BlkP.Blk.drew ?_) | (with_reducible refine BlkP.Blk.drewN ?_ _) | (with_reducible refine BlkP.Blk.setAt (us := ?_) (by first | omega | (simp; done) | (simp; omega)) rfl ?_ ?_) | (with_reducible refine BlkP.Blk.otherAt ?_ (by first | omega | (simp; done) | (simp; omega))) | (with_reducible refine BlkP.Blk.newA' (by first | omega | (simp; done) | (simp; omega)) rfl) | (with_reducible refine BlkP.Blk.alloc ?_ _) | (exact rfl))), by (repeat' (first | (with_reducible refine BlkP.Blk.drew ?_) | (with_reducible refine BlkP.Blk.drewN ?_ _) | (with_reducible refine BlkP.Blk.setAt (us := ?_) (by first | omega | (simp; done) | (simp; omega)) rfl ?_ ?_) | (with_reducible refine BlkP.Blk.otherAt ?_ (by first | omega | (simp; done) | (simp; omega))) | (with_reducible refine BlkP.Blk.newA' (by first | omega | (simp; done) | (simp; omega)) rfl) | (with_reducible refine BlkP.Blk.alloc ?_ _) | (exact rfl))), by (repeat' (first | (with_reducible exact Below.refl _ _) | (with_reducible refine Below.setCell ?_ (by (first | omega | (simp; done) | (simp; omega))) _) | (with_reducible refine Below.alloc ?_ (by (first | omega | (simp; done) | (simp; omega))) _) | (with_reducible refine Below.drew ?_) | (with_reducible refine below_drewN ?_ _)))⟩
  case round =>
    rcases hrel with ⟨rfl, hR⟩ | ⟨rfl, hR⟩ | ⟨rfl, hR⟩ | ⟨rfl, hR⟩
    · obtain ⟨hB1, hB2, hbl⟩ := hR
      have c0 := hB2.cell (i := 0) (v := .int .i64 o0) rfl
      have c1 := hB2.cell (i := 1) (v := .int .i64 s0) rfl
      have c2 := hB2.cell (i := 2) (v := .int .i64 q0) rfl
      have hz := hB2.lt
      have HB1 := Lib.hid hB1
      have HB2 := Lib.hid hB2
      have HBL := Lib.hid hbl
      clear hB1 hB2 hbl
      go_wp2_with fail
      have hB1 := HB1.out
      have hB2 := HB2.out
      have hbl := HBL.out
      go_roundw
      case rel => exact .inr (.inl ⟨rfl, by (repeat' (first | (with_reducible exact hB1) | (with_reducible refine BlkP.Blk.drew ?_) | (with_reducible refine BlkP.Blk.drewN ?_ _) | (with_reducible refine BlkP.Blk.setAt (us := ?_) (by first | omega | (simp; done) | (simp; omega)) rfl ?_ ?_) | (with_reducible refine BlkP.Blk.otherAt ?_ (by first | omega | (simp; done) | (simp; omega))) | (with_reducible refine BlkP.Blk.newA' (by first | omega | (simp; done) | (simp; omega)) rfl) | (with_reducible refine BlkP.Blk.alloc ?_ _) | (exact rfl))), by (repeat' (first | (with_reducible exact hB2) | (with_reducible refine BlkP.Blk.drew ?_) | (with_reducible refine BlkP.Blk.drewN ?_ _) | (with_reducible refine BlkP.Blk.setAt (us := ?_) (by first | omega | (simp; done) | (simp; omega)) rfl ?_ ?_) | (with_reducible refine BlkP.Blk.otherAt ?_ (by first | omega | (simp; done) | (simp; omega))) | (with_reducible refine BlkP.Blk.newA' (by first | omega | (simp; done) | (simp; omega)) rfl) | (with_reducible refine BlkP.Blk.alloc ?_ _) | (exact rfl))), by (repeat' (first | (with_reducible exact Below.refl _ _) | (with_reducible refine Below.setCell ?_ (by (first | omega | (simp; done) | (simp; omega))) _) | (with_reducible refine Below.alloc ?_ (by (first | omega | (simp; done) | (simp; omega))) _) | (with_reducible refine Below.drew ?_) | (with_reducible refine below_drewN ?_ _) | (with_reducible refine Below.trans ?_ (Below.mono hbl (by (first | omega | (simp; done) | (simp; omega)))))))⟩)
      case measure => simp [intOf]
    · obtain ⟨hB1, hB2, hbl⟩ := hR
      have c0 := hB2.cell (i := 0) (v := .int .i64 o0) rfl
      have c1 := hB2.cell (i := 1) (v := .int .i64 s0) rfl
      have c2 := hB2.cell (i := 2) (v := .int .i64 q0) rfl
      have hz := hB2.lt
      have f0 := hB2.frozen 0
      have f1 := hB2.frozen 1
      have f2 := hB2.frozen 2
      have HB1 := Lib.hid hB1
      have HB2 := Lib.hid hB2
      have HBL := Lib.hid hbl
      clear hB1 hB2 hbl
      go_wp2_with fail
      have hB1 := HB1.out
      have hB2 := HB2.out
      have hbl := HBL.out
      go_roundw
      case rel => exact .inr (.inr (.inl ⟨rfl, by (repeat' (first | (with_reducible exact hB1) | (with_reducible refine BlkP.Blk.drew ?_) | (with_reducible refine BlkP.Blk.drewN ?_ _) | (with_reducible refine BlkP.Blk.setAt (us := ?_) (by first | omega | (simp; done) | (simp; omega)) rfl ?_ ?_) | (with_reducible refine BlkP.Blk.otherAt ?_ (by first | omega | (simp; done) | (simp; omega))) | (with_reducible refine BlkP.Blk.newA' (by first | omega | (simp; done) | (simp; omega)) rfl) | (with_reducible refine BlkP.Blk.alloc ?_ _) | (exact rfl))), by (repeat' (first | (with_reducible exact hB2) | (with_reducible refine BlkP.Blk.drew ?_) | (with_reducible refine BlkP.Blk.drewN ?_ _) | (with_reducible refine BlkP.Blk.setAt (us := ?_) (by first | omega | (simp; done) | (simp; omega)) rfl ?_ ?_) | (with_reducible refine BlkP.Blk.otherAt ?_ (by first | omega | (simp; done) | (simp; omega))) | (with_reducible refine BlkP.Blk.newA' (by first | omega | (simp; done) | (simp; omega)) rfl) | (with_reducible refine BlkP.Blk.alloc ?_ _) | (exact rfl))), by (repeat' (first | (with_reducible exact Below.refl _ _) | (with_reducible refine Below.setCell ?_ (by (first | omega | (simp; done) | (simp; omega))) _) | (with_reducible refine Below.alloc ?_ (by (first | omega | (simp; done) | (simp; omega))) _) | (with_reducible refine Below.drew ?_) | (with_reducible refine below_drewN ?_ _) | (with_reducible refine Below.trans ?_ (Below.mono hbl (by (first | omega | (simp; done) | (simp; omega)))))))⟩))
      case measure => simp [intOf]
    · obtain ⟨hB1, hB2, hbl⟩ := hR
      have c0 := hB2.cell (i := 0) (v := .int .i64 o1) rfl
      have c1 := hB2.cell (i := 1) (v := .int .i64 s1) rfl
      have c2 := hB2.cell (i := 2) (v := .int .i64 q1) rfl
      have hz := hB2.lt
      have f0 := hB2.frozen 0
      have f1 := hB2.frozen 1
      have f2 := hB2.frozen 2
      have HB1 := Lib.hid hB1
      have HB2 := Lib.hid hB2
      have HBL := Lib.hid hbl
      clear hB1 hB2 hbl
      go_wp2_with fail
      have hB1 := HB1.out
      have hB2 := HB2.out
      have hbl := HBL.out
      go_roundw
      case rel => exact .inr (.inr (.inr ⟨rfl, by (repeat' (first | (with_reducible exact hB1) | (with_reducible refine BlkP.Blk.drew ?_) | (with_reducible refine BlkP.Blk.drewN ?_ _) | (with_reducible refine BlkP.Blk.setAt (us := ?_) (by first | omega | (simp; done) | (simp; omega)) rfl ?_ ?_) | (with_reducible refine BlkP.Blk.otherAt ?_ (by first | omega | (simp; done) | (simp; omega))) | (with_reducible refine BlkP.Blk.newA' (by first | omega | (simp; done) | (simp; omega)) rfl) | (with_reducible refine BlkP.Blk.alloc ?_ _) | (exact rfl))), by (repeat' (first | (with_reducible exact hB2) | (with_reducible refine BlkP.Blk.drew ?_) | (with_reducible refine BlkP.Blk.drewN ?_ _) | (with_reducible refine BlkP.Blk.setAt (us := ?_) (by first | omega | (simp; done) | (simp; omega)) rfl ?_ ?_) | (with_reducible refine BlkP.Blk.otherAt ?_ (by first | omega | (simp; done) | (simp; omega))) | (with_reducible refine BlkP.Blk.newA' (by first | omega | (simp; done) | (simp; omega)) rfl) | (with_reducible refine BlkP.Blk.alloc ?_ _) | (exact rfl))), by (repeat' (first | (with_reducible exact Below.refl _ _) | (with_reducible refine Below.setCell ?_ (by (first | omega | (simp; done) | (simp; omega))) _) | (with_reducible refine Below.alloc ?_ (by (first | omega | (simp; done) | (simp; omega))) _) | (with_reducible refine Below.drew ?_) | (with_reducible refine below_drewN ?_ _) | (with_reducible refine Below.trans ?_ (Below.mono hbl (by (first | omega | (simp; done) | (simp; omega)))))))⟩))
      case measure => simp [intOf]
    · obtain ⟨hB1, hB2, hbl⟩ := hR
      have c0 := hB2.cell (i := 0) (v := .int .i64 o2) rfl
      have c1 := hB2.cell (i := 1) (v := .int .i64 s2) rfl
      have c2 := hB2.cell (i := 2) (v := .int .i64 q2) rfl
      have d0 := hB1.cell (i := 0) (v := .int .i64 0) rfl
      have d1 := hB1.cell (i := 1) (v := .int .i64 0) rfl
      have d2 := hB1.cell (i := 2) (v := .int .i64 0) rfl
      have f0 := hB1.frozen 0
      have f1 := hB1.frozen 1
      have f2 := hB1.frozen 2
      have hz := hB2.lt
      have HBL := Lib.hid hbl
      have HB1 := Lib.hid hB1
      clear hB1 hB2 hbl
      go_wp2_with fail
      have hbl := HBL.out
      refine HeldP.bp_named (fun W => Blk W (w.heap.size + 1) 42 [.int .i64 o2, .int .i64 s2, .int .i64 q2] ∧ Below w.heap.size w W) ⟨by have hB1 := HB1.out; (repeat' (first | (with_reducible exact hB1) | (with_reducible refine BlkP.Blk.drew ?_) | (with_reducible refine BlkP.Blk.drewN ?_ _) | (with_reducible refine BlkP.Blk.setAt (us := ?_) (by first | omega | (simp; done) | (simp; omega)) rfl ?_ ?_) | (with_reducible refine BlkP.Blk.otherAt ?_ (by first | omega | (simp; done) | (simp; omega))) | (with_reducible refine BlkP.Blk.newA' (by first | omega | (simp; done) | (simp; omega)) rfl) | (with_reducible refine BlkP.Blk.alloc ?_ _) | (exact rfl))), by (repeat' (first | (with_reducible exact Below.refl _ _) | (with_reducible refine Below.setCell ?_ (by (first | omega | (simp; done) | (simp; omega))) _) | (with_reducible refine Below.alloc ?_ (by (first | omega | (simp; done) | (simp; omega))) _) | (with_reducible refine Below.drew ?_) | (with_reducible refine below_drewN ?_ _) | (with_reducible refine Below.trans ?_ (Below.mono hbl (by (first | omega | (simp; done) | (simp; omega)))))))⟩ ?_
      rintro W ⟨hW, hbW⟩
      have c0 := hW.cell (i := 0) (v := .int .i64 o2) rfl
      have c1 := hW.cell (i := 1) (v := .int .i64 s2) rfl
      have c2 := hW.cell (i := 2) (v := .int .i64 q2) rfl
      refine bodyPost_ret (v := .agg #[.int .i64 o2, .int .i64 s2, .int .i64 q2]) (by simp [results, Tryd.results18, go_sem, c0, c1, c2]) rfl ?_
      exact ⟨rfl, hbW⟩
end RayP
end Go.Proofs.YtcmndfjoaoinjaaDoor
