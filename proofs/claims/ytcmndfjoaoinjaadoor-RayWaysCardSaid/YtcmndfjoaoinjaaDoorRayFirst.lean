/-
  The walk of firsts: the first crossing of each axis; the table of the axes.
-/
import Derived.Test.YtcmndfjoaoinjaaDoorRayWalks
import Derived.Test.YtcmndfjoaoinjaaDoorRaySoon
import Derived.RegionTactic
import Derived.ChangeAlike
import Derived.BigRegion
import Derived.Outline
namespace Go.Proofs.YtcmndfjoaoinjaaDoor
open Go.RowKit
set_option linter.unusedVariables false
set_option linter.unusedSimpArgs false
namespace RayP
open PlaceW BlkP

/-- The three axes, as the program lists them. -/
def axL : List Int := [0, 0, 1, 2, 2, 3, 1, 4, 5]
structure ATab (w : World) : Prop where
  cell : ∀ k v, axL[k]? = some v → w.cell? ⟨0, k, none⟩ = some (.int .i64 v)
  size : 0 < w.heap.size
theorem ATab.below {w w' : World} (h : ATab w) (b : Below w.heap.size w w') : ATab w' :=
  ⟨fun k v hk => (b.cell (p := ⟨0, k, none⟩) h.size).trans (h.cell k v hk), Nat.lt_of_lt_of_le h.size b.size⟩
/-- What lies in the boxes of firsts' call. -/
def FirstR (w wr : World) (x y z : Int) (v : List Value) : Prop := Blk wr w.heap.size 24 [.int .i64 x, .int .i64 y, .int .i64 z] ∧ Blk wr (w.heap.size + 1) 43 [.int .i64 0, .int .i64 0, .int .i64 0, .int .i64 0, .int .i64 0, .int .i64 0, .int .i64 0, .int .i64 0, .int .i64 0] ∧ Blk wr (w.heap.size + 2) 43 v ∧ Below w.heap.size w wr
def FirstL (w : World) (x y z : Int) (v0 v1 v2 v3 : List Value) (i : Value) (wr : World) : Prop := (i = .int .i64 0 ∧ FirstR w wr x y z v0) ∨ (i = .int .i64 1 ∧ FirstR w wr x y z v1) ∨ (i = .int .i64 2 ∧ FirstR w wr x y z v2) ∨ (i = .int .i64 3 ∧ FirstR w wr x y z v3)
set_option maxHeartbeats 4000000 in
theorem firsts_c {x y z Sx Sy Sz Dx Dy Dz : Int} {w : World} (hT : ATab w) (bx : -1000 ≤ x ∧ x ≤ 1000) (by_ : -1000 ≤ y ∧ y ≤ 1000) (bz : -1000 ≤ z ∧ z ≤ 1000)
    (hx : (0 ≤ x ∧ Sx = x ∧ Dx = 0) ∨ (x < 0 ∧ Sx = -x ∧ Dx = 1)) (hz : (0 ≤ z ∧ Sz = z ∧ Dz = 2) ∨ (z < 0 ∧ Sz = -z ∧ Dz = 3)) (hy : (0 ≤ y ∧ Sy = y ∧ Dy = 4) ∨ (y < 0 ∧ Sy = -y ∧ Dy = 5)) :
    Calls Tryd.prog 17 #[.agg #[.int .i64 x, .int .i64 y, .int .i64 z]] w fun e w' => e = .returned (.agg #[.int .i64 1, .int .i64 Sx, .int .i64 Dx, .int .i64 1, .int .i64 Sz, .int .i64 Dz, .int .i64 1, .int .i64 Sy, .int .i64 Dy]) ∧ Below w.heap.size w w' := by
  have i0 : ∀ w, (Instr.index 58 (.agg #[.int .i64 0, .int .i64 0, .int .i64 1, .int .i64 2, .int .i64 2, .int .i64 3, .int .i64 1, .int .i64 4, .int .i64 5]) (.int .i64 0)).run Tryd.prog w = .ok (.agg #[.int .i64 0, .int .i64 0, .int .i64 1]) w := fun _ => by kernel_rfl
  have i1 : ∀ w, (Instr.index 58 (.agg #[.int .i64 0, .int .i64 0, .int .i64 1, .int .i64 2, .int .i64 2, .int .i64 3, .int .i64 1, .int .i64 4, .int .i64 5]) (.int .i64 1)).run Tryd.prog w = .ok (.agg #[.int .i64 2, .int .i64 2, .int .i64 3]) w := fun _ => by kernel_rfl
  have i2 : ∀ w, (Instr.index 58 (.agg #[.int .i64 0, .int .i64 0, .int .i64 1, .int .i64 2, .int .i64 2, .int .i64 3, .int .i64 1, .int .i64 4, .int .i64 5]) (.int .i64 2)).run Tryd.prog w = .ok (.agg #[.int .i64 1, .int .i64 4, .int .i64 5]) w := fun _ => by kernel_rfl
  have g0 := hT.cell 0 0 rfl
  have g1 := hT.cell 1 0 rfl
  have g2 := hT.cell 2 1 rfl
  have g3 := hT.cell 3 2 rfl
  have g4 := hT.cell 4 2 rfl
  have g5 := hT.cell 5 3 rfl
  have g6 := hT.cell 6 1 rfl
  have g7 := hT.cell 7 4 rfl
  have g8 := hT.cell 8 5 rfl
  have gs := hT.size
  have HX := Lib.hid hx
  have HY := Lib.hid hy
  have HZ := Lib.hid hz
  clear hT hx hy hz
  go_enter Tryd.func17, Tryd.ntmps17
  go_wp2_with fail
  go_loopw [7] (fun i wr => FirstL w x y z [.int .i64 0, .int .i64 0, .int .i64 0, .int .i64 0, .int .i64 0, .int .i64 0, .int .i64 0, .int .i64 0, .int .i64 0] [.int .i64 1, .int .i64 Sx, .int .i64 Dx, .int .i64 0, .int .i64 0, .int .i64 0, .int .i64 0, .int .i64 0, .int .i64 0] [.int .i64 1, .int .i64 Sx, .int .i64 Dx, .int .i64 1, .int .i64 Sz, .int .i64 Dz, .int .i64 0, .int .i64 0, .int .i64 0] [.int .i64 1, .int .i64 Sx, .int .i64 Dx, .int .i64 1, .int .i64 Sz, .int .i64 Dz, .int .i64 1, .int .i64 Sy, .int .i64 Dy] i wr) (fun i _ => (3 - intOf i).toNat)
  case atStart => exact .inl ⟨rfl, by (repeat' (first | (with_reducible refine BlkP.Blk.drew ?_) | (with_reducible refine BlkP.Blk.drewN ?_ _) | (with_reducible refine BlkP.Blk.setAt (us := ?_) (by first | omega | (simp; done) | (simp; omega)) rfl ?_ ?_) | (with_reducible refine BlkP.Blk.otherAt ?_ (by first | omega | (simp; done) | (simp; omega))) | (with_reducible refine BlkP.Blk.newA' (by first | omega | (simp; done) | (simp; omega)) rfl) | (with_reducible refine BlkP.Blk.alloc ?_ _) | (exact rfl))), by (repeat' (first | (with_reducible refine BlkP.Blk.drew ?_) | (with_reducible refine BlkP.Blk.drewN ?_ _) | (with_reducible refine BlkP.Blk.setAt (us := ?_) (by first | omega | (simp; done) | (simp; omega)) rfl ?_ ?_) | (with_reducible refine BlkP.Blk.otherAt ?_ (by first | omega | (simp; done) | (simp; omega))) | (with_reducible refine BlkP.Blk.newA' (by first | omega | (simp; done) | (simp; omega)) rfl) | (with_reducible refine BlkP.Blk.alloc ?_ _) | (exact rfl))), by (repeat' (first | (with_reducible refine BlkP.Blk.drew ?_) | (with_reducible refine BlkP.Blk.drewN ?_ _) | (with_reducible refine BlkP.Blk.setAt (us := ?_) (by first | omega | (simp; done) | (simp; omega)) rfl ?_ ?_) | (with_reducible refine BlkP.Blk.otherAt ?_ (by first | omega | (simp; done) | (simp; omega))) | (with_reducible refine BlkP.Blk.newA' (by first | omega | (simp; done) | (simp; omega)) rfl) | (with_reducible refine BlkP.Blk.alloc ?_ _) | (exact rfl))), by (repeat' (first | (with_reducible exact Below.refl _ _) | (with_reducible refine Below.setCell ?_ (by (first | omega | (simp; done) | (simp; omega))) _) | (with_reducible refine Below.alloc ?_ (by (first | omega | (simp; done) | (simp; omega))) _) | (with_reducible refine Below.drew ?_) | (with_reducible refine below_drewN ?_ _)))⟩
  case round =>
    rcases hrel with ⟨rfl, hR⟩ | ⟨rfl, hR⟩ | ⟨rfl, hR⟩ | ⟨rfl, hR⟩
    · obtain ⟨hB0, hB1, hB2, hbl⟩ := hR
      have c0 := hB2.cell (i := 0) (v := .int .i64 0) rfl
      have c1 := hB2.cell (i := 1) (v := .int .i64 0) rfl
      have c2 := hB2.cell (i := 2) (v := .int .i64 0) rfl
      have f0 := hB2.frozen 0
      have f1 := hB2.frozen 1
      have f2 := hB2.frozen 2
      have d0 := hB0.cell (i := 0) (v := .int .i64 x) rfl
      have hz := hB2.lt
      have hz0 := hB0.lt
      have HB0 := Lib.hid hB0
      have HB1 := Lib.hid hB1
      have HB2 := Lib.hid hB2
      have HBL := Lib.hid hbl
      clear hB0 hB1 hB2 hbl
      rcases HX.out with ⟨hs, hS, hD⟩ | ⟨hs, hS, hD⟩
      · have HS := Lib.hid hS
        have HD := Lib.hid hD
        clear hS hD
        go_wp2_with fail
        go_region
        go_wp2_with fail
        have hB0 := HB0.out
        have hB1 := HB1.out
        have hB2 := HB2.out
        have hbl := HBL.out
        go_roundw
        case rel => exact .inr (.inl ⟨rfl, by (repeat' (first | (with_reducible exact hB0) | (with_reducible refine BlkP.Blk.drew ?_) | (with_reducible refine BlkP.Blk.drewN ?_ _) | (with_reducible refine BlkP.Blk.setAt (us := ?_) (by first | omega | (simp; done) | (simp; omega)) rfl ?_ ?_) | (with_reducible refine BlkP.Blk.otherAt ?_ (by first | omega | (simp; done) | (simp; omega))) | (with_reducible refine BlkP.Blk.newA' (by first | omega | (simp; done) | (simp; omega)) rfl) | (with_reducible refine BlkP.Blk.alloc ?_ _) | (exact rfl))), by (repeat' (first | (with_reducible exact hB1) | (with_reducible refine BlkP.Blk.drew ?_) | (with_reducible refine BlkP.Blk.drewN ?_ _) | (with_reducible refine BlkP.Blk.setAt (us := ?_) (by first | omega | (simp; done) | (simp; omega)) rfl ?_ ?_) | (with_reducible refine BlkP.Blk.otherAt ?_ (by first | omega | (simp; done) | (simp; omega))) | (with_reducible refine BlkP.Blk.newA' (by first | omega | (simp; done) | (simp; omega)) rfl) | (with_reducible refine BlkP.Blk.alloc ?_ _) | (exact rfl))), by rw [HS.out, HD.out]; (repeat' (first | (with_reducible exact hB2) | (with_reducible refine BlkP.Blk.drew ?_) | (with_reducible refine BlkP.Blk.drewN ?_ _) | (with_reducible refine BlkP.Blk.setAt (us := ?_) (by first | omega | (simp; done) | (simp; omega)) rfl ?_ ?_) | (with_reducible refine BlkP.Blk.otherAt ?_ (by first | omega | (simp; done) | (simp; omega))) | (with_reducible refine BlkP.Blk.newA' (by first | omega | (simp; done) | (simp; omega)) rfl) | (with_reducible refine BlkP.Blk.alloc ?_ _) | (exact rfl))), by (repeat' (first | (with_reducible exact Below.refl _ _) | (with_reducible refine Below.setCell ?_ (by (first | omega | (simp; done) | (simp; omega))) _) | (with_reducible refine Below.alloc ?_ (by (first | omega | (simp; done) | (simp; omega))) _) | (with_reducible refine Below.drew ?_) | (with_reducible refine below_drewN ?_ _) | (with_reducible refine Below.trans ?_ (Below.mono hbl (by (first | omega | (simp; done) | (simp; omega)))))))⟩)
        case measure => simp [intOf]
      · have HS := Lib.hid hS
        have HD := Lib.hid hD
        clear hS hD
        go_wp2_with fail
        go_region
        go_wp2_with fail
        go_region
        go_wp2_with fail
        have hB0 := HB0.out
        have hB1 := HB1.out
        have hB2 := HB2.out
        have hbl := HBL.out
        go_roundw
        case rel => exact .inr (.inl ⟨rfl, by (repeat' (first | (with_reducible exact hB0) | (with_reducible refine BlkP.Blk.drew ?_) | (with_reducible refine BlkP.Blk.drewN ?_ _) | (with_reducible refine BlkP.Blk.setAt (us := ?_) (by first | omega | (simp; done) | (simp; omega)) rfl ?_ ?_) | (with_reducible refine BlkP.Blk.otherAt ?_ (by first | omega | (simp; done) | (simp; omega))) | (with_reducible refine BlkP.Blk.newA' (by first | omega | (simp; done) | (simp; omega)) rfl) | (with_reducible refine BlkP.Blk.alloc ?_ _) | (exact rfl))), by (repeat' (first | (with_reducible exact hB1) | (with_reducible refine BlkP.Blk.drew ?_) | (with_reducible refine BlkP.Blk.drewN ?_ _) | (with_reducible refine BlkP.Blk.setAt (us := ?_) (by first | omega | (simp; done) | (simp; omega)) rfl ?_ ?_) | (with_reducible refine BlkP.Blk.otherAt ?_ (by first | omega | (simp; done) | (simp; omega))) | (with_reducible refine BlkP.Blk.newA' (by first | omega | (simp; done) | (simp; omega)) rfl) | (with_reducible refine BlkP.Blk.alloc ?_ _) | (exact rfl))), by rw [HS.out, HD.out]; (repeat' (first | (with_reducible exact hB2) | (with_reducible refine BlkP.Blk.drew ?_) | (with_reducible refine BlkP.Blk.drewN ?_ _) | (with_reducible refine BlkP.Blk.setAt (us := ?_) (by first | omega | (simp; done) | (simp; omega)) rfl ?_ ?_) | (with_reducible refine BlkP.Blk.otherAt ?_ (by first | omega | (simp; done) | (simp; omega))) | (with_reducible refine BlkP.Blk.newA' (by first | omega | (simp; done) | (simp; omega)) rfl) | (with_reducible refine BlkP.Blk.alloc ?_ _) | (exact rfl))), by (repeat' (first | (with_reducible exact Below.refl _ _) | (with_reducible refine Below.setCell ?_ (by (first | omega | (simp; done) | (simp; omega))) _) | (with_reducible refine Below.alloc ?_ (by (first | omega | (simp; done) | (simp; omega))) _) | (with_reducible refine Below.drew ?_) | (with_reducible refine below_drewN ?_ _) | (with_reducible refine Below.trans ?_ (Below.mono hbl (by (first | omega | (simp; done) | (simp; omega)))))))⟩)
        case measure => simp [intOf]
    · obtain ⟨hB0, hB1, hB2, hbl⟩ := hR
      have c0 := hB2.cell (i := 3) (v := .int .i64 0) rfl
      have c1 := hB2.cell (i := 4) (v := .int .i64 0) rfl
      have c2 := hB2.cell (i := 5) (v := .int .i64 0) rfl
      have f0 := hB2.frozen 3
      have f1 := hB2.frozen 4
      have f2 := hB2.frozen 5
      have d0 := hB0.cell (i := 2) (v := .int .i64 z) rfl
      have hz := hB2.lt
      have hz0 := hB0.lt
      have HB0 := Lib.hid hB0
      have HB1 := Lib.hid hB1
      have HB2 := Lib.hid hB2
      have HBL := Lib.hid hbl
      clear hB0 hB1 hB2 hbl
      rcases HZ.out with ⟨hs, hS, hD⟩ | ⟨hs, hS, hD⟩
      · have HS := Lib.hid hS
        have HD := Lib.hid hD
        clear hS hD
        go_wp2_with fail
        go_region
        go_wp2_with fail
        have hB0 := HB0.out
        have hB1 := HB1.out
        have hB2 := HB2.out
        have hbl := HBL.out
        go_roundw
        case rel => exact .inr (.inr (.inl ⟨rfl, by (repeat' (first | (with_reducible exact hB0) | (with_reducible refine BlkP.Blk.drew ?_) | (with_reducible refine BlkP.Blk.drewN ?_ _) | (with_reducible refine BlkP.Blk.setAt (us := ?_) (by first | omega | (simp; done) | (simp; omega)) rfl ?_ ?_) | (with_reducible refine BlkP.Blk.otherAt ?_ (by first | omega | (simp; done) | (simp; omega))) | (with_reducible refine BlkP.Blk.newA' (by first | omega | (simp; done) | (simp; omega)) rfl) | (with_reducible refine BlkP.Blk.alloc ?_ _) | (exact rfl))), by (repeat' (first | (with_reducible exact hB1) | (with_reducible refine BlkP.Blk.drew ?_) | (with_reducible refine BlkP.Blk.drewN ?_ _) | (with_reducible refine BlkP.Blk.setAt (us := ?_) (by first | omega | (simp; done) | (simp; omega)) rfl ?_ ?_) | (with_reducible refine BlkP.Blk.otherAt ?_ (by first | omega | (simp; done) | (simp; omega))) | (with_reducible refine BlkP.Blk.newA' (by first | omega | (simp; done) | (simp; omega)) rfl) | (with_reducible refine BlkP.Blk.alloc ?_ _) | (exact rfl))), by rw [HS.out, HD.out]; (repeat' (first | (with_reducible exact hB2) | (with_reducible refine BlkP.Blk.drew ?_) | (with_reducible refine BlkP.Blk.drewN ?_ _) | (with_reducible refine BlkP.Blk.setAt (us := ?_) (by first | omega | (simp; done) | (simp; omega)) rfl ?_ ?_) | (with_reducible refine BlkP.Blk.otherAt ?_ (by first | omega | (simp; done) | (simp; omega))) | (with_reducible refine BlkP.Blk.newA' (by first | omega | (simp; done) | (simp; omega)) rfl) | (with_reducible refine BlkP.Blk.alloc ?_ _) | (exact rfl))), by (repeat' (first | (with_reducible exact Below.refl _ _) | (with_reducible refine Below.setCell ?_ (by (first | omega | (simp; done) | (simp; omega))) _) | (with_reducible refine Below.alloc ?_ (by (first | omega | (simp; done) | (simp; omega))) _) | (with_reducible refine Below.drew ?_) | (with_reducible refine below_drewN ?_ _) | (with_reducible refine Below.trans ?_ (Below.mono hbl (by (first | omega | (simp; done) | (simp; omega)))))))⟩))
        case measure => simp [intOf]
      · have HS := Lib.hid hS
        have HD := Lib.hid hD
        clear hS hD
        go_wp2_with fail
        go_region
        go_wp2_with fail
        go_region
        go_wp2_with fail
        have hB0 := HB0.out
        have hB1 := HB1.out
        have hB2 := HB2.out
        have hbl := HBL.out
        go_roundw
        case rel => exact .inr (.inr (.inl ⟨rfl, by (repeat' (first | (with_reducible exact hB0) | (with_reducible refine BlkP.Blk.drew ?_) | (with_reducible refine BlkP.Blk.drewN ?_ _) | (with_reducible refine BlkP.Blk.setAt (us := ?_) (by first | omega | (simp; done) | (simp; omega)) rfl ?_ ?_) | (with_reducible refine BlkP.Blk.otherAt ?_ (by first | omega | (simp; done) | (simp; omega))) | (with_reducible refine BlkP.Blk.newA' (by first | omega | (simp; done) | (simp; omega)) rfl) | (with_reducible refine BlkP.Blk.alloc ?_ _) | (exact rfl))), by (repeat' (first | (with_reducible exact hB1) | (with_reducible refine BlkP.Blk.drew ?_) | (with_reducible refine BlkP.Blk.drewN ?_ _) | (with_reducible refine BlkP.Blk.setAt (us := ?_) (by first | omega | (simp; done) | (simp; omega)) rfl ?_ ?_) | (with_reducible refine BlkP.Blk.otherAt ?_ (by first | omega | (simp; done) | (simp; omega))) | (with_reducible refine BlkP.Blk.newA' (by first | omega | (simp; done) | (simp; omega)) rfl) | (with_reducible refine BlkP.Blk.alloc ?_ _) | (exact rfl))), by rw [HS.out, HD.out]; (repeat' (first | (with_reducible exact hB2) | (with_reducible refine BlkP.Blk.drew ?_) | (with_reducible refine BlkP.Blk.drewN ?_ _) | (with_reducible refine BlkP.Blk.setAt (us := ?_) (by first | omega | (simp; done) | (simp; omega)) rfl ?_ ?_) | (with_reducible refine BlkP.Blk.otherAt ?_ (by first | omega | (simp; done) | (simp; omega))) | (with_reducible refine BlkP.Blk.newA' (by first | omega | (simp; done) | (simp; omega)) rfl) | (with_reducible refine BlkP.Blk.alloc ?_ _) | (exact rfl))), by (repeat' (first | (with_reducible exact Below.refl _ _) | (with_reducible refine Below.setCell ?_ (by (first | omega | (simp; done) | (simp; omega))) _) | (with_reducible refine Below.alloc ?_ (by (first | omega | (simp; done) | (simp; omega))) _) | (with_reducible refine Below.drew ?_) | (with_reducible refine below_drewN ?_ _) | (with_reducible refine Below.trans ?_ (Below.mono hbl (by (first | omega | (simp; done) | (simp; omega)))))))⟩))
        case measure => simp [intOf]
    · obtain ⟨hB0, hB1, hB2, hbl⟩ := hR
      have c0 := hB2.cell (i := 6) (v := .int .i64 0) rfl
      have c1 := hB2.cell (i := 7) (v := .int .i64 0) rfl
      have c2 := hB2.cell (i := 8) (v := .int .i64 0) rfl
      have f0 := hB2.frozen 6
      have f1 := hB2.frozen 7
      have f2 := hB2.frozen 8
      have d0 := hB0.cell (i := 1) (v := .int .i64 y) rfl
      have hz := hB2.lt
      have hz0 := hB0.lt
      have HB0 := Lib.hid hB0
      have HB1 := Lib.hid hB1
      have HB2 := Lib.hid hB2
      have HBL := Lib.hid hbl
      clear hB0 hB1 hB2 hbl
      rcases HY.out with ⟨hs, hS, hD⟩ | ⟨hs, hS, hD⟩
      · have HS := Lib.hid hS
        have HD := Lib.hid hD
        clear hS hD
        go_wp2_with fail
        go_region
        go_wp2_with fail
        have hB0 := HB0.out
        have hB1 := HB1.out
        have hB2 := HB2.out
        have hbl := HBL.out
        go_roundw
        case rel => exact .inr (.inr (.inr ⟨rfl, by (repeat' (first | (with_reducible exact hB0) | (with_reducible refine BlkP.Blk.drew ?_) | (with_reducible refine BlkP.Blk.drewN ?_ _) | (with_reducible refine BlkP.Blk.setAt (us := ?_) (by first | omega | (simp; done) | (simp; omega)) rfl ?_ ?_) | (with_reducible refine BlkP.Blk.otherAt ?_ (by first | omega | (simp; done) | (simp; omega))) | (with_reducible refine BlkP.Blk.newA' (by first | omega | (simp; done) | (simp; omega)) rfl) | (with_reducible refine BlkP.Blk.alloc ?_ _) | (exact rfl))), by (repeat' (first | (with_reducible exact hB1) | (with_reducible refine BlkP.Blk.drew ?_) | (with_reducible refine BlkP.Blk.drewN ?_ _) | (with_reducible refine BlkP.Blk.setAt (us := ?_) (by first | omega | (simp; done) | (simp; omega)) rfl ?_ ?_) | (with_reducible refine BlkP.Blk.otherAt ?_ (by first | omega | (simp; done) | (simp; omega))) | (with_reducible refine BlkP.Blk.newA' (by first | omega | (simp; done) | (simp; omega)) rfl) | (with_reducible refine BlkP.Blk.alloc ?_ _) | (exact rfl))), by rw [HS.out, HD.out]; (repeat' (first | (with_reducible exact hB2) | (with_reducible refine BlkP.Blk.drew ?_) | (with_reducible refine BlkP.Blk.drewN ?_ _) | (with_reducible refine BlkP.Blk.setAt (us := ?_) (by first | omega | (simp; done) | (simp; omega)) rfl ?_ ?_) | (with_reducible refine BlkP.Blk.otherAt ?_ (by first | omega | (simp; done) | (simp; omega))) | (with_reducible refine BlkP.Blk.newA' (by first | omega | (simp; done) | (simp; omega)) rfl) | (with_reducible refine BlkP.Blk.alloc ?_ _) | (exact rfl))), by (repeat' (first | (with_reducible exact Below.refl _ _) | (with_reducible refine Below.setCell ?_ (by (first | omega | (simp; done) | (simp; omega))) _) | (with_reducible refine Below.alloc ?_ (by (first | omega | (simp; done) | (simp; omega))) _) | (with_reducible refine Below.drew ?_) | (with_reducible refine below_drewN ?_ _) | (with_reducible refine Below.trans ?_ (Below.mono hbl (by (first | omega | (simp; done) | (simp; omega)))))))⟩))
        case measure => simp [intOf]
      · have HS := Lib.hid hS
        have HD := Lib.hid hD
        clear hS hD
        go_wp2_with fail
        go_region
        go_wp2_with fail
        go_region
        go_wp2_with fail
        have hB0 := HB0.out
        have hB1 := HB1.out
        have hB2 := HB2.out
        have hbl := HBL.out
        go_roundw
        case rel => exact .inr (.inr (.inr ⟨rfl, by (repeat' (first | (with_reducible exact hB0) | (with_reducible refine BlkP.Blk.drew ?_) | (with_reducible refine BlkP.Blk.drewN ?_ _) | (with_reducible refine BlkP.Blk.setAt (us := ?_) (by first | omega | (simp; done) | (simp; omega)) rfl ?_ ?_) | (with_reducible refine BlkP.Blk.otherAt ?_ (by first | omega | (simp; done) | (simp; omega))) | (with_reducible refine BlkP.Blk.newA' (by first | omega | (simp; done) | (simp; omega)) rfl) | (with_reducible refine BlkP.Blk.alloc ?_ _) | (exact rfl))), by (repeat' (first | (with_reducible exact hB1) | (with_reducible refine BlkP.Blk.drew ?_) | (with_reducible refine BlkP.Blk.drewN ?_ _) | (with_reducible refine BlkP.Blk.setAt (us := ?_) (by first | omega | (simp; done) | (simp; omega)) rfl ?_ ?_) | (with_reducible refine BlkP.Blk.otherAt ?_ (by first | omega | (simp; done) | (simp; omega))) | (with_reducible refine BlkP.Blk.newA' (by first | omega | (simp; done) | (simp; omega)) rfl) | (with_reducible refine BlkP.Blk.alloc ?_ _) | (exact rfl))), by rw [HS.out, HD.out]; (repeat' (first | (with_reducible exact hB2) | (with_reducible refine BlkP.Blk.drew ?_) | (with_reducible refine BlkP.Blk.drewN ?_ _) | (with_reducible refine BlkP.Blk.setAt (us := ?_) (by first | omega | (simp; done) | (simp; omega)) rfl ?_ ?_) | (with_reducible refine BlkP.Blk.otherAt ?_ (by first | omega | (simp; done) | (simp; omega))) | (with_reducible refine BlkP.Blk.newA' (by first | omega | (simp; done) | (simp; omega)) rfl) | (with_reducible refine BlkP.Blk.alloc ?_ _) | (exact rfl))), by (repeat' (first | (with_reducible exact Below.refl _ _) | (with_reducible refine Below.setCell ?_ (by (first | omega | (simp; done) | (simp; omega))) _) | (with_reducible refine Below.alloc ?_ (by (first | omega | (simp; done) | (simp; omega))) _) | (with_reducible refine Below.drew ?_) | (with_reducible refine below_drewN ?_ _) | (with_reducible refine Below.trans ?_ (Below.mono hbl (by (first | omega | (simp; done) | (simp; omega)))))))⟩))
        case measure => simp [intOf]
    · obtain ⟨hB0, hB1, hB2, hbl⟩ := hR
      have c0 := hB2.cell (i := 0) (v := .int .i64 1) rfl
      have d0 := hB1.cell (i := 0) (v := .int .i64 0) rfl
      have f0 := hB1.frozen 0
      have c1 := hB2.cell (i := 1) (v := .int .i64 Sx) rfl
      have d1 := hB1.cell (i := 1) (v := .int .i64 0) rfl
      have f1 := hB1.frozen 1
      have c2 := hB2.cell (i := 2) (v := .int .i64 Dx) rfl
      have d2 := hB1.cell (i := 2) (v := .int .i64 0) rfl
      have f2 := hB1.frozen 2
      have c3 := hB2.cell (i := 3) (v := .int .i64 1) rfl
      have d3 := hB1.cell (i := 3) (v := .int .i64 0) rfl
      have f3 := hB1.frozen 3
      have c4 := hB2.cell (i := 4) (v := .int .i64 Sz) rfl
      have d4 := hB1.cell (i := 4) (v := .int .i64 0) rfl
      have f4 := hB1.frozen 4
      have c5 := hB2.cell (i := 5) (v := .int .i64 Dz) rfl
      have d5 := hB1.cell (i := 5) (v := .int .i64 0) rfl
      have f5 := hB1.frozen 5
      have c6 := hB2.cell (i := 6) (v := .int .i64 1) rfl
      have d6 := hB1.cell (i := 6) (v := .int .i64 0) rfl
      have f6 := hB1.frozen 6
      have c7 := hB2.cell (i := 7) (v := .int .i64 Sy) rfl
      have d7 := hB1.cell (i := 7) (v := .int .i64 0) rfl
      have f7 := hB1.frozen 7
      have c8 := hB2.cell (i := 8) (v := .int .i64 Dy) rfl
      have d8 := hB1.cell (i := 8) (v := .int .i64 0) rfl
      have f8 := hB1.frozen 8
      have hz := hB2.lt
      have HBL := Lib.hid hbl
      have HB1 := Lib.hid hB1
      clear hB0 hB1 hB2 hbl
      go_wp2_with fail
      have hbl := HBL.out
      refine HeldP.bp_named (fun W => Blk W (w.heap.size + 1) 43 [.int .i64 1, .int .i64 Sx, .int .i64 Dx, .int .i64 1, .int .i64 Sz, .int .i64 Dz, .int .i64 1, .int .i64 Sy, .int .i64 Dy] ∧ Below w.heap.size w W) ⟨by have hB1 := HB1.out; (repeat' (first | (with_reducible exact hB1) | (with_reducible refine BlkP.Blk.drew ?_) | (with_reducible refine BlkP.Blk.drewN ?_ _) | (with_reducible refine BlkP.Blk.setAt (us := ?_) (by first | omega | (simp; done) | (simp; omega)) rfl ?_ ?_) | (with_reducible refine BlkP.Blk.otherAt ?_ (by first | omega | (simp; done) | (simp; omega))) | (with_reducible refine BlkP.Blk.newA' (by first | omega | (simp; done) | (simp; omega)) rfl) | (with_reducible refine BlkP.Blk.alloc ?_ _) | (exact rfl))), by (repeat' (first | (with_reducible exact Below.refl _ _) | (with_reducible refine Below.setCell ?_ (by (first | omega | (simp; done) | (simp; omega))) _) | (with_reducible refine Below.alloc ?_ (by (first | omega | (simp; done) | (simp; omega))) _) | (with_reducible refine Below.drew ?_) | (with_reducible refine below_drewN ?_ _) | (with_reducible refine Below.trans ?_ (Below.mono hbl (by (first | omega | (simp; done) | (simp; omega)))))))⟩ ?_
      rintro W ⟨hW, hbW⟩
      have e0 := hW.cell (i := 0) (v := .int .i64 1) rfl
      have e1 := hW.cell (i := 1) (v := .int .i64 Sx) rfl
      have e2 := hW.cell (i := 2) (v := .int .i64 Dx) rfl
      have e3 := hW.cell (i := 3) (v := .int .i64 1) rfl
      have e4 := hW.cell (i := 4) (v := .int .i64 Sz) rfl
      have e5 := hW.cell (i := 5) (v := .int .i64 Dz) rfl
      have e6 := hW.cell (i := 6) (v := .int .i64 1) rfl
      have e7 := hW.cell (i := 7) (v := .int .i64 Sy) rfl
      have e8 := hW.cell (i := 8) (v := .int .i64 Dy) rfl
      refine bodyPost_ret (v := .agg #[.int .i64 1, .int .i64 Sx, .int .i64 Dx, .int .i64 1, .int .i64 Sz, .int .i64 Dz, .int .i64 1, .int .i64 Sy, .int .i64 Dy]) (by simp [results, Tryd.results17, go_sem, e0, e1, e2, e3, e4, e5, e6, e7, e8]) rfl ?_
      exact ⟨rfl, hbW⟩
end RayP
end Go.Proofs.YtcmndfjoaoinjaaDoor
