/-
  BurnKnown: the chapter's examples.
-/
import Derived.Test.YtlidcefmpoelkaaDoorBurnLaw1
import Derived.Test.YtlidcefmpoelkaaDoorHeldP
namespace Go.Proofs.YtlidcefmpoelkaaDoor
open Go.RowKit
set_option linter.unusedVariables false
set_option linter.unusedSimpArgs false
namespace BurnW
open BlkP RowG FrS PushG CellsW NearW BurnP
theorem at_app {P : Program} {ops : Array Oper} {Q : Exit → Act → World → Prop} {l1 l2 : List Oper} {a : Act} {w : World} (h : wpList P ops Q (List.append l1 l2) a w) : wpList P ops Q (List.append l1 l2) a w := h
set_option maxRecDepth 100000 in
set_option maxHeartbeats 64000000 in
theorem law_known {w : World} (hT : KindW.Tab w) : Calls Tryd.prog 11 #[] w fun e w' => e = .returned (.bool true) ∧ Below w.heap.size w w' := by
  have HT := Lib.hid hT
  clear hT
  obtain ⟨s, hs⟩ : ∃ s, w.heap.size = s := ⟨_, rfl⟩
  have HS := Lib.hid hs
  go_enter Tryd.func11, Tryd.ntmps11
  go_wp2_with ((with_reducible refine at_slot 18 ?_); refine Classical.byContradiction (fun hG => ?_))
  refine hG ?_
  clear hG
  refine list_named (S := fun W => Below w.heap.size w W ∧ Blk W s TC [.int .u8 14, .int .u8 0] ∧ Blk W (s + 1) TC [.int .u8 14, .int .u8 1]) ⟨by (repeat' (first | (with_reducible exact Below.refl _ _) | (with_reducible refine Below.setCell ?_ (by (first | omega | (simp; done) | (simp; omega))) _) | (with_reducible refine Below.alloc ?_ (by (first | omega | (simp; done) | (simp; omega))) _) | (with_reducible refine Below.drew ?_) | (with_reducible refine below_drewN ?_ _))), by subst hs; (repeat' (first | (with_reducible refine BlkP.Blk.drew ?_) | (with_reducible refine BlkP.Blk.drewN ?_ _) | (with_reducible refine BlkP.Blk.setAt (us := ?_) (by first | omega | (simp; done) | (simp; omega)) rfl ?_ ?_) | (with_reducible refine BlkP.Blk.otherAt ?_ (by first | omega | (simp; done) | (simp; omega))) | (with_reducible refine BlkP.Blk.newA' (by first | omega | (simp; done) | (simp; omega)) rfl) | (with_reducible refine BlkP.Blk.alloc ?_ _) | (exact rfl))), by subst hs; (repeat' (first | (with_reducible refine BlkP.Blk.drew ?_) | (with_reducible refine BlkP.Blk.drewN ?_ _) | (with_reducible refine BlkP.Blk.setAt (us := ?_) (by first | omega | (simp; done) | (simp; omega)) rfl ?_ ?_) | (with_reducible refine BlkP.Blk.otherAt ?_ (by first | omega | (simp; done) | (simp; omega))) | (with_reducible refine BlkP.Blk.newA' (by first | omega | (simp; done) | (simp; omega)) rfl) | (with_reducible refine BlkP.Blk.alloc ?_ _) | (exact rfl)))⟩ ?_
  rintro w1 ⟨hbx, hxx, hxy⟩
  try rw [hs]
  obtain ⟨b1, hb1⟩ : ∃ b, s = b := ⟨_, rfl⟩
  obtain ⟨b2, hb2⟩ : ∃ b, s + 1 = b := ⟨_, rfl⟩
  rw [hb2] at hxy
  rw [hb1] at hxx
  try rw [hb2]
  try rw [hb1]
  have HB1 := Lib.hid hbx
  have Hx1 := Lib.hid hxx
  have Hy1 := Lib.hid hxy
  have HNxy := Lib.hid (show b1 < b2 from by omega)
  have HZx := Lib.hid (show w.heap.size ≤ b1 ∧ w.heap.size ≤ b2 from by omega)
  clear hbx hxx hxy hb1 hb2 hs
  have cx0 : w1.cell? ⟨b1, 0, none⟩ = some (.int .u8 14) := Hx1.out.cell rfl
  have cx1 : w1.cell? ⟨b1, 1, none⟩ = some (.int .u8 0) := Hx1.out.cell rfl
  have lx := Hx1.out.lt
  go_wp2_with fail
  obtain ⟨qa, hqa⟩ : ∃ q : Nr, q = (⟨(14, 0), fun i => [(0, 0), (0, 0), (0, 0), (0, 0), (0, 0), (0, 0)].getD i (0, 0), fun i => [(0, 0), (0, 0), (0, 0), (0, 0)].getD i (0, 0), 0, 0⟩ : Nr) := ⟨_, rfl⟩
  refine (Fire_d (n := (⟨(14, 0), fun i => [(0, 0), (0, 0), (0, 0), (0, 0), (0, 0), (0, 0)].getD i (0, 0), fun i => [(0, 0), (0, 0), (0, 0), (0, 0)].getD i (0, 0), 0, 0⟩ : Nr)) (d := 0) (D := ⟨[(0, (0, 0))], 0, 0⟩) (HT.out.below HB1.out) rfl (by omega) (by rfl)).mono ?_
  clear hqa
  clear cx0 cx1 lx
  rintro e w2 ⟨v, rfl, ho, hb⟩
  obtain ⟨Aa, ma, rfl, _, _, hAA⟩ := ho.form (n := 1) rfl
  obtain ⟨ga, rfl, hg1, hg2⟩ := hAA (by omega)
  obtain ⟨ua, hu, huc⟩ := own_blk ho
  have HUra := Lib.hid (show ua[0]? = some (.int .i64 0) ∧ ua[1]? = some (.int .u8 0) ∧ ua[2]? = some (.int .u8 0) from ⟨huc 0 0 _ _ rfl rfl, huc 0 1 _ _ rfl rfl, huc 0 2 _ _ rfl rfl⟩)
  have HCra := Lib.hid (show b2 < ga from by
    have zl := Hy1.out.lt
    omega)
  have Hra2 := Lib.hid hu
  clear ho hAA hg1 hg2 hu huc
  have HB2 := Lib.hid (below_t HB1.out hb)
  have Hx2 := Lib.hid (Hx1.out.below hb)
  have Hy2 := Lib.hid (Hy1.out.below hb)
  clear hb
  go_wp2_with ((with_reducible refine at_slot 21 ?_); refine Classical.byContradiction (fun hG => ?_))
  refine hG ?_
  clear hG
  refine list_named (S := fun W => Below w.heap.size w W ∧ Blk W b1 TC [.int .u8 14, .int .u8 0] ∧ Blk W b2 TC [.int .u8 14, .int .u8 1] ∧ Blk W ga TX ua ∧ ∃ aa, aa = w2.heap.size ∧ Blk W aa TD [.slice (some ⟨ga, 0, none⟩) 1 ma, .int .i64 0, .int .i64 (0)]) ⟨by
    have zz := HB2.out.size
    have zs := HS.out
    have qHNxy := HNxy.out
    have qHZx := HZx.out
    have qHCra := HCra.out
    (repeat' (first | (with_reducible exact Below.refl _ _) | (with_reducible refine Below.setCell ?_ (by (first | omega | (simp; done) | (simp; omega))) _) | (with_reducible refine Below.alloc ?_ (by (first | omega | (simp; done) | (simp; omega))) _) | (with_reducible refine Below.drew ?_) | (with_reducible refine below_drewN ?_ _) | (with_reducible refine Below.trans ?_ (Below.mono HB2.out (by (first | omega | (simp; done) | (simp; omega))))))), by
    have qHNxy := HNxy.out
    have qHZx := HZx.out
    have qHCra := HCra.out
    have zl := Hx2.out.lt
    (repeat' (first | (with_reducible exact Hx2.out) | (with_reducible refine BlkP.Blk.drew ?_) | (with_reducible refine BlkP.Blk.drewN ?_ _) | (with_reducible refine BlkP.Blk.setAt (us := ?_) (by first | omega | (simp; done) | (simp; omega)) rfl ?_ ?_) | (with_reducible refine BlkP.Blk.otherAt ?_ (by first | omega | (simp; done) | (simp; omega))) | (with_reducible refine BlkP.Blk.newA' (by first | omega | (simp; done) | (simp; omega)) rfl) | (with_reducible refine BlkP.Blk.alloc ?_ _) | (exact rfl))), by
    have qHNxy := HNxy.out
    have qHZx := HZx.out
    have qHCra := HCra.out
    have zl := Hy2.out.lt
    (repeat' (first | (with_reducible exact Hy2.out) | (with_reducible refine BlkP.Blk.drew ?_) | (with_reducible refine BlkP.Blk.drewN ?_ _) | (with_reducible refine BlkP.Blk.setAt (us := ?_) (by first | omega | (simp; done) | (simp; omega)) rfl ?_ ?_) | (with_reducible refine BlkP.Blk.otherAt ?_ (by first | omega | (simp; done) | (simp; omega))) | (with_reducible refine BlkP.Blk.newA' (by first | omega | (simp; done) | (simp; omega)) rfl) | (with_reducible refine BlkP.Blk.alloc ?_ _) | (exact rfl))), by
    have qHNxy := HNxy.out
    have qHZx := HZx.out
    have qHCra := HCra.out
    have zl := Hra2.out.lt
    (repeat' (first | (with_reducible exact Hra2.out) | (with_reducible refine BlkP.Blk.drew ?_) | (with_reducible refine BlkP.Blk.drewN ?_ _) | (with_reducible refine BlkP.Blk.setAt (us := ?_) (by first | omega | (simp; done) | (simp; omega)) rfl ?_ ?_) | (with_reducible refine BlkP.Blk.otherAt ?_ (by first | omega | (simp; done) | (simp; omega))) | (with_reducible refine BlkP.Blk.newA' (by first | omega | (simp; done) | (simp; omega)) rfl) | (with_reducible refine BlkP.Blk.alloc ?_ _) | (exact rfl))), ⟨w2.heap.size, rfl, by (repeat' (first | (with_reducible refine BlkP.Blk.drew ?_) | (with_reducible refine BlkP.Blk.drewN ?_ _) | (with_reducible refine BlkP.Blk.setAt (us := ?_) (by first | omega | (simp; done) | (simp; omega)) rfl ?_ ?_) | (with_reducible refine BlkP.Blk.otherAt ?_ (by first | omega | (simp; done) | (simp; omega))) | (with_reducible refine BlkP.Blk.newA' (by first | omega | (simp; done) | (simp; omega)) rfl) | (with_reducible refine BlkP.Blk.alloc ?_ _) | (exact rfl)))⟩⟩ ?_
  rintro w3 ⟨hbx, hxx, hxy, hxra, aa, hnw, hxda⟩
  try rw [← hnw]
  have HCda := Lib.hid (show ga < aa from by
    have zl := Hra2.out.lt
    omega)
  clear hnw
  have HB3 := Lib.hid hbx
  have Hx3 := Lib.hid hxx
  have Hy3 := Lib.hid hxy
  have Hra3 := Lib.hid hxra
  have Hda3 := Lib.hid hxda
  clear hbx hxx hxy hxra hxda
  have cda0 : w3.cell? ⟨aa, 0, none⟩ = some (.slice (some ⟨ga, 0, none⟩) 1 ma) := Hda3.out.cell rfl
  have cda2 : w3.cell? ⟨aa, 2, none⟩ = some (.int .i64 (0)) := Hda3.out.cell rfl
  have lda := Hda3.out.lt
  have cra0 : w3.cell? ⟨ga, 0, none⟩ = some (.int .i64 0) := Hra3.out.cell HUra.out.1
  have cra1 : w3.cell? ⟨ga, 1, none⟩ = some (.int .u8 0) := Hra3.out.cell HUra.out.2.1
  have cra2 : w3.cell? ⟨ga, 2, none⟩ = some (.int .u8 0) := Hra3.out.cell HUra.out.2.2
  have lra := Hra3.out.lt
  have cx0 : w3.cell? ⟨b1, 0, none⟩ = some (.int .u8 14) := Hx3.out.cell rfl
  have cx1 : w3.cell? ⟨b1, 1, none⟩ = some (.int .u8 0) := Hx3.out.cell rfl
  have lx := Hx3.out.lt
  go_wp2_with ((with_reducible refine at_storeN ?_); refine Classical.byContradiction (fun hG => ?_))
  refine hG ?_
  clear hG
  clear cda0 cda2 lda cra0 cra1 cra2 lra cx0 cx1 lx
  refine list_named (S := fun W => Below w.heap.size w W ∧ Blk W b1 TC [.int .u8 14, .int .u8 0] ∧ Blk W b2 TC [.int .u8 14, .int .u8 1] ∧ ∃ b4, b4 = w3.heap.size ∧ Blk W b4 TN (vals nz)) ⟨by
    have zz := HB3.out.size
    have zs := HS.out
    have qHNxy := HNxy.out
    have qHZx := HZx.out
    have qHCra := HCra.out
    have qHCda := HCda.out
    (repeat' (first | (with_reducible exact Below.refl _ _) | (with_reducible refine Below.setCell ?_ (by (first | omega | (simp; done) | (simp; omega))) _) | (with_reducible refine Below.alloc ?_ (by (first | omega | (simp; done) | (simp; omega))) _) | (with_reducible refine Below.drew ?_) | (with_reducible refine below_drewN ?_ _) | (with_reducible refine Below.trans ?_ (Below.mono HB3.out (by (first | omega | (simp; done) | (simp; omega))))))), by
    have qHNxy := HNxy.out
    have qHZx := HZx.out
    have qHCra := HCra.out
    have qHCda := HCda.out
    have zl := Hx3.out.lt
    (repeat' (first | (with_reducible exact Hx3.out) | (with_reducible refine BlkP.Blk.drew ?_) | (with_reducible refine BlkP.Blk.drewN ?_ _) | (with_reducible refine BlkP.Blk.setAt (us := ?_) (by first | omega | (simp; done) | (simp; omega)) rfl ?_ ?_) | (with_reducible refine BlkP.Blk.otherAt ?_ (by first | omega | (simp; done) | (simp; omega))) | (with_reducible refine BlkP.Blk.newA' (by first | omega | (simp; done) | (simp; omega)) rfl) | (with_reducible refine BlkP.Blk.alloc ?_ _) | (exact rfl))), by
    have qHNxy := HNxy.out
    have qHZx := HZx.out
    have qHCra := HCra.out
    have qHCda := HCda.out
    have zl := Hy3.out.lt
    (repeat' (first | (with_reducible exact Hy3.out) | (with_reducible refine BlkP.Blk.drew ?_) | (with_reducible refine BlkP.Blk.drewN ?_ _) | (with_reducible refine BlkP.Blk.setAt (us := ?_) (by first | omega | (simp; done) | (simp; omega)) rfl ?_ ?_) | (with_reducible refine BlkP.Blk.otherAt ?_ (by first | omega | (simp; done) | (simp; omega))) | (with_reducible refine BlkP.Blk.newA' (by first | omega | (simp; done) | (simp; omega)) rfl) | (with_reducible refine BlkP.Blk.alloc ?_ _) | (exact rfl))), ⟨w3.heap.size, rfl, by (repeat' (first | (with_reducible refine BlkP.Blk.drew ?_) | (with_reducible refine BlkP.Blk.drewN ?_ _) | (with_reducible refine BlkP.Blk.setAt (us := ?_) (by first | omega | (simp; done) | (simp; omega)) rfl ?_ ?_) | (with_reducible refine BlkP.Blk.otherAt ?_ (by first | omega | (simp; done) | (simp; omega))) | (with_reducible refine BlkP.Blk.newA' (by first | omega | (simp; done) | (simp; omega)) rfl) | (with_reducible refine BlkP.Blk.alloc ?_ _) | (exact rfl)))⟩⟩ ?_
  rintro w4 ⟨hbx, hxx, hxy, b4, hnw, hxn⟩
  try rw [← hnw]
  have HCn := Lib.hid (show aa < b4 from by
    have zl := Hda3.out.lt
    omega)
  clear hnw
  have HB4 := Lib.hid hbx
  have Hx4 := Lib.hid hxx
  have Hy4 := Lib.hid hxy
  have Hn4 := Lib.hid hxn
  clear hbx hxx hxy hxn
  refine wp_storeN rfl (.tmp 4) (.tmp 39) rfl rfl (n := (⟨(14, 0), fun i => [(0, 0), (0, 0), (0, 0), (0, 0), (0, 0), (0, 0)].getD i (0, 0), fun i => [(0, 0), (0, 0), (0, 0), (0, 0)].getD i (0, 0), 0, 0⟩ : Nr)) rfl Hn4.out rfl ?_
  intro w5 hn hg hz
  have HB5 := Lib.hid (show Below w.heap.size w w5 from HB4.out.grown hg HB4.out.size (fun q hq => by injection hq with hq; have := HZx.out; have := HNxy.out; have := HZx.out; have := HCra.out; have := HCda.out; have := HCn.out; omega))
  have Hx5 := Lib.hid (Hx4.out.grown hg (by have := HNxy.out; have := HZx.out; have := HCra.out; have := HCda.out; have := HCn.out; simp; omega))
  have Hy5 := Lib.hid (Hy4.out.grown hg (by have := HNxy.out; have := HZx.out; have := HCra.out; have := HCda.out; have := HCn.out; simp; omega))
  have Hn5 := Lib.hid (show Blk w5 b4 TN [.int .u8 14, .int .u8 0, .int .u8 0, .int .u8 0, .int .u8 0, .int .u8 0, .int .u8 0, .int .u8 0, .int .u8 0, .int .u8 0, .int .u8 0, .int .u8 0, .int .u8 0, .int .u8 0, .int .u8 0, .int .u8 0, .int .u8 0, .int .u8 0, .int .u8 0, .int .u8 0, .int .u8 0, .int .u8 0, .int .u8 0, .int .u64 0] from hn)
  clear hn hg hz
  have cn2 : w5.cell? ⟨b4, 2, none⟩ = some (.int .u8 0) := Hn5.out.cell rfl
  have fn2 := Hn5.out.frozen 2
  have cn3 : w5.cell? ⟨b4, 3, none⟩ = some (.int .u8 0) := Hn5.out.cell rfl
  have fn3 := Hn5.out.frozen 3
  have ln := Hn5.out.lt
  go_wp2_with ((with_reducible refine at_slot 43 ?_); refine Classical.byContradiction (fun hG => ?_))
  refine hG ?_
  clear hG
  refine list_named (S := fun W => Below w.heap.size w W ∧ Blk W b1 TC [.int .u8 14, .int .u8 0] ∧ Blk W b2 TC [.int .u8 14, .int .u8 1] ∧ Blk W b4 TN [.int .u8 14, .int .u8 0, .int .u8 6, .int .u8 0, .int .u8 0, .int .u8 0, .int .u8 0, .int .u8 0, .int .u8 0, .int .u8 0, .int .u8 0, .int .u8 0, .int .u8 0, .int .u8 0, .int .u8 0, .int .u8 0, .int .u8 0, .int .u8 0, .int .u8 0, .int .u8 0, .int .u8 0, .int .u8 0, .int .u8 0, .int .u64 0]) ⟨by
    have zz := HB5.out.size
    have zs := HS.out
    have qHNxy := HNxy.out
    have qHZx := HZx.out
    have qHCra := HCra.out
    have qHCda := HCda.out
    have qHCn := HCn.out
    (repeat' (first | (with_reducible exact Below.refl _ _) | (with_reducible refine Below.setCell ?_ (by (first | omega | (simp; done) | (simp; omega))) _) | (with_reducible refine Below.alloc ?_ (by (first | omega | (simp; done) | (simp; omega))) _) | (with_reducible refine Below.drew ?_) | (with_reducible refine below_drewN ?_ _) | (with_reducible refine Below.trans ?_ (Below.mono HB5.out (by (first | omega | (simp; done) | (simp; omega))))))), by
    have qHNxy := HNxy.out
    have qHZx := HZx.out
    have qHCra := HCra.out
    have qHCda := HCda.out
    have qHCn := HCn.out
    have zl := Hx5.out.lt
    (repeat' (first | (with_reducible exact Hx5.out) | (with_reducible refine BlkP.Blk.drew ?_) | (with_reducible refine BlkP.Blk.drewN ?_ _) | (with_reducible refine BlkP.Blk.setAt (us := ?_) (by first | omega | (simp; done) | (simp; omega)) rfl ?_ ?_) | (with_reducible refine BlkP.Blk.otherAt ?_ (by first | omega | (simp; done) | (simp; omega))) | (with_reducible refine BlkP.Blk.newA' (by first | omega | (simp; done) | (simp; omega)) rfl) | (with_reducible refine BlkP.Blk.alloc ?_ _) | (exact rfl))), by
    have qHNxy := HNxy.out
    have qHZx := HZx.out
    have qHCra := HCra.out
    have qHCda := HCda.out
    have qHCn := HCn.out
    have zl := Hy5.out.lt
    (repeat' (first | (with_reducible exact Hy5.out) | (with_reducible refine BlkP.Blk.drew ?_) | (with_reducible refine BlkP.Blk.drewN ?_ _) | (with_reducible refine BlkP.Blk.setAt (us := ?_) (by first | omega | (simp; done) | (simp; omega)) rfl ?_ ?_) | (with_reducible refine BlkP.Blk.otherAt ?_ (by first | omega | (simp; done) | (simp; omega))) | (with_reducible refine BlkP.Blk.newA' (by first | omega | (simp; done) | (simp; omega)) rfl) | (with_reducible refine BlkP.Blk.alloc ?_ _) | (exact rfl))), by
    have qHNxy := HNxy.out
    have qHZx := HZx.out
    have qHCra := HCra.out
    have qHCda := HCda.out
    have qHCn := HCn.out
    have zl := Hn5.out.lt
    (repeat' (first | (with_reducible exact Hn5.out) | (with_reducible refine BlkP.Blk.drew ?_) | (with_reducible refine BlkP.Blk.drewN ?_ _) | (with_reducible refine BlkP.Blk.setAt (us := ?_) (by first | omega | (simp; done) | (simp; omega)) rfl ?_ ?_) | (with_reducible refine BlkP.Blk.otherAt ?_ (by first | omega | (simp; done) | (simp; omega))) | (with_reducible refine BlkP.Blk.newA' (by first | omega | (simp; done) | (simp; omega)) rfl) | (with_reducible refine BlkP.Blk.alloc ?_ _) | (exact rfl)))⟩ ?_
  rintro w6 ⟨hbx, hxx, hxy, hxn⟩
  have HB6 := Lib.hid hbx
  have Hx6 := Lib.hid hxx
  have Hy6 := Lib.hid hxy
  have Hn6 := Lib.hid hxn
  clear hbx hxx hxy hxn
  clear cn2 cn3 fn2 fn3 ln
  obtain ⟨qb, hqb⟩ : ∃ q : Nr, q = (⟨(14, 0), fun i => [(6, 0), (0, 0), (0, 0), (0, 0), (0, 0), (0, 0)].getD i (0, 0), fun i => [(0, 0), (0, 0), (0, 0), (0, 0)].getD i (0, 0), 0, 0⟩ : Nr) := ⟨_, rfl⟩
  have HFb := Lib.hid (show fire qb 0 = ⟨[(1, (14, 1))], 3, -1⟩ from by
    subst hqb
    rfl)
  have HVb := Lib.hid (show vals qb = ([.int .u8 14, .int .u8 0, .int .u8 6, .int .u8 0, .int .u8 0, .int .u8 0, .int .u8 0, .int .u8 0, .int .u8 0, .int .u8 0, .int .u8 0, .int .u8 0, .int .u8 0, .int .u8 0, .int .u8 0, .int .u8 0, .int .u8 0, .int .u8 0, .int .u8 0, .int .u8 0, .int .u8 0, .int .u8 0, .int .u8 0, .int .u64 0] : List Value) from by
    subst hqb
    rfl)
  have HDb := Lib.hid (show qb.dr = ((0 : Nat) : Int) from by
    subst hqb
    rfl)
  clear hqb
  refine wp_loadN rfl (.tmp 4) rfl rfl (n := qb) (by rw [HVb.out]; exact Hn6.out) ?_
  go_wp2_with fail
  refine (Fire_d (n := qb) (d := 0) (D := ⟨[(1, (14, 1))], 3, -1⟩) (HT.out.below HB6.out) HDb.out (by omega) HFb.out).mono ?_
  rintro e w7 ⟨v, rfl, ho, hb⟩
  obtain ⟨Ab, mb, rfl, _, _, hAA⟩ := ho.form (n := 1) rfl
  obtain ⟨gb, rfl, hg1, hg2⟩ := hAA (by omega)
  obtain ⟨ub, hu, huc⟩ := own_blk ho
  have HUrb := Lib.hid (show ub[0]? = some (.int .i64 1) ∧ ub[1]? = some (.int .u8 14) ∧ ub[2]? = some (.int .u8 1) from ⟨huc 0 0 _ _ rfl rfl, huc 0 1 _ _ rfl rfl, huc 0 2 _ _ rfl rfl⟩)
  have HCrb := Lib.hid (show b4 < gb from by
    have zl := Hn6.out.lt
    omega)
  have Hrb7 := Lib.hid hu
  clear ho hAA hg1 hg2 hu huc
  have HB7 := Lib.hid (below_t HB6.out hb)
  have Hx7 := Lib.hid (Hx6.out.below hb)
  have Hy7 := Lib.hid (Hy6.out.below hb)
  have Hn7 := Lib.hid (Hn6.out.below hb)
  clear hb
  have cn2 : w7.cell? ⟨b4, 2, none⟩ = some (.int .u8 6) := Hn7.out.cell rfl
  have fn2 := Hn7.out.frozen 2
  have cn3 : w7.cell? ⟨b4, 3, none⟩ = some (.int .u8 0) := Hn7.out.cell rfl
  have fn3 := Hn7.out.frozen 3
  have cn23 : w7.cell? ⟨b4, 23, none⟩ = some (.int .u64 0) := Hn7.out.cell rfl
  have fn23 := Hn7.out.frozen 23
  have ln := Hn7.out.lt
  go_wp2_with ((with_reducible refine at_slot 49 ?_); refine Classical.byContradiction (fun hG => ?_))
  refine hG ?_
  clear hG
  refine list_named (S := fun W => Below w.heap.size w W ∧ Blk W b1 TC [.int .u8 14, .int .u8 0] ∧ Blk W b2 TC [.int .u8 14, .int .u8 1] ∧ Blk W b4 TN [.int .u8 14, .int .u8 0, .int .u8 12, .int .u8 0, .int .u8 0, .int .u8 0, .int .u8 0, .int .u8 0, .int .u8 0, .int .u8 0, .int .u8 0, .int .u8 0, .int .u8 0, .int .u8 0, .int .u8 0, .int .u8 0, .int .u8 0, .int .u8 0, .int .u8 0, .int .u8 0, .int .u8 0, .int .u8 0, .int .u8 0, .int .u64 6] ∧ Blk W gb TX ub ∧ ∃ ab, ab = w7.heap.size ∧ Blk W ab TD [.slice (some ⟨gb, 0, none⟩) 1 mb, .int .i64 3, .int .i64 (-1)]) ⟨by
    have zz := HB7.out.size
    have zs := HS.out
    have qHNxy := HNxy.out
    have qHZx := HZx.out
    have qHCra := HCra.out
    have qHCda := HCda.out
    have qHCn := HCn.out
    have qHCrb := HCrb.out
    (repeat' (first | (with_reducible exact Below.refl _ _) | (with_reducible refine Below.setCell ?_ (by (first | omega | (simp; done) | (simp; omega))) _) | (with_reducible refine Below.alloc ?_ (by (first | omega | (simp; done) | (simp; omega))) _) | (with_reducible refine Below.drew ?_) | (with_reducible refine below_drewN ?_ _) | (with_reducible refine Below.trans ?_ (Below.mono HB7.out (by (first | omega | (simp; done) | (simp; omega))))))), by
    have qHNxy := HNxy.out
    have qHZx := HZx.out
    have qHCra := HCra.out
    have qHCda := HCda.out
    have qHCn := HCn.out
    have qHCrb := HCrb.out
    have zl := Hx7.out.lt
    (repeat' (first | (with_reducible exact Hx7.out) | (with_reducible refine BlkP.Blk.drew ?_) | (with_reducible refine BlkP.Blk.drewN ?_ _) | (with_reducible refine BlkP.Blk.setAt (us := ?_) (by first | omega | (simp; done) | (simp; omega)) rfl ?_ ?_) | (with_reducible refine BlkP.Blk.otherAt ?_ (by first | omega | (simp; done) | (simp; omega))) | (with_reducible refine BlkP.Blk.newA' (by first | omega | (simp; done) | (simp; omega)) rfl) | (with_reducible refine BlkP.Blk.alloc ?_ _) | (exact rfl))), by
    have qHNxy := HNxy.out
    have qHZx := HZx.out
    have qHCra := HCra.out
    have qHCda := HCda.out
    have qHCn := HCn.out
    have qHCrb := HCrb.out
    have zl := Hy7.out.lt
    (repeat' (first | (with_reducible exact Hy7.out) | (with_reducible refine BlkP.Blk.drew ?_) | (with_reducible refine BlkP.Blk.drewN ?_ _) | (with_reducible refine BlkP.Blk.setAt (us := ?_) (by first | omega | (simp; done) | (simp; omega)) rfl ?_ ?_) | (with_reducible refine BlkP.Blk.otherAt ?_ (by first | omega | (simp; done) | (simp; omega))) | (with_reducible refine BlkP.Blk.newA' (by first | omega | (simp; done) | (simp; omega)) rfl) | (with_reducible refine BlkP.Blk.alloc ?_ _) | (exact rfl))), by
    have qHNxy := HNxy.out
    have qHZx := HZx.out
    have qHCra := HCra.out
    have qHCda := HCda.out
    have qHCn := HCn.out
    have qHCrb := HCrb.out
    have zl := Hn7.out.lt
    (repeat' (first | (with_reducible exact Hn7.out) | (with_reducible refine BlkP.Blk.drew ?_) | (with_reducible refine BlkP.Blk.drewN ?_ _) | (with_reducible refine BlkP.Blk.setAt (us := ?_) (by first | omega | (simp; done) | (simp; omega)) rfl ?_ ?_) | (with_reducible refine BlkP.Blk.otherAt ?_ (by first | omega | (simp; done) | (simp; omega))) | (with_reducible refine BlkP.Blk.newA' (by first | omega | (simp; done) | (simp; omega)) rfl) | (with_reducible refine BlkP.Blk.alloc ?_ _) | (exact rfl))), by
    have qHNxy := HNxy.out
    have qHZx := HZx.out
    have qHCra := HCra.out
    have qHCda := HCda.out
    have qHCn := HCn.out
    have qHCrb := HCrb.out
    have zl := Hrb7.out.lt
    (repeat' (first | (with_reducible exact Hrb7.out) | (with_reducible refine BlkP.Blk.drew ?_) | (with_reducible refine BlkP.Blk.drewN ?_ _) | (with_reducible refine BlkP.Blk.setAt (us := ?_) (by first | omega | (simp; done) | (simp; omega)) rfl ?_ ?_) | (with_reducible refine BlkP.Blk.otherAt ?_ (by first | omega | (simp; done) | (simp; omega))) | (with_reducible refine BlkP.Blk.newA' (by first | omega | (simp; done) | (simp; omega)) rfl) | (with_reducible refine BlkP.Blk.alloc ?_ _) | (exact rfl))), ⟨w7.heap.size, rfl, by (repeat' (first | (with_reducible refine BlkP.Blk.drew ?_) | (with_reducible refine BlkP.Blk.drewN ?_ _) | (with_reducible refine BlkP.Blk.setAt (us := ?_) (by first | omega | (simp; done) | (simp; omega)) rfl ?_ ?_) | (with_reducible refine BlkP.Blk.otherAt ?_ (by first | omega | (simp; done) | (simp; omega))) | (with_reducible refine BlkP.Blk.newA' (by first | omega | (simp; done) | (simp; omega)) rfl) | (with_reducible refine BlkP.Blk.alloc ?_ _) | (exact rfl)))⟩⟩ ?_
  rintro w8 ⟨hbx, hxx, hxy, hxn, hxrb, ab, hnw, hxdb⟩
  try rw [← hnw]
  have HCdb := Lib.hid (show gb < ab from by
    have zl := Hrb7.out.lt
    omega)
  clear hnw
  have HB8 := Lib.hid hbx
  have Hx8 := Lib.hid hxx
  have Hy8 := Lib.hid hxy
  have Hn8 := Lib.hid hxn
  have Hrb8 := Lib.hid hxrb
  have Hdb8 := Lib.hid hxdb
  clear hbx hxx hxy hxn hxrb hxdb
  clear cn2 cn3 cn23 fn2 fn3 fn23 ln
  obtain ⟨qc, hqc⟩ : ∃ q : Nr, q = (⟨(14, 0), fun i => [(12, 0), (0, 0), (0, 0), (0, 0), (0, 0), (0, 0)].getD i (0, 0), fun i => [(0, 0), (0, 0), (0, 0), (0, 0)].getD i (0, 0), 0, 6⟩ : Nr) := ⟨_, rfl⟩
  have HFc := Lib.hid (show fire qc 6 = ⟨[(1, (14, 0))], 3, 0⟩ from by
    subst hqc
    rfl)
  have HVc := Lib.hid (show vals qc = ([.int .u8 14, .int .u8 0, .int .u8 12, .int .u8 0, .int .u8 0, .int .u8 0, .int .u8 0, .int .u8 0, .int .u8 0, .int .u8 0, .int .u8 0, .int .u8 0, .int .u8 0, .int .u8 0, .int .u8 0, .int .u8 0, .int .u8 0, .int .u8 0, .int .u8 0, .int .u8 0, .int .u8 0, .int .u8 0, .int .u8 0, .int .u64 6] : List Value) from by
    subst hqc
    rfl)
  have HDc := Lib.hid (show qc.dr = ((6 : Nat) : Int) from by
    subst hqc
    rfl)
  clear hqc
  refine wp_loadN rfl (.tmp 4) rfl rfl (n := qc) (by rw [HVc.out]; exact Hn8.out) ?_
  go_wp2_with fail
  refine (Fire_d (n := qc) (d := 6) (D := ⟨[(1, (14, 0))], 3, 0⟩) (HT.out.below HB8.out) HDc.out (by omega) HFc.out).mono ?_
  rintro e w9 ⟨v, rfl, ho, hb⟩
  obtain ⟨Ac, mc, rfl, _, _, hAA⟩ := ho.form (n := 1) rfl
  obtain ⟨gc, rfl, hg1, hg2⟩ := hAA (by omega)
  obtain ⟨uc, hu, huc⟩ := own_blk ho
  have HUrc := Lib.hid (show uc[0]? = some (.int .i64 1) ∧ uc[1]? = some (.int .u8 14) ∧ uc[2]? = some (.int .u8 0) from ⟨huc 0 0 _ _ rfl rfl, huc 0 1 _ _ rfl rfl, huc 0 2 _ _ rfl rfl⟩)
  have HCrc := Lib.hid (show ab < gc from by
    have zl := Hdb8.out.lt
    omega)
  have Hrc9 := Lib.hid hu
  clear ho hAA hg1 hg2 hu huc
  have HB9 := Lib.hid (below_t HB8.out hb)
  have Hx9 := Lib.hid (Hx8.out.below hb)
  have Hy9 := Lib.hid (Hy8.out.below hb)
  have Hn9 := Lib.hid (Hn8.out.below hb)
  have Hrb9 := Lib.hid (Hrb8.out.below hb)
  have Hdb9 := Lib.hid (Hdb8.out.below hb)
  clear hb
  have cn0 : w9.cell? ⟨b4, 0, none⟩ = some (.int .u8 14) := Hn9.out.cell rfl
  have fn0 := Hn9.out.frozen 0
  have cn1 : w9.cell? ⟨b4, 1, none⟩ = some (.int .u8 0) := Hn9.out.cell rfl
  have fn1 := Hn9.out.frozen 1
  have cn2 : w9.cell? ⟨b4, 2, none⟩ = some (.int .u8 12) := Hn9.out.cell rfl
  have fn2 := Hn9.out.frozen 2
  have cn3 : w9.cell? ⟨b4, 3, none⟩ = some (.int .u8 0) := Hn9.out.cell rfl
  have fn3 := Hn9.out.frozen 3
  have cn23 : w9.cell? ⟨b4, 23, none⟩ = some (.int .u64 6) := Hn9.out.cell rfl
  have fn23 := Hn9.out.frozen 23
  have ln := Hn9.out.lt
  have cy0 : w9.cell? ⟨b2, 0, none⟩ = some (.int .u8 14) := Hy9.out.cell rfl
  have cy1 : w9.cell? ⟨b2, 1, none⟩ = some (.int .u8 1) := Hy9.out.cell rfl
  have ly := Hy9.out.lt
  go_wp2_with ((with_reducible refine at_slot 57 ?_); refine Classical.byContradiction (fun hG => ?_))
  refine hG ?_
  clear hG
  refine list_named (S := fun W => Below w.heap.size w W ∧ Blk W b1 TC [.int .u8 14, .int .u8 0] ∧ Blk W b2 TC [.int .u8 14, .int .u8 1] ∧ Blk W b4 TN [.int .u8 14, .int .u8 1, .int .u8 6, .int .u8 0, .int .u8 0, .int .u8 0, .int .u8 0, .int .u8 0, .int .u8 0, .int .u8 0, .int .u8 0, .int .u8 0, .int .u8 0, .int .u8 0, .int .u8 0, .int .u8 0, .int .u8 0, .int .u8 0, .int .u8 0, .int .u8 0, .int .u8 0, .int .u8 0, .int .u8 0, .int .u64 1] ∧ Blk W gb TX ub ∧ Blk W ab TD [.slice (some ⟨gb, 0, none⟩) 1 mb, .int .i64 3, .int .i64 (-1)] ∧ Blk W gc TX uc ∧ ∃ ac, ac = w9.heap.size ∧ Blk W ac TD [.slice (some ⟨gc, 0, none⟩) 1 mc, .int .i64 3, .int .i64 (0)]) ⟨by
    have zz := HB9.out.size
    have zs := HS.out
    have qHNxy := HNxy.out
    have qHZx := HZx.out
    have qHCra := HCra.out
    have qHCda := HCda.out
    have qHCn := HCn.out
    have qHCrb := HCrb.out
    have qHCdb := HCdb.out
    have qHCrc := HCrc.out
    (repeat' (first | (with_reducible exact Below.refl _ _) | (with_reducible refine Below.setCell ?_ (by (first | omega | (simp; done) | (simp; omega))) _) | (with_reducible refine Below.alloc ?_ (by (first | omega | (simp; done) | (simp; omega))) _) | (with_reducible refine Below.drew ?_) | (with_reducible refine below_drewN ?_ _) | (with_reducible refine Below.trans ?_ (Below.mono HB9.out (by (first | omega | (simp; done) | (simp; omega))))))), by
    have qHNxy := HNxy.out
    have qHZx := HZx.out
    have qHCra := HCra.out
    have qHCda := HCda.out
    have qHCn := HCn.out
    have qHCrb := HCrb.out
    have qHCdb := HCdb.out
    have qHCrc := HCrc.out
    have zl := Hx9.out.lt
    (repeat' (first | (with_reducible exact Hx9.out) | (with_reducible refine BlkP.Blk.drew ?_) | (with_reducible refine BlkP.Blk.drewN ?_ _) | (with_reducible refine BlkP.Blk.setAt (us := ?_) (by first | omega | (simp; done) | (simp; omega)) rfl ?_ ?_) | (with_reducible refine BlkP.Blk.otherAt ?_ (by first | omega | (simp; done) | (simp; omega))) | (with_reducible refine BlkP.Blk.newA' (by first | omega | (simp; done) | (simp; omega)) rfl) | (with_reducible refine BlkP.Blk.alloc ?_ _) | (exact rfl))), by
    have qHNxy := HNxy.out
    have qHZx := HZx.out
    have qHCra := HCra.out
    have qHCda := HCda.out
    have qHCn := HCn.out
    have qHCrb := HCrb.out
    have qHCdb := HCdb.out
    have qHCrc := HCrc.out
    have zl := Hy9.out.lt
    (repeat' (first | (with_reducible exact Hy9.out) | (with_reducible refine BlkP.Blk.drew ?_) | (with_reducible refine BlkP.Blk.drewN ?_ _) | (with_reducible refine BlkP.Blk.setAt (us := ?_) (by first | omega | (simp; done) | (simp; omega)) rfl ?_ ?_) | (with_reducible refine BlkP.Blk.otherAt ?_ (by first | omega | (simp; done) | (simp; omega))) | (with_reducible refine BlkP.Blk.newA' (by first | omega | (simp; done) | (simp; omega)) rfl) | (with_reducible refine BlkP.Blk.alloc ?_ _) | (exact rfl))), by
    have qHNxy := HNxy.out
    have qHZx := HZx.out
    have qHCra := HCra.out
    have qHCda := HCda.out
    have qHCn := HCn.out
    have qHCrb := HCrb.out
    have qHCdb := HCdb.out
    have qHCrc := HCrc.out
    have zl := Hn9.out.lt
    (repeat' (first | (with_reducible exact Hn9.out) | (with_reducible refine BlkP.Blk.drew ?_) | (with_reducible refine BlkP.Blk.drewN ?_ _) | (with_reducible refine BlkP.Blk.setAt (us := ?_) (by first | omega | (simp; done) | (simp; omega)) rfl ?_ ?_) | (with_reducible refine BlkP.Blk.otherAt ?_ (by first | omega | (simp; done) | (simp; omega))) | (with_reducible refine BlkP.Blk.newA' (by first | omega | (simp; done) | (simp; omega)) rfl) | (with_reducible refine BlkP.Blk.alloc ?_ _) | (exact rfl))), by
    have qHNxy := HNxy.out
    have qHZx := HZx.out
    have qHCra := HCra.out
    have qHCda := HCda.out
    have qHCn := HCn.out
    have qHCrb := HCrb.out
    have qHCdb := HCdb.out
    have qHCrc := HCrc.out
    have zl := Hrb9.out.lt
    (repeat' (first | (with_reducible exact Hrb9.out) | (with_reducible refine BlkP.Blk.drew ?_) | (with_reducible refine BlkP.Blk.drewN ?_ _) | (with_reducible refine BlkP.Blk.setAt (us := ?_) (by first | omega | (simp; done) | (simp; omega)) rfl ?_ ?_) | (with_reducible refine BlkP.Blk.otherAt ?_ (by first | omega | (simp; done) | (simp; omega))) | (with_reducible refine BlkP.Blk.newA' (by first | omega | (simp; done) | (simp; omega)) rfl) | (with_reducible refine BlkP.Blk.alloc ?_ _) | (exact rfl))), by
    have qHNxy := HNxy.out
    have qHZx := HZx.out
    have qHCra := HCra.out
    have qHCda := HCda.out
    have qHCn := HCn.out
    have qHCrb := HCrb.out
    have qHCdb := HCdb.out
    have qHCrc := HCrc.out
    have zl := Hdb9.out.lt
    (repeat' (first | (with_reducible exact Hdb9.out) | (with_reducible refine BlkP.Blk.drew ?_) | (with_reducible refine BlkP.Blk.drewN ?_ _) | (with_reducible refine BlkP.Blk.setAt (us := ?_) (by first | omega | (simp; done) | (simp; omega)) rfl ?_ ?_) | (with_reducible refine BlkP.Blk.otherAt ?_ (by first | omega | (simp; done) | (simp; omega))) | (with_reducible refine BlkP.Blk.newA' (by first | omega | (simp; done) | (simp; omega)) rfl) | (with_reducible refine BlkP.Blk.alloc ?_ _) | (exact rfl))), by
    have qHNxy := HNxy.out
    have qHZx := HZx.out
    have qHCra := HCra.out
    have qHCda := HCda.out
    have qHCn := HCn.out
    have qHCrb := HCrb.out
    have qHCdb := HCdb.out
    have qHCrc := HCrc.out
    have zl := Hrc9.out.lt
    (repeat' (first | (with_reducible exact Hrc9.out) | (with_reducible refine BlkP.Blk.drew ?_) | (with_reducible refine BlkP.Blk.drewN ?_ _) | (with_reducible refine BlkP.Blk.setAt (us := ?_) (by first | omega | (simp; done) | (simp; omega)) rfl ?_ ?_) | (with_reducible refine BlkP.Blk.otherAt ?_ (by first | omega | (simp; done) | (simp; omega))) | (with_reducible refine BlkP.Blk.newA' (by first | omega | (simp; done) | (simp; omega)) rfl) | (with_reducible refine BlkP.Blk.alloc ?_ _) | (exact rfl))), ⟨w9.heap.size, rfl, by (repeat' (first | (with_reducible refine BlkP.Blk.drew ?_) | (with_reducible refine BlkP.Blk.drewN ?_ _) | (with_reducible refine BlkP.Blk.setAt (us := ?_) (by first | omega | (simp; done) | (simp; omega)) rfl ?_ ?_) | (with_reducible refine BlkP.Blk.otherAt ?_ (by first | omega | (simp; done) | (simp; omega))) | (with_reducible refine BlkP.Blk.newA' (by first | omega | (simp; done) | (simp; omega)) rfl) | (with_reducible refine BlkP.Blk.alloc ?_ _) | (exact rfl)))⟩⟩ ?_
  rintro w10 ⟨hbx, hxx, hxy, hxn, hxrb, hxdb, hxrc, ac, hnw, hxdc⟩
  try rw [← hnw]
  have HCdc := Lib.hid (show gc < ac from by
    have zl := Hrc9.out.lt
    omega)
  clear hnw
  have HB10 := Lib.hid hbx
  have Hx10 := Lib.hid hxx
  have Hy10 := Lib.hid hxy
  have Hn10 := Lib.hid hxn
  have Hrb10 := Lib.hid hxrb
  have Hdb10 := Lib.hid hxdb
  have Hrc10 := Lib.hid hxrc
  have Hdc10 := Lib.hid hxdc
  clear hbx hxx hxy hxn hxrb hxdb hxrc hxdc
  clear cn0 cn1 cn2 cn3 cn23 fn0 fn1 fn2 fn3 fn23 ln cy0 cy1 ly
  obtain ⟨qd, hqd⟩ : ∃ q : Nr, q = (⟨(14, 1), fun i => [(6, 0), (0, 0), (0, 0), (0, 0), (0, 0), (0, 0)].getD i (0, 0), fun i => [(0, 0), (0, 0), (0, 0), (0, 0)].getD i (0, 0), 0, 1⟩ : Nr) := ⟨_, rfl⟩
  have HFd := Lib.hid (show fire qd 1 = ⟨[(0, (8, 0))], 0, 1⟩ from by
    subst hqd
    rfl)
  have HVd := Lib.hid (show vals qd = ([.int .u8 14, .int .u8 1, .int .u8 6, .int .u8 0, .int .u8 0, .int .u8 0, .int .u8 0, .int .u8 0, .int .u8 0, .int .u8 0, .int .u8 0, .int .u8 0, .int .u8 0, .int .u8 0, .int .u8 0, .int .u8 0, .int .u8 0, .int .u8 0, .int .u8 0, .int .u8 0, .int .u8 0, .int .u8 0, .int .u8 0, .int .u64 1] : List Value) from by
    subst hqd
    rfl)
  have HDd := Lib.hid (show qd.dr = ((1 : Nat) : Int) from by
    subst hqd
    rfl)
  clear hqd
  refine wp_loadN rfl (.tmp 4) rfl rfl (n := qd) (by rw [HVd.out]; exact Hn10.out) ?_
  go_wp2_with fail
  refine (Fire_d (n := qd) (d := 1) (D := ⟨[(0, (8, 0))], 0, 1⟩) (HT.out.below HB10.out) HDd.out (by omega) HFd.out).mono ?_
  rintro e w11 ⟨v, rfl, ho, hb⟩
  obtain ⟨Ad, md, rfl, _, _, hAA⟩ := ho.form (n := 1) rfl
  obtain ⟨gd, rfl, hg1, hg2⟩ := hAA (by omega)
  obtain ⟨ud, hu, huc⟩ := own_blk ho
  have HUrd := Lib.hid (show ud[0]? = some (.int .i64 0) ∧ ud[1]? = some (.int .u8 8) ∧ ud[2]? = some (.int .u8 0) from ⟨huc 0 0 _ _ rfl rfl, huc 0 1 _ _ rfl rfl, huc 0 2 _ _ rfl rfl⟩)
  have HCrd := Lib.hid (show ac < gd from by
    have zl := Hdc10.out.lt
    omega)
  have Hrd11 := Lib.hid hu
  clear ho hAA hg1 hg2 hu huc
  have HB11 := Lib.hid (below_t HB10.out hb)
  have Hx11 := Lib.hid (Hx10.out.below hb)
  have Hy11 := Lib.hid (Hy10.out.below hb)
  have Hn11 := Lib.hid (Hn10.out.below hb)
  have Hrb11 := Lib.hid (Hrb10.out.below hb)
  have Hdb11 := Lib.hid (Hdb10.out.below hb)
  have Hrc11 := Lib.hid (Hrc10.out.below hb)
  have Hdc11 := Lib.hid (Hdc10.out.below hb)
  clear hb
  have cn23 : w11.cell? ⟨b4, 23, none⟩ = some (.int .u64 1) := Hn11.out.cell rfl
  have fn23 := Hn11.out.frozen 23
  have ln := Hn11.out.lt
  go_wp2_with ((with_reducible refine at_slot 60 ?_); refine Classical.byContradiction (fun hG => ?_))
  refine hG ?_
  clear hG
  refine list_named (S := fun W => Below w.heap.size w W ∧ Blk W b1 TC [.int .u8 14, .int .u8 0] ∧ Blk W b2 TC [.int .u8 14, .int .u8 1] ∧ Blk W b4 TN [.int .u8 14, .int .u8 1, .int .u8 6, .int .u8 0, .int .u8 0, .int .u8 0, .int .u8 0, .int .u8 0, .int .u8 0, .int .u8 0, .int .u8 0, .int .u8 0, .int .u8 0, .int .u8 0, .int .u8 0, .int .u8 0, .int .u8 0, .int .u8 0, .int .u8 0, .int .u8 0, .int .u8 0, .int .u8 0, .int .u8 0, .int .u64 7] ∧ Blk W gb TX ub ∧ Blk W ab TD [.slice (some ⟨gb, 0, none⟩) 1 mb, .int .i64 3, .int .i64 (-1)] ∧ Blk W gc TX uc ∧ Blk W ac TD [.slice (some ⟨gc, 0, none⟩) 1 mc, .int .i64 3, .int .i64 (0)] ∧ Blk W gd TX ud ∧ ∃ ad, ad = w11.heap.size ∧ Blk W ad TD [.slice (some ⟨gd, 0, none⟩) 1 md, .int .i64 0, .int .i64 (1)]) ⟨by
    have zz := HB11.out.size
    have zs := HS.out
    have qHNxy := HNxy.out
    have qHZx := HZx.out
    have qHCra := HCra.out
    have qHCda := HCda.out
    have qHCn := HCn.out
    have qHCrb := HCrb.out
    have qHCdb := HCdb.out
    have qHCrc := HCrc.out
    have qHCdc := HCdc.out
    have qHCrd := HCrd.out
    (repeat' (first | (with_reducible exact Below.refl _ _) | (with_reducible refine Below.setCell ?_ (by (first | omega | (simp; done) | (simp; omega))) _) | (with_reducible refine Below.alloc ?_ (by (first | omega | (simp; done) | (simp; omega))) _) | (with_reducible refine Below.drew ?_) | (with_reducible refine below_drewN ?_ _) | (with_reducible refine Below.trans ?_ (Below.mono HB11.out (by (first | omega | (simp; done) | (simp; omega))))))), by
    have qHNxy := HNxy.out
    have qHZx := HZx.out
    have qHCra := HCra.out
    have qHCda := HCda.out
    have qHCn := HCn.out
    have qHCrb := HCrb.out
    have qHCdb := HCdb.out
    have qHCrc := HCrc.out
    have qHCdc := HCdc.out
    have qHCrd := HCrd.out
    have zl := Hx11.out.lt
    (repeat' (first | (with_reducible exact Hx11.out) | (with_reducible refine BlkP.Blk.drew ?_) | (with_reducible refine BlkP.Blk.drewN ?_ _) | (with_reducible refine BlkP.Blk.setAt (us := ?_) (by first | omega | (simp; done) | (simp; omega)) rfl ?_ ?_) | (with_reducible refine BlkP.Blk.otherAt ?_ (by first | omega | (simp; done) | (simp; omega))) | (with_reducible refine BlkP.Blk.newA' (by first | omega | (simp; done) | (simp; omega)) rfl) | (with_reducible refine BlkP.Blk.alloc ?_ _) | (exact rfl))), by
    have qHNxy := HNxy.out
    have qHZx := HZx.out
    have qHCra := HCra.out
    have qHCda := HCda.out
    have qHCn := HCn.out
    have qHCrb := HCrb.out
    have qHCdb := HCdb.out
    have qHCrc := HCrc.out
    have qHCdc := HCdc.out
    have qHCrd := HCrd.out
    have zl := Hy11.out.lt
    (repeat' (first | (with_reducible exact Hy11.out) | (with_reducible refine BlkP.Blk.drew ?_) | (with_reducible refine BlkP.Blk.drewN ?_ _) | (with_reducible refine BlkP.Blk.setAt (us := ?_) (by first | omega | (simp; done) | (simp; omega)) rfl ?_ ?_) | (with_reducible refine BlkP.Blk.otherAt ?_ (by first | omega | (simp; done) | (simp; omega))) | (with_reducible refine BlkP.Blk.newA' (by first | omega | (simp; done) | (simp; omega)) rfl) | (with_reducible refine BlkP.Blk.alloc ?_ _) | (exact rfl))), by
    have qHNxy := HNxy.out
    have qHZx := HZx.out
    have qHCra := HCra.out
    have qHCda := HCda.out
    have qHCn := HCn.out
    have qHCrb := HCrb.out
    have qHCdb := HCdb.out
    have qHCrc := HCrc.out
    have qHCdc := HCdc.out
    have qHCrd := HCrd.out
    have zl := Hn11.out.lt
    (repeat' (first | (with_reducible exact Hn11.out) | (with_reducible refine BlkP.Blk.drew ?_) | (with_reducible refine BlkP.Blk.drewN ?_ _) | (with_reducible refine BlkP.Blk.setAt (us := ?_) (by first | omega | (simp; done) | (simp; omega)) rfl ?_ ?_) | (with_reducible refine BlkP.Blk.otherAt ?_ (by first | omega | (simp; done) | (simp; omega))) | (with_reducible refine BlkP.Blk.newA' (by first | omega | (simp; done) | (simp; omega)) rfl) | (with_reducible refine BlkP.Blk.alloc ?_ _) | (exact rfl))), by
    have qHNxy := HNxy.out
    have qHZx := HZx.out
    have qHCra := HCra.out
    have qHCda := HCda.out
    have qHCn := HCn.out
    have qHCrb := HCrb.out
    have qHCdb := HCdb.out
    have qHCrc := HCrc.out
    have qHCdc := HCdc.out
    have qHCrd := HCrd.out
    have zl := Hrb11.out.lt
    (repeat' (first | (with_reducible exact Hrb11.out) | (with_reducible refine BlkP.Blk.drew ?_) | (with_reducible refine BlkP.Blk.drewN ?_ _) | (with_reducible refine BlkP.Blk.setAt (us := ?_) (by first | omega | (simp; done) | (simp; omega)) rfl ?_ ?_) | (with_reducible refine BlkP.Blk.otherAt ?_ (by first | omega | (simp; done) | (simp; omega))) | (with_reducible refine BlkP.Blk.newA' (by first | omega | (simp; done) | (simp; omega)) rfl) | (with_reducible refine BlkP.Blk.alloc ?_ _) | (exact rfl))), by
    have qHNxy := HNxy.out
    have qHZx := HZx.out
    have qHCra := HCra.out
    have qHCda := HCda.out
    have qHCn := HCn.out
    have qHCrb := HCrb.out
    have qHCdb := HCdb.out
    have qHCrc := HCrc.out
    have qHCdc := HCdc.out
    have qHCrd := HCrd.out
    have zl := Hdb11.out.lt
    (repeat' (first | (with_reducible exact Hdb11.out) | (with_reducible refine BlkP.Blk.drew ?_) | (with_reducible refine BlkP.Blk.drewN ?_ _) | (with_reducible refine BlkP.Blk.setAt (us := ?_) (by first | omega | (simp; done) | (simp; omega)) rfl ?_ ?_) | (with_reducible refine BlkP.Blk.otherAt ?_ (by first | omega | (simp; done) | (simp; omega))) | (with_reducible refine BlkP.Blk.newA' (by first | omega | (simp; done) | (simp; omega)) rfl) | (with_reducible refine BlkP.Blk.alloc ?_ _) | (exact rfl))), by
    have qHNxy := HNxy.out
    have qHZx := HZx.out
    have qHCra := HCra.out
    have qHCda := HCda.out
    have qHCn := HCn.out
    have qHCrb := HCrb.out
    have qHCdb := HCdb.out
    have qHCrc := HCrc.out
    have qHCdc := HCdc.out
    have qHCrd := HCrd.out
    have zl := Hrc11.out.lt
    (repeat' (first | (with_reducible exact Hrc11.out) | (with_reducible refine BlkP.Blk.drew ?_) | (with_reducible refine BlkP.Blk.drewN ?_ _) | (with_reducible refine BlkP.Blk.setAt (us := ?_) (by first | omega | (simp; done) | (simp; omega)) rfl ?_ ?_) | (with_reducible refine BlkP.Blk.otherAt ?_ (by first | omega | (simp; done) | (simp; omega))) | (with_reducible refine BlkP.Blk.newA' (by first | omega | (simp; done) | (simp; omega)) rfl) | (with_reducible refine BlkP.Blk.alloc ?_ _) | (exact rfl))), by
    have qHNxy := HNxy.out
    have qHZx := HZx.out
    have qHCra := HCra.out
    have qHCda := HCda.out
    have qHCn := HCn.out
    have qHCrb := HCrb.out
    have qHCdb := HCdb.out
    have qHCrc := HCrc.out
    have qHCdc := HCdc.out
    have qHCrd := HCrd.out
    have zl := Hdc11.out.lt
    (repeat' (first | (with_reducible exact Hdc11.out) | (with_reducible refine BlkP.Blk.drew ?_) | (with_reducible refine BlkP.Blk.drewN ?_ _) | (with_reducible refine BlkP.Blk.setAt (us := ?_) (by first | omega | (simp; done) | (simp; omega)) rfl ?_ ?_) | (with_reducible refine BlkP.Blk.otherAt ?_ (by first | omega | (simp; done) | (simp; omega))) | (with_reducible refine BlkP.Blk.newA' (by first | omega | (simp; done) | (simp; omega)) rfl) | (with_reducible refine BlkP.Blk.alloc ?_ _) | (exact rfl))), by
    have qHNxy := HNxy.out
    have qHZx := HZx.out
    have qHCra := HCra.out
    have qHCda := HCda.out
    have qHCn := HCn.out
    have qHCrb := HCrb.out
    have qHCdb := HCdb.out
    have qHCrc := HCrc.out
    have qHCdc := HCdc.out
    have qHCrd := HCrd.out
    have zl := Hrd11.out.lt
    (repeat' (first | (with_reducible exact Hrd11.out) | (with_reducible refine BlkP.Blk.drew ?_) | (with_reducible refine BlkP.Blk.drewN ?_ _) | (with_reducible refine BlkP.Blk.setAt (us := ?_) (by first | omega | (simp; done) | (simp; omega)) rfl ?_ ?_) | (with_reducible refine BlkP.Blk.otherAt ?_ (by first | omega | (simp; done) | (simp; omega))) | (with_reducible refine BlkP.Blk.newA' (by first | omega | (simp; done) | (simp; omega)) rfl) | (with_reducible refine BlkP.Blk.alloc ?_ _) | (exact rfl))), ⟨w11.heap.size, rfl, by (repeat' (first | (with_reducible refine BlkP.Blk.drew ?_) | (with_reducible refine BlkP.Blk.drewN ?_ _) | (with_reducible refine BlkP.Blk.setAt (us := ?_) (by first | omega | (simp; done) | (simp; omega)) rfl ?_ ?_) | (with_reducible refine BlkP.Blk.otherAt ?_ (by first | omega | (simp; done) | (simp; omega))) | (with_reducible refine BlkP.Blk.newA' (by first | omega | (simp; done) | (simp; omega)) rfl) | (with_reducible refine BlkP.Blk.alloc ?_ _) | (exact rfl)))⟩⟩ ?_
  rintro w12 ⟨hbx, hxx, hxy, hxn, hxrb, hxdb, hxrc, hxdc, hxrd, ad, hnw, hxdd⟩
  try rw [← hnw]
  have HCdd := Lib.hid (show gd < ad from by
    have zl := Hrd11.out.lt
    omega)
  clear hnw
  have HB12 := Lib.hid hbx
  have Hx12 := Lib.hid hxx
  have Hy12 := Lib.hid hxy
  have Hn12 := Lib.hid hxn
  have Hrb12 := Lib.hid hxrb
  have Hdb12 := Lib.hid hxdb
  have Hrc12 := Lib.hid hxrc
  have Hdc12 := Lib.hid hxdc
  have Hrd12 := Lib.hid hxrd
  have Hdd12 := Lib.hid hxdd
  clear hbx hxx hxy hxn hxrb hxdb hxrc hxdc hxrd hxdd
  clear cn23 fn23 ln
  obtain ⟨qe, hqe⟩ : ∃ q : Nr, q = (⟨(14, 1), fun i => [(6, 0), (0, 0), (0, 0), (0, 0), (0, 0), (0, 0)].getD i (0, 0), fun i => [(0, 0), (0, 0), (0, 0), (0, 0)].getD i (0, 0), 0, 7⟩ : Nr) := ⟨_, rfl⟩
  have HFe := Lib.hid (show fire qe 7 = ⟨[], 3, 0⟩ from by
    subst hqe
    rfl)
  have HVe := Lib.hid (show vals qe = ([.int .u8 14, .int .u8 1, .int .u8 6, .int .u8 0, .int .u8 0, .int .u8 0, .int .u8 0, .int .u8 0, .int .u8 0, .int .u8 0, .int .u8 0, .int .u8 0, .int .u8 0, .int .u8 0, .int .u8 0, .int .u8 0, .int .u8 0, .int .u8 0, .int .u8 0, .int .u8 0, .int .u8 0, .int .u8 0, .int .u8 0, .int .u64 7] : List Value) from by
    subst hqe
    rfl)
  have HDe := Lib.hid (show qe.dr = ((7 : Nat) : Int) from by
    subst hqe
    rfl)
  clear hqe
  refine wp_loadN rfl (.tmp 4) rfl rfl (n := qe) (by rw [HVe.out]; exact Hn12.out) ?_
  go_wp2_with fail
  refine (Fire_d (n := qe) (d := 7) (D := ⟨[], 3, 0⟩) (HT.out.below HB12.out) HDe.out (by omega) HFe.out).mono ?_
  rintro e w13 ⟨v, rfl, ho, hb⟩
  obtain ⟨Ae, me, rfl, _, _, _⟩ := ho.form (n := 0) rfl
  clear ho
  have HB13 := Lib.hid (below_t HB12.out hb)
  have Hx13 := Lib.hid (Hx12.out.below hb)
  have Hy13 := Lib.hid (Hy12.out.below hb)
  have Hn13 := Lib.hid (Hn12.out.below hb)
  have Hrb13 := Lib.hid (Hrb12.out.below hb)
  have Hdb13 := Lib.hid (Hdb12.out.below hb)
  have Hrc13 := Lib.hid (Hrc12.out.below hb)
  have Hdc13 := Lib.hid (Hdc12.out.below hb)
  have Hrd13 := Lib.hid (Hrd12.out.below hb)
  have Hdd13 := Lib.hid (Hdd12.out.below hb)
  clear hb
  have cn23 : w13.cell? ⟨b4, 23, none⟩ = some (.int .u64 7) := Hn13.out.cell rfl
  have fn23 := Hn13.out.frozen 23
  have cn10 : w13.cell? ⟨b4, 10, none⟩ = some (.int .u8 0) := Hn13.out.cell rfl
  have fn10 := Hn13.out.frozen 10
  have cn11 : w13.cell? ⟨b4, 11, none⟩ = some (.int .u8 0) := Hn13.out.cell rfl
  have fn11 := Hn13.out.frozen 11
  have ln := Hn13.out.lt
  go_wp2_with ((with_reducible refine at_slot 66 ?_); refine Classical.byContradiction (fun hG => ?_))
  refine hG ?_
  clear hG
  refine list_named (S := fun W => Below w.heap.size w W ∧ Blk W b1 TC [.int .u8 14, .int .u8 0] ∧ Blk W b2 TC [.int .u8 14, .int .u8 1] ∧ Blk W b4 TN [.int .u8 14, .int .u8 1, .int .u8 6, .int .u8 0, .int .u8 0, .int .u8 0, .int .u8 0, .int .u8 0, .int .u8 0, .int .u8 0, .int .u8 13, .int .u8 0, .int .u8 0, .int .u8 0, .int .u8 0, .int .u8 0, .int .u8 0, .int .u8 0, .int .u8 0, .int .u8 0, .int .u8 0, .int .u8 0, .int .u8 0, .int .u64 0] ∧ Blk W gb TX ub ∧ Blk W ab TD [.slice (some ⟨gb, 0, none⟩) 1 mb, .int .i64 3, .int .i64 (-1)] ∧ Blk W gc TX uc ∧ Blk W ac TD [.slice (some ⟨gc, 0, none⟩) 1 mc, .int .i64 3, .int .i64 (0)] ∧ Blk W gd TX ud ∧ Blk W ad TD [.slice (some ⟨gd, 0, none⟩) 1 md, .int .i64 0, .int .i64 (1)] ∧ ∃ ae, ae = w13.heap.size ∧ Blk W ae TD [.slice Ae 0 me, .int .i64 3, .int .i64 (0)]) ⟨by
    have zz := HB13.out.size
    have zs := HS.out
    have qHNxy := HNxy.out
    have qHZx := HZx.out
    have qHCra := HCra.out
    have qHCda := HCda.out
    have qHCn := HCn.out
    have qHCrb := HCrb.out
    have qHCdb := HCdb.out
    have qHCrc := HCrc.out
    have qHCdc := HCdc.out
    have qHCrd := HCrd.out
    have qHCdd := HCdd.out
    (repeat' (first | (with_reducible exact Below.refl _ _) | (with_reducible refine Below.setCell ?_ (by (first | omega | (simp; done) | (simp; omega))) _) | (with_reducible refine Below.alloc ?_ (by (first | omega | (simp; done) | (simp; omega))) _) | (with_reducible refine Below.drew ?_) | (with_reducible refine below_drewN ?_ _) | (with_reducible refine Below.trans ?_ (Below.mono HB13.out (by (first | omega | (simp; done) | (simp; omega))))))), by
    have qHNxy := HNxy.out
    have qHZx := HZx.out
    have qHCra := HCra.out
    have qHCda := HCda.out
    have qHCn := HCn.out
    have qHCrb := HCrb.out
    have qHCdb := HCdb.out
    have qHCrc := HCrc.out
    have qHCdc := HCdc.out
    have qHCrd := HCrd.out
    have qHCdd := HCdd.out
    have zl := Hx13.out.lt
    (repeat' (first | (with_reducible exact Hx13.out) | (with_reducible refine BlkP.Blk.drew ?_) | (with_reducible refine BlkP.Blk.drewN ?_ _) | (with_reducible refine BlkP.Blk.setAt (us := ?_) (by first | omega | (simp; done) | (simp; omega)) rfl ?_ ?_) | (with_reducible refine BlkP.Blk.otherAt ?_ (by first | omega | (simp; done) | (simp; omega))) | (with_reducible refine BlkP.Blk.newA' (by first | omega | (simp; done) | (simp; omega)) rfl) | (with_reducible refine BlkP.Blk.alloc ?_ _) | (exact rfl))), by
    have qHNxy := HNxy.out
    have qHZx := HZx.out
    have qHCra := HCra.out
    have qHCda := HCda.out
    have qHCn := HCn.out
    have qHCrb := HCrb.out
    have qHCdb := HCdb.out
    have qHCrc := HCrc.out
    have qHCdc := HCdc.out
    have qHCrd := HCrd.out
    have qHCdd := HCdd.out
    have zl := Hy13.out.lt
    (repeat' (first | (with_reducible exact Hy13.out) | (with_reducible refine BlkP.Blk.drew ?_) | (with_reducible refine BlkP.Blk.drewN ?_ _) | (with_reducible refine BlkP.Blk.setAt (us := ?_) (by first | omega | (simp; done) | (simp; omega)) rfl ?_ ?_) | (with_reducible refine BlkP.Blk.otherAt ?_ (by first | omega | (simp; done) | (simp; omega))) | (with_reducible refine BlkP.Blk.newA' (by first | omega | (simp; done) | (simp; omega)) rfl) | (with_reducible refine BlkP.Blk.alloc ?_ _) | (exact rfl))), by
    have qHNxy := HNxy.out
    have qHZx := HZx.out
    have qHCra := HCra.out
    have qHCda := HCda.out
    have qHCn := HCn.out
    have qHCrb := HCrb.out
    have qHCdb := HCdb.out
    have qHCrc := HCrc.out
    have qHCdc := HCdc.out
    have qHCrd := HCrd.out
    have qHCdd := HCdd.out
    have zl := Hn13.out.lt
    (repeat' (first | (with_reducible exact Hn13.out) | (with_reducible refine BlkP.Blk.drew ?_) | (with_reducible refine BlkP.Blk.drewN ?_ _) | (with_reducible refine BlkP.Blk.setAt (us := ?_) (by first | omega | (simp; done) | (simp; omega)) rfl ?_ ?_) | (with_reducible refine BlkP.Blk.otherAt ?_ (by first | omega | (simp; done) | (simp; omega))) | (with_reducible refine BlkP.Blk.newA' (by first | omega | (simp; done) | (simp; omega)) rfl) | (with_reducible refine BlkP.Blk.alloc ?_ _) | (exact rfl))), by
    have qHNxy := HNxy.out
    have qHZx := HZx.out
    have qHCra := HCra.out
    have qHCda := HCda.out
    have qHCn := HCn.out
    have qHCrb := HCrb.out
    have qHCdb := HCdb.out
    have qHCrc := HCrc.out
    have qHCdc := HCdc.out
    have qHCrd := HCrd.out
    have qHCdd := HCdd.out
    have zl := Hrb13.out.lt
    (repeat' (first | (with_reducible exact Hrb13.out) | (with_reducible refine BlkP.Blk.drew ?_) | (with_reducible refine BlkP.Blk.drewN ?_ _) | (with_reducible refine BlkP.Blk.setAt (us := ?_) (by first | omega | (simp; done) | (simp; omega)) rfl ?_ ?_) | (with_reducible refine BlkP.Blk.otherAt ?_ (by first | omega | (simp; done) | (simp; omega))) | (with_reducible refine BlkP.Blk.newA' (by first | omega | (simp; done) | (simp; omega)) rfl) | (with_reducible refine BlkP.Blk.alloc ?_ _) | (exact rfl))), by
    have qHNxy := HNxy.out
    have qHZx := HZx.out
    have qHCra := HCra.out
    have qHCda := HCda.out
    have qHCn := HCn.out
    have qHCrb := HCrb.out
    have qHCdb := HCdb.out
    have qHCrc := HCrc.out
    have qHCdc := HCdc.out
    have qHCrd := HCrd.out
    have qHCdd := HCdd.out
    have zl := Hdb13.out.lt
    (repeat' (first | (with_reducible exact Hdb13.out) | (with_reducible refine BlkP.Blk.drew ?_) | (with_reducible refine BlkP.Blk.drewN ?_ _) | (with_reducible refine BlkP.Blk.setAt (us := ?_) (by first | omega | (simp; done) | (simp; omega)) rfl ?_ ?_) | (with_reducible refine BlkP.Blk.otherAt ?_ (by first | omega | (simp; done) | (simp; omega))) | (with_reducible refine BlkP.Blk.newA' (by first | omega | (simp; done) | (simp; omega)) rfl) | (with_reducible refine BlkP.Blk.alloc ?_ _) | (exact rfl))), by
    have qHNxy := HNxy.out
    have qHZx := HZx.out
    have qHCra := HCra.out
    have qHCda := HCda.out
    have qHCn := HCn.out
    have qHCrb := HCrb.out
    have qHCdb := HCdb.out
    have qHCrc := HCrc.out
    have qHCdc := HCdc.out
    have qHCrd := HCrd.out
    have qHCdd := HCdd.out
    have zl := Hrc13.out.lt
    (repeat' (first | (with_reducible exact Hrc13.out) | (with_reducible refine BlkP.Blk.drew ?_) | (with_reducible refine BlkP.Blk.drewN ?_ _) | (with_reducible refine BlkP.Blk.setAt (us := ?_) (by first | omega | (simp; done) | (simp; omega)) rfl ?_ ?_) | (with_reducible refine BlkP.Blk.otherAt ?_ (by first | omega | (simp; done) | (simp; omega))) | (with_reducible refine BlkP.Blk.newA' (by first | omega | (simp; done) | (simp; omega)) rfl) | (with_reducible refine BlkP.Blk.alloc ?_ _) | (exact rfl))), by
    have qHNxy := HNxy.out
    have qHZx := HZx.out
    have qHCra := HCra.out
    have qHCda := HCda.out
    have qHCn := HCn.out
    have qHCrb := HCrb.out
    have qHCdb := HCdb.out
    have qHCrc := HCrc.out
    have qHCdc := HCdc.out
    have qHCrd := HCrd.out
    have qHCdd := HCdd.out
    have zl := Hdc13.out.lt
    (repeat' (first | (with_reducible exact Hdc13.out) | (with_reducible refine BlkP.Blk.drew ?_) | (with_reducible refine BlkP.Blk.drewN ?_ _) | (with_reducible refine BlkP.Blk.setAt (us := ?_) (by first | omega | (simp; done) | (simp; omega)) rfl ?_ ?_) | (with_reducible refine BlkP.Blk.otherAt ?_ (by first | omega | (simp; done) | (simp; omega))) | (with_reducible refine BlkP.Blk.newA' (by first | omega | (simp; done) | (simp; omega)) rfl) | (with_reducible refine BlkP.Blk.alloc ?_ _) | (exact rfl))), by
    have qHNxy := HNxy.out
    have qHZx := HZx.out
    have qHCra := HCra.out
    have qHCda := HCda.out
    have qHCn := HCn.out
    have qHCrb := HCrb.out
    have qHCdb := HCdb.out
    have qHCrc := HCrc.out
    have qHCdc := HCdc.out
    have qHCrd := HCrd.out
    have qHCdd := HCdd.out
    have zl := Hrd13.out.lt
    (repeat' (first | (with_reducible exact Hrd13.out) | (with_reducible refine BlkP.Blk.drew ?_) | (with_reducible refine BlkP.Blk.drewN ?_ _) | (with_reducible refine BlkP.Blk.setAt (us := ?_) (by first | omega | (simp; done) | (simp; omega)) rfl ?_ ?_) | (with_reducible refine BlkP.Blk.otherAt ?_ (by first | omega | (simp; done) | (simp; omega))) | (with_reducible refine BlkP.Blk.newA' (by first | omega | (simp; done) | (simp; omega)) rfl) | (with_reducible refine BlkP.Blk.alloc ?_ _) | (exact rfl))), by
    have qHNxy := HNxy.out
    have qHZx := HZx.out
    have qHCra := HCra.out
    have qHCda := HCda.out
    have qHCn := HCn.out
    have qHCrb := HCrb.out
    have qHCdb := HCdb.out
    have qHCrc := HCrc.out
    have qHCdc := HCdc.out
    have qHCrd := HCrd.out
    have qHCdd := HCdd.out
    have zl := Hdd13.out.lt
    (repeat' (first | (with_reducible exact Hdd13.out) | (with_reducible refine BlkP.Blk.drew ?_) | (with_reducible refine BlkP.Blk.drewN ?_ _) | (with_reducible refine BlkP.Blk.setAt (us := ?_) (by first | omega | (simp; done) | (simp; omega)) rfl ?_ ?_) | (with_reducible refine BlkP.Blk.otherAt ?_ (by first | omega | (simp; done) | (simp; omega))) | (with_reducible refine BlkP.Blk.newA' (by first | omega | (simp; done) | (simp; omega)) rfl) | (with_reducible refine BlkP.Blk.alloc ?_ _) | (exact rfl))), ⟨w13.heap.size, rfl, by (repeat' (first | (with_reducible refine BlkP.Blk.drew ?_) | (with_reducible refine BlkP.Blk.drewN ?_ _) | (with_reducible refine BlkP.Blk.setAt (us := ?_) (by first | omega | (simp; done) | (simp; omega)) rfl ?_ ?_) | (with_reducible refine BlkP.Blk.otherAt ?_ (by first | omega | (simp; done) | (simp; omega))) | (with_reducible refine BlkP.Blk.newA' (by first | omega | (simp; done) | (simp; omega)) rfl) | (with_reducible refine BlkP.Blk.alloc ?_ _) | (exact rfl)))⟩⟩ ?_
  rintro w14 ⟨hbx, hxx, hxy, hxn, hxrb, hxdb, hxrc, hxdc, hxrd, hxdd, ae, hnw, hxde⟩
  try rw [← hnw]
  have HCde := Lib.hid (show ad < ae from by
    have zl := Hdd13.out.lt
    omega)
  clear hnw
  have HB14 := Lib.hid hbx
  have Hx14 := Lib.hid hxx
  have Hy14 := Lib.hid hxy
  have Hn14 := Lib.hid hxn
  have Hrb14 := Lib.hid hxrb
  have Hdb14 := Lib.hid hxdb
  have Hrc14 := Lib.hid hxrc
  have Hdc14 := Lib.hid hxdc
  have Hrd14 := Lib.hid hxrd
  have Hdd14 := Lib.hid hxdd
  have Hde14 := Lib.hid hxde
  clear hbx hxx hxy hxn hxrb hxdb hxrc hxdc hxrd hxdd hxde
  clear cn23 cn10 cn11 fn23 fn10 fn11 ln
  obtain ⟨qf, hqf⟩ : ∃ q : Nr, q = (⟨(14, 1), fun i => [(6, 0), (0, 0), (0, 0), (0, 0), (13, 0), (0, 0)].getD i (0, 0), fun i => [(0, 0), (0, 0), (0, 0), (0, 0)].getD i (0, 0), 0, 0⟩ : Nr) := ⟨_, rfl⟩
  have HFf := Lib.hid (show fire qf 0 = ⟨[(0, (8, 0))], 0, 1⟩ from by
    subst hqf
    rfl)
  have HVf := Lib.hid (show vals qf = ([.int .u8 14, .int .u8 1, .int .u8 6, .int .u8 0, .int .u8 0, .int .u8 0, .int .u8 0, .int .u8 0, .int .u8 0, .int .u8 0, .int .u8 13, .int .u8 0, .int .u8 0, .int .u8 0, .int .u8 0, .int .u8 0, .int .u8 0, .int .u8 0, .int .u8 0, .int .u8 0, .int .u8 0, .int .u8 0, .int .u8 0, .int .u64 0] : List Value) from by
    subst hqf
    rfl)
  have HDf := Lib.hid (show qf.dr = ((0 : Nat) : Int) from by
    subst hqf
    rfl)
  clear hqf
  refine wp_loadN rfl (.tmp 4) rfl rfl (n := qf) (by rw [HVf.out]; exact Hn14.out) ?_
  go_wp2_with fail
  refine (Fire_d (n := qf) (d := 0) (D := ⟨[(0, (8, 0))], 0, 1⟩) (HT.out.below HB14.out) HDf.out (by omega) HFf.out).mono ?_
  rintro e w15 ⟨v, rfl, ho, hb⟩
  obtain ⟨Af, mf, rfl, _, _, hAA⟩ := ho.form (n := 1) rfl
  obtain ⟨gf, rfl, hg1, hg2⟩ := hAA (by omega)
  obtain ⟨uf, hu, huc⟩ := own_blk ho
  have HUrf := Lib.hid (show uf[0]? = some (.int .i64 0) ∧ uf[1]? = some (.int .u8 8) ∧ uf[2]? = some (.int .u8 0) from ⟨huc 0 0 _ _ rfl rfl, huc 0 1 _ _ rfl rfl, huc 0 2 _ _ rfl rfl⟩)
  have HCrf := Lib.hid (show ae < gf from by
    have zl := Hde14.out.lt
    omega)
  have Hrf15 := Lib.hid hu
  clear ho hAA hg1 hg2 hu huc
  have HB15 := Lib.hid (below_t HB14.out hb)
  have Hx15 := Lib.hid (Hx14.out.below hb)
  have Hy15 := Lib.hid (Hy14.out.below hb)
  have Hn15 := Lib.hid (Hn14.out.below hb)
  have Hrb15 := Lib.hid (Hrb14.out.below hb)
  have Hdb15 := Lib.hid (Hdb14.out.below hb)
  have Hrc15 := Lib.hid (Hrc14.out.below hb)
  have Hdc15 := Lib.hid (Hdc14.out.below hb)
  have Hrd15 := Lib.hid (Hrd14.out.below hb)
  have Hdd15 := Lib.hid (Hdd14.out.below hb)
  have Hde15 := Lib.hid (Hde14.out.below hb)
  clear hb
  go_wp2_with fail
  refine HeldP.wp_named (S := fun W => Below w.heap.size w W ∧ Blk W b1 TC [.int .u8 14, .int .u8 0] ∧ Blk W b2 TC [.int .u8 14, .int .u8 1] ∧ Blk W b4 TN [.int .u8 14, .int .u8 1, .int .u8 6, .int .u8 0, .int .u8 0, .int .u8 0, .int .u8 0, .int .u8 0, .int .u8 0, .int .u8 0, .int .u8 13, .int .u8 0, .int .u8 0, .int .u8 0, .int .u8 0, .int .u8 0, .int .u8 0, .int .u8 0, .int .u8 0, .int .u8 0, .int .u8 0, .int .u8 0, .int .u8 0, .int .u64 0] ∧ Blk W gb TX ub ∧ Blk W ab TD [.slice (some ⟨gb, 0, none⟩) 1 mb, .int .i64 3, .int .i64 (-1)] ∧ Blk W gc TX uc ∧ Blk W ac TD [.slice (some ⟨gc, 0, none⟩) 1 mc, .int .i64 3, .int .i64 (0)] ∧ Blk W gd TX ud ∧ Blk W ad TD [.slice (some ⟨gd, 0, none⟩) 1 md, .int .i64 0, .int .i64 (1)] ∧ Blk W ae TD [.slice Ae 0 me, .int .i64 3, .int .i64 (0)] ∧ Blk W gf TX uf ∧ ∃ af, af = w15.heap.size ∧ Blk W af TD [.slice (some ⟨gf, 0, none⟩) 1 mf, .int .i64 0, .int .i64 (1)]) ⟨by
    have zz := HB15.out.size
    have zs := HS.out
    have qHNxy := HNxy.out
    have qHZx := HZx.out
    have qHCra := HCra.out
    have qHCda := HCda.out
    have qHCn := HCn.out
    have qHCrb := HCrb.out
    have qHCdb := HCdb.out
    have qHCrc := HCrc.out
    have qHCdc := HCdc.out
    have qHCrd := HCrd.out
    have qHCdd := HCdd.out
    have qHCde := HCde.out
    have qHCrf := HCrf.out
    (repeat' (first | (with_reducible exact Below.refl _ _) | (with_reducible refine Below.setCell ?_ (by (first | omega | (simp; done) | (simp; omega))) _) | (with_reducible refine Below.alloc ?_ (by (first | omega | (simp; done) | (simp; omega))) _) | (with_reducible refine Below.drew ?_) | (with_reducible refine below_drewN ?_ _) | (with_reducible refine Below.trans ?_ (Below.mono HB15.out (by (first | omega | (simp; done) | (simp; omega))))))), by
    have qHNxy := HNxy.out
    have qHZx := HZx.out
    have qHCra := HCra.out
    have qHCda := HCda.out
    have qHCn := HCn.out
    have qHCrb := HCrb.out
    have qHCdb := HCdb.out
    have qHCrc := HCrc.out
    have qHCdc := HCdc.out
    have qHCrd := HCrd.out
    have qHCdd := HCdd.out
    have qHCde := HCde.out
    have qHCrf := HCrf.out
    have zl := Hx15.out.lt
    (repeat' (first | (with_reducible exact Hx15.out) | (with_reducible refine BlkP.Blk.drew ?_) | (with_reducible refine BlkP.Blk.drewN ?_ _) | (with_reducible refine BlkP.Blk.setAt (us := ?_) (by first | omega | (simp; done) | (simp; omega)) rfl ?_ ?_) | (with_reducible refine BlkP.Blk.otherAt ?_ (by first | omega | (simp; done) | (simp; omega))) | (with_reducible refine BlkP.Blk.newA' (by first | omega | (simp; done) | (simp; omega)) rfl) | (with_reducible refine BlkP.Blk.alloc ?_ _) | (exact rfl))), by
    have qHNxy := HNxy.out
    have qHZx := HZx.out
    have qHCra := HCra.out
    have qHCda := HCda.out
    have qHCn := HCn.out
    have qHCrb := HCrb.out
    have qHCdb := HCdb.out
    have qHCrc := HCrc.out
    have qHCdc := HCdc.out
    have qHCrd := HCrd.out
    have qHCdd := HCdd.out
    have qHCde := HCde.out
    have qHCrf := HCrf.out
    have zl := Hy15.out.lt
    (repeat' (first | (with_reducible exact Hy15.out) | (with_reducible refine BlkP.Blk.drew ?_) | (with_reducible refine BlkP.Blk.drewN ?_ _) | (with_reducible refine BlkP.Blk.setAt (us := ?_) (by first | omega | (simp; done) | (simp; omega)) rfl ?_ ?_) | (with_reducible refine BlkP.Blk.otherAt ?_ (by first | omega | (simp; done) | (simp; omega))) | (with_reducible refine BlkP.Blk.newA' (by first | omega | (simp; done) | (simp; omega)) rfl) | (with_reducible refine BlkP.Blk.alloc ?_ _) | (exact rfl))), by
    have qHNxy := HNxy.out
    have qHZx := HZx.out
    have qHCra := HCra.out
    have qHCda := HCda.out
    have qHCn := HCn.out
    have qHCrb := HCrb.out
    have qHCdb := HCdb.out
    have qHCrc := HCrc.out
    have qHCdc := HCdc.out
    have qHCrd := HCrd.out
    have qHCdd := HCdd.out
    have qHCde := HCde.out
    have qHCrf := HCrf.out
    have zl := Hn15.out.lt
    (repeat' (first | (with_reducible exact Hn15.out) | (with_reducible refine BlkP.Blk.drew ?_) | (with_reducible refine BlkP.Blk.drewN ?_ _) | (with_reducible refine BlkP.Blk.setAt (us := ?_) (by first | omega | (simp; done) | (simp; omega)) rfl ?_ ?_) | (with_reducible refine BlkP.Blk.otherAt ?_ (by first | omega | (simp; done) | (simp; omega))) | (with_reducible refine BlkP.Blk.newA' (by first | omega | (simp; done) | (simp; omega)) rfl) | (with_reducible refine BlkP.Blk.alloc ?_ _) | (exact rfl))), by
    have qHNxy := HNxy.out
    have qHZx := HZx.out
    have qHCra := HCra.out
    have qHCda := HCda.out
    have qHCn := HCn.out
    have qHCrb := HCrb.out
    have qHCdb := HCdb.out
    have qHCrc := HCrc.out
    have qHCdc := HCdc.out
    have qHCrd := HCrd.out
    have qHCdd := HCdd.out
    have qHCde := HCde.out
    have qHCrf := HCrf.out
    have zl := Hrb15.out.lt
    (repeat' (first | (with_reducible exact Hrb15.out) | (with_reducible refine BlkP.Blk.drew ?_) | (with_reducible refine BlkP.Blk.drewN ?_ _) | (with_reducible refine BlkP.Blk.setAt (us := ?_) (by first | omega | (simp; done) | (simp; omega)) rfl ?_ ?_) | (with_reducible refine BlkP.Blk.otherAt ?_ (by first | omega | (simp; done) | (simp; omega))) | (with_reducible refine BlkP.Blk.newA' (by first | omega | (simp; done) | (simp; omega)) rfl) | (with_reducible refine BlkP.Blk.alloc ?_ _) | (exact rfl))), by
    have qHNxy := HNxy.out
    have qHZx := HZx.out
    have qHCra := HCra.out
    have qHCda := HCda.out
    have qHCn := HCn.out
    have qHCrb := HCrb.out
    have qHCdb := HCdb.out
    have qHCrc := HCrc.out
    have qHCdc := HCdc.out
    have qHCrd := HCrd.out
    have qHCdd := HCdd.out
    have qHCde := HCde.out
    have qHCrf := HCrf.out
    have zl := Hdb15.out.lt
    (repeat' (first | (with_reducible exact Hdb15.out) | (with_reducible refine BlkP.Blk.drew ?_) | (with_reducible refine BlkP.Blk.drewN ?_ _) | (with_reducible refine BlkP.Blk.setAt (us := ?_) (by first | omega | (simp; done) | (simp; omega)) rfl ?_ ?_) | (with_reducible refine BlkP.Blk.otherAt ?_ (by first | omega | (simp; done) | (simp; omega))) | (with_reducible refine BlkP.Blk.newA' (by first | omega | (simp; done) | (simp; omega)) rfl) | (with_reducible refine BlkP.Blk.alloc ?_ _) | (exact rfl))), by
    have qHNxy := HNxy.out
    have qHZx := HZx.out
    have qHCra := HCra.out
    have qHCda := HCda.out
    have qHCn := HCn.out
    have qHCrb := HCrb.out
    have qHCdb := HCdb.out
    have qHCrc := HCrc.out
    have qHCdc := HCdc.out
    have qHCrd := HCrd.out
    have qHCdd := HCdd.out
    have qHCde := HCde.out
    have qHCrf := HCrf.out
    have zl := Hrc15.out.lt
    (repeat' (first | (with_reducible exact Hrc15.out) | (with_reducible refine BlkP.Blk.drew ?_) | (with_reducible refine BlkP.Blk.drewN ?_ _) | (with_reducible refine BlkP.Blk.setAt (us := ?_) (by first | omega | (simp; done) | (simp; omega)) rfl ?_ ?_) | (with_reducible refine BlkP.Blk.otherAt ?_ (by first | omega | (simp; done) | (simp; omega))) | (with_reducible refine BlkP.Blk.newA' (by first | omega | (simp; done) | (simp; omega)) rfl) | (with_reducible refine BlkP.Blk.alloc ?_ _) | (exact rfl))), by
    have qHNxy := HNxy.out
    have qHZx := HZx.out
    have qHCra := HCra.out
    have qHCda := HCda.out
    have qHCn := HCn.out
    have qHCrb := HCrb.out
    have qHCdb := HCdb.out
    have qHCrc := HCrc.out
    have qHCdc := HCdc.out
    have qHCrd := HCrd.out
    have qHCdd := HCdd.out
    have qHCde := HCde.out
    have qHCrf := HCrf.out
    have zl := Hdc15.out.lt
    (repeat' (first | (with_reducible exact Hdc15.out) | (with_reducible refine BlkP.Blk.drew ?_) | (with_reducible refine BlkP.Blk.drewN ?_ _) | (with_reducible refine BlkP.Blk.setAt (us := ?_) (by first | omega | (simp; done) | (simp; omega)) rfl ?_ ?_) | (with_reducible refine BlkP.Blk.otherAt ?_ (by first | omega | (simp; done) | (simp; omega))) | (with_reducible refine BlkP.Blk.newA' (by first | omega | (simp; done) | (simp; omega)) rfl) | (with_reducible refine BlkP.Blk.alloc ?_ _) | (exact rfl))), by
    have qHNxy := HNxy.out
    have qHZx := HZx.out
    have qHCra := HCra.out
    have qHCda := HCda.out
    have qHCn := HCn.out
    have qHCrb := HCrb.out
    have qHCdb := HCdb.out
    have qHCrc := HCrc.out
    have qHCdc := HCdc.out
    have qHCrd := HCrd.out
    have qHCdd := HCdd.out
    have qHCde := HCde.out
    have qHCrf := HCrf.out
    have zl := Hrd15.out.lt
    (repeat' (first | (with_reducible exact Hrd15.out) | (with_reducible refine BlkP.Blk.drew ?_) | (with_reducible refine BlkP.Blk.drewN ?_ _) | (with_reducible refine BlkP.Blk.setAt (us := ?_) (by first | omega | (simp; done) | (simp; omega)) rfl ?_ ?_) | (with_reducible refine BlkP.Blk.otherAt ?_ (by first | omega | (simp; done) | (simp; omega))) | (with_reducible refine BlkP.Blk.newA' (by first | omega | (simp; done) | (simp; omega)) rfl) | (with_reducible refine BlkP.Blk.alloc ?_ _) | (exact rfl))), by
    have qHNxy := HNxy.out
    have qHZx := HZx.out
    have qHCra := HCra.out
    have qHCda := HCda.out
    have qHCn := HCn.out
    have qHCrb := HCrb.out
    have qHCdb := HCdb.out
    have qHCrc := HCrc.out
    have qHCdc := HCdc.out
    have qHCrd := HCrd.out
    have qHCdd := HCdd.out
    have qHCde := HCde.out
    have qHCrf := HCrf.out
    have zl := Hdd15.out.lt
    (repeat' (first | (with_reducible exact Hdd15.out) | (with_reducible refine BlkP.Blk.drew ?_) | (with_reducible refine BlkP.Blk.drewN ?_ _) | (with_reducible refine BlkP.Blk.setAt (us := ?_) (by first | omega | (simp; done) | (simp; omega)) rfl ?_ ?_) | (with_reducible refine BlkP.Blk.otherAt ?_ (by first | omega | (simp; done) | (simp; omega))) | (with_reducible refine BlkP.Blk.newA' (by first | omega | (simp; done) | (simp; omega)) rfl) | (with_reducible refine BlkP.Blk.alloc ?_ _) | (exact rfl))), by
    have qHNxy := HNxy.out
    have qHZx := HZx.out
    have qHCra := HCra.out
    have qHCda := HCda.out
    have qHCn := HCn.out
    have qHCrb := HCrb.out
    have qHCdb := HCdb.out
    have qHCrc := HCrc.out
    have qHCdc := HCdc.out
    have qHCrd := HCrd.out
    have qHCdd := HCdd.out
    have qHCde := HCde.out
    have qHCrf := HCrf.out
    have zl := Hde15.out.lt
    (repeat' (first | (with_reducible exact Hde15.out) | (with_reducible refine BlkP.Blk.drew ?_) | (with_reducible refine BlkP.Blk.drewN ?_ _) | (with_reducible refine BlkP.Blk.setAt (us := ?_) (by first | omega | (simp; done) | (simp; omega)) rfl ?_ ?_) | (with_reducible refine BlkP.Blk.otherAt ?_ (by first | omega | (simp; done) | (simp; omega))) | (with_reducible refine BlkP.Blk.newA' (by first | omega | (simp; done) | (simp; omega)) rfl) | (with_reducible refine BlkP.Blk.alloc ?_ _) | (exact rfl))), by
    have qHNxy := HNxy.out
    have qHZx := HZx.out
    have qHCra := HCra.out
    have qHCda := HCda.out
    have qHCn := HCn.out
    have qHCrb := HCrb.out
    have qHCdb := HCdb.out
    have qHCrc := HCrc.out
    have qHCdc := HCdc.out
    have qHCrd := HCrd.out
    have qHCdd := HCdd.out
    have qHCde := HCde.out
    have qHCrf := HCrf.out
    have zl := Hrf15.out.lt
    (repeat' (first | (with_reducible exact Hrf15.out) | (with_reducible refine BlkP.Blk.drew ?_) | (with_reducible refine BlkP.Blk.drewN ?_ _) | (with_reducible refine BlkP.Blk.setAt (us := ?_) (by first | omega | (simp; done) | (simp; omega)) rfl ?_ ?_) | (with_reducible refine BlkP.Blk.otherAt ?_ (by first | omega | (simp; done) | (simp; omega))) | (with_reducible refine BlkP.Blk.newA' (by first | omega | (simp; done) | (simp; omega)) rfl) | (with_reducible refine BlkP.Blk.alloc ?_ _) | (exact rfl))), ⟨w15.heap.size, rfl, by (repeat' (first | (with_reducible refine BlkP.Blk.drew ?_) | (with_reducible refine BlkP.Blk.drewN ?_ _) | (with_reducible refine BlkP.Blk.setAt (us := ?_) (by first | omega | (simp; done) | (simp; omega)) rfl ?_ ?_) | (with_reducible refine BlkP.Blk.otherAt ?_ (by first | omega | (simp; done) | (simp; omega))) | (with_reducible refine BlkP.Blk.newA' (by first | omega | (simp; done) | (simp; omega)) rfl) | (with_reducible refine BlkP.Blk.alloc ?_ _) | (exact rfl)))⟩⟩ ?_
  rintro w16 ⟨hbx, hxx, hxy, hxn, hxrb, hxdb, hxrc, hxdc, hxrd, hxdd, hxde, hxrf, af, hnw, hxdf⟩
  try rw [← hnw]
  have HCdf := Lib.hid (show gf < af from by
    have zl := Hrf15.out.lt
    omega)
  clear hnw
  have HB16 := Lib.hid hbx
  have Hx16 := Lib.hid hxx
  have Hy16 := Lib.hid hxy
  have Hn16 := Lib.hid hxn
  have Hrb16 := Lib.hid hxrb
  have Hdb16 := Lib.hid hxdb
  have Hrc16 := Lib.hid hxrc
  have Hdc16 := Lib.hid hxdc
  have Hrd16 := Lib.hid hxrd
  have Hdd16 := Lib.hid hxdd
  have Hde16 := Lib.hid hxde
  have Hrf16 := Lib.hid hxrf
  have Hdf16 := Lib.hid hxdf
  clear hbx hxx hxy hxn hxrb hxdb hxrc hxdc hxrd hxdd hxde hxrf hxdf
  have cdb0 : w16.cell? ⟨ab, 0, none⟩ = some (.slice (some ⟨gb, 0, none⟩) 1 mb) := Hdb16.out.cell rfl
  have cdb1 : w16.cell? ⟨ab, 1, none⟩ = some (.int .i64 3) := Hdb16.out.cell rfl
  have cdb2 : w16.cell? ⟨ab, 2, none⟩ = some (.int .i64 (-1)) := Hdb16.out.cell rfl
  have ldb := Hdb16.out.lt
  have crb0 : w16.cell? ⟨gb, 0, none⟩ = some (.int .i64 1) := Hrb16.out.cell HUrb.out.1
  have crb1 : w16.cell? ⟨gb, 1, none⟩ = some (.int .u8 14) := Hrb16.out.cell HUrb.out.2.1
  have crb2 : w16.cell? ⟨gb, 2, none⟩ = some (.int .u8 1) := Hrb16.out.cell HUrb.out.2.2
  have lrb := Hrb16.out.lt
  have cdc0 : w16.cell? ⟨ac, 0, none⟩ = some (.slice (some ⟨gc, 0, none⟩) 1 mc) := Hdc16.out.cell rfl
  have cdc1 : w16.cell? ⟨ac, 1, none⟩ = some (.int .i64 3) := Hdc16.out.cell rfl
  have cdc2 : w16.cell? ⟨ac, 2, none⟩ = some (.int .i64 (0)) := Hdc16.out.cell rfl
  have ldc := Hdc16.out.lt
  have crc0 : w16.cell? ⟨gc, 0, none⟩ = some (.int .i64 1) := Hrc16.out.cell HUrc.out.1
  have crc1 : w16.cell? ⟨gc, 1, none⟩ = some (.int .u8 14) := Hrc16.out.cell HUrc.out.2.1
  have crc2 : w16.cell? ⟨gc, 2, none⟩ = some (.int .u8 0) := Hrc16.out.cell HUrc.out.2.2
  have lrc := Hrc16.out.lt
  have cdd0 : w16.cell? ⟨ad, 0, none⟩ = some (.slice (some ⟨gd, 0, none⟩) 1 md) := Hdd16.out.cell rfl
  have cdd1 : w16.cell? ⟨ad, 1, none⟩ = some (.int .i64 0) := Hdd16.out.cell rfl
  have cdd2 : w16.cell? ⟨ad, 2, none⟩ = some (.int .i64 (1)) := Hdd16.out.cell rfl
  have ldd := Hdd16.out.lt
  have crd0 : w16.cell? ⟨gd, 0, none⟩ = some (.int .i64 0) := Hrd16.out.cell HUrd.out.1
  have crd1 : w16.cell? ⟨gd, 1, none⟩ = some (.int .u8 8) := Hrd16.out.cell HUrd.out.2.1
  have crd2 : w16.cell? ⟨gd, 2, none⟩ = some (.int .u8 0) := Hrd16.out.cell HUrd.out.2.2
  have lrd := Hrd16.out.lt
  have cde0 : w16.cell? ⟨ae, 0, none⟩ = some (.slice Ae 0 me) := Hde16.out.cell rfl
  have cde1 : w16.cell? ⟨ae, 1, none⟩ = some (.int .i64 3) := Hde16.out.cell rfl
  have cde2 : w16.cell? ⟨ae, 2, none⟩ = some (.int .i64 (0)) := Hde16.out.cell rfl
  have lde := Hde16.out.lt
  have cdf0 : w16.cell? ⟨af, 0, none⟩ = some (.slice (some ⟨gf, 0, none⟩) 1 mf) := Hdf16.out.cell rfl
  have cdf1 : w16.cell? ⟨af, 1, none⟩ = some (.int .i64 0) := Hdf16.out.cell rfl
  have cdf2 : w16.cell? ⟨af, 2, none⟩ = some (.int .i64 (1)) := Hdf16.out.cell rfl
  have ldf := Hdf16.out.lt
  have crf0 : w16.cell? ⟨gf, 0, none⟩ = some (.int .i64 0) := Hrf16.out.cell HUrf.out.1
  have crf1 : w16.cell? ⟨gf, 1, none⟩ = some (.int .u8 8) := Hrf16.out.cell HUrf.out.2.1
  have crf2 : w16.cell? ⟨gf, 2, none⟩ = some (.int .u8 0) := Hrf16.out.cell HUrf.out.2.2
  have lrf := Hrf16.out.lt
  have cx0 : w16.cell? ⟨b1, 0, none⟩ = some (.int .u8 14) := Hx16.out.cell rfl
  have cx1 : w16.cell? ⟨b1, 1, none⟩ = some (.int .u8 0) := Hx16.out.cell rfl
  have lx := Hx16.out.lt
  have cy0 : w16.cell? ⟨b2, 0, none⟩ = some (.int .u8 14) := Hy16.out.cell rfl
  have cy1 : w16.cell? ⟨b2, 1, none⟩ = some (.int .u8 1) := Hy16.out.cell rfl
  have ly := Hy16.out.lt
  refine wp_region_noPanic ?_
  refine wp_region_held_drew (S := fun W => Below w16.heap.size w16 W) (by kernel_rfl) ((Below.refl _ w16).drew) (fun hHeld => ?_)
  refine wpAnyH_take (i := 0) (oi := ⟨some 68, _, _, _, _, _⟩) (v := .pointer (some ⟨ab, 0, none⟩)) rfl (by kernel_rfl) (by kernel_rfl) (by kernel_rfl) (fun _ _ _ h => h) (Or.inl ⟨by rfl, fun W hSW => by go_simp⟩) hHeld ?_
  simp only [Act.put, List.setIfInBounds_toArray, List.set_cons_zero, List.set_cons_succ]
  refine wpAnyH_take (i := 1) (oi := ⟨some 69, _, _, _, _, _⟩) (v := .slice (some ⟨gb, 0, none⟩) 1 mb) rfl (by kernel_rfl) (by kernel_rfl) (by kernel_rfl) (fun _ _ _ h => h) (Or.inl ⟨by rfl, fun W hSW => by have a0 := (hSW.cell (p := ⟨ab, 0, none⟩) ldb).trans cdb0; go_simp⟩) hHeld ?_
  simp only [Act.put, List.setIfInBounds_toArray, List.set_cons_zero, List.set_cons_succ]
  refine wpAnyH_take (i := 2) (oi := ⟨some 70, _, _, _, _, _⟩) (v := .int .i64 1) rfl (by kernel_rfl) (by kernel_rfl) (by kernel_rfl) (fun _ _ _ h => h) (Or.inl ⟨by rfl, fun W hSW => by go_simp⟩) hHeld ?_
  simp only [Act.put, List.setIfInBounds_toArray, List.set_cons_zero, List.set_cons_succ]
  refine wpAnyH_take (i := 3) (oi := ⟨some 71, _, _, _, _, _⟩) (v := .bool false) rfl (by kernel_rfl) (by kernel_rfl) (by kernel_rfl) (fun _ _ _ h => h) (Or.inl ⟨by rfl, fun W hSW => by go_simp⟩) hHeld ?_
  simp only [Act.put, List.setIfInBounds_toArray, List.set_cons_zero, List.set_cons_succ]
  refine wpAnyH_take (i := 4) (oi := ⟨some 72, _, _, _, _, _⟩) (v := .bool false) rfl (by kernel_rfl) (by kernel_rfl) (by kernel_rfl) (fun _ _ _ h => h) (Or.inl ⟨by rfl, fun W hSW => by go_simp⟩) hHeld ?_
  simp only [Act.put, List.setIfInBounds_toArray, List.set_cons_zero, List.set_cons_succ]
  refine wpAnyH_take (i := 5) (oi := ⟨some 73, _, _, _, _, _⟩) (v := .pointer (some ⟨ab, 0, none⟩)) rfl (by kernel_rfl) (by kernel_rfl) (by kernel_rfl) (fun _ _ _ h => h) (Or.inl ⟨by rfl, fun W hSW => by go_simp⟩) hHeld ?_
  simp only [Act.put, List.setIfInBounds_toArray, List.set_cons_zero, List.set_cons_succ]
  refine wpAnyH_take (i := 6) (oi := ⟨some 74, _, _, _, _, _⟩) (v := .slice (some ⟨gb, 0, none⟩) 1 mb) rfl (by kernel_rfl) (by kernel_rfl) (by kernel_rfl) (fun _ _ _ h => h) (Or.inl ⟨by rfl, fun W hSW => by have a0 := (hSW.cell (p := ⟨ab, 0, none⟩) ldb).trans cdb0; go_simp⟩) hHeld ?_
  simp only [Act.put, List.setIfInBounds_toArray, List.set_cons_zero, List.set_cons_succ]
  refine wpAnyH_take (i := 7) (oi := ⟨some 75, _, _, _, _, _⟩) (v := .pointer (some ⟨gb, 0, none⟩)) rfl (by kernel_rfl) (by kernel_rfl) (by kernel_rfl) (fun _ _ _ h => h) (Or.inl ⟨by rfl, fun W hSW => by go_simp⟩) hHeld ?_
  simp only [Act.put, List.setIfInBounds_toArray, List.set_cons_zero, List.set_cons_succ]
  refine wpAnyH_take (i := 8) (oi := ⟨some 76, _, _, _, _, _⟩) (v := .agg #[.int .i64 1, .int .u8 14, .int .u8 1]) rfl (by kernel_rfl) (by kernel_rfl) (by kernel_rfl) (fun _ _ _ h => h) (Or.inl ⟨by rfl, fun W hSW => by have a0 := (hSW.cell (p := ⟨gb, 0, none⟩) lrb).trans crb0; have a1 := (hSW.cell (p := ⟨gb, 1, none⟩) lrb).trans crb1; have a2 := (hSW.cell (p := ⟨gb, 2, none⟩) lrb).trans crb2; go_simp⟩) hHeld ?_
  simp only [Act.put, List.setIfInBounds_toArray, List.set_cons_zero, List.set_cons_succ]
  refine wpAnyH_take (i := 9) (oi := ⟨some 77, _, _, _, _, _⟩) (v := .agg #[.int .u8 14, .int .u8 1]) rfl (by kernel_rfl) (by kernel_rfl) (by kernel_rfl) (fun _ _ _ h => h) (Or.inl ⟨by rfl, fun W hSW => by have a0 := (hSW.cell (p := ⟨b2, 0, none⟩) ly).trans cy0; have a1 := (hSW.cell (p := ⟨b2, 1, none⟩) ly).trans cy1; go_simp⟩) hHeld ?_
  simp only [Act.put, List.setIfInBounds_toArray, List.set_cons_zero, List.set_cons_succ]
  refine wpAnyH_take (i := 10) (oi := ⟨some 78, _, _, _, _, _⟩) (v := .agg #[.int .i64 1, .int .u8 14, .int .u8 1]) rfl (by kernel_rfl) (by kernel_rfl) (by kernel_rfl) (fun _ _ _ h => h) (Or.inl ⟨by rfl, fun W hSW => by go_simp⟩) hHeld ?_
  simp only [Act.put, List.setIfInBounds_toArray, List.set_cons_zero, List.set_cons_succ]
  refine wpAnyH_take (i := 11) (oi := ⟨some 79, _, _, _, _, _⟩) (v := .bool false) rfl (by kernel_rfl) (by kernel_rfl) (by kernel_rfl) (fun _ _ _ h => h) (Or.inl ⟨by rfl, fun W hSW => by go_simp⟩) hHeld ?_
  simp only [Act.put, List.setIfInBounds_toArray, List.set_cons_zero, List.set_cons_succ]
  refine wpAnyH_take (i := 12) (oi := ⟨some 80, _, _, _, _, _⟩) (v := .bool false) rfl (by kernel_rfl) (by kernel_rfl) (by kernel_rfl) (fun _ _ _ h => h) (Or.inl ⟨by rfl, fun W hSW => by go_simp⟩) hHeld ?_
  simp only [Act.put, List.setIfInBounds_toArray, List.set_cons_zero, List.set_cons_succ]
  refine wpAnyH_take (i := 13) (oi := ⟨some 81, _, _, _, _, _⟩) (v := .bool false) rfl (by kernel_rfl) (by kernel_rfl) (by kernel_rfl) (fun _ _ _ h => h) (Or.inl ⟨by rfl, fun W hSW => by go_simp⟩) hHeld ?_
  simp only [Act.put, List.setIfInBounds_toArray, List.set_cons_zero, List.set_cons_succ]
  refine wpAnyH_take (i := 14) (oi := ⟨some 82, _, _, _, _, _⟩) (v := .pointer (some ⟨ab, 2, none⟩)) rfl (by kernel_rfl) (by kernel_rfl) (by kernel_rfl) (fun _ _ _ h => h) (Or.inl ⟨by rfl, fun W hSW => by go_simp⟩) hHeld ?_
  simp only [Act.put, List.setIfInBounds_toArray, List.set_cons_zero, List.set_cons_succ]
  refine wpAnyH_take (i := 15) (oi := ⟨some 83, _, _, _, _, _⟩) (v := .int .i64 (-1)) rfl (by kernel_rfl) (by kernel_rfl) (by kernel_rfl) (fun _ _ _ h => h) (Or.inl ⟨by rfl, fun W hSW => by have a0 := (hSW.cell (p := ⟨ab, 2, none⟩) ldb).trans cdb2; go_simp⟩) hHeld ?_
  simp only [Act.put, List.setIfInBounds_toArray, List.set_cons_zero, List.set_cons_succ]
  refine wpAnyH_take (i := 16) (oi := ⟨some 84, _, _, _, _, _⟩) (v := .bool false) rfl (by kernel_rfl) (by kernel_rfl) (by kernel_rfl) (fun _ _ _ h => h) (Or.inl ⟨by rfl, fun W hSW => by go_simp⟩) hHeld ?_
  simp only [Act.put, List.setIfInBounds_toArray, List.set_cons_zero, List.set_cons_succ]
  refine wpAnyH_take (i := 17) (oi := ⟨some 85, _, _, _, _, _⟩) (v := .bool false) rfl (by kernel_rfl) (by kernel_rfl) (by kernel_rfl) (fun _ _ _ h => h) (Or.inl ⟨by rfl, fun W hSW => by go_simp⟩) hHeld ?_
  simp only [Act.put, List.setIfInBounds_toArray, List.set_cons_zero, List.set_cons_succ]
  refine wpAnyH_take (i := 18) (oi := ⟨some 86, _, _, _, _, _⟩) (v := .bool false) rfl (by kernel_rfl) (by kernel_rfl) (by kernel_rfl) (fun _ _ _ h => h) (Or.inl ⟨by rfl, fun W hSW => by go_simp⟩) hHeld ?_
  simp only [Act.put, List.setIfInBounds_toArray, List.set_cons_zero, List.set_cons_succ]
  refine wpAnyH_take (i := 19) (oi := ⟨some 87, _, _, _, _, _⟩) (v := .pointer (some ⟨ab, 1, none⟩)) rfl (by kernel_rfl) (by kernel_rfl) (by kernel_rfl) (fun _ _ _ h => h) (Or.inl ⟨by rfl, fun W hSW => by go_simp⟩) hHeld ?_
  simp only [Act.put, List.setIfInBounds_toArray, List.set_cons_zero, List.set_cons_succ]
  refine wpAnyH_take (i := 20) (oi := ⟨some 88, _, _, _, _, _⟩) (v := .int .i64 3) rfl (by kernel_rfl) (by kernel_rfl) (by kernel_rfl) (fun _ _ _ h => h) (Or.inl ⟨by rfl, fun W hSW => by have a0 := (hSW.cell (p := ⟨ab, 1, none⟩) ldb).trans cdb1; go_simp⟩) hHeld ?_
  simp only [Act.put, List.setIfInBounds_toArray, List.set_cons_zero, List.set_cons_succ]
  refine wpAnyH_take (i := 21) (oi := ⟨some 89, _, _, _, _, _⟩) (v := .bool false) rfl (by kernel_rfl) (by kernel_rfl) (by kernel_rfl) (fun _ _ _ h => h) (Or.inl ⟨by rfl, fun W hSW => by go_simp⟩) hHeld ?_
  simp only [Act.put, List.setIfInBounds_toArray, List.set_cons_zero, List.set_cons_succ]
  refine wpAnyH_take (i := 22) (oi := ⟨some 90, _, _, _, _, _⟩) (v := .bool false) rfl (by kernel_rfl) (by kernel_rfl) (by kernel_rfl) (fun _ _ _ h => h) (Or.inl ⟨by rfl, fun W hSW => by go_simp⟩) hHeld ?_
  simp only [Act.put, List.setIfInBounds_toArray, List.set_cons_zero, List.set_cons_succ]
  refine wpAnyH_take (i := 23) (oi := ⟨some 91, _, _, _, _, _⟩) (v := .bool false) rfl (by kernel_rfl) (by kernel_rfl) (by kernel_rfl) (fun _ _ _ h => h) (Or.inl ⟨by rfl, fun W hSW => by go_simp⟩) hHeld ?_
  simp only [Act.put, List.setIfInBounds_toArray, List.set_cons_zero, List.set_cons_succ]
  refine wpAnyH_take (i := 24) (oi := ⟨some 92, _, _, _, _, _⟩) (v := .pointer (some ⟨ac, 0, none⟩)) rfl (by kernel_rfl) (by kernel_rfl) (by kernel_rfl) (fun _ _ _ h => h) (Or.inl ⟨by rfl, fun W hSW => by go_simp⟩) hHeld ?_
  simp only [Act.put, List.setIfInBounds_toArray, List.set_cons_zero, List.set_cons_succ]
  refine wpAnyH_take (i := 25) (oi := ⟨some 93, _, _, _, _, _⟩) (v := .slice (some ⟨gc, 0, none⟩) 1 mc) rfl (by kernel_rfl) (by kernel_rfl) (by kernel_rfl) (fun _ _ _ h => h) (Or.inl ⟨by rfl, fun W hSW => by have a0 := (hSW.cell (p := ⟨ac, 0, none⟩) ldc).trans cdc0; go_simp⟩) hHeld ?_
  simp only [Act.put, List.setIfInBounds_toArray, List.set_cons_zero, List.set_cons_succ]
  refine wpAnyH_take (i := 26) (oi := ⟨some 94, _, _, _, _, _⟩) (v := .int .i64 1) rfl (by kernel_rfl) (by kernel_rfl) (by kernel_rfl) (fun _ _ _ h => h) (Or.inl ⟨by rfl, fun W hSW => by go_simp⟩) hHeld ?_
  simp only [Act.put, List.setIfInBounds_toArray, List.set_cons_zero, List.set_cons_succ]
  refine wpAnyH_take (i := 27) (oi := ⟨some 95, _, _, _, _, _⟩) (v := .bool false) rfl (by kernel_rfl) (by kernel_rfl) (by kernel_rfl) (fun _ _ _ h => h) (Or.inl ⟨by rfl, fun W hSW => by go_simp⟩) hHeld ?_
  simp only [Act.put, List.setIfInBounds_toArray, List.set_cons_zero, List.set_cons_succ]
  refine wpAnyH_take (i := 28) (oi := ⟨some 96, _, _, _, _, _⟩) (v := .bool false) rfl (by kernel_rfl) (by kernel_rfl) (by kernel_rfl) (fun _ _ _ h => h) (Or.inl ⟨by rfl, fun W hSW => by go_simp⟩) hHeld ?_
  simp only [Act.put, List.setIfInBounds_toArray, List.set_cons_zero, List.set_cons_succ]
  refine wpAnyH_take (i := 29) (oi := ⟨some 97, _, _, _, _, _⟩) (v := .bool false) rfl (by kernel_rfl) (by kernel_rfl) (by kernel_rfl) (fun _ _ _ h => h) (Or.inl ⟨by rfl, fun W hSW => by go_simp⟩) hHeld ?_
  simp only [Act.put, List.setIfInBounds_toArray, List.set_cons_zero, List.set_cons_succ]
  refine wpAnyH_take (i := 30) (oi := ⟨some 98, _, _, _, _, _⟩) (v := .pointer (some ⟨ac, 0, none⟩)) rfl (by kernel_rfl) (by kernel_rfl) (by kernel_rfl) (fun _ _ _ h => h) (Or.inl ⟨by rfl, fun W hSW => by go_simp⟩) hHeld ?_
  simp only [Act.put, List.setIfInBounds_toArray, List.set_cons_zero, List.set_cons_succ]
  refine wpAnyH_take (i := 31) (oi := ⟨some 99, _, _, _, _, _⟩) (v := .slice (some ⟨gc, 0, none⟩) 1 mc) rfl (by kernel_rfl) (by kernel_rfl) (by kernel_rfl) (fun _ _ _ h => h) (Or.inl ⟨by rfl, fun W hSW => by have a0 := (hSW.cell (p := ⟨ac, 0, none⟩) ldc).trans cdc0; go_simp⟩) hHeld ?_
  simp only [Act.put, List.setIfInBounds_toArray, List.set_cons_zero, List.set_cons_succ]
  refine wpAnyH_take (i := 32) (oi := ⟨some 100, _, _, _, _, _⟩) (v := .pointer (some ⟨gc, 0, none⟩)) rfl (by kernel_rfl) (by kernel_rfl) (by kernel_rfl) (fun _ _ _ h => h) (Or.inl ⟨by rfl, fun W hSW => by go_simp⟩) hHeld ?_
  simp only [Act.put, List.setIfInBounds_toArray, List.set_cons_zero, List.set_cons_succ]
  refine wpAnyH_take (i := 33) (oi := ⟨some 101, _, _, _, _, _⟩) (v := .agg #[.int .i64 1, .int .u8 14, .int .u8 0]) rfl (by kernel_rfl) (by kernel_rfl) (by kernel_rfl) (fun _ _ _ h => h) (Or.inl ⟨by rfl, fun W hSW => by have a0 := (hSW.cell (p := ⟨gc, 0, none⟩) lrc).trans crc0; have a1 := (hSW.cell (p := ⟨gc, 1, none⟩) lrc).trans crc1; have a2 := (hSW.cell (p := ⟨gc, 2, none⟩) lrc).trans crc2; go_simp⟩) hHeld ?_
  simp only [Act.put, List.setIfInBounds_toArray, List.set_cons_zero, List.set_cons_succ]
  refine wpAnyH_take (i := 34) (oi := ⟨some 102, _, _, _, _, _⟩) (v := .agg #[.int .u8 14, .int .u8 0]) rfl (by kernel_rfl) (by kernel_rfl) (by kernel_rfl) (fun _ _ _ h => h) (Or.inl ⟨by rfl, fun W hSW => by have a0 := (hSW.cell (p := ⟨b1, 0, none⟩) lx).trans cx0; have a1 := (hSW.cell (p := ⟨b1, 1, none⟩) lx).trans cx1; go_simp⟩) hHeld ?_
  simp only [Act.put, List.setIfInBounds_toArray, List.set_cons_zero, List.set_cons_succ]
  refine wpAnyH_take (i := 35) (oi := ⟨some 103, _, _, _, _, _⟩) (v := .agg #[.int .i64 1, .int .u8 14, .int .u8 0]) rfl (by kernel_rfl) (by kernel_rfl) (by kernel_rfl) (fun _ _ _ h => h) (Or.inl ⟨by rfl, fun W hSW => by go_simp⟩) hHeld ?_
  simp only [Act.put, List.setIfInBounds_toArray, List.set_cons_zero, List.set_cons_succ]
  refine wpAnyH_take (i := 36) (oi := ⟨some 104, _, _, _, _, _⟩) (v := .bool false) rfl (by kernel_rfl) (by kernel_rfl) (by kernel_rfl) (fun _ _ _ h => h) (Or.inl ⟨by rfl, fun W hSW => by go_simp⟩) hHeld ?_
  simp only [Act.put, List.setIfInBounds_toArray, List.set_cons_zero, List.set_cons_succ]
  refine wpAnyH_take (i := 37) (oi := ⟨some 105, _, _, _, _, _⟩) (v := .bool false) rfl (by kernel_rfl) (by kernel_rfl) (by kernel_rfl) (fun _ _ _ h => h) (Or.inl ⟨by rfl, fun W hSW => by go_simp⟩) hHeld ?_
  simp only [Act.put, List.setIfInBounds_toArray, List.set_cons_zero, List.set_cons_succ]
  refine wpAnyH_take (i := 38) (oi := ⟨some 106, _, _, _, _, _⟩) (v := .bool false) rfl (by kernel_rfl) (by kernel_rfl) (by kernel_rfl) (fun _ _ _ h => h) (Or.inl ⟨by rfl, fun W hSW => by go_simp⟩) hHeld ?_
  simp only [Act.put, List.setIfInBounds_toArray, List.set_cons_zero, List.set_cons_succ]
  refine wpAnyH_take (i := 39) (oi := ⟨some 107, _, _, _, _, _⟩) (v := .pointer (some ⟨ac, 2, none⟩)) rfl (by kernel_rfl) (by kernel_rfl) (by kernel_rfl) (fun _ _ _ h => h) (Or.inl ⟨by rfl, fun W hSW => by go_simp⟩) hHeld ?_
  simp only [Act.put, List.setIfInBounds_toArray, List.set_cons_zero, List.set_cons_succ]
  refine wpAnyH_take (i := 40) (oi := ⟨some 108, _, _, _, _, _⟩) (v := .int .i64 0) rfl (by kernel_rfl) (by kernel_rfl) (by kernel_rfl) (fun _ _ _ h => h) (Or.inl ⟨by rfl, fun W hSW => by have a0 := (hSW.cell (p := ⟨ac, 2, none⟩) ldc).trans cdc2; go_simp⟩) hHeld ?_
  simp only [Act.put, List.setIfInBounds_toArray, List.set_cons_zero, List.set_cons_succ]
  refine wpAnyH_take (i := 41) (oi := ⟨some 109, _, _, _, _, _⟩) (v := .bool false) rfl (by kernel_rfl) (by kernel_rfl) (by kernel_rfl) (fun _ _ _ h => h) (Or.inl ⟨by rfl, fun W hSW => by go_simp⟩) hHeld ?_
  simp only [Act.put, List.setIfInBounds_toArray, List.set_cons_zero, List.set_cons_succ]
  refine wpAnyH_take (i := 42) (oi := ⟨some 110, _, _, _, _, _⟩) (v := .bool false) rfl (by kernel_rfl) (by kernel_rfl) (by kernel_rfl) (fun _ _ _ h => h) (Or.inl ⟨by rfl, fun W hSW => by go_simp⟩) hHeld ?_
  simp only [Act.put, List.setIfInBounds_toArray, List.set_cons_zero, List.set_cons_succ]
  refine wpAnyH_take (i := 43) (oi := ⟨some 111, _, _, _, _, _⟩) (v := .bool false) rfl (by kernel_rfl) (by kernel_rfl) (by kernel_rfl) (fun _ _ _ h => h) (Or.inl ⟨by rfl, fun W hSW => by go_simp⟩) hHeld ?_
  simp only [Act.put, List.setIfInBounds_toArray, List.set_cons_zero, List.set_cons_succ]
  refine wpAnyH_take (i := 44) (oi := ⟨some 112, _, _, _, _, _⟩) (v := .pointer (some ⟨ad, 2, none⟩)) rfl (by kernel_rfl) (by kernel_rfl) (by kernel_rfl) (fun _ _ _ h => h) (Or.inl ⟨by rfl, fun W hSW => by go_simp⟩) hHeld ?_
  simp only [Act.put, List.setIfInBounds_toArray, List.set_cons_zero, List.set_cons_succ]
  refine wpAnyH_take (i := 45) (oi := ⟨some 113, _, _, _, _, _⟩) (v := .int .i64 1) rfl (by kernel_rfl) (by kernel_rfl) (by kernel_rfl) (fun _ _ _ h => h) (Or.inl ⟨by rfl, fun W hSW => by have a0 := (hSW.cell (p := ⟨ad, 2, none⟩) ldd).trans cdd2; go_simp⟩) hHeld ?_
  simp only [Act.put, List.setIfInBounds_toArray, List.set_cons_zero, List.set_cons_succ]
  refine wpAnyH_take (i := 46) (oi := ⟨some 114, _, _, _, _, _⟩) (v := .bool false) rfl (by kernel_rfl) (by kernel_rfl) (by kernel_rfl) (fun _ _ _ h => h) (Or.inl ⟨by rfl, fun W hSW => by go_simp⟩) hHeld ?_
  simp only [Act.put, List.setIfInBounds_toArray, List.set_cons_zero, List.set_cons_succ]
  refine wpAnyH_take (i := 47) (oi := ⟨some 115, _, _, _, _, _⟩) (v := .bool false) rfl (by kernel_rfl) (by kernel_rfl) (by kernel_rfl) (fun _ _ _ h => h) (Or.inl ⟨by rfl, fun W hSW => by go_simp⟩) hHeld ?_
  simp only [Act.put, List.setIfInBounds_toArray, List.set_cons_zero, List.set_cons_succ]
  refine wpAnyH_take (i := 48) (oi := ⟨some 116, _, _, _, _, _⟩) (v := .bool false) rfl (by kernel_rfl) (by kernel_rfl) (by kernel_rfl) (fun _ _ _ h => h) (Or.inl ⟨by rfl, fun W hSW => by go_simp⟩) hHeld ?_
  simp only [Act.put, List.setIfInBounds_toArray, List.set_cons_zero, List.set_cons_succ]
  refine wpAnyH_take (i := 49) (oi := ⟨some 117, _, _, _, _, _⟩) (v := .pointer (some ⟨ad, 0, none⟩)) rfl (by kernel_rfl) (by kernel_rfl) (by kernel_rfl) (fun _ _ _ h => h) (Or.inl ⟨by rfl, fun W hSW => by go_simp⟩) hHeld ?_
  simp only [Act.put, List.setIfInBounds_toArray, List.set_cons_zero, List.set_cons_succ]
  refine wpAnyH_take (i := 50) (oi := ⟨some 118, _, _, _, _, _⟩) (v := .slice (some ⟨gd, 0, none⟩) 1 md) rfl (by kernel_rfl) (by kernel_rfl) (by kernel_rfl) (fun _ _ _ h => h) (Or.inl ⟨by rfl, fun W hSW => by have a0 := (hSW.cell (p := ⟨ad, 0, none⟩) ldd).trans cdd0; go_simp⟩) hHeld ?_
  simp only [Act.put, List.setIfInBounds_toArray, List.set_cons_zero, List.set_cons_succ]
  refine wpAnyH_take (i := 51) (oi := ⟨some 119, _, _, _, _, _⟩) (v := .int .i64 1) rfl (by kernel_rfl) (by kernel_rfl) (by kernel_rfl) (fun _ _ _ h => h) (Or.inl ⟨by rfl, fun W hSW => by go_simp⟩) hHeld ?_
  simp only [Act.put, List.setIfInBounds_toArray, List.set_cons_zero, List.set_cons_succ]
  refine wpAnyH_take (i := 52) (oi := ⟨some 120, _, _, _, _, _⟩) (v := .bool false) rfl (by kernel_rfl) (by kernel_rfl) (by kernel_rfl) (fun _ _ _ h => h) (Or.inl ⟨by rfl, fun W hSW => by go_simp⟩) hHeld ?_
  simp only [Act.put, List.setIfInBounds_toArray, List.set_cons_zero, List.set_cons_succ]
  refine wpAnyH_take (i := 53) (oi := ⟨some 121, _, _, _, _, _⟩) (v := .bool false) rfl (by kernel_rfl) (by kernel_rfl) (by kernel_rfl) (fun _ _ _ h => h) (Or.inl ⟨by rfl, fun W hSW => by go_simp⟩) hHeld ?_
  simp only [Act.put, List.setIfInBounds_toArray, List.set_cons_zero, List.set_cons_succ]
  refine wpAnyH_take (i := 54) (oi := ⟨some 122, _, _, _, _, _⟩) (v := .bool false) rfl (by kernel_rfl) (by kernel_rfl) (by kernel_rfl) (fun _ _ _ h => h) (Or.inl ⟨by rfl, fun W hSW => by go_simp⟩) hHeld ?_
  simp only [Act.put, List.setIfInBounds_toArray, List.set_cons_zero, List.set_cons_succ]
  refine wpAnyH_take (i := 55) (oi := ⟨some 123, _, _, _, _, _⟩) (v := .pointer (some ⟨ae, 0, none⟩)) rfl (by kernel_rfl) (by kernel_rfl) (by kernel_rfl) (fun _ _ _ h => h) (Or.inl ⟨by rfl, fun W hSW => by go_simp⟩) hHeld ?_
  simp only [Act.put, List.setIfInBounds_toArray, List.set_cons_zero, List.set_cons_succ]
  refine wpAnyH_take (i := 56) (oi := ⟨some 124, _, _, _, _, _⟩) (v := .slice Ae 0 me) rfl (by kernel_rfl) (by kernel_rfl) (by kernel_rfl) (fun _ _ _ h => h) (Or.inl ⟨by rfl, fun W hSW => by have a0 := (hSW.cell (p := ⟨ae, 0, none⟩) lde).trans cde0; go_simp⟩) hHeld ?_
  simp only [Act.put, List.setIfInBounds_toArray, List.set_cons_zero, List.set_cons_succ]
  refine wpAnyH_take (i := 57) (oi := ⟨some 125, _, _, _, _, _⟩) (v := .int .i64 0) rfl (by kernel_rfl) (by kernel_rfl) (by kernel_rfl) (fun _ _ _ h => h) (Or.inl ⟨by rfl, fun W hSW => by go_simp⟩) hHeld ?_
  simp only [Act.put, List.setIfInBounds_toArray, List.set_cons_zero, List.set_cons_succ]
  refine wpAnyH_take (i := 58) (oi := ⟨some 126, _, _, _, _, _⟩) (v := .bool false) rfl (by kernel_rfl) (by kernel_rfl) (by kernel_rfl) (fun _ _ _ h => h) (Or.inl ⟨by rfl, fun W hSW => by go_simp⟩) hHeld ?_
  simp only [Act.put, List.setIfInBounds_toArray, List.set_cons_zero, List.set_cons_succ]
  refine wpAnyH_take (i := 59) (oi := ⟨some 127, _, _, _, _, _⟩) (v := .bool false) rfl (by kernel_rfl) (by kernel_rfl) (by kernel_rfl) (fun _ _ _ h => h) (Or.inl ⟨by rfl, fun W hSW => by go_simp⟩) hHeld ?_
  simp only [Act.put, List.setIfInBounds_toArray, List.set_cons_zero, List.set_cons_succ]
  refine wpAnyH_take (i := 60) (oi := ⟨some 128, _, _, _, _, _⟩) (v := .bool false) rfl (by kernel_rfl) (by kernel_rfl) (by kernel_rfl) (fun _ _ _ h => h) (Or.inl ⟨by rfl, fun W hSW => by go_simp⟩) hHeld ?_
  simp only [Act.put, List.setIfInBounds_toArray, List.set_cons_zero, List.set_cons_succ]
  refine wpAnyH_take (i := 61) (oi := ⟨some 129, _, _, _, _, _⟩) (v := .pointer (some ⟨ae, 1, none⟩)) rfl (by kernel_rfl) (by kernel_rfl) (by kernel_rfl) (fun _ _ _ h => h) (Or.inl ⟨by rfl, fun W hSW => by go_simp⟩) hHeld ?_
  simp only [Act.put, List.setIfInBounds_toArray, List.set_cons_zero, List.set_cons_succ]
  refine wpAnyH_take (i := 62) (oi := ⟨some 130, _, _, _, _, _⟩) (v := .int .i64 3) rfl (by kernel_rfl) (by kernel_rfl) (by kernel_rfl) (fun _ _ _ h => h) (Or.inl ⟨by rfl, fun W hSW => by have a0 := (hSW.cell (p := ⟨ae, 1, none⟩) lde).trans cde1; go_simp⟩) hHeld ?_
  simp only [Act.put, List.setIfInBounds_toArray, List.set_cons_zero, List.set_cons_succ]
  refine wpAnyH_take (i := 63) (oi := ⟨some 131, _, _, _, _, _⟩) (v := .bool false) rfl (by kernel_rfl) (by kernel_rfl) (by kernel_rfl) (fun _ _ _ h => h) (Or.inl ⟨by rfl, fun W hSW => by go_simp⟩) hHeld ?_
  simp only [Act.put, List.setIfInBounds_toArray, List.set_cons_zero, List.set_cons_succ]
  refine wpAnyH_take (i := 64) (oi := ⟨some 132, _, _, _, _, _⟩) (v := .bool false) rfl (by kernel_rfl) (by kernel_rfl) (by kernel_rfl) (fun _ _ _ h => h) (Or.inl ⟨by rfl, fun W hSW => by go_simp⟩) hHeld ?_
  simp only [Act.put, List.setIfInBounds_toArray, List.set_cons_zero, List.set_cons_succ]
  refine wpAnyH_take (i := 65) (oi := ⟨some 133, _, _, _, _, _⟩) (v := .bool false) rfl (by kernel_rfl) (by kernel_rfl) (by kernel_rfl) (fun _ _ _ h => h) (Or.inl ⟨by rfl, fun W hSW => by go_simp⟩) hHeld ?_
  simp only [Act.put, List.setIfInBounds_toArray, List.set_cons_zero, List.set_cons_succ]
  refine wpAnyH_take (i := 66) (oi := ⟨some 134, _, _, _, _, _⟩) (v := .pointer (some ⟨af, 0, none⟩)) rfl (by kernel_rfl) (by kernel_rfl) (by kernel_rfl) (fun _ _ _ h => h) (Or.inl ⟨by rfl, fun W hSW => by go_simp⟩) hHeld ?_
  simp only [Act.put, List.setIfInBounds_toArray, List.set_cons_zero, List.set_cons_succ]
  refine wpAnyH_take (i := 67) (oi := ⟨some 135, _, _, _, _, _⟩) (v := .slice (some ⟨gf, 0, none⟩) 1 mf) rfl (by kernel_rfl) (by kernel_rfl) (by kernel_rfl) (fun _ _ _ h => h) (Or.inl ⟨by rfl, fun W hSW => by have a0 := (hSW.cell (p := ⟨af, 0, none⟩) ldf).trans cdf0; go_simp⟩) hHeld ?_
  simp only [Act.put, List.setIfInBounds_toArray, List.set_cons_zero, List.set_cons_succ]
  refine wpAnyH_take (i := 68) (oi := ⟨some 136, _, _, _, _, _⟩) (v := .int .i64 1) rfl (by kernel_rfl) (by kernel_rfl) (by kernel_rfl) (fun _ _ _ h => h) (Or.inl ⟨by rfl, fun W hSW => by go_simp⟩) hHeld ?_
  simp only [Act.put, List.setIfInBounds_toArray, List.set_cons_zero, List.set_cons_succ]
  refine wpAnyH_take (i := 69) (oi := ⟨some 137, _, _, _, _, _⟩) (v := .bool false) rfl (by kernel_rfl) (by kernel_rfl) (by kernel_rfl) (fun _ _ _ h => h) (Or.inl ⟨by rfl, fun W hSW => by go_simp⟩) hHeld ?_
  simp only [Act.put, List.setIfInBounds_toArray, List.set_cons_zero, List.set_cons_succ]
  refine wpAnyH_take (i := 70) (oi := ⟨some 138, _, _, _, _, _⟩) (v := .bool false) rfl (by kernel_rfl) (by kernel_rfl) (by kernel_rfl) (fun _ _ _ h => h) (Or.inl ⟨by rfl, fun W hSW => by go_simp⟩) hHeld ?_
  simp only [Act.put, List.setIfInBounds_toArray, List.set_cons_zero, List.set_cons_succ]
  refine wpAnyH_take (i := 71) (oi := ⟨some 139, _, _, _, _, _⟩) (v := .bool false) rfl (by kernel_rfl) (by kernel_rfl) (by kernel_rfl) (fun _ _ _ h => h) (Or.inl ⟨by rfl, fun W hSW => by go_simp⟩) hHeld ?_
  simp only [Act.put, List.setIfInBounds_toArray, List.set_cons_zero, List.set_cons_succ]
  refine wpAnyH_take (i := 72) (oi := ⟨some 140, _, _, _, _, _⟩) (v := .pointer (some ⟨af, 0, none⟩)) rfl (by kernel_rfl) (by kernel_rfl) (by kernel_rfl) (fun _ _ _ h => h) (Or.inl ⟨by rfl, fun W hSW => by go_simp⟩) hHeld ?_
  simp only [Act.put, List.setIfInBounds_toArray, List.set_cons_zero, List.set_cons_succ]
  refine wpAnyH_take (i := 73) (oi := ⟨some 141, _, _, _, _, _⟩) (v := .slice (some ⟨gf, 0, none⟩) 1 mf) rfl (by kernel_rfl) (by kernel_rfl) (by kernel_rfl) (fun _ _ _ h => h) (Or.inl ⟨by rfl, fun W hSW => by have a0 := (hSW.cell (p := ⟨af, 0, none⟩) ldf).trans cdf0; go_simp⟩) hHeld ?_
  simp only [Act.put, List.setIfInBounds_toArray, List.set_cons_zero, List.set_cons_succ]
  refine wpAnyH_take (i := 74) (oi := ⟨some 142, _, _, _, _, _⟩) (v := .pointer (some ⟨gf, 0, none⟩)) rfl (by kernel_rfl) (by kernel_rfl) (by kernel_rfl) (fun _ _ _ h => h) (Or.inl ⟨by rfl, fun W hSW => by go_simp⟩) hHeld ?_
  simp only [Act.put, List.setIfInBounds_toArray, List.set_cons_zero, List.set_cons_succ]
  refine wpAnyH_take (i := 75) (oi := ⟨some 143, _, _, _, _, _⟩) (v := .pointer (some ⟨gf, 1, none⟩)) rfl (by kernel_rfl) (by kernel_rfl) (by kernel_rfl) (fun _ _ _ h => h) (Or.inl ⟨by rfl, fun W hSW => by go_simp⟩) hHeld ?_
  simp only [Act.put, List.setIfInBounds_toArray, List.set_cons_zero, List.set_cons_succ]
  refine wpAnyH_take (i := 76) (oi := ⟨some 144, _, _, _, _, _⟩) (v := .pointer (some ⟨gf, 1, none⟩)) rfl (by kernel_rfl) (by kernel_rfl) (by kernel_rfl) (fun _ _ _ h => h) (Or.inl ⟨by rfl, fun W hSW => by go_simp⟩) hHeld ?_
  simp only [Act.put, List.setIfInBounds_toArray, List.set_cons_zero, List.set_cons_succ]
  refine wpAnyH_take (i := 77) (oi := ⟨some 145, _, _, _, _, _⟩) (v := .int .u8 8) rfl (by kernel_rfl) (by kernel_rfl) (by kernel_rfl) (fun _ _ _ h => h) (Or.inl ⟨by rfl, fun W hSW => by have a0 := (hSW.cell (p := ⟨gf, 1, none⟩) lrf).trans crf1; go_simp⟩) hHeld ?_
  simp only [Act.put, List.setIfInBounds_toArray, List.set_cons_zero, List.set_cons_succ]
  refine wpAnyH_take (i := 78) (oi := ⟨some 146, _, _, _, _, _⟩) (v := .bool false) rfl (by kernel_rfl) (by kernel_rfl) (by kernel_rfl) (fun _ _ _ h => h) (Or.inl ⟨by rfl, fun W hSW => by go_simp⟩) hHeld ?_
  simp only [Act.put, List.setIfInBounds_toArray, List.set_cons_zero, List.set_cons_succ]
  refine wpAnyH_take (i := 79) (oi := ⟨some 147, _, _, _, _, _⟩) (v := .bool false) rfl (by kernel_rfl) (by kernel_rfl) (by kernel_rfl) (fun _ _ _ h => h) (Or.inl ⟨by rfl, fun W hSW => by go_simp⟩) hHeld ?_
  simp only [Act.put, List.setIfInBounds_toArray, List.set_cons_zero, List.set_cons_succ]
  refine wpAnyH_done (by kernel_rfl) ?_ _
  refine NoPanic.normal ?_
  refine HeldP.then_named (S := fun W => Below w16.heap.size w16 W) hHeld ?_
  rintro w17 hb
  clear hHeld
  have HB17 := Lib.hid (below_t HB16.out hb)
  have Hx17 := Lib.hid (Hx16.out.below hb)
  have Hy17 := Lib.hid (Hy16.out.below hb)
  have Hn17 := Lib.hid (Hn16.out.below hb)
  have Hrb17 := Lib.hid (Hrb16.out.below hb)
  have Hdb17 := Lib.hid (Hdb16.out.below hb)
  have Hrc17 := Lib.hid (Hrc16.out.below hb)
  have Hdc17 := Lib.hid (Hdc16.out.below hb)
  have Hrd17 := Lib.hid (Hrd16.out.below hb)
  have Hdd17 := Lib.hid (Hdd16.out.below hb)
  have Hde17 := Lib.hid (Hde16.out.below hb)
  have Hrf17 := Lib.hid (Hrf16.out.below hb)
  have Hdf17 := Lib.hid (Hdf16.out.below hb)
  clear hb
  clear cdb0 cdb1 cdb2 ldb crb0 crb1 crb2 lrb cdc0 cdc1 cdc2 ldc crc0 crc1 crc2 lrc cdd0 cdd1 cdd2 ldd crd0 crd1 crd2 lrd cde0 cde1 cde2 lde cdf0 cdf1 cdf2 ldf crf0 crf1 crf2 lrf cx0 cx1 lx cy0 cy1 ly
  go_wp2_with ((with_reducible refine at_storeN ?_); refine Classical.byContradiction (fun hG => ?_))
  refine hG ?_
  clear hG
  refine list_named (S := fun W => Below w.heap.size w W ∧ Blk W b1 TC [.int .u8 14, .int .u8 0] ∧ Blk W b2 TC [.int .u8 14, .int .u8 1] ∧ ∃ b10, b10 = w17.heap.size ∧ Blk W b10 TN (vals nz)) ⟨by
    have zz := HB17.out.size
    have zs := HS.out
    have qHNxy := HNxy.out
    have qHZx := HZx.out
    have qHCra := HCra.out
    have qHCda := HCda.out
    have qHCn := HCn.out
    have qHCrb := HCrb.out
    have qHCdb := HCdb.out
    have qHCrc := HCrc.out
    have qHCdc := HCdc.out
    have qHCrd := HCrd.out
    have qHCdd := HCdd.out
    have qHCde := HCde.out
    have qHCrf := HCrf.out
    have qHCdf := HCdf.out
    (repeat' (first | (with_reducible exact Below.refl _ _) | (with_reducible refine Below.setCell ?_ (by (first | omega | (simp; done) | (simp; omega))) _) | (with_reducible refine Below.alloc ?_ (by (first | omega | (simp; done) | (simp; omega))) _) | (with_reducible refine Below.drew ?_) | (with_reducible refine below_drewN ?_ _) | (with_reducible refine Below.trans ?_ (Below.mono HB17.out (by (first | omega | (simp; done) | (simp; omega))))))), by
    have qHNxy := HNxy.out
    have qHZx := HZx.out
    have qHCra := HCra.out
    have qHCda := HCda.out
    have qHCn := HCn.out
    have qHCrb := HCrb.out
    have qHCdb := HCdb.out
    have qHCrc := HCrc.out
    have qHCdc := HCdc.out
    have qHCrd := HCrd.out
    have qHCdd := HCdd.out
    have qHCde := HCde.out
    have qHCrf := HCrf.out
    have qHCdf := HCdf.out
    have zl := Hx17.out.lt
    (repeat' (first | (with_reducible exact Hx17.out) | (with_reducible refine BlkP.Blk.drew ?_) | (with_reducible refine BlkP.Blk.drewN ?_ _) | (with_reducible refine BlkP.Blk.setAt (us := ?_) (by first | omega | (simp; done) | (simp; omega)) rfl ?_ ?_) | (with_reducible refine BlkP.Blk.otherAt ?_ (by first | omega | (simp; done) | (simp; omega))) | (with_reducible refine BlkP.Blk.newA' (by first | omega | (simp; done) | (simp; omega)) rfl) | (with_reducible refine BlkP.Blk.alloc ?_ _) | (exact rfl))), by
    have qHNxy := HNxy.out
    have qHZx := HZx.out
    have qHCra := HCra.out
    have qHCda := HCda.out
    have qHCn := HCn.out
    have qHCrb := HCrb.out
    have qHCdb := HCdb.out
    have qHCrc := HCrc.out
    have qHCdc := HCdc.out
    have qHCrd := HCrd.out
    have qHCdd := HCdd.out
    have qHCde := HCde.out
    have qHCrf := HCrf.out
    have qHCdf := HCdf.out
    have zl := Hy17.out.lt
    (repeat' (first | (with_reducible exact Hy17.out) | (with_reducible refine BlkP.Blk.drew ?_) | (with_reducible refine BlkP.Blk.drewN ?_ _) | (with_reducible refine BlkP.Blk.setAt (us := ?_) (by first | omega | (simp; done) | (simp; omega)) rfl ?_ ?_) | (with_reducible refine BlkP.Blk.otherAt ?_ (by first | omega | (simp; done) | (simp; omega))) | (with_reducible refine BlkP.Blk.newA' (by first | omega | (simp; done) | (simp; omega)) rfl) | (with_reducible refine BlkP.Blk.alloc ?_ _) | (exact rfl))), ⟨w17.heap.size, rfl, by (repeat' (first | (with_reducible refine BlkP.Blk.drew ?_) | (with_reducible refine BlkP.Blk.drewN ?_ _) | (with_reducible refine BlkP.Blk.setAt (us := ?_) (by first | omega | (simp; done) | (simp; omega)) rfl ?_ ?_) | (with_reducible refine BlkP.Blk.otherAt ?_ (by first | omega | (simp; done) | (simp; omega))) | (with_reducible refine BlkP.Blk.newA' (by first | omega | (simp; done) | (simp; omega)) rfl) | (with_reducible refine BlkP.Blk.alloc ?_ _) | (exact rfl)))⟩⟩ ?_
  rintro w18 ⟨hbx, hxx, hxy, b10, hnw, hxp⟩
  try rw [← hnw]
  have HCp := Lib.hid (show af < b10 from by
    have zl := Hdf17.out.lt
    omega)
  clear hnw
  have HB18 := Lib.hid hbx
  have Hx18 := Lib.hid hxx
  have Hy18 := Lib.hid hxy
  have Hp18 := Lib.hid hxp
  clear hbx hxx hxy hxp
  refine wp_storeN rfl (.tmp 10) (.tmp 149) rfl rfl (n := (⟨(12, 0), fun i => [(0, 0), (0, 0), (0, 0), (0, 0), (0, 0), (0, 0)].getD i (0, 0), fun i => [(0, 0), (0, 0), (0, 0), (0, 0)].getD i (0, 0), 9, 4⟩ : Nr)) rfl Hp18.out rfl ?_
  intro w19 hn hg hz
  have HB19 := Lib.hid (show Below w.heap.size w w19 from HB18.out.grown hg HB18.out.size (fun q hq => by injection hq with hq; have := HZx.out; have := HNxy.out; have := HZx.out; have := HCra.out; have := HCda.out; have := HCn.out; have := HCrb.out; have := HCdb.out; have := HCrc.out; have := HCdc.out; have := HCrd.out; have := HCdd.out; have := HCde.out; have := HCrf.out; have := HCdf.out; have := HCp.out; omega))
  have Hx19 := Lib.hid (Hx18.out.grown hg (by have := HNxy.out; have := HZx.out; have := HCra.out; have := HCda.out; have := HCn.out; have := HCrb.out; have := HCdb.out; have := HCrc.out; have := HCdc.out; have := HCrd.out; have := HCdd.out; have := HCde.out; have := HCrf.out; have := HCdf.out; have := HCp.out; simp; omega))
  have Hy19 := Lib.hid (Hy18.out.grown hg (by have := HNxy.out; have := HZx.out; have := HCra.out; have := HCda.out; have := HCn.out; have := HCrb.out; have := HCdb.out; have := HCrc.out; have := HCdc.out; have := HCrd.out; have := HCdd.out; have := HCde.out; have := HCrf.out; have := HCdf.out; have := HCp.out; simp; omega))
  have Hp19 := Lib.hid (show Blk w19 b10 TN [.int .u8 12, .int .u8 0, .int .u8 0, .int .u8 0, .int .u8 0, .int .u8 0, .int .u8 0, .int .u8 0, .int .u8 0, .int .u8 0, .int .u8 0, .int .u8 0, .int .u8 0, .int .u8 0, .int .u8 0, .int .u8 0, .int .u8 0, .int .u8 0, .int .u8 0, .int .u8 0, .int .u8 0, .int .u8 0, .int .u8 9, .int .u64 4] from hn)
  clear hn hg hz
  have cp12 : w19.cell? ⟨b10, 12, none⟩ = some (.int .u8 0) := Hp19.out.cell rfl
  have fp12 := Hp19.out.frozen 12
  have cp13 : w19.cell? ⟨b10, 13, none⟩ = some (.int .u8 0) := Hp19.out.cell rfl
  have fp13 := Hp19.out.frozen 13
  have lp := Hp19.out.lt
  go_wp2_with ((with_reducible refine at_slot 153 ?_); refine Classical.byContradiction (fun hG => ?_))
  refine hG ?_
  clear hG
  refine list_named (S := fun W => Below w.heap.size w W ∧ Blk W b1 TC [.int .u8 14, .int .u8 0] ∧ Blk W b2 TC [.int .u8 14, .int .u8 1] ∧ Blk W b10 TN [.int .u8 12, .int .u8 0, .int .u8 0, .int .u8 0, .int .u8 0, .int .u8 0, .int .u8 0, .int .u8 0, .int .u8 0, .int .u8 0, .int .u8 0, .int .u8 0, .int .u8 3, .int .u8 0, .int .u8 0, .int .u8 0, .int .u8 0, .int .u8 0, .int .u8 0, .int .u8 0, .int .u8 0, .int .u8 0, .int .u8 9, .int .u64 4]) ⟨by
    have zz := HB19.out.size
    have zs := HS.out
    have qHNxy := HNxy.out
    have qHZx := HZx.out
    have qHCra := HCra.out
    have qHCda := HCda.out
    have qHCn := HCn.out
    have qHCrb := HCrb.out
    have qHCdb := HCdb.out
    have qHCrc := HCrc.out
    have qHCdc := HCdc.out
    have qHCrd := HCrd.out
    have qHCdd := HCdd.out
    have qHCde := HCde.out
    have qHCrf := HCrf.out
    have qHCdf := HCdf.out
    have qHCp := HCp.out
    (repeat' (first | (with_reducible exact Below.refl _ _) | (with_reducible refine Below.setCell ?_ (by (first | omega | (simp; done) | (simp; omega))) _) | (with_reducible refine Below.alloc ?_ (by (first | omega | (simp; done) | (simp; omega))) _) | (with_reducible refine Below.drew ?_) | (with_reducible refine below_drewN ?_ _) | (with_reducible refine Below.trans ?_ (Below.mono HB19.out (by (first | omega | (simp; done) | (simp; omega))))))), by
    have qHNxy := HNxy.out
    have qHZx := HZx.out
    have qHCra := HCra.out
    have qHCda := HCda.out
    have qHCn := HCn.out
    have qHCrb := HCrb.out
    have qHCdb := HCdb.out
    have qHCrc := HCrc.out
    have qHCdc := HCdc.out
    have qHCrd := HCrd.out
    have qHCdd := HCdd.out
    have qHCde := HCde.out
    have qHCrf := HCrf.out
    have qHCdf := HCdf.out
    have qHCp := HCp.out
    have zl := Hx19.out.lt
    (repeat' (first | (with_reducible exact Hx19.out) | (with_reducible refine BlkP.Blk.drew ?_) | (with_reducible refine BlkP.Blk.drewN ?_ _) | (with_reducible refine BlkP.Blk.setAt (us := ?_) (by first | omega | (simp; done) | (simp; omega)) rfl ?_ ?_) | (with_reducible refine BlkP.Blk.otherAt ?_ (by first | omega | (simp; done) | (simp; omega))) | (with_reducible refine BlkP.Blk.newA' (by first | omega | (simp; done) | (simp; omega)) rfl) | (with_reducible refine BlkP.Blk.alloc ?_ _) | (exact rfl))), by
    have qHNxy := HNxy.out
    have qHZx := HZx.out
    have qHCra := HCra.out
    have qHCda := HCda.out
    have qHCn := HCn.out
    have qHCrb := HCrb.out
    have qHCdb := HCdb.out
    have qHCrc := HCrc.out
    have qHCdc := HCdc.out
    have qHCrd := HCrd.out
    have qHCdd := HCdd.out
    have qHCde := HCde.out
    have qHCrf := HCrf.out
    have qHCdf := HCdf.out
    have qHCp := HCp.out
    have zl := Hy19.out.lt
    (repeat' (first | (with_reducible exact Hy19.out) | (with_reducible refine BlkP.Blk.drew ?_) | (with_reducible refine BlkP.Blk.drewN ?_ _) | (with_reducible refine BlkP.Blk.setAt (us := ?_) (by first | omega | (simp; done) | (simp; omega)) rfl ?_ ?_) | (with_reducible refine BlkP.Blk.otherAt ?_ (by first | omega | (simp; done) | (simp; omega))) | (with_reducible refine BlkP.Blk.newA' (by first | omega | (simp; done) | (simp; omega)) rfl) | (with_reducible refine BlkP.Blk.alloc ?_ _) | (exact rfl))), by
    have qHNxy := HNxy.out
    have qHZx := HZx.out
    have qHCra := HCra.out
    have qHCda := HCda.out
    have qHCn := HCn.out
    have qHCrb := HCrb.out
    have qHCdb := HCdb.out
    have qHCrc := HCrc.out
    have qHCdc := HCdc.out
    have qHCrd := HCrd.out
    have qHCdd := HCdd.out
    have qHCde := HCde.out
    have qHCrf := HCrf.out
    have qHCdf := HCdf.out
    have qHCp := HCp.out
    have zl := Hp19.out.lt
    (repeat' (first | (with_reducible exact Hp19.out) | (with_reducible refine BlkP.Blk.drew ?_) | (with_reducible refine BlkP.Blk.drewN ?_ _) | (with_reducible refine BlkP.Blk.setAt (us := ?_) (by first | omega | (simp; done) | (simp; omega)) rfl ?_ ?_) | (with_reducible refine BlkP.Blk.otherAt ?_ (by first | omega | (simp; done) | (simp; omega))) | (with_reducible refine BlkP.Blk.newA' (by first | omega | (simp; done) | (simp; omega)) rfl) | (with_reducible refine BlkP.Blk.alloc ?_ _) | (exact rfl)))⟩ ?_
  rintro w20 ⟨hbx, hxx, hxy, hxp⟩
  have HB20 := Lib.hid hbx
  have Hx20 := Lib.hid hxx
  have Hy20 := Lib.hid hxy
  have Hp20 := Lib.hid hxp
  clear hbx hxx hxy hxp
  clear cp12 cp13 fp12 fp13 lp
  obtain ⟨qg, hqg⟩ : ∃ q : Nr, q = (⟨(12, 0), fun i => [(0, 0), (0, 0), (0, 0), (0, 0), (0, 0), (3, 0)].getD i (0, 0), fun i => [(0, 0), (0, 0), (0, 0), (0, 0)].getD i (0, 0), 9, 4⟩ : Nr) := ⟨_, rfl⟩
  have HFg := Lib.hid (show plant qg 4 = ⟨[(0, (12, 1))], 0, 0⟩ from by
    subst hqg
    rfl)
  have HVg := Lib.hid (show vals qg = ([.int .u8 12, .int .u8 0, .int .u8 0, .int .u8 0, .int .u8 0, .int .u8 0, .int .u8 0, .int .u8 0, .int .u8 0, .int .u8 0, .int .u8 0, .int .u8 0, .int .u8 3, .int .u8 0, .int .u8 0, .int .u8 0, .int .u8 0, .int .u8 0, .int .u8 0, .int .u8 0, .int .u8 0, .int .u8 0, .int .u8 9, .int .u64 4] : List Value) from by
    subst hqg
    rfl)
  have HDg := Lib.hid (show qg.dr = ((4 : Nat) : Int) from by
    subst hqg
    rfl)
  clear hqg
  refine wp_loadN rfl (.tmp 10) rfl rfl (n := qg) (by rw [HVg.out]; exact Hp20.out) ?_
  go_wp2_with fail
  refine (Plant_d (n := qg) (d := 4) (D := ⟨[(0, (12, 1))], 0, 0⟩) (HT.out.below HB20.out) HDg.out (by omega) HFg.out).mono ?_
  rintro e w21 ⟨v, rfl, ho, hb⟩
  obtain ⟨Ag, mg, rfl, _, _, hAA⟩ := ho.form (n := 1) rfl
  obtain ⟨gg, rfl, hg1, hg2⟩ := hAA (by omega)
  obtain ⟨ug, hu, huc⟩ := own_blk ho
  have HUrg := Lib.hid (show ug[0]? = some (.int .i64 0) ∧ ug[1]? = some (.int .u8 12) ∧ ug[2]? = some (.int .u8 1) from ⟨huc 0 0 _ _ rfl rfl, huc 0 1 _ _ rfl rfl, huc 0 2 _ _ rfl rfl⟩)
  have HCrg := Lib.hid (show b10 < gg from by
    have zl := Hp20.out.lt
    omega)
  have Hrg21 := Lib.hid hu
  clear ho hAA hg1 hg2 hu huc
  have HB21 := Lib.hid (below_t HB20.out hb)
  have Hx21 := Lib.hid (Hx20.out.below hb)
  have Hy21 := Lib.hid (Hy20.out.below hb)
  have Hp21 := Lib.hid (Hp20.out.below hb)
  clear hb
  have cp22 : w21.cell? ⟨b10, 22, none⟩ = some (.int .u8 9) := Hp21.out.cell rfl
  have fp22 := Hp21.out.frozen 22
  have lp := Hp21.out.lt
  go_wp2_with ((with_reducible refine at_slot 156 ?_); refine Classical.byContradiction (fun hG => ?_))
  refine hG ?_
  clear hG
  refine list_named (S := fun W => Below w.heap.size w W ∧ Blk W b1 TC [.int .u8 14, .int .u8 0] ∧ Blk W b2 TC [.int .u8 14, .int .u8 1] ∧ Blk W b10 TN [.int .u8 12, .int .u8 0, .int .u8 0, .int .u8 0, .int .u8 0, .int .u8 0, .int .u8 0, .int .u8 0, .int .u8 0, .int .u8 0, .int .u8 0, .int .u8 0, .int .u8 3, .int .u8 0, .int .u8 0, .int .u8 0, .int .u8 0, .int .u8 0, .int .u8 0, .int .u8 0, .int .u8 0, .int .u8 0, .int .u8 8, .int .u64 4] ∧ Blk W gg TX ug ∧ ∃ ag, ag = w21.heap.size ∧ Blk W ag TD [.slice (some ⟨gg, 0, none⟩) 1 mg, .int .i64 0, .int .i64 (0)]) ⟨by
    have zz := HB21.out.size
    have zs := HS.out
    have qHNxy := HNxy.out
    have qHZx := HZx.out
    have qHCra := HCra.out
    have qHCda := HCda.out
    have qHCn := HCn.out
    have qHCrb := HCrb.out
    have qHCdb := HCdb.out
    have qHCrc := HCrc.out
    have qHCdc := HCdc.out
    have qHCrd := HCrd.out
    have qHCdd := HCdd.out
    have qHCde := HCde.out
    have qHCrf := HCrf.out
    have qHCdf := HCdf.out
    have qHCp := HCp.out
    have qHCrg := HCrg.out
    (repeat' (first | (with_reducible exact Below.refl _ _) | (with_reducible refine Below.setCell ?_ (by (first | omega | (simp; done) | (simp; omega))) _) | (with_reducible refine Below.alloc ?_ (by (first | omega | (simp; done) | (simp; omega))) _) | (with_reducible refine Below.drew ?_) | (with_reducible refine below_drewN ?_ _) | (with_reducible refine Below.trans ?_ (Below.mono HB21.out (by (first | omega | (simp; done) | (simp; omega))))))), by
    have qHNxy := HNxy.out
    have qHZx := HZx.out
    have qHCra := HCra.out
    have qHCda := HCda.out
    have qHCn := HCn.out
    have qHCrb := HCrb.out
    have qHCdb := HCdb.out
    have qHCrc := HCrc.out
    have qHCdc := HCdc.out
    have qHCrd := HCrd.out
    have qHCdd := HCdd.out
    have qHCde := HCde.out
    have qHCrf := HCrf.out
    have qHCdf := HCdf.out
    have qHCp := HCp.out
    have qHCrg := HCrg.out
    have zl := Hx21.out.lt
    (repeat' (first | (with_reducible exact Hx21.out) | (with_reducible refine BlkP.Blk.drew ?_) | (with_reducible refine BlkP.Blk.drewN ?_ _) | (with_reducible refine BlkP.Blk.setAt (us := ?_) (by first | omega | (simp; done) | (simp; omega)) rfl ?_ ?_) | (with_reducible refine BlkP.Blk.otherAt ?_ (by first | omega | (simp; done) | (simp; omega))) | (with_reducible refine BlkP.Blk.newA' (by first | omega | (simp; done) | (simp; omega)) rfl) | (with_reducible refine BlkP.Blk.alloc ?_ _) | (exact rfl))), by
    have qHNxy := HNxy.out
    have qHZx := HZx.out
    have qHCra := HCra.out
    have qHCda := HCda.out
    have qHCn := HCn.out
    have qHCrb := HCrb.out
    have qHCdb := HCdb.out
    have qHCrc := HCrc.out
    have qHCdc := HCdc.out
    have qHCrd := HCrd.out
    have qHCdd := HCdd.out
    have qHCde := HCde.out
    have qHCrf := HCrf.out
    have qHCdf := HCdf.out
    have qHCp := HCp.out
    have qHCrg := HCrg.out
    have zl := Hy21.out.lt
    (repeat' (first | (with_reducible exact Hy21.out) | (with_reducible refine BlkP.Blk.drew ?_) | (with_reducible refine BlkP.Blk.drewN ?_ _) | (with_reducible refine BlkP.Blk.setAt (us := ?_) (by first | omega | (simp; done) | (simp; omega)) rfl ?_ ?_) | (with_reducible refine BlkP.Blk.otherAt ?_ (by first | omega | (simp; done) | (simp; omega))) | (with_reducible refine BlkP.Blk.newA' (by first | omega | (simp; done) | (simp; omega)) rfl) | (with_reducible refine BlkP.Blk.alloc ?_ _) | (exact rfl))), by
    have qHNxy := HNxy.out
    have qHZx := HZx.out
    have qHCra := HCra.out
    have qHCda := HCda.out
    have qHCn := HCn.out
    have qHCrb := HCrb.out
    have qHCdb := HCdb.out
    have qHCrc := HCrc.out
    have qHCdc := HCdc.out
    have qHCrd := HCrd.out
    have qHCdd := HCdd.out
    have qHCde := HCde.out
    have qHCrf := HCrf.out
    have qHCdf := HCdf.out
    have qHCp := HCp.out
    have qHCrg := HCrg.out
    have zl := Hp21.out.lt
    (repeat' (first | (with_reducible exact Hp21.out) | (with_reducible refine BlkP.Blk.drew ?_) | (with_reducible refine BlkP.Blk.drewN ?_ _) | (with_reducible refine BlkP.Blk.setAt (us := ?_) (by first | omega | (simp; done) | (simp; omega)) rfl ?_ ?_) | (with_reducible refine BlkP.Blk.otherAt ?_ (by first | omega | (simp; done) | (simp; omega))) | (with_reducible refine BlkP.Blk.newA' (by first | omega | (simp; done) | (simp; omega)) rfl) | (with_reducible refine BlkP.Blk.alloc ?_ _) | (exact rfl))), by
    have qHNxy := HNxy.out
    have qHZx := HZx.out
    have qHCra := HCra.out
    have qHCda := HCda.out
    have qHCn := HCn.out
    have qHCrb := HCrb.out
    have qHCdb := HCdb.out
    have qHCrc := HCrc.out
    have qHCdc := HCdc.out
    have qHCrd := HCrd.out
    have qHCdd := HCdd.out
    have qHCde := HCde.out
    have qHCrf := HCrf.out
    have qHCdf := HCdf.out
    have qHCp := HCp.out
    have qHCrg := HCrg.out
    have zl := Hrg21.out.lt
    (repeat' (first | (with_reducible exact Hrg21.out) | (with_reducible refine BlkP.Blk.drew ?_) | (with_reducible refine BlkP.Blk.drewN ?_ _) | (with_reducible refine BlkP.Blk.setAt (us := ?_) (by first | omega | (simp; done) | (simp; omega)) rfl ?_ ?_) | (with_reducible refine BlkP.Blk.otherAt ?_ (by first | omega | (simp; done) | (simp; omega))) | (with_reducible refine BlkP.Blk.newA' (by first | omega | (simp; done) | (simp; omega)) rfl) | (with_reducible refine BlkP.Blk.alloc ?_ _) | (exact rfl))), ⟨w21.heap.size, rfl, by (repeat' (first | (with_reducible refine BlkP.Blk.drew ?_) | (with_reducible refine BlkP.Blk.drewN ?_ _) | (with_reducible refine BlkP.Blk.setAt (us := ?_) (by first | omega | (simp; done) | (simp; omega)) rfl ?_ ?_) | (with_reducible refine BlkP.Blk.otherAt ?_ (by first | omega | (simp; done) | (simp; omega))) | (with_reducible refine BlkP.Blk.newA' (by first | omega | (simp; done) | (simp; omega)) rfl) | (with_reducible refine BlkP.Blk.alloc ?_ _) | (exact rfl)))⟩⟩ ?_
  rintro w22 ⟨hbx, hxx, hxy, hxp, hxrg, ag, hnw, hxdg⟩
  try rw [← hnw]
  have HCdg := Lib.hid (show gg < ag from by
    have zl := Hrg21.out.lt
    omega)
  clear hnw
  have HB22 := Lib.hid hbx
  have Hx22 := Lib.hid hxx
  have Hy22 := Lib.hid hxy
  have Hp22 := Lib.hid hxp
  have Hrg22 := Lib.hid hxrg
  have Hdg22 := Lib.hid hxdg
  clear hbx hxx hxy hxp hxrg hxdg
  clear cp22 fp22 lp
  obtain ⟨qh, hqh⟩ : ∃ q : Nr, q = (⟨(12, 0), fun i => [(0, 0), (0, 0), (0, 0), (0, 0), (0, 0), (3, 0)].getD i (0, 0), fun i => [(0, 0), (0, 0), (0, 0), (0, 0)].getD i (0, 0), 8, 4⟩ : Nr) := ⟨_, rfl⟩
  have HFh := Lib.hid (show plant qh 4 = ⟨[], 5, 0⟩ from by
    subst hqh
    rfl)
  have HVh := Lib.hid (show vals qh = ([.int .u8 12, .int .u8 0, .int .u8 0, .int .u8 0, .int .u8 0, .int .u8 0, .int .u8 0, .int .u8 0, .int .u8 0, .int .u8 0, .int .u8 0, .int .u8 0, .int .u8 3, .int .u8 0, .int .u8 0, .int .u8 0, .int .u8 0, .int .u8 0, .int .u8 0, .int .u8 0, .int .u8 0, .int .u8 0, .int .u8 8, .int .u64 4] : List Value) from by
    subst hqh
    rfl)
  have HDh := Lib.hid (show qh.dr = ((4 : Nat) : Int) from by
    subst hqh
    rfl)
  clear hqh
  refine wp_loadN rfl (.tmp 10) rfl rfl (n := qh) (by rw [HVh.out]; exact Hp22.out) ?_
  go_wp2_with fail
  refine (Plant_d (n := qh) (d := 4) (D := ⟨[], 5, 0⟩) (HT.out.below HB22.out) HDh.out (by omega) HFh.out).mono ?_
  rintro e w23 ⟨v, rfl, ho, hb⟩
  obtain ⟨Ah, mh, rfl, _, _, _⟩ := ho.form (n := 0) rfl
  clear ho
  have HB23 := Lib.hid (below_t HB22.out hb)
  have Hx23 := Lib.hid (Hx22.out.below hb)
  have Hy23 := Lib.hid (Hy22.out.below hb)
  have Hp23 := Lib.hid (Hp22.out.below hb)
  have Hrg23 := Lib.hid (Hrg22.out.below hb)
  have Hdg23 := Lib.hid (Hdg22.out.below hb)
  clear hb
  have cp22 : w23.cell? ⟨b10, 22, none⟩ = some (.int .u8 8) := Hp23.out.cell rfl
  have fp22 := Hp23.out.frozen 22
  have cp23 : w23.cell? ⟨b10, 23, none⟩ = some (.int .u64 4) := Hp23.out.cell rfl
  have fp23 := Hp23.out.frozen 23
  have lp := Hp23.out.lt
  go_wp2_with ((with_reducible refine at_slot 160 ?_); refine Classical.byContradiction (fun hG => ?_))
  refine hG ?_
  clear hG
  refine list_named (S := fun W => Below w.heap.size w W ∧ Blk W b1 TC [.int .u8 14, .int .u8 0] ∧ Blk W b2 TC [.int .u8 14, .int .u8 1] ∧ Blk W b10 TN [.int .u8 12, .int .u8 0, .int .u8 0, .int .u8 0, .int .u8 0, .int .u8 0, .int .u8 0, .int .u8 0, .int .u8 0, .int .u8 0, .int .u8 0, .int .u8 0, .int .u8 3, .int .u8 0, .int .u8 0, .int .u8 0, .int .u8 0, .int .u8 0, .int .u8 0, .int .u8 0, .int .u8 0, .int .u8 0, .int .u8 15, .int .u64 5] ∧ Blk W gg TX ug ∧ Blk W ag TD [.slice (some ⟨gg, 0, none⟩) 1 mg, .int .i64 0, .int .i64 (0)] ∧ ∃ ah, ah = w23.heap.size ∧ Blk W ah TD [.slice Ah 0 mh, .int .i64 5, .int .i64 (0)]) ⟨by
    have zz := HB23.out.size
    have zs := HS.out
    have qHNxy := HNxy.out
    have qHZx := HZx.out
    have qHCra := HCra.out
    have qHCda := HCda.out
    have qHCn := HCn.out
    have qHCrb := HCrb.out
    have qHCdb := HCdb.out
    have qHCrc := HCrc.out
    have qHCdc := HCdc.out
    have qHCrd := HCrd.out
    have qHCdd := HCdd.out
    have qHCde := HCde.out
    have qHCrf := HCrf.out
    have qHCdf := HCdf.out
    have qHCp := HCp.out
    have qHCrg := HCrg.out
    have qHCdg := HCdg.out
    (repeat' (first | (with_reducible exact Below.refl _ _) | (with_reducible refine Below.setCell ?_ (by (first | omega | (simp; done) | (simp; omega))) _) | (with_reducible refine Below.alloc ?_ (by (first | omega | (simp; done) | (simp; omega))) _) | (with_reducible refine Below.drew ?_) | (with_reducible refine below_drewN ?_ _) | (with_reducible refine Below.trans ?_ (Below.mono HB23.out (by (first | omega | (simp; done) | (simp; omega))))))), by
    have qHNxy := HNxy.out
    have qHZx := HZx.out
    have qHCra := HCra.out
    have qHCda := HCda.out
    have qHCn := HCn.out
    have qHCrb := HCrb.out
    have qHCdb := HCdb.out
    have qHCrc := HCrc.out
    have qHCdc := HCdc.out
    have qHCrd := HCrd.out
    have qHCdd := HCdd.out
    have qHCde := HCde.out
    have qHCrf := HCrf.out
    have qHCdf := HCdf.out
    have qHCp := HCp.out
    have qHCrg := HCrg.out
    have qHCdg := HCdg.out
    have zl := Hx23.out.lt
    (repeat' (first | (with_reducible exact Hx23.out) | (with_reducible refine BlkP.Blk.drew ?_) | (with_reducible refine BlkP.Blk.drewN ?_ _) | (with_reducible refine BlkP.Blk.setAt (us := ?_) (by first | omega | (simp; done) | (simp; omega)) rfl ?_ ?_) | (with_reducible refine BlkP.Blk.otherAt ?_ (by first | omega | (simp; done) | (simp; omega))) | (with_reducible refine BlkP.Blk.newA' (by first | omega | (simp; done) | (simp; omega)) rfl) | (with_reducible refine BlkP.Blk.alloc ?_ _) | (exact rfl))), by
    have qHNxy := HNxy.out
    have qHZx := HZx.out
    have qHCra := HCra.out
    have qHCda := HCda.out
    have qHCn := HCn.out
    have qHCrb := HCrb.out
    have qHCdb := HCdb.out
    have qHCrc := HCrc.out
    have qHCdc := HCdc.out
    have qHCrd := HCrd.out
    have qHCdd := HCdd.out
    have qHCde := HCde.out
    have qHCrf := HCrf.out
    have qHCdf := HCdf.out
    have qHCp := HCp.out
    have qHCrg := HCrg.out
    have qHCdg := HCdg.out
    have zl := Hy23.out.lt
    (repeat' (first | (with_reducible exact Hy23.out) | (with_reducible refine BlkP.Blk.drew ?_) | (with_reducible refine BlkP.Blk.drewN ?_ _) | (with_reducible refine BlkP.Blk.setAt (us := ?_) (by first | omega | (simp; done) | (simp; omega)) rfl ?_ ?_) | (with_reducible refine BlkP.Blk.otherAt ?_ (by first | omega | (simp; done) | (simp; omega))) | (with_reducible refine BlkP.Blk.newA' (by first | omega | (simp; done) | (simp; omega)) rfl) | (with_reducible refine BlkP.Blk.alloc ?_ _) | (exact rfl))), by
    have qHNxy := HNxy.out
    have qHZx := HZx.out
    have qHCra := HCra.out
    have qHCda := HCda.out
    have qHCn := HCn.out
    have qHCrb := HCrb.out
    have qHCdb := HCdb.out
    have qHCrc := HCrc.out
    have qHCdc := HCdc.out
    have qHCrd := HCrd.out
    have qHCdd := HCdd.out
    have qHCde := HCde.out
    have qHCrf := HCrf.out
    have qHCdf := HCdf.out
    have qHCp := HCp.out
    have qHCrg := HCrg.out
    have qHCdg := HCdg.out
    have zl := Hp23.out.lt
    (repeat' (first | (with_reducible exact Hp23.out) | (with_reducible refine BlkP.Blk.drew ?_) | (with_reducible refine BlkP.Blk.drewN ?_ _) | (with_reducible refine BlkP.Blk.setAt (us := ?_) (by first | omega | (simp; done) | (simp; omega)) rfl ?_ ?_) | (with_reducible refine BlkP.Blk.otherAt ?_ (by first | omega | (simp; done) | (simp; omega))) | (with_reducible refine BlkP.Blk.newA' (by first | omega | (simp; done) | (simp; omega)) rfl) | (with_reducible refine BlkP.Blk.alloc ?_ _) | (exact rfl))), by
    have qHNxy := HNxy.out
    have qHZx := HZx.out
    have qHCra := HCra.out
    have qHCda := HCda.out
    have qHCn := HCn.out
    have qHCrb := HCrb.out
    have qHCdb := HCdb.out
    have qHCrc := HCrc.out
    have qHCdc := HCdc.out
    have qHCrd := HCrd.out
    have qHCdd := HCdd.out
    have qHCde := HCde.out
    have qHCrf := HCrf.out
    have qHCdf := HCdf.out
    have qHCp := HCp.out
    have qHCrg := HCrg.out
    have qHCdg := HCdg.out
    have zl := Hrg23.out.lt
    (repeat' (first | (with_reducible exact Hrg23.out) | (with_reducible refine BlkP.Blk.drew ?_) | (with_reducible refine BlkP.Blk.drewN ?_ _) | (with_reducible refine BlkP.Blk.setAt (us := ?_) (by first | omega | (simp; done) | (simp; omega)) rfl ?_ ?_) | (with_reducible refine BlkP.Blk.otherAt ?_ (by first | omega | (simp; done) | (simp; omega))) | (with_reducible refine BlkP.Blk.newA' (by first | omega | (simp; done) | (simp; omega)) rfl) | (with_reducible refine BlkP.Blk.alloc ?_ _) | (exact rfl))), by
    have qHNxy := HNxy.out
    have qHZx := HZx.out
    have qHCra := HCra.out
    have qHCda := HCda.out
    have qHCn := HCn.out
    have qHCrb := HCrb.out
    have qHCdb := HCdb.out
    have qHCrc := HCrc.out
    have qHCdc := HCdc.out
    have qHCrd := HCrd.out
    have qHCdd := HCdd.out
    have qHCde := HCde.out
    have qHCrf := HCrf.out
    have qHCdf := HCdf.out
    have qHCp := HCp.out
    have qHCrg := HCrg.out
    have qHCdg := HCdg.out
    have zl := Hdg23.out.lt
    (repeat' (first | (with_reducible exact Hdg23.out) | (with_reducible refine BlkP.Blk.drew ?_) | (with_reducible refine BlkP.Blk.drewN ?_ _) | (with_reducible refine BlkP.Blk.setAt (us := ?_) (by first | omega | (simp; done) | (simp; omega)) rfl ?_ ?_) | (with_reducible refine BlkP.Blk.otherAt ?_ (by first | omega | (simp; done) | (simp; omega))) | (with_reducible refine BlkP.Blk.newA' (by first | omega | (simp; done) | (simp; omega)) rfl) | (with_reducible refine BlkP.Blk.alloc ?_ _) | (exact rfl))), ⟨w23.heap.size, rfl, by (repeat' (first | (with_reducible refine BlkP.Blk.drew ?_) | (with_reducible refine BlkP.Blk.drewN ?_ _) | (with_reducible refine BlkP.Blk.setAt (us := ?_) (by first | omega | (simp; done) | (simp; omega)) rfl ?_ ?_) | (with_reducible refine BlkP.Blk.otherAt ?_ (by first | omega | (simp; done) | (simp; omega))) | (with_reducible refine BlkP.Blk.newA' (by first | omega | (simp; done) | (simp; omega)) rfl) | (with_reducible refine BlkP.Blk.alloc ?_ _) | (exact rfl)))⟩⟩ ?_
  rintro w24 ⟨hbx, hxx, hxy, hxp, hxrg, hxdg, ah, hnw, hxdh⟩
  try rw [← hnw]
  have HCdh := Lib.hid (show ag < ah from by
    have zl := Hdg23.out.lt
    omega)
  clear hnw
  have HB24 := Lib.hid hbx
  have Hx24 := Lib.hid hxx
  have Hy24 := Lib.hid hxy
  have Hp24 := Lib.hid hxp
  have Hrg24 := Lib.hid hxrg
  have Hdg24 := Lib.hid hxdg
  have Hdh24 := Lib.hid hxdh
  clear hbx hxx hxy hxp hxrg hxdg hxdh
  clear cp22 cp23 fp22 fp23 lp
  obtain ⟨qi, hqi⟩ : ∃ q : Nr, q = (⟨(12, 0), fun i => [(0, 0), (0, 0), (0, 0), (0, 0), (0, 0), (3, 0)].getD i (0, 0), fun i => [(0, 0), (0, 0), (0, 0), (0, 0)].getD i (0, 0), 15, 5⟩ : Nr) := ⟨_, rfl⟩
  have HFi := Lib.hid (show plant qi 5 = ⟨[], 5, 0⟩ from by
    subst hqi
    rfl)
  have HVi := Lib.hid (show vals qi = ([.int .u8 12, .int .u8 0, .int .u8 0, .int .u8 0, .int .u8 0, .int .u8 0, .int .u8 0, .int .u8 0, .int .u8 0, .int .u8 0, .int .u8 0, .int .u8 0, .int .u8 3, .int .u8 0, .int .u8 0, .int .u8 0, .int .u8 0, .int .u8 0, .int .u8 0, .int .u8 0, .int .u8 0, .int .u8 0, .int .u8 15, .int .u64 5] : List Value) from by
    subst hqi
    rfl)
  have HDi := Lib.hid (show qi.dr = ((5 : Nat) : Int) from by
    subst hqi
    rfl)
  clear hqi
  refine wp_loadN rfl (.tmp 10) rfl rfl (n := qi) (by rw [HVi.out]; exact Hp24.out) ?_
  go_wp2_with fail
  refine (Plant_d (n := qi) (d := 5) (D := ⟨[], 5, 0⟩) (HT.out.below HB24.out) HDi.out (by omega) HFi.out).mono ?_
  rintro e w25 ⟨v, rfl, ho, hb⟩
  obtain ⟨Ai, mi, rfl, _, _, _⟩ := ho.form (n := 0) rfl
  clear ho
  have HB25 := Lib.hid (below_t HB24.out hb)
  have Hx25 := Lib.hid (Hx24.out.below hb)
  have Hy25 := Lib.hid (Hy24.out.below hb)
  have Hp25 := Lib.hid (Hp24.out.below hb)
  have Hrg25 := Lib.hid (Hrg24.out.below hb)
  have Hdg25 := Lib.hid (Hdg24.out.below hb)
  have Hdh25 := Lib.hid (Hdh24.out.below hb)
  clear hb
  have cp23 : w25.cell? ⟨b10, 23, none⟩ = some (.int .u64 5) := Hp25.out.cell rfl
  have fp23 := Hp25.out.frozen 23
  have cp0 : w25.cell? ⟨b10, 0, none⟩ = some (.int .u8 12) := Hp25.out.cell rfl
  have fp0 := Hp25.out.frozen 0
  have cp1 : w25.cell? ⟨b10, 1, none⟩ = some (.int .u8 0) := Hp25.out.cell rfl
  have fp1 := Hp25.out.frozen 1
  have lp := Hp25.out.lt
  go_wp2_with ((with_reducible refine at_slot 165 ?_); refine Classical.byContradiction (fun hG => ?_))
  refine hG ?_
  clear hG
  refine list_named (S := fun W => Below w.heap.size w W ∧ Blk W b1 TC [.int .u8 14, .int .u8 0] ∧ Blk W b2 TC [.int .u8 14, .int .u8 1] ∧ Blk W b10 TN [.int .u8 12, .int .u8 3, .int .u8 0, .int .u8 0, .int .u8 0, .int .u8 0, .int .u8 0, .int .u8 0, .int .u8 0, .int .u8 0, .int .u8 0, .int .u8 0, .int .u8 3, .int .u8 0, .int .u8 0, .int .u8 0, .int .u8 0, .int .u8 0, .int .u8 0, .int .u8 0, .int .u8 0, .int .u8 0, .int .u8 15, .int .u64 0] ∧ Blk W gg TX ug ∧ Blk W ag TD [.slice (some ⟨gg, 0, none⟩) 1 mg, .int .i64 0, .int .i64 (0)] ∧ Blk W ah TD [.slice Ah 0 mh, .int .i64 5, .int .i64 (0)] ∧ ∃ ai, ai = w25.heap.size ∧ Blk W ai TD [.slice Ai 0 mi, .int .i64 5, .int .i64 (0)]) ⟨by
    have zz := HB25.out.size
    have zs := HS.out
    have qHNxy := HNxy.out
    have qHZx := HZx.out
    have qHCra := HCra.out
    have qHCda := HCda.out
    have qHCn := HCn.out
    have qHCrb := HCrb.out
    have qHCdb := HCdb.out
    have qHCrc := HCrc.out
    have qHCdc := HCdc.out
    have qHCrd := HCrd.out
    have qHCdd := HCdd.out
    have qHCde := HCde.out
    have qHCrf := HCrf.out
    have qHCdf := HCdf.out
    have qHCp := HCp.out
    have qHCrg := HCrg.out
    have qHCdg := HCdg.out
    have qHCdh := HCdh.out
    (repeat' (first | (with_reducible exact Below.refl _ _) | (with_reducible refine Below.setCell ?_ (by (first | omega | (simp; done) | (simp; omega))) _) | (with_reducible refine Below.alloc ?_ (by (first | omega | (simp; done) | (simp; omega))) _) | (with_reducible refine Below.drew ?_) | (with_reducible refine below_drewN ?_ _) | (with_reducible refine Below.trans ?_ (Below.mono HB25.out (by (first | omega | (simp; done) | (simp; omega))))))), by
    have qHNxy := HNxy.out
    have qHZx := HZx.out
    have qHCra := HCra.out
    have qHCda := HCda.out
    have qHCn := HCn.out
    have qHCrb := HCrb.out
    have qHCdb := HCdb.out
    have qHCrc := HCrc.out
    have qHCdc := HCdc.out
    have qHCrd := HCrd.out
    have qHCdd := HCdd.out
    have qHCde := HCde.out
    have qHCrf := HCrf.out
    have qHCdf := HCdf.out
    have qHCp := HCp.out
    have qHCrg := HCrg.out
    have qHCdg := HCdg.out
    have qHCdh := HCdh.out
    have zl := Hx25.out.lt
    (repeat' (first | (with_reducible exact Hx25.out) | (with_reducible refine BlkP.Blk.drew ?_) | (with_reducible refine BlkP.Blk.drewN ?_ _) | (with_reducible refine BlkP.Blk.setAt (us := ?_) (by first | omega | (simp; done) | (simp; omega)) rfl ?_ ?_) | (with_reducible refine BlkP.Blk.otherAt ?_ (by first | omega | (simp; done) | (simp; omega))) | (with_reducible refine BlkP.Blk.newA' (by first | omega | (simp; done) | (simp; omega)) rfl) | (with_reducible refine BlkP.Blk.alloc ?_ _) | (exact rfl))), by
    have qHNxy := HNxy.out
    have qHZx := HZx.out
    have qHCra := HCra.out
    have qHCda := HCda.out
    have qHCn := HCn.out
    have qHCrb := HCrb.out
    have qHCdb := HCdb.out
    have qHCrc := HCrc.out
    have qHCdc := HCdc.out
    have qHCrd := HCrd.out
    have qHCdd := HCdd.out
    have qHCde := HCde.out
    have qHCrf := HCrf.out
    have qHCdf := HCdf.out
    have qHCp := HCp.out
    have qHCrg := HCrg.out
    have qHCdg := HCdg.out
    have qHCdh := HCdh.out
    have zl := Hy25.out.lt
    (repeat' (first | (with_reducible exact Hy25.out) | (with_reducible refine BlkP.Blk.drew ?_) | (with_reducible refine BlkP.Blk.drewN ?_ _) | (with_reducible refine BlkP.Blk.setAt (us := ?_) (by first | omega | (simp; done) | (simp; omega)) rfl ?_ ?_) | (with_reducible refine BlkP.Blk.otherAt ?_ (by first | omega | (simp; done) | (simp; omega))) | (with_reducible refine BlkP.Blk.newA' (by first | omega | (simp; done) | (simp; omega)) rfl) | (with_reducible refine BlkP.Blk.alloc ?_ _) | (exact rfl))), by
    have qHNxy := HNxy.out
    have qHZx := HZx.out
    have qHCra := HCra.out
    have qHCda := HCda.out
    have qHCn := HCn.out
    have qHCrb := HCrb.out
    have qHCdb := HCdb.out
    have qHCrc := HCrc.out
    have qHCdc := HCdc.out
    have qHCrd := HCrd.out
    have qHCdd := HCdd.out
    have qHCde := HCde.out
    have qHCrf := HCrf.out
    have qHCdf := HCdf.out
    have qHCp := HCp.out
    have qHCrg := HCrg.out
    have qHCdg := HCdg.out
    have qHCdh := HCdh.out
    have zl := Hp25.out.lt
    (repeat' (first | (with_reducible exact Hp25.out) | (with_reducible refine BlkP.Blk.drew ?_) | (with_reducible refine BlkP.Blk.drewN ?_ _) | (with_reducible refine BlkP.Blk.setAt (us := ?_) (by first | omega | (simp; done) | (simp; omega)) rfl ?_ ?_) | (with_reducible refine BlkP.Blk.otherAt ?_ (by first | omega | (simp; done) | (simp; omega))) | (with_reducible refine BlkP.Blk.newA' (by first | omega | (simp; done) | (simp; omega)) rfl) | (with_reducible refine BlkP.Blk.alloc ?_ _) | (exact rfl))), by
    have qHNxy := HNxy.out
    have qHZx := HZx.out
    have qHCra := HCra.out
    have qHCda := HCda.out
    have qHCn := HCn.out
    have qHCrb := HCrb.out
    have qHCdb := HCdb.out
    have qHCrc := HCrc.out
    have qHCdc := HCdc.out
    have qHCrd := HCrd.out
    have qHCdd := HCdd.out
    have qHCde := HCde.out
    have qHCrf := HCrf.out
    have qHCdf := HCdf.out
    have qHCp := HCp.out
    have qHCrg := HCrg.out
    have qHCdg := HCdg.out
    have qHCdh := HCdh.out
    have zl := Hrg25.out.lt
    (repeat' (first | (with_reducible exact Hrg25.out) | (with_reducible refine BlkP.Blk.drew ?_) | (with_reducible refine BlkP.Blk.drewN ?_ _) | (with_reducible refine BlkP.Blk.setAt (us := ?_) (by first | omega | (simp; done) | (simp; omega)) rfl ?_ ?_) | (with_reducible refine BlkP.Blk.otherAt ?_ (by first | omega | (simp; done) | (simp; omega))) | (with_reducible refine BlkP.Blk.newA' (by first | omega | (simp; done) | (simp; omega)) rfl) | (with_reducible refine BlkP.Blk.alloc ?_ _) | (exact rfl))), by
    have qHNxy := HNxy.out
    have qHZx := HZx.out
    have qHCra := HCra.out
    have qHCda := HCda.out
    have qHCn := HCn.out
    have qHCrb := HCrb.out
    have qHCdb := HCdb.out
    have qHCrc := HCrc.out
    have qHCdc := HCdc.out
    have qHCrd := HCrd.out
    have qHCdd := HCdd.out
    have qHCde := HCde.out
    have qHCrf := HCrf.out
    have qHCdf := HCdf.out
    have qHCp := HCp.out
    have qHCrg := HCrg.out
    have qHCdg := HCdg.out
    have qHCdh := HCdh.out
    have zl := Hdg25.out.lt
    (repeat' (first | (with_reducible exact Hdg25.out) | (with_reducible refine BlkP.Blk.drew ?_) | (with_reducible refine BlkP.Blk.drewN ?_ _) | (with_reducible refine BlkP.Blk.setAt (us := ?_) (by first | omega | (simp; done) | (simp; omega)) rfl ?_ ?_) | (with_reducible refine BlkP.Blk.otherAt ?_ (by first | omega | (simp; done) | (simp; omega))) | (with_reducible refine BlkP.Blk.newA' (by first | omega | (simp; done) | (simp; omega)) rfl) | (with_reducible refine BlkP.Blk.alloc ?_ _) | (exact rfl))), by
    have qHNxy := HNxy.out
    have qHZx := HZx.out
    have qHCra := HCra.out
    have qHCda := HCda.out
    have qHCn := HCn.out
    have qHCrb := HCrb.out
    have qHCdb := HCdb.out
    have qHCrc := HCrc.out
    have qHCdc := HCdc.out
    have qHCrd := HCrd.out
    have qHCdd := HCdd.out
    have qHCde := HCde.out
    have qHCrf := HCrf.out
    have qHCdf := HCdf.out
    have qHCp := HCp.out
    have qHCrg := HCrg.out
    have qHCdg := HCdg.out
    have qHCdh := HCdh.out
    have zl := Hdh25.out.lt
    (repeat' (first | (with_reducible exact Hdh25.out) | (with_reducible refine BlkP.Blk.drew ?_) | (with_reducible refine BlkP.Blk.drewN ?_ _) | (with_reducible refine BlkP.Blk.setAt (us := ?_) (by first | omega | (simp; done) | (simp; omega)) rfl ?_ ?_) | (with_reducible refine BlkP.Blk.otherAt ?_ (by first | omega | (simp; done) | (simp; omega))) | (with_reducible refine BlkP.Blk.newA' (by first | omega | (simp; done) | (simp; omega)) rfl) | (with_reducible refine BlkP.Blk.alloc ?_ _) | (exact rfl))), ⟨w25.heap.size, rfl, by (repeat' (first | (with_reducible refine BlkP.Blk.drew ?_) | (with_reducible refine BlkP.Blk.drewN ?_ _) | (with_reducible refine BlkP.Blk.setAt (us := ?_) (by first | omega | (simp; done) | (simp; omega)) rfl ?_ ?_) | (with_reducible refine BlkP.Blk.otherAt ?_ (by first | omega | (simp; done) | (simp; omega))) | (with_reducible refine BlkP.Blk.newA' (by first | omega | (simp; done) | (simp; omega)) rfl) | (with_reducible refine BlkP.Blk.alloc ?_ _) | (exact rfl)))⟩⟩ ?_
  rintro w26 ⟨hbx, hxx, hxy, hxp, hxrg, hxdg, hxdh, ai, hnw, hxdi⟩
  try rw [← hnw]
  have HCdi := Lib.hid (show ah < ai from by
    have zl := Hdh25.out.lt
    omega)
  clear hnw
  have HB26 := Lib.hid hbx
  have Hx26 := Lib.hid hxx
  have Hy26 := Lib.hid hxy
  have Hp26 := Lib.hid hxp
  have Hrg26 := Lib.hid hxrg
  have Hdg26 := Lib.hid hxdg
  have Hdh26 := Lib.hid hxdh
  have Hdi26 := Lib.hid hxdi
  clear hbx hxx hxy hxp hxrg hxdg hxdh hxdi
  clear cp23 cp0 cp1 fp23 fp0 fp1 lp
  obtain ⟨qk, hqk⟩ : ∃ q : Nr, q = (⟨(12, 3), fun i => [(0, 0), (0, 0), (0, 0), (0, 0), (0, 0), (3, 0)].getD i (0, 0), fun i => [(0, 0), (0, 0), (0, 0), (0, 0)].getD i (0, 0), 15, 0⟩ : Nr) := ⟨_, rfl⟩
  have HFk := Lib.hid (show plant qk 0 = ⟨[(0, (7, 0))], 0, 1⟩ from by
    subst hqk
    rfl)
  have HVk := Lib.hid (show vals qk = ([.int .u8 12, .int .u8 3, .int .u8 0, .int .u8 0, .int .u8 0, .int .u8 0, .int .u8 0, .int .u8 0, .int .u8 0, .int .u8 0, .int .u8 0, .int .u8 0, .int .u8 3, .int .u8 0, .int .u8 0, .int .u8 0, .int .u8 0, .int .u8 0, .int .u8 0, .int .u8 0, .int .u8 0, .int .u8 0, .int .u8 15, .int .u64 0] : List Value) from by
    subst hqk
    rfl)
  have HDk := Lib.hid (show qk.dr = ((0 : Nat) : Int) from by
    subst hqk
    rfl)
  clear hqk
  refine wp_loadN rfl (.tmp 10) rfl rfl (n := qk) (by rw [HVk.out]; exact Hp26.out) ?_
  go_wp2_with fail
  refine (Plant_d (n := qk) (d := 0) (D := ⟨[(0, (7, 0))], 0, 1⟩) (HT.out.below HB26.out) HDk.out (by omega) HFk.out).mono ?_
  rintro e w27 ⟨v, rfl, ho, hb⟩
  obtain ⟨Ak, mk, rfl, _, _, hAA⟩ := ho.form (n := 1) rfl
  obtain ⟨gk, rfl, hg1, hg2⟩ := hAA (by omega)
  obtain ⟨uk, hu, huc⟩ := own_blk ho
  have HUrk := Lib.hid (show uk[0]? = some (.int .i64 0) ∧ uk[1]? = some (.int .u8 7) ∧ uk[2]? = some (.int .u8 0) from ⟨huc 0 0 _ _ rfl rfl, huc 0 1 _ _ rfl rfl, huc 0 2 _ _ rfl rfl⟩)
  have HCrk := Lib.hid (show ai < gk from by
    have zl := Hdi26.out.lt
    omega)
  have Hrk27 := Lib.hid hu
  clear ho hAA hg1 hg2 hu huc
  have HB27 := Lib.hid (below_t HB26.out hb)
  have Hx27 := Lib.hid (Hx26.out.below hb)
  have Hy27 := Lib.hid (Hy26.out.below hb)
  have Hp27 := Lib.hid (Hp26.out.below hb)
  have Hrg27 := Lib.hid (Hrg26.out.below hb)
  have Hdg27 := Lib.hid (Hdg26.out.below hb)
  have Hdh27 := Lib.hid (Hdh26.out.below hb)
  have Hdi27 := Lib.hid (Hdi26.out.below hb)
  clear hb
  have cp12 : w27.cell? ⟨b10, 12, none⟩ = some (.int .u8 3) := Hp27.out.cell rfl
  have fp12 := Hp27.out.frozen 12
  have cp13 : w27.cell? ⟨b10, 13, none⟩ = some (.int .u8 0) := Hp27.out.cell rfl
  have fp13 := Hp27.out.frozen 13
  have lp := Hp27.out.lt
  go_wp2_with ((with_reducible refine at_slot 170 ?_); refine Classical.byContradiction (fun hG => ?_))
  refine hG ?_
  clear hG
  refine list_named (S := fun W => Below w.heap.size w W ∧ Blk W b1 TC [.int .u8 14, .int .u8 0] ∧ Blk W b2 TC [.int .u8 14, .int .u8 1] ∧ Blk W b10 TN [.int .u8 12, .int .u8 3, .int .u8 0, .int .u8 0, .int .u8 0, .int .u8 0, .int .u8 0, .int .u8 0, .int .u8 0, .int .u8 0, .int .u8 0, .int .u8 0, .int .u8 2, .int .u8 0, .int .u8 0, .int .u8 0, .int .u8 0, .int .u8 0, .int .u8 0, .int .u8 0, .int .u8 0, .int .u8 0, .int .u8 15, .int .u64 0] ∧ Blk W gg TX ug ∧ Blk W ag TD [.slice (some ⟨gg, 0, none⟩) 1 mg, .int .i64 0, .int .i64 (0)] ∧ Blk W ah TD [.slice Ah 0 mh, .int .i64 5, .int .i64 (0)] ∧ Blk W ai TD [.slice Ai 0 mi, .int .i64 5, .int .i64 (0)] ∧ Blk W gk TX uk ∧ ∃ ak, ak = w27.heap.size ∧ Blk W ak TD [.slice (some ⟨gk, 0, none⟩) 1 mk, .int .i64 0, .int .i64 (1)]) ⟨by
    have zz := HB27.out.size
    have zs := HS.out
    have qHNxy := HNxy.out
    have qHZx := HZx.out
    have qHCra := HCra.out
    have qHCda := HCda.out
    have qHCn := HCn.out
    have qHCrb := HCrb.out
    have qHCdb := HCdb.out
    have qHCrc := HCrc.out
    have qHCdc := HCdc.out
    have qHCrd := HCrd.out
    have qHCdd := HCdd.out
    have qHCde := HCde.out
    have qHCrf := HCrf.out
    have qHCdf := HCdf.out
    have qHCp := HCp.out
    have qHCrg := HCrg.out
    have qHCdg := HCdg.out
    have qHCdh := HCdh.out
    have qHCdi := HCdi.out
    have qHCrk := HCrk.out
    (repeat' (first | (with_reducible exact Below.refl _ _) | (with_reducible refine Below.setCell ?_ (by (first | omega | (simp; done) | (simp; omega))) _) | (with_reducible refine Below.alloc ?_ (by (first | omega | (simp; done) | (simp; omega))) _) | (with_reducible refine Below.drew ?_) | (with_reducible refine below_drewN ?_ _) | (with_reducible refine Below.trans ?_ (Below.mono HB27.out (by (first | omega | (simp; done) | (simp; omega))))))), by
    have qHNxy := HNxy.out
    have qHZx := HZx.out
    have qHCra := HCra.out
    have qHCda := HCda.out
    have qHCn := HCn.out
    have qHCrb := HCrb.out
    have qHCdb := HCdb.out
    have qHCrc := HCrc.out
    have qHCdc := HCdc.out
    have qHCrd := HCrd.out
    have qHCdd := HCdd.out
    have qHCde := HCde.out
    have qHCrf := HCrf.out
    have qHCdf := HCdf.out
    have qHCp := HCp.out
    have qHCrg := HCrg.out
    have qHCdg := HCdg.out
    have qHCdh := HCdh.out
    have qHCdi := HCdi.out
    have qHCrk := HCrk.out
    have zl := Hx27.out.lt
    (repeat' (first | (with_reducible exact Hx27.out) | (with_reducible refine BlkP.Blk.drew ?_) | (with_reducible refine BlkP.Blk.drewN ?_ _) | (with_reducible refine BlkP.Blk.setAt (us := ?_) (by first | omega | (simp; done) | (simp; omega)) rfl ?_ ?_) | (with_reducible refine BlkP.Blk.otherAt ?_ (by first | omega | (simp; done) | (simp; omega))) | (with_reducible refine BlkP.Blk.newA' (by first | omega | (simp; done) | (simp; omega)) rfl) | (with_reducible refine BlkP.Blk.alloc ?_ _) | (exact rfl))), by
    have qHNxy := HNxy.out
    have qHZx := HZx.out
    have qHCra := HCra.out
    have qHCda := HCda.out
    have qHCn := HCn.out
    have qHCrb := HCrb.out
    have qHCdb := HCdb.out
    have qHCrc := HCrc.out
    have qHCdc := HCdc.out
    have qHCrd := HCrd.out
    have qHCdd := HCdd.out
    have qHCde := HCde.out
    have qHCrf := HCrf.out
    have qHCdf := HCdf.out
    have qHCp := HCp.out
    have qHCrg := HCrg.out
    have qHCdg := HCdg.out
    have qHCdh := HCdh.out
    have qHCdi := HCdi.out
    have qHCrk := HCrk.out
    have zl := Hy27.out.lt
    (repeat' (first | (with_reducible exact Hy27.out) | (with_reducible refine BlkP.Blk.drew ?_) | (with_reducible refine BlkP.Blk.drewN ?_ _) | (with_reducible refine BlkP.Blk.setAt (us := ?_) (by first | omega | (simp; done) | (simp; omega)) rfl ?_ ?_) | (with_reducible refine BlkP.Blk.otherAt ?_ (by first | omega | (simp; done) | (simp; omega))) | (with_reducible refine BlkP.Blk.newA' (by first | omega | (simp; done) | (simp; omega)) rfl) | (with_reducible refine BlkP.Blk.alloc ?_ _) | (exact rfl))), by
    have qHNxy := HNxy.out
    have qHZx := HZx.out
    have qHCra := HCra.out
    have qHCda := HCda.out
    have qHCn := HCn.out
    have qHCrb := HCrb.out
    have qHCdb := HCdb.out
    have qHCrc := HCrc.out
    have qHCdc := HCdc.out
    have qHCrd := HCrd.out
    have qHCdd := HCdd.out
    have qHCde := HCde.out
    have qHCrf := HCrf.out
    have qHCdf := HCdf.out
    have qHCp := HCp.out
    have qHCrg := HCrg.out
    have qHCdg := HCdg.out
    have qHCdh := HCdh.out
    have qHCdi := HCdi.out
    have qHCrk := HCrk.out
    have zl := Hp27.out.lt
    (repeat' (first | (with_reducible exact Hp27.out) | (with_reducible refine BlkP.Blk.drew ?_) | (with_reducible refine BlkP.Blk.drewN ?_ _) | (with_reducible refine BlkP.Blk.setAt (us := ?_) (by first | omega | (simp; done) | (simp; omega)) rfl ?_ ?_) | (with_reducible refine BlkP.Blk.otherAt ?_ (by first | omega | (simp; done) | (simp; omega))) | (with_reducible refine BlkP.Blk.newA' (by first | omega | (simp; done) | (simp; omega)) rfl) | (with_reducible refine BlkP.Blk.alloc ?_ _) | (exact rfl))), by
    have qHNxy := HNxy.out
    have qHZx := HZx.out
    have qHCra := HCra.out
    have qHCda := HCda.out
    have qHCn := HCn.out
    have qHCrb := HCrb.out
    have qHCdb := HCdb.out
    have qHCrc := HCrc.out
    have qHCdc := HCdc.out
    have qHCrd := HCrd.out
    have qHCdd := HCdd.out
    have qHCde := HCde.out
    have qHCrf := HCrf.out
    have qHCdf := HCdf.out
    have qHCp := HCp.out
    have qHCrg := HCrg.out
    have qHCdg := HCdg.out
    have qHCdh := HCdh.out
    have qHCdi := HCdi.out
    have qHCrk := HCrk.out
    have zl := Hrg27.out.lt
    (repeat' (first | (with_reducible exact Hrg27.out) | (with_reducible refine BlkP.Blk.drew ?_) | (with_reducible refine BlkP.Blk.drewN ?_ _) | (with_reducible refine BlkP.Blk.setAt (us := ?_) (by first | omega | (simp; done) | (simp; omega)) rfl ?_ ?_) | (with_reducible refine BlkP.Blk.otherAt ?_ (by first | omega | (simp; done) | (simp; omega))) | (with_reducible refine BlkP.Blk.newA' (by first | omega | (simp; done) | (simp; omega)) rfl) | (with_reducible refine BlkP.Blk.alloc ?_ _) | (exact rfl))), by
    have qHNxy := HNxy.out
    have qHZx := HZx.out
    have qHCra := HCra.out
    have qHCda := HCda.out
    have qHCn := HCn.out
    have qHCrb := HCrb.out
    have qHCdb := HCdb.out
    have qHCrc := HCrc.out
    have qHCdc := HCdc.out
    have qHCrd := HCrd.out
    have qHCdd := HCdd.out
    have qHCde := HCde.out
    have qHCrf := HCrf.out
    have qHCdf := HCdf.out
    have qHCp := HCp.out
    have qHCrg := HCrg.out
    have qHCdg := HCdg.out
    have qHCdh := HCdh.out
    have qHCdi := HCdi.out
    have qHCrk := HCrk.out
    have zl := Hdg27.out.lt
    (repeat' (first | (with_reducible exact Hdg27.out) | (with_reducible refine BlkP.Blk.drew ?_) | (with_reducible refine BlkP.Blk.drewN ?_ _) | (with_reducible refine BlkP.Blk.setAt (us := ?_) (by first | omega | (simp; done) | (simp; omega)) rfl ?_ ?_) | (with_reducible refine BlkP.Blk.otherAt ?_ (by first | omega | (simp; done) | (simp; omega))) | (with_reducible refine BlkP.Blk.newA' (by first | omega | (simp; done) | (simp; omega)) rfl) | (with_reducible refine BlkP.Blk.alloc ?_ _) | (exact rfl))), by
    have qHNxy := HNxy.out
    have qHZx := HZx.out
    have qHCra := HCra.out
    have qHCda := HCda.out
    have qHCn := HCn.out
    have qHCrb := HCrb.out
    have qHCdb := HCdb.out
    have qHCrc := HCrc.out
    have qHCdc := HCdc.out
    have qHCrd := HCrd.out
    have qHCdd := HCdd.out
    have qHCde := HCde.out
    have qHCrf := HCrf.out
    have qHCdf := HCdf.out
    have qHCp := HCp.out
    have qHCrg := HCrg.out
    have qHCdg := HCdg.out
    have qHCdh := HCdh.out
    have qHCdi := HCdi.out
    have qHCrk := HCrk.out
    have zl := Hdh27.out.lt
    (repeat' (first | (with_reducible exact Hdh27.out) | (with_reducible refine BlkP.Blk.drew ?_) | (with_reducible refine BlkP.Blk.drewN ?_ _) | (with_reducible refine BlkP.Blk.setAt (us := ?_) (by first | omega | (simp; done) | (simp; omega)) rfl ?_ ?_) | (with_reducible refine BlkP.Blk.otherAt ?_ (by first | omega | (simp; done) | (simp; omega))) | (with_reducible refine BlkP.Blk.newA' (by first | omega | (simp; done) | (simp; omega)) rfl) | (with_reducible refine BlkP.Blk.alloc ?_ _) | (exact rfl))), by
    have qHNxy := HNxy.out
    have qHZx := HZx.out
    have qHCra := HCra.out
    have qHCda := HCda.out
    have qHCn := HCn.out
    have qHCrb := HCrb.out
    have qHCdb := HCdb.out
    have qHCrc := HCrc.out
    have qHCdc := HCdc.out
    have qHCrd := HCrd.out
    have qHCdd := HCdd.out
    have qHCde := HCde.out
    have qHCrf := HCrf.out
    have qHCdf := HCdf.out
    have qHCp := HCp.out
    have qHCrg := HCrg.out
    have qHCdg := HCdg.out
    have qHCdh := HCdh.out
    have qHCdi := HCdi.out
    have qHCrk := HCrk.out
    have zl := Hdi27.out.lt
    (repeat' (first | (with_reducible exact Hdi27.out) | (with_reducible refine BlkP.Blk.drew ?_) | (with_reducible refine BlkP.Blk.drewN ?_ _) | (with_reducible refine BlkP.Blk.setAt (us := ?_) (by first | omega | (simp; done) | (simp; omega)) rfl ?_ ?_) | (with_reducible refine BlkP.Blk.otherAt ?_ (by first | omega | (simp; done) | (simp; omega))) | (with_reducible refine BlkP.Blk.newA' (by first | omega | (simp; done) | (simp; omega)) rfl) | (with_reducible refine BlkP.Blk.alloc ?_ _) | (exact rfl))), by
    have qHNxy := HNxy.out
    have qHZx := HZx.out
    have qHCra := HCra.out
    have qHCda := HCda.out
    have qHCn := HCn.out
    have qHCrb := HCrb.out
    have qHCdb := HCdb.out
    have qHCrc := HCrc.out
    have qHCdc := HCdc.out
    have qHCrd := HCrd.out
    have qHCdd := HCdd.out
    have qHCde := HCde.out
    have qHCrf := HCrf.out
    have qHCdf := HCdf.out
    have qHCp := HCp.out
    have qHCrg := HCrg.out
    have qHCdg := HCdg.out
    have qHCdh := HCdh.out
    have qHCdi := HCdi.out
    have qHCrk := HCrk.out
    have zl := Hrk27.out.lt
    (repeat' (first | (with_reducible exact Hrk27.out) | (with_reducible refine BlkP.Blk.drew ?_) | (with_reducible refine BlkP.Blk.drewN ?_ _) | (with_reducible refine BlkP.Blk.setAt (us := ?_) (by first | omega | (simp; done) | (simp; omega)) rfl ?_ ?_) | (with_reducible refine BlkP.Blk.otherAt ?_ (by first | omega | (simp; done) | (simp; omega))) | (with_reducible refine BlkP.Blk.newA' (by first | omega | (simp; done) | (simp; omega)) rfl) | (with_reducible refine BlkP.Blk.alloc ?_ _) | (exact rfl))), ⟨w27.heap.size, rfl, by (repeat' (first | (with_reducible refine BlkP.Blk.drew ?_) | (with_reducible refine BlkP.Blk.drewN ?_ _) | (with_reducible refine BlkP.Blk.setAt (us := ?_) (by first | omega | (simp; done) | (simp; omega)) rfl ?_ ?_) | (with_reducible refine BlkP.Blk.otherAt ?_ (by first | omega | (simp; done) | (simp; omega))) | (with_reducible refine BlkP.Blk.newA' (by first | omega | (simp; done) | (simp; omega)) rfl) | (with_reducible refine BlkP.Blk.alloc ?_ _) | (exact rfl)))⟩⟩ ?_
  rintro w28 ⟨hbx, hxx, hxy, hxp, hxrg, hxdg, hxdh, hxdi, hxrk, ak, hnw, hxdk⟩
  try rw [← hnw]
  have HCdk := Lib.hid (show gk < ak from by
    have zl := Hrk27.out.lt
    omega)
  clear hnw
  have HB28 := Lib.hid hbx
  have Hx28 := Lib.hid hxx
  have Hy28 := Lib.hid hxy
  have Hp28 := Lib.hid hxp
  have Hrg28 := Lib.hid hxrg
  have Hdg28 := Lib.hid hxdg
  have Hdh28 := Lib.hid hxdh
  have Hdi28 := Lib.hid hxdi
  have Hrk28 := Lib.hid hxrk
  have Hdk28 := Lib.hid hxdk
  clear hbx hxx hxy hxp hxrg hxdg hxdh hxdi hxrk hxdk
  clear cp12 cp13 fp12 fp13 lp
  obtain ⟨qm, hqm⟩ : ∃ q : Nr, q = (⟨(12, 3), fun i => [(0, 0), (0, 0), (0, 0), (0, 0), (0, 0), (2, 0)].getD i (0, 0), fun i => [(0, 0), (0, 0), (0, 0), (0, 0)].getD i (0, 0), 15, 0⟩ : Nr) := ⟨_, rfl⟩
  have HFm := Lib.hid (show plant qm 0 = ⟨[(0, (0, 0))], 0, 0⟩ from by
    subst hqm
    rfl)
  have HVm := Lib.hid (show vals qm = ([.int .u8 12, .int .u8 3, .int .u8 0, .int .u8 0, .int .u8 0, .int .u8 0, .int .u8 0, .int .u8 0, .int .u8 0, .int .u8 0, .int .u8 0, .int .u8 0, .int .u8 2, .int .u8 0, .int .u8 0, .int .u8 0, .int .u8 0, .int .u8 0, .int .u8 0, .int .u8 0, .int .u8 0, .int .u8 0, .int .u8 15, .int .u64 0] : List Value) from by
    subst hqm
    rfl)
  have HDm := Lib.hid (show qm.dr = ((0 : Nat) : Int) from by
    subst hqm
    rfl)
  clear hqm
  refine wp_loadN rfl (.tmp 10) rfl rfl (n := qm) (by rw [HVm.out]; exact Hp28.out) ?_
  go_wp2_with fail
  refine (Plant_d (n := qm) (d := 0) (D := ⟨[(0, (0, 0))], 0, 0⟩) (HT.out.below HB28.out) HDm.out (by omega) HFm.out).mono ?_
  rintro e w29 ⟨v, rfl, ho, hb⟩
  obtain ⟨Am, mm, rfl, _, _, hAA⟩ := ho.form (n := 1) rfl
  obtain ⟨gm, rfl, hg1, hg2⟩ := hAA (by omega)
  obtain ⟨um, hu, huc⟩ := own_blk ho
  have HUrm := Lib.hid (show um[0]? = some (.int .i64 0) ∧ um[1]? = some (.int .u8 0) ∧ um[2]? = some (.int .u8 0) from ⟨huc 0 0 _ _ rfl rfl, huc 0 1 _ _ rfl rfl, huc 0 2 _ _ rfl rfl⟩)
  have HCrm := Lib.hid (show ak < gm from by
    have zl := Hdk28.out.lt
    omega)
  have Hrm29 := Lib.hid hu
  clear ho hAA hg1 hg2 hu huc
  have HB29 := Lib.hid (below_t HB28.out hb)
  have Hx29 := Lib.hid (Hx28.out.below hb)
  have Hy29 := Lib.hid (Hy28.out.below hb)
  have Hp29 := Lib.hid (Hp28.out.below hb)
  have Hrg29 := Lib.hid (Hrg28.out.below hb)
  have Hdg29 := Lib.hid (Hdg28.out.below hb)
  have Hdh29 := Lib.hid (Hdh28.out.below hb)
  have Hdi29 := Lib.hid (Hdi28.out.below hb)
  have Hrk29 := Lib.hid (Hrk28.out.below hb)
  have Hdk29 := Lib.hid (Hdk28.out.below hb)
  clear hb
  have cdg0 : w29.cell? ⟨ag, 0, none⟩ = some (.slice (some ⟨gg, 0, none⟩) 1 mg) := Hdg29.out.cell rfl
  have cdg1 : w29.cell? ⟨ag, 1, none⟩ = some (.int .i64 0) := Hdg29.out.cell rfl
  have cdg2 : w29.cell? ⟨ag, 2, none⟩ = some (.int .i64 (0)) := Hdg29.out.cell rfl
  have ldg := Hdg29.out.lt
  have crg0 : w29.cell? ⟨gg, 0, none⟩ = some (.int .i64 0) := Hrg29.out.cell HUrg.out.1
  have crg1 : w29.cell? ⟨gg, 1, none⟩ = some (.int .u8 12) := Hrg29.out.cell HUrg.out.2.1
  have crg2 : w29.cell? ⟨gg, 2, none⟩ = some (.int .u8 1) := Hrg29.out.cell HUrg.out.2.2
  have lrg := Hrg29.out.lt
  have cdh0 : w29.cell? ⟨ah, 0, none⟩ = some (.slice Ah 0 mh) := Hdh29.out.cell rfl
  have cdh1 : w29.cell? ⟨ah, 1, none⟩ = some (.int .i64 5) := Hdh29.out.cell rfl
  have cdh2 : w29.cell? ⟨ah, 2, none⟩ = some (.int .i64 (0)) := Hdh29.out.cell rfl
  have ldh := Hdh29.out.lt
  have cdi0 : w29.cell? ⟨ai, 0, none⟩ = some (.slice Ai 0 mi) := Hdi29.out.cell rfl
  have cdi1 : w29.cell? ⟨ai, 1, none⟩ = some (.int .i64 5) := Hdi29.out.cell rfl
  have cdi2 : w29.cell? ⟨ai, 2, none⟩ = some (.int .i64 (0)) := Hdi29.out.cell rfl
  have ldi := Hdi29.out.lt
  have cdk0 : w29.cell? ⟨ak, 0, none⟩ = some (.slice (some ⟨gk, 0, none⟩) 1 mk) := Hdk29.out.cell rfl
  have cdk1 : w29.cell? ⟨ak, 1, none⟩ = some (.int .i64 0) := Hdk29.out.cell rfl
  have cdk2 : w29.cell? ⟨ak, 2, none⟩ = some (.int .i64 (1)) := Hdk29.out.cell rfl
  have ldk := Hdk29.out.lt
  have crk0 : w29.cell? ⟨gk, 0, none⟩ = some (.int .i64 0) := Hrk29.out.cell HUrk.out.1
  have crk1 : w29.cell? ⟨gk, 1, none⟩ = some (.int .u8 7) := Hrk29.out.cell HUrk.out.2.1
  have crk2 : w29.cell? ⟨gk, 2, none⟩ = some (.int .u8 0) := Hrk29.out.cell HUrk.out.2.2
  have lrk := Hrk29.out.lt
  have crm0 : w29.cell? ⟨gm, 0, none⟩ = some (.int .i64 0) := Hrm29.out.cell HUrm.out.1
  have crm1 : w29.cell? ⟨gm, 1, none⟩ = some (.int .u8 0) := Hrm29.out.cell HUrm.out.2.1
  have crm2 : w29.cell? ⟨gm, 2, none⟩ = some (.int .u8 0) := Hrm29.out.cell HUrm.out.2.2
  have lrm := Hrm29.out.lt
  have zz := HB29.out.size
  go_wp2_with fail
  refine (works_c (HT.out.below (by have zz := HB29.out.size; have zs := HS.out; (repeat' (first | (with_reducible exact Below.refl _ _) | (with_reducible refine Below.setCell ?_ (by (first | omega | (simp; done) | (simp; omega))) _) | (with_reducible refine Below.alloc ?_ (by (first | omega | (simp; done) | (simp; omega))) _) | (with_reducible refine Below.drew ?_) | (with_reducible refine below_drewN ?_ _) | (with_reducible refine Below.trans ?_ (Below.mono HB29.out (by (first | omega | (simp; done) | (simp; omega)))))))))).mono ?_
  rintro e wz ⟨rfl, hb⟩
  have HBZ := Lib.hid (show Below w.heap.size w wz by have zs := HS.out; (repeat' (first | (with_reducible exact Below.refl _ _) | (with_reducible refine Below.setCell ?_ (by (first | omega | (simp; done) | (simp; omega))) _) | (with_reducible refine Below.alloc ?_ (by (first | omega | (simp; done) | (simp; omega))) _) | (with_reducible refine Below.drew ?_) | (with_reducible refine below_drewN ?_ _) | (with_reducible refine Below.trans ?_ (Below.mono HB29.out (by (first | omega | (simp; done) | (simp; omega))))) | (with_reducible refine Below.trans ?_ (Below.mono hb (by (first | omega | (simp; done) | (simp; omega))))))))
  clear cdg0 cdg1 cdg2 ldg crg0 crg1 crg2 lrg cdh0 cdh1 cdh2 ldh cdi0 cdi1 cdi2 ldi cdk0 cdk1 cdk2 ldk crk0 crk1 crk2 lrk crm0 crm1 crm2 lrm
  clear hb
  go_wp2_with fail
  go_ret
  exact ⟨by first | rfl | simp, by first | exact HBZ.out | (exact HS.out ▸ HBZ.out)⟩
end BurnW
end Go.Proofs.YtlidcefmpoelkaaDoor
