/-
  feeding: the level sides that feed, all else Air.
-/
import Derived.Test.YtlahkmkipciiiaaDoorFlowSound
namespace Go.Proofs.YtlahkmkipciiiaaDoor
open Go.RowKit
set_option linter.unusedVariables false
set_option linter.unusedSimpArgs false
namespace FlowW
open BlkP RowG FrS PushG FlowP
/-- Of the first so many level sides those that feed. -/
def gv (n : Nr) (j : Nat) : Nr := {nz with sd := fun i => if i < j ∧ gives n i = true then n.sd i else (0, 0)}
theorem gv_yes {n : Nr} {j : Nat} (h : gives n j = true) : {gv n j with sd := upd (gv n j).sd j (n.sd j)} = gv n (j + 1) := by
  simp only [gv, Nr.mk.injEq, true_and, and_true]
  funext i
  simp only [upd]
  by_cases e : i = j
  · subst e
    simp [h]
  · rw [if_neg e]
    by_cases h2 : i < j
    · simp [h2, show i < j + 1 by omega]
    · simp [h2, show ¬ i < j + 1 by omega]
theorem gv_no {n : Nr} {j : Nat} (h : gives n j = false) : gv n j = gv n (j + 1) := by
  simp only [gv, Nr.mk.injEq, true_and, and_true]
  funext i
  by_cases e : i = j
  · subst e
    simp [h]
  · by_cases h2 : i < j
    · simp [h2, show i < j + 1 by omega]
    · simp [h2, show ¬ i < j + 1 by omega]
theorem gv_zero (n : Nr) : vals (gv n 0) = vals nz := rfl
set_option maxRecDepth 100000 in
set_option maxHeartbeats 16000000 in
theorem feeding_c {w : World} {n : Nr} (hT : KindW.Tab w) : Calls Tryd.prog 68 #[nv n] w fun e w' => e = .returned (nv (gv n 4)) ∧ Below w.heap.size w w' := by
  have HT := Lib.hid hT
  clear hT
  go_enter Tryd.func68, Tryd.ntmps68
  go_wp2_with ((with_reducible refine at_slot 1 ?_); refine Classical.byContradiction (fun hG => ?_))
  refine hG ?_
  clear hG
  refine wp_boxN rfl (.tmp 0) rfl rfl ?_
  intro w1 h1 hb1 hz1
  go_wp2_with fail
  obtain ⟨s, hs⟩ : ∃ s, w.heap.size = s := ⟨_, rfl⟩
  refine HeldP.wp_named (S := fun W => Below w.heap.size w W ∧ Blk W s TN (vals n) ∧ Blk W (s + 1) TN (vals nz) ∧ Blk W (s + 2) TN (vals nz) ∧ W.heap.size = s + 3) ⟨by (repeat' (first | (with_reducible exact Below.refl _ _) | (with_reducible refine Below.setCell ?_ (by (first | omega | (simp; done) | (simp; omega))) _) | (with_reducible refine Below.alloc ?_ (by (first | omega | (simp; done) | (simp; omega))) _) | (with_reducible refine Below.drew ?_) | (with_reducible refine below_drewN ?_ _) | (with_reducible refine Below.trans ?_ (Below.mono hb1 (by (first | omega | (simp; done) | (simp; omega))))))), by subst hs; (repeat' (first | (with_reducible exact h1) | (with_reducible refine BlkP.Blk.drew ?_) | (with_reducible refine BlkP.Blk.drewN ?_ _) | (with_reducible refine BlkP.Blk.setAt (us := ?_) (by first | omega | (simp; done) | (simp; omega)) rfl ?_ ?_) | (with_reducible refine BlkP.Blk.otherAt ?_ (by first | omega | (simp; done) | (simp; omega))) | (with_reducible refine BlkP.Blk.newA' (by first | omega | (simp; done) | (simp; omega)) rfl) | (with_reducible refine BlkP.Blk.alloc ?_ _) | (exact rfl))), by subst hs; (repeat' (first | (with_reducible refine BlkP.Blk.drew ?_) | (with_reducible refine BlkP.Blk.drewN ?_ _) | (with_reducible refine BlkP.Blk.setAt (us := ?_) (by first | omega | (simp; done) | (simp; omega)) rfl ?_ ?_) | (with_reducible refine BlkP.Blk.otherAt ?_ (by first | omega | (simp; done) | (simp; omega))) | (with_reducible refine BlkP.Blk.newA' (by first | omega | (simp; done) | (simp; omega)) rfl) | (with_reducible refine BlkP.Blk.alloc ?_ _) | (exact rfl))), by subst hs; (repeat' (first | (with_reducible refine BlkP.Blk.drew ?_) | (with_reducible refine BlkP.Blk.drewN ?_ _) | (with_reducible refine BlkP.Blk.setAt (us := ?_) (by first | omega | (simp; done) | (simp; omega)) rfl ?_ ?_) | (with_reducible refine BlkP.Blk.otherAt ?_ (by first | omega | (simp; done) | (simp; omega))) | (with_reducible refine BlkP.Blk.newA' (by first | omega | (simp; done) | (simp; omega)) rfl) | (with_reducible refine BlkP.Blk.alloc ?_ _) | (exact rfl))), by simp; omega⟩ ?_
  rintro w2 ⟨hb2, h2, hz2, hg2, hz3⟩
  rw [hs]
  have HS := Lib.hid hs
  have HB2 := Lib.hid hb2
  have H2 := Lib.hid h2
  have HZ2 := Lib.hid hz2
  have HG2 := Lib.hid hg2
  have HZ3 := Lib.hid hz3
  clear hs hb1 h1 hz1 hb2 h2 hz2 hg2 hz3
  go_loopw [8] (fun v8 wr => ∃ j : Nat, v8 = .int .i64 (j : Nat) ∧ j ≤ 4 ∧ Blk wr s TN (vals n) ∧ Blk wr (s + 1) TN (vals nz) ∧ Blk wr (s + 2) TN (vals (gv n j)) ∧ Below w.heap.size w wr ∧ s + 3 ≤ wr.heap.size) (fun v _ => 4 - (intOf v).toNat)
  case atStart => exact ⟨0, rfl, by omega, H2.out, HZ2.out, HG2.out, HB2.out, by rw [HZ3.out]; exact Nat.le_refl _⟩
  case round =>
    obtain ⟨j, rfl, hj, hr, hzr, hgr, hbr, hsz⟩ := hrel
    have HR := Lib.hid hr
    have HZR := Lib.hid hzr
    have HGR := Lib.hid hgr
    have HBR := Lib.hid hbr
    have HSZ := Lib.hid hsz
    by_cases hjl : j < 4
    · have hjI : (j : Int) < 4 := by omega
      have hj6I : (j : Int) < 6 := by omega
      obtain ⟨⟨k, l⟩, hc1⟩ : ∃ c, n.sd j = c := ⟨_, rfl⟩
      obtain ⟨⟨k2, l2⟩, hc2⟩ : ∃ c, n.un j = c := ⟨_, rfl⟩
      have HC1 := Lib.hid hc1
      have HC2 := Lib.hid hc2
      have HWR := Lib.hid (show wrap64 ((j : Int) + 1) = ((j + 1 : Nat) : Int) by rw [wr64 (by omega) (by omega)]; omega)
      have HA := Lib.hid (show (vals n)[2 + j * 2]? = some (.int .u8 (k : Int)) ∧ (vals n)[2 + j * 2 + 1]? = some (.int .u8 (l : Int)) ∧ (vals n)[14 + j * 2]? = some (.int .u8 (k2 : Int)) ∧ (vals n)[14 + j * 2 + 1]? = some (.int .u8 (l2 : Int)) from by
        have a1 := g_sk n (d := j) (by omega)
        have a2 := g_sl n (d := j) (by omega)
        have a3 := g_uk n (d := j) (by omega)
        have a4 := g_ul n (d := j) (by omega)
        rw [hc1] at a1 a2
        rw [hc2] at a3 a4
        exact ⟨a1, a2, a3, a4⟩)
      clear hr hzr hgr hbr hsz hc1 hc2
      go_wp2_with fail
      refine wp_region_noPanic ?_
      refine wp_region_held_drew (S := fun Xw => Blk Xw s TN (vals n)) (by kernel_rfl) (HR.out.drew) (fun hHeld => ?_)
      refine wpAnyH_take (i := 0) (oi := ⟨some 11, _, _, _, _, _⟩) (v := .int .i64 (j : Int)) rfl (by kernel_rfl) (by kernel_rfl) (by kernel_rfl) (fun _ _ _ h => h) (Or.inl ⟨by rfl, fun Xw hSW => by go_simp⟩) hHeld ?_
      simp only [Act.put, List.setIfInBounds_toArray, List.set_cons_zero, List.set_cons_succ]
      refine wpAnyH_take (i := 1) (oi := ⟨some 12, _, _, _, _, _⟩) (v := .pointer (some ⟨s, 2, none⟩)) rfl (by kernel_rfl) (by kernel_rfl) (by kernel_rfl) (fun _ _ _ h => h) (Or.inl ⟨by rfl, fun Xw hSW => by go_simp⟩) hHeld ?_
      simp only [Act.put, List.setIfInBounds_toArray, List.set_cons_zero, List.set_cons_succ]
      refine wpAnyH_take (i := 2) (oi := ⟨some 13, _, _, _, _, _⟩) (v := .pointer (some ⟨s, 2 + j * 2, none⟩)) rfl (by kernel_rfl) (by kernel_rfl) (by kernel_rfl) (fun _ _ _ h => h) (Or.inl ⟨by rfl, fun Xw hSW => by go_simp⟩) hHeld ?_
      simp only [Act.put, List.setIfInBounds_toArray, List.set_cons_zero, List.set_cons_succ]
      refine wpAnyH_take (i := 3) (oi := ⟨some 14, _, _, _, _, _⟩) (v := .agg #[.int .u8 (k : Int), .int .u8 (l : Int)]) rfl (by kernel_rfl) (by kernel_rfl) (by kernel_rfl) (fun _ _ _ h => h) (Or.inl ⟨by rfl, fun Xw hSW => by have a0 : Xw.cell? ⟨s, 2 + j * 2, none⟩ = some (.int .u8 (k : Int)) := hSW.cell HA.out.1; have a1 : Xw.cell? ⟨s, 2 + j * 2 + 1, none⟩ = some (.int .u8 (l : Int)) := hSW.cell HA.out.2.1; go_simp⟩) hHeld ?_
      simp only [Act.put, List.setIfInBounds_toArray, List.set_cons_zero, List.set_cons_succ]
      refine wpAnyH_take (i := 4) (oi := ⟨some 15, _, _, _, _, _⟩) (v := .int .i64 (j : Int)) rfl (by kernel_rfl) (by kernel_rfl) (by kernel_rfl) (fun _ _ _ h => h) (Or.inl ⟨by rfl, fun Xw hSW => by go_simp⟩) hHeld ?_
      simp only [Act.put, List.setIfInBounds_toArray, List.set_cons_zero, List.set_cons_succ]
      refine wpAnyH_take (i := 5) (oi := ⟨some 16, _, _, _, _, _⟩) (v := .pointer (some ⟨s, 14, none⟩)) rfl (by kernel_rfl) (by kernel_rfl) (by kernel_rfl) (fun _ _ _ h => h) (Or.inl ⟨by rfl, fun Xw hSW => by go_simp⟩) hHeld ?_
      simp only [Act.put, List.setIfInBounds_toArray, List.set_cons_zero, List.set_cons_succ]
      refine wpAnyH_take (i := 6) (oi := ⟨some 17, _, _, _, _, _⟩) (v := .pointer (some ⟨s, 14 + j * 2, none⟩)) rfl (by kernel_rfl) (by kernel_rfl) (by kernel_rfl) (fun _ _ _ h => h) (Or.inl ⟨by rfl, fun Xw hSW => by go_simp⟩) hHeld ?_
      simp only [Act.put, List.setIfInBounds_toArray, List.set_cons_zero, List.set_cons_succ]
      refine wpAnyH_take (i := 7) (oi := ⟨some 18, _, _, _, _, _⟩) (v := .agg #[.int .u8 (k2 : Int), .int .u8 (l2 : Int)]) rfl (by kernel_rfl) (by kernel_rfl) (by kernel_rfl) (fun _ _ _ h => h) (Or.inl ⟨by rfl, fun Xw hSW => by have a0 : Xw.cell? ⟨s, 14 + j * 2, none⟩ = some (.int .u8 (k2 : Int)) := hSW.cell HA.out.2.2.1; have a1 : Xw.cell? ⟨s, 14 + j * 2 + 1, none⟩ = some (.int .u8 (l2 : Int)) := hSW.cell HA.out.2.2.2; go_simp⟩) hHeld ?_
      simp only [Act.put, List.setIfInBounds_toArray, List.set_cons_zero, List.set_cons_succ]
      refine wpAnyH_ready (rs := [8, 9]) (by kernel_rfl) (by simp) ?_
      refine AllReadyH.cons (o := ⟨some 5, _, _, _, _, _⟩) rfl (fun K hK => ?_) (AllReadyH.cons (o := ⟨some 6, _, _, _, _, _⟩) rfl (fun K hK => ?_) AllReadyH.nil)
      · go_simp
        refine hK.out _ _ (HR.out.below (by (repeat' (first | (with_reducible exact Below.refl _ _) | (with_reducible refine Below.setCell ?_ (by (first | omega | (simp; done) | (simp; omega))) _) | (with_reducible refine Below.alloc ?_ (by (first | omega | (simp; done) | (simp; omega))) _) | (with_reducible refine Below.drew ?_) | (with_reducible refine below_drewN ?_ _))))) (fun hHeld => ?_)
        clear hK K
        refine wpAnyH_ready (rs := [9]) (by kernel_rfl) (by simp) ?_
        refine AllReadyH.cons (o := ⟨some 6, _, _, _, _, _⟩) rfl (fun K hK => ?_) AllReadyH.nil
        go_simp
        refine hK.out _ _ (HR.out.below (by (repeat' (first | (with_reducible exact Below.refl _ _) | (with_reducible refine Below.setCell ?_ (by (first | omega | (simp; done) | (simp; omega))) _) | (with_reducible refine Below.alloc ?_ (by (first | omega | (simp; done) | (simp; omega))) _) | (with_reducible refine Below.drew ?_) | (with_reducible refine below_drewN ?_ _))))) (fun hHeld => ?_)
        clear hK K
        refine wpAnyH_ready (rs := [10]) (by kernel_rfl) (by simp) ?_
        refine AllReadyH.cons (o := ⟨none, _, _, _, _, _⟩) rfl (fun K hK => ?_) AllReadyH.nil
        go_simp
        refine hK.out _ _ (HR.out.below (by (repeat' (first | (with_reducible exact Below.refl _ _) | (with_reducible refine Below.setCell ?_ (by (first | omega | (simp; done) | (simp; omega))) _) | (with_reducible refine Below.alloc ?_ (by (first | omega | (simp; done) | (simp; omega))) _) | (with_reducible refine Below.drew ?_) | (with_reducible refine below_drewN ?_ _))))) (fun hHeld => ?_)
        clear hK K
        refine wpAnyH_ready (rs := [11]) (by kernel_rfl) (by simp) ?_
        refine AllReadyH.cons (o := ⟨none, _, _, _, _, _⟩) rfl (fun K hK => ?_) AllReadyH.nil
        go_simp
        refine hK.out _ _ (HR.out.below (by (repeat' (first | (with_reducible exact Below.refl _ _) | (with_reducible refine Below.setCell ?_ (by (first | omega | (simp; done) | (simp; omega))) _) | (with_reducible refine Below.alloc ?_ (by (first | omega | (simp; done) | (simp; omega))) _) | (with_reducible refine Below.drew ?_) | (with_reducible refine below_drewN ?_ _))))) (fun hHeld => ?_)
        clear hK K
        refine wpAnyH_done (by kernel_rfl) ?_ _
        refine NoPanic.normal ?_
        clear hHeld
        obtain ⟨b, hb⟩ : ∃ b, wr.heap.size = b := ⟨_, rfl⟩
        refine HeldP.then_named (S := fun W => Below wr.heap.size wr W ∧ Blk W (b) TC [.int .u8 (k : Int), .int .u8 (l : Int)] ∧ Blk W (b + 1) TC [.int .u8 (k2 : Int), .int .u8 (l2 : Int)] ∧ W.heap.size = b + 2) ⟨by (repeat' (first | (with_reducible exact Below.refl _ _) | (with_reducible refine Below.setCell ?_ (by (first | omega | (simp; done) | (simp; omega))) _) | (with_reducible refine Below.alloc ?_ (by (first | omega | (simp; done) | (simp; omega))) _) | (with_reducible refine Below.drew ?_) | (with_reducible refine below_drewN ?_ _))), by subst hb; (repeat' (first | (with_reducible refine BlkP.Blk.drew ?_) | (with_reducible refine BlkP.Blk.drewN ?_ _) | (with_reducible refine BlkP.Blk.setAt (us := ?_) (by first | omega | (simp; done) | (simp; omega)) rfl ?_ ?_) | (with_reducible refine BlkP.Blk.otherAt ?_ (by first | omega | (simp; done) | (simp; omega))) | (with_reducible refine BlkP.Blk.newA' (by first | omega | (simp; done) | (simp; omega)) rfl) | (with_reducible refine BlkP.Blk.alloc ?_ _) | (exact rfl))), by subst hb; (repeat' (first | (with_reducible refine BlkP.Blk.drew ?_) | (with_reducible refine BlkP.Blk.drewN ?_ _) | (with_reducible refine BlkP.Blk.setAt (us := ?_) (by first | omega | (simp; done) | (simp; omega)) rfl ?_ ?_) | (with_reducible refine BlkP.Blk.otherAt ?_ (by first | omega | (simp; done) | (simp; omega))) | (with_reducible refine BlkP.Blk.newA' (by first | omega | (simp; done) | (simp; omega)) rfl) | (with_reducible refine BlkP.Blk.alloc ?_ _) | (exact rfl))), by simp; omega⟩ ?_
        rintro X0 ⟨hx, hu, hv, hzx⟩
        rw [hb]
        have HBB := Lib.hid (show s + 3 ≤ b by rw [← hb]; exact HSZ.out)
        have HX0 := Lib.hid hx
        have HU0 := Lib.hid hu
        have HV0 := Lib.hid hv
        have p0 := hv.cell (i := 0) rfl
        have p1 := hv.cell (i := 1) rfl
        clear hx hu hv hb hzx
        cases hk : KindP.soaks k2 with
        | true =>
          have HK := Lib.hid (show soak (k2, l2) = true from hk)
          go_wp2_with fail
          refine (soaks_b hk _ (HT.out.below (below_t HBR.out HX0.out))).mono ?_
          rintro e X1 ⟨rfl, hb1⟩
          have HX1 := Lib.hid (below_t HX0.out hb1)
          have HU1 := Lib.hid (HU0.out.below hb1)
          have HV1 := Lib.hid (HV0.out.below hb1)
          have p0 := HV1.out.cell (i := 0) rfl
          have p1 := HV1.out.cell (i := 1) rfl
          clear hb1
          clear hk
          go_wp2_with fail
          cases hw : wet (k, l) with
          | false =>
            have HW := Lib.hid hw
            clear hw
            have HH := Lib.hid (show gives n j = false from by simp [gives, holds, HC1.out, HC2.out, HW.out, HK.out])
            refine HeldP.wp_named (S := fun W => Below X1.heap.size X1 W) (by (repeat' (first | (with_reducible exact Below.refl _ _) | (with_reducible refine Below.setCell ?_ (by (first | omega | (simp; done) | (simp; omega))) _) | (with_reducible refine Below.alloc ?_ (by (first | omega | (simp; done) | (simp; omega))) _) | (with_reducible refine Below.drew ?_) | (with_reducible refine below_drewN ?_ _)))) ?_
            rintro Y0 hy0
            have HY0 := Lib.hid (below_t HX1.out hy0)
            have HU9 := Lib.hid (HU1.out.below hy0)
            have lp := HU9.out.lt
            have q0 := HU9.out.cell (i := 0) rfl
            have q1 := HU9.out.cell (i := 1) rfl
            clear hy0
            refine wp_region_noPanic ?_
            refine wp_region_held_drew (S := fun W => Below Y0.heap.size Y0 W) (by kernel_rfl) ((Below.refl _ Y0).drew) (fun hHeld => ?_)
            refine wpAnyH_take (i := 0) (oi := ⟨some 28, _, _, _, _, _⟩) (v := .agg #[.int .u8 (k : Int), .int .u8 (l : Int)]) rfl (by kernel_rfl) (by kernel_rfl) (by kernel_rfl) (fun _ _ _ h => h) (Or.inl ⟨by rfl, fun W hSW => by have a0 := (hSW.cell (p := ⟨b, 0, none⟩) lp).trans q0; have a1 := (hSW.cell (p := ⟨b, 1, none⟩) lp).trans q1; go_simp⟩) hHeld ?_
            simp only [Act.put, List.setIfInBounds_toArray, List.set_cons_zero, List.set_cons_succ]
            refine wpAnyH_ready (rs := [1]) (by kernel_rfl) (by simp) ?_
            refine AllReadyH.cons (o := ⟨some 29, _, _, _, _, _⟩) rfl (fun K hK => ?_) AllReadyH.nil
            go_simp
            refine (isWater_c HW.out).mono ?_
            rintro e w91 ⟨rfl, hb91⟩
            go_wp2_with fail
            refine hK.out _ _ (below_t hHeld hb91) (fun hHeld => ?_)
            clear hK K hb91
            refine wpAnyH_take (i := 2) (oi := ⟨some 30, _, _, _, _, _⟩) (v := .bool false) rfl (by kernel_rfl) (by kernel_rfl) (by kernel_rfl) (fun _ _ _ h => h) (Or.inl ⟨by rfl, fun W hSW => by go_simp⟩) hHeld ?_
            simp only [Act.put, List.setIfInBounds_toArray, List.set_cons_zero, List.set_cons_succ]
            refine wpAnyH_take (i := 3) (oi := ⟨some 31, _, _, _, _, _⟩) (v := undef) rfl (by kernel_rfl) (by kernel_rfl) (by kernel_rfl) (fun _ _ _ h => h) (Or.inr ⟨by kernel_rfl, rfl⟩) hHeld ?_
            simp only [Act.put, List.setIfInBounds_toArray, List.set_cons_zero, List.set_cons_succ]
            refine wpAnyH_take (i := 4) (oi := ⟨some 32, _, _, _, _, _⟩) (v := .bool false) rfl (by kernel_rfl) (by kernel_rfl) (by kernel_rfl) (fun _ _ _ h => h) (Or.inl ⟨by rfl, fun W hSW => by go_simp⟩) hHeld ?_
            simp only [Act.put, List.setIfInBounds_toArray, List.set_cons_zero, List.set_cons_succ]
            refine wpAnyH_take (i := 5) (oi := ⟨some 33, _, _, _, _, _⟩) (v := .bool false) rfl (by kernel_rfl) (by kernel_rfl) (by kernel_rfl) (fun _ _ _ h => h) (Or.inl ⟨by rfl, fun W hSW => by go_simp⟩) hHeld ?_
            simp only [Act.put, List.setIfInBounds_toArray, List.set_cons_zero, List.set_cons_succ]
            refine wpAnyH_take (i := 6) (oi := ⟨some 34, _, _, _, _, _⟩) (v := undef) rfl (by kernel_rfl) (by kernel_rfl) (by kernel_rfl) (fun _ _ _ h => h) (Or.inr ⟨by kernel_rfl, rfl⟩) hHeld ?_
            simp only [Act.put, List.setIfInBounds_toArray, List.set_cons_zero, List.set_cons_succ]
            refine wpAnyH_take (i := 7) (oi := ⟨some 35, _, _, _, _, _⟩) (v := undef) rfl (by kernel_rfl) (by kernel_rfl) (by kernel_rfl) (fun _ _ _ h => h) (Or.inr ⟨by kernel_rfl, rfl⟩) hHeld ?_
            simp only [Act.put, List.setIfInBounds_toArray, List.set_cons_zero, List.set_cons_succ]
            refine wpAnyH_take (i := 8) (oi := ⟨some 36, _, _, _, _, _⟩) (v := undef) rfl (by kernel_rfl) (by kernel_rfl) (by kernel_rfl) (fun _ _ _ h => h) (Or.inr ⟨by kernel_rfl, rfl⟩) hHeld ?_
            simp only [Act.put, List.setIfInBounds_toArray, List.set_cons_zero, List.set_cons_succ]
            refine wpAnyH_take (i := 9) (oi := ⟨some 37, _, _, _, _, _⟩) (v := undef) rfl (by kernel_rfl) (by kernel_rfl) (by kernel_rfl) (fun _ _ _ h => h) (Or.inr ⟨by kernel_rfl, rfl⟩) hHeld ?_
            simp only [Act.put, List.setIfInBounds_toArray, List.set_cons_zero, List.set_cons_succ]
            refine wpAnyH_take (i := 10) (oi := ⟨some 38, _, _, _, _, _⟩) (v := .bool false) rfl (by kernel_rfl) (by kernel_rfl) (by kernel_rfl) (fun _ _ _ h => h) (Or.inl ⟨by rfl, fun W hSW => by go_simp⟩) hHeld ?_
            simp only [Act.put, List.setIfInBounds_toArray, List.set_cons_zero, List.set_cons_succ]
            refine wpAnyH_done (by kernel_rfl) ?_ _
            refine NoPanic.normal ?_
            refine HeldP.then_named (S := fun W => Below Y0.heap.size Y0 W) hHeld ?_
            rintro Y1 hy1
            have HYY := Lib.hid (below_t HY0.out hy1)
            have HRY := Lib.hid (HR.out.below HYY.out)
            have HZY := Lib.hid (HZR.out.below HYY.out)
            have HGY := Lib.hid (HGR.out.below HYY.out)
            have HBY := Lib.hid (below_t HBR.out HYY.out)
            have HUY := Lib.hid (HU9.out.below hy1)
            have q0 := HUY.out.cell (i := 0) rfl
            have q1 := HUY.out.cell (i := 1) rfl
            have f0 := HGY.out.frozen (2 + j * 2)
            have f1 := HGY.out.frozen (2 + j * 2 + 1)
            have g0 := HGY.out.cell (g_sk (gv n j) (d := j) (by omega))
            have g1 := HGY.out.cell (g_sl (gv n j) (d := j) (by omega))
            clear hHeld hy1 lp
            go_wp2_with fail
            go_roundw
            case rel =>
              refine ⟨j + 1, by first | rfl | rw [HWR.out] | (congr 1; omega), by omega, HRY.out, HZY.out, ?_, HBY.out, ?_⟩
              · rw [← gv_no HH.out]
                exact HGY.out
              · have h1 := HSZ.out
                have h2 := HYY.out.size
                omega
            case measure =>
              simp only [intOf]
              omega
          | true =>
            have HW := Lib.hid hw
            clear hw
            have HH := Lib.hid (show gives n j = false from by simp [gives, holds, HC1.out, HC2.out, HW.out, HK.out])
            refine HeldP.wp_named (S := fun W => Below X1.heap.size X1 W) (by (repeat' (first | (with_reducible exact Below.refl _ _) | (with_reducible refine Below.setCell ?_ (by (first | omega | (simp; done) | (simp; omega))) _) | (with_reducible refine Below.alloc ?_ (by (first | omega | (simp; done) | (simp; omega))) _) | (with_reducible refine Below.drew ?_) | (with_reducible refine below_drewN ?_ _)))) ?_
            rintro Y0 hy0
            have HY0 := Lib.hid (below_t HX1.out hy0)
            have HU9 := Lib.hid (HU1.out.below hy0)
            have lp := HU9.out.lt
            have q0 := HU9.out.cell (i := 0) rfl
            have q1 := HU9.out.cell (i := 1) rfl
            clear hy0
            refine wp_region_noPanic ?_
            refine wp_region_held_drew (S := fun W => Below Y0.heap.size Y0 W) (by kernel_rfl) ((Below.refl _ Y0).drew) (fun hHeld => ?_)
            refine wpAnyH_take (i := 0) (oi := ⟨some 28, _, _, _, _, _⟩) (v := .agg #[.int .u8 (k : Int), .int .u8 (l : Int)]) rfl (by kernel_rfl) (by kernel_rfl) (by kernel_rfl) (fun _ _ _ h => h) (Or.inl ⟨by rfl, fun W hSW => by have a0 := (hSW.cell (p := ⟨b, 0, none⟩) lp).trans q0; have a1 := (hSW.cell (p := ⟨b, 1, none⟩) lp).trans q1; go_simp⟩) hHeld ?_
            simp only [Act.put, List.setIfInBounds_toArray, List.set_cons_zero, List.set_cons_succ]
            refine wpAnyH_ready (rs := [1]) (by kernel_rfl) (by simp) ?_
            refine AllReadyH.cons (o := ⟨some 29, _, _, _, _, _⟩) rfl (fun K hK => ?_) AllReadyH.nil
            go_simp
            refine (isWater_c HW.out).mono ?_
            rintro e w91 ⟨rfl, hb91⟩
            go_wp2_with fail
            refine hK.out _ _ (below_t hHeld hb91) (fun hHeld => ?_)
            clear hK K hb91
            refine wpAnyH_take (i := 2) (oi := ⟨some 30, _, _, _, _, _⟩) (v := .bool true) rfl (by kernel_rfl) (by kernel_rfl) (by kernel_rfl) (fun _ _ _ h => h) (Or.inl ⟨by rfl, fun W hSW => by go_simp⟩) hHeld ?_
            simp only [Act.put, List.setIfInBounds_toArray, List.set_cons_zero, List.set_cons_succ]
            refine wpAnyH_take (i := 3) (oi := ⟨some 31, _, _, _, _, _⟩) (v := .bool false) rfl (by kernel_rfl) (by kernel_rfl) (by kernel_rfl) (fun _ _ _ h => h) (Or.inl ⟨by rfl, fun W hSW => by go_simp⟩) hHeld ?_
            simp only [Act.put, List.setIfInBounds_toArray, List.set_cons_zero, List.set_cons_succ]
            refine wpAnyH_take (i := 4) (oi := ⟨some 32, _, _, _, _, _⟩) (v := .bool false) rfl (by kernel_rfl) (by kernel_rfl) (by kernel_rfl) (fun _ _ _ h => h) (Or.inl ⟨by rfl, fun W hSW => by go_simp⟩) hHeld ?_
            simp only [Act.put, List.setIfInBounds_toArray, List.set_cons_zero, List.set_cons_succ]
            refine wpAnyH_take (i := 5) (oi := ⟨some 33, _, _, _, _, _⟩) (v := .bool false) rfl (by kernel_rfl) (by kernel_rfl) (by kernel_rfl) (fun _ _ _ h => h) (Or.inl ⟨by rfl, fun W hSW => by go_simp⟩) hHeld ?_
            simp only [Act.put, List.setIfInBounds_toArray, List.set_cons_zero, List.set_cons_succ]
            refine wpAnyH_take (i := 6) (oi := ⟨some 34, _, _, _, _, _⟩) (v := undef) rfl (by kernel_rfl) (by kernel_rfl) (by kernel_rfl) (fun _ _ _ h => h) (Or.inr ⟨by kernel_rfl, rfl⟩) hHeld ?_
            simp only [Act.put, List.setIfInBounds_toArray, List.set_cons_zero, List.set_cons_succ]
            refine wpAnyH_take (i := 7) (oi := ⟨some 35, _, _, _, _, _⟩) (v := undef) rfl (by kernel_rfl) (by kernel_rfl) (by kernel_rfl) (fun _ _ _ h => h) (Or.inr ⟨by kernel_rfl, rfl⟩) hHeld ?_
            simp only [Act.put, List.setIfInBounds_toArray, List.set_cons_zero, List.set_cons_succ]
            refine wpAnyH_take (i := 8) (oi := ⟨some 36, _, _, _, _, _⟩) (v := undef) rfl (by kernel_rfl) (by kernel_rfl) (by kernel_rfl) (fun _ _ _ h => h) (Or.inr ⟨by kernel_rfl, rfl⟩) hHeld ?_
            simp only [Act.put, List.setIfInBounds_toArray, List.set_cons_zero, List.set_cons_succ]
            refine wpAnyH_take (i := 9) (oi := ⟨some 37, _, _, _, _, _⟩) (v := undef) rfl (by kernel_rfl) (by kernel_rfl) (by kernel_rfl) (fun _ _ _ h => h) (Or.inr ⟨by kernel_rfl, rfl⟩) hHeld ?_
            simp only [Act.put, List.setIfInBounds_toArray, List.set_cons_zero, List.set_cons_succ]
            refine wpAnyH_take (i := 10) (oi := ⟨some 38, _, _, _, _, _⟩) (v := .bool false) rfl (by kernel_rfl) (by kernel_rfl) (by kernel_rfl) (fun _ _ _ h => h) (Or.inl ⟨by rfl, fun W hSW => by go_simp⟩) hHeld ?_
            simp only [Act.put, List.setIfInBounds_toArray, List.set_cons_zero, List.set_cons_succ]
            refine wpAnyH_done (by kernel_rfl) ?_ _
            refine NoPanic.normal ?_
            refine HeldP.then_named (S := fun W => Below Y0.heap.size Y0 W) hHeld ?_
            rintro Y1 hy1
            have HYY := Lib.hid (below_t HY0.out hy1)
            have HRY := Lib.hid (HR.out.below HYY.out)
            have HZY := Lib.hid (HZR.out.below HYY.out)
            have HGY := Lib.hid (HGR.out.below HYY.out)
            have HBY := Lib.hid (below_t HBR.out HYY.out)
            have HUY := Lib.hid (HU9.out.below hy1)
            have q0 := HUY.out.cell (i := 0) rfl
            have q1 := HUY.out.cell (i := 1) rfl
            have f0 := HGY.out.frozen (2 + j * 2)
            have f1 := HGY.out.frozen (2 + j * 2 + 1)
            have g0 := HGY.out.cell (g_sk (gv n j) (d := j) (by omega))
            have g1 := HGY.out.cell (g_sl (gv n j) (d := j) (by omega))
            clear hHeld hy1 lp
            go_wp2_with fail
            go_roundw
            case rel =>
              refine ⟨j + 1, by first | rfl | rw [HWR.out] | (congr 1; omega), by omega, HRY.out, HZY.out, ?_, HBY.out, ?_⟩
              · rw [← gv_no HH.out]
                exact HGY.out
              · have h1 := HSZ.out
                have h2 := HYY.out.size
                omega
            case measure =>
              simp only [intOf]
              omega
        | false =>
          have HK := Lib.hid (show soak (k2, l2) = false from hk)
          cases hu : wet (k2, l2) with
          | true =>
            have HV := Lib.hid hu
            go_wp2_with fail
            refine (soaks_b hk _ (HT.out.below (below_t HBR.out HX0.out))).mono ?_
            rintro e X1 ⟨rfl, hb1⟩
            have HX1 := Lib.hid (below_t HX0.out hb1)
            have HU1 := Lib.hid (HU0.out.below hb1)
            have HV1 := Lib.hid (HV0.out.below hb1)
            have p0 := HV1.out.cell (i := 0) rfl
            have p1 := HV1.out.cell (i := 1) rfl
            clear hb1
            clear hk
            go_wp2_with fail
            refine (isWater_c hu).mono ?_
            rintro e X2 ⟨rfl, hb2⟩
            have HX2 := Lib.hid (below_t HX1.out hb2)
            have HU2 := Lib.hid (HU1.out.below hb2)
            have HV2 := Lib.hid (HV1.out.below hb2)
            clear hb2
            clear hu
            go_wp2_with fail
            cases hw : wet (k, l) with
            | false =>
              have HW := Lib.hid hw
              clear hw
              have HH := Lib.hid (show gives n j = false from by simp [gives, holds, HC1.out, HC2.out, HW.out, HK.out, HV.out])
              refine HeldP.wp_named (S := fun W => Below X2.heap.size X2 W) (by (repeat' (first | (with_reducible exact Below.refl _ _) | (with_reducible refine Below.setCell ?_ (by (first | omega | (simp; done) | (simp; omega))) _) | (with_reducible refine Below.alloc ?_ (by (first | omega | (simp; done) | (simp; omega))) _) | (with_reducible refine Below.drew ?_) | (with_reducible refine below_drewN ?_ _)))) ?_
              rintro Y0 hy0
              have HY0 := Lib.hid (below_t HX2.out hy0)
              have HU9 := Lib.hid (HU2.out.below hy0)
              have lp := HU9.out.lt
              have q0 := HU9.out.cell (i := 0) rfl
              have q1 := HU9.out.cell (i := 1) rfl
              clear hy0
              refine wp_region_noPanic ?_
              refine wp_region_held_drew (S := fun W => Below Y0.heap.size Y0 W) (by kernel_rfl) ((Below.refl _ Y0).drew) (fun hHeld => ?_)
              refine wpAnyH_take (i := 0) (oi := ⟨some 28, _, _, _, _, _⟩) (v := .agg #[.int .u8 (k : Int), .int .u8 (l : Int)]) rfl (by kernel_rfl) (by kernel_rfl) (by kernel_rfl) (fun _ _ _ h => h) (Or.inl ⟨by rfl, fun W hSW => by have a0 := (hSW.cell (p := ⟨b, 0, none⟩) lp).trans q0; have a1 := (hSW.cell (p := ⟨b, 1, none⟩) lp).trans q1; go_simp⟩) hHeld ?_
              simp only [Act.put, List.setIfInBounds_toArray, List.set_cons_zero, List.set_cons_succ]
              refine wpAnyH_ready (rs := [1]) (by kernel_rfl) (by simp) ?_
              refine AllReadyH.cons (o := ⟨some 29, _, _, _, _, _⟩) rfl (fun K hK => ?_) AllReadyH.nil
              go_simp
              refine (isWater_c HW.out).mono ?_
              rintro e w91 ⟨rfl, hb91⟩
              go_wp2_with fail
              refine hK.out _ _ (below_t hHeld hb91) (fun hHeld => ?_)
              clear hK K hb91
              refine wpAnyH_take (i := 2) (oi := ⟨some 30, _, _, _, _, _⟩) (v := .bool false) rfl (by kernel_rfl) (by kernel_rfl) (by kernel_rfl) (fun _ _ _ h => h) (Or.inl ⟨by rfl, fun W hSW => by go_simp⟩) hHeld ?_
              simp only [Act.put, List.setIfInBounds_toArray, List.set_cons_zero, List.set_cons_succ]
              refine wpAnyH_take (i := 3) (oi := ⟨some 31, _, _, _, _, _⟩) (v := undef) rfl (by kernel_rfl) (by kernel_rfl) (by kernel_rfl) (fun _ _ _ h => h) (Or.inr ⟨by kernel_rfl, rfl⟩) hHeld ?_
              simp only [Act.put, List.setIfInBounds_toArray, List.set_cons_zero, List.set_cons_succ]
              refine wpAnyH_take (i := 4) (oi := ⟨some 32, _, _, _, _, _⟩) (v := .bool false) rfl (by kernel_rfl) (by kernel_rfl) (by kernel_rfl) (fun _ _ _ h => h) (Or.inl ⟨by rfl, fun W hSW => by go_simp⟩) hHeld ?_
              simp only [Act.put, List.setIfInBounds_toArray, List.set_cons_zero, List.set_cons_succ]
              refine wpAnyH_take (i := 5) (oi := ⟨some 33, _, _, _, _, _⟩) (v := .bool false) rfl (by kernel_rfl) (by kernel_rfl) (by kernel_rfl) (fun _ _ _ h => h) (Or.inl ⟨by rfl, fun W hSW => by go_simp⟩) hHeld ?_
              simp only [Act.put, List.setIfInBounds_toArray, List.set_cons_zero, List.set_cons_succ]
              refine wpAnyH_take (i := 6) (oi := ⟨some 34, _, _, _, _, _⟩) (v := undef) rfl (by kernel_rfl) (by kernel_rfl) (by kernel_rfl) (fun _ _ _ h => h) (Or.inr ⟨by kernel_rfl, rfl⟩) hHeld ?_
              simp only [Act.put, List.setIfInBounds_toArray, List.set_cons_zero, List.set_cons_succ]
              refine wpAnyH_take (i := 7) (oi := ⟨some 35, _, _, _, _, _⟩) (v := undef) rfl (by kernel_rfl) (by kernel_rfl) (by kernel_rfl) (fun _ _ _ h => h) (Or.inr ⟨by kernel_rfl, rfl⟩) hHeld ?_
              simp only [Act.put, List.setIfInBounds_toArray, List.set_cons_zero, List.set_cons_succ]
              refine wpAnyH_take (i := 8) (oi := ⟨some 36, _, _, _, _, _⟩) (v := undef) rfl (by kernel_rfl) (by kernel_rfl) (by kernel_rfl) (fun _ _ _ h => h) (Or.inr ⟨by kernel_rfl, rfl⟩) hHeld ?_
              simp only [Act.put, List.setIfInBounds_toArray, List.set_cons_zero, List.set_cons_succ]
              refine wpAnyH_take (i := 9) (oi := ⟨some 37, _, _, _, _, _⟩) (v := undef) rfl (by kernel_rfl) (by kernel_rfl) (by kernel_rfl) (fun _ _ _ h => h) (Or.inr ⟨by kernel_rfl, rfl⟩) hHeld ?_
              simp only [Act.put, List.setIfInBounds_toArray, List.set_cons_zero, List.set_cons_succ]
              refine wpAnyH_take (i := 10) (oi := ⟨some 38, _, _, _, _, _⟩) (v := .bool false) rfl (by kernel_rfl) (by kernel_rfl) (by kernel_rfl) (fun _ _ _ h => h) (Or.inl ⟨by rfl, fun W hSW => by go_simp⟩) hHeld ?_
              simp only [Act.put, List.setIfInBounds_toArray, List.set_cons_zero, List.set_cons_succ]
              refine wpAnyH_done (by kernel_rfl) ?_ _
              refine NoPanic.normal ?_
              refine HeldP.then_named (S := fun W => Below Y0.heap.size Y0 W) hHeld ?_
              rintro Y1 hy1
              have HYY := Lib.hid (below_t HY0.out hy1)
              have HRY := Lib.hid (HR.out.below HYY.out)
              have HZY := Lib.hid (HZR.out.below HYY.out)
              have HGY := Lib.hid (HGR.out.below HYY.out)
              have HBY := Lib.hid (below_t HBR.out HYY.out)
              have HUY := Lib.hid (HU9.out.below hy1)
              have q0 := HUY.out.cell (i := 0) rfl
              have q1 := HUY.out.cell (i := 1) rfl
              have f0 := HGY.out.frozen (2 + j * 2)
              have f1 := HGY.out.frozen (2 + j * 2 + 1)
              have g0 := HGY.out.cell (g_sk (gv n j) (d := j) (by omega))
              have g1 := HGY.out.cell (g_sl (gv n j) (d := j) (by omega))
              clear hHeld hy1 lp
              go_wp2_with fail
              go_roundw
              case rel =>
                refine ⟨j + 1, by first | rfl | rw [HWR.out] | (congr 1; omega), by omega, HRY.out, HZY.out, ?_, HBY.out, ?_⟩
                · rw [← gv_no HH.out]
                  exact HGY.out
                · have h1 := HSZ.out
                  have h2 := HYY.out.size
                  omega
              case measure =>
                simp only [intOf]
                omega
            | true =>
              have HW := Lib.hid hw
              clear hw
              have HH := Lib.hid (show gives n j = false from by simp [gives, holds, HC1.out, HC2.out, HW.out, HK.out, HV.out])
              refine HeldP.wp_named (S := fun W => Below X2.heap.size X2 W) (by (repeat' (first | (with_reducible exact Below.refl _ _) | (with_reducible refine Below.setCell ?_ (by (first | omega | (simp; done) | (simp; omega))) _) | (with_reducible refine Below.alloc ?_ (by (first | omega | (simp; done) | (simp; omega))) _) | (with_reducible refine Below.drew ?_) | (with_reducible refine below_drewN ?_ _)))) ?_
              rintro Y0 hy0
              have HY0 := Lib.hid (below_t HX2.out hy0)
              have HU9 := Lib.hid (HU2.out.below hy0)
              have lp := HU9.out.lt
              have q0 := HU9.out.cell (i := 0) rfl
              have q1 := HU9.out.cell (i := 1) rfl
              clear hy0
              refine wp_region_noPanic ?_
              refine wp_region_held_drew (S := fun W => Below Y0.heap.size Y0 W) (by kernel_rfl) ((Below.refl _ Y0).drew) (fun hHeld => ?_)
              refine wpAnyH_take (i := 0) (oi := ⟨some 28, _, _, _, _, _⟩) (v := .agg #[.int .u8 (k : Int), .int .u8 (l : Int)]) rfl (by kernel_rfl) (by kernel_rfl) (by kernel_rfl) (fun _ _ _ h => h) (Or.inl ⟨by rfl, fun W hSW => by have a0 := (hSW.cell (p := ⟨b, 0, none⟩) lp).trans q0; have a1 := (hSW.cell (p := ⟨b, 1, none⟩) lp).trans q1; go_simp⟩) hHeld ?_
              simp only [Act.put, List.setIfInBounds_toArray, List.set_cons_zero, List.set_cons_succ]
              refine wpAnyH_ready (rs := [1]) (by kernel_rfl) (by simp) ?_
              refine AllReadyH.cons (o := ⟨some 29, _, _, _, _, _⟩) rfl (fun K hK => ?_) AllReadyH.nil
              go_simp
              refine (isWater_c HW.out).mono ?_
              rintro e w91 ⟨rfl, hb91⟩
              go_wp2_with fail
              refine hK.out _ _ (below_t hHeld hb91) (fun hHeld => ?_)
              clear hK K hb91
              refine wpAnyH_take (i := 2) (oi := ⟨some 30, _, _, _, _, _⟩) (v := .bool true) rfl (by kernel_rfl) (by kernel_rfl) (by kernel_rfl) (fun _ _ _ h => h) (Or.inl ⟨by rfl, fun W hSW => by go_simp⟩) hHeld ?_
              simp only [Act.put, List.setIfInBounds_toArray, List.set_cons_zero, List.set_cons_succ]
              refine wpAnyH_take (i := 3) (oi := ⟨some 31, _, _, _, _, _⟩) (v := .bool false) rfl (by kernel_rfl) (by kernel_rfl) (by kernel_rfl) (fun _ _ _ h => h) (Or.inl ⟨by rfl, fun W hSW => by go_simp⟩) hHeld ?_
              simp only [Act.put, List.setIfInBounds_toArray, List.set_cons_zero, List.set_cons_succ]
              refine wpAnyH_take (i := 4) (oi := ⟨some 32, _, _, _, _, _⟩) (v := .bool false) rfl (by kernel_rfl) (by kernel_rfl) (by kernel_rfl) (fun _ _ _ h => h) (Or.inl ⟨by rfl, fun W hSW => by go_simp⟩) hHeld ?_
              simp only [Act.put, List.setIfInBounds_toArray, List.set_cons_zero, List.set_cons_succ]
              refine wpAnyH_take (i := 5) (oi := ⟨some 33, _, _, _, _, _⟩) (v := .bool false) rfl (by kernel_rfl) (by kernel_rfl) (by kernel_rfl) (fun _ _ _ h => h) (Or.inl ⟨by rfl, fun W hSW => by go_simp⟩) hHeld ?_
              simp only [Act.put, List.setIfInBounds_toArray, List.set_cons_zero, List.set_cons_succ]
              refine wpAnyH_take (i := 6) (oi := ⟨some 34, _, _, _, _, _⟩) (v := undef) rfl (by kernel_rfl) (by kernel_rfl) (by kernel_rfl) (fun _ _ _ h => h) (Or.inr ⟨by kernel_rfl, rfl⟩) hHeld ?_
              simp only [Act.put, List.setIfInBounds_toArray, List.set_cons_zero, List.set_cons_succ]
              refine wpAnyH_take (i := 7) (oi := ⟨some 35, _, _, _, _, _⟩) (v := undef) rfl (by kernel_rfl) (by kernel_rfl) (by kernel_rfl) (fun _ _ _ h => h) (Or.inr ⟨by kernel_rfl, rfl⟩) hHeld ?_
              simp only [Act.put, List.setIfInBounds_toArray, List.set_cons_zero, List.set_cons_succ]
              refine wpAnyH_take (i := 8) (oi := ⟨some 36, _, _, _, _, _⟩) (v := undef) rfl (by kernel_rfl) (by kernel_rfl) (by kernel_rfl) (fun _ _ _ h => h) (Or.inr ⟨by kernel_rfl, rfl⟩) hHeld ?_
              simp only [Act.put, List.setIfInBounds_toArray, List.set_cons_zero, List.set_cons_succ]
              refine wpAnyH_take (i := 9) (oi := ⟨some 37, _, _, _, _, _⟩) (v := undef) rfl (by kernel_rfl) (by kernel_rfl) (by kernel_rfl) (fun _ _ _ h => h) (Or.inr ⟨by kernel_rfl, rfl⟩) hHeld ?_
              simp only [Act.put, List.setIfInBounds_toArray, List.set_cons_zero, List.set_cons_succ]
              refine wpAnyH_take (i := 10) (oi := ⟨some 38, _, _, _, _, _⟩) (v := .bool false) rfl (by kernel_rfl) (by kernel_rfl) (by kernel_rfl) (fun _ _ _ h => h) (Or.inl ⟨by rfl, fun W hSW => by go_simp⟩) hHeld ?_
              simp only [Act.put, List.setIfInBounds_toArray, List.set_cons_zero, List.set_cons_succ]
              refine wpAnyH_done (by kernel_rfl) ?_ _
              refine NoPanic.normal ?_
              refine HeldP.then_named (S := fun W => Below Y0.heap.size Y0 W) hHeld ?_
              rintro Y1 hy1
              have HYY := Lib.hid (below_t HY0.out hy1)
              have HRY := Lib.hid (HR.out.below HYY.out)
              have HZY := Lib.hid (HZR.out.below HYY.out)
              have HGY := Lib.hid (HGR.out.below HYY.out)
              have HBY := Lib.hid (below_t HBR.out HYY.out)
              have HUY := Lib.hid (HU9.out.below hy1)
              have q0 := HUY.out.cell (i := 0) rfl
              have q1 := HUY.out.cell (i := 1) rfl
              have f0 := HGY.out.frozen (2 + j * 2)
              have f1 := HGY.out.frozen (2 + j * 2 + 1)
              have g0 := HGY.out.cell (g_sk (gv n j) (d := j) (by omega))
              have g1 := HGY.out.cell (g_sl (gv n j) (d := j) (by omega))
              clear hHeld hy1 lp
              go_wp2_with fail
              go_roundw
              case rel =>
                refine ⟨j + 1, by first | rfl | rw [HWR.out] | (congr 1; omega), by omega, HRY.out, HZY.out, ?_, HBY.out, ?_⟩
                · rw [← gv_no HH.out]
                  exact HGY.out
                · have h1 := HSZ.out
                  have h2 := HYY.out.size
                  omega
              case measure =>
                simp only [intOf]
                omega
          | false =>
            have HV := Lib.hid hu
            go_wp2_with fail
            refine (soaks_b hk _ (HT.out.below (below_t HBR.out HX0.out))).mono ?_
            rintro e X1 ⟨rfl, hb1⟩
            have HX1 := Lib.hid (below_t HX0.out hb1)
            have HU1 := Lib.hid (HU0.out.below hb1)
            have HV1 := Lib.hid (HV0.out.below hb1)
            have p0 := HV1.out.cell (i := 0) rfl
            have p1 := HV1.out.cell (i := 1) rfl
            clear hb1
            clear hk
            go_wp2_with fail
            refine (isWater_c hu).mono ?_
            rintro e X2 ⟨rfl, hb2⟩
            have HX2 := Lib.hid (below_t HX1.out hb2)
            have HU2 := Lib.hid (HU1.out.below hb2)
            have HV2 := Lib.hid (HV1.out.below hb2)
            clear hb2
            clear hu
            go_wp2_with fail
            cases hw : wet (k, l) with
            | false =>
              have HW := Lib.hid hw
              clear hw
              have HH := Lib.hid (show gives n j = false from by simp [gives, holds, HC1.out, HC2.out, HW.out, HK.out, HV.out])
              refine HeldP.wp_named (S := fun W => Below X2.heap.size X2 W) (by (repeat' (first | (with_reducible exact Below.refl _ _) | (with_reducible refine Below.setCell ?_ (by (first | omega | (simp; done) | (simp; omega))) _) | (with_reducible refine Below.alloc ?_ (by (first | omega | (simp; done) | (simp; omega))) _) | (with_reducible refine Below.drew ?_) | (with_reducible refine below_drewN ?_ _)))) ?_
              rintro Y0 hy0
              have HY0 := Lib.hid (below_t HX2.out hy0)
              have HU9 := Lib.hid (HU2.out.below hy0)
              have lp := HU9.out.lt
              have q0 := HU9.out.cell (i := 0) rfl
              have q1 := HU9.out.cell (i := 1) rfl
              clear hy0
              refine wp_region_noPanic ?_
              refine wp_region_held_drew (S := fun W => Below Y0.heap.size Y0 W) (by kernel_rfl) ((Below.refl _ Y0).drew) (fun hHeld => ?_)
              refine wpAnyH_take (i := 0) (oi := ⟨some 28, _, _, _, _, _⟩) (v := .agg #[.int .u8 (k : Int), .int .u8 (l : Int)]) rfl (by kernel_rfl) (by kernel_rfl) (by kernel_rfl) (fun _ _ _ h => h) (Or.inl ⟨by rfl, fun W hSW => by have a0 := (hSW.cell (p := ⟨b, 0, none⟩) lp).trans q0; have a1 := (hSW.cell (p := ⟨b, 1, none⟩) lp).trans q1; go_simp⟩) hHeld ?_
              simp only [Act.put, List.setIfInBounds_toArray, List.set_cons_zero, List.set_cons_succ]
              refine wpAnyH_ready (rs := [1]) (by kernel_rfl) (by simp) ?_
              refine AllReadyH.cons (o := ⟨some 29, _, _, _, _, _⟩) rfl (fun K hK => ?_) AllReadyH.nil
              go_simp
              refine (isWater_c HW.out).mono ?_
              rintro e w91 ⟨rfl, hb91⟩
              go_wp2_with fail
              refine hK.out _ _ (below_t hHeld hb91) (fun hHeld => ?_)
              clear hK K hb91
              refine wpAnyH_take (i := 2) (oi := ⟨some 30, _, _, _, _, _⟩) (v := .bool false) rfl (by kernel_rfl) (by kernel_rfl) (by kernel_rfl) (fun _ _ _ h => h) (Or.inl ⟨by rfl, fun W hSW => by go_simp⟩) hHeld ?_
              simp only [Act.put, List.setIfInBounds_toArray, List.set_cons_zero, List.set_cons_succ]
              refine wpAnyH_take (i := 3) (oi := ⟨some 31, _, _, _, _, _⟩) (v := undef) rfl (by kernel_rfl) (by kernel_rfl) (by kernel_rfl) (fun _ _ _ h => h) (Or.inr ⟨by kernel_rfl, rfl⟩) hHeld ?_
              simp only [Act.put, List.setIfInBounds_toArray, List.set_cons_zero, List.set_cons_succ]
              refine wpAnyH_take (i := 4) (oi := ⟨some 32, _, _, _, _, _⟩) (v := .bool false) rfl (by kernel_rfl) (by kernel_rfl) (by kernel_rfl) (fun _ _ _ h => h) (Or.inl ⟨by rfl, fun W hSW => by go_simp⟩) hHeld ?_
              simp only [Act.put, List.setIfInBounds_toArray, List.set_cons_zero, List.set_cons_succ]
              refine wpAnyH_take (i := 5) (oi := ⟨some 33, _, _, _, _, _⟩) (v := .bool false) rfl (by kernel_rfl) (by kernel_rfl) (by kernel_rfl) (fun _ _ _ h => h) (Or.inl ⟨by rfl, fun W hSW => by go_simp⟩) hHeld ?_
              simp only [Act.put, List.setIfInBounds_toArray, List.set_cons_zero, List.set_cons_succ]
              refine wpAnyH_take (i := 6) (oi := ⟨some 34, _, _, _, _, _⟩) (v := undef) rfl (by kernel_rfl) (by kernel_rfl) (by kernel_rfl) (fun _ _ _ h => h) (Or.inr ⟨by kernel_rfl, rfl⟩) hHeld ?_
              simp only [Act.put, List.setIfInBounds_toArray, List.set_cons_zero, List.set_cons_succ]
              refine wpAnyH_take (i := 7) (oi := ⟨some 35, _, _, _, _, _⟩) (v := undef) rfl (by kernel_rfl) (by kernel_rfl) (by kernel_rfl) (fun _ _ _ h => h) (Or.inr ⟨by kernel_rfl, rfl⟩) hHeld ?_
              simp only [Act.put, List.setIfInBounds_toArray, List.set_cons_zero, List.set_cons_succ]
              refine wpAnyH_take (i := 8) (oi := ⟨some 36, _, _, _, _, _⟩) (v := undef) rfl (by kernel_rfl) (by kernel_rfl) (by kernel_rfl) (fun _ _ _ h => h) (Or.inr ⟨by kernel_rfl, rfl⟩) hHeld ?_
              simp only [Act.put, List.setIfInBounds_toArray, List.set_cons_zero, List.set_cons_succ]
              refine wpAnyH_take (i := 9) (oi := ⟨some 37, _, _, _, _, _⟩) (v := undef) rfl (by kernel_rfl) (by kernel_rfl) (by kernel_rfl) (fun _ _ _ h => h) (Or.inr ⟨by kernel_rfl, rfl⟩) hHeld ?_
              simp only [Act.put, List.setIfInBounds_toArray, List.set_cons_zero, List.set_cons_succ]
              refine wpAnyH_take (i := 10) (oi := ⟨some 38, _, _, _, _, _⟩) (v := .bool false) rfl (by kernel_rfl) (by kernel_rfl) (by kernel_rfl) (fun _ _ _ h => h) (Or.inl ⟨by rfl, fun W hSW => by go_simp⟩) hHeld ?_
              simp only [Act.put, List.setIfInBounds_toArray, List.set_cons_zero, List.set_cons_succ]
              refine wpAnyH_done (by kernel_rfl) ?_ _
              refine NoPanic.normal ?_
              refine HeldP.then_named (S := fun W => Below Y0.heap.size Y0 W) hHeld ?_
              rintro Y1 hy1
              have HYY := Lib.hid (below_t HY0.out hy1)
              have HRY := Lib.hid (HR.out.below HYY.out)
              have HZY := Lib.hid (HZR.out.below HYY.out)
              have HGY := Lib.hid (HGR.out.below HYY.out)
              have HBY := Lib.hid (below_t HBR.out HYY.out)
              have HUY := Lib.hid (HU9.out.below hy1)
              have q0 := HUY.out.cell (i := 0) rfl
              have q1 := HUY.out.cell (i := 1) rfl
              have f0 := HGY.out.frozen (2 + j * 2)
              have f1 := HGY.out.frozen (2 + j * 2 + 1)
              have g0 := HGY.out.cell (g_sk (gv n j) (d := j) (by omega))
              have g1 := HGY.out.cell (g_sl (gv n j) (d := j) (by omega))
              clear hHeld hy1 lp
              go_wp2_with fail
              go_roundw
              case rel =>
                refine ⟨j + 1, by first | rfl | rw [HWR.out] | (congr 1; omega), by omega, HRY.out, HZY.out, ?_, HBY.out, ?_⟩
                · rw [← gv_no HH.out]
                  exact HGY.out
                · have h1 := HSZ.out
                  have h2 := HYY.out.size
                  omega
              case measure =>
                simp only [intOf]
                omega
            | true =>
              have HW := Lib.hid hw
              clear hw
              by_cases hl7 : l < 7
              · have hl7I : (l : Int) < 7 := by omega
                have HL := Lib.hid hl7
                have HH := Lib.hid (show gives n j = true from by simp [gives, holds, HC1.out, HC2.out, HW.out, HK.out, HV.out, HL.out])
                refine HeldP.wp_named (S := fun W => Below X2.heap.size X2 W) (by (repeat' (first | (with_reducible exact Below.refl _ _) | (with_reducible refine Below.setCell ?_ (by (first | omega | (simp; done) | (simp; omega))) _) | (with_reducible refine Below.alloc ?_ (by (first | omega | (simp; done) | (simp; omega))) _) | (with_reducible refine Below.drew ?_) | (with_reducible refine below_drewN ?_ _)))) ?_
                rintro Y0 hy0
                have HY0 := Lib.hid (below_t HX2.out hy0)
                have HU9 := Lib.hid (HU2.out.below hy0)
                have lp := HU9.out.lt
                have q0 := HU9.out.cell (i := 0) rfl
                have q1 := HU9.out.cell (i := 1) rfl
                clear hy0
                refine wp_region_noPanic ?_
                refine wp_region_held_drew (S := fun W => Below Y0.heap.size Y0 W) (by kernel_rfl) ((Below.refl _ Y0).drew) (fun hHeld => ?_)
                refine wpAnyH_take (i := 0) (oi := ⟨some 28, _, _, _, _, _⟩) (v := .agg #[.int .u8 (k : Int), .int .u8 (l : Int)]) rfl (by kernel_rfl) (by kernel_rfl) (by kernel_rfl) (fun _ _ _ h => h) (Or.inl ⟨by rfl, fun W hSW => by have a0 := (hSW.cell (p := ⟨b, 0, none⟩) lp).trans q0; have a1 := (hSW.cell (p := ⟨b, 1, none⟩) lp).trans q1; go_simp⟩) hHeld ?_
                simp only [Act.put, List.setIfInBounds_toArray, List.set_cons_zero, List.set_cons_succ]
                refine wpAnyH_ready (rs := [1]) (by kernel_rfl) (by simp) ?_
                refine AllReadyH.cons (o := ⟨some 29, _, _, _, _, _⟩) rfl (fun K hK => ?_) AllReadyH.nil
                go_simp
                refine (isWater_c HW.out).mono ?_
                rintro e w91 ⟨rfl, hb91⟩
                go_wp2_with fail
                refine hK.out _ _ (below_t hHeld hb91) (fun hHeld => ?_)
                clear hK K hb91
                refine wpAnyH_take (i := 2) (oi := ⟨some 30, _, _, _, _, _⟩) (v := .bool true) rfl (by kernel_rfl) (by kernel_rfl) (by kernel_rfl) (fun _ _ _ h => h) (Or.inl ⟨by rfl, fun W hSW => by go_simp⟩) hHeld ?_
                simp only [Act.put, List.setIfInBounds_toArray, List.set_cons_zero, List.set_cons_succ]
                refine wpAnyH_take (i := 3) (oi := ⟨some 31, _, _, _, _, _⟩) (v := .bool true) rfl (by kernel_rfl) (by kernel_rfl) (by kernel_rfl) (fun _ _ _ h => h) (Or.inl ⟨by rfl, fun W hSW => by go_simp⟩) hHeld ?_
                simp only [Act.put, List.setIfInBounds_toArray, List.set_cons_zero, List.set_cons_succ]
                refine wpAnyH_take (i := 4) (oi := ⟨some 32, _, _, _, _, _⟩) (v := .bool true) rfl (by kernel_rfl) (by kernel_rfl) (by kernel_rfl) (fun _ _ _ h => h) (Or.inl ⟨by rfl, fun W hSW => by go_simp⟩) hHeld ?_
                simp only [Act.put, List.setIfInBounds_toArray, List.set_cons_zero, List.set_cons_succ]
                refine wpAnyH_take (i := 5) (oi := ⟨some 33, _, _, _, _, _⟩) (v := .bool true) rfl (by kernel_rfl) (by kernel_rfl) (by kernel_rfl) (fun _ _ _ h => h) (Or.inl ⟨by rfl, fun W hSW => by go_simp⟩) hHeld ?_
                simp only [Act.put, List.setIfInBounds_toArray, List.set_cons_zero, List.set_cons_succ]
                refine wpAnyH_take (i := 6) (oi := ⟨some 34, _, _, _, _, _⟩) (v := .pointer (some ⟨b, 1, none⟩)) rfl (by kernel_rfl) (by kernel_rfl) (by kernel_rfl) (fun _ _ _ h => h) (Or.inl ⟨by rfl, fun W hSW => by go_simp⟩) hHeld ?_
                simp only [Act.put, List.setIfInBounds_toArray, List.set_cons_zero, List.set_cons_succ]
                refine wpAnyH_take (i := 7) (oi := ⟨some 35, _, _, _, _, _⟩) (v := .int .u8 (l : Int)) rfl (by kernel_rfl) (by kernel_rfl) (by kernel_rfl) (fun _ _ _ h => h) (Or.inl ⟨by rfl, fun W hSW => by have a0 := (hSW.cell (p := ⟨b, 1, none⟩) lp).trans q1; go_simp⟩) hHeld ?_
                simp only [Act.put, List.setIfInBounds_toArray, List.set_cons_zero, List.set_cons_succ]
                refine wpAnyH_ready (rs := [8]) (by kernel_rfl) (by simp) ?_
                refine AllReadyH.cons (o := ⟨some 36, _, _, _, _, _⟩) rfl (fun K hK => ?_) AllReadyH.nil
                go_simp
                refine (lev_b _ (HT.out.below (below_t HBR.out (below_t HY0.out hHeld)))).mono ?_
                rintro e w92 ⟨rfl, hb92⟩
                go_wp2_with fail
                refine hK.out _ _ (below_t hHeld hb92) (fun hHeld => ?_)
                clear hK K hb92
                refine wpAnyH_take (i := 9) (oi := ⟨some 37, _, _, _, _, _⟩) (v := .bool true) rfl (by kernel_rfl) (by kernel_rfl) (by kernel_rfl) (fun _ _ _ h => h) (Or.inl ⟨by rfl, fun W hSW => by go_simp⟩) hHeld ?_
                simp only [Act.put, List.setIfInBounds_toArray, List.set_cons_zero, List.set_cons_succ]
                refine wpAnyH_take (i := 10) (oi := ⟨some 38, _, _, _, _, _⟩) (v := .bool true) rfl (by kernel_rfl) (by kernel_rfl) (by kernel_rfl) (fun _ _ _ h => h) (Or.inl ⟨by rfl, fun W hSW => by go_simp⟩) hHeld ?_
                simp only [Act.put, List.setIfInBounds_toArray, List.set_cons_zero, List.set_cons_succ]
                refine wpAnyH_done (by kernel_rfl) ?_ _
                refine NoPanic.normal ?_
                refine HeldP.then_named (S := fun W => Below Y0.heap.size Y0 W) hHeld ?_
                rintro Y1 hy1
                have HYY := Lib.hid (below_t HY0.out hy1)
                have HRY := Lib.hid (HR.out.below HYY.out)
                have HZY := Lib.hid (HZR.out.below HYY.out)
                have HGY := Lib.hid (HGR.out.below HYY.out)
                have HBY := Lib.hid (below_t HBR.out HYY.out)
                have HUY := Lib.hid (HU9.out.below hy1)
                have q0 := HUY.out.cell (i := 0) rfl
                have q1 := HUY.out.cell (i := 1) rfl
                have f0 := HGY.out.frozen (2 + j * 2)
                have f1 := HGY.out.frozen (2 + j * 2 + 1)
                have g0 := HGY.out.cell (g_sk (gv n j) (d := j) (by omega))
                have g1 := HGY.out.cell (g_sl (gv n j) (d := j) (by omega))
                clear hHeld hy1 lp
                go_wp2_with fail
                go_roundw
                case rel =>
                  refine ⟨j + 1, by first | rfl | rw [HWR.out] | (congr 1; omega), by omega, ?_, ?_, ?_, ?_, ?_⟩
                  · exact (HRY.out.other (by simp; omega) _).other (by simp; omega) _
                  · exact (HZY.out.other (by simp) _).other (by simp) _
                  · have e := set_side (gv n j) (d := j) (by omega) (k, l)
                    rw [← HC1.out, gv_yes HH.out, HC1.out] at e
                    rw [← e]
                    exact (HGY.out.set _ _).set _ _
                  · exact (HBY.out.setCell (by have := HS.out; simp; omega) _).setCell (by have := HS.out; simp; omega) _
                  · have h1 := HSZ.out
                    have h2 := HYY.out.size
                    simp
                    omega
                case measure =>
                  simp only [intOf]
                  omega
              · have hl7I : ¬ (l : Int) < 7 := by omega
                have HL := Lib.hid hl7
                have HH := Lib.hid (show gives n j = false from by simp [gives, holds, HC1.out, HC2.out, HW.out, HK.out, HV.out, HL.out])
                refine HeldP.wp_named (S := fun W => Below X2.heap.size X2 W) (by (repeat' (first | (with_reducible exact Below.refl _ _) | (with_reducible refine Below.setCell ?_ (by (first | omega | (simp; done) | (simp; omega))) _) | (with_reducible refine Below.alloc ?_ (by (first | omega | (simp; done) | (simp; omega))) _) | (with_reducible refine Below.drew ?_) | (with_reducible refine below_drewN ?_ _)))) ?_
                rintro Y0 hy0
                have HY0 := Lib.hid (below_t HX2.out hy0)
                have HU9 := Lib.hid (HU2.out.below hy0)
                have lp := HU9.out.lt
                have q0 := HU9.out.cell (i := 0) rfl
                have q1 := HU9.out.cell (i := 1) rfl
                clear hy0
                refine wp_region_noPanic ?_
                refine wp_region_held_drew (S := fun W => Below Y0.heap.size Y0 W) (by kernel_rfl) ((Below.refl _ Y0).drew) (fun hHeld => ?_)
                refine wpAnyH_take (i := 0) (oi := ⟨some 28, _, _, _, _, _⟩) (v := .agg #[.int .u8 (k : Int), .int .u8 (l : Int)]) rfl (by kernel_rfl) (by kernel_rfl) (by kernel_rfl) (fun _ _ _ h => h) (Or.inl ⟨by rfl, fun W hSW => by have a0 := (hSW.cell (p := ⟨b, 0, none⟩) lp).trans q0; have a1 := (hSW.cell (p := ⟨b, 1, none⟩) lp).trans q1; go_simp⟩) hHeld ?_
                simp only [Act.put, List.setIfInBounds_toArray, List.set_cons_zero, List.set_cons_succ]
                refine wpAnyH_ready (rs := [1]) (by kernel_rfl) (by simp) ?_
                refine AllReadyH.cons (o := ⟨some 29, _, _, _, _, _⟩) rfl (fun K hK => ?_) AllReadyH.nil
                go_simp
                refine (isWater_c HW.out).mono ?_
                rintro e w91 ⟨rfl, hb91⟩
                go_wp2_with fail
                refine hK.out _ _ (below_t hHeld hb91) (fun hHeld => ?_)
                clear hK K hb91
                refine wpAnyH_take (i := 2) (oi := ⟨some 30, _, _, _, _, _⟩) (v := .bool true) rfl (by kernel_rfl) (by kernel_rfl) (by kernel_rfl) (fun _ _ _ h => h) (Or.inl ⟨by rfl, fun W hSW => by go_simp⟩) hHeld ?_
                simp only [Act.put, List.setIfInBounds_toArray, List.set_cons_zero, List.set_cons_succ]
                refine wpAnyH_take (i := 3) (oi := ⟨some 31, _, _, _, _, _⟩) (v := .bool true) rfl (by kernel_rfl) (by kernel_rfl) (by kernel_rfl) (fun _ _ _ h => h) (Or.inl ⟨by rfl, fun W hSW => by go_simp⟩) hHeld ?_
                simp only [Act.put, List.setIfInBounds_toArray, List.set_cons_zero, List.set_cons_succ]
                refine wpAnyH_take (i := 4) (oi := ⟨some 32, _, _, _, _, _⟩) (v := .bool true) rfl (by kernel_rfl) (by kernel_rfl) (by kernel_rfl) (fun _ _ _ h => h) (Or.inl ⟨by rfl, fun W hSW => by go_simp⟩) hHeld ?_
                simp only [Act.put, List.setIfInBounds_toArray, List.set_cons_zero, List.set_cons_succ]
                refine wpAnyH_take (i := 5) (oi := ⟨some 33, _, _, _, _, _⟩) (v := .bool true) rfl (by kernel_rfl) (by kernel_rfl) (by kernel_rfl) (fun _ _ _ h => h) (Or.inl ⟨by rfl, fun W hSW => by go_simp⟩) hHeld ?_
                simp only [Act.put, List.setIfInBounds_toArray, List.set_cons_zero, List.set_cons_succ]
                refine wpAnyH_take (i := 6) (oi := ⟨some 34, _, _, _, _, _⟩) (v := .pointer (some ⟨b, 1, none⟩)) rfl (by kernel_rfl) (by kernel_rfl) (by kernel_rfl) (fun _ _ _ h => h) (Or.inl ⟨by rfl, fun W hSW => by go_simp⟩) hHeld ?_
                simp only [Act.put, List.setIfInBounds_toArray, List.set_cons_zero, List.set_cons_succ]
                refine wpAnyH_take (i := 7) (oi := ⟨some 35, _, _, _, _, _⟩) (v := .int .u8 (l : Int)) rfl (by kernel_rfl) (by kernel_rfl) (by kernel_rfl) (fun _ _ _ h => h) (Or.inl ⟨by rfl, fun W hSW => by have a0 := (hSW.cell (p := ⟨b, 1, none⟩) lp).trans q1; go_simp⟩) hHeld ?_
                simp only [Act.put, List.setIfInBounds_toArray, List.set_cons_zero, List.set_cons_succ]
                refine wpAnyH_ready (rs := [8]) (by kernel_rfl) (by simp) ?_
                refine AllReadyH.cons (o := ⟨some 36, _, _, _, _, _⟩) rfl (fun K hK => ?_) AllReadyH.nil
                go_simp
                refine (lev_b _ (HT.out.below (below_t HBR.out (below_t HY0.out hHeld)))).mono ?_
                rintro e w92 ⟨rfl, hb92⟩
                go_wp2_with fail
                refine hK.out _ _ (below_t hHeld hb92) (fun hHeld => ?_)
                clear hK K hb92
                refine wpAnyH_take (i := 9) (oi := ⟨some 37, _, _, _, _, _⟩) (v := .bool false) rfl (by kernel_rfl) (by kernel_rfl) (by kernel_rfl) (fun _ _ _ h => h) (Or.inl ⟨by rfl, fun W hSW => by go_simp⟩) hHeld ?_
                simp only [Act.put, List.setIfInBounds_toArray, List.set_cons_zero, List.set_cons_succ]
                refine wpAnyH_take (i := 10) (oi := ⟨some 38, _, _, _, _, _⟩) (v := .bool false) rfl (by kernel_rfl) (by kernel_rfl) (by kernel_rfl) (fun _ _ _ h => h) (Or.inl ⟨by rfl, fun W hSW => by go_simp⟩) hHeld ?_
                simp only [Act.put, List.setIfInBounds_toArray, List.set_cons_zero, List.set_cons_succ]
                refine wpAnyH_done (by kernel_rfl) ?_ _
                refine NoPanic.normal ?_
                refine HeldP.then_named (S := fun W => Below Y0.heap.size Y0 W) hHeld ?_
                rintro Y1 hy1
                have HYY := Lib.hid (below_t HY0.out hy1)
                have HRY := Lib.hid (HR.out.below HYY.out)
                have HZY := Lib.hid (HZR.out.below HYY.out)
                have HGY := Lib.hid (HGR.out.below HYY.out)
                have HBY := Lib.hid (below_t HBR.out HYY.out)
                have HUY := Lib.hid (HU9.out.below hy1)
                have q0 := HUY.out.cell (i := 0) rfl
                have q1 := HUY.out.cell (i := 1) rfl
                have f0 := HGY.out.frozen (2 + j * 2)
                have f1 := HGY.out.frozen (2 + j * 2 + 1)
                have g0 := HGY.out.cell (g_sk (gv n j) (d := j) (by omega))
                have g1 := HGY.out.cell (g_sl (gv n j) (d := j) (by omega))
                clear hHeld hy1 lp
                go_wp2_with fail
                go_roundw
                case rel =>
                  refine ⟨j + 1, by first | rfl | rw [HWR.out] | (congr 1; omega), by omega, HRY.out, HZY.out, ?_, HBY.out, ?_⟩
                  · rw [← gv_no HH.out]
                    exact HGY.out
                  · have h1 := HSZ.out
                    have h2 := HYY.out.size
                    omega
                case measure =>
                  simp only [intOf]
                  omega
      · go_simp
        refine hK.out _ _ (HR.out.below (by (repeat' (first | (with_reducible exact Below.refl _ _) | (with_reducible refine Below.setCell ?_ (by (first | omega | (simp; done) | (simp; omega))) _) | (with_reducible refine Below.alloc ?_ (by (first | omega | (simp; done) | (simp; omega))) _) | (with_reducible refine Below.drew ?_) | (with_reducible refine below_drewN ?_ _))))) (fun hHeld => ?_)
        clear hK K
        refine wpAnyH_ready (rs := [8]) (by kernel_rfl) (by simp) ?_
        refine AllReadyH.cons (o := ⟨some 5, _, _, _, _, _⟩) rfl (fun K hK => ?_) AllReadyH.nil
        go_simp
        refine hK.out _ _ (HR.out.below (by (repeat' (first | (with_reducible exact Below.refl _ _) | (with_reducible refine Below.setCell ?_ (by (first | omega | (simp; done) | (simp; omega))) _) | (with_reducible refine Below.alloc ?_ (by (first | omega | (simp; done) | (simp; omega))) _) | (with_reducible refine Below.drew ?_) | (with_reducible refine below_drewN ?_ _))))) (fun hHeld => ?_)
        clear hK K
        refine wpAnyH_ready (rs := [10]) (by kernel_rfl) (by simp) ?_
        refine AllReadyH.cons (o := ⟨none, _, _, _, _, _⟩) rfl (fun K hK => ?_) AllReadyH.nil
        go_simp
        refine hK.out _ _ (HR.out.below (by (repeat' (first | (with_reducible exact Below.refl _ _) | (with_reducible refine Below.setCell ?_ (by (first | omega | (simp; done) | (simp; omega))) _) | (with_reducible refine Below.alloc ?_ (by (first | omega | (simp; done) | (simp; omega))) _) | (with_reducible refine Below.drew ?_) | (with_reducible refine below_drewN ?_ _))))) (fun hHeld => ?_)
        clear hK K
        refine wpAnyH_ready (rs := [11]) (by kernel_rfl) (by simp) ?_
        refine AllReadyH.cons (o := ⟨none, _, _, _, _, _⟩) rfl (fun K hK => ?_) AllReadyH.nil
        go_simp
        refine hK.out _ _ (HR.out.below (by (repeat' (first | (with_reducible exact Below.refl _ _) | (with_reducible refine Below.setCell ?_ (by (first | omega | (simp; done) | (simp; omega))) _) | (with_reducible refine Below.alloc ?_ (by (first | omega | (simp; done) | (simp; omega))) _) | (with_reducible refine Below.drew ?_) | (with_reducible refine below_drewN ?_ _))))) (fun hHeld => ?_)
        clear hK K
        refine wpAnyH_done (by kernel_rfl) ?_ _
        refine NoPanic.normal ?_
        clear hHeld
        obtain ⟨b, hb⟩ : ∃ b, wr.heap.size = b := ⟨_, rfl⟩
        refine HeldP.then_named (S := fun W => Below wr.heap.size wr W ∧ Blk W (b + 1) TC [.int .u8 (k : Int), .int .u8 (l : Int)] ∧ Blk W (b) TC [.int .u8 (k2 : Int), .int .u8 (l2 : Int)] ∧ W.heap.size = b + 2) ⟨by (repeat' (first | (with_reducible exact Below.refl _ _) | (with_reducible refine Below.setCell ?_ (by (first | omega | (simp; done) | (simp; omega))) _) | (with_reducible refine Below.alloc ?_ (by (first | omega | (simp; done) | (simp; omega))) _) | (with_reducible refine Below.drew ?_) | (with_reducible refine below_drewN ?_ _))), by subst hb; (repeat' (first | (with_reducible refine BlkP.Blk.drew ?_) | (with_reducible refine BlkP.Blk.drewN ?_ _) | (with_reducible refine BlkP.Blk.setAt (us := ?_) (by first | omega | (simp; done) | (simp; omega)) rfl ?_ ?_) | (with_reducible refine BlkP.Blk.otherAt ?_ (by first | omega | (simp; done) | (simp; omega))) | (with_reducible refine BlkP.Blk.newA' (by first | omega | (simp; done) | (simp; omega)) rfl) | (with_reducible refine BlkP.Blk.alloc ?_ _) | (exact rfl))), by subst hb; (repeat' (first | (with_reducible refine BlkP.Blk.drew ?_) | (with_reducible refine BlkP.Blk.drewN ?_ _) | (with_reducible refine BlkP.Blk.setAt (us := ?_) (by first | omega | (simp; done) | (simp; omega)) rfl ?_ ?_) | (with_reducible refine BlkP.Blk.otherAt ?_ (by first | omega | (simp; done) | (simp; omega))) | (with_reducible refine BlkP.Blk.newA' (by first | omega | (simp; done) | (simp; omega)) rfl) | (with_reducible refine BlkP.Blk.alloc ?_ _) | (exact rfl))), by simp; omega⟩ ?_
        rintro X0 ⟨hx, hu, hv, hzx⟩
        rw [hb]
        have HBB := Lib.hid (show s + 3 ≤ b by rw [← hb]; exact HSZ.out)
        have HX0 := Lib.hid hx
        have HU0 := Lib.hid hu
        have HV0 := Lib.hid hv
        have p0 := hv.cell (i := 0) rfl
        have p1 := hv.cell (i := 1) rfl
        clear hx hu hv hb hzx
        cases hk : KindP.soaks k2 with
        | true =>
          have HK := Lib.hid (show soak (k2, l2) = true from hk)
          go_wp2_with fail
          refine (soaks_b hk _ (HT.out.below (below_t HBR.out HX0.out))).mono ?_
          rintro e X1 ⟨rfl, hb1⟩
          have HX1 := Lib.hid (below_t HX0.out hb1)
          have HU1 := Lib.hid (HU0.out.below hb1)
          have HV1 := Lib.hid (HV0.out.below hb1)
          have p0 := HV1.out.cell (i := 0) rfl
          have p1 := HV1.out.cell (i := 1) rfl
          clear hb1
          clear hk
          go_wp2_with fail
          cases hw : wet (k, l) with
          | false =>
            have HW := Lib.hid hw
            clear hw
            have HH := Lib.hid (show gives n j = false from by simp [gives, holds, HC1.out, HC2.out, HW.out, HK.out])
            refine HeldP.wp_named (S := fun W => Below X1.heap.size X1 W) (by (repeat' (first | (with_reducible exact Below.refl _ _) | (with_reducible refine Below.setCell ?_ (by (first | omega | (simp; done) | (simp; omega))) _) | (with_reducible refine Below.alloc ?_ (by (first | omega | (simp; done) | (simp; omega))) _) | (with_reducible refine Below.drew ?_) | (with_reducible refine below_drewN ?_ _)))) ?_
            rintro Y0 hy0
            have HY0 := Lib.hid (below_t HX1.out hy0)
            have HU9 := Lib.hid (HU1.out.below hy0)
            have lp := HU9.out.lt
            have q0 := HU9.out.cell (i := 0) rfl
            have q1 := HU9.out.cell (i := 1) rfl
            clear hy0
            refine wp_region_noPanic ?_
            refine wp_region_held_drew (S := fun W => Below Y0.heap.size Y0 W) (by kernel_rfl) ((Below.refl _ Y0).drew) (fun hHeld => ?_)
            refine wpAnyH_take (i := 0) (oi := ⟨some 28, _, _, _, _, _⟩) (v := .agg #[.int .u8 (k : Int), .int .u8 (l : Int)]) rfl (by kernel_rfl) (by kernel_rfl) (by kernel_rfl) (fun _ _ _ h => h) (Or.inl ⟨by rfl, fun W hSW => by have a0 := (hSW.cell (p := ⟨b + 1, 0, none⟩) lp).trans q0; have a1 := (hSW.cell (p := ⟨b + 1, 1, none⟩) lp).trans q1; go_simp⟩) hHeld ?_
            simp only [Act.put, List.setIfInBounds_toArray, List.set_cons_zero, List.set_cons_succ]
            refine wpAnyH_ready (rs := [1]) (by kernel_rfl) (by simp) ?_
            refine AllReadyH.cons (o := ⟨some 29, _, _, _, _, _⟩) rfl (fun K hK => ?_) AllReadyH.nil
            go_simp
            refine (isWater_c HW.out).mono ?_
            rintro e w91 ⟨rfl, hb91⟩
            go_wp2_with fail
            refine hK.out _ _ (below_t hHeld hb91) (fun hHeld => ?_)
            clear hK K hb91
            refine wpAnyH_take (i := 2) (oi := ⟨some 30, _, _, _, _, _⟩) (v := .bool false) rfl (by kernel_rfl) (by kernel_rfl) (by kernel_rfl) (fun _ _ _ h => h) (Or.inl ⟨by rfl, fun W hSW => by go_simp⟩) hHeld ?_
            simp only [Act.put, List.setIfInBounds_toArray, List.set_cons_zero, List.set_cons_succ]
            refine wpAnyH_take (i := 3) (oi := ⟨some 31, _, _, _, _, _⟩) (v := undef) rfl (by kernel_rfl) (by kernel_rfl) (by kernel_rfl) (fun _ _ _ h => h) (Or.inr ⟨by kernel_rfl, rfl⟩) hHeld ?_
            simp only [Act.put, List.setIfInBounds_toArray, List.set_cons_zero, List.set_cons_succ]
            refine wpAnyH_take (i := 4) (oi := ⟨some 32, _, _, _, _, _⟩) (v := .bool false) rfl (by kernel_rfl) (by kernel_rfl) (by kernel_rfl) (fun _ _ _ h => h) (Or.inl ⟨by rfl, fun W hSW => by go_simp⟩) hHeld ?_
            simp only [Act.put, List.setIfInBounds_toArray, List.set_cons_zero, List.set_cons_succ]
            refine wpAnyH_take (i := 5) (oi := ⟨some 33, _, _, _, _, _⟩) (v := .bool false) rfl (by kernel_rfl) (by kernel_rfl) (by kernel_rfl) (fun _ _ _ h => h) (Or.inl ⟨by rfl, fun W hSW => by go_simp⟩) hHeld ?_
            simp only [Act.put, List.setIfInBounds_toArray, List.set_cons_zero, List.set_cons_succ]
            refine wpAnyH_take (i := 6) (oi := ⟨some 34, _, _, _, _, _⟩) (v := undef) rfl (by kernel_rfl) (by kernel_rfl) (by kernel_rfl) (fun _ _ _ h => h) (Or.inr ⟨by kernel_rfl, rfl⟩) hHeld ?_
            simp only [Act.put, List.setIfInBounds_toArray, List.set_cons_zero, List.set_cons_succ]
            refine wpAnyH_take (i := 7) (oi := ⟨some 35, _, _, _, _, _⟩) (v := undef) rfl (by kernel_rfl) (by kernel_rfl) (by kernel_rfl) (fun _ _ _ h => h) (Or.inr ⟨by kernel_rfl, rfl⟩) hHeld ?_
            simp only [Act.put, List.setIfInBounds_toArray, List.set_cons_zero, List.set_cons_succ]
            refine wpAnyH_take (i := 8) (oi := ⟨some 36, _, _, _, _, _⟩) (v := undef) rfl (by kernel_rfl) (by kernel_rfl) (by kernel_rfl) (fun _ _ _ h => h) (Or.inr ⟨by kernel_rfl, rfl⟩) hHeld ?_
            simp only [Act.put, List.setIfInBounds_toArray, List.set_cons_zero, List.set_cons_succ]
            refine wpAnyH_take (i := 9) (oi := ⟨some 37, _, _, _, _, _⟩) (v := undef) rfl (by kernel_rfl) (by kernel_rfl) (by kernel_rfl) (fun _ _ _ h => h) (Or.inr ⟨by kernel_rfl, rfl⟩) hHeld ?_
            simp only [Act.put, List.setIfInBounds_toArray, List.set_cons_zero, List.set_cons_succ]
            refine wpAnyH_take (i := 10) (oi := ⟨some 38, _, _, _, _, _⟩) (v := .bool false) rfl (by kernel_rfl) (by kernel_rfl) (by kernel_rfl) (fun _ _ _ h => h) (Or.inl ⟨by rfl, fun W hSW => by go_simp⟩) hHeld ?_
            simp only [Act.put, List.setIfInBounds_toArray, List.set_cons_zero, List.set_cons_succ]
            refine wpAnyH_done (by kernel_rfl) ?_ _
            refine NoPanic.normal ?_
            refine HeldP.then_named (S := fun W => Below Y0.heap.size Y0 W) hHeld ?_
            rintro Y1 hy1
            have HYY := Lib.hid (below_t HY0.out hy1)
            have HRY := Lib.hid (HR.out.below HYY.out)
            have HZY := Lib.hid (HZR.out.below HYY.out)
            have HGY := Lib.hid (HGR.out.below HYY.out)
            have HBY := Lib.hid (below_t HBR.out HYY.out)
            have HUY := Lib.hid (HU9.out.below hy1)
            have q0 := HUY.out.cell (i := 0) rfl
            have q1 := HUY.out.cell (i := 1) rfl
            have f0 := HGY.out.frozen (2 + j * 2)
            have f1 := HGY.out.frozen (2 + j * 2 + 1)
            have g0 := HGY.out.cell (g_sk (gv n j) (d := j) (by omega))
            have g1 := HGY.out.cell (g_sl (gv n j) (d := j) (by omega))
            clear hHeld hy1 lp
            go_wp2_with fail
            go_roundw
            case rel =>
              refine ⟨j + 1, by first | rfl | rw [HWR.out] | (congr 1; omega), by omega, HRY.out, HZY.out, ?_, HBY.out, ?_⟩
              · rw [← gv_no HH.out]
                exact HGY.out
              · have h1 := HSZ.out
                have h2 := HYY.out.size
                omega
            case measure =>
              simp only [intOf]
              omega
          | true =>
            have HW := Lib.hid hw
            clear hw
            have HH := Lib.hid (show gives n j = false from by simp [gives, holds, HC1.out, HC2.out, HW.out, HK.out])
            refine HeldP.wp_named (S := fun W => Below X1.heap.size X1 W) (by (repeat' (first | (with_reducible exact Below.refl _ _) | (with_reducible refine Below.setCell ?_ (by (first | omega | (simp; done) | (simp; omega))) _) | (with_reducible refine Below.alloc ?_ (by (first | omega | (simp; done) | (simp; omega))) _) | (with_reducible refine Below.drew ?_) | (with_reducible refine below_drewN ?_ _)))) ?_
            rintro Y0 hy0
            have HY0 := Lib.hid (below_t HX1.out hy0)
            have HU9 := Lib.hid (HU1.out.below hy0)
            have lp := HU9.out.lt
            have q0 := HU9.out.cell (i := 0) rfl
            have q1 := HU9.out.cell (i := 1) rfl
            clear hy0
            refine wp_region_noPanic ?_
            refine wp_region_held_drew (S := fun W => Below Y0.heap.size Y0 W) (by kernel_rfl) ((Below.refl _ Y0).drew) (fun hHeld => ?_)
            refine wpAnyH_take (i := 0) (oi := ⟨some 28, _, _, _, _, _⟩) (v := .agg #[.int .u8 (k : Int), .int .u8 (l : Int)]) rfl (by kernel_rfl) (by kernel_rfl) (by kernel_rfl) (fun _ _ _ h => h) (Or.inl ⟨by rfl, fun W hSW => by have a0 := (hSW.cell (p := ⟨b + 1, 0, none⟩) lp).trans q0; have a1 := (hSW.cell (p := ⟨b + 1, 1, none⟩) lp).trans q1; go_simp⟩) hHeld ?_
            simp only [Act.put, List.setIfInBounds_toArray, List.set_cons_zero, List.set_cons_succ]
            refine wpAnyH_ready (rs := [1]) (by kernel_rfl) (by simp) ?_
            refine AllReadyH.cons (o := ⟨some 29, _, _, _, _, _⟩) rfl (fun K hK => ?_) AllReadyH.nil
            go_simp
            refine (isWater_c HW.out).mono ?_
            rintro e w91 ⟨rfl, hb91⟩
            go_wp2_with fail
            refine hK.out _ _ (below_t hHeld hb91) (fun hHeld => ?_)
            clear hK K hb91
            refine wpAnyH_take (i := 2) (oi := ⟨some 30, _, _, _, _, _⟩) (v := .bool true) rfl (by kernel_rfl) (by kernel_rfl) (by kernel_rfl) (fun _ _ _ h => h) (Or.inl ⟨by rfl, fun W hSW => by go_simp⟩) hHeld ?_
            simp only [Act.put, List.setIfInBounds_toArray, List.set_cons_zero, List.set_cons_succ]
            refine wpAnyH_take (i := 3) (oi := ⟨some 31, _, _, _, _, _⟩) (v := .bool false) rfl (by kernel_rfl) (by kernel_rfl) (by kernel_rfl) (fun _ _ _ h => h) (Or.inl ⟨by rfl, fun W hSW => by go_simp⟩) hHeld ?_
            simp only [Act.put, List.setIfInBounds_toArray, List.set_cons_zero, List.set_cons_succ]
            refine wpAnyH_take (i := 4) (oi := ⟨some 32, _, _, _, _, _⟩) (v := .bool false) rfl (by kernel_rfl) (by kernel_rfl) (by kernel_rfl) (fun _ _ _ h => h) (Or.inl ⟨by rfl, fun W hSW => by go_simp⟩) hHeld ?_
            simp only [Act.put, List.setIfInBounds_toArray, List.set_cons_zero, List.set_cons_succ]
            refine wpAnyH_take (i := 5) (oi := ⟨some 33, _, _, _, _, _⟩) (v := .bool false) rfl (by kernel_rfl) (by kernel_rfl) (by kernel_rfl) (fun _ _ _ h => h) (Or.inl ⟨by rfl, fun W hSW => by go_simp⟩) hHeld ?_
            simp only [Act.put, List.setIfInBounds_toArray, List.set_cons_zero, List.set_cons_succ]
            refine wpAnyH_take (i := 6) (oi := ⟨some 34, _, _, _, _, _⟩) (v := undef) rfl (by kernel_rfl) (by kernel_rfl) (by kernel_rfl) (fun _ _ _ h => h) (Or.inr ⟨by kernel_rfl, rfl⟩) hHeld ?_
            simp only [Act.put, List.setIfInBounds_toArray, List.set_cons_zero, List.set_cons_succ]
            refine wpAnyH_take (i := 7) (oi := ⟨some 35, _, _, _, _, _⟩) (v := undef) rfl (by kernel_rfl) (by kernel_rfl) (by kernel_rfl) (fun _ _ _ h => h) (Or.inr ⟨by kernel_rfl, rfl⟩) hHeld ?_
            simp only [Act.put, List.setIfInBounds_toArray, List.set_cons_zero, List.set_cons_succ]
            refine wpAnyH_take (i := 8) (oi := ⟨some 36, _, _, _, _, _⟩) (v := undef) rfl (by kernel_rfl) (by kernel_rfl) (by kernel_rfl) (fun _ _ _ h => h) (Or.inr ⟨by kernel_rfl, rfl⟩) hHeld ?_
            simp only [Act.put, List.setIfInBounds_toArray, List.set_cons_zero, List.set_cons_succ]
            refine wpAnyH_take (i := 9) (oi := ⟨some 37, _, _, _, _, _⟩) (v := undef) rfl (by kernel_rfl) (by kernel_rfl) (by kernel_rfl) (fun _ _ _ h => h) (Or.inr ⟨by kernel_rfl, rfl⟩) hHeld ?_
            simp only [Act.put, List.setIfInBounds_toArray, List.set_cons_zero, List.set_cons_succ]
            refine wpAnyH_take (i := 10) (oi := ⟨some 38, _, _, _, _, _⟩) (v := .bool false) rfl (by kernel_rfl) (by kernel_rfl) (by kernel_rfl) (fun _ _ _ h => h) (Or.inl ⟨by rfl, fun W hSW => by go_simp⟩) hHeld ?_
            simp only [Act.put, List.setIfInBounds_toArray, List.set_cons_zero, List.set_cons_succ]
            refine wpAnyH_done (by kernel_rfl) ?_ _
            refine NoPanic.normal ?_
            refine HeldP.then_named (S := fun W => Below Y0.heap.size Y0 W) hHeld ?_
            rintro Y1 hy1
            have HYY := Lib.hid (below_t HY0.out hy1)
            have HRY := Lib.hid (HR.out.below HYY.out)
            have HZY := Lib.hid (HZR.out.below HYY.out)
            have HGY := Lib.hid (HGR.out.below HYY.out)
            have HBY := Lib.hid (below_t HBR.out HYY.out)
            have HUY := Lib.hid (HU9.out.below hy1)
            have q0 := HUY.out.cell (i := 0) rfl
            have q1 := HUY.out.cell (i := 1) rfl
            have f0 := HGY.out.frozen (2 + j * 2)
            have f1 := HGY.out.frozen (2 + j * 2 + 1)
            have g0 := HGY.out.cell (g_sk (gv n j) (d := j) (by omega))
            have g1 := HGY.out.cell (g_sl (gv n j) (d := j) (by omega))
            clear hHeld hy1 lp
            go_wp2_with fail
            go_roundw
            case rel =>
              refine ⟨j + 1, by first | rfl | rw [HWR.out] | (congr 1; omega), by omega, HRY.out, HZY.out, ?_, HBY.out, ?_⟩
              · rw [← gv_no HH.out]
                exact HGY.out
              · have h1 := HSZ.out
                have h2 := HYY.out.size
                omega
            case measure =>
              simp only [intOf]
              omega
        | false =>
          have HK := Lib.hid (show soak (k2, l2) = false from hk)
          cases hu : wet (k2, l2) with
          | true =>
            have HV := Lib.hid hu
            go_wp2_with fail
            refine (soaks_b hk _ (HT.out.below (below_t HBR.out HX0.out))).mono ?_
            rintro e X1 ⟨rfl, hb1⟩
            have HX1 := Lib.hid (below_t HX0.out hb1)
            have HU1 := Lib.hid (HU0.out.below hb1)
            have HV1 := Lib.hid (HV0.out.below hb1)
            have p0 := HV1.out.cell (i := 0) rfl
            have p1 := HV1.out.cell (i := 1) rfl
            clear hb1
            clear hk
            go_wp2_with fail
            refine (isWater_c hu).mono ?_
            rintro e X2 ⟨rfl, hb2⟩
            have HX2 := Lib.hid (below_t HX1.out hb2)
            have HU2 := Lib.hid (HU1.out.below hb2)
            have HV2 := Lib.hid (HV1.out.below hb2)
            clear hb2
            clear hu
            go_wp2_with fail
            cases hw : wet (k, l) with
            | false =>
              have HW := Lib.hid hw
              clear hw
              have HH := Lib.hid (show gives n j = false from by simp [gives, holds, HC1.out, HC2.out, HW.out, HK.out, HV.out])
              refine HeldP.wp_named (S := fun W => Below X2.heap.size X2 W) (by (repeat' (first | (with_reducible exact Below.refl _ _) | (with_reducible refine Below.setCell ?_ (by (first | omega | (simp; done) | (simp; omega))) _) | (with_reducible refine Below.alloc ?_ (by (first | omega | (simp; done) | (simp; omega))) _) | (with_reducible refine Below.drew ?_) | (with_reducible refine below_drewN ?_ _)))) ?_
              rintro Y0 hy0
              have HY0 := Lib.hid (below_t HX2.out hy0)
              have HU9 := Lib.hid (HU2.out.below hy0)
              have lp := HU9.out.lt
              have q0 := HU9.out.cell (i := 0) rfl
              have q1 := HU9.out.cell (i := 1) rfl
              clear hy0
              refine wp_region_noPanic ?_
              refine wp_region_held_drew (S := fun W => Below Y0.heap.size Y0 W) (by kernel_rfl) ((Below.refl _ Y0).drew) (fun hHeld => ?_)
              refine wpAnyH_take (i := 0) (oi := ⟨some 28, _, _, _, _, _⟩) (v := .agg #[.int .u8 (k : Int), .int .u8 (l : Int)]) rfl (by kernel_rfl) (by kernel_rfl) (by kernel_rfl) (fun _ _ _ h => h) (Or.inl ⟨by rfl, fun W hSW => by have a0 := (hSW.cell (p := ⟨b + 1, 0, none⟩) lp).trans q0; have a1 := (hSW.cell (p := ⟨b + 1, 1, none⟩) lp).trans q1; go_simp⟩) hHeld ?_
              simp only [Act.put, List.setIfInBounds_toArray, List.set_cons_zero, List.set_cons_succ]
              refine wpAnyH_ready (rs := [1]) (by kernel_rfl) (by simp) ?_
              refine AllReadyH.cons (o := ⟨some 29, _, _, _, _, _⟩) rfl (fun K hK => ?_) AllReadyH.nil
              go_simp
              refine (isWater_c HW.out).mono ?_
              rintro e w91 ⟨rfl, hb91⟩
              go_wp2_with fail
              refine hK.out _ _ (below_t hHeld hb91) (fun hHeld => ?_)
              clear hK K hb91
              refine wpAnyH_take (i := 2) (oi := ⟨some 30, _, _, _, _, _⟩) (v := .bool false) rfl (by kernel_rfl) (by kernel_rfl) (by kernel_rfl) (fun _ _ _ h => h) (Or.inl ⟨by rfl, fun W hSW => by go_simp⟩) hHeld ?_
              simp only [Act.put, List.setIfInBounds_toArray, List.set_cons_zero, List.set_cons_succ]
              refine wpAnyH_take (i := 3) (oi := ⟨some 31, _, _, _, _, _⟩) (v := undef) rfl (by kernel_rfl) (by kernel_rfl) (by kernel_rfl) (fun _ _ _ h => h) (Or.inr ⟨by kernel_rfl, rfl⟩) hHeld ?_
              simp only [Act.put, List.setIfInBounds_toArray, List.set_cons_zero, List.set_cons_succ]
              refine wpAnyH_take (i := 4) (oi := ⟨some 32, _, _, _, _, _⟩) (v := .bool false) rfl (by kernel_rfl) (by kernel_rfl) (by kernel_rfl) (fun _ _ _ h => h) (Or.inl ⟨by rfl, fun W hSW => by go_simp⟩) hHeld ?_
              simp only [Act.put, List.setIfInBounds_toArray, List.set_cons_zero, List.set_cons_succ]
              refine wpAnyH_take (i := 5) (oi := ⟨some 33, _, _, _, _, _⟩) (v := .bool false) rfl (by kernel_rfl) (by kernel_rfl) (by kernel_rfl) (fun _ _ _ h => h) (Or.inl ⟨by rfl, fun W hSW => by go_simp⟩) hHeld ?_
              simp only [Act.put, List.setIfInBounds_toArray, List.set_cons_zero, List.set_cons_succ]
              refine wpAnyH_take (i := 6) (oi := ⟨some 34, _, _, _, _, _⟩) (v := undef) rfl (by kernel_rfl) (by kernel_rfl) (by kernel_rfl) (fun _ _ _ h => h) (Or.inr ⟨by kernel_rfl, rfl⟩) hHeld ?_
              simp only [Act.put, List.setIfInBounds_toArray, List.set_cons_zero, List.set_cons_succ]
              refine wpAnyH_take (i := 7) (oi := ⟨some 35, _, _, _, _, _⟩) (v := undef) rfl (by kernel_rfl) (by kernel_rfl) (by kernel_rfl) (fun _ _ _ h => h) (Or.inr ⟨by kernel_rfl, rfl⟩) hHeld ?_
              simp only [Act.put, List.setIfInBounds_toArray, List.set_cons_zero, List.set_cons_succ]
              refine wpAnyH_take (i := 8) (oi := ⟨some 36, _, _, _, _, _⟩) (v := undef) rfl (by kernel_rfl) (by kernel_rfl) (by kernel_rfl) (fun _ _ _ h => h) (Or.inr ⟨by kernel_rfl, rfl⟩) hHeld ?_
              simp only [Act.put, List.setIfInBounds_toArray, List.set_cons_zero, List.set_cons_succ]
              refine wpAnyH_take (i := 9) (oi := ⟨some 37, _, _, _, _, _⟩) (v := undef) rfl (by kernel_rfl) (by kernel_rfl) (by kernel_rfl) (fun _ _ _ h => h) (Or.inr ⟨by kernel_rfl, rfl⟩) hHeld ?_
              simp only [Act.put, List.setIfInBounds_toArray, List.set_cons_zero, List.set_cons_succ]
              refine wpAnyH_take (i := 10) (oi := ⟨some 38, _, _, _, _, _⟩) (v := .bool false) rfl (by kernel_rfl) (by kernel_rfl) (by kernel_rfl) (fun _ _ _ h => h) (Or.inl ⟨by rfl, fun W hSW => by go_simp⟩) hHeld ?_
              simp only [Act.put, List.setIfInBounds_toArray, List.set_cons_zero, List.set_cons_succ]
              refine wpAnyH_done (by kernel_rfl) ?_ _
              refine NoPanic.normal ?_
              refine HeldP.then_named (S := fun W => Below Y0.heap.size Y0 W) hHeld ?_
              rintro Y1 hy1
              have HYY := Lib.hid (below_t HY0.out hy1)
              have HRY := Lib.hid (HR.out.below HYY.out)
              have HZY := Lib.hid (HZR.out.below HYY.out)
              have HGY := Lib.hid (HGR.out.below HYY.out)
              have HBY := Lib.hid (below_t HBR.out HYY.out)
              have HUY := Lib.hid (HU9.out.below hy1)
              have q0 := HUY.out.cell (i := 0) rfl
              have q1 := HUY.out.cell (i := 1) rfl
              have f0 := HGY.out.frozen (2 + j * 2)
              have f1 := HGY.out.frozen (2 + j * 2 + 1)
              have g0 := HGY.out.cell (g_sk (gv n j) (d := j) (by omega))
              have g1 := HGY.out.cell (g_sl (gv n j) (d := j) (by omega))
              clear hHeld hy1 lp
              go_wp2_with fail
              go_roundw
              case rel =>
                refine ⟨j + 1, by first | rfl | rw [HWR.out] | (congr 1; omega), by omega, HRY.out, HZY.out, ?_, HBY.out, ?_⟩
                · rw [← gv_no HH.out]
                  exact HGY.out
                · have h1 := HSZ.out
                  have h2 := HYY.out.size
                  omega
              case measure =>
                simp only [intOf]
                omega
            | true =>
              have HW := Lib.hid hw
              clear hw
              have HH := Lib.hid (show gives n j = false from by simp [gives, holds, HC1.out, HC2.out, HW.out, HK.out, HV.out])
              refine HeldP.wp_named (S := fun W => Below X2.heap.size X2 W) (by (repeat' (first | (with_reducible exact Below.refl _ _) | (with_reducible refine Below.setCell ?_ (by (first | omega | (simp; done) | (simp; omega))) _) | (with_reducible refine Below.alloc ?_ (by (first | omega | (simp; done) | (simp; omega))) _) | (with_reducible refine Below.drew ?_) | (with_reducible refine below_drewN ?_ _)))) ?_
              rintro Y0 hy0
              have HY0 := Lib.hid (below_t HX2.out hy0)
              have HU9 := Lib.hid (HU2.out.below hy0)
              have lp := HU9.out.lt
              have q0 := HU9.out.cell (i := 0) rfl
              have q1 := HU9.out.cell (i := 1) rfl
              clear hy0
              refine wp_region_noPanic ?_
              refine wp_region_held_drew (S := fun W => Below Y0.heap.size Y0 W) (by kernel_rfl) ((Below.refl _ Y0).drew) (fun hHeld => ?_)
              refine wpAnyH_take (i := 0) (oi := ⟨some 28, _, _, _, _, _⟩) (v := .agg #[.int .u8 (k : Int), .int .u8 (l : Int)]) rfl (by kernel_rfl) (by kernel_rfl) (by kernel_rfl) (fun _ _ _ h => h) (Or.inl ⟨by rfl, fun W hSW => by have a0 := (hSW.cell (p := ⟨b + 1, 0, none⟩) lp).trans q0; have a1 := (hSW.cell (p := ⟨b + 1, 1, none⟩) lp).trans q1; go_simp⟩) hHeld ?_
              simp only [Act.put, List.setIfInBounds_toArray, List.set_cons_zero, List.set_cons_succ]
              refine wpAnyH_ready (rs := [1]) (by kernel_rfl) (by simp) ?_
              refine AllReadyH.cons (o := ⟨some 29, _, _, _, _, _⟩) rfl (fun K hK => ?_) AllReadyH.nil
              go_simp
              refine (isWater_c HW.out).mono ?_
              rintro e w91 ⟨rfl, hb91⟩
              go_wp2_with fail
              refine hK.out _ _ (below_t hHeld hb91) (fun hHeld => ?_)
              clear hK K hb91
              refine wpAnyH_take (i := 2) (oi := ⟨some 30, _, _, _, _, _⟩) (v := .bool true) rfl (by kernel_rfl) (by kernel_rfl) (by kernel_rfl) (fun _ _ _ h => h) (Or.inl ⟨by rfl, fun W hSW => by go_simp⟩) hHeld ?_
              simp only [Act.put, List.setIfInBounds_toArray, List.set_cons_zero, List.set_cons_succ]
              refine wpAnyH_take (i := 3) (oi := ⟨some 31, _, _, _, _, _⟩) (v := .bool false) rfl (by kernel_rfl) (by kernel_rfl) (by kernel_rfl) (fun _ _ _ h => h) (Or.inl ⟨by rfl, fun W hSW => by go_simp⟩) hHeld ?_
              simp only [Act.put, List.setIfInBounds_toArray, List.set_cons_zero, List.set_cons_succ]
              refine wpAnyH_take (i := 4) (oi := ⟨some 32, _, _, _, _, _⟩) (v := .bool false) rfl (by kernel_rfl) (by kernel_rfl) (by kernel_rfl) (fun _ _ _ h => h) (Or.inl ⟨by rfl, fun W hSW => by go_simp⟩) hHeld ?_
              simp only [Act.put, List.setIfInBounds_toArray, List.set_cons_zero, List.set_cons_succ]
              refine wpAnyH_take (i := 5) (oi := ⟨some 33, _, _, _, _, _⟩) (v := .bool false) rfl (by kernel_rfl) (by kernel_rfl) (by kernel_rfl) (fun _ _ _ h => h) (Or.inl ⟨by rfl, fun W hSW => by go_simp⟩) hHeld ?_
              simp only [Act.put, List.setIfInBounds_toArray, List.set_cons_zero, List.set_cons_succ]
              refine wpAnyH_take (i := 6) (oi := ⟨some 34, _, _, _, _, _⟩) (v := undef) rfl (by kernel_rfl) (by kernel_rfl) (by kernel_rfl) (fun _ _ _ h => h) (Or.inr ⟨by kernel_rfl, rfl⟩) hHeld ?_
              simp only [Act.put, List.setIfInBounds_toArray, List.set_cons_zero, List.set_cons_succ]
              refine wpAnyH_take (i := 7) (oi := ⟨some 35, _, _, _, _, _⟩) (v := undef) rfl (by kernel_rfl) (by kernel_rfl) (by kernel_rfl) (fun _ _ _ h => h) (Or.inr ⟨by kernel_rfl, rfl⟩) hHeld ?_
              simp only [Act.put, List.setIfInBounds_toArray, List.set_cons_zero, List.set_cons_succ]
              refine wpAnyH_take (i := 8) (oi := ⟨some 36, _, _, _, _, _⟩) (v := undef) rfl (by kernel_rfl) (by kernel_rfl) (by kernel_rfl) (fun _ _ _ h => h) (Or.inr ⟨by kernel_rfl, rfl⟩) hHeld ?_
              simp only [Act.put, List.setIfInBounds_toArray, List.set_cons_zero, List.set_cons_succ]
              refine wpAnyH_take (i := 9) (oi := ⟨some 37, _, _, _, _, _⟩) (v := undef) rfl (by kernel_rfl) (by kernel_rfl) (by kernel_rfl) (fun _ _ _ h => h) (Or.inr ⟨by kernel_rfl, rfl⟩) hHeld ?_
              simp only [Act.put, List.setIfInBounds_toArray, List.set_cons_zero, List.set_cons_succ]
              refine wpAnyH_take (i := 10) (oi := ⟨some 38, _, _, _, _, _⟩) (v := .bool false) rfl (by kernel_rfl) (by kernel_rfl) (by kernel_rfl) (fun _ _ _ h => h) (Or.inl ⟨by rfl, fun W hSW => by go_simp⟩) hHeld ?_
              simp only [Act.put, List.setIfInBounds_toArray, List.set_cons_zero, List.set_cons_succ]
              refine wpAnyH_done (by kernel_rfl) ?_ _
              refine NoPanic.normal ?_
              refine HeldP.then_named (S := fun W => Below Y0.heap.size Y0 W) hHeld ?_
              rintro Y1 hy1
              have HYY := Lib.hid (below_t HY0.out hy1)
              have HRY := Lib.hid (HR.out.below HYY.out)
              have HZY := Lib.hid (HZR.out.below HYY.out)
              have HGY := Lib.hid (HGR.out.below HYY.out)
              have HBY := Lib.hid (below_t HBR.out HYY.out)
              have HUY := Lib.hid (HU9.out.below hy1)
              have q0 := HUY.out.cell (i := 0) rfl
              have q1 := HUY.out.cell (i := 1) rfl
              have f0 := HGY.out.frozen (2 + j * 2)
              have f1 := HGY.out.frozen (2 + j * 2 + 1)
              have g0 := HGY.out.cell (g_sk (gv n j) (d := j) (by omega))
              have g1 := HGY.out.cell (g_sl (gv n j) (d := j) (by omega))
              clear hHeld hy1 lp
              go_wp2_with fail
              go_roundw
              case rel =>
                refine ⟨j + 1, by first | rfl | rw [HWR.out] | (congr 1; omega), by omega, HRY.out, HZY.out, ?_, HBY.out, ?_⟩
                · rw [← gv_no HH.out]
                  exact HGY.out
                · have h1 := HSZ.out
                  have h2 := HYY.out.size
                  omega
              case measure =>
                simp only [intOf]
                omega
          | false =>
            have HV := Lib.hid hu
            go_wp2_with fail
            refine (soaks_b hk _ (HT.out.below (below_t HBR.out HX0.out))).mono ?_
            rintro e X1 ⟨rfl, hb1⟩
            have HX1 := Lib.hid (below_t HX0.out hb1)
            have HU1 := Lib.hid (HU0.out.below hb1)
            have HV1 := Lib.hid (HV0.out.below hb1)
            have p0 := HV1.out.cell (i := 0) rfl
            have p1 := HV1.out.cell (i := 1) rfl
            clear hb1
            clear hk
            go_wp2_with fail
            refine (isWater_c hu).mono ?_
            rintro e X2 ⟨rfl, hb2⟩
            have HX2 := Lib.hid (below_t HX1.out hb2)
            have HU2 := Lib.hid (HU1.out.below hb2)
            have HV2 := Lib.hid (HV1.out.below hb2)
            clear hb2
            clear hu
            go_wp2_with fail
            cases hw : wet (k, l) with
            | false =>
              have HW := Lib.hid hw
              clear hw
              have HH := Lib.hid (show gives n j = false from by simp [gives, holds, HC1.out, HC2.out, HW.out, HK.out, HV.out])
              refine HeldP.wp_named (S := fun W => Below X2.heap.size X2 W) (by (repeat' (first | (with_reducible exact Below.refl _ _) | (with_reducible refine Below.setCell ?_ (by (first | omega | (simp; done) | (simp; omega))) _) | (with_reducible refine Below.alloc ?_ (by (first | omega | (simp; done) | (simp; omega))) _) | (with_reducible refine Below.drew ?_) | (with_reducible refine below_drewN ?_ _)))) ?_
              rintro Y0 hy0
              have HY0 := Lib.hid (below_t HX2.out hy0)
              have HU9 := Lib.hid (HU2.out.below hy0)
              have lp := HU9.out.lt
              have q0 := HU9.out.cell (i := 0) rfl
              have q1 := HU9.out.cell (i := 1) rfl
              clear hy0
              refine wp_region_noPanic ?_
              refine wp_region_held_drew (S := fun W => Below Y0.heap.size Y0 W) (by kernel_rfl) ((Below.refl _ Y0).drew) (fun hHeld => ?_)
              refine wpAnyH_take (i := 0) (oi := ⟨some 28, _, _, _, _, _⟩) (v := .agg #[.int .u8 (k : Int), .int .u8 (l : Int)]) rfl (by kernel_rfl) (by kernel_rfl) (by kernel_rfl) (fun _ _ _ h => h) (Or.inl ⟨by rfl, fun W hSW => by have a0 := (hSW.cell (p := ⟨b + 1, 0, none⟩) lp).trans q0; have a1 := (hSW.cell (p := ⟨b + 1, 1, none⟩) lp).trans q1; go_simp⟩) hHeld ?_
              simp only [Act.put, List.setIfInBounds_toArray, List.set_cons_zero, List.set_cons_succ]
              refine wpAnyH_ready (rs := [1]) (by kernel_rfl) (by simp) ?_
              refine AllReadyH.cons (o := ⟨some 29, _, _, _, _, _⟩) rfl (fun K hK => ?_) AllReadyH.nil
              go_simp
              refine (isWater_c HW.out).mono ?_
              rintro e w91 ⟨rfl, hb91⟩
              go_wp2_with fail
              refine hK.out _ _ (below_t hHeld hb91) (fun hHeld => ?_)
              clear hK K hb91
              refine wpAnyH_take (i := 2) (oi := ⟨some 30, _, _, _, _, _⟩) (v := .bool false) rfl (by kernel_rfl) (by kernel_rfl) (by kernel_rfl) (fun _ _ _ h => h) (Or.inl ⟨by rfl, fun W hSW => by go_simp⟩) hHeld ?_
              simp only [Act.put, List.setIfInBounds_toArray, List.set_cons_zero, List.set_cons_succ]
              refine wpAnyH_take (i := 3) (oi := ⟨some 31, _, _, _, _, _⟩) (v := undef) rfl (by kernel_rfl) (by kernel_rfl) (by kernel_rfl) (fun _ _ _ h => h) (Or.inr ⟨by kernel_rfl, rfl⟩) hHeld ?_
              simp only [Act.put, List.setIfInBounds_toArray, List.set_cons_zero, List.set_cons_succ]
              refine wpAnyH_take (i := 4) (oi := ⟨some 32, _, _, _, _, _⟩) (v := .bool false) rfl (by kernel_rfl) (by kernel_rfl) (by kernel_rfl) (fun _ _ _ h => h) (Or.inl ⟨by rfl, fun W hSW => by go_simp⟩) hHeld ?_
              simp only [Act.put, List.setIfInBounds_toArray, List.set_cons_zero, List.set_cons_succ]
              refine wpAnyH_take (i := 5) (oi := ⟨some 33, _, _, _, _, _⟩) (v := .bool false) rfl (by kernel_rfl) (by kernel_rfl) (by kernel_rfl) (fun _ _ _ h => h) (Or.inl ⟨by rfl, fun W hSW => by go_simp⟩) hHeld ?_
              simp only [Act.put, List.setIfInBounds_toArray, List.set_cons_zero, List.set_cons_succ]
              refine wpAnyH_take (i := 6) (oi := ⟨some 34, _, _, _, _, _⟩) (v := undef) rfl (by kernel_rfl) (by kernel_rfl) (by kernel_rfl) (fun _ _ _ h => h) (Or.inr ⟨by kernel_rfl, rfl⟩) hHeld ?_
              simp only [Act.put, List.setIfInBounds_toArray, List.set_cons_zero, List.set_cons_succ]
              refine wpAnyH_take (i := 7) (oi := ⟨some 35, _, _, _, _, _⟩) (v := undef) rfl (by kernel_rfl) (by kernel_rfl) (by kernel_rfl) (fun _ _ _ h => h) (Or.inr ⟨by kernel_rfl, rfl⟩) hHeld ?_
              simp only [Act.put, List.setIfInBounds_toArray, List.set_cons_zero, List.set_cons_succ]
              refine wpAnyH_take (i := 8) (oi := ⟨some 36, _, _, _, _, _⟩) (v := undef) rfl (by kernel_rfl) (by kernel_rfl) (by kernel_rfl) (fun _ _ _ h => h) (Or.inr ⟨by kernel_rfl, rfl⟩) hHeld ?_
              simp only [Act.put, List.setIfInBounds_toArray, List.set_cons_zero, List.set_cons_succ]
              refine wpAnyH_take (i := 9) (oi := ⟨some 37, _, _, _, _, _⟩) (v := undef) rfl (by kernel_rfl) (by kernel_rfl) (by kernel_rfl) (fun _ _ _ h => h) (Or.inr ⟨by kernel_rfl, rfl⟩) hHeld ?_
              simp only [Act.put, List.setIfInBounds_toArray, List.set_cons_zero, List.set_cons_succ]
              refine wpAnyH_take (i := 10) (oi := ⟨some 38, _, _, _, _, _⟩) (v := .bool false) rfl (by kernel_rfl) (by kernel_rfl) (by kernel_rfl) (fun _ _ _ h => h) (Or.inl ⟨by rfl, fun W hSW => by go_simp⟩) hHeld ?_
              simp only [Act.put, List.setIfInBounds_toArray, List.set_cons_zero, List.set_cons_succ]
              refine wpAnyH_done (by kernel_rfl) ?_ _
              refine NoPanic.normal ?_
              refine HeldP.then_named (S := fun W => Below Y0.heap.size Y0 W) hHeld ?_
              rintro Y1 hy1
              have HYY := Lib.hid (below_t HY0.out hy1)
              have HRY := Lib.hid (HR.out.below HYY.out)
              have HZY := Lib.hid (HZR.out.below HYY.out)
              have HGY := Lib.hid (HGR.out.below HYY.out)
              have HBY := Lib.hid (below_t HBR.out HYY.out)
              have HUY := Lib.hid (HU9.out.below hy1)
              have q0 := HUY.out.cell (i := 0) rfl
              have q1 := HUY.out.cell (i := 1) rfl
              have f0 := HGY.out.frozen (2 + j * 2)
              have f1 := HGY.out.frozen (2 + j * 2 + 1)
              have g0 := HGY.out.cell (g_sk (gv n j) (d := j) (by omega))
              have g1 := HGY.out.cell (g_sl (gv n j) (d := j) (by omega))
              clear hHeld hy1 lp
              go_wp2_with fail
              go_roundw
              case rel =>
                refine ⟨j + 1, by first | rfl | rw [HWR.out] | (congr 1; omega), by omega, HRY.out, HZY.out, ?_, HBY.out, ?_⟩
                · rw [← gv_no HH.out]
                  exact HGY.out
                · have h1 := HSZ.out
                  have h2 := HYY.out.size
                  omega
              case measure =>
                simp only [intOf]
                omega
            | true =>
              have HW := Lib.hid hw
              clear hw
              by_cases hl7 : l < 7
              · have hl7I : (l : Int) < 7 := by omega
                have HL := Lib.hid hl7
                have HH := Lib.hid (show gives n j = true from by simp [gives, holds, HC1.out, HC2.out, HW.out, HK.out, HV.out, HL.out])
                refine HeldP.wp_named (S := fun W => Below X2.heap.size X2 W) (by (repeat' (first | (with_reducible exact Below.refl _ _) | (with_reducible refine Below.setCell ?_ (by (first | omega | (simp; done) | (simp; omega))) _) | (with_reducible refine Below.alloc ?_ (by (first | omega | (simp; done) | (simp; omega))) _) | (with_reducible refine Below.drew ?_) | (with_reducible refine below_drewN ?_ _)))) ?_
                rintro Y0 hy0
                have HY0 := Lib.hid (below_t HX2.out hy0)
                have HU9 := Lib.hid (HU2.out.below hy0)
                have lp := HU9.out.lt
                have q0 := HU9.out.cell (i := 0) rfl
                have q1 := HU9.out.cell (i := 1) rfl
                clear hy0
                refine wp_region_noPanic ?_
                refine wp_region_held_drew (S := fun W => Below Y0.heap.size Y0 W) (by kernel_rfl) ((Below.refl _ Y0).drew) (fun hHeld => ?_)
                refine wpAnyH_take (i := 0) (oi := ⟨some 28, _, _, _, _, _⟩) (v := .agg #[.int .u8 (k : Int), .int .u8 (l : Int)]) rfl (by kernel_rfl) (by kernel_rfl) (by kernel_rfl) (fun _ _ _ h => h) (Or.inl ⟨by rfl, fun W hSW => by have a0 := (hSW.cell (p := ⟨b + 1, 0, none⟩) lp).trans q0; have a1 := (hSW.cell (p := ⟨b + 1, 1, none⟩) lp).trans q1; go_simp⟩) hHeld ?_
                simp only [Act.put, List.setIfInBounds_toArray, List.set_cons_zero, List.set_cons_succ]
                refine wpAnyH_ready (rs := [1]) (by kernel_rfl) (by simp) ?_
                refine AllReadyH.cons (o := ⟨some 29, _, _, _, _, _⟩) rfl (fun K hK => ?_) AllReadyH.nil
                go_simp
                refine (isWater_c HW.out).mono ?_
                rintro e w91 ⟨rfl, hb91⟩
                go_wp2_with fail
                refine hK.out _ _ (below_t hHeld hb91) (fun hHeld => ?_)
                clear hK K hb91
                refine wpAnyH_take (i := 2) (oi := ⟨some 30, _, _, _, _, _⟩) (v := .bool true) rfl (by kernel_rfl) (by kernel_rfl) (by kernel_rfl) (fun _ _ _ h => h) (Or.inl ⟨by rfl, fun W hSW => by go_simp⟩) hHeld ?_
                simp only [Act.put, List.setIfInBounds_toArray, List.set_cons_zero, List.set_cons_succ]
                refine wpAnyH_take (i := 3) (oi := ⟨some 31, _, _, _, _, _⟩) (v := .bool true) rfl (by kernel_rfl) (by kernel_rfl) (by kernel_rfl) (fun _ _ _ h => h) (Or.inl ⟨by rfl, fun W hSW => by go_simp⟩) hHeld ?_
                simp only [Act.put, List.setIfInBounds_toArray, List.set_cons_zero, List.set_cons_succ]
                refine wpAnyH_take (i := 4) (oi := ⟨some 32, _, _, _, _, _⟩) (v := .bool true) rfl (by kernel_rfl) (by kernel_rfl) (by kernel_rfl) (fun _ _ _ h => h) (Or.inl ⟨by rfl, fun W hSW => by go_simp⟩) hHeld ?_
                simp only [Act.put, List.setIfInBounds_toArray, List.set_cons_zero, List.set_cons_succ]
                refine wpAnyH_take (i := 5) (oi := ⟨some 33, _, _, _, _, _⟩) (v := .bool true) rfl (by kernel_rfl) (by kernel_rfl) (by kernel_rfl) (fun _ _ _ h => h) (Or.inl ⟨by rfl, fun W hSW => by go_simp⟩) hHeld ?_
                simp only [Act.put, List.setIfInBounds_toArray, List.set_cons_zero, List.set_cons_succ]
                refine wpAnyH_take (i := 6) (oi := ⟨some 34, _, _, _, _, _⟩) (v := .pointer (some ⟨b + 1, 1, none⟩)) rfl (by kernel_rfl) (by kernel_rfl) (by kernel_rfl) (fun _ _ _ h => h) (Or.inl ⟨by rfl, fun W hSW => by go_simp⟩) hHeld ?_
                simp only [Act.put, List.setIfInBounds_toArray, List.set_cons_zero, List.set_cons_succ]
                refine wpAnyH_take (i := 7) (oi := ⟨some 35, _, _, _, _, _⟩) (v := .int .u8 (l : Int)) rfl (by kernel_rfl) (by kernel_rfl) (by kernel_rfl) (fun _ _ _ h => h) (Or.inl ⟨by rfl, fun W hSW => by have a0 := (hSW.cell (p := ⟨b + 1, 1, none⟩) lp).trans q1; go_simp⟩) hHeld ?_
                simp only [Act.put, List.setIfInBounds_toArray, List.set_cons_zero, List.set_cons_succ]
                refine wpAnyH_ready (rs := [8]) (by kernel_rfl) (by simp) ?_
                refine AllReadyH.cons (o := ⟨some 36, _, _, _, _, _⟩) rfl (fun K hK => ?_) AllReadyH.nil
                go_simp
                refine (lev_b _ (HT.out.below (below_t HBR.out (below_t HY0.out hHeld)))).mono ?_
                rintro e w92 ⟨rfl, hb92⟩
                go_wp2_with fail
                refine hK.out _ _ (below_t hHeld hb92) (fun hHeld => ?_)
                clear hK K hb92
                refine wpAnyH_take (i := 9) (oi := ⟨some 37, _, _, _, _, _⟩) (v := .bool true) rfl (by kernel_rfl) (by kernel_rfl) (by kernel_rfl) (fun _ _ _ h => h) (Or.inl ⟨by rfl, fun W hSW => by go_simp⟩) hHeld ?_
                simp only [Act.put, List.setIfInBounds_toArray, List.set_cons_zero, List.set_cons_succ]
                refine wpAnyH_take (i := 10) (oi := ⟨some 38, _, _, _, _, _⟩) (v := .bool true) rfl (by kernel_rfl) (by kernel_rfl) (by kernel_rfl) (fun _ _ _ h => h) (Or.inl ⟨by rfl, fun W hSW => by go_simp⟩) hHeld ?_
                simp only [Act.put, List.setIfInBounds_toArray, List.set_cons_zero, List.set_cons_succ]
                refine wpAnyH_done (by kernel_rfl) ?_ _
                refine NoPanic.normal ?_
                refine HeldP.then_named (S := fun W => Below Y0.heap.size Y0 W) hHeld ?_
                rintro Y1 hy1
                have HYY := Lib.hid (below_t HY0.out hy1)
                have HRY := Lib.hid (HR.out.below HYY.out)
                have HZY := Lib.hid (HZR.out.below HYY.out)
                have HGY := Lib.hid (HGR.out.below HYY.out)
                have HBY := Lib.hid (below_t HBR.out HYY.out)
                have HUY := Lib.hid (HU9.out.below hy1)
                have q0 := HUY.out.cell (i := 0) rfl
                have q1 := HUY.out.cell (i := 1) rfl
                have f0 := HGY.out.frozen (2 + j * 2)
                have f1 := HGY.out.frozen (2 + j * 2 + 1)
                have g0 := HGY.out.cell (g_sk (gv n j) (d := j) (by omega))
                have g1 := HGY.out.cell (g_sl (gv n j) (d := j) (by omega))
                clear hHeld hy1 lp
                go_wp2_with fail
                go_roundw
                case rel =>
                  refine ⟨j + 1, by first | rfl | rw [HWR.out] | (congr 1; omega), by omega, ?_, ?_, ?_, ?_, ?_⟩
                  · exact (HRY.out.other (by simp; omega) _).other (by simp; omega) _
                  · exact (HZY.out.other (by simp) _).other (by simp) _
                  · have e := set_side (gv n j) (d := j) (by omega) (k, l)
                    rw [← HC1.out, gv_yes HH.out, HC1.out] at e
                    rw [← e]
                    exact (HGY.out.set _ _).set _ _
                  · exact (HBY.out.setCell (by have := HS.out; simp; omega) _).setCell (by have := HS.out; simp; omega) _
                  · have h1 := HSZ.out
                    have h2 := HYY.out.size
                    simp
                    omega
                case measure =>
                  simp only [intOf]
                  omega
              · have hl7I : ¬ (l : Int) < 7 := by omega
                have HL := Lib.hid hl7
                have HH := Lib.hid (show gives n j = false from by simp [gives, holds, HC1.out, HC2.out, HW.out, HK.out, HV.out, HL.out])
                refine HeldP.wp_named (S := fun W => Below X2.heap.size X2 W) (by (repeat' (first | (with_reducible exact Below.refl _ _) | (with_reducible refine Below.setCell ?_ (by (first | omega | (simp; done) | (simp; omega))) _) | (with_reducible refine Below.alloc ?_ (by (first | omega | (simp; done) | (simp; omega))) _) | (with_reducible refine Below.drew ?_) | (with_reducible refine below_drewN ?_ _)))) ?_
                rintro Y0 hy0
                have HY0 := Lib.hid (below_t HX2.out hy0)
                have HU9 := Lib.hid (HU2.out.below hy0)
                have lp := HU9.out.lt
                have q0 := HU9.out.cell (i := 0) rfl
                have q1 := HU9.out.cell (i := 1) rfl
                clear hy0
                refine wp_region_noPanic ?_
                refine wp_region_held_drew (S := fun W => Below Y0.heap.size Y0 W) (by kernel_rfl) ((Below.refl _ Y0).drew) (fun hHeld => ?_)
                refine wpAnyH_take (i := 0) (oi := ⟨some 28, _, _, _, _, _⟩) (v := .agg #[.int .u8 (k : Int), .int .u8 (l : Int)]) rfl (by kernel_rfl) (by kernel_rfl) (by kernel_rfl) (fun _ _ _ h => h) (Or.inl ⟨by rfl, fun W hSW => by have a0 := (hSW.cell (p := ⟨b + 1, 0, none⟩) lp).trans q0; have a1 := (hSW.cell (p := ⟨b + 1, 1, none⟩) lp).trans q1; go_simp⟩) hHeld ?_
                simp only [Act.put, List.setIfInBounds_toArray, List.set_cons_zero, List.set_cons_succ]
                refine wpAnyH_ready (rs := [1]) (by kernel_rfl) (by simp) ?_
                refine AllReadyH.cons (o := ⟨some 29, _, _, _, _, _⟩) rfl (fun K hK => ?_) AllReadyH.nil
                go_simp
                refine (isWater_c HW.out).mono ?_
                rintro e w91 ⟨rfl, hb91⟩
                go_wp2_with fail
                refine hK.out _ _ (below_t hHeld hb91) (fun hHeld => ?_)
                clear hK K hb91
                refine wpAnyH_take (i := 2) (oi := ⟨some 30, _, _, _, _, _⟩) (v := .bool true) rfl (by kernel_rfl) (by kernel_rfl) (by kernel_rfl) (fun _ _ _ h => h) (Or.inl ⟨by rfl, fun W hSW => by go_simp⟩) hHeld ?_
                simp only [Act.put, List.setIfInBounds_toArray, List.set_cons_zero, List.set_cons_succ]
                refine wpAnyH_take (i := 3) (oi := ⟨some 31, _, _, _, _, _⟩) (v := .bool true) rfl (by kernel_rfl) (by kernel_rfl) (by kernel_rfl) (fun _ _ _ h => h) (Or.inl ⟨by rfl, fun W hSW => by go_simp⟩) hHeld ?_
                simp only [Act.put, List.setIfInBounds_toArray, List.set_cons_zero, List.set_cons_succ]
                refine wpAnyH_take (i := 4) (oi := ⟨some 32, _, _, _, _, _⟩) (v := .bool true) rfl (by kernel_rfl) (by kernel_rfl) (by kernel_rfl) (fun _ _ _ h => h) (Or.inl ⟨by rfl, fun W hSW => by go_simp⟩) hHeld ?_
                simp only [Act.put, List.setIfInBounds_toArray, List.set_cons_zero, List.set_cons_succ]
                refine wpAnyH_take (i := 5) (oi := ⟨some 33, _, _, _, _, _⟩) (v := .bool true) rfl (by kernel_rfl) (by kernel_rfl) (by kernel_rfl) (fun _ _ _ h => h) (Or.inl ⟨by rfl, fun W hSW => by go_simp⟩) hHeld ?_
                simp only [Act.put, List.setIfInBounds_toArray, List.set_cons_zero, List.set_cons_succ]
                refine wpAnyH_take (i := 6) (oi := ⟨some 34, _, _, _, _, _⟩) (v := .pointer (some ⟨b + 1, 1, none⟩)) rfl (by kernel_rfl) (by kernel_rfl) (by kernel_rfl) (fun _ _ _ h => h) (Or.inl ⟨by rfl, fun W hSW => by go_simp⟩) hHeld ?_
                simp only [Act.put, List.setIfInBounds_toArray, List.set_cons_zero, List.set_cons_succ]
                refine wpAnyH_take (i := 7) (oi := ⟨some 35, _, _, _, _, _⟩) (v := .int .u8 (l : Int)) rfl (by kernel_rfl) (by kernel_rfl) (by kernel_rfl) (fun _ _ _ h => h) (Or.inl ⟨by rfl, fun W hSW => by have a0 := (hSW.cell (p := ⟨b + 1, 1, none⟩) lp).trans q1; go_simp⟩) hHeld ?_
                simp only [Act.put, List.setIfInBounds_toArray, List.set_cons_zero, List.set_cons_succ]
                refine wpAnyH_ready (rs := [8]) (by kernel_rfl) (by simp) ?_
                refine AllReadyH.cons (o := ⟨some 36, _, _, _, _, _⟩) rfl (fun K hK => ?_) AllReadyH.nil
                go_simp
                refine (lev_b _ (HT.out.below (below_t HBR.out (below_t HY0.out hHeld)))).mono ?_
                rintro e w92 ⟨rfl, hb92⟩
                go_wp2_with fail
                refine hK.out _ _ (below_t hHeld hb92) (fun hHeld => ?_)
                clear hK K hb92
                refine wpAnyH_take (i := 9) (oi := ⟨some 37, _, _, _, _, _⟩) (v := .bool false) rfl (by kernel_rfl) (by kernel_rfl) (by kernel_rfl) (fun _ _ _ h => h) (Or.inl ⟨by rfl, fun W hSW => by go_simp⟩) hHeld ?_
                simp only [Act.put, List.setIfInBounds_toArray, List.set_cons_zero, List.set_cons_succ]
                refine wpAnyH_take (i := 10) (oi := ⟨some 38, _, _, _, _, _⟩) (v := .bool false) rfl (by kernel_rfl) (by kernel_rfl) (by kernel_rfl) (fun _ _ _ h => h) (Or.inl ⟨by rfl, fun W hSW => by go_simp⟩) hHeld ?_
                simp only [Act.put, List.setIfInBounds_toArray, List.set_cons_zero, List.set_cons_succ]
                refine wpAnyH_done (by kernel_rfl) ?_ _
                refine NoPanic.normal ?_
                refine HeldP.then_named (S := fun W => Below Y0.heap.size Y0 W) hHeld ?_
                rintro Y1 hy1
                have HYY := Lib.hid (below_t HY0.out hy1)
                have HRY := Lib.hid (HR.out.below HYY.out)
                have HZY := Lib.hid (HZR.out.below HYY.out)
                have HGY := Lib.hid (HGR.out.below HYY.out)
                have HBY := Lib.hid (below_t HBR.out HYY.out)
                have HUY := Lib.hid (HU9.out.below hy1)
                have q0 := HUY.out.cell (i := 0) rfl
                have q1 := HUY.out.cell (i := 1) rfl
                have f0 := HGY.out.frozen (2 + j * 2)
                have f1 := HGY.out.frozen (2 + j * 2 + 1)
                have g0 := HGY.out.cell (g_sk (gv n j) (d := j) (by omega))
                have g1 := HGY.out.cell (g_sl (gv n j) (d := j) (by omega))
                clear hHeld hy1 lp
                go_wp2_with fail
                go_roundw
                case rel =>
                  refine ⟨j + 1, by first | rfl | rw [HWR.out] | (congr 1; omega), by omega, HRY.out, HZY.out, ?_, HBY.out, ?_⟩
                  · rw [← gv_no HH.out]
                    exact HGY.out
                  · have h1 := HSZ.out
                    have h2 := HYY.out.size
                    omega
                case measure =>
                  simp only [intOf]
                  omega
    · have hje : j = 4 := by omega
      have hjI : ¬ (j : Int) < 4 := by omega
      subst hje
      clear hr hzr hgr hbr hsz
      go_wp2_with ((with_reducible refine at_slot 44 ?_); refine Classical.byContradiction (fun hG => ?_))
      refine hG ?_
      clear hG
      refine wp_loadN rfl (.tmp 3) rfl rfl (n := gv n 4) HGR.out ?_
      go_wp2_with ((with_reducible refine at_storeN ?_); refine Classical.byContradiction (fun hG => ?_))
      refine hG ?_
      clear hG
      refine wp_storeN rfl (.tmp 2) (.tmp 44) rfl rfl rfl HZR.out rfl ?_
      intro w5 h5 hg5 hz5
      have hB5 : Below w.heap.size w w5 := HBR.out.grown hg5 (by have := HBR.out.size; omega) (fun k hk => by injection hk with hk; have := HS.out; omega)
      have HB5 := Lib.hid hB5
      have H5 := Lib.hid h5
      clear hB5 hg5 hz5 h5
      go_wp2_with fail
      refine bodyPost_ret (v := nv (gv n 4)) (results_N Tryd.results68 rfl H5.out) rfl ?_
      exact ⟨rfl, HB5.out⟩
end FlowW
end Go.Proofs.YtlahkmkipciiiaaDoor
