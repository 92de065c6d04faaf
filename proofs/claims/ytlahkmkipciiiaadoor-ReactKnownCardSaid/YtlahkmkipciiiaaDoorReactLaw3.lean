/-
  ReactKnown: the chapter's examples hold.
-/
import Derived.Test.YtlahkmkipciiiaaDoorReactOver
namespace Go.Proofs.YtlahkmkipciiiaaDoor
open Go.RowKit
set_option linter.unusedVariables false
set_option linter.unusedSimpArgs false
namespace ReactW
open BlkP RowG FrS PushG CellsW NearW BurnP BurnW ReactP DeedW
def wN : Nr := {ovr 14 0 with sd := upd (ovr 14 0).sd 0 (6, 0)}
def fN : Nr := {ovr 14 0 with s := (14, 1)}
theorem known1 : (⟨fallD (ovr 4 0), 0, 0⟩ : Dd) = ndeed (ovr 4 0) 0 := by rfl
theorem known2 : (⟨FlowP.deed (toF (ovr 13 2)), 0, 0⟩ : Dd) = ndeed (ovr 13 2) 0 := by rfl
theorem known3 : fire (ovr 14 0) 0 = ndeed (ovr 14 0) 0 := by rfl
theorem known4 : plant (ovr 12 2) 0 = ndeed (ovr 12 2) 0 := by rfl
theorem len2 : (ndeed (ovr 13 2) 0).l.length = 4 := by rfl
theorem len5 : (ndeed (ovr 2 0) 0).l.length = 0 := by rfl
theorem dlw_eq : (ndeed wN 0).dl = -1 := by rfl
theorem dlf_eq : (ndeed fN 0).dl = 1 := by rfl
theorem dl7 : delta (ovr 2 0) [(7, (2, 0))] = 0 := by decide
theorem fallN_d {w : World} {n : Nr} {D : Dd} (hT : KindW.Tab w) (h : (⟨fallD n, 0, 0⟩ : Dd) = D) : Calls Tryd.prog 20 #[nv n] w (DeedQ w D) := h ▸ fallN_q hT
theorem flowN_d {w : World} {n : Nr} {D : Dd} (hT : KindW.Tab w) (h : (⟨FlowP.deed (toF n), 0, 0⟩ : Dd) = D) : Calls Tryd.prog 21 #[nv n] w (DeedQ w D) := h ▸ flowN_q hT
theorem fireN_d {w : World} {n : Nr} {d : Nat} {D : Dd} (hT : KindW.Tab w) (hd : n.dr = (d : Int)) (hd2 : d ≤ 18446744073709551615) (h : fire n d = D) : Calls Tryd.prog 22 #[nv n] w (DeedQ w D) := h ▸ Fire_c hT hd hd2
theorem plantN_d {w : World} {n : Nr} {d : Nat} {D : Dd} (hT : KindW.Tab w) (hd : n.dr = (d : Int)) (hd2 : d ≤ 18446744073709551615) (h : plant n d = D) : Calls Tryd.prog 23 #[nv n] w (DeedQ w D) := h ▸ Plant_c hT hd hd2
set_option maxRecDepth 100000 in
set_option maxHeartbeats 32000000 in
theorem law_known {w : World} (hT : KindW.Tab w) : Calls Tryd.prog 5 #[] w fun e w' => e = .returned (.bool true) ∧ Below w.heap.size w w' := by
  have HT := Lib.hid hT
  clear hT
  obtain ⟨⟨L1, ag1, dl1⟩, hD1⟩ : ∃ D, ndeed (ovr 4 0) 0 = D := ⟨_, rfl⟩
  have HD1 := Lib.hid hD1
  obtain ⟨k1, hk1⟩ : ∃ k, L1.length = k := ⟨_, rfl⟩
  have HK1 := Lib.hid hk1
  have HB1' := Lib.hid (show k1 ≤ 140737488355328 from by have := (deed_fine (ovr 4 0) 0).1; rw [hD1] at this; simp only at this; omega)
  clear hk1
  have HE1 := Lib.hid (show _ = (⟨L1, ag1, dl1⟩ : Dd) from known1.trans hD1)
  clear hD1
  obtain ⟨⟨L2, ag2, dl2⟩, hD2⟩ : ∃ D, ndeed (ovr 13 2) 0 = D := ⟨_, rfl⟩
  have HD2 := Lib.hid hD2
  have HK2 := Lib.hid (show L2.length = 4 from by have := len2; rw [hD2] at this; exact this)
  have HE2 := Lib.hid (show _ = (⟨L2, ag2, dl2⟩ : Dd) from known2.trans hD2)
  clear hD2
  obtain ⟨⟨L3, ag3, dl3⟩, hD3⟩ : ∃ D, ndeed (ovr 14 0) 0 = D := ⟨_, rfl⟩
  have HD3 := Lib.hid hD3
  obtain ⟨k3, hk3⟩ : ∃ k, L3.length = k := ⟨_, rfl⟩
  have HK3 := Lib.hid hk3
  have HB3' := Lib.hid (show k3 ≤ 140737488355328 from by have := (deed_fine (ovr 14 0) 0).1; rw [hD3] at this; simp only at this; omega)
  clear hk3
  have HE3 := Lib.hid (show _ = (⟨L3, ag3, dl3⟩ : Dd) from known3.trans hD3)
  clear hD3
  obtain ⟨⟨L4, ag4, dl4⟩, hD4⟩ : ∃ D, ndeed (ovr 12 2) 0 = D := ⟨_, rfl⟩
  have HD4 := Lib.hid hD4
  obtain ⟨k4, hk4⟩ : ∃ k, L4.length = k := ⟨_, rfl⟩
  have HK4 := Lib.hid hk4
  have HB4' := Lib.hid (show k4 ≤ 140737488355328 from by have := (deed_fine (ovr 12 2) 0).1; rw [hD4] at this; simp only at this; omega)
  clear hk4
  have HE4 := Lib.hid (show _ = (⟨L4, ag4, dl4⟩ : Dd) from known4.trans hD4)
  clear hD4
  obtain ⟨⟨L5, ag5, dl5⟩, hD5⟩ : ∃ D, ndeed (ovr 2 0) 0 = D := ⟨_, rfl⟩
  have HD5 := Lib.hid hD5
  have HK5 := Lib.hid (show L5.length = 0 from by have := len5; rw [hD5] at this; exact this)
  clear hD5
  obtain ⟨⟨Lw, agw, dlw⟩, hDw⟩ : ∃ D, ndeed wN 0 = D := ⟨_, rfl⟩
  have HDw := Lib.hid hDw
  obtain ⟨kw, hkw⟩ : ∃ k, Lw.length = k := ⟨_, rfl⟩
  have HKw := Lib.hid hkw
  have HBw' := Lib.hid (show kw ≤ 140737488355328 from by have := (deed_fine wN 0).1; rw [hDw] at this; simp only at this; omega)
  have HCw := Lib.hid (show delta wN (zl Lw) = -1 from by have := deed_counts wN 0; rw [hDw] at this; rw [this]; have := dlw_eq; rw [hDw] at this; exact this)
  clear hkw hDw
  obtain ⟨⟨Lf, agf, dlf⟩, hDf⟩ : ∃ D, ndeed fN 0 = D := ⟨_, rfl⟩
  have HDf := Lib.hid hDf
  obtain ⟨kf, hkf⟩ : ∃ k, Lf.length = k := ⟨_, rfl⟩
  have HKf := Lib.hid hkf
  have HBf' := Lib.hid (show kf ≤ 140737488355328 from by have := (deed_fine fN 0).1; rw [hDf] at this; simp only at this; omega)
  have HCf := Lib.hid (show delta fN (zl Lf) = 1 from by have := deed_counts fN 0; rw [hDf] at this; rw [this]; have := dlf_eq; rw [hDf] at this; exact this)
  clear hkf hDf
  go_enter Tryd.func5, Tryd.ntmps5
  go_wp2_with fail
  refine (awake15_c (HT.out.below (Below.refl _ _))).mono ?_
  rintro e w1 ⟨rfl, hb⟩
  have HB1 := Lib.hid hb
  clear hb
  go_wp2_with fail
  refine (Delay_c (k := 4) (d := 1) (by omega) (by decide)).mono ?_
  rintro e w2 ⟨rfl, hb⟩
  have HB2 := Lib.hid (below_t HB1.out hb)
  clear hb
  go_wp2_with fail
  refine (Delay_c (k := 8) (d := 1) (by omega) (by decide)).mono ?_
  rintro e w3 ⟨rfl, hb⟩
  have HB3 := Lib.hid (below_t HB2.out hb)
  clear hb
  go_wp2_with fail
  refine (Delay_c (k := 14) (d := 3) (by omega) (by decide)).mono ?_
  rintro e w4 ⟨rfl, hb⟩
  have HB4 := Lib.hid (below_t HB3.out hb)
  clear hb
  go_wp2_with fail
  refine (Delay_c (k := 12) (d := 5) (by omega) (by decide)).mono ?_
  rintro e w5 ⟨rfl, hb⟩
  have HB5 := Lib.hid (below_t HB4.out hb)
  clear hb
  go_wp2_with fail
  refine (Delay_c (k := 2) (d := 0) (by omega) (by decide)).mono ?_
  rintro e w6 ⟨rfl, hb⟩
  have HB6 := Lib.hid (below_t HB5.out hb)
  clear hb
  go_wp2_with fail
  refine (Delay_c (k := 200) (d := 0) (by omega) (by decide)).mono ?_
  rintro e w7 ⟨rfl, hb⟩
  have HB7 := Lib.hid (below_t HB6.out hb)
  clear hb
  go_wp2_with fail
  refine (over15_c (k := 4) (b := 0)).mono ?_
  rintro e w8 ⟨rfl, hb⟩
  have HB8 := Lib.hid (below_t HB7.out hb)
  clear hb
  go_wp2_with fail
  refine (over15_c (k := 13) (b := 2)).mono ?_
  rintro e w9 ⟨rfl, hb⟩
  have HB9 := Lib.hid (below_t HB8.out hb)
  clear hb
  go_wp2_with fail
  refine (over15_c (k := 14) (b := 0)).mono ?_
  rintro e w10 ⟨rfl, hb⟩
  have HB10 := Lib.hid (below_t HB9.out hb)
  clear hb
  go_wp2_with fail
  refine (over15_c (k := 12) (b := 2)).mono ?_
  rintro e w11 ⟨rfl, hb⟩
  have HB11 := Lib.hid (below_t HB10.out hb)
  clear hb
  go_wp2_with fail
  refine (over15_c (k := 2) (b := 0)).mono ?_
  rintro e w12 ⟨rfl, hb⟩
  have HB12 := Lib.hid (below_t HB11.out hb)
  clear hb
  obtain ⟨x, hx⟩ : ∃ x, w12.heap.size = x := ⟨_, rfl⟩
  have hzx := HB12.out.size
  rw [hx] at hzx
  go_wp2_with ((with_reducible refine at_storeN ?_); refine Classical.byContradiction (fun hG => ?_))
  refine hG ?_
  clear hG
  refine list_named (S := fun W => Below w.heap.size w W ∧ Blk W x TN (vals nz) ∧ Blk W (x + 1) TN (vals nz) ∧ Blk W (x + 2) TN (vals nz) ∧ Blk W (x + 3) TN (vals nz) ∧ Blk W (x + 4) TN (vals nz) ∧ x + 4 < W.heap.size) ⟨by (repeat' (first | (with_reducible exact Below.refl _ _) | (with_reducible refine Below.setCell ?_ (by (first | omega | (simp; done) | (simp; omega))) _) | (with_reducible refine Below.alloc ?_ (by (first | omega | (simp; done) | (simp; omega))) _) | (with_reducible refine Below.drew ?_) | (with_reducible refine below_drewN ?_ _) | (with_reducible refine Below.trans ?_ (Below.mono HB12.out (by (first | omega | (simp; done) | (simp; omega))))))), by subst hx; (repeat' (first | (with_reducible refine BlkP.Blk.drew ?_) | (with_reducible refine BlkP.Blk.drewN ?_ _) | (with_reducible refine BlkP.Blk.setAt (us := ?_) (by first | omega | (simp; done) | (simp; omega)) rfl ?_ ?_) | (with_reducible refine BlkP.Blk.otherAt ?_ (by first | omega | (simp; done) | (simp; omega))) | (with_reducible refine BlkP.Blk.newA' (by first | omega | (simp; done) | (simp; omega)) rfl) | (with_reducible refine BlkP.Blk.alloc ?_ _) | (exact rfl))), by subst hx; (repeat' (first | (with_reducible refine BlkP.Blk.drew ?_) | (with_reducible refine BlkP.Blk.drewN ?_ _) | (with_reducible refine BlkP.Blk.setAt (us := ?_) (by first | omega | (simp; done) | (simp; omega)) rfl ?_ ?_) | (with_reducible refine BlkP.Blk.otherAt ?_ (by first | omega | (simp; done) | (simp; omega))) | (with_reducible refine BlkP.Blk.newA' (by first | omega | (simp; done) | (simp; omega)) rfl) | (with_reducible refine BlkP.Blk.alloc ?_ _) | (exact rfl))), by subst hx; (repeat' (first | (with_reducible refine BlkP.Blk.drew ?_) | (with_reducible refine BlkP.Blk.drewN ?_ _) | (with_reducible refine BlkP.Blk.setAt (us := ?_) (by first | omega | (simp; done) | (simp; omega)) rfl ?_ ?_) | (with_reducible refine BlkP.Blk.otherAt ?_ (by first | omega | (simp; done) | (simp; omega))) | (with_reducible refine BlkP.Blk.newA' (by first | omega | (simp; done) | (simp; omega)) rfl) | (with_reducible refine BlkP.Blk.alloc ?_ _) | (exact rfl))), by subst hx; (repeat' (first | (with_reducible refine BlkP.Blk.drew ?_) | (with_reducible refine BlkP.Blk.drewN ?_ _) | (with_reducible refine BlkP.Blk.setAt (us := ?_) (by first | omega | (simp; done) | (simp; omega)) rfl ?_ ?_) | (with_reducible refine BlkP.Blk.otherAt ?_ (by first | omega | (simp; done) | (simp; omega))) | (with_reducible refine BlkP.Blk.newA' (by first | omega | (simp; done) | (simp; omega)) rfl) | (with_reducible refine BlkP.Blk.alloc ?_ _) | (exact rfl))), by subst hx; (repeat' (first | (with_reducible refine BlkP.Blk.drew ?_) | (with_reducible refine BlkP.Blk.drewN ?_ _) | (with_reducible refine BlkP.Blk.setAt (us := ?_) (by first | omega | (simp; done) | (simp; omega)) rfl ?_ ?_) | (with_reducible refine BlkP.Blk.otherAt ?_ (by first | omega | (simp; done) | (simp; omega))) | (with_reducible refine BlkP.Blk.newA' (by first | omega | (simp; done) | (simp; omega)) rfl) | (with_reducible refine BlkP.Blk.alloc ?_ _) | (exact rfl))), by simp; omega⟩ ?_
  rintro v0 ⟨hb, h1, h2, h3, h4, h5, hz⟩
  try rw [hx]
  have HV0 := Lib.hid hb
  have B1_0 := Lib.hid h1
  have B2_0 := Lib.hid h2
  have B3_0 := Lib.hid h3
  have B4_0 := Lib.hid h4
  have B5_0 := Lib.hid h5
  have HXZ := Lib.hid (show w.heap.size ≤ x from hzx)
  clear hb h1 h2 h3 h4 h5 hz hx hzx
  refine wp_storeN rfl (.tmp 1) (.tmp 33) rfl rfl (n := ovr 4 0) rfl B1_0.out rfl ?_
  intro v1 h hg hz
  have HV1 := Lib.hid (show Below w.heap.size w v1 from HV0.out.grown hg HV0.out.size (fun q hq => by injection hq with hq; have := HXZ.out; omega))
  have B1_1 := Lib.hid h
  have B2_1 := Lib.hid (B2_0.out.grown hg (fun q => by injection q with q; omega))
  have B3_1 := Lib.hid (B3_0.out.grown hg (fun q => by injection q with q; omega))
  have B4_1 := Lib.hid (B4_0.out.grown hg (fun q => by injection q with q; omega))
  have B5_1 := Lib.hid (B5_0.out.grown hg (fun q => by injection q with q; omega))
  clear hg hz h B1_0 B2_0 B3_0 B4_0 B5_0
  go_wp2_with ((with_reducible refine at_storeN ?_); refine Classical.byContradiction (fun hG => ?_))
  refine hG ?_
  clear hG
  refine wp_storeN rfl (.tmp 2) (.tmp 34) rfl rfl (n := ovr 13 2) rfl B2_1.out rfl ?_
  intro v2 h hg hz
  have HV2 := Lib.hid (show Below w.heap.size w v2 from HV1.out.grown hg HV1.out.size (fun q hq => by injection hq with hq; have := HXZ.out; omega))
  have B2_2 := Lib.hid h
  have B1_2 := Lib.hid (B1_1.out.grown hg (fun q => by injection q with q; omega))
  have B3_2 := Lib.hid (B3_1.out.grown hg (fun q => by injection q with q; omega))
  have B4_2 := Lib.hid (B4_1.out.grown hg (fun q => by injection q with q; omega))
  have B5_2 := Lib.hid (B5_1.out.grown hg (fun q => by injection q with q; omega))
  clear hg hz h B1_1 B2_1 B3_1 B4_1 B5_1
  go_wp2_with ((with_reducible refine at_storeN ?_); refine Classical.byContradiction (fun hG => ?_))
  refine hG ?_
  clear hG
  refine wp_storeN rfl (.tmp 3) (.tmp 35) rfl rfl (n := ovr 14 0) rfl B3_2.out rfl ?_
  intro v3 h hg hz
  have HV3 := Lib.hid (show Below w.heap.size w v3 from HV2.out.grown hg HV2.out.size (fun q hq => by injection hq with hq; have := HXZ.out; omega))
  have B3_3 := Lib.hid h
  have B1_3 := Lib.hid (B1_2.out.grown hg (fun q => by injection q with q; omega))
  have B2_3 := Lib.hid (B2_2.out.grown hg (fun q => by injection q with q; omega))
  have B4_3 := Lib.hid (B4_2.out.grown hg (fun q => by injection q with q; omega))
  have B5_3 := Lib.hid (B5_2.out.grown hg (fun q => by injection q with q; omega))
  clear hg hz h B1_2 B2_2 B3_2 B4_2 B5_2
  go_wp2_with ((with_reducible refine at_storeN ?_); refine Classical.byContradiction (fun hG => ?_))
  refine hG ?_
  clear hG
  refine wp_storeN rfl (.tmp 4) (.tmp 36) rfl rfl (n := ovr 12 2) rfl B4_3.out rfl ?_
  intro v4 h hg hz
  have HV4 := Lib.hid (show Below w.heap.size w v4 from HV3.out.grown hg HV3.out.size (fun q hq => by injection hq with hq; have := HXZ.out; omega))
  have B4_4 := Lib.hid h
  have B1_4 := Lib.hid (B1_3.out.grown hg (fun q => by injection q with q; omega))
  have B2_4 := Lib.hid (B2_3.out.grown hg (fun q => by injection q with q; omega))
  have B3_4 := Lib.hid (B3_3.out.grown hg (fun q => by injection q with q; omega))
  have B5_4 := Lib.hid (B5_3.out.grown hg (fun q => by injection q with q; omega))
  clear hg hz h B1_3 B2_3 B3_3 B4_3 B5_3
  go_wp2_with ((with_reducible refine at_storeN ?_); refine Classical.byContradiction (fun hG => ?_))
  refine hG ?_
  clear hG
  refine wp_storeN rfl (.tmp 5) (.tmp 37) rfl rfl (n := ovr 2 0) rfl B5_4.out rfl ?_
  intro v5 h hg hz
  have HV5 := Lib.hid (show Below w.heap.size w v5 from HV4.out.grown hg HV4.out.size (fun q hq => by injection hq with hq; have := HXZ.out; omega))
  have B5_5 := Lib.hid h
  have B1_5 := Lib.hid (B1_4.out.grown hg (fun q => by injection q with q; omega))
  have B2_5 := Lib.hid (B2_4.out.grown hg (fun q => by injection q with q; omega))
  have B3_5 := Lib.hid (B3_4.out.grown hg (fun q => by injection q with q; omega))
  have B4_5 := Lib.hid (B4_4.out.grown hg (fun q => by injection q with q; omega))
  clear hg hz h B1_4 B2_4 B3_4 B4_4 B5_4
  go_wp2_with fail
  refine wp_region_noPanic ?_
  refine wp_region_held_drew (S := fun W => Below v5.heap.size v5 W) (by kernel_rfl) ((Below.refl _ v5).drew) (fun hHeld => ?_)
  refine wpAnyH_take (i := 0) (oi := ⟨some 38, _, _, _, _, _⟩) (v := nv (ovr 4 0)) rfl (by kernel_rfl) (by kernel_rfl) (by kernel_rfl) (fun _ _ _ h => h) (Or.inl ⟨by rfl, fun W hSW => yieldN rfl rfl (B1_5.out.below hSW)⟩) hHeld ?_
  simp only [Act.put, List.setIfInBounds_toArray, List.set_cons_zero, List.set_cons_succ]
  refine wpAnyH_take (i := 2) (oi := ⟨some 40, _, _, _, _, _⟩) (v := nv (ovr 4 0)) rfl (by kernel_rfl) (by kernel_rfl) (by kernel_rfl) (fun _ _ _ h => h) (Or.inl ⟨by rfl, fun W hSW => yieldN rfl rfl (B1_5.out.below hSW)⟩) hHeld ?_
  simp only [Act.put, List.setIfInBounds_toArray, List.set_cons_zero, List.set_cons_succ]
  refine wpAnyH_ready (rs := [1]) (by kernel_rfl) (by simp) ?_
  refine AllReadyH.cons (o := ⟨some 39, _, _, _, _, _⟩) rfl (fun K hK => ?_) AllReadyH.nil
  go_simp
  refine (Next_q (d := 0) (HT.out.below (below_t HV5.out hHeld)) (by decide) rfl (by omega) HD1.out).mono ?_
  rintro e w20 ⟨v, rfl, ho, hb20⟩
  obtain ⟨Ap1, cp1, rfl, _, _, _⟩ := ho.form (n := k1) HK1.out
  have HOp1 := Lib.hid (rd_z ho.rd)
  clear ho
  go_wp2_with fail
  refine hK.out _ _ (below_t hHeld hb20) (fun hHeld => ?_)
  clear hK K hb20
  refine wpAnyH_ready (rs := [3]) (by kernel_rfl) (by simp) ?_
  refine AllReadyH.cons (o := ⟨some 41, _, _, _, _, _⟩) rfl (fun K hK => ?_) AllReadyH.nil
  go_simp
  refine (fallN_d (HT.out.below (below_t HV5.out hHeld)) HE1.out).mono ?_
  rintro e w21 ⟨v, rfl, ho, hb21⟩
  obtain ⟨Aq1, cq1, rfl, _, _, _⟩ := ho.form (n := k1) HK1.out
  have HOq1 := Lib.hid (rd_z ho.rd)
  have HOp1 := Lib.hid (HOp1.out.below hb21)
  clear ho
  go_wp2_with fail
  refine hK.out _ _ (below_t hHeld hb21) (fun hHeld => ?_)
  clear hK K hb21
  refine wpAnyH_ready (rs := [4]) (by kernel_rfl) (by simp) ?_
  refine AllReadyH.cons (o := ⟨some 42, _, _, _, _, _⟩) rfl (fun K hK => ?_) AllReadyH.nil
  go_simp
  refine (lsameZ_c HOp1.out HOq1.out (by rw [zl_len]; exact HK1.out) HB1'.out).mono ?_
  rintro e w22 ⟨rfl, hb22⟩
  go_wp2_with fail
  refine hK.out _ _ (below_t hHeld hb22) (fun hHeld => ?_)
  clear hK K hb22
  refine wpAnyH_take (i := 5) (oi := ⟨some 43, _, _, _, _, _⟩) (v := .bool false) rfl (by kernel_rfl) (by kernel_rfl) (by kernel_rfl) (fun _ _ _ h => h) (Or.inl ⟨by rfl, fun W hSW => by go_simp⟩) hHeld ?_
  simp only [Act.put, List.setIfInBounds_toArray, List.set_cons_zero, List.set_cons_succ]
  refine wpAnyH_take (i := 6) (oi := ⟨some 44, _, _, _, _, _⟩) (v := .bool false) rfl (by kernel_rfl) (by kernel_rfl) (by kernel_rfl) (fun _ _ _ h => h) (Or.inl ⟨by rfl, fun W hSW => by go_simp⟩) hHeld ?_
  simp only [Act.put, List.setIfInBounds_toArray, List.set_cons_zero, List.set_cons_succ]
  refine wpAnyH_take (i := 7) (oi := ⟨some 45, _, _, _, _, _⟩) (v := nv (ovr 13 2)) rfl (by kernel_rfl) (by kernel_rfl) (by kernel_rfl) (fun _ _ _ h => h) (Or.inl ⟨by rfl, fun W hSW => yieldN rfl rfl (B2_5.out.below hSW)⟩) hHeld ?_
  simp only [Act.put, List.setIfInBounds_toArray, List.set_cons_zero, List.set_cons_succ]
  refine wpAnyH_take (i := 9) (oi := ⟨some 47, _, _, _, _, _⟩) (v := nv (ovr 13 2)) rfl (by kernel_rfl) (by kernel_rfl) (by kernel_rfl) (fun _ _ _ h => h) (Or.inl ⟨by rfl, fun W hSW => yieldN rfl rfl (B2_5.out.below hSW)⟩) hHeld ?_
  simp only [Act.put, List.setIfInBounds_toArray, List.set_cons_zero, List.set_cons_succ]
  refine wpAnyH_ready (rs := [8]) (by kernel_rfl) (by simp) ?_
  refine AllReadyH.cons (o := ⟨some 46, _, _, _, _, _⟩) rfl (fun K hK => ?_) AllReadyH.nil
  go_simp
  refine (Next_q (d := 0) (HT.out.below (below_t HV5.out hHeld)) (by decide) rfl (by omega) HD2.out).mono ?_
  rintro e w23 ⟨v, rfl, ho, hb23⟩
  obtain ⟨Ap2, cp2, rfl, _, _, _⟩ := ho.form (n := 4) HK2.out
  have HOp2 := Lib.hid (rd_z ho.rd)
  clear ho
  go_wp2_with fail
  refine hK.out _ _ (below_t hHeld hb23) (fun hHeld => ?_)
  clear hK K hb23
  refine wpAnyH_ready (rs := [10]) (by kernel_rfl) (by simp) ?_
  refine AllReadyH.cons (o := ⟨some 48, _, _, _, _, _⟩) rfl (fun K hK => ?_) AllReadyH.nil
  go_simp
  refine (flowN_d (HT.out.below (below_t HV5.out hHeld)) HE2.out).mono ?_
  rintro e w24 ⟨v, rfl, ho, hb24⟩
  obtain ⟨Aq2, cq2, rfl, _, _, _⟩ := ho.form (n := 4) HK2.out
  have HOq2 := Lib.hid (rd_z ho.rd)
  have HOp2 := Lib.hid (HOp2.out.below hb24)
  clear ho
  go_wp2_with fail
  refine hK.out _ _ (below_t hHeld hb24) (fun hHeld => ?_)
  clear hK K hb24
  refine wpAnyH_ready (rs := [11]) (by kernel_rfl) (by simp) ?_
  refine AllReadyH.cons (o := ⟨some 49, _, _, _, _, _⟩) rfl (fun K hK => ?_) AllReadyH.nil
  go_simp
  refine (lsameZ_c HOp2.out HOq2.out (by rw [zl_len]; exact HK2.out) (by omega)).mono ?_
  rintro e w25 ⟨rfl, hb25⟩
  go_wp2_with fail
  refine hK.out _ _ (below_t hHeld hb25) (fun hHeld => ?_)
  clear hK K hb25
  refine wpAnyH_take (i := 12) (oi := ⟨some 50, _, _, _, _, _⟩) (v := .bool false) rfl (by kernel_rfl) (by kernel_rfl) (by kernel_rfl) (fun _ _ _ h => h) (Or.inl ⟨by rfl, fun W hSW => by go_simp⟩) hHeld ?_
  simp only [Act.put, List.setIfInBounds_toArray, List.set_cons_zero, List.set_cons_succ]
  refine wpAnyH_take (i := 13) (oi := ⟨some 51, _, _, _, _, _⟩) (v := .bool false) rfl (by kernel_rfl) (by kernel_rfl) (by kernel_rfl) (fun _ _ _ h => h) (Or.inl ⟨by rfl, fun W hSW => by go_simp⟩) hHeld ?_
  simp only [Act.put, List.setIfInBounds_toArray, List.set_cons_zero, List.set_cons_succ]
  refine wpAnyH_take (i := 14) (oi := ⟨some 52, _, _, _, _, _⟩) (v := .bool false) rfl (by kernel_rfl) (by kernel_rfl) (by kernel_rfl) (fun _ _ _ h => h) (Or.inl ⟨by rfl, fun W hSW => by go_simp⟩) hHeld ?_
  simp only [Act.put, List.setIfInBounds_toArray, List.set_cons_zero, List.set_cons_succ]
  refine wpAnyH_take (i := 15) (oi := ⟨some 53, _, _, _, _, _⟩) (v := nv (ovr 14 0)) rfl (by kernel_rfl) (by kernel_rfl) (by kernel_rfl) (fun _ _ _ h => h) (Or.inl ⟨by rfl, fun W hSW => yieldN rfl rfl (B3_5.out.below hSW)⟩) hHeld ?_
  simp only [Act.put, List.setIfInBounds_toArray, List.set_cons_zero, List.set_cons_succ]
  refine wpAnyH_take (i := 17) (oi := ⟨some 55, _, _, _, _, _⟩) (v := nv (ovr 14 0)) rfl (by kernel_rfl) (by kernel_rfl) (by kernel_rfl) (fun _ _ _ h => h) (Or.inl ⟨by rfl, fun W hSW => yieldN rfl rfl (B3_5.out.below hSW)⟩) hHeld ?_
  simp only [Act.put, List.setIfInBounds_toArray, List.set_cons_zero, List.set_cons_succ]
  refine wpAnyH_ready (rs := [16]) (by kernel_rfl) (by simp) ?_
  refine AllReadyH.cons (o := ⟨some 54, _, _, _, _, _⟩) rfl (fun K hK => ?_) AllReadyH.nil
  go_simp
  refine (Next_q (d := 0) (HT.out.below (below_t HV5.out hHeld)) (by decide) rfl (by omega) HD3.out).mono ?_
  rintro e w26 ⟨v, rfl, ho, hb26⟩
  obtain ⟨Ap3, cp3, rfl, _, _, _⟩ := ho.form (n := k3) HK3.out
  have HOp3 := Lib.hid (rd_z ho.rd)
  clear ho
  go_wp2_with fail
  refine hK.out _ _ (below_t hHeld hb26) (fun hHeld => ?_)
  clear hK K hb26
  refine wpAnyH_ready (rs := [18]) (by kernel_rfl) (by simp) ?_
  refine AllReadyH.cons (o := ⟨some 56, _, _, _, _, _⟩) rfl (fun K hK => ?_) AllReadyH.nil
  go_simp
  refine (fireN_d (d := 0) (HT.out.below (below_t HV5.out hHeld)) rfl (by omega) HE3.out).mono ?_
  rintro e w27 ⟨v, rfl, ho, hb27⟩
  obtain ⟨Aq3, cq3, rfl, _, _, _⟩ := ho.form (n := k3) HK3.out
  have HOq3 := Lib.hid (rd_z ho.rd)
  have HOp3 := Lib.hid (HOp3.out.below hb27)
  clear ho
  go_wp2_with fail
  refine hK.out _ _ (below_t hHeld hb27) (fun hHeld => ?_)
  clear hK K hb27
  refine wpAnyH_ready (rs := [19]) (by kernel_rfl) (by simp) ?_
  refine AllReadyH.cons (o := ⟨some 57, _, _, _, _, _⟩) rfl (fun K hK => ?_) AllReadyH.nil
  go_simp
  refine (lsameZ_c HOp3.out HOq3.out (by rw [zl_len]; exact HK3.out) HB3'.out).mono ?_
  rintro e w28 ⟨rfl, hb28⟩
  go_wp2_with fail
  refine hK.out _ _ (below_t hHeld hb28) (fun hHeld => ?_)
  clear hK K hb28
  refine wpAnyH_take (i := 20) (oi := ⟨some 58, _, _, _, _, _⟩) (v := .bool false) rfl (by kernel_rfl) (by kernel_rfl) (by kernel_rfl) (fun _ _ _ h => h) (Or.inl ⟨by rfl, fun W hSW => by go_simp⟩) hHeld ?_
  simp only [Act.put, List.setIfInBounds_toArray, List.set_cons_zero, List.set_cons_succ]
  refine wpAnyH_take (i := 21) (oi := ⟨some 59, _, _, _, _, _⟩) (v := .bool false) rfl (by kernel_rfl) (by kernel_rfl) (by kernel_rfl) (fun _ _ _ h => h) (Or.inl ⟨by rfl, fun W hSW => by go_simp⟩) hHeld ?_
  simp only [Act.put, List.setIfInBounds_toArray, List.set_cons_zero, List.set_cons_succ]
  refine wpAnyH_take (i := 22) (oi := ⟨some 60, _, _, _, _, _⟩) (v := .bool false) rfl (by kernel_rfl) (by kernel_rfl) (by kernel_rfl) (fun _ _ _ h => h) (Or.inl ⟨by rfl, fun W hSW => by go_simp⟩) hHeld ?_
  simp only [Act.put, List.setIfInBounds_toArray, List.set_cons_zero, List.set_cons_succ]
  refine wpAnyH_take (i := 23) (oi := ⟨some 61, _, _, _, _, _⟩) (v := nv (ovr 12 2)) rfl (by kernel_rfl) (by kernel_rfl) (by kernel_rfl) (fun _ _ _ h => h) (Or.inl ⟨by rfl, fun W hSW => yieldN rfl rfl (B4_5.out.below hSW)⟩) hHeld ?_
  simp only [Act.put, List.setIfInBounds_toArray, List.set_cons_zero, List.set_cons_succ]
  refine wpAnyH_take (i := 25) (oi := ⟨some 63, _, _, _, _, _⟩) (v := nv (ovr 12 2)) rfl (by kernel_rfl) (by kernel_rfl) (by kernel_rfl) (fun _ _ _ h => h) (Or.inl ⟨by rfl, fun W hSW => yieldN rfl rfl (B4_5.out.below hSW)⟩) hHeld ?_
  simp only [Act.put, List.setIfInBounds_toArray, List.set_cons_zero, List.set_cons_succ]
  refine wpAnyH_ready (rs := [24]) (by kernel_rfl) (by simp) ?_
  refine AllReadyH.cons (o := ⟨some 62, _, _, _, _, _⟩) rfl (fun K hK => ?_) AllReadyH.nil
  go_simp
  refine (Next_q (d := 0) (HT.out.below (below_t HV5.out hHeld)) (by decide) rfl (by omega) HD4.out).mono ?_
  rintro e w29 ⟨v, rfl, ho, hb29⟩
  obtain ⟨Ap4, cp4, rfl, _, _, _⟩ := ho.form (n := k4) HK4.out
  have HOp4 := Lib.hid (rd_z ho.rd)
  clear ho
  go_wp2_with fail
  refine hK.out _ _ (below_t hHeld hb29) (fun hHeld => ?_)
  clear hK K hb29
  refine wpAnyH_ready (rs := [26]) (by kernel_rfl) (by simp) ?_
  refine AllReadyH.cons (o := ⟨some 64, _, _, _, _, _⟩) rfl (fun K hK => ?_) AllReadyH.nil
  go_simp
  refine (plantN_d (d := 0) (HT.out.below (below_t HV5.out hHeld)) rfl (by omega) HE4.out).mono ?_
  rintro e w30 ⟨v, rfl, ho, hb30⟩
  obtain ⟨Aq4, cq4, rfl, _, _, _⟩ := ho.form (n := k4) HK4.out
  have HOq4 := Lib.hid (rd_z ho.rd)
  have HOp4 := Lib.hid (HOp4.out.below hb30)
  clear ho
  go_wp2_with fail
  refine hK.out _ _ (below_t hHeld hb30) (fun hHeld => ?_)
  clear hK K hb30
  refine wpAnyH_ready (rs := [27]) (by kernel_rfl) (by simp) ?_
  refine AllReadyH.cons (o := ⟨some 65, _, _, _, _, _⟩) rfl (fun K hK => ?_) AllReadyH.nil
  go_simp
  refine (lsameZ_c HOp4.out HOq4.out (by rw [zl_len]; exact HK4.out) HB4'.out).mono ?_
  rintro e w31 ⟨rfl, hb31⟩
  go_wp2_with fail
  refine hK.out _ _ (below_t hHeld hb31) (fun hHeld => ?_)
  clear hK K hb31
  refine wpAnyH_take (i := 28) (oi := ⟨some 66, _, _, _, _, _⟩) (v := .bool false) rfl (by kernel_rfl) (by kernel_rfl) (by kernel_rfl) (fun _ _ _ h => h) (Or.inl ⟨by rfl, fun W hSW => by go_simp⟩) hHeld ?_
  simp only [Act.put, List.setIfInBounds_toArray, List.set_cons_zero, List.set_cons_succ]
  refine wpAnyH_take (i := 29) (oi := ⟨some 67, _, _, _, _, _⟩) (v := .bool false) rfl (by kernel_rfl) (by kernel_rfl) (by kernel_rfl) (fun _ _ _ h => h) (Or.inl ⟨by rfl, fun W hSW => by go_simp⟩) hHeld ?_
  simp only [Act.put, List.setIfInBounds_toArray, List.set_cons_zero, List.set_cons_succ]
  refine wpAnyH_take (i := 30) (oi := ⟨some 68, _, _, _, _, _⟩) (v := .bool false) rfl (by kernel_rfl) (by kernel_rfl) (by kernel_rfl) (fun _ _ _ h => h) (Or.inl ⟨by rfl, fun W hSW => by go_simp⟩) hHeld ?_
  simp only [Act.put, List.setIfInBounds_toArray, List.set_cons_zero, List.set_cons_succ]
  refine wpAnyH_take (i := 31) (oi := ⟨some 69, _, _, _, _, _⟩) (v := nv (ovr 2 0)) rfl (by kernel_rfl) (by kernel_rfl) (by kernel_rfl) (fun _ _ _ h => h) (Or.inl ⟨by rfl, fun W hSW => yieldN rfl rfl (B5_5.out.below hSW)⟩) hHeld ?_
  simp only [Act.put, List.setIfInBounds_toArray, List.set_cons_zero, List.set_cons_succ]
  refine wpAnyH_ready (rs := [32]) (by kernel_rfl) (by simp) ?_
  refine AllReadyH.cons (o := ⟨some 70, _, _, _, _, _⟩) rfl (fun K hK => ?_) AllReadyH.nil
  go_simp
  refine (Next_q (d := 0) (HT.out.below (below_t HV5.out hHeld)) (by decide) rfl (by omega) HD5.out).mono ?_
  rintro e w32 ⟨v, rfl, ho, hb32⟩
  obtain ⟨Ap5, cp5, rfl, _, _, _⟩ := ho.form (n := 0) HK5.out
  have HOp5 := Lib.hid (rd_z ho.rd)
  clear ho
  go_wp2_with fail
  refine hK.out _ _ (below_t hHeld hb32) (fun hHeld => ?_)
  clear hK K hb32
  refine wpAnyH_take (i := 33) (oi := ⟨some 71, _, _, _, _, _⟩) (v := .slice Ap5 0 cp5) rfl (by kernel_rfl) (by kernel_rfl) (by kernel_rfl) (fun _ _ _ h => h) (Or.inl ⟨by rfl, fun W hSW => by have hf := field_dd W Ap5 0 cp5 ag5 dl5; go_simp⟩) hHeld ?_
  simp only [Act.put, List.setIfInBounds_toArray, List.set_cons_zero, List.set_cons_succ]
  refine wpAnyH_take (i := 34) (oi := ⟨some 72, _, _, _, _, _⟩) (v := .int .i64 0) rfl (by kernel_rfl) (by kernel_rfl) (by kernel_rfl) (fun _ _ _ h => h) (Or.inl ⟨by rfl, fun W hSW => by go_simp⟩) hHeld ?_
  simp only [Act.put, List.setIfInBounds_toArray, List.set_cons_zero, List.set_cons_succ]
  refine wpAnyH_take (i := 35) (oi := ⟨some 73, _, _, _, _, _⟩) (v := .bool false) rfl (by kernel_rfl) (by kernel_rfl) (by kernel_rfl) (fun _ _ _ h => h) (Or.inl ⟨by rfl, fun W hSW => by go_simp⟩) hHeld ?_
  simp only [Act.put, List.setIfInBounds_toArray, List.set_cons_zero, List.set_cons_succ]
  refine wpAnyH_take (i := 36) (oi := ⟨some 74, _, _, _, _, _⟩) (v := .bool false) rfl (by kernel_rfl) (by kernel_rfl) (by kernel_rfl) (fun _ _ _ h => h) (Or.inl ⟨by rfl, fun W hSW => by go_simp⟩) hHeld ?_
  simp only [Act.put, List.setIfInBounds_toArray, List.set_cons_zero, List.set_cons_succ]
  refine wpAnyH_take (i := 37) (oi := ⟨some 75, _, _, _, _, _⟩) (v := .bool false) rfl (by kernel_rfl) (by kernel_rfl) (by kernel_rfl) (fun _ _ _ h => h) (Or.inl ⟨by rfl, fun W hSW => by go_simp⟩) hHeld ?_
  simp only [Act.put, List.setIfInBounds_toArray, List.set_cons_zero, List.set_cons_succ]
  refine wpAnyH_take (i := 38) (oi := ⟨some 76, _, _, _, _, _⟩) (v := nv (ovr 13 2)) rfl (by kernel_rfl) (by kernel_rfl) (by kernel_rfl) (fun _ _ _ h => h) (Or.inl ⟨by rfl, fun W hSW => yieldN rfl rfl (B2_5.out.below hSW)⟩) hHeld ?_
  simp only [Act.put, List.setIfInBounds_toArray, List.set_cons_zero, List.set_cons_succ]
  refine wpAnyH_ready (rs := [39]) (by kernel_rfl) (by simp) ?_
  refine AllReadyH.cons (o := ⟨some 77, _, _, _, _, _⟩) rfl (fun K hK => ?_) AllReadyH.nil
  go_simp
  refine (Next_q (d := 0) (HT.out.below (below_t HV5.out hHeld)) (by decide) rfl (by omega) HD2.out).mono ?_
  rintro e w33 ⟨v, rfl, ho, hb33⟩
  obtain ⟨Ap6, cp6, rfl, _, _, _⟩ := ho.form (n := 4) HK2.out
  have HOp6 := Lib.hid (rd_z ho.rd)
  clear ho
  go_wp2_with fail
  refine hK.out _ _ (below_t hHeld hb33) (fun hHeld => ?_)
  clear hK K hb33
  refine wpAnyH_take (i := 40) (oi := ⟨some 78, _, _, _, _, _⟩) (v := .slice Ap6 4 cp6) rfl (by kernel_rfl) (by kernel_rfl) (by kernel_rfl) (fun _ _ _ h => h) (Or.inl ⟨by rfl, fun W hSW => by have hf := field_dd W Ap6 4 cp6 ag2 dl2; go_simp⟩) hHeld ?_
  simp only [Act.put, List.setIfInBounds_toArray, List.set_cons_zero, List.set_cons_succ]
  refine wpAnyH_take (i := 41) (oi := ⟨some 79, _, _, _, _, _⟩) (v := .int .i64 4) rfl (by kernel_rfl) (by kernel_rfl) (by kernel_rfl) (fun _ _ _ h => h) (Or.inl ⟨by rfl, fun W hSW => by go_simp⟩) hHeld ?_
  simp only [Act.put, List.setIfInBounds_toArray, List.set_cons_zero, List.set_cons_succ]
  refine wpAnyH_take (i := 42) (oi := ⟨some 80, _, _, _, _, _⟩) (v := .bool false) rfl (by kernel_rfl) (by kernel_rfl) (by kernel_rfl) (fun _ _ _ h => h) (Or.inl ⟨by rfl, fun W hSW => by go_simp⟩) hHeld ?_
  simp only [Act.put, List.setIfInBounds_toArray, List.set_cons_zero, List.set_cons_succ]
  refine wpAnyH_take (i := 43) (oi := ⟨some 81, _, _, _, _, _⟩) (v := .bool false) rfl (by kernel_rfl) (by kernel_rfl) (by kernel_rfl) (fun _ _ _ h => h) (Or.inl ⟨by rfl, fun W hSW => by go_simp⟩) hHeld ?_
  simp only [Act.put, List.setIfInBounds_toArray, List.set_cons_zero, List.set_cons_succ]
  refine wpAnyH_done (by kernel_rfl) ?_ _
  refine NoPanic.normal ?_
  have HV6 := Lib.hid (below_t HV5.out hHeld)
  have B3_6 := Lib.hid (B3_5.out.below hHeld)
  have B5_6 := Lib.hid (B5_5.out.below hHeld)
  clear hHeld B1_5 B2_5 B3_5 B4_5 B5_5
  have a0 : w33.cell? ⟨x + 2, 2, none⟩ = some (.int .u8 0) := B3_6.out.cell rfl
  have a1 : w33.cell? ⟨x + 2, 3, none⟩ = some (.int .u8 0) := B3_6.out.cell rfl
  have f0 := B3_6.out.frozen 2
  have f1 := B3_6.out.frozen 3
  have l3 := B3_6.out.lt
  go_wp2_with fail
  refine (over15_c (k := 14) (b := 0)).mono ?_
  rintro e u1 ⟨rfl, hb⟩
  have HV7 := Lib.hid (below_t (w0 := w) ((HV6.out.setCell (by have := HXZ.out; simp; omega) _).setCell (by have := HXZ.out; simp; omega) _) hb)
  have B3_7 := Lib.hid (show Blk u1 (x + 2) TN (vals wN) from Blk.below (by rw [show wN = {ovr 14 0 with sd := upd (ovr 14 0).sd 0 (6, 0)} from rfl, ← set_side (ovr 14 0) (d := 0) (by omega) (6, 0)]; exact (B3_6.out.set _ _).set _ _) hb)
  have B5_7 := Lib.hid (show Blk u1 (x + 4) TN (vals (ovr 2 0)) from Blk.below ((B5_6.out.other (by simp; omega) _).other (by simp; omega) _) hb)
  obtain ⟨y, hy⟩ : ∃ y, u1.heap.size = y := ⟨_, rfl⟩
  clear hb a0 a1 f0 f1 l3 B3_6 B5_6
  go_wp2_with ((with_reducible refine at_storeN ?_); refine Classical.byContradiction (fun hG => ?_))
  refine hG ?_
  clear hG
  refine list_named (S := fun W => Below w.heap.size w W ∧ Blk W (x + 2) TN (vals wN) ∧ Blk W (x + 4) TN (vals (ovr 2 0)) ∧ Blk W y TN (vals nz)) ⟨by have := HV7.out.size; (repeat' (first | (with_reducible exact Below.refl _ _) | (with_reducible refine Below.setCell ?_ (by (first | omega | (simp; done) | (simp; omega))) _) | (with_reducible refine Below.alloc ?_ (by (first | omega | (simp; done) | (simp; omega))) _) | (with_reducible refine Below.drew ?_) | (with_reducible refine below_drewN ?_ _) | (with_reducible refine Below.trans ?_ (Below.mono HV7.out (by (first | omega | (simp; done) | (simp; omega))))))), by (repeat' (first | (with_reducible exact B3_7.out) | (with_reducible refine BlkP.Blk.drew ?_) | (with_reducible refine BlkP.Blk.drewN ?_ _) | (with_reducible refine BlkP.Blk.setAt (us := ?_) (by first | omega | (simp; done) | (simp; omega)) rfl ?_ ?_) | (with_reducible refine BlkP.Blk.otherAt ?_ (by first | omega | (simp; done) | (simp; omega))) | (with_reducible refine BlkP.Blk.newA' (by first | omega | (simp; done) | (simp; omega)) rfl) | (with_reducible refine BlkP.Blk.alloc ?_ _) | (exact rfl))), by (repeat' (first | (with_reducible exact B5_7.out) | (with_reducible refine BlkP.Blk.drew ?_) | (with_reducible refine BlkP.Blk.drewN ?_ _) | (with_reducible refine BlkP.Blk.setAt (us := ?_) (by first | omega | (simp; done) | (simp; omega)) rfl ?_ ?_) | (with_reducible refine BlkP.Blk.otherAt ?_ (by first | omega | (simp; done) | (simp; omega))) | (with_reducible refine BlkP.Blk.newA' (by first | omega | (simp; done) | (simp; omega)) rfl) | (with_reducible refine BlkP.Blk.alloc ?_ _) | (exact rfl))), by subst hy; (repeat' (first | (with_reducible refine BlkP.Blk.drew ?_) | (with_reducible refine BlkP.Blk.drewN ?_ _) | (with_reducible refine BlkP.Blk.setAt (us := ?_) (by first | omega | (simp; done) | (simp; omega)) rfl ?_ ?_) | (with_reducible refine BlkP.Blk.otherAt ?_ (by first | omega | (simp; done) | (simp; omega))) | (with_reducible refine BlkP.Blk.newA' (by first | omega | (simp; done) | (simp; omega)) rfl) | (with_reducible refine BlkP.Blk.alloc ?_ _) | (exact rfl)))⟩ ?_
  rintro u2 ⟨hb, h3, h5, hn⟩
  try rw [hy]
  have hxy : x + 4 < y ∧ w.heap.size ≤ y := ⟨by have := B5_7.out.lt; omega, by have := HV7.out.size; omega⟩
  refine wp_storeN rfl (.tmp 6) (.tmp 85) rfl rfl (n := ovr 14 0) rfl hn rfl ?_
  intro u3 h6 hg hz
  have HU3 := Lib.hid (show Below w.heap.size w u3 from hb.grown hg hb.size (fun q hq => by injection hq with hq; omega))
  have C3 := Lib.hid (h3.grown hg (fun q => by injection q with q; omega))
  have C5 := Lib.hid (h5.grown hg (fun q => by injection q with q; omega))
  have C6 := Lib.hid h6
  have a1 : u3.cell? ⟨y, 1, none⟩ = some (.int .u8 0) := h6.cell rfl
  have f1 := h6.frozen 1
  have l6 := h6.lt
  clear hb h3 h5 hn hg hz h6 hy
  go_wp2_with fail
  refine HeldP.wp_named (S := fun W => Below w.heap.size w W ∧ Blk W (x + 2) TN (vals wN) ∧ Blk W (x + 4) TN (vals (ovr 2 0)) ∧ Blk W y TN (vals fN)) ⟨by (repeat' (first | (with_reducible exact Below.refl _ _) | (with_reducible refine Below.setCell ?_ (by (first | omega | (simp; done) | (simp; omega))) _) | (with_reducible refine Below.alloc ?_ (by (first | omega | (simp; done) | (simp; omega))) _) | (with_reducible refine Below.drew ?_) | (with_reducible refine below_drewN ?_ _) | (with_reducible refine Below.trans ?_ (Below.mono HU3.out (by (first | omega | (simp; done) | (simp; omega))))))), by (repeat' (first | (with_reducible exact C3.out) | (with_reducible refine BlkP.Blk.drew ?_) | (with_reducible refine BlkP.Blk.drewN ?_ _) | (with_reducible refine BlkP.Blk.setAt (us := ?_) (by first | omega | (simp; done) | (simp; omega)) rfl ?_ ?_) | (with_reducible refine BlkP.Blk.otherAt ?_ (by first | omega | (simp; done) | (simp; omega))) | (with_reducible refine BlkP.Blk.newA' (by first | omega | (simp; done) | (simp; omega)) rfl) | (with_reducible refine BlkP.Blk.alloc ?_ _) | (exact rfl))), by (repeat' (first | (with_reducible exact C5.out) | (with_reducible refine BlkP.Blk.drew ?_) | (with_reducible refine BlkP.Blk.drewN ?_ _) | (with_reducible refine BlkP.Blk.setAt (us := ?_) (by first | omega | (simp; done) | (simp; omega)) rfl ?_ ?_) | (with_reducible refine BlkP.Blk.otherAt ?_ (by first | omega | (simp; done) | (simp; omega))) | (with_reducible refine BlkP.Blk.newA' (by first | omega | (simp; done) | (simp; omega)) rfl) | (with_reducible refine BlkP.Blk.alloc ?_ _) | (exact rfl))), C6.out.setTo rfl⟩ ?_
  rintro w5 ⟨hb, h3, h5, h6⟩
  have HU5 := Lib.hid hb
  have E3 := Lib.hid h3
  have E5 := Lib.hid h5
  have E6 := Lib.hid h6
  clear hb h3 h5 h6 a1 f1 l6
  refine wp_region_noPanic ?_
  refine wp_region_held_drew (S := fun W => Below w5.heap.size w5 W) (by kernel_rfl) ((Below.refl _ w5).drew) (fun hHeld => ?_)
  refine wpAnyH_take (i := 0) (oi := ⟨some 88, _, _, _, _, _⟩) (v := nv wN) rfl (by kernel_rfl) (by kernel_rfl) (by kernel_rfl) (fun _ _ _ h => h) (Or.inl ⟨by rfl, fun W hSW => yieldN rfl rfl (E3.out.below hSW)⟩) hHeld ?_
  simp only [Act.put, List.setIfInBounds_toArray, List.set_cons_zero, List.set_cons_succ]
  refine wpAnyH_take (i := 1) (oi := ⟨some 89, _, _, _, _, _⟩) (v := nv wN) rfl (by kernel_rfl) (by kernel_rfl) (by kernel_rfl) (fun _ _ _ h => h) (Or.inl ⟨by rfl, fun W hSW => yieldN rfl rfl (E3.out.below hSW)⟩) hHeld ?_
  simp only [Act.put, List.setIfInBounds_toArray, List.set_cons_zero, List.set_cons_succ]
  refine wpAnyH_ready (rs := [2]) (by kernel_rfl) (by simp) ?_
  refine AllReadyH.cons (o := ⟨some 90, _, _, _, _, _⟩) rfl (fun K hK => ?_) AllReadyH.nil
  go_simp
  refine (Next_q (d := 0) (HT.out.below (below_t HU5.out hHeld)) (by decide) rfl (by omega) HDw.out).mono ?_
  rintro e w60 ⟨v, rfl, ho, hb60⟩
  obtain ⟨Aw, cw, rfl, _, _, _⟩ := ho.form (n := kw) HKw.out
  have HOw := Lib.hid (rd_z ho.rd)
  clear ho
  go_wp2_with fail
  refine hK.out _ _ (below_t hHeld hb60) (fun hHeld => ?_)
  clear hK K hb60
  refine wpAnyH_ready (rs := [3]) (by kernel_rfl) (by simp) ?_
  refine AllReadyH.cons (o := ⟨some 91, _, _, _, _, _⟩) rfl (fun K hK => ?_) AllReadyH.nil
  go_simp
  refine (Delta_c (HT.out.below (below_t HU5.out hHeld)) HOw.out (by rw [zl_len]; exact HKw.out) HBw'.out HCw.out).mono ?_
  rintro e w61 ⟨rfl, hb61⟩
  go_wp2_with fail
  refine hK.out _ _ (below_t hHeld hb61) (fun hHeld => ?_)
  clear hK K hb61
  refine wpAnyH_take (i := 4) (oi := ⟨some 92, _, _, _, _, _⟩) (v := .bool true) rfl (by kernel_rfl) (by kernel_rfl) (by kernel_rfl) (fun _ _ _ h => h) (Or.inl ⟨by rfl, fun W hSW => by go_simp⟩) hHeld ?_
  simp only [Act.put, List.setIfInBounds_toArray, List.set_cons_zero, List.set_cons_succ]
  refine wpAnyH_take (i := 5) (oi := ⟨some 93, _, _, _, _, _⟩) (v := .bool true) rfl (by kernel_rfl) (by kernel_rfl) (by kernel_rfl) (fun _ _ _ h => h) (Or.inl ⟨by rfl, fun W hSW => by go_simp⟩) hHeld ?_
  simp only [Act.put, List.setIfInBounds_toArray, List.set_cons_zero, List.set_cons_succ]
  refine wpAnyH_take (i := 6) (oi := ⟨some 94, _, _, _, _, _⟩) (v := nv fN) rfl (by kernel_rfl) (by kernel_rfl) (by kernel_rfl) (fun _ _ _ h => h) (Or.inl ⟨by rfl, fun W hSW => yieldN rfl rfl (E6.out.below hSW)⟩) hHeld ?_
  simp only [Act.put, List.setIfInBounds_toArray, List.set_cons_zero, List.set_cons_succ]
  refine wpAnyH_take (i := 7) (oi := ⟨some 95, _, _, _, _, _⟩) (v := nv fN) rfl (by kernel_rfl) (by kernel_rfl) (by kernel_rfl) (fun _ _ _ h => h) (Or.inl ⟨by rfl, fun W hSW => yieldN rfl rfl (E6.out.below hSW)⟩) hHeld ?_
  simp only [Act.put, List.setIfInBounds_toArray, List.set_cons_zero, List.set_cons_succ]
  refine wpAnyH_ready (rs := [8]) (by kernel_rfl) (by simp) ?_
  refine AllReadyH.cons (o := ⟨some 96, _, _, _, _, _⟩) rfl (fun K hK => ?_) AllReadyH.nil
  go_simp
  refine (Next_q (d := 0) (HT.out.below (below_t HU5.out hHeld)) (by decide) rfl (by omega) HDf.out).mono ?_
  rintro e w62 ⟨v, rfl, ho, hb62⟩
  obtain ⟨Af, cf, rfl, _, _, _⟩ := ho.form (n := kf) HKf.out
  have HOf := Lib.hid (rd_z ho.rd)
  clear ho
  go_wp2_with fail
  refine hK.out _ _ (below_t hHeld hb62) (fun hHeld => ?_)
  clear hK K hb62
  refine wpAnyH_ready (rs := [9]) (by kernel_rfl) (by simp) ?_
  refine AllReadyH.cons (o := ⟨some 97, _, _, _, _, _⟩) rfl (fun K hK => ?_) AllReadyH.nil
  go_simp
  refine (Delta_c (HT.out.below (below_t HU5.out hHeld)) HOf.out (by rw [zl_len]; exact HKf.out) HBf'.out HCf.out).mono ?_
  rintro e w63 ⟨rfl, hb63⟩
  go_wp2_with fail
  refine hK.out _ _ (below_t hHeld hb63) (fun hHeld => ?_)
  clear hK K hb63
  refine wpAnyH_take (i := 10) (oi := ⟨some 98, _, _, _, _, _⟩) (v := .bool true) rfl (by kernel_rfl) (by kernel_rfl) (by kernel_rfl) (fun _ _ _ h => h) (Or.inl ⟨by rfl, fun W hSW => by go_simp⟩) hHeld ?_
  simp only [Act.put, List.setIfInBounds_toArray, List.set_cons_zero, List.set_cons_succ]
  refine wpAnyH_take (i := 11) (oi := ⟨some 99, _, _, _, _, _⟩) (v := .bool true) rfl (by kernel_rfl) (by kernel_rfl) (by kernel_rfl) (fun _ _ _ h => h) (Or.inl ⟨by rfl, fun W hSW => by go_simp⟩) hHeld ?_
  simp only [Act.put, List.setIfInBounds_toArray, List.set_cons_zero, List.set_cons_succ]
  refine wpAnyH_take (i := 12) (oi := ⟨some 100, _, _, _, _, _⟩) (v := .bool true) rfl (by kernel_rfl) (by kernel_rfl) (by kernel_rfl) (fun _ _ _ h => h) (Or.inl ⟨by rfl, fun W hSW => by go_simp⟩) hHeld ?_
  simp only [Act.put, List.setIfInBounds_toArray, List.set_cons_zero, List.set_cons_succ]
  refine wpAnyH_take (i := 13) (oi := ⟨some 101, _, _, _, _, _⟩) (v := nv (ovr 2 0)) rfl (by kernel_rfl) (by kernel_rfl) (by kernel_rfl) (fun _ _ _ h => h) (Or.inl ⟨by rfl, fun W hSW => yieldN rfl rfl (E5.out.below hSW)⟩) hHeld ?_
  simp only [Act.put, List.setIfInBounds_toArray, List.set_cons_zero, List.set_cons_succ]
  refine wpAnyH_take (i := 14) (oi := ⟨some 102, _, _, _, _, _⟩) (v := .agg #[.int .u8 2, .int .u8 0]) rfl (by kernel_rfl) (by kernel_rfl) (by kernel_rfl) (fun _ _ _ h => h) (Or.inl ⟨by rfl, fun W hSW => by go_simp⟩) hHeld ?_
  simp only [Act.put, List.setIfInBounds_toArray, List.set_cons_zero, List.set_cons_succ]
  refine wpAnyH_take (i := 15) (oi := ⟨some 103, _, _, _, _, _⟩) (v := .agg #[.int .i64 7, .int .u8 2, .int .u8 0]) rfl (by kernel_rfl) (by kernel_rfl) (by kernel_rfl) (fun _ _ _ h => h) (Or.inl ⟨by rfl, fun W hSW => by go_simp⟩) hHeld ?_
  simp only [Act.put, List.setIfInBounds_toArray, List.set_cons_zero, List.set_cons_succ]
  obtain ⟨z, hz⟩ : ∃ z, w63.heap.size = z := ⟨_, rfl⟩
  have hzz := hHeld.size
  refine wpAnyH_ready (rs := [16]) (by kernel_rfl) (by simp) ?_
  refine AllReadyH.cons (o := ⟨some 104, _, _, _, _, _⟩) rfl (fun K hK => ?_) AllReadyH.nil
  go_simp
  refine hK.out _ _ (hHeld.alloc hzz _) (fun hHeld => ?_)
  clear hK K
  refine any_named (fun W => Below w5.heap.size w5 W ∧ Blk W z TX [.int .i64 7, .int .u8 2, .int .u8 0]) ⟨hHeld, by subst hz; (repeat' (first | (with_reducible refine BlkP.Blk.drew ?_) | (with_reducible refine BlkP.Blk.drewN ?_ _) | (with_reducible refine BlkP.Blk.setAt (us := ?_) (by first | omega | (simp; done) | (simp; omega)) rfl ?_ ?_) | (with_reducible refine BlkP.Blk.otherAt ?_ (by first | omega | (simp; done) | (simp; omega))) | (with_reducible refine BlkP.Blk.newA' (by first | omega | (simp; done) | (simp; omega)) rfl) | (with_reducible refine BlkP.Blk.alloc ?_ _) | (exact rfl)))⟩ ?_
  clear hHeld
  rintro w64 ⟨hHeld, hx64⟩
  try rw [hz]
  have HX64 := Lib.hid (rd_z (l := [(7, (2, 0))]) (own_lit (B := 0) (E := TX) (e := encX) (l := [(7, (2, 0))]) (n := 1) hx64 (by omega) rfl (by omega)).rd)
  clear hx64
  refine wpAnyH_take (i := 17) (oi := ⟨some 105, _, _, _, _, _⟩) (v := .agg #[.slice (some ⟨z, 0, none⟩) 1 1, .int .i64 0, .int .i64 0]) rfl (by kernel_rfl) (by kernel_rfl) (by kernel_rfl) (fun _ _ _ h => h) (Or.inl ⟨by rfl, fun W hSW => by go_simp⟩) hHeld ?_
  simp only [Act.put, List.setIfInBounds_toArray, List.set_cons_zero, List.set_cons_succ]
  refine wpAnyH_ready (rs := [18]) (by kernel_rfl) (by simp) ?_
  refine AllReadyH.cons (o := ⟨some 106, _, _, _, _, _⟩) rfl (fun K hK => ?_) AllReadyH.nil
  go_simp
  refine (Delta_c (L := [(7, (2, 0))]) (x := 0) (HT.out.below (below_t HU5.out hHeld)) HX64.out rfl (by omega) dl7).mono ?_
  rintro e w65 ⟨rfl, hb65⟩
  go_wp2_with fail
  refine hK.out _ _ (below_t hHeld hb65) (fun hHeld => ?_)
  clear hK K hb65
  refine wpAnyH_take (i := 19) (oi := ⟨some 107, _, _, _, _, _⟩) (v := .bool true) rfl (by kernel_rfl) (by kernel_rfl) (by kernel_rfl) (fun _ _ _ h => h) (Or.inl ⟨by rfl, fun W hSW => by go_simp⟩) hHeld ?_
  simp only [Act.put, List.setIfInBounds_toArray, List.set_cons_zero, List.set_cons_succ]
  refine wpAnyH_take (i := 20) (oi := ⟨some 108, _, _, _, _, _⟩) (v := .bool true) rfl (by kernel_rfl) (by kernel_rfl) (by kernel_rfl) (fun _ _ _ h => h) (Or.inl ⟨by rfl, fun W hSW => by go_simp⟩) hHeld ?_
  simp only [Act.put, List.setIfInBounds_toArray, List.set_cons_zero, List.set_cons_succ]
  refine wpAnyH_take (i := 21) (oi := ⟨some 0, _, _, _, _, _⟩) (v := .bool true) rfl (by kernel_rfl) (by kernel_rfl) (by kernel_rfl) (fun _ _ _ h => h) (Or.inl ⟨by rfl, fun W hSW => by go_simp⟩) hHeld ?_
  simp only [Act.put, List.setIfInBounds_toArray, List.set_cons_zero, List.set_cons_succ]
  refine wpAnyH_done (by kernel_rfl) ?_ _
  refine NoPanic.normal ?_
  have HB9 := Lib.hid (below_t HU5.out hHeld)
  clear hHeld
  go_wp2_with fail
  go_ret
  exact ⟨by first | rfl | simp, HB9.out⟩
end ReactW
end Go.Proofs.YtlahkmkipciiiaaDoor
