/-
  BurnCounts: what fire, and what a plant, says of movable cells is by how many more there are behind it.
-/
import Derived.Test.YtlidcefmpoelkaaDoorBurnCnt
import Derived.Test.YtlidcefmpoelkaaDoorHeldP
namespace Go.Proofs.YtlidcefmpoelkaaDoor
open Go.RowKit
set_option linter.unusedVariables false
set_option linter.unusedSimpArgs false
namespace BurnW
open BlkP RowG FrS PushG CellsW NearW BurnP
theorem yieldN {w : World} {a : Act} {o : Oper} {p : Nat} {n : Nr} {x : Operand} (ho : o.op = .load TN x) (hx : a.eval x = .pointer (some ⟨p, 0, none⟩)) (hk : Blk w p TN (vals n)) : (execOp a.eval o).run Tryd.prog w = .ok (.value (nv n)) w := by
  unfold execOp
  simp only [ho, hx, Instr.loadAt, Instr.sureAddr, Sem.run_bind, Sem.run_pure, Result.andThen_ok, run_loadN hk]
  rfl
set_option maxRecDepth 100000 in
set_option maxHeartbeats 16000000 in
theorem law_counts {w : World} (hT : KindW.Tab w) (n : Nr) {d : Nat} (hd : n.dr = (d : Int)) (hd2 : d ≤ 18446744073709551615) : Calls Tryd.prog 5 #[nv n] w fun e w' => e = .returned (.bool true) ∧ Below w.heap.size w w' := by
  have HT := Lib.hid hT
  have HDR := Lib.hid hd
  obtain ⟨⟨L, ag, dl⟩, hD⟩ : ∃ D, fire n d = D := ⟨_, rfl⟩
  have HD := Lib.hid hD
  obtain ⟨⟨M, bg, ml⟩, hE⟩ : ∃ D, plant n d = D := ⟨_, rfl⟩
  have HE := Lib.hid hE
  have HML := Lib.hid (show more n L = dl from by have := fire_more n d; rw [hD] at this; exact this)
  have HMM := Lib.hid (show more n M = ml from by have := plant_more n d; rw [hE] at this; exact this)
  have HL6 := Lib.hid (show ∀ x ∈ L, x.1 ≤ 6 from fun x hx => (fire_ok n d x (by rw [hD]; exact hx)).1)
  have HM6 := Lib.hid (show ∀ x ∈ M, x.1 ≤ 6 from fun x hx => by have := (plant_ok n d x (by rw [hE]; exact hx)).1; omega)
  obtain ⟨k, hk⟩ : ∃ k, L.length = k := ⟨_, rfl⟩
  obtain ⟨m, hm⟩ : ∃ k, M.length = k := ⟨_, rfl⟩
  have HK := Lib.hid hk
  have HM := Lib.hid hm
  have HK1 := Lib.hid (show k ≤ 100 from by have := fire_len n d; rw [hD] at this; simp only at this; omega)
  have HM1 := Lib.hid (show m ≤ 100 from by have := plant_len n d; rw [hE] at this; simp only at this; omega)
  obtain ⟨s, hs⟩ : ∃ s, w.heap.size = s := ⟨_, rfl⟩
  have HS := Lib.hid hs
  clear hT hd hD hE hk hm
  go_enter Tryd.func5, Tryd.ntmps5
  go_wp2_with ((with_reducible refine at_slot 1 ?_); refine Classical.byContradiction (fun hG => ?_))
  refine hG ?_
  clear hG
  refine wp_boxN rfl (.tmp 0) rfl rfl ?_
  intro w1 h1 hb1 hz1
  rw [hs] at h1 hz1
  try rw [hs]
  have HB1 := Lib.hid hb1
  have H1 := Lib.hid h1
  clear h1 hb1 hz1
  go_wp2_with ((with_reducible refine at_slot 5 ?_); refine Classical.byContradiction (fun hG => ?_))
  refine hG ?_
  clear hG
  refine wp_loadN rfl (.tmp 1) rfl rfl (n := n) H1.out ?_
  go_wp2_with fail
  refine (Fire_d (HT.out.below HB1.out) HDR.out hd2 HD.out).mono ?_
  rintro e w2 ⟨v, rfl, ho, hb2⟩
  obtain ⟨A1, c1, rfl, _, _, _⟩ := ho.form HK.out
  have HB2 := Lib.hid (below_t HB1.out hb2)
  have H2 := Lib.hid (H1.out.below hb2)
  have HO2 := Lib.hid ho.rd
  have hz2 := HB2.out.size
  clear hb2 ho
  go_wp2_with ((with_reducible refine at_slot 7 ?_); refine Classical.byContradiction (fun hG => ?_))
  refine hG ?_
  clear hG
  refine list_named (S := fun W => Below w.heap.size w W ∧ Blk W s TN (vals n) ∧ Rd encX W (.slice A1 k c1) L ∧ ∃ a, a = w2.heap.size ∧ Blk W a TD [.slice A1 k c1, .int .i64 ag, .int .i64 dl]) ⟨by (repeat' (first | (with_reducible exact Below.refl _ _) | (with_reducible refine Below.setCell ?_ (by (first | omega | (simp; done) | (simp; omega))) _) | (with_reducible refine Below.alloc ?_ (by (first | omega | (simp; done) | (simp; omega))) _) | (with_reducible refine Below.drew ?_) | (with_reducible refine below_drewN ?_ _) | (with_reducible refine Below.trans ?_ (Below.mono HB2.out (by (first | omega | (simp; done) | (simp; omega))))))), by (repeat' (first | (with_reducible exact H2.out) | (with_reducible refine BlkP.Blk.drew ?_) | (with_reducible refine BlkP.Blk.drewN ?_ _) | (with_reducible refine BlkP.Blk.setAt (us := ?_) (by first | omega | (simp; done) | (simp; omega)) rfl ?_ ?_) | (with_reducible refine BlkP.Blk.otherAt ?_ (by first | omega | (simp; done) | (simp; omega))) | (with_reducible refine BlkP.Blk.newA' (by first | omega | (simp; done) | (simp; omega)) rfl) | (with_reducible refine BlkP.Blk.alloc ?_ _) | (exact rfl))), HO2.out.below (by (repeat' (first | (with_reducible exact Below.refl _ _) | (with_reducible refine Below.setCell ?_ (by (first | omega | (simp; done) | (simp; omega))) _) | (with_reducible refine Below.alloc ?_ (by (first | omega | (simp; done) | (simp; omega))) _) | (with_reducible refine Below.drew ?_) | (with_reducible refine below_drewN ?_ _)))), w2.heap.size, rfl, by (repeat' (first | (with_reducible refine BlkP.Blk.drew ?_) | (with_reducible refine BlkP.Blk.drewN ?_ _) | (with_reducible refine BlkP.Blk.setAt (us := ?_) (by first | omega | (simp; done) | (simp; omega)) rfl ?_ ?_) | (with_reducible refine BlkP.Blk.otherAt ?_ (by first | omega | (simp; done) | (simp; omega))) | (with_reducible refine BlkP.Blk.newA' (by first | omega | (simp; done) | (simp; omega)) rfl) | (with_reducible refine BlkP.Blk.alloc ?_ _) | (exact rfl)))⟩ ?_
  rintro w3 ⟨hb3, h3, ho3, a, ha, ha3⟩
  try rw [← ha]
  have HB3 := Lib.hid hb3
  have H3 := Lib.hid h3
  have HO3 := Lib.hid ho3
  have HA3 := Lib.hid ha3
  clear hb3 h3 ho3 ha3 ha hz2
  refine wp_loadN rfl (.tmp 1) rfl rfl (n := n) H3.out ?_
  go_wp2_with fail
  refine (Plant_d (HT.out.below HB3.out) HDR.out hd2 HE.out).mono ?_
  rintro e w4 ⟨v, rfl, ho, hb4⟩
  obtain ⟨A2, c2, rfl, _, _, _⟩ := ho.form HM.out
  have HB4 := Lib.hid (below_t HB3.out hb4)
  have H4 := Lib.hid (H3.out.below hb4)
  have HO4 := Lib.hid (HO3.out.below hb4)
  have HA4 := Lib.hid (HA3.out.below hb4)
  have HP4 := Lib.hid ho.rd
  have hz4 := HB4.out.size
  clear hb4 ho
  go_wp2_with fail
  refine HeldP.wp_named (S := fun W => Below w.heap.size w W ∧ Blk W s TN (vals n) ∧ Blk W a TD [.slice A1 k c1, .int .i64 ag, .int .i64 dl] ∧ Rd encX W (.slice A1 k c1) L ∧ Rd encX W (.slice A2 m c2) M ∧ ∃ b, b = w4.heap.size ∧ Blk W b TD [.slice A2 m c2, .int .i64 bg, .int .i64 ml]) ⟨by (repeat' (first | (with_reducible exact Below.refl _ _) | (with_reducible refine Below.setCell ?_ (by (first | omega | (simp; done) | (simp; omega))) _) | (with_reducible refine Below.alloc ?_ (by (first | omega | (simp; done) | (simp; omega))) _) | (with_reducible refine Below.drew ?_) | (with_reducible refine below_drewN ?_ _) | (with_reducible refine Below.trans ?_ (Below.mono HB4.out (by (first | omega | (simp; done) | (simp; omega))))))), by (repeat' (first | (with_reducible exact H4.out) | (with_reducible refine BlkP.Blk.drew ?_) | (with_reducible refine BlkP.Blk.drewN ?_ _) | (with_reducible refine BlkP.Blk.setAt (us := ?_) (by first | omega | (simp; done) | (simp; omega)) rfl ?_ ?_) | (with_reducible refine BlkP.Blk.otherAt ?_ (by first | omega | (simp; done) | (simp; omega))) | (with_reducible refine BlkP.Blk.newA' (by first | omega | (simp; done) | (simp; omega)) rfl) | (with_reducible refine BlkP.Blk.alloc ?_ _) | (exact rfl))), by (repeat' (first | (with_reducible exact HA4.out) | (with_reducible refine BlkP.Blk.drew ?_) | (with_reducible refine BlkP.Blk.drewN ?_ _) | (with_reducible refine BlkP.Blk.setAt (us := ?_) (by first | omega | (simp; done) | (simp; omega)) rfl ?_ ?_) | (with_reducible refine BlkP.Blk.otherAt ?_ (by first | omega | (simp; done) | (simp; omega))) | (with_reducible refine BlkP.Blk.newA' (by first | omega | (simp; done) | (simp; omega)) rfl) | (with_reducible refine BlkP.Blk.alloc ?_ _) | (exact rfl))), HO4.out.below (by (repeat' (first | (with_reducible exact Below.refl _ _) | (with_reducible refine Below.setCell ?_ (by (first | omega | (simp; done) | (simp; omega))) _) | (with_reducible refine Below.alloc ?_ (by (first | omega | (simp; done) | (simp; omega))) _) | (with_reducible refine Below.drew ?_) | (with_reducible refine below_drewN ?_ _)))), HP4.out.below (by (repeat' (first | (with_reducible exact Below.refl _ _) | (with_reducible refine Below.setCell ?_ (by (first | omega | (simp; done) | (simp; omega))) _) | (with_reducible refine Below.alloc ?_ (by (first | omega | (simp; done) | (simp; omega))) _) | (with_reducible refine Below.drew ?_) | (with_reducible refine below_drewN ?_ _)))), w4.heap.size, rfl, by (repeat' (first | (with_reducible refine BlkP.Blk.drew ?_) | (with_reducible refine BlkP.Blk.drewN ?_ _) | (with_reducible refine BlkP.Blk.setAt (us := ?_) (by first | omega | (simp; done) | (simp; omega)) rfl ?_ ?_) | (with_reducible refine BlkP.Blk.otherAt ?_ (by first | omega | (simp; done) | (simp; omega))) | (with_reducible refine BlkP.Blk.newA' (by first | omega | (simp; done) | (simp; omega)) rfl) | (with_reducible refine BlkP.Blk.alloc ?_ _) | (exact rfl)))⟩ ?_
  rintro w5 ⟨hb5, h5, ha5, ho5, hp5, b, hb, hbb5⟩
  try rw [← hb]
  have HB5 := Lib.hid hb5
  have H5 := Lib.hid h5
  have HO5 := Lib.hid ho5
  have HP5 := Lib.hid hp5
  have HA5 := Lib.hid ha5
  have HQ5 := Lib.hid hbb5
  have a0 := ha5.cell (i := 0) rfl
  have a1 := ha5.cell (i := 1) rfl
  have a2 := ha5.cell (i := 2) rfl
  have b0 := hbb5.cell (i := 0) rfl
  have b1 := hbb5.cell (i := 1) rfl
  have b2 := hbb5.cell (i := 2) rfl
  have la := ha5.lt
  have lb := hbb5.lt
  clear hb5 h5 ha5 ho5 hp5 hb hbb5 hz4
  refine wp_region_noPanic ?_
  refine wp_region_held_drew (S := fun W => Below w5.heap.size w5 W) (by kernel_rfl) ((Below.refl _ w5).drew) (fun hHeld => ?_)
  refine wpAnyH_take (i := 0) (oi := ⟨some 9, _, _, _, _, _⟩) (v := .pointer (some ⟨a, 2, none⟩)) rfl (by kernel_rfl) (by kernel_rfl) (by kernel_rfl) (fun _ _ _ h => h) (Or.inl ⟨by rfl, fun W hSW => by go_simp⟩) hHeld ?_
  simp only [Act.put, List.setIfInBounds_toArray, List.set_cons_zero, List.set_cons_succ]
  refine wpAnyH_take (i := 1) (oi := ⟨some 10, _, _, _, _, _⟩) (v := .int .i64 dl) rfl (by kernel_rfl) (by kernel_rfl) (by kernel_rfl) (fun _ _ _ h => h) (Or.inl ⟨by rfl, fun W hSW => by have a0 := (hSW.cell (p := ⟨a, 2, none⟩) la).trans a2; go_simp⟩) hHeld ?_
  simp only [Act.put, List.setIfInBounds_toArray, List.set_cons_zero, List.set_cons_succ]
  refine wpAnyH_take (i := 2) (oi := ⟨some 11, _, _, _, _, _⟩) (v := nv n) rfl (by kernel_rfl) (by kernel_rfl) (by kernel_rfl) (fun _ _ _ h => h) (Or.inl ⟨by rfl, fun W hSW => yieldN rfl rfl (H5.out.below hSW)⟩) hHeld ?_
  simp only [Act.put, List.setIfInBounds_toArray, List.set_cons_zero, List.set_cons_succ]
  refine wpAnyH_take (i := 3) (oi := ⟨some 12, _, _, _, _, _⟩) (v := .agg #[.slice A1 k c1, .int .i64 ag, .int .i64 dl]) rfl (by kernel_rfl) (by kernel_rfl) (by kernel_rfl) (fun _ _ _ h => h) (Or.inl ⟨by rfl, fun W hSW => by have a0 := (hSW.cell (p := ⟨a, 0, none⟩) la).trans a0; have a1 := (hSW.cell (p := ⟨a, 1, none⟩) la).trans a1; have a2 := (hSW.cell (p := ⟨a, 2, none⟩) la).trans a2; go_simp⟩) hHeld ?_
  simp only [Act.put, List.setIfInBounds_toArray, List.set_cons_zero, List.set_cons_succ]
  refine wpAnyH_ready (rs := [4]) (by kernel_rfl) (by simp) ?_
  refine AllReadyH.cons (o := ⟨some 13, _, _, _, _, _⟩) rfl (fun K hK => ?_) AllReadyH.nil
  go_simp
  refine (lcounted_c (HT.out.below (below_t HB5.out hHeld)) (HO5.out.below hHeld) HK.out HK1.out HL6.out).mono ?_
  rintro e w6 ⟨rfl, hb6⟩
  go_wp2_with fail
  refine hK.out _ _ (below_t hHeld hb6) (fun hHeld => ?_)
  clear hK K hb6
  refine wpAnyH_take (i := 5) (oi := ⟨some 14, _, _, _, _, _⟩) (v := .bool true) rfl (by kernel_rfl) (by kernel_rfl) (by kernel_rfl) (fun _ _ _ h => h) (Or.inl ⟨by rfl, fun W hSW => by go_simp; exact HML.out.symm⟩) hHeld ?_
  simp only [Act.put, List.setIfInBounds_toArray, List.set_cons_zero, List.set_cons_succ]
  refine wpAnyH_take (i := 6) (oi := ⟨some 15, _, _, _, _, _⟩) (v := .bool true) rfl (by kernel_rfl) (by kernel_rfl) (by kernel_rfl) (fun _ _ _ h => h) (Or.inl ⟨by rfl, fun W hSW => by go_simp⟩) hHeld ?_
  simp only [Act.put, List.setIfInBounds_toArray, List.set_cons_zero, List.set_cons_succ]
  refine wpAnyH_take (i := 7) (oi := ⟨some 16, _, _, _, _, _⟩) (v := .pointer (some ⟨b, 2, none⟩)) rfl (by kernel_rfl) (by kernel_rfl) (by kernel_rfl) (fun _ _ _ h => h) (Or.inl ⟨by rfl, fun W hSW => by go_simp⟩) hHeld ?_
  simp only [Act.put, List.setIfInBounds_toArray, List.set_cons_zero, List.set_cons_succ]
  refine wpAnyH_take (i := 8) (oi := ⟨some 17, _, _, _, _, _⟩) (v := .int .i64 ml) rfl (by kernel_rfl) (by kernel_rfl) (by kernel_rfl) (fun _ _ _ h => h) (Or.inl ⟨by rfl, fun W hSW => by have a0 := (hSW.cell (p := ⟨b, 2, none⟩) lb).trans b2; go_simp⟩) hHeld ?_
  simp only [Act.put, List.setIfInBounds_toArray, List.set_cons_zero, List.set_cons_succ]
  refine wpAnyH_take (i := 9) (oi := ⟨some 18, _, _, _, _, _⟩) (v := nv n) rfl (by kernel_rfl) (by kernel_rfl) (by kernel_rfl) (fun _ _ _ h => h) (Or.inl ⟨by rfl, fun W hSW => yieldN rfl rfl (H5.out.below hSW)⟩) hHeld ?_
  simp only [Act.put, List.setIfInBounds_toArray, List.set_cons_zero, List.set_cons_succ]
  refine wpAnyH_take (i := 10) (oi := ⟨some 19, _, _, _, _, _⟩) (v := .agg #[.slice A2 m c2, .int .i64 bg, .int .i64 ml]) rfl (by kernel_rfl) (by kernel_rfl) (by kernel_rfl) (fun _ _ _ h => h) (Or.inl ⟨by rfl, fun W hSW => by have a0 := (hSW.cell (p := ⟨b, 0, none⟩) lb).trans b0; have a1 := (hSW.cell (p := ⟨b, 1, none⟩) lb).trans b1; have a2 := (hSW.cell (p := ⟨b, 2, none⟩) lb).trans b2; go_simp⟩) hHeld ?_
  simp only [Act.put, List.setIfInBounds_toArray, List.set_cons_zero, List.set_cons_succ]
  refine wpAnyH_ready (rs := [11]) (by kernel_rfl) (by simp) ?_
  refine AllReadyH.cons (o := ⟨some 20, _, _, _, _, _⟩) rfl (fun K hK => ?_) AllReadyH.nil
  go_simp
  refine (lcounted_c (HT.out.below (below_t HB5.out hHeld)) (HP5.out.below hHeld) HM.out HM1.out HM6.out).mono ?_
  rintro e w7 ⟨rfl, hb7⟩
  go_wp2_with fail
  refine hK.out _ _ (below_t hHeld hb7) (fun hHeld => ?_)
  clear hK K hb7
  refine wpAnyH_take (i := 12) (oi := ⟨some 21, _, _, _, _, _⟩) (v := .bool true) rfl (by kernel_rfl) (by kernel_rfl) (by kernel_rfl) (fun _ _ _ h => h) (Or.inl ⟨by rfl, fun W hSW => by go_simp; exact HMM.out.symm⟩) hHeld ?_
  simp only [Act.put, List.setIfInBounds_toArray, List.set_cons_zero, List.set_cons_succ]
  refine wpAnyH_take (i := 13) (oi := ⟨some 22, _, _, _, _, _⟩) (v := .bool true) rfl (by kernel_rfl) (by kernel_rfl) (by kernel_rfl) (fun _ _ _ h => h) (Or.inl ⟨by rfl, fun W hSW => by go_simp⟩) hHeld ?_
  simp only [Act.put, List.setIfInBounds_toArray, List.set_cons_zero, List.set_cons_succ]
  refine wpAnyH_take (i := 14) (oi := ⟨some 23, _, _, _, _, _⟩) (v := .bool true) rfl (by kernel_rfl) (by kernel_rfl) (by kernel_rfl) (fun _ _ _ h => h) (Or.inl ⟨by rfl, fun W hSW => by go_simp⟩) hHeld ?_
  simp only [Act.put, List.setIfInBounds_toArray, List.set_cons_zero, List.set_cons_succ]
  refine wpAnyH_ready (rs := [15]) (by kernel_rfl) (by simp) ?_
  refine AllReadyH.cons (o := ⟨some 24, _, _, _, _, _⟩) rfl (fun K hK => ?_) AllReadyH.nil
  go_simp
  refine (works_c (HT.out.below (below_t HB5.out hHeld))).mono ?_
  rintro e w8 ⟨rfl, hb8⟩
  go_wp2_with fail
  refine hK.out _ _ (below_t hHeld hb8) (fun hHeld => ?_)
  clear hK K hb8
  refine wpAnyH_take (i := 16) (oi := ⟨some 25, _, _, _, _, _⟩) (v := .bool true) rfl (by kernel_rfl) (by kernel_rfl) (by kernel_rfl) (fun _ _ _ h => h) (Or.inl ⟨by rfl, fun W hSW => by go_simp⟩) hHeld ?_
  simp only [Act.put, List.setIfInBounds_toArray, List.set_cons_zero, List.set_cons_succ]
  refine wpAnyH_take (i := 17) (oi := ⟨some 2, _, _, _, _, _⟩) (v := .bool true) rfl (by kernel_rfl) (by kernel_rfl) (by kernel_rfl) (fun _ _ _ h => h) (Or.inl ⟨by rfl, fun W hSW => by go_simp⟩) hHeld ?_
  simp only [Act.put, List.setIfInBounds_toArray, List.set_cons_zero, List.set_cons_succ]
  refine wpAnyH_done (by kernel_rfl) ?_ _
  refine NoPanic.normal ?_
  refine HeldP.then_named (S := fun W => Below w5.heap.size w5 W) hHeld ?_
  rintro w9 hb9
  have HB9 := Lib.hid (below_t HB5.out hb9)
  clear hHeld hb9 a0 a1 a2 b0 b1 b2 la lb
  go_wp2_with fail
  go_ret
  exact ⟨by first | rfl | simp, HS.out ▸ HB9.out⟩
end BurnW
end Go.Proofs.YtlidcefmpoelkaaDoor
