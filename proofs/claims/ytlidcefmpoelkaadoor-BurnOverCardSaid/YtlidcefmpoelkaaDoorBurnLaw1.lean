/-
  works: fire of wood, alone; BurnFires, BurnPlants: what fire and plants do is what the document says.
-/
import Derived.Test.YtlidcefmpoelkaaDoorBurnRPlant
import Derived.Test.YtlidcefmpoelkaaDoorBurnPlant
namespace Go.Proofs.YtlidcefmpoelkaaDoor
open Go.RowKit
set_option linter.unusedVariables false
set_option linter.unusedSimpArgs false
namespace BurnW
open BlkP RowG FrS PushG CellsW NearW BurnP
theorem Fire_d {w : World} {n : Nr} {d : Nat} {D : Dd} (hT : KindW.Tab w) (hd : n.dr = (d : Int)) (hd2 : d ≤ 18446744073709551615) (hD : fire n d = D) : Calls Tryd.prog 12 #[nv n] w (DeedQ w D) := hD ▸ Fire_c hT hd hd2
theorem Plant_d {w : World} {n : Nr} {d : Nat} {D : Dd} (hT : KindW.Tab w) (hd : n.dr = (d : Int)) (hd2 : d ≤ 18446744073709551615) (hD : plant n d = D) : Calls Tryd.prog 16 #[nv n] w (DeedQ w D) := hD ▸ Plant_c hT hd hd2
theorem rFire_d {w : World} {n : Nr} {d : Nat} {D : Dd} (hd : n.dr = (d : Int)) (hd2 : d ≤ 18446744073709551615) (hD : fire n d = D) : Calls Tryd.prog 13 #[nv n] w (DeedQ w D) := hD ▸ rFire_c hd hd2
theorem rPlant_d {w : World} {n : Nr} {d : Nat} {D : Dd} (hd : n.dr = (d : Int)) (hd2 : d ≤ 18446744073709551615) (hD : plant n d = D) : Calls Tryd.prog 17 #[nv n] w (DeedQ w D) := hD ▸ rPlant_c hd hd2
def nw : Nr := {nz with s := (14, 1)}
set_option maxRecDepth 100000 in
set_option maxHeartbeats 16000000 in
theorem works_c {w : World} (hT : KindW.Tab w) : Calls Tryd.prog 15 #[] w fun e w' => e = .returned (.bool true) ∧ Below w.heap.size w w' := by
  have HT := Lib.hid hT
  clear hT
  go_enter Tryd.func15, Tryd.ntmps15
  go_wp2_with fail
  refine (Fire_d (n := nw) (d := 0) (D := ⟨[(0, (8, 0))], 0, 1⟩) (HT.out.below (by (repeat' (first | (with_reducible exact Below.refl _ _) | (with_reducible refine Below.setCell ?_ (by (first | omega | (simp; done) | (simp; omega))) _) | (with_reducible refine Below.alloc ?_ (by (first | omega | (simp; done) | (simp; omega))) _) | (with_reducible refine Below.drew ?_) | (with_reducible refine below_drewN ?_ _))))) rfl (by omega) (by rfl)).mono ?_
  rintro e w3 ⟨v, rfl, ho, hb3⟩
  have HB3 := Lib.hid (show Below w.heap.size w w3 by (repeat' (first | (with_reducible exact Below.refl _ _) | (with_reducible refine Below.setCell ?_ (by (first | omega | (simp; done) | (simp; omega))) _) | (with_reducible refine Below.alloc ?_ (by (first | omega | (simp; done) | (simp; omega))) _) | (with_reducible refine Below.drew ?_) | (with_reducible refine below_drewN ?_ _) | (with_reducible refine Below.trans ?_ (Below.mono hb3 (by (first | omega | (simp; done) | (simp; omega))))))))
  obtain ⟨A, c, rfl, _, _, hA⟩ := ho.form (n := 1) rfl
  obtain ⟨g, rfl, hg1, hg2⟩ := hA (by omega)
  have c0 : w3.cell? ⟨g, 0, none⟩ = some (.int .i64 0) := ho.cell (i := 0) (j := 0) rfl rfl
  have c1 : w3.cell? ⟨g, 1, none⟩ = some (.int .u8 8) := ho.cell (i := 0) (j := 1) rfl rfl
  have c2 : w3.cell? ⟨g, 2, none⟩ = some (.int .u8 0) := ho.cell (i := 0) (j := 2) rfl rfl
  have hgn : g ≠ w3.heap.size := by omega
  have hz3 := HB3.out.size
  clear ho hA hb3 hg1
  go_wp2_with fail
  go_ret
  exact ⟨by first | rfl | simp, by (repeat' (first | (with_reducible exact Below.refl _ _) | (with_reducible refine Below.setCell ?_ (by (first | omega | (simp; done) | (simp; omega))) _) | (with_reducible refine Below.alloc ?_ (by (first | omega | (simp; done) | (simp; omega))) _) | (with_reducible refine Below.drew ?_) | (with_reducible refine below_drewN ?_ _) | (with_reducible refine Below.trans ?_ (Below.mono HB3.out (by (first | omega | (simp; done) | (simp; omega)))))))⟩
set_option maxRecDepth 100000 in
set_option maxHeartbeats 16000000 in
theorem law_fires {w : World} (hT : KindW.Tab w) (n : Nr) {d : Nat} (hd : n.dr = (d : Int)) (hd2 : d ≤ 18446744073709551615) : Calls Tryd.prog 3 #[nv n] w fun e w' => e = .returned (.bool true) ∧ Below w.heap.size w w' := by
  have HT := Lib.hid hT
  have HDR := Lib.hid hd
  obtain ⟨⟨L, ag, dl⟩, hD⟩ : ∃ D, fire n d = D := ⟨_, rfl⟩
  have HD := Lib.hid hD
  obtain ⟨k, hk⟩ : ∃ k, L.length = k := ⟨_, rfl⟩
  have HK := Lib.hid hk
  have HK1 := Lib.hid (show k ≤ 1 from by have := fire_len n d; rw [hD] at this; simp only at this; omega)
  obtain ⟨s, hs⟩ : ∃ s, w.heap.size = s := ⟨_, rfl⟩
  have HS := Lib.hid hs
  clear hT hd hD hk
  go_enter Tryd.func3, Tryd.ntmps3
  go_wp2_with ((with_reducible refine at_slot 1 ?_); refine Classical.byContradiction (fun hG => ?_))
  refine hG ?_
  clear hG
  refine wp_boxN rfl (.tmp 0) rfl rfl ?_
  intro w1 h1 hb1 hz1
  rw [hs] at h1 hz1
  try rw [hs]
  have HB1 := Lib.hid hb1
  have H1 := Lib.hid h1
  clear h1 hb1 hz1
  go_wp2_with ((with_reducible refine at_slot 5 ?_); refine Classical.byContradiction (fun hG => ?_))
  refine hG ?_
  clear hG
  refine wp_loadN rfl (.tmp 1) rfl rfl (n := n) H1.out ?_
  go_wp2_with fail
  refine (Fire_d (HT.out.below HB1.out) HDR.out hd2 HD.out).mono ?_
  rintro e w2 ⟨v, rfl, ho, hb2⟩
  obtain ⟨A1, c1, rfl, _, _, _⟩ := ho.form HK.out
  have HB2 := Lib.hid (below_t HB1.out hb2)
  have H2 := Lib.hid (H1.out.below hb2)
  have HO2 := Lib.hid ho.rd
  have hz2 := HB2.out.size
  clear hb2 ho
  go_wp2_with ((with_reducible refine at_slot 7 ?_); refine Classical.byContradiction (fun hG => ?_))
  refine hG ?_
  clear hG
  refine list_named (S := fun W => Below w.heap.size w W ∧ Blk W s TN (vals n) ∧ Rd encX W (.slice A1 k c1) L ∧ ∃ a, a = w2.heap.size ∧ Blk W a TD [.slice A1 k c1, .int .i64 ag, .int .i64 dl]) ⟨by (repeat' (first | (with_reducible exact Below.refl _ _) | (with_reducible refine Below.setCell ?_ (by (first | omega | (simp; done) | (simp; omega))) _) | (with_reducible refine Below.alloc ?_ (by (first | omega | (simp; done) | (simp; omega))) _) | (with_reducible refine Below.drew ?_) | (with_reducible refine below_drewN ?_ _) | (with_reducible refine Below.trans ?_ (Below.mono HB2.out (by (first | omega | (simp; done) | (simp; omega))))))), by (repeat' (first | (with_reducible exact H2.out) | (with_reducible refine BlkP.Blk.drew ?_) | (with_reducible refine BlkP.Blk.drewN ?_ _) | (with_reducible refine BlkP.Blk.setAt (us := ?_) (by first | omega | (simp; done) | (simp; omega)) rfl ?_ ?_) | (with_reducible refine BlkP.Blk.otherAt ?_ (by first | omega | (simp; done) | (simp; omega))) | (with_reducible refine BlkP.Blk.newA' (by first | omega | (simp; done) | (simp; omega)) rfl) | (with_reducible refine BlkP.Blk.alloc ?_ _) | (exact rfl))), HO2.out.below (by (repeat' (first | (with_reducible exact Below.refl _ _) | (with_reducible refine Below.setCell ?_ (by (first | omega | (simp; done) | (simp; omega))) _) | (with_reducible refine Below.alloc ?_ (by (first | omega | (simp; done) | (simp; omega))) _) | (with_reducible refine Below.drew ?_) | (with_reducible refine below_drewN ?_ _)))), w2.heap.size, rfl, by (repeat' (first | (with_reducible refine BlkP.Blk.drew ?_) | (with_reducible refine BlkP.Blk.drewN ?_ _) | (with_reducible refine BlkP.Blk.setAt (us := ?_) (by first | omega | (simp; done) | (simp; omega)) rfl ?_ ?_) | (with_reducible refine BlkP.Blk.otherAt ?_ (by first | omega | (simp; done) | (simp; omega))) | (with_reducible refine BlkP.Blk.newA' (by first | omega | (simp; done) | (simp; omega)) rfl) | (with_reducible refine BlkP.Blk.alloc ?_ _) | (exact rfl)))⟩ ?_
  rintro w3 ⟨hb3, h3, ho3, a, ha, ha3⟩
  try rw [← ha]
  have HB3 := Lib.hid hb3
  have H3 := Lib.hid h3
  have HO3 := Lib.hid ho3
  have HA3 := Lib.hid ha3
  clear hb3 h3 ho3 ha3 ha hz2
  refine wp_loadN rfl (.tmp 1) rfl rfl (n := n) H3.out ?_
  go_wp2_with fail
  refine (rFire_d HDR.out hd2 HD.out).mono ?_
  rintro e w4 ⟨v, rfl, ho, hb4⟩
  obtain ⟨A2, c2, rfl, _, _, _⟩ := ho.form HK.out
  have HB4 := Lib.hid (below_t HB3.out hb4)
  have HO4 := Lib.hid (HO3.out.below hb4)
  have HA4 := Lib.hid (HA3.out.below hb4)
  have HP4 := Lib.hid ho.rd
  have hz4 := HB4.out.size
  clear hb4 ho
  go_wp2_with ((with_reducible refine at_slot 9 ?_); refine Classical.byContradiction (fun hG => ?_))
  refine hG ?_
  clear hG
  refine list_named (S := fun W => Below w.heap.size w W ∧ Blk W a TD [.slice A1 k c1, .int .i64 ag, .int .i64 dl] ∧ Rd encX W (.slice A1 k c1) L ∧ Rd encX W (.slice A2 k c2) L ∧ ∃ b, b = w4.heap.size ∧ Blk W b TD [.slice A2 k c2, .int .i64 ag, .int .i64 dl]) ⟨by (repeat' (first | (with_reducible exact Below.refl _ _) | (with_reducible refine Below.setCell ?_ (by (first | omega | (simp; done) | (simp; omega))) _) | (with_reducible refine Below.alloc ?_ (by (first | omega | (simp; done) | (simp; omega))) _) | (with_reducible refine Below.drew ?_) | (with_reducible refine below_drewN ?_ _) | (with_reducible refine Below.trans ?_ (Below.mono HB4.out (by (first | omega | (simp; done) | (simp; omega))))))), by (repeat' (first | (with_reducible exact HA4.out) | (with_reducible refine BlkP.Blk.drew ?_) | (with_reducible refine BlkP.Blk.drewN ?_ _) | (with_reducible refine BlkP.Blk.setAt (us := ?_) (by first | omega | (simp; done) | (simp; omega)) rfl ?_ ?_) | (with_reducible refine BlkP.Blk.otherAt ?_ (by first | omega | (simp; done) | (simp; omega))) | (with_reducible refine BlkP.Blk.newA' (by first | omega | (simp; done) | (simp; omega)) rfl) | (with_reducible refine BlkP.Blk.alloc ?_ _) | (exact rfl))), HO4.out.below (by (repeat' (first | (with_reducible exact Below.refl _ _) | (with_reducible refine Below.setCell ?_ (by (first | omega | (simp; done) | (simp; omega))) _) | (with_reducible refine Below.alloc ?_ (by (first | omega | (simp; done) | (simp; omega))) _) | (with_reducible refine Below.drew ?_) | (with_reducible refine below_drewN ?_ _)))), HP4.out.below (by (repeat' (first | (with_reducible exact Below.refl _ _) | (with_reducible refine Below.setCell ?_ (by (first | omega | (simp; done) | (simp; omega))) _) | (with_reducible refine Below.alloc ?_ (by (first | omega | (simp; done) | (simp; omega))) _) | (with_reducible refine Below.drew ?_) | (with_reducible refine below_drewN ?_ _)))), w4.heap.size, rfl, by (repeat' (first | (with_reducible refine BlkP.Blk.drew ?_) | (with_reducible refine BlkP.Blk.drewN ?_ _) | (with_reducible refine BlkP.Blk.setAt (us := ?_) (by first | omega | (simp; done) | (simp; omega)) rfl ?_ ?_) | (with_reducible refine BlkP.Blk.otherAt ?_ (by first | omega | (simp; done) | (simp; omega))) | (with_reducible refine BlkP.Blk.newA' (by first | omega | (simp; done) | (simp; omega)) rfl) | (with_reducible refine BlkP.Blk.alloc ?_ _) | (exact rfl)))⟩ ?_
  rintro w5 ⟨hb5, ha5, ho5, hp5, b, hb, hbb5⟩
  try rw [← hb]
  have HB5 := Lib.hid hb5
  have HO5 := Lib.hid ho5
  have HP5 := Lib.hid hp5
  have a0 := ha5.cell (i := 0) rfl
  have a1 := ha5.cell (i := 1) rfl
  have a2 := ha5.cell (i := 2) rfl
  have b0 := hbb5.cell (i := 0) rfl
  have b1 := hbb5.cell (i := 1) rfl
  have b2 := hbb5.cell (i := 2) rfl
  clear hb5 ha5 ho5 hp5 hb hbb5 hz4
  go_wp2_with fail
  refine (rsame_c HO5.out HP5.out HK.out (by have := HK1.out; omega)).mono ?_
  rintro e w6 ⟨rfl, hb6⟩
  have HB6 := Lib.hid (below_t HB5.out hb6)
  clear hb6 a0 a1 a2 b0 b1 b2
  go_wp2_with fail
  refine (works_c (HT.out.below HB6.out)).mono ?_
  rintro e w7 ⟨rfl, hb7⟩
  have HB7 := Lib.hid (below_t HB6.out hb7)
  clear hb7
  go_wp2_with fail
  go_ret
  exact ⟨by first | rfl | simp, HB7.out⟩
set_option maxRecDepth 100000 in
set_option maxHeartbeats 16000000 in
theorem law_plants {w : World} (hT : KindW.Tab w) (n : Nr) {d : Nat} (hd : n.dr = (d : Int)) (hd2 : d ≤ 18446744073709551615) : Calls Tryd.prog 4 #[nv n] w fun e w' => e = .returned (.bool true) ∧ Below w.heap.size w w' := by
  have HT := Lib.hid hT
  have HDR := Lib.hid hd
  obtain ⟨⟨L, ag, dl⟩, hD⟩ : ∃ D, plant n d = D := ⟨_, rfl⟩
  have HD := Lib.hid hD
  obtain ⟨k, hk⟩ : ∃ k, L.length = k := ⟨_, rfl⟩
  have HK := Lib.hid hk
  have HK1 := Lib.hid (show k ≤ 1 from by have := plant_len n d; rw [hD] at this; simp only at this; omega)
  obtain ⟨s, hs⟩ : ∃ s, w.heap.size = s := ⟨_, rfl⟩
  have HS := Lib.hid hs
  clear hT hd hD hk
  go_enter Tryd.func4, Tryd.ntmps4
  go_wp2_with ((with_reducible refine at_slot 1 ?_); refine Classical.byContradiction (fun hG => ?_))
  refine hG ?_
  clear hG
  refine wp_boxN rfl (.tmp 0) rfl rfl ?_
  intro w1 h1 hb1 hz1
  rw [hs] at h1 hz1
  try rw [hs]
  have HB1 := Lib.hid hb1
  have H1 := Lib.hid h1
  clear h1 hb1 hz1
  go_wp2_with ((with_reducible refine at_slot 5 ?_); refine Classical.byContradiction (fun hG => ?_))
  refine hG ?_
  clear hG
  refine wp_loadN rfl (.tmp 1) rfl rfl (n := n) H1.out ?_
  go_wp2_with fail
  refine (Plant_d (HT.out.below HB1.out) HDR.out hd2 HD.out).mono ?_
  rintro e w2 ⟨v, rfl, ho, hb2⟩
  obtain ⟨A1, c1, rfl, _, _, _⟩ := ho.form HK.out
  have HB2 := Lib.hid (below_t HB1.out hb2)
  have H2 := Lib.hid (H1.out.below hb2)
  have HO2 := Lib.hid ho.rd
  have hz2 := HB2.out.size
  clear hb2 ho
  go_wp2_with ((with_reducible refine at_slot 7 ?_); refine Classical.byContradiction (fun hG => ?_))
  refine hG ?_
  clear hG
  refine list_named (S := fun W => Below w.heap.size w W ∧ Blk W s TN (vals n) ∧ Rd encX W (.slice A1 k c1) L ∧ ∃ a, a = w2.heap.size ∧ Blk W a TD [.slice A1 k c1, .int .i64 ag, .int .i64 dl]) ⟨by (repeat' (first | (with_reducible exact Below.refl _ _) | (with_reducible refine Below.setCell ?_ (by (first | omega | (simp; done) | (simp; omega))) _) | (with_reducible refine Below.alloc ?_ (by (first | omega | (simp; done) | (simp; omega))) _) | (with_reducible refine Below.drew ?_) | (with_reducible refine below_drewN ?_ _) | (with_reducible refine Below.trans ?_ (Below.mono HB2.out (by (first | omega | (simp; done) | (simp; omega))))))), by (repeat' (first | (with_reducible exact H2.out) | (with_reducible refine BlkP.Blk.drew ?_) | (with_reducible refine BlkP.Blk.drewN ?_ _) | (with_reducible refine BlkP.Blk.setAt (us := ?_) (by first | omega | (simp; done) | (simp; omega)) rfl ?_ ?_) | (with_reducible refine BlkP.Blk.otherAt ?_ (by first | omega | (simp; done) | (simp; omega))) | (with_reducible refine BlkP.Blk.newA' (by first | omega | (simp; done) | (simp; omega)) rfl) | (with_reducible refine BlkP.Blk.alloc ?_ _) | (exact rfl))), HO2.out.below (by (repeat' (first | (with_reducible exact Below.refl _ _) | (with_reducible refine Below.setCell ?_ (by (first | omega | (simp; done) | (simp; omega))) _) | (with_reducible refine Below.alloc ?_ (by (first | omega | (simp; done) | (simp; omega))) _) | (with_reducible refine Below.drew ?_) | (with_reducible refine below_drewN ?_ _)))), w2.heap.size, rfl, by (repeat' (first | (with_reducible refine BlkP.Blk.drew ?_) | (with_reducible refine BlkP.Blk.drewN ?_ _) | (with_reducible refine BlkP.Blk.setAt (us := ?_) (by first | omega | (simp; done) | (simp; omega)) rfl ?_ ?_) | (with_reducible refine BlkP.Blk.otherAt ?_ (by first | omega | (simp; done) | (simp; omega))) | (with_reducible refine BlkP.Blk.newA' (by first | omega | (simp; done) | (simp; omega)) rfl) | (with_reducible refine BlkP.Blk.alloc ?_ _) | (exact rfl)))⟩ ?_
  rintro w3 ⟨hb3, h3, ho3, a, ha, ha3⟩
  try rw [← ha]
  have HB3 := Lib.hid hb3
  have H3 := Lib.hid h3
  have HO3 := Lib.hid ho3
  have HA3 := Lib.hid ha3
  clear hb3 h3 ho3 ha3 ha hz2
  refine wp_loadN rfl (.tmp 1) rfl rfl (n := n) H3.out ?_
  go_wp2_with fail
  refine (rPlant_d HDR.out hd2 HD.out).mono ?_
  rintro e w4 ⟨v, rfl, ho, hb4⟩
  obtain ⟨A2, c2, rfl, _, _, _⟩ := ho.form HK.out
  have HB4 := Lib.hid (below_t HB3.out hb4)
  have HO4 := Lib.hid (HO3.out.below hb4)
  have HA4 := Lib.hid (HA3.out.below hb4)
  have HP4 := Lib.hid ho.rd
  have hz4 := HB4.out.size
  clear hb4 ho
  go_wp2_with ((with_reducible refine at_slot 9 ?_); refine Classical.byContradiction (fun hG => ?_))
  refine hG ?_
  clear hG
  refine list_named (S := fun W => Below w.heap.size w W ∧ Blk W a TD [.slice A1 k c1, .int .i64 ag, .int .i64 dl] ∧ Rd encX W (.slice A1 k c1) L ∧ Rd encX W (.slice A2 k c2) L ∧ ∃ b, b = w4.heap.size ∧ Blk W b TD [.slice A2 k c2, .int .i64 ag, .int .i64 dl]) ⟨by (repeat' (first | (with_reducible exact Below.refl _ _) | (with_reducible refine Below.setCell ?_ (by (first | omega | (simp; done) | (simp; omega))) _) | (with_reducible refine Below.alloc ?_ (by (first | omega | (simp; done) | (simp; omega))) _) | (with_reducible refine Below.drew ?_) | (with_reducible refine below_drewN ?_ _) | (with_reducible refine Below.trans ?_ (Below.mono HB4.out (by (first | omega | (simp; done) | (simp; omega))))))), by (repeat' (first | (with_reducible exact HA4.out) | (with_reducible refine BlkP.Blk.drew ?_) | (with_reducible refine BlkP.Blk.drewN ?_ _) | (with_reducible refine BlkP.Blk.setAt (us := ?_) (by first | omega | (simp; done) | (simp; omega)) rfl ?_ ?_) | (with_reducible refine BlkP.Blk.otherAt ?_ (by first | omega | (simp; done) | (simp; omega))) | (with_reducible refine BlkP.Blk.newA' (by first | omega | (simp; done) | (simp; omega)) rfl) | (with_reducible refine BlkP.Blk.alloc ?_ _) | (exact rfl))), HO4.out.below (by (repeat' (first | (with_reducible exact Below.refl _ _) | (with_reducible refine Below.setCell ?_ (by (first | omega | (simp; done) | (simp; omega))) _) | (with_reducible refine Below.alloc ?_ (by (first | omega | (simp; done) | (simp; omega))) _) | (with_reducible refine Below.drew ?_) | (with_reducible refine below_drewN ?_ _)))), HP4.out.below (by (repeat' (first | (with_reducible exact Below.refl _ _) | (with_reducible refine Below.setCell ?_ (by (first | omega | (simp; done) | (simp; omega))) _) | (with_reducible refine Below.alloc ?_ (by (first | omega | (simp; done) | (simp; omega))) _) | (with_reducible refine Below.drew ?_) | (with_reducible refine below_drewN ?_ _)))), w4.heap.size, rfl, by (repeat' (first | (with_reducible refine BlkP.Blk.drew ?_) | (with_reducible refine BlkP.Blk.drewN ?_ _) | (with_reducible refine BlkP.Blk.setAt (us := ?_) (by first | omega | (simp; done) | (simp; omega)) rfl ?_ ?_) | (with_reducible refine BlkP.Blk.otherAt ?_ (by first | omega | (simp; done) | (simp; omega))) | (with_reducible refine BlkP.Blk.newA' (by first | omega | (simp; done) | (simp; omega)) rfl) | (with_reducible refine BlkP.Blk.alloc ?_ _) | (exact rfl)))⟩ ?_
  rintro w5 ⟨hb5, ha5, ho5, hp5, b, hb, hbb5⟩
  try rw [← hb]
  have HB5 := Lib.hid hb5
  have HO5 := Lib.hid ho5
  have HP5 := Lib.hid hp5
  have a0 := ha5.cell (i := 0) rfl
  have a1 := ha5.cell (i := 1) rfl
  have a2 := ha5.cell (i := 2) rfl
  have b0 := hbb5.cell (i := 0) rfl
  have b1 := hbb5.cell (i := 1) rfl
  have b2 := hbb5.cell (i := 2) rfl
  clear hb5 ha5 ho5 hp5 hb hbb5 hz4
  go_wp2_with fail
  refine (rsame_c HO5.out HP5.out HK.out (by have := HK1.out; omega)).mono ?_
  rintro e w6 ⟨rfl, hb6⟩
  have HB6 := Lib.hid (below_t HB5.out hb6)
  clear hb6 a0 a1 a2 b0 b1 b2
  go_wp2_with fail
  refine (works_c (HT.out.below HB6.out)).mono ?_
  rintro e w7 ⟨rfl, hb7⟩
  have HB7 := Lib.hid (below_t HB6.out hb7)
  clear hb7
  go_wp2_with fail
  go_ret
  exact ⟨by first | rfl | simp, HB7.out⟩
end BurnW
end Go.Proofs.YtlidcefmpoelkaaDoor
