/-
  BurnTakes: each side of a fire that burns, there being no water beside, is set on fire by the draw of its direction.
-/
import Derived.Test.YtlidcefmpoelkaaDoorBurnLaw4
import Derived.Test.YtlidcefmpoelkaaDoorBurnLaw6
namespace Go.Proofs.YtlidcefmpoelkaaDoor
open Go.RowKit
set_option linter.unusedVariables false
set_option linter.unusedSimpArgs false
namespace BurnW
open BlkP RowG FrS PushG CellsW NearW BurnP
theorem takes {n : Nr} {l d q : Nat} (hl : l ≤ 1) (hq : d % 6 = q) (hw : ∀ i, i < 6 → (n.sd i).1 ≠ 13) (hm : KindP.may (n.sd q).1 (n.sd q).2 = true) (hb : KindP.burns (n.sd q).1 = true) {x : Int} : fire {n with s := (14, l), dr := x} d = ⟨[(q + 1, flame (n.sd q).1)], 3, - mv (n.sd q).1⟩ := by
  have h1 : kd (14, l) = 14 := by
    have : ∀ l, l ≤ 1 → kd (14, l) = 14 := by decide
    exact this l hl
  have hwet : wet n = false := any_no (fun i hi => by
    unfold isWater kd
    split
    · simp
      exact hw i hi
    · rfl)
  have hk : kd (n.sd q) = (n.sd q).1 := by
    unfold kd
    rw [if_pos hm]
  unfold fire
  rw [if_pos h1, if_neg (show ¬ wet {n with s := (14, l), dr := x} = true from by
    show ¬ wet n = true
    rw [hwet]
    simp), if_pos (show isFuel (n.sd (d % 6)) = true from by
    unfold isFuel
    rw [hq, hk]
    exact hb)]
  unfold burn1
  simp only [hq, hk]
set_option maxRecDepth 100000 in
set_option maxHeartbeats 32000000 in
theorem law_takes {w : World} (hT : KindW.Tab w) (n : Nr) (dir more : Nat) : Calls Tryd.prog 8 #[nv n, .int .u8 (dir : Int), .int .u64 (more : Int)] w fun e w' => e = .returned (.bool true) ∧ Below w.heap.size w w' := by
  have HT := Lib.hid hT
  obtain ⟨s, hs⟩ : ∃ s, w.heap.size = s := ⟨_, rfl⟩
  have HS := Lib.hid hs
  obtain ⟨⟨k0, l0⟩, hs0⟩ : ∃ c, n.s = c := ⟨_, rfl⟩
  have HS0 := Lib.hid hs0
  obtain ⟨lv, hlv⟩ : ∃ l, l0 % 2 = l := ⟨_, rfl⟩
  obtain ⟨q, hq⟩ : ∃ q, dir % 6 = q := ⟨_, rfl⟩
  obtain ⟨m, hm⟩ : ∃ m, more % 1000000 = m := ⟨_, rfl⟩
  have HLV := Lib.hid (show (l0 : Int) % 2 = (lv : Int) by omega)
  have HL1 := Lib.hid (show lv ≤ 1 by omega)
  have HQ := Lib.hid (show (dir : Int) % 6 = (q : Int) by omega)
  have hq6 : q < 6 := by omega
  have hq6I : (q : Int) < 6 := by omega
  have HM := Lib.hid (show (more : Int) % 1000000 = (m : Int) by omega)
  have HM6 := Lib.hid (show m ≤ 999999 by omega)
  obtain ⟨dd, hdd⟩ : ∃ d, m * 6 + q = d := ⟨_, rfl⟩
  have HDD := Lib.hid (show ((m : Int) * 6 + (q : Int)) = (dd : Int) by omega)
  have HDQ := Lib.hid (show dd % 6 = q by omega)
  have HD2 := Lib.hid (show dd ≤ 18446744073709551615 by omega)
  clear hT hs0 hlv hq hm hdd
  go_enter Tryd.func8, Tryd.ntmps8
  go_wp2_with ((with_reducible refine at_slot 3 ?_); refine Classical.byContradiction (fun hG => ?_))
  refine hG ?_
  clear hG
  refine wp_boxN rfl (.tmp 0) rfl rfl ?_
  intro w1 h1 hb1 hz1
  rw [hs] at h1 hz1
  try rw [hs]
  have HB1 := Lib.hid hb1
  have H1 := Lib.hid h1
  have c0 := h1.cell (i := 0) (g_kind n)
  have c1 := h1.cell (i := 1) (g_lev n)
  rw [HS0.out] at c0 c1
  simp only at c0 c1
  have f0 := h1.frozen 0
  have f1 := h1.frozen 1
  have f23 := h1.frozen 23
  have c23 : w1.cell? ⟨s, 23, none⟩ = some (.int .u64 n.dr) := h1.cell rfl
  have ls := h1.lt
  clear h1 hb1 hz1
  go_wp2_with ((with_reducible refine at_slot 19 ?_); refine Classical.byContradiction (fun hG => ?_))
  refine hG ?_
  clear hG
  rw [HLV.out]
  go_wp2_with ((with_reducible refine at_slot 22 ?_); refine Classical.byContradiction (fun hG => ?_))
  refine hG ?_
  clear hG
  rw [HQ.out]
  go_wp2_with ((with_reducible refine at_slot 23 ?_); refine Classical.byContradiction (fun hG => ?_))
  refine hG ?_
  clear hG
  rw [HM.out]
  have HU1 := Lib.hid (show IntKind.u64.wrap ((m : Int) * 6) = (m : Int) * 6 from wrapU_small (by omega) (by have := HM6.out; omega))
  have HU2 := Lib.hid (show IntKind.u64.wrap ((m : Int) * 6 + (q : Int)) = (dd : Int) from by rw [wrapU_small (by omega) (by have := HM6.out; omega), HDD.out])
  have HU3 := Lib.hid (show IntKind.u64.wrap (q : Int) = (q : Int) from wrapU_small (by omega) (by omega))
  go_wp2_with ((with_reducible refine at_slot 27 ?_); refine Classical.byContradiction (fun hG => ?_))
  refine hG ?_
  clear hG
  rw [HU1.out, HU2.out]
  go_wp2_with fail
  refine HeldP.wp_named (S := fun W => Below w.heap.size w W ∧ Blk W s TN (vals {n with s := (14, lv), dr := (dd : Int)})) ⟨by have := HS.out; (repeat' (first | (with_reducible exact Below.refl _ _) | (with_reducible refine Below.setCell ?_ (by (first | omega | (simp; done) | (simp; omega))) _) | (with_reducible refine Below.alloc ?_ (by (first | omega | (simp; done) | (simp; omega))) _) | (with_reducible refine Below.drew ?_) | (with_reducible refine below_drewN ?_ _) | (with_reducible refine Below.trans ?_ (Below.mono HB1.out (by (first | omega | (simp; done) | (simp; omega))))))), by (repeat' (first | (with_reducible exact H1.out) | (with_reducible refine BlkP.Blk.drew ?_) | (with_reducible refine BlkP.Blk.drewN ?_ _) | (with_reducible refine BlkP.Blk.setAt (us := ?_) (by first | omega | (simp; done) | (simp; omega)) rfl ?_ ?_) | (with_reducible refine BlkP.Blk.otherAt ?_ (by first | omega | (simp; done) | (simp; omega))) | (with_reducible refine BlkP.Blk.newA' (by first | omega | (simp; done) | (simp; omega)) rfl) | (with_reducible refine BlkP.Blk.alloc ?_ _) | (exact rfl)))⟩ ?_
  clear c0 c1 c23 f0 f1 f23 ls
  rintro w2 ⟨hb2, h2⟩
  have HB2 := Lib.hid hb2
  have H2 := Lib.hid h2
  clear hb2 h2
  go_loopw [8] (fun v8 wr => ∃ j : Nat, v8 = .int .i64 (j : Nat) ∧ (∀ i, i < j → (n.sd i).1 ≠ 13) ∧ j ≤ 6 ∧ Below w2.heap.size w2 wr) (fun v _ => 6 - (intOf v).toNat)
  case atStart => exact ⟨0, rfl, fun i hi => absurd hi (by omega), by omega, Below.refl _ _⟩
  case round =>
    obtain ⟨j, rfl, hall, hj, hbr⟩ := hrel
    have HALL := Lib.hid hall
    have HBR := Lib.hid hbr
    have HB9 := Lib.hid (below_t HB2.out hbr)
    have H9 := Lib.hid (H2.out.below hbr)
    have ls := H9.out.lt
    by_cases hjl : j < 6
    · have hjI : (j : Int) < 6 := by omega
      have HWR := Lib.hid (show wrap64 ((j : Int) + 1) = ((j + 1 : Nat) : Int) by rw [wr64 (by omega) (by omega)]; omega)
      obtain ⟨⟨kj, lj⟩, hkj⟩ : ∃ c, n.sd j = c := ⟨_, rfl⟩
      have HKJ := Lib.hid hkj
      have a0 := H9.out.cell (g_sk {n with s := (14, lv), dr := (dd : Int)} (d := j) (by omega))
      rw [show ({n with s := (14, lv), dr := (dd : Int)} : Nr).sd j = (kj, lj) from hkj] at a0
      simp only at a0
      clear hbr hkj hall
      by_cases h13 : kj = 13
      · have hkI : ((kj : Int) == 13) = true := by simp; omega
        clear h13
        go_wp2_with fail
        refine (works_c (HT.out.below HB9.out)).mono ?_
        rintro e w8 ⟨rfl, hb8⟩
        have HB8 := Lib.hid (below_t HB9.out hb8)
        clear hb8
        go_wp2_with fail
        go_ret
        exact ⟨by first | rfl | simp, HS.out ▸ HB8.out⟩
      · have hkI : ((kj : Int) == 13) = false := by simp; omega
        have HNE := Lib.hid h13
        clear h13
        go_wp2_with fail
        go_roundw
        case rel =>
          refine ⟨j + 1, by first | rfl | rw [HWR.out] | (congr 1; omega), fun i hi => ?_, by omega, HBR.out⟩
          by_cases hij : i < j
          · exact HALL.out i hij
          · obtain rfl : i = j := by omega
            rw [HKJ.out]
            exact HNE.out
        case measure =>
          simp only [intOf]
          omega
    · have hje : j = 6 := by omega
      have hjI : ¬ (j : Int) < 6 := by omega
      subst hje
      obtain ⟨⟨kq, lq⟩, hkq⟩ : ∃ c, n.sd q = c := ⟨_, rfl⟩
      have HKQ := Lib.hid hkq
      have a0 := H9.out.cell (g_sk {n with s := (14, lv), dr := (dd : Int)} (d := q) (by omega))
      have a1 := H9.out.cell (g_sl {n with s := (14, lv), dr := (dd : Int)} (d := q) (by omega))
      rw [show ({n with s := (14, lv), dr := (dd : Int)} : Nr).sd q = (kq, lq) from hkq] at a0 a1
      simp only at a0 a1
      clear hbr hkq hall
      obtain ⟨bc, hbc⟩ : ∃ b, wr.heap.size = b := ⟨_, rfl⟩
      rw [hbc] at ls
      go_wp2_with ((with_reducible refine at_slot 43 ?_); refine Classical.byContradiction (fun hG => ?_))
      refine hG ?_
      clear hG
      refine list_named (S := fun W => Below w.heap.size w W ∧ Blk W s TN (vals {n with s := (14, lv), dr := (dd : Int)}) ∧ Blk W bc TC [.int .u8 (kq : Int), .int .u8 (lq : Int)]) ⟨by have := HS.out; have := HB9.out.size; (repeat' (first | (with_reducible exact Below.refl _ _) | (with_reducible refine Below.setCell ?_ (by (first | omega | (simp; done) | (simp; omega))) _) | (with_reducible refine Below.alloc ?_ (by (first | omega | (simp; done) | (simp; omega))) _) | (with_reducible refine Below.drew ?_) | (with_reducible refine below_drewN ?_ _) | (with_reducible refine Below.trans ?_ (Below.mono HB9.out (by (first | omega | (simp; done) | (simp; omega))))))), by (repeat' (first | (with_reducible exact H9.out) | (with_reducible refine BlkP.Blk.drew ?_) | (with_reducible refine BlkP.Blk.drewN ?_ _) | (with_reducible refine BlkP.Blk.setAt (us := ?_) (by first | omega | (simp; done) | (simp; omega)) rfl ?_ ?_) | (with_reducible refine BlkP.Blk.otherAt ?_ (by first | omega | (simp; done) | (simp; omega))) | (with_reducible refine BlkP.Blk.newA' (by first | omega | (simp; done) | (simp; omega)) rfl) | (with_reducible refine BlkP.Blk.alloc ?_ _) | (exact rfl))), by subst hbc; (repeat' (first | (with_reducible refine BlkP.Blk.drew ?_) | (with_reducible refine BlkP.Blk.drewN ?_ _) | (with_reducible refine BlkP.Blk.setAt (us := ?_) (by first | omega | (simp; done) | (simp; omega)) rfl ?_ ?_) | (with_reducible refine BlkP.Blk.otherAt ?_ (by first | omega | (simp; done) | (simp; omega))) | (with_reducible refine BlkP.Blk.newA' (by first | omega | (simp; done) | (simp; omega)) rfl) | (with_reducible refine BlkP.Blk.alloc ?_ _) | (exact rfl)))⟩ ?_
      rintro w3 ⟨hb3, h3, hc3⟩
      try rw [hbc]
      have HB3 := Lib.hid hb3
      have H3 := Lib.hid h3
      have HC3 := Lib.hid hc3
      have e0 := hc3.cell (i := 0) rfl
      have e1 := hc3.cell (i := 1) rfl
      have le := hc3.lt
      clear hb3 h3 hc3 a0 a1 ls hbc
      obtain ⟨mb, hmb⟩ : ∃ r, KindP.may kq lq = r := ⟨_, rfl⟩
      have HMB := Lib.hid hmb
      clear hmb
      go_wp2_with fail
      refine (KindW.k_may_b HMB.out _ (HT.out.below HB3.out)).mono ?_
      rintro e w4 ⟨rfl, hb4⟩
      have HB4 := Lib.hid (below_t HB3.out hb4)
      have H4 := Lib.hid (H3.out.below hb4)
      have hc4 := HC3.out.below hb4
      have e0 := hc4.cell (i := 0) rfl
      have e1 := hc4.cell (i := 1) rfl
      have le := hc4.lt
      clear hb4 hc4
      cases mb with
      | false =>
        go_wp2_with fail
        refine (works_c (HT.out.below HB4.out)).mono ?_
        rintro e w8 ⟨rfl, hb8⟩
        have HB8 := Lib.hid (below_t HB4.out hb8)
        clear hb8
        go_wp2_with fail
        go_ret
        exact ⟨by first | rfl | simp, HS.out ▸ HB8.out⟩
      | true =>
        obtain ⟨bb, hbb⟩ : ∃ r, KindP.burns kq = r := ⟨_, rfl⟩
        have HBB := Lib.hid hbb
        go_wp2_with fail
        refine (KindW.k_burns kq _ (HT.out.below HB4.out)).mono ?_
        rw [HBB.out]
        rintro e w5 ⟨rfl, rfl⟩
        cases bb with
        | false =>
          clear hbb
          go_wp2_with fail
          refine (works_c (HT.out.below HB4.out)).mono ?_
          rintro e w8 ⟨rfl, hb8⟩
          have HB8 := Lib.hid (below_t HB4.out hb8)
          clear hb8
          go_wp2_with fail
          go_ret
          exact ⟨by first | rfl | simp, HS.out ▸ HB8.out⟩
        | true =>
          have HF := Lib.hid (takes (n := n) (x := (dd : Int)) HL1.out HDQ.out HALL.out (by rw [HKQ.out]; exact HMB.out) (by rw [HKQ.out]; exact HBB.out))
          rcases burns_in hbb with rfl | rfl | rfl
          · clear hbb
            go_wp2_with ((with_reducible refine at_slot 56 ?_); refine Classical.byContradiction (fun hG => ?_))
            refine hG ?_
            clear hG
            refine wp_loadN rfl (.tmp 3) rfl rfl (n := {n with s := (14, lv), dr := (dd : Int)}) H4.out ?_
            go_wp2_with fail
            refine (Fire_d (n := {n with s := (14, lv), dr := (dd : Int)}) (d := dd) (D := ⟨[(q + 1, (14, 1))], 3, -1⟩) (HT.out.below HB4.out) rfl HD2.out (by rw [HF.out, HKQ.out]; rfl)).mono ?_
            rintro e w6 ⟨v, rfl, ho, hb6⟩
            obtain ⟨A1, cap, rfl, _, _, hAA⟩ := ho.form (n := 1) rfl
            obtain ⟨g, rfl, hg1, hg2⟩ := hAA (by omega)
            have HB6 := Lib.hid (below_t HB4.out hb6)
            have p0 : w6.cell? ⟨g, 0, none⟩ = some (.int .i64 ((q : Int) + 1)) := by
              have := ho.cell (i := 0) (j := 0) rfl rfl
              rw [show ((q : Int) + 1) = ((q + 1 : Nat) : Int) from by omega]
              exact this
            have p1 : w6.cell? ⟨g, 1, none⟩ = some (.int .u8 14) := ho.cell (i := 0) (j := 1) rfl rfl
            have p2 : w6.cell? ⟨g, 2, none⟩ = some (.int .u8 1) := ho.cell (i := 0) (j := 2) rfl rfl
            have hgn : g ≠ w6.heap.size := by omega
            have hz6 := HB6.out.size
            clear hb6 ho hAA hg1 e0 e1 le
            go_wp2_with fail
            refine (works_c (HT.out.below (by have := HS.out; (repeat' (first | (with_reducible exact Below.refl _ _) | (with_reducible refine Below.setCell ?_ (by (first | omega | (simp; done) | (simp; omega))) _) | (with_reducible refine Below.alloc ?_ (by (first | omega | (simp; done) | (simp; omega))) _) | (with_reducible refine Below.drew ?_) | (with_reducible refine below_drewN ?_ _) | (with_reducible refine Below.trans ?_ (Below.mono HB6.out (by (first | omega | (simp; done) | (simp; omega)))))))))).mono ?_
            rintro e w8 ⟨rfl, hb8⟩
            have HB8 := Lib.hid (show Below w.heap.size w w8 by have := HS.out; (repeat' (first | (with_reducible exact Below.refl _ _) | (with_reducible refine Below.setCell ?_ (by (first | omega | (simp; done) | (simp; omega))) _) | (with_reducible refine Below.alloc ?_ (by (first | omega | (simp; done) | (simp; omega))) _) | (with_reducible refine Below.drew ?_) | (with_reducible refine below_drewN ?_ _) | (with_reducible refine Below.trans ?_ (Below.mono HB6.out (by (first | omega | (simp; done) | (simp; omega))))) | (with_reducible refine Below.trans ?_ (Below.mono hb8 (by (first | omega | (simp; done) | (simp; omega))))))))
            clear hb8
            go_wp2_with fail
            go_ret
            exact ⟨by first | rfl | simp, HS.out ▸ HB8.out⟩
          · clear hbb
            go_wp2_with ((with_reducible refine at_slot 56 ?_); refine Classical.byContradiction (fun hG => ?_))
            refine hG ?_
            clear hG
            refine wp_loadN rfl (.tmp 3) rfl rfl (n := {n with s := (14, lv), dr := (dd : Int)}) H4.out ?_
            go_wp2_with fail
            refine (Fire_d (n := {n with s := (14, lv), dr := (dd : Int)}) (d := dd) (D := ⟨[(q + 1, (14, 0))], 3, -1⟩) (HT.out.below HB4.out) rfl HD2.out (by rw [HF.out, HKQ.out]; rfl)).mono ?_
            rintro e w6 ⟨v, rfl, ho, hb6⟩
            obtain ⟨A1, cap, rfl, _, _, hAA⟩ := ho.form (n := 1) rfl
            obtain ⟨g, rfl, hg1, hg2⟩ := hAA (by omega)
            have HB6 := Lib.hid (below_t HB4.out hb6)
            have p0 : w6.cell? ⟨g, 0, none⟩ = some (.int .i64 ((q : Int) + 1)) := by
              have := ho.cell (i := 0) (j := 0) rfl rfl
              rw [show ((q : Int) + 1) = ((q + 1 : Nat) : Int) from by omega]
              exact this
            have p1 : w6.cell? ⟨g, 1, none⟩ = some (.int .u8 14) := ho.cell (i := 0) (j := 1) rfl rfl
            have p2 : w6.cell? ⟨g, 2, none⟩ = some (.int .u8 0) := ho.cell (i := 0) (j := 2) rfl rfl
            have hgn : g ≠ w6.heap.size := by omega
            have hz6 := HB6.out.size
            clear hb6 ho hAA hg1 e0 e1 le
            go_wp2_with fail
            refine (works_c (HT.out.below (by have := HS.out; (repeat' (first | (with_reducible exact Below.refl _ _) | (with_reducible refine Below.setCell ?_ (by (first | omega | (simp; done) | (simp; omega))) _) | (with_reducible refine Below.alloc ?_ (by (first | omega | (simp; done) | (simp; omega))) _) | (with_reducible refine Below.drew ?_) | (with_reducible refine below_drewN ?_ _) | (with_reducible refine Below.trans ?_ (Below.mono HB6.out (by (first | omega | (simp; done) | (simp; omega)))))))))).mono ?_
            rintro e w8 ⟨rfl, hb8⟩
            have HB8 := Lib.hid (show Below w.heap.size w w8 by have := HS.out; (repeat' (first | (with_reducible exact Below.refl _ _) | (with_reducible refine Below.setCell ?_ (by (first | omega | (simp; done) | (simp; omega))) _) | (with_reducible refine Below.alloc ?_ (by (first | omega | (simp; done) | (simp; omega))) _) | (with_reducible refine Below.drew ?_) | (with_reducible refine below_drewN ?_ _) | (with_reducible refine Below.trans ?_ (Below.mono HB6.out (by (first | omega | (simp; done) | (simp; omega))))) | (with_reducible refine Below.trans ?_ (Below.mono hb8 (by (first | omega | (simp; done) | (simp; omega))))))))
            clear hb8
            go_wp2_with fail
            go_ret
            exact ⟨by first | rfl | simp, HS.out ▸ HB8.out⟩
          · clear hbb
            go_wp2_with ((with_reducible refine at_slot 56 ?_); refine Classical.byContradiction (fun hG => ?_))
            refine hG ?_
            clear hG
            refine wp_loadN rfl (.tmp 3) rfl rfl (n := {n with s := (14, lv), dr := (dd : Int)}) H4.out ?_
            go_wp2_with fail
            refine (Fire_d (n := {n with s := (14, lv), dr := (dd : Int)}) (d := dd) (D := ⟨[(q + 1, (14, 0))], 3, 0⟩) (HT.out.below HB4.out) rfl HD2.out (by rw [HF.out, HKQ.out]; rfl)).mono ?_
            rintro e w6 ⟨v, rfl, ho, hb6⟩
            obtain ⟨A1, cap, rfl, _, _, hAA⟩ := ho.form (n := 1) rfl
            obtain ⟨g, rfl, hg1, hg2⟩ := hAA (by omega)
            have HB6 := Lib.hid (below_t HB4.out hb6)
            have p0 : w6.cell? ⟨g, 0, none⟩ = some (.int .i64 ((q : Int) + 1)) := by
              have := ho.cell (i := 0) (j := 0) rfl rfl
              rw [show ((q : Int) + 1) = ((q + 1 : Nat) : Int) from by omega]
              exact this
            have p1 : w6.cell? ⟨g, 1, none⟩ = some (.int .u8 14) := ho.cell (i := 0) (j := 1) rfl rfl
            have p2 : w6.cell? ⟨g, 2, none⟩ = some (.int .u8 0) := ho.cell (i := 0) (j := 2) rfl rfl
            have hgn : g ≠ w6.heap.size := by omega
            have hz6 := HB6.out.size
            clear hb6 ho hAA hg1 e0 e1 le
            go_wp2_with fail
            refine (works_c (HT.out.below (by have := HS.out; (repeat' (first | (with_reducible exact Below.refl _ _) | (with_reducible refine Below.setCell ?_ (by (first | omega | (simp; done) | (simp; omega))) _) | (with_reducible refine Below.alloc ?_ (by (first | omega | (simp; done) | (simp; omega))) _) | (with_reducible refine Below.drew ?_) | (with_reducible refine below_drewN ?_ _) | (with_reducible refine Below.trans ?_ (Below.mono HB6.out (by (first | omega | (simp; done) | (simp; omega)))))))))).mono ?_
            rintro e w8 ⟨rfl, hb8⟩
            have HB8 := Lib.hid (show Below w.heap.size w w8 by have := HS.out; (repeat' (first | (with_reducible exact Below.refl _ _) | (with_reducible refine Below.setCell ?_ (by (first | omega | (simp; done) | (simp; omega))) _) | (with_reducible refine Below.alloc ?_ (by (first | omega | (simp; done) | (simp; omega))) _) | (with_reducible refine Below.drew ?_) | (with_reducible refine below_drewN ?_ _) | (with_reducible refine Below.trans ?_ (Below.mono HB6.out (by (first | omega | (simp; done) | (simp; omega))))) | (with_reducible refine Below.trans ?_ (Below.mono hb8 (by (first | omega | (simp; done) | (simp; omega))))))))
            clear hb8
            go_wp2_with fail
            go_ret
            exact ⟨by first | rfl | simp, HS.out ▸ HB8.out⟩
end BurnW
end Go.Proofs.YtlidcefmpoelkaaDoor
