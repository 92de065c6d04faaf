/-
  BurnOver: fire beside water, and fire beside which nothing burns, is over at once.
-/
import Derived.Test.YtlidcefmpoelkaaDoorBurnLaw1
namespace Go.Proofs.YtlidcefmpoelkaaDoor
open Go.RowKit
set_option linter.unusedVariables false
set_option linter.unusedSimpArgs false
namespace BurnW
open BlkP RowG FrS PushG CellsW NearW BurnP
theorem water_may (k l : Nat) : isWater (k, l) = (KindP.may k l && k == 13) := by
  unfold isWater kd
  cases h : KindP.may k l with
  | true => simp [h]
  | false => simp [h]
theorem fuel_may (k l : Nat) : isFuel (k, l) = (KindP.may k l && KindP.burns k) := by
  unfold isFuel kd
  cases h : KindP.may k l with
  | true => simp [h]
  | false =>
    simp [h]
    decide
theorem over_fire {n : Nr} {l d : Nat} (hl : l ≤ 1) (h : wet n = true ∨ fuel n = false) : fire {n with s := (14, l)} d = ⟨[(0, left l)], 0, mv (left l).1⟩ := by
  have h1 : kd (14, l) = 14 := by
    have : ∀ l, l ≤ 1 → kd (14, l) = 14 := by decide
    exact this l hl
  unfold fire
  rw [if_pos h1]
  by_cases hw : wet n = true
  · rw [if_pos (show wet {n with s := (14, l)} = true from hw)]
    rfl
  · have hf : fuel n = false := by
      rcases h with h | h
      · exact absurd h hw
      · exact h
    rw [if_neg (show ¬ wet {n with s := (14, l)} = true from hw), if_neg (by
      have := any_not (p := isFuel) (f := n.sd) (j := 6) (i := d % 6) hf (Nat.mod_lt _ (by omega))
      show ¬ isFuel (n.sd (d % 6)) = true
      rw [this]
      simp), if_neg (fun q => by
      have : fuel n = true := q.1
      rw [hf] at this
      cases this)]
    rfl
set_option maxRecDepth 100000 in
set_option maxHeartbeats 32000000 in
theorem law_over {w : World} (hT : KindW.Tab w) (n : Nr) {d : Nat} (hd : n.dr = (d : Int)) (hd2 : d ≤ 18446744073709551615) (wood : Bool) : Calls Tryd.prog 7 #[nv n, .bool wood] w fun e w' => e = .returned (.bool true) ∧ Below w.heap.size w w' := by
  have HT := Lib.hid hT
  have HDR := Lib.hid hd
  obtain ⟨s, hs⟩ : ∃ s, w.heap.size = s := ⟨_, rfl⟩
  have HS := Lib.hid hs
  clear hT hd
  cases wood with
  | true =>
    go_enter Tryd.func7, Tryd.ntmps7
    go_wp2_with ((with_reducible refine at_slot 2 ?_); refine Classical.byContradiction (fun hG => ?_))
    refine hG ?_
    clear hG
    refine wp_boxN rfl (.tmp 0) rfl rfl ?_
    intro w1 h1 hb1 hz1
    rw [hs] at h1 hz1
    try rw [hs]
    have HB1 := Lib.hid hb1
    have H1 := Lib.hid h1
    have c0 := h1.cell (i := 0) (g_kind n)
    have c1 := h1.cell (i := 1) (g_lev n)
    have f0 := h1.frozen 0
    have f1 := h1.frozen 1
    have ls := h1.lt
    obtain ⟨bw, hbw⟩ : ∃ b, w1.heap.size = b := ⟨_, rfl⟩
    rw [hbw] at ls
    have HBW := Lib.hid hbw
    clear h1 hb1 hz1
    go_wp2_with fail
    refine HeldP.wp_named (S := fun W => Below w.heap.size w W ∧ Blk W s TN (vals {n with s := (14, 1)}) ∧ Blk W bw TC [.int .u8 8, .int .u8 0]) ⟨by have := HS.out; have := HB1.out.size; (repeat' (first | (with_reducible exact Below.refl _ _) | (with_reducible refine Below.setCell ?_ (by (first | omega | (simp; done) | (simp; omega))) _) | (with_reducible refine Below.alloc ?_ (by (first | omega | (simp; done) | (simp; omega))) _) | (with_reducible refine Below.drew ?_) | (with_reducible refine below_drewN ?_ _) | (with_reducible refine Below.trans ?_ (Below.mono HB1.out (by (first | omega | (simp; done) | (simp; omega))))))), by (repeat' (first | (with_reducible exact H1.out) | (with_reducible refine BlkP.Blk.drew ?_) | (with_reducible refine BlkP.Blk.drewN ?_ _) | (with_reducible refine BlkP.Blk.setAt (us := ?_) (by first | omega | (simp; done) | (simp; omega)) rfl ?_ ?_) | (with_reducible refine BlkP.Blk.otherAt ?_ (by first | omega | (simp; done) | (simp; omega))) | (with_reducible refine BlkP.Blk.newA' (by first | omega | (simp; done) | (simp; omega)) rfl) | (with_reducible refine BlkP.Blk.alloc ?_ _) | (exact rfl))), by (repeat' (first | (with_reducible refine BlkP.Blk.drew ?_) | (with_reducible refine BlkP.Blk.drewN ?_ _) | (with_reducible refine BlkP.Blk.setAt (us := ?_) (by first | omega | (simp; done) | (simp; omega)) rfl ?_ ?_) | (with_reducible refine BlkP.Blk.otherAt ?_ (by first | omega | (simp; done) | (simp; omega))) | (with_reducible refine BlkP.Blk.newA' (by first | omega | (simp; done) | (simp; omega)) rfl) | (with_reducible refine BlkP.Blk.alloc ?_ _) | (exact rfl)))⟩ ?_
    clear c0 c1 f0 f1 ls hbw
    rintro w2 ⟨hb2, h2, hc2⟩
    have HB2 := Lib.hid hb2
    have H2 := Lib.hid h2
    have HC2 := Lib.hid hc2
    clear hb2 h2 hc2
    go_loopw [6, 7, 8] (fun v6 v7 v8 wr => ∃ j : Nat, v8 = .int .i64 (j : Nat) ∧ v6 = .bool (anyTo isWater n.sd j) ∧ v7 = .bool (anyTo isFuel n.sd j) ∧ j ≤ 6 ∧ Below w2.heap.size w2 wr) (fun _ _ v _ => 6 - (intOf v).toNat)
    case atStart => exact ⟨0, rfl, rfl, rfl, by omega, Below.refl _ _⟩
    case round =>
      obtain ⟨j, rfl, rfl, rfl, hj, hbr⟩ := hrel
      have HBR := Lib.hid hbr
      have HB9 := Lib.hid (below_t HB2.out hbr)
      have H9 := Lib.hid (H2.out.below hbr)
      by_cases hjl : j < 6
      · have hjI : (j : Int) < 6 := by omega
        have HWR := Lib.hid (show wrap64 ((j : Int) + 1) = ((j + 1 : Nat) : Int) by rw [wr64 (by omega) (by omega)]; omega)
        obtain ⟨⟨kj, lj⟩, hkj⟩ : ∃ c, n.sd j = c := ⟨_, rfl⟩
        have HKJ := Lib.hid hkj
        have a0 := H9.out.cell (g_sk {n with s := (14, 1)} (d := j) (by omega))
        have a1 := H9.out.cell (g_sl {n with s := (14, 1)} (d := j) (by omega))
        rw [show ({n with s := (14, 1)} : Nr).sd j = (kj, lj) from hkj] at a0 a1
        simp only at a0 a1
        have ls := H9.out.lt
        obtain ⟨wt, hwt⟩ : ∃ r, anyTo isWater n.sd j = r := ⟨_, rfl⟩
        obtain ⟨fu, hfu⟩ : ∃ r, anyTo isFuel n.sd j = r := ⟨_, rfl⟩
        obtain ⟨mb, hmb⟩ : ∃ r, KindP.may kj lj = r := ⟨_, rfl⟩
        obtain ⟨kb, hkb⟩ : ∃ r, (kj == 13) = r := ⟨_, rfl⟩
        obtain ⟨bb, hbb⟩ : ∃ r, KindP.burns kj = r := ⟨_, rfl⟩
        have hkI : ((kj : Int) == 13) = kb := beq_int hkb
        have HMB := Lib.hid hmb
        have HBB := Lib.hid hbb
        have HWA := Lib.hid (show anyTo isWater n.sd (j + 1) = (wt || (mb && kb)) from by simp only [anyTo]; rw [hwt, hkj, water_may, hmb, hkb])
        have HFA := Lib.hid (show anyTo isFuel n.sd (j + 1) = (fu || (mb && bb)) from by simp only [anyTo]; rw [hfu, hkj, fuel_may, hmb, hbb])
        rw [hwt, hfu]
        clear hbr hkj hwt hfu hmb hkb hbb
        cases mb with
        | true =>
          cases wt with
          | true =>
            cases fu with
            | true =>
              have HBZ := HBR
              go_wp2_with fail
              go_roundw
              case rel => exact ⟨j + 1, by first | rfl | rw [HWR.out] | (congr 1; omega), by rw [HWA.out]; first | rfl | (rw [hkI]; rfl), by rw [HFA.out]; rfl, by omega, HBZ.out⟩
              case measure =>
                simp only [intOf]
                omega
            | false =>
              go_wp2_with fail
              refine (KindW.k_may_b HMB.out _ (HT.out.below HB9.out)).mono ?_
              rintro e w4 ⟨rfl, hbx⟩
              have HBR4 := Lib.hid (below_t HBR.out hbx)
              have HB4 := Lib.hid (below_t HB9.out hbx)
              have H4 := Lib.hid (H9.out.below hbx)
              have a0 := H4.out.cell (g_sk {n with s := (14, 1)} (d := j) (by omega))
              have a1 := H4.out.cell (g_sl {n with s := (14, 1)} (d := j) (by omega))
              rw [show ({n with s := (14, 1)} : Nr).sd j = (kj, lj) from HKJ.out] at a0 a1
              simp only at a0 a1
              have ls := H4.out.lt
              clear hbx
              go_wp2_with fail
              refine (KindW.k_burns kj _ (HT.out.below HB4.out)).mono ?_
              rw [HBB.out]
              rintro e w5 ⟨rfl, rfl⟩
              have HBZ := HBR4
              cases bb with
              | true =>
                go_wp2_with fail
                go_roundw
                case rel => exact ⟨j + 1, by first | rfl | rw [HWR.out] | (congr 1; omega), by rw [HWA.out]; first | rfl | (rw [hkI]; rfl), by rw [HFA.out]; rfl, by omega, HBZ.out⟩
                case measure =>
                  simp only [intOf]
                  omega
              | false =>
                go_wp2_with fail
                go_roundw
                case rel => exact ⟨j + 1, by first | rfl | rw [HWR.out] | (congr 1; omega), by rw [HWA.out]; first | rfl | (rw [hkI]; rfl), by rw [HFA.out]; rfl, by omega, HBZ.out⟩
                case measure =>
                  simp only [intOf]
                  omega
          | false =>
            cases fu with
            | true =>
              go_wp2_with fail
              refine (KindW.k_may_b HMB.out _ (HT.out.below HB9.out)).mono ?_
              rintro e w4 ⟨rfl, hbx⟩
              have HBR4 := Lib.hid (below_t HBR.out hbx)
              have HB4 := Lib.hid (below_t HB9.out hbx)
              have H4 := Lib.hid (H9.out.below hbx)
              have a0 := H4.out.cell (g_sk {n with s := (14, 1)} (d := j) (by omega))
              have a1 := H4.out.cell (g_sl {n with s := (14, 1)} (d := j) (by omega))
              rw [show ({n with s := (14, 1)} : Nr).sd j = (kj, lj) from HKJ.out] at a0 a1
              simp only at a0 a1
              have ls := H4.out.lt
              clear hbx
              cases kb with
              | true =>
                have HBZ := HBR4
                go_wp2_with fail
                go_roundw
                case rel => exact ⟨j + 1, by first | rfl | rw [HWR.out] | (congr 1; omega), by rw [HWA.out]; first | rfl | (rw [hkI]; rfl), by rw [HFA.out]; rfl, by omega, HBZ.out⟩
                case measure =>
                  simp only [intOf]
                  omega
              | false =>
                have HBZ := HBR4
                go_wp2_with fail
                go_roundw
                case rel => exact ⟨j + 1, by first | rfl | rw [HWR.out] | (congr 1; omega), by rw [HWA.out]; first | rfl | (rw [hkI]; rfl), by rw [HFA.out]; rfl, by omega, HBZ.out⟩
                case measure =>
                  simp only [intOf]
                  omega
            | false =>
              go_wp2_with fail
              refine (KindW.k_may_b HMB.out _ (HT.out.below HB9.out)).mono ?_
              rintro e w4 ⟨rfl, hbx⟩
              have HBR4 := Lib.hid (below_t HBR.out hbx)
              have HB4 := Lib.hid (below_t HB9.out hbx)
              have H4 := Lib.hid (H9.out.below hbx)
              have a0 := H4.out.cell (g_sk {n with s := (14, 1)} (d := j) (by omega))
              have a1 := H4.out.cell (g_sl {n with s := (14, 1)} (d := j) (by omega))
              rw [show ({n with s := (14, 1)} : Nr).sd j = (kj, lj) from HKJ.out] at a0 a1
              simp only at a0 a1
              have ls := H4.out.lt
              clear hbx
              cases kb with
              | true =>
                go_wp2_with fail
                refine (KindW.k_may_b HMB.out _ (HT.out.below HB4.out)).mono ?_
                rintro e w5 ⟨rfl, hbx⟩
                have HBR5 := Lib.hid (below_t HBR4.out hbx)
                have HB5 := Lib.hid (below_t HB4.out hbx)
                have H5 := Lib.hid (H4.out.below hbx)
                have a0 := H5.out.cell (g_sk {n with s := (14, 1)} (d := j) (by omega))
                have a1 := H5.out.cell (g_sl {n with s := (14, 1)} (d := j) (by omega))
                rw [show ({n with s := (14, 1)} : Nr).sd j = (kj, lj) from HKJ.out] at a0 a1
                simp only at a0 a1
                have ls := H5.out.lt
                clear hbx
                go_wp2_with fail
                refine (KindW.k_burns kj _ (HT.out.below HB5.out)).mono ?_
                rw [HBB.out]
                rintro e w6 ⟨rfl, rfl⟩
                have HBZ := HBR5
                cases bb with
                | true =>
                  go_wp2_with fail
                  go_roundw
                  case rel => exact ⟨j + 1, by first | rfl | rw [HWR.out] | (congr 1; omega), by rw [HWA.out]; first | rfl | (rw [hkI]; rfl), by rw [HFA.out]; rfl, by omega, HBZ.out⟩
                  case measure =>
                    simp only [intOf]
                    omega
                | false =>
                  go_wp2_with fail
                  go_roundw
                  case rel => exact ⟨j + 1, by first | rfl | rw [HWR.out] | (congr 1; omega), by rw [HWA.out]; first | rfl | (rw [hkI]; rfl), by rw [HFA.out]; rfl, by omega, HBZ.out⟩
                  case measure =>
                    simp only [intOf]
                    omega
              | false =>
                go_wp2_with fail
                refine (KindW.k_may_b HMB.out _ (HT.out.below HB4.out)).mono ?_
                rintro e w5 ⟨rfl, hbx⟩
                have HBR5 := Lib.hid (below_t HBR4.out hbx)
                have HB5 := Lib.hid (below_t HB4.out hbx)
                have H5 := Lib.hid (H4.out.below hbx)
                have a0 := H5.out.cell (g_sk {n with s := (14, 1)} (d := j) (by omega))
                have a1 := H5.out.cell (g_sl {n with s := (14, 1)} (d := j) (by omega))
                rw [show ({n with s := (14, 1)} : Nr).sd j = (kj, lj) from HKJ.out] at a0 a1
                simp only at a0 a1
                have ls := H5.out.lt
                clear hbx
                go_wp2_with fail
                refine (KindW.k_burns kj _ (HT.out.below HB5.out)).mono ?_
                rw [HBB.out]
                rintro e w6 ⟨rfl, rfl⟩
                have HBZ := HBR5
                cases bb with
                | true =>
                  go_wp2_with fail
                  go_roundw
                  case rel => exact ⟨j + 1, by first | rfl | rw [HWR.out] | (congr 1; omega), by rw [HWA.out]; first | rfl | (rw [hkI]; rfl), by rw [HFA.out]; rfl, by omega, HBZ.out⟩
                  case measure =>
                    simp only [intOf]
                    omega
                | false =>
                  go_wp2_with fail
                  go_roundw
                  case rel => exact ⟨j + 1, by first | rfl | rw [HWR.out] | (congr 1; omega), by rw [HWA.out]; first | rfl | (rw [hkI]; rfl), by rw [HFA.out]; rfl, by omega, HBZ.out⟩
                  case measure =>
                    simp only [intOf]
                    omega
        | false =>
          cases wt with
          | true =>
            cases fu with
            | true =>
              have HBZ := HBR
              go_wp2_with fail
              go_roundw
              case rel => exact ⟨j + 1, by first | rfl | rw [HWR.out] | (congr 1; omega), by rw [HWA.out]; first | rfl | (rw [hkI]; rfl), by rw [HFA.out]; rfl, by omega, HBZ.out⟩
              case measure =>
                simp only [intOf]
                omega
            | false =>
              go_wp2_with fail
              refine (KindW.k_may_b HMB.out _ (HT.out.below HB9.out)).mono ?_
              rintro e w4 ⟨rfl, hbx⟩
              have HBR4 := Lib.hid (below_t HBR.out hbx)
              have HB4 := Lib.hid (below_t HB9.out hbx)
              have H4 := Lib.hid (H9.out.below hbx)
              have a0 := H4.out.cell (g_sk {n with s := (14, 1)} (d := j) (by omega))
              have a1 := H4.out.cell (g_sl {n with s := (14, 1)} (d := j) (by omega))
              rw [show ({n with s := (14, 1)} : Nr).sd j = (kj, lj) from HKJ.out] at a0 a1
              simp only at a0 a1
              have ls := H4.out.lt
              clear hbx
              have HBZ := HBR4
              go_wp2_with fail
              go_roundw
              case rel => exact ⟨j + 1, by first | rfl | rw [HWR.out] | (congr 1; omega), by rw [HWA.out]; first | rfl | (rw [hkI]; rfl), by rw [HFA.out]; rfl, by omega, HBZ.out⟩
              case measure =>
                simp only [intOf]
                omega
          | false =>
            cases fu with
            | true =>
              go_wp2_with fail
              refine (KindW.k_may_b HMB.out _ (HT.out.below HB9.out)).mono ?_
              rintro e w4 ⟨rfl, hbx⟩
              have HBR4 := Lib.hid (below_t HBR.out hbx)
              have HB4 := Lib.hid (below_t HB9.out hbx)
              have H4 := Lib.hid (H9.out.below hbx)
              have a0 := H4.out.cell (g_sk {n with s := (14, 1)} (d := j) (by omega))
              have a1 := H4.out.cell (g_sl {n with s := (14, 1)} (d := j) (by omega))
              rw [show ({n with s := (14, 1)} : Nr).sd j = (kj, lj) from HKJ.out] at a0 a1
              simp only at a0 a1
              have ls := H4.out.lt
              clear hbx
              have HBZ := HBR4
              go_wp2_with fail
              go_roundw
              case rel => exact ⟨j + 1, by first | rfl | rw [HWR.out] | (congr 1; omega), by rw [HWA.out]; first | rfl | (rw [hkI]; rfl), by rw [HFA.out]; rfl, by omega, HBZ.out⟩
              case measure =>
                simp only [intOf]
                omega
            | false =>
              go_wp2_with fail
              refine (KindW.k_may_b HMB.out _ (HT.out.below HB9.out)).mono ?_
              rintro e w4 ⟨rfl, hbx⟩
              have HBR4 := Lib.hid (below_t HBR.out hbx)
              have HB4 := Lib.hid (below_t HB9.out hbx)
              have H4 := Lib.hid (H9.out.below hbx)
              have a0 := H4.out.cell (g_sk {n with s := (14, 1)} (d := j) (by omega))
              have a1 := H4.out.cell (g_sl {n with s := (14, 1)} (d := j) (by omega))
              rw [show ({n with s := (14, 1)} : Nr).sd j = (kj, lj) from HKJ.out] at a0 a1
              simp only at a0 a1
              have ls := H4.out.lt
              clear hbx
              go_wp2_with fail
              refine (KindW.k_may_b HMB.out _ (HT.out.below HB4.out)).mono ?_
              rintro e w5 ⟨rfl, hbx⟩
              have HBR5 := Lib.hid (below_t HBR4.out hbx)
              have HB5 := Lib.hid (below_t HB4.out hbx)
              have H5 := Lib.hid (H4.out.below hbx)
              have a0 := H5.out.cell (g_sk {n with s := (14, 1)} (d := j) (by omega))
              have a1 := H5.out.cell (g_sl {n with s := (14, 1)} (d := j) (by omega))
              rw [show ({n with s := (14, 1)} : Nr).sd j = (kj, lj) from HKJ.out] at a0 a1
              simp only at a0 a1
              have ls := H5.out.lt
              clear hbx
              have HBZ := HBR5
              go_wp2_with fail
              go_roundw
              case rel => exact ⟨j + 1, by first | rfl | rw [HWR.out] | (congr 1; omega), by rw [HWA.out]; first | rfl | (rw [hkI]; rfl), by rw [HFA.out]; rfl, by omega, HBZ.out⟩
              case measure =>
                simp only [intOf]
                omega
      · have hje : j = 6 := by omega
        have hjI : ¬ (j : Int) < 6 := by omega
        subst hje
        obtain ⟨wt, hwt⟩ : ∃ r, anyTo isWater n.sd 6 = r := ⟨_, rfl⟩
        obtain ⟨fu, hfu⟩ : ∃ r, anyTo isFuel n.sd 6 = r := ⟨_, rfl⟩
        have HWT := Lib.hid (show wet n = wt from hwt)
        have HFU := Lib.hid (show fuel n = fu from hfu)
        rw [hwt, hfu]
        clear hbr hwt hfu
        cases fu with
        | true =>
          cases wt with
          | true =>
            have HF := Lib.hid (over_fire (n := n) (l := 1) (d := d) (by omega) (.inl HWT.out))
            go_wp2_with ((with_reducible refine at_slot 59 ?_); refine Classical.byContradiction (fun hG => ?_))
            refine hG ?_
            clear hG
            refine wp_loadN rfl (.tmp 2) rfl rfl (n := {n with s := (14, 1)}) H9.out ?_
            go_wp2_with fail
            refine (Fire_d (n := {n with s := (14, 1)}) (d := d) (D := ⟨[(0, (8, 0))], 0, 1⟩) (HT.out.below HB9.out) HDR.out hd2 HF.out).mono ?_
            rintro e w4 ⟨v, rfl, ho, hb4⟩
            obtain ⟨A1, cap, rfl, _, _, hAA⟩ := ho.form (n := 1) rfl
            obtain ⟨g, rfl, hg1, hg2⟩ := hAA (by omega)
            have HB4 := Lib.hid (below_t HB9.out hb4)
            have HC4 := Lib.hid ((HC2.out.below HBR.out).below hb4)
            have HO4 := Lib.hid ho
            have hz4 := HB4.out.size
            clear hb4 ho hAA hg1
            go_wp2_with fail
            refine HeldP.wp_named (S := fun W => Below w.heap.size w W ∧ Blk W bw TC [.int .u8 8, .int .u8 0] ∧ RowG.Own encX TX W wr.heap.size (.slice (some ⟨g, 0, none⟩) 1 cap) [(0, (8, 0))] ∧ ∃ a, a = w4.heap.size ∧ Blk W a TD [.slice (some ⟨g, 0, none⟩) 1 cap, .int .i64 0, .int .i64 1]) ⟨by have := HS.out; (repeat' (first | (with_reducible exact Below.refl _ _) | (with_reducible refine Below.setCell ?_ (by (first | omega | (simp; done) | (simp; omega))) _) | (with_reducible refine Below.alloc ?_ (by (first | omega | (simp; done) | (simp; omega))) _) | (with_reducible refine Below.drew ?_) | (with_reducible refine below_drewN ?_ _) | (with_reducible refine Below.trans ?_ (Below.mono HB4.out (by (first | omega | (simp; done) | (simp; omega))))))), by (repeat' (first | (with_reducible exact HC4.out) | (with_reducible refine BlkP.Blk.drew ?_) | (with_reducible refine BlkP.Blk.drewN ?_ _) | (with_reducible refine BlkP.Blk.setAt (us := ?_) (by first | omega | (simp; done) | (simp; omega)) rfl ?_ ?_) | (with_reducible refine BlkP.Blk.otherAt ?_ (by first | omega | (simp; done) | (simp; omega))) | (with_reducible refine BlkP.Blk.newA' (by first | omega | (simp; done) | (simp; omega)) rfl) | (with_reducible refine BlkP.Blk.alloc ?_ _) | (exact rfl))), HO4.out.below (by (repeat' (first | (with_reducible exact Below.refl _ _) | (with_reducible refine Below.setCell ?_ (by (first | omega | (simp; done) | (simp; omega))) _) | (with_reducible refine Below.alloc ?_ (by (first | omega | (simp; done) | (simp; omega))) _) | (with_reducible refine Below.drew ?_) | (with_reducible refine below_drewN ?_ _)))), w4.heap.size, rfl, by (repeat' (first | (with_reducible refine BlkP.Blk.drew ?_) | (with_reducible refine BlkP.Blk.drewN ?_ _) | (with_reducible refine BlkP.Blk.setAt (us := ?_) (by first | omega | (simp; done) | (simp; omega)) rfl ?_ ?_) | (with_reducible refine BlkP.Blk.otherAt ?_ (by first | omega | (simp; done) | (simp; omega))) | (with_reducible refine BlkP.Blk.newA' (by first | omega | (simp; done) | (simp; omega)) rfl) | (with_reducible refine BlkP.Blk.alloc ?_ _) | (exact rfl)))⟩ ?_
            rintro w5 ⟨hb5, hc5, ho5, a, ha, ha5⟩
            try rw [← ha]
            have HB5 := Lib.hid hb5
            have a0 := ha5.cell (i := 0) rfl
            have a1 := ha5.cell (i := 1) rfl
            have la := ha5.lt
            have e0 := hc5.cell (i := 0) rfl
            have e1 := hc5.cell (i := 1) rfl
            have le := hc5.lt
            have c0 : w5.cell? ⟨g, 0, none⟩ = some (.int .i64 0) := ho5.cell (i := 0) (j := 0) rfl rfl
            have c1 : w5.cell? ⟨g, 1, none⟩ = some (.int .u8 8) := ho5.cell (i := 0) (j := 1) rfl rfl
            have c2 : w5.cell? ⟨g, 2, none⟩ = some (.int .u8 0) := ho5.cell (i := 0) (j := 2) rfl rfl
            have lg := (ho5.ge g rfl).2
            clear hb5 hc5 ho5 ha ha5 hz4 hg2
            refine wp_region_noPanic ?_
            refine wp_region_held_drew (S := fun W => Below w5.heap.size w5 W) (by kernel_rfl) ((Below.refl _ w5).drew) (fun hHeld => ?_)
            refine wpAnyH_take (i := 0) (oi := ⟨some 61, _, _, _, _, _⟩) (v := .pointer (some ⟨a, 0, none⟩)) rfl (by kernel_rfl) (by kernel_rfl) (by kernel_rfl) (fun _ _ _ h => h) (Or.inl ⟨by rfl, fun W hSW => by go_simp⟩) hHeld ?_
            simp only [Act.put, List.setIfInBounds_toArray, List.set_cons_zero, List.set_cons_succ]
            refine wpAnyH_take (i := 1) (oi := ⟨some 62, _, _, _, _, _⟩) (v := .slice (some ⟨g, 0, none⟩) 1 cap) rfl (by kernel_rfl) (by kernel_rfl) (by kernel_rfl) (fun _ _ _ h => h) (Or.inl ⟨by rfl, fun W hSW => by have a0 := (hSW.cell (p := ⟨a, 0, none⟩) la).trans a0; go_simp⟩) hHeld ?_
            simp only [Act.put, List.setIfInBounds_toArray, List.set_cons_zero, List.set_cons_succ]
            refine wpAnyH_take (i := 2) (oi := ⟨some 63, _, _, _, _, _⟩) (v := .int .i64 1) rfl (by kernel_rfl) (by kernel_rfl) (by kernel_rfl) (fun _ _ _ h => h) (Or.inl ⟨by rfl, fun W hSW => by go_simp⟩) hHeld ?_
            simp only [Act.put, List.setIfInBounds_toArray, List.set_cons_zero, List.set_cons_succ]
            refine wpAnyH_take (i := 3) (oi := ⟨some 64, _, _, _, _, _⟩) (v := .bool true) rfl (by kernel_rfl) (by kernel_rfl) (by kernel_rfl) (fun _ _ _ h => h) (Or.inl ⟨by rfl, fun W hSW => by go_simp⟩) hHeld ?_
            simp only [Act.put, List.setIfInBounds_toArray, List.set_cons_zero, List.set_cons_succ]
            refine wpAnyH_take (i := 4) (oi := ⟨some 65, _, _, _, _, _⟩) (v := .bool true) rfl (by kernel_rfl) (by kernel_rfl) (by kernel_rfl) (fun _ _ _ h => h) (Or.inl ⟨by rfl, fun W hSW => by go_simp⟩) hHeld ?_
            simp only [Act.put, List.setIfInBounds_toArray, List.set_cons_zero, List.set_cons_succ]
            refine wpAnyH_take (i := 5) (oi := ⟨some 66, _, _, _, _, _⟩) (v := .pointer (some ⟨a, 0, none⟩)) rfl (by kernel_rfl) (by kernel_rfl) (by kernel_rfl) (fun _ _ _ h => h) (Or.inl ⟨by rfl, fun W hSW => by go_simp⟩) hHeld ?_
            simp only [Act.put, List.setIfInBounds_toArray, List.set_cons_zero, List.set_cons_succ]
            refine wpAnyH_take (i := 6) (oi := ⟨some 67, _, _, _, _, _⟩) (v := .slice (some ⟨g, 0, none⟩) 1 cap) rfl (by kernel_rfl) (by kernel_rfl) (by kernel_rfl) (fun _ _ _ h => h) (Or.inl ⟨by rfl, fun W hSW => by have a0 := (hSW.cell (p := ⟨a, 0, none⟩) la).trans a0; go_simp⟩) hHeld ?_
            simp only [Act.put, List.setIfInBounds_toArray, List.set_cons_zero, List.set_cons_succ]
            refine wpAnyH_take (i := 7) (oi := ⟨some 68, _, _, _, _, _⟩) (v := .pointer (some ⟨g, 0, none⟩)) rfl (by kernel_rfl) (by kernel_rfl) (by kernel_rfl) (fun _ _ _ h => h) (Or.inl ⟨by rfl, fun W hSW => by go_simp⟩) hHeld ?_
            simp only [Act.put, List.setIfInBounds_toArray, List.set_cons_zero, List.set_cons_succ]
            refine wpAnyH_take (i := 8) (oi := ⟨some 69, _, _, _, _, _⟩) (v := .agg #[.int .i64 0, .int .u8 8, .int .u8 0]) rfl (by kernel_rfl) (by kernel_rfl) (by kernel_rfl) (fun _ _ _ h => h) (Or.inl ⟨by rfl, fun W hSW => by have a0 := (hSW.cell (p := ⟨g, 0, none⟩) lg).trans c0; have a1 := (hSW.cell (p := ⟨g, 1, none⟩) lg).trans c1; have a2 := (hSW.cell (p := ⟨g, 2, none⟩) lg).trans c2; go_simp⟩) hHeld ?_
            simp only [Act.put, List.setIfInBounds_toArray, List.set_cons_zero, List.set_cons_succ]
            refine wpAnyH_take (i := 9) (oi := ⟨some 70, _, _, _, _, _⟩) (v := .agg #[.int .u8 8, .int .u8 0]) rfl (by kernel_rfl) (by kernel_rfl) (by kernel_rfl) (fun _ _ _ h => h) (Or.inl ⟨by rfl, fun W hSW => by have a0 := (hSW.cell (p := ⟨bw, 0, none⟩) le).trans e0; have a1 := (hSW.cell (p := ⟨bw, 1, none⟩) le).trans e1; go_simp⟩) hHeld ?_
            simp only [Act.put, List.setIfInBounds_toArray, List.set_cons_zero, List.set_cons_succ]
            refine wpAnyH_take (i := 10) (oi := ⟨some 71, _, _, _, _, _⟩) (v := .agg #[.int .i64 0, .int .u8 8, .int .u8 0]) rfl (by kernel_rfl) (by kernel_rfl) (by kernel_rfl) (fun _ _ _ h => h) (Or.inl ⟨by rfl, fun W hSW => by go_simp⟩) hHeld ?_
            simp only [Act.put, List.setIfInBounds_toArray, List.set_cons_zero, List.set_cons_succ]
            refine wpAnyH_take (i := 11) (oi := ⟨some 72, _, _, _, _, _⟩) (v := .bool true) rfl (by kernel_rfl) (by kernel_rfl) (by kernel_rfl) (fun _ _ _ h => h) (Or.inl ⟨by rfl, fun W hSW => by go_simp⟩) hHeld ?_
            simp only [Act.put, List.setIfInBounds_toArray, List.set_cons_zero, List.set_cons_succ]
            refine wpAnyH_take (i := 12) (oi := ⟨some 73, _, _, _, _, _⟩) (v := .bool true) rfl (by kernel_rfl) (by kernel_rfl) (by kernel_rfl) (fun _ _ _ h => h) (Or.inl ⟨by rfl, fun W hSW => by go_simp⟩) hHeld ?_
            simp only [Act.put, List.setIfInBounds_toArray, List.set_cons_zero, List.set_cons_succ]
            refine wpAnyH_take (i := 13) (oi := ⟨some 74, _, _, _, _, _⟩) (v := .bool true) rfl (by kernel_rfl) (by kernel_rfl) (by kernel_rfl) (fun _ _ _ h => h) (Or.inl ⟨by rfl, fun W hSW => by go_simp⟩) hHeld ?_
            simp only [Act.put, List.setIfInBounds_toArray, List.set_cons_zero, List.set_cons_succ]
            refine wpAnyH_take (i := 14) (oi := ⟨some 75, _, _, _, _, _⟩) (v := .pointer (some ⟨a, 1, none⟩)) rfl (by kernel_rfl) (by kernel_rfl) (by kernel_rfl) (fun _ _ _ h => h) (Or.inl ⟨by rfl, fun W hSW => by go_simp⟩) hHeld ?_
            simp only [Act.put, List.setIfInBounds_toArray, List.set_cons_zero, List.set_cons_succ]
            refine wpAnyH_take (i := 15) (oi := ⟨some 76, _, _, _, _, _⟩) (v := .int .i64 0) rfl (by kernel_rfl) (by kernel_rfl) (by kernel_rfl) (fun _ _ _ h => h) (Or.inl ⟨by rfl, fun W hSW => by have a0 := (hSW.cell (p := ⟨a, 1, none⟩) la).trans a1; go_simp⟩) hHeld ?_
            simp only [Act.put, List.setIfInBounds_toArray, List.set_cons_zero, List.set_cons_succ]
            refine wpAnyH_take (i := 16) (oi := ⟨some 77, _, _, _, _, _⟩) (v := .bool true) rfl (by kernel_rfl) (by kernel_rfl) (by kernel_rfl) (fun _ _ _ h => h) (Or.inl ⟨by rfl, fun W hSW => by go_simp⟩) hHeld ?_
            simp only [Act.put, List.setIfInBounds_toArray, List.set_cons_zero, List.set_cons_succ]
            refine wpAnyH_take (i := 17) (oi := ⟨some 78, _, _, _, _, _⟩) (v := .bool true) rfl (by kernel_rfl) (by kernel_rfl) (by kernel_rfl) (fun _ _ _ h => h) (Or.inl ⟨by rfl, fun W hSW => by go_simp⟩) hHeld ?_
            simp only [Act.put, List.setIfInBounds_toArray, List.set_cons_zero, List.set_cons_succ]
            refine wpAnyH_take (i := 18) (oi := ⟨some 79, _, _, _, _, _⟩) (v := .bool true) rfl (by kernel_rfl) (by kernel_rfl) (by kernel_rfl) (fun _ _ _ h => h) (Or.inl ⟨by rfl, fun W hSW => by go_simp⟩) hHeld ?_
            simp only [Act.put, List.setIfInBounds_toArray, List.set_cons_zero, List.set_cons_succ]
            refine wpAnyH_ready (rs := [19]) (by kernel_rfl) (by simp) ?_
            refine AllReadyH.cons (o := ⟨some 80, _, _, _, _, _⟩) rfl (fun K hK => ?_) AllReadyH.nil
            go_simp
            refine (works_c (HT.out.below (below_t HB5.out hHeld))).mono ?_
            rintro e w6 ⟨rfl, hb6⟩
            go_wp2_with fail
            refine hK.out _ _ (below_t hHeld hb6) (fun hHeld => ?_)
            clear hK K hb6
            refine wpAnyH_take (i := 20) (oi := ⟨some 81, _, _, _, _, _⟩) (v := .bool true) rfl (by kernel_rfl) (by kernel_rfl) (by kernel_rfl) (fun _ _ _ h => h) (Or.inl ⟨by rfl, fun W hSW => by go_simp⟩) hHeld ?_
            simp only [Act.put, List.setIfInBounds_toArray, List.set_cons_zero, List.set_cons_succ]
            refine wpAnyH_take (i := 21) (oi := ⟨some 4, _, _, _, _, _⟩) (v := .bool true) rfl (by kernel_rfl) (by kernel_rfl) (by kernel_rfl) (fun _ _ _ h => h) (Or.inl ⟨by rfl, fun W hSW => by go_simp⟩) hHeld ?_
            simp only [Act.put, List.setIfInBounds_toArray, List.set_cons_zero, List.set_cons_succ]
            refine wpAnyH_done (by kernel_rfl) ?_ _
            refine NoPanic.normal ?_
            refine HeldP.then_named (S := fun W => Below w5.heap.size w5 W) hHeld ?_
            rintro w7 hb7
            have HB7 := Lib.hid (below_t HB5.out hb7)
            clear hHeld hb7 a0 a1 la e0 e1 le c0 c1 c2 lg
            go_wp2_with fail
            go_ret
            exact ⟨by first | rfl | simp, HS.out ▸ HB7.out⟩
          | false =>
            go_wp2_with fail
            refine (works_c (HT.out.below HB9.out)).mono ?_
            rintro e w8 ⟨rfl, hb8⟩
            have HB8 := Lib.hid (below_t HB9.out hb8)
            clear hb8
            go_wp2_with fail
            go_ret
            exact ⟨by first | rfl | simp, HS.out ▸ HB8.out⟩
        | false =>
          have HF := Lib.hid (over_fire (n := n) (l := 1) (d := d) (by omega) (.inr HFU.out))
          go_wp2_with ((with_reducible refine at_slot 59 ?_); refine Classical.byContradiction (fun hG => ?_))
          refine hG ?_
          clear hG
          refine wp_loadN rfl (.tmp 2) rfl rfl (n := {n with s := (14, 1)}) H9.out ?_
          go_wp2_with fail
          refine (Fire_d (n := {n with s := (14, 1)}) (d := d) (D := ⟨[(0, (8, 0))], 0, 1⟩) (HT.out.below HB9.out) HDR.out hd2 HF.out).mono ?_
          rintro e w4 ⟨v, rfl, ho, hb4⟩
          obtain ⟨A1, cap, rfl, _, _, hAA⟩ := ho.form (n := 1) rfl
          obtain ⟨g, rfl, hg1, hg2⟩ := hAA (by omega)
          have HB4 := Lib.hid (below_t HB9.out hb4)
          have HC4 := Lib.hid ((HC2.out.below HBR.out).below hb4)
          have HO4 := Lib.hid ho
          have hz4 := HB4.out.size
          clear hb4 ho hAA hg1
          go_wp2_with fail
          refine HeldP.wp_named (S := fun W => Below w.heap.size w W ∧ Blk W bw TC [.int .u8 8, .int .u8 0] ∧ RowG.Own encX TX W wr.heap.size (.slice (some ⟨g, 0, none⟩) 1 cap) [(0, (8, 0))] ∧ ∃ a, a = w4.heap.size ∧ Blk W a TD [.slice (some ⟨g, 0, none⟩) 1 cap, .int .i64 0, .int .i64 1]) ⟨by have := HS.out; (repeat' (first | (with_reducible exact Below.refl _ _) | (with_reducible refine Below.setCell ?_ (by (first | omega | (simp; done) | (simp; omega))) _) | (with_reducible refine Below.alloc ?_ (by (first | omega | (simp; done) | (simp; omega))) _) | (with_reducible refine Below.drew ?_) | (with_reducible refine below_drewN ?_ _) | (with_reducible refine Below.trans ?_ (Below.mono HB4.out (by (first | omega | (simp; done) | (simp; omega))))))), by (repeat' (first | (with_reducible exact HC4.out) | (with_reducible refine BlkP.Blk.drew ?_) | (with_reducible refine BlkP.Blk.drewN ?_ _) | (with_reducible refine BlkP.Blk.setAt (us := ?_) (by first | omega | (simp; done) | (simp; omega)) rfl ?_ ?_) | (with_reducible refine BlkP.Blk.otherAt ?_ (by first | omega | (simp; done) | (simp; omega))) | (with_reducible refine BlkP.Blk.newA' (by first | omega | (simp; done) | (simp; omega)) rfl) | (with_reducible refine BlkP.Blk.alloc ?_ _) | (exact rfl))), HO4.out.below (by (repeat' (first | (with_reducible exact Below.refl _ _) | (with_reducible refine Below.setCell ?_ (by (first | omega | (simp; done) | (simp; omega))) _) | (with_reducible refine Below.alloc ?_ (by (first | omega | (simp; done) | (simp; omega))) _) | (with_reducible refine Below.drew ?_) | (with_reducible refine below_drewN ?_ _)))), w4.heap.size, rfl, by (repeat' (first | (with_reducible refine BlkP.Blk.drew ?_) | (with_reducible refine BlkP.Blk.drewN ?_ _) | (with_reducible refine BlkP.Blk.setAt (us := ?_) (by first | omega | (simp; done) | (simp; omega)) rfl ?_ ?_) | (with_reducible refine BlkP.Blk.otherAt ?_ (by first | omega | (simp; done) | (simp; omega))) | (with_reducible refine BlkP.Blk.newA' (by first | omega | (simp; done) | (simp; omega)) rfl) | (with_reducible refine BlkP.Blk.alloc ?_ _) | (exact rfl)))⟩ ?_
          rintro w5 ⟨hb5, hc5, ho5, a, ha, ha5⟩
          try rw [← ha]
          have HB5 := Lib.hid hb5
          have a0 := ha5.cell (i := 0) rfl
          have a1 := ha5.cell (i := 1) rfl
          have la := ha5.lt
          have e0 := hc5.cell (i := 0) rfl
          have e1 := hc5.cell (i := 1) rfl
          have le := hc5.lt
          have c0 : w5.cell? ⟨g, 0, none⟩ = some (.int .i64 0) := ho5.cell (i := 0) (j := 0) rfl rfl
          have c1 : w5.cell? ⟨g, 1, none⟩ = some (.int .u8 8) := ho5.cell (i := 0) (j := 1) rfl rfl
          have c2 : w5.cell? ⟨g, 2, none⟩ = some (.int .u8 0) := ho5.cell (i := 0) (j := 2) rfl rfl
          have lg := (ho5.ge g rfl).2
          clear hb5 hc5 ho5 ha ha5 hz4 hg2
          refine wp_region_noPanic ?_
          refine wp_region_held_drew (S := fun W => Below w5.heap.size w5 W) (by kernel_rfl) ((Below.refl _ w5).drew) (fun hHeld => ?_)
          refine wpAnyH_take (i := 0) (oi := ⟨some 61, _, _, _, _, _⟩) (v := .pointer (some ⟨a, 0, none⟩)) rfl (by kernel_rfl) (by kernel_rfl) (by kernel_rfl) (fun _ _ _ h => h) (Or.inl ⟨by rfl, fun W hSW => by go_simp⟩) hHeld ?_
          simp only [Act.put, List.setIfInBounds_toArray, List.set_cons_zero, List.set_cons_succ]
          refine wpAnyH_take (i := 1) (oi := ⟨some 62, _, _, _, _, _⟩) (v := .slice (some ⟨g, 0, none⟩) 1 cap) rfl (by kernel_rfl) (by kernel_rfl) (by kernel_rfl) (fun _ _ _ h => h) (Or.inl ⟨by rfl, fun W hSW => by have a0 := (hSW.cell (p := ⟨a, 0, none⟩) la).trans a0; go_simp⟩) hHeld ?_
          simp only [Act.put, List.setIfInBounds_toArray, List.set_cons_zero, List.set_cons_succ]
          refine wpAnyH_take (i := 2) (oi := ⟨some 63, _, _, _, _, _⟩) (v := .int .i64 1) rfl (by kernel_rfl) (by kernel_rfl) (by kernel_rfl) (fun _ _ _ h => h) (Or.inl ⟨by rfl, fun W hSW => by go_simp⟩) hHeld ?_
          simp only [Act.put, List.setIfInBounds_toArray, List.set_cons_zero, List.set_cons_succ]
          refine wpAnyH_take (i := 3) (oi := ⟨some 64, _, _, _, _, _⟩) (v := .bool true) rfl (by kernel_rfl) (by kernel_rfl) (by kernel_rfl) (fun _ _ _ h => h) (Or.inl ⟨by rfl, fun W hSW => by go_simp⟩) hHeld ?_
          simp only [Act.put, List.setIfInBounds_toArray, List.set_cons_zero, List.set_cons_succ]
          refine wpAnyH_take (i := 4) (oi := ⟨some 65, _, _, _, _, _⟩) (v := .bool true) rfl (by kernel_rfl) (by kernel_rfl) (by kernel_rfl) (fun _ _ _ h => h) (Or.inl ⟨by rfl, fun W hSW => by go_simp⟩) hHeld ?_
          simp only [Act.put, List.setIfInBounds_toArray, List.set_cons_zero, List.set_cons_succ]
          refine wpAnyH_take (i := 5) (oi := ⟨some 66, _, _, _, _, _⟩) (v := .pointer (some ⟨a, 0, none⟩)) rfl (by kernel_rfl) (by kernel_rfl) (by kernel_rfl) (fun _ _ _ h => h) (Or.inl ⟨by rfl, fun W hSW => by go_simp⟩) hHeld ?_
          simp only [Act.put, List.setIfInBounds_toArray, List.set_cons_zero, List.set_cons_succ]
          refine wpAnyH_take (i := 6) (oi := ⟨some 67, _, _, _, _, _⟩) (v := .slice (some ⟨g, 0, none⟩) 1 cap) rfl (by kernel_rfl) (by kernel_rfl) (by kernel_rfl) (fun _ _ _ h => h) (Or.inl ⟨by rfl, fun W hSW => by have a0 := (hSW.cell (p := ⟨a, 0, none⟩) la).trans a0; go_simp⟩) hHeld ?_
          simp only [Act.put, List.setIfInBounds_toArray, List.set_cons_zero, List.set_cons_succ]
          refine wpAnyH_take (i := 7) (oi := ⟨some 68, _, _, _, _, _⟩) (v := .pointer (some ⟨g, 0, none⟩)) rfl (by kernel_rfl) (by kernel_rfl) (by kernel_rfl) (fun _ _ _ h => h) (Or.inl ⟨by rfl, fun W hSW => by go_simp⟩) hHeld ?_
          simp only [Act.put, List.setIfInBounds_toArray, List.set_cons_zero, List.set_cons_succ]
          refine wpAnyH_take (i := 8) (oi := ⟨some 69, _, _, _, _, _⟩) (v := .agg #[.int .i64 0, .int .u8 8, .int .u8 0]) rfl (by kernel_rfl) (by kernel_rfl) (by kernel_rfl) (fun _ _ _ h => h) (Or.inl ⟨by rfl, fun W hSW => by have a0 := (hSW.cell (p := ⟨g, 0, none⟩) lg).trans c0; have a1 := (hSW.cell (p := ⟨g, 1, none⟩) lg).trans c1; have a2 := (hSW.cell (p := ⟨g, 2, none⟩) lg).trans c2; go_simp⟩) hHeld ?_
          simp only [Act.put, List.setIfInBounds_toArray, List.set_cons_zero, List.set_cons_succ]
          refine wpAnyH_take (i := 9) (oi := ⟨some 70, _, _, _, _, _⟩) (v := .agg #[.int .u8 8, .int .u8 0]) rfl (by kernel_rfl) (by kernel_rfl) (by kernel_rfl) (fun _ _ _ h => h) (Or.inl ⟨by rfl, fun W hSW => by have a0 := (hSW.cell (p := ⟨bw, 0, none⟩) le).trans e0; have a1 := (hSW.cell (p := ⟨bw, 1, none⟩) le).trans e1; go_simp⟩) hHeld ?_
          simp only [Act.put, List.setIfInBounds_toArray, List.set_cons_zero, List.set_cons_succ]
          refine wpAnyH_take (i := 10) (oi := ⟨some 71, _, _, _, _, _⟩) (v := .agg #[.int .i64 0, .int .u8 8, .int .u8 0]) rfl (by kernel_rfl) (by kernel_rfl) (by kernel_rfl) (fun _ _ _ h => h) (Or.inl ⟨by rfl, fun W hSW => by go_simp⟩) hHeld ?_
          simp only [Act.put, List.setIfInBounds_toArray, List.set_cons_zero, List.set_cons_succ]
          refine wpAnyH_take (i := 11) (oi := ⟨some 72, _, _, _, _, _⟩) (v := .bool true) rfl (by kernel_rfl) (by kernel_rfl) (by kernel_rfl) (fun _ _ _ h => h) (Or.inl ⟨by rfl, fun W hSW => by go_simp⟩) hHeld ?_
          simp only [Act.put, List.setIfInBounds_toArray, List.set_cons_zero, List.set_cons_succ]
          refine wpAnyH_take (i := 12) (oi := ⟨some 73, _, _, _, _, _⟩) (v := .bool true) rfl (by kernel_rfl) (by kernel_rfl) (by kernel_rfl) (fun _ _ _ h => h) (Or.inl ⟨by rfl, fun W hSW => by go_simp⟩) hHeld ?_
          simp only [Act.put, List.setIfInBounds_toArray, List.set_cons_zero, List.set_cons_succ]
          refine wpAnyH_take (i := 13) (oi := ⟨some 74, _, _, _, _, _⟩) (v := .bool true) rfl (by kernel_rfl) (by kernel_rfl) (by kernel_rfl) (fun _ _ _ h => h) (Or.inl ⟨by rfl, fun W hSW => by go_simp⟩) hHeld ?_
          simp only [Act.put, List.setIfInBounds_toArray, List.set_cons_zero, List.set_cons_succ]
          refine wpAnyH_take (i := 14) (oi := ⟨some 75, _, _, _, _, _⟩) (v := .pointer (some ⟨a, 1, none⟩)) rfl (by kernel_rfl) (by kernel_rfl) (by kernel_rfl) (fun _ _ _ h => h) (Or.inl ⟨by rfl, fun W hSW => by go_simp⟩) hHeld ?_
          simp only [Act.put, List.setIfInBounds_toArray, List.set_cons_zero, List.set_cons_succ]
          refine wpAnyH_take (i := 15) (oi := ⟨some 76, _, _, _, _, _⟩) (v := .int .i64 0) rfl (by kernel_rfl) (by kernel_rfl) (by kernel_rfl) (fun _ _ _ h => h) (Or.inl ⟨by rfl, fun W hSW => by have a0 := (hSW.cell (p := ⟨a, 1, none⟩) la).trans a1; go_simp⟩) hHeld ?_
          simp only [Act.put, List.setIfInBounds_toArray, List.set_cons_zero, List.set_cons_succ]
          refine wpAnyH_take (i := 16) (oi := ⟨some 77, _, _, _, _, _⟩) (v := .bool true) rfl (by kernel_rfl) (by kernel_rfl) (by kernel_rfl) (fun _ _ _ h => h) (Or.inl ⟨by rfl, fun W hSW => by go_simp⟩) hHeld ?_
          simp only [Act.put, List.setIfInBounds_toArray, List.set_cons_zero, List.set_cons_succ]
          refine wpAnyH_take (i := 17) (oi := ⟨some 78, _, _, _, _, _⟩) (v := .bool true) rfl (by kernel_rfl) (by kernel_rfl) (by kernel_rfl) (fun _ _ _ h => h) (Or.inl ⟨by rfl, fun W hSW => by go_simp⟩) hHeld ?_
          simp only [Act.put, List.setIfInBounds_toArray, List.set_cons_zero, List.set_cons_succ]
          refine wpAnyH_take (i := 18) (oi := ⟨some 79, _, _, _, _, _⟩) (v := .bool true) rfl (by kernel_rfl) (by kernel_rfl) (by kernel_rfl) (fun _ _ _ h => h) (Or.inl ⟨by rfl, fun W hSW => by go_simp⟩) hHeld ?_
          simp only [Act.put, List.setIfInBounds_toArray, List.set_cons_zero, List.set_cons_succ]
          refine wpAnyH_ready (rs := [19]) (by kernel_rfl) (by simp) ?_
          refine AllReadyH.cons (o := ⟨some 80, _, _, _, _, _⟩) rfl (fun K hK => ?_) AllReadyH.nil
          go_simp
          refine (works_c (HT.out.below (below_t HB5.out hHeld))).mono ?_
          rintro e w6 ⟨rfl, hb6⟩
          go_wp2_with fail
          refine hK.out _ _ (below_t hHeld hb6) (fun hHeld => ?_)
          clear hK K hb6
          refine wpAnyH_take (i := 20) (oi := ⟨some 81, _, _, _, _, _⟩) (v := .bool true) rfl (by kernel_rfl) (by kernel_rfl) (by kernel_rfl) (fun _ _ _ h => h) (Or.inl ⟨by rfl, fun W hSW => by go_simp⟩) hHeld ?_
          simp only [Act.put, List.setIfInBounds_toArray, List.set_cons_zero, List.set_cons_succ]
          refine wpAnyH_take (i := 21) (oi := ⟨some 4, _, _, _, _, _⟩) (v := .bool true) rfl (by kernel_rfl) (by kernel_rfl) (by kernel_rfl) (fun _ _ _ h => h) (Or.inl ⟨by rfl, fun W hSW => by go_simp⟩) hHeld ?_
          simp only [Act.put, List.setIfInBounds_toArray, List.set_cons_zero, List.set_cons_succ]
          refine wpAnyH_done (by kernel_rfl) ?_ _
          refine NoPanic.normal ?_
          refine HeldP.then_named (S := fun W => Below w5.heap.size w5 W) hHeld ?_
          rintro w7 hb7
          have HB7 := Lib.hid (below_t HB5.out hb7)
          clear hHeld hb7 a0 a1 la e0 e1 le c0 c1 c2 lg
          go_wp2_with fail
          go_ret
          exact ⟨by first | rfl | simp, HS.out ▸ HB7.out⟩
  | false =>
    go_enter Tryd.func7, Tryd.ntmps7
    go_wp2_with ((with_reducible refine at_slot 2 ?_); refine Classical.byContradiction (fun hG => ?_))
    refine hG ?_
    clear hG
    refine wp_boxN rfl (.tmp 0) rfl rfl ?_
    intro w1 h1 hb1 hz1
    rw [hs] at h1 hz1
    try rw [hs]
    have HB1 := Lib.hid hb1
    have H1 := Lib.hid h1
    have c0 := h1.cell (i := 0) (g_kind n)
    have c1 := h1.cell (i := 1) (g_lev n)
    have f0 := h1.frozen 0
    have f1 := h1.frozen 1
    have ls := h1.lt
    obtain ⟨bw, hbw⟩ : ∃ b, w1.heap.size = b := ⟨_, rfl⟩
    rw [hbw] at ls
    have HBW := Lib.hid hbw
    clear h1 hb1 hz1
    go_wp2_with fail
    refine HeldP.wp_named (S := fun W => Below w.heap.size w W ∧ Blk W s TN (vals {n with s := (14, 0)}) ∧ Blk W bw TC [.int .u8 0, .int .u8 0]) ⟨by have := HS.out; have := HB1.out.size; (repeat' (first | (with_reducible exact Below.refl _ _) | (with_reducible refine Below.setCell ?_ (by (first | omega | (simp; done) | (simp; omega))) _) | (with_reducible refine Below.alloc ?_ (by (first | omega | (simp; done) | (simp; omega))) _) | (with_reducible refine Below.drew ?_) | (with_reducible refine below_drewN ?_ _) | (with_reducible refine Below.trans ?_ (Below.mono HB1.out (by (first | omega | (simp; done) | (simp; omega))))))), by (repeat' (first | (with_reducible exact H1.out) | (with_reducible refine BlkP.Blk.drew ?_) | (with_reducible refine BlkP.Blk.drewN ?_ _) | (with_reducible refine BlkP.Blk.setAt (us := ?_) (by first | omega | (simp; done) | (simp; omega)) rfl ?_ ?_) | (with_reducible refine BlkP.Blk.otherAt ?_ (by first | omega | (simp; done) | (simp; omega))) | (with_reducible refine BlkP.Blk.newA' (by first | omega | (simp; done) | (simp; omega)) rfl) | (with_reducible refine BlkP.Blk.alloc ?_ _) | (exact rfl))), by (repeat' (first | (with_reducible refine BlkP.Blk.drew ?_) | (with_reducible refine BlkP.Blk.drewN ?_ _) | (with_reducible refine BlkP.Blk.setAt (us := ?_) (by first | omega | (simp; done) | (simp; omega)) rfl ?_ ?_) | (with_reducible refine BlkP.Blk.otherAt ?_ (by first | omega | (simp; done) | (simp; omega))) | (with_reducible refine BlkP.Blk.newA' (by first | omega | (simp; done) | (simp; omega)) rfl) | (with_reducible refine BlkP.Blk.alloc ?_ _) | (exact rfl)))⟩ ?_
    clear c0 c1 f0 f1 ls hbw
    rintro w2 ⟨hb2, h2, hc2⟩
    have HB2 := Lib.hid hb2
    have H2 := Lib.hid h2
    have HC2 := Lib.hid hc2
    clear hb2 h2 hc2
    go_loopw [6, 7, 8] (fun v6 v7 v8 wr => ∃ j : Nat, v8 = .int .i64 (j : Nat) ∧ v6 = .bool (anyTo isWater n.sd j) ∧ v7 = .bool (anyTo isFuel n.sd j) ∧ j ≤ 6 ∧ Below w2.heap.size w2 wr) (fun _ _ v _ => 6 - (intOf v).toNat)
    case atStart => exact ⟨0, rfl, rfl, rfl, by omega, Below.refl _ _⟩
    case round =>
      obtain ⟨j, rfl, rfl, rfl, hj, hbr⟩ := hrel
      have HBR := Lib.hid hbr
      have HB9 := Lib.hid (below_t HB2.out hbr)
      have H9 := Lib.hid (H2.out.below hbr)
      by_cases hjl : j < 6
      · have hjI : (j : Int) < 6 := by omega
        have HWR := Lib.hid (show wrap64 ((j : Int) + 1) = ((j + 1 : Nat) : Int) by rw [wr64 (by omega) (by omega)]; omega)
        obtain ⟨⟨kj, lj⟩, hkj⟩ : ∃ c, n.sd j = c := ⟨_, rfl⟩
        have HKJ := Lib.hid hkj
        have a0 := H9.out.cell (g_sk {n with s := (14, 0)} (d := j) (by omega))
        have a1 := H9.out.cell (g_sl {n with s := (14, 0)} (d := j) (by omega))
        rw [show ({n with s := (14, 0)} : Nr).sd j = (kj, lj) from hkj] at a0 a1
        simp only at a0 a1
        have ls := H9.out.lt
        obtain ⟨wt, hwt⟩ : ∃ r, anyTo isWater n.sd j = r := ⟨_, rfl⟩
        obtain ⟨fu, hfu⟩ : ∃ r, anyTo isFuel n.sd j = r := ⟨_, rfl⟩
        obtain ⟨mb, hmb⟩ : ∃ r, KindP.may kj lj = r := ⟨_, rfl⟩
        obtain ⟨kb, hkb⟩ : ∃ r, (kj == 13) = r := ⟨_, rfl⟩
        obtain ⟨bb, hbb⟩ : ∃ r, KindP.burns kj = r := ⟨_, rfl⟩
        have hkI : ((kj : Int) == 13) = kb := beq_int hkb
        have HMB := Lib.hid hmb
        have HBB := Lib.hid hbb
        have HWA := Lib.hid (show anyTo isWater n.sd (j + 1) = (wt || (mb && kb)) from by simp only [anyTo]; rw [hwt, hkj, water_may, hmb, hkb])
        have HFA := Lib.hid (show anyTo isFuel n.sd (j + 1) = (fu || (mb && bb)) from by simp only [anyTo]; rw [hfu, hkj, fuel_may, hmb, hbb])
        rw [hwt, hfu]
        clear hbr hkj hwt hfu hmb hkb hbb
        cases mb with
        | true =>
          cases wt with
          | true =>
            cases fu with
            | true =>
              have HBZ := HBR
              go_wp2_with fail
              go_roundw
              case rel => exact ⟨j + 1, by first | rfl | rw [HWR.out] | (congr 1; omega), by rw [HWA.out]; first | rfl | (rw [hkI]; rfl), by rw [HFA.out]; rfl, by omega, HBZ.out⟩
              case measure =>
                simp only [intOf]
                omega
            | false =>
              go_wp2_with fail
              refine (KindW.k_may_b HMB.out _ (HT.out.below HB9.out)).mono ?_
              rintro e w4 ⟨rfl, hbx⟩
              have HBR4 := Lib.hid (below_t HBR.out hbx)
              have HB4 := Lib.hid (below_t HB9.out hbx)
              have H4 := Lib.hid (H9.out.below hbx)
              have a0 := H4.out.cell (g_sk {n with s := (14, 0)} (d := j) (by omega))
              have a1 := H4.out.cell (g_sl {n with s := (14, 0)} (d := j) (by omega))
              rw [show ({n with s := (14, 0)} : Nr).sd j = (kj, lj) from HKJ.out] at a0 a1
              simp only at a0 a1
              have ls := H4.out.lt
              clear hbx
              go_wp2_with fail
              refine (KindW.k_burns kj _ (HT.out.below HB4.out)).mono ?_
              rw [HBB.out]
              rintro e w5 ⟨rfl, rfl⟩
              have HBZ := HBR4
              cases bb with
              | true =>
                go_wp2_with fail
                go_roundw
                case rel => exact ⟨j + 1, by first | rfl | rw [HWR.out] | (congr 1; omega), by rw [HWA.out]; first | rfl | (rw [hkI]; rfl), by rw [HFA.out]; rfl, by omega, HBZ.out⟩
                case measure =>
                  simp only [intOf]
                  omega
              | false =>
                go_wp2_with fail
                go_roundw
                case rel => exact ⟨j + 1, by first | rfl | rw [HWR.out] | (congr 1; omega), by rw [HWA.out]; first | rfl | (rw [hkI]; rfl), by rw [HFA.out]; rfl, by omega, HBZ.out⟩
                case measure =>
                  simp only [intOf]
                  omega
          | false =>
            cases fu with
            | true =>
              go_wp2_with fail
              refine (KindW.k_may_b HMB.out _ (HT.out.below HB9.out)).mono ?_
              rintro e w4 ⟨rfl, hbx⟩
              have HBR4 := Lib.hid (below_t HBR.out hbx)
              have HB4 := Lib.hid (below_t HB9.out hbx)
              have H4 := Lib.hid (H9.out.below hbx)
              have a0 := H4.out.cell (g_sk {n with s := (14, 0)} (d := j) (by omega))
              have a1 := H4.out.cell (g_sl {n with s := (14, 0)} (d := j) (by omega))
              rw [show ({n with s := (14, 0)} : Nr).sd j = (kj, lj) from HKJ.out] at a0 a1
              simp only at a0 a1
              have ls := H4.out.lt
              clear hbx
              cases kb with
              | true =>
                have HBZ := HBR4
                go_wp2_with fail
                go_roundw
                case rel => exact ⟨j + 1, by first | rfl | rw [HWR.out] | (congr 1; omega), by rw [HWA.out]; first | rfl | (rw [hkI]; rfl), by rw [HFA.out]; rfl, by omega, HBZ.out⟩
                case measure =>
                  simp only [intOf]
                  omega
              | false =>
                have HBZ := HBR4
                go_wp2_with fail
                go_roundw
                case rel => exact ⟨j + 1, by first | rfl | rw [HWR.out] | (congr 1; omega), by rw [HWA.out]; first | rfl | (rw [hkI]; rfl), by rw [HFA.out]; rfl, by omega, HBZ.out⟩
                case measure =>
                  simp only [intOf]
                  omega
            | false =>
              go_wp2_with fail
              refine (KindW.k_may_b HMB.out _ (HT.out.below HB9.out)).mono ?_
              rintro e w4 ⟨rfl, hbx⟩
              have HBR4 := Lib.hid (below_t HBR.out hbx)
              have HB4 := Lib.hid (below_t HB9.out hbx)
              have H4 := Lib.hid (H9.out.below hbx)
              have a0 := H4.out.cell (g_sk {n with s := (14, 0)} (d := j) (by omega))
              have a1 := H4.out.cell (g_sl {n with s := (14, 0)} (d := j) (by omega))
              rw [show ({n with s := (14, 0)} : Nr).sd j = (kj, lj) from HKJ.out] at a0 a1
              simp only at a0 a1
              have ls := H4.out.lt
              clear hbx
              cases kb with
              | true =>
                go_wp2_with fail
                refine (KindW.k_may_b HMB.out _ (HT.out.below HB4.out)).mono ?_
                rintro e w5 ⟨rfl, hbx⟩
                have HBR5 := Lib.hid (below_t HBR4.out hbx)
                have HB5 := Lib.hid (below_t HB4.out hbx)
                have H5 := Lib.hid (H4.out.below hbx)
                have a0 := H5.out.cell (g_sk {n with s := (14, 0)} (d := j) (by omega))
                have a1 := H5.out.cell (g_sl {n with s := (14, 0)} (d := j) (by omega))
                rw [show ({n with s := (14, 0)} : Nr).sd j = (kj, lj) from HKJ.out] at a0 a1
                simp only at a0 a1
                have ls := H5.out.lt
                clear hbx
                go_wp2_with fail
                refine (KindW.k_burns kj _ (HT.out.below HB5.out)).mono ?_
                rw [HBB.out]
                rintro e w6 ⟨rfl, rfl⟩
                have HBZ := HBR5
                cases bb with
                | true =>
                  go_wp2_with fail
                  go_roundw
                  case rel => exact ⟨j + 1, by first | rfl | rw [HWR.out] | (congr 1; omega), by rw [HWA.out]; first | rfl | (rw [hkI]; rfl), by rw [HFA.out]; rfl, by omega, HBZ.out⟩
                  case measure =>
                    simp only [intOf]
                    omega
                | false =>
                  go_wp2_with fail
                  go_roundw
                  case rel => exact ⟨j + 1, by first | rfl | rw [HWR.out] | (congr 1; omega), by rw [HWA.out]; first | rfl | (rw [hkI]; rfl), by rw [HFA.out]; rfl, by omega, HBZ.out⟩
                  case measure =>
                    simp only [intOf]
                    omega
              | false =>
                go_wp2_with fail
                refine (KindW.k_may_b HMB.out _ (HT.out.below HB4.out)).mono ?_
                rintro e w5 ⟨rfl, hbx⟩
                have HBR5 := Lib.hid (below_t HBR4.out hbx)
                have HB5 := Lib.hid (below_t HB4.out hbx)
                have H5 := Lib.hid (H4.out.below hbx)
                have a0 := H5.out.cell (g_sk {n with s := (14, 0)} (d := j) (by omega))
                have a1 := H5.out.cell (g_sl {n with s := (14, 0)} (d := j) (by omega))
                rw [show ({n with s := (14, 0)} : Nr).sd j = (kj, lj) from HKJ.out] at a0 a1
                simp only at a0 a1
                have ls := H5.out.lt
                clear hbx
                go_wp2_with fail
                refine (KindW.k_burns kj _ (HT.out.below HB5.out)).mono ?_
                rw [HBB.out]
                rintro e w6 ⟨rfl, rfl⟩
                have HBZ := HBR5
                cases bb with
                | true =>
                  go_wp2_with fail
                  go_roundw
                  case rel => exact ⟨j + 1, by first | rfl | rw [HWR.out] | (congr 1; omega), by rw [HWA.out]; first | rfl | (rw [hkI]; rfl), by rw [HFA.out]; rfl, by omega, HBZ.out⟩
                  case measure =>
                    simp only [intOf]
                    omega
                | false =>
                  go_wp2_with fail
                  go_roundw
                  case rel => exact ⟨j + 1, by first | rfl | rw [HWR.out] | (congr 1; omega), by rw [HWA.out]; first | rfl | (rw [hkI]; rfl), by rw [HFA.out]; rfl, by omega, HBZ.out⟩
                  case measure =>
                    simp only [intOf]
                    omega
        | false =>
          cases wt with
          | true =>
            cases fu with
            | true =>
              have HBZ := HBR
              go_wp2_with fail
              go_roundw
              case rel => exact ⟨j + 1, by first | rfl | rw [HWR.out] | (congr 1; omega), by rw [HWA.out]; first | rfl | (rw [hkI]; rfl), by rw [HFA.out]; rfl, by omega, HBZ.out⟩
              case measure =>
                simp only [intOf]
                omega
            | false =>
              go_wp2_with fail
              refine (KindW.k_may_b HMB.out _ (HT.out.below HB9.out)).mono ?_
              rintro e w4 ⟨rfl, hbx⟩
              have HBR4 := Lib.hid (below_t HBR.out hbx)
              have HB4 := Lib.hid (below_t HB9.out hbx)
              have H4 := Lib.hid (H9.out.below hbx)
              have a0 := H4.out.cell (g_sk {n with s := (14, 0)} (d := j) (by omega))
              have a1 := H4.out.cell (g_sl {n with s := (14, 0)} (d := j) (by omega))
              rw [show ({n with s := (14, 0)} : Nr).sd j = (kj, lj) from HKJ.out] at a0 a1
              simp only at a0 a1
              have ls := H4.out.lt
              clear hbx
              have HBZ := HBR4
              go_wp2_with fail
              go_roundw
              case rel => exact ⟨j + 1, by first | rfl | rw [HWR.out] | (congr 1; omega), by rw [HWA.out]; first | rfl | (rw [hkI]; rfl), by rw [HFA.out]; rfl, by omega, HBZ.out⟩
              case measure =>
                simp only [intOf]
                omega
          | false =>
            cases fu with
            | true =>
              go_wp2_with fail
              refine (KindW.k_may_b HMB.out _ (HT.out.below HB9.out)).mono ?_
              rintro e w4 ⟨rfl, hbx⟩
              have HBR4 := Lib.hid (below_t HBR.out hbx)
              have HB4 := Lib.hid (below_t HB9.out hbx)
              have H4 := Lib.hid (H9.out.below hbx)
              have a0 := H4.out.cell (g_sk {n with s := (14, 0)} (d := j) (by omega))
              have a1 := H4.out.cell (g_sl {n with s := (14, 0)} (d := j) (by omega))
              rw [show ({n with s := (14, 0)} : Nr).sd j = (kj, lj) from HKJ.out] at a0 a1
              simp only at a0 a1
              have ls := H4.out.lt
              clear hbx
              have HBZ := HBR4
              go_wp2_with fail
              go_roundw
              case rel => exact ⟨j + 1, by first | rfl | rw [HWR.out] | (congr 1; omega), by rw [HWA.out]; first | rfl | (rw [hkI]; rfl), by rw [HFA.out]; rfl, by omega, HBZ.out⟩
              case measure =>
                simp only [intOf]
                omega
            | false =>
              go_wp2_with fail
              refine (KindW.k_may_b HMB.out _ (HT.out.below HB9.out)).mono ?_
              rintro e w4 ⟨rfl, hbx⟩
              have HBR4 := Lib.hid (below_t HBR.out hbx)
              have HB4 := Lib.hid (below_t HB9.out hbx)
              have H4 := Lib.hid (H9.out.below hbx)
              have a0 := H4.out.cell (g_sk {n with s := (14, 0)} (d := j) (by omega))
              have a1 := H4.out.cell (g_sl {n with s := (14, 0)} (d := j) (by omega))
              rw [show ({n with s := (14, 0)} : Nr).sd j = (kj, lj) from HKJ.out] at a0 a1
              simp only at a0 a1
              have ls := H4.out.lt
              clear hbx
              go_wp2_with fail
              refine (KindW.k_may_b HMB.out _ (HT.out.below HB4.out)).mono ?_
              rintro e w5 ⟨rfl, hbx⟩
              have HBR5 := Lib.hid (below_t HBR4.out hbx)
              have HB5 := Lib.hid (below_t HB4.out hbx)
              have H5 := Lib.hid (H4.out.below hbx)
              have a0 := H5.out.cell (g_sk {n with s := (14, 0)} (d := j) (by omega))
              have a1 := H5.out.cell (g_sl {n with s := (14, 0)} (d := j) (by omega))
              rw [show ({n with s := (14, 0)} : Nr).sd j = (kj, lj) from HKJ.out] at a0 a1
              simp only at a0 a1
              have ls := H5.out.lt
              clear hbx
              have HBZ := HBR5
              go_wp2_with fail
              go_roundw
              case rel => exact ⟨j + 1, by first | rfl | rw [HWR.out] | (congr 1; omega), by rw [HWA.out]; first | rfl | (rw [hkI]; rfl), by rw [HFA.out]; rfl, by omega, HBZ.out⟩
              case measure =>
                simp only [intOf]
                omega
      · have hje : j = 6 := by omega
        have hjI : ¬ (j : Int) < 6 := by omega
        subst hje
        obtain ⟨wt, hwt⟩ : ∃ r, anyTo isWater n.sd 6 = r := ⟨_, rfl⟩
        obtain ⟨fu, hfu⟩ : ∃ r, anyTo isFuel n.sd 6 = r := ⟨_, rfl⟩
        have HWT := Lib.hid (show wet n = wt from hwt)
        have HFU := Lib.hid (show fuel n = fu from hfu)
        rw [hwt, hfu]
        clear hbr hwt hfu
        cases fu with
        | true =>
          cases wt with
          | true =>
            have HF := Lib.hid (over_fire (n := n) (l := 0) (d := d) (by omega) (.inl HWT.out))
            go_wp2_with ((with_reducible refine at_slot 59 ?_); refine Classical.byContradiction (fun hG => ?_))
            refine hG ?_
            clear hG
            refine wp_loadN rfl (.tmp 2) rfl rfl (n := {n with s := (14, 0)}) H9.out ?_
            go_wp2_with fail
            refine (Fire_d (n := {n with s := (14, 0)}) (d := d) (D := ⟨[(0, (0, 0))], 0, 0⟩) (HT.out.below HB9.out) HDR.out hd2 HF.out).mono ?_
            rintro e w4 ⟨v, rfl, ho, hb4⟩
            obtain ⟨A1, cap, rfl, _, _, hAA⟩ := ho.form (n := 1) rfl
            obtain ⟨g, rfl, hg1, hg2⟩ := hAA (by omega)
            have HB4 := Lib.hid (below_t HB9.out hb4)
            have HC4 := Lib.hid ((HC2.out.below HBR.out).below hb4)
            have HO4 := Lib.hid ho
            have hz4 := HB4.out.size
            clear hb4 ho hAA hg1
            go_wp2_with fail
            refine HeldP.wp_named (S := fun W => Below w.heap.size w W ∧ Blk W bw TC [.int .u8 0, .int .u8 0] ∧ RowG.Own encX TX W wr.heap.size (.slice (some ⟨g, 0, none⟩) 1 cap) [(0, (0, 0))] ∧ ∃ a, a = w4.heap.size ∧ Blk W a TD [.slice (some ⟨g, 0, none⟩) 1 cap, .int .i64 0, .int .i64 0]) ⟨by have := HS.out; (repeat' (first | (with_reducible exact Below.refl _ _) | (with_reducible refine Below.setCell ?_ (by (first | omega | (simp; done) | (simp; omega))) _) | (with_reducible refine Below.alloc ?_ (by (first | omega | (simp; done) | (simp; omega))) _) | (with_reducible refine Below.drew ?_) | (with_reducible refine below_drewN ?_ _) | (with_reducible refine Below.trans ?_ (Below.mono HB4.out (by (first | omega | (simp; done) | (simp; omega))))))), by (repeat' (first | (with_reducible exact HC4.out) | (with_reducible refine BlkP.Blk.drew ?_) | (with_reducible refine BlkP.Blk.drewN ?_ _) | (with_reducible refine BlkP.Blk.setAt (us := ?_) (by first | omega | (simp; done) | (simp; omega)) rfl ?_ ?_) | (with_reducible refine BlkP.Blk.otherAt ?_ (by first | omega | (simp; done) | (simp; omega))) | (with_reducible refine BlkP.Blk.newA' (by first | omega | (simp; done) | (simp; omega)) rfl) | (with_reducible refine BlkP.Blk.alloc ?_ _) | (exact rfl))), HO4.out.below (by (repeat' (first | (with_reducible exact Below.refl _ _) | (with_reducible refine Below.setCell ?_ (by (first | omega | (simp; done) | (simp; omega))) _) | (with_reducible refine Below.alloc ?_ (by (first | omega | (simp; done) | (simp; omega))) _) | (with_reducible refine Below.drew ?_) | (with_reducible refine below_drewN ?_ _)))), w4.heap.size, rfl, by (repeat' (first | (with_reducible refine BlkP.Blk.drew ?_) | (with_reducible refine BlkP.Blk.drewN ?_ _) | (with_reducible refine BlkP.Blk.setAt (us := ?_) (by first | omega | (simp; done) | (simp; omega)) rfl ?_ ?_) | (with_reducible refine BlkP.Blk.otherAt ?_ (by first | omega | (simp; done) | (simp; omega))) | (with_reducible refine BlkP.Blk.newA' (by first | omega | (simp; done) | (simp; omega)) rfl) | (with_reducible refine BlkP.Blk.alloc ?_ _) | (exact rfl)))⟩ ?_
            rintro w5 ⟨hb5, hc5, ho5, a, ha, ha5⟩
            try rw [← ha]
            have HB5 := Lib.hid hb5
            have a0 := ha5.cell (i := 0) rfl
            have a1 := ha5.cell (i := 1) rfl
            have la := ha5.lt
            have e0 := hc5.cell (i := 0) rfl
            have e1 := hc5.cell (i := 1) rfl
            have le := hc5.lt
            have c0 : w5.cell? ⟨g, 0, none⟩ = some (.int .i64 0) := ho5.cell (i := 0) (j := 0) rfl rfl
            have c1 : w5.cell? ⟨g, 1, none⟩ = some (.int .u8 0) := ho5.cell (i := 0) (j := 1) rfl rfl
            have c2 : w5.cell? ⟨g, 2, none⟩ = some (.int .u8 0) := ho5.cell (i := 0) (j := 2) rfl rfl
            have lg := (ho5.ge g rfl).2
            clear hb5 hc5 ho5 ha ha5 hz4 hg2
            refine wp_region_noPanic ?_
            refine wp_region_held_drew (S := fun W => Below w5.heap.size w5 W) (by kernel_rfl) ((Below.refl _ w5).drew) (fun hHeld => ?_)
            refine wpAnyH_take (i := 0) (oi := ⟨some 61, _, _, _, _, _⟩) (v := .pointer (some ⟨a, 0, none⟩)) rfl (by kernel_rfl) (by kernel_rfl) (by kernel_rfl) (fun _ _ _ h => h) (Or.inl ⟨by rfl, fun W hSW => by go_simp⟩) hHeld ?_
            simp only [Act.put, List.setIfInBounds_toArray, List.set_cons_zero, List.set_cons_succ]
            refine wpAnyH_take (i := 1) (oi := ⟨some 62, _, _, _, _, _⟩) (v := .slice (some ⟨g, 0, none⟩) 1 cap) rfl (by kernel_rfl) (by kernel_rfl) (by kernel_rfl) (fun _ _ _ h => h) (Or.inl ⟨by rfl, fun W hSW => by have a0 := (hSW.cell (p := ⟨a, 0, none⟩) la).trans a0; go_simp⟩) hHeld ?_
            simp only [Act.put, List.setIfInBounds_toArray, List.set_cons_zero, List.set_cons_succ]
            refine wpAnyH_take (i := 2) (oi := ⟨some 63, _, _, _, _, _⟩) (v := .int .i64 1) rfl (by kernel_rfl) (by kernel_rfl) (by kernel_rfl) (fun _ _ _ h => h) (Or.inl ⟨by rfl, fun W hSW => by go_simp⟩) hHeld ?_
            simp only [Act.put, List.setIfInBounds_toArray, List.set_cons_zero, List.set_cons_succ]
            refine wpAnyH_take (i := 3) (oi := ⟨some 64, _, _, _, _, _⟩) (v := .bool true) rfl (by kernel_rfl) (by kernel_rfl) (by kernel_rfl) (fun _ _ _ h => h) (Or.inl ⟨by rfl, fun W hSW => by go_simp⟩) hHeld ?_
            simp only [Act.put, List.setIfInBounds_toArray, List.set_cons_zero, List.set_cons_succ]
            refine wpAnyH_take (i := 4) (oi := ⟨some 65, _, _, _, _, _⟩) (v := .bool true) rfl (by kernel_rfl) (by kernel_rfl) (by kernel_rfl) (fun _ _ _ h => h) (Or.inl ⟨by rfl, fun W hSW => by go_simp⟩) hHeld ?_
            simp only [Act.put, List.setIfInBounds_toArray, List.set_cons_zero, List.set_cons_succ]
            refine wpAnyH_take (i := 5) (oi := ⟨some 66, _, _, _, _, _⟩) (v := .pointer (some ⟨a, 0, none⟩)) rfl (by kernel_rfl) (by kernel_rfl) (by kernel_rfl) (fun _ _ _ h => h) (Or.inl ⟨by rfl, fun W hSW => by go_simp⟩) hHeld ?_
            simp only [Act.put, List.setIfInBounds_toArray, List.set_cons_zero, List.set_cons_succ]
            refine wpAnyH_take (i := 6) (oi := ⟨some 67, _, _, _, _, _⟩) (v := .slice (some ⟨g, 0, none⟩) 1 cap) rfl (by kernel_rfl) (by kernel_rfl) (by kernel_rfl) (fun _ _ _ h => h) (Or.inl ⟨by rfl, fun W hSW => by have a0 := (hSW.cell (p := ⟨a, 0, none⟩) la).trans a0; go_simp⟩) hHeld ?_
            simp only [Act.put, List.setIfInBounds_toArray, List.set_cons_zero, List.set_cons_succ]
            refine wpAnyH_take (i := 7) (oi := ⟨some 68, _, _, _, _, _⟩) (v := .pointer (some ⟨g, 0, none⟩)) rfl (by kernel_rfl) (by kernel_rfl) (by kernel_rfl) (fun _ _ _ h => h) (Or.inl ⟨by rfl, fun W hSW => by go_simp⟩) hHeld ?_
            simp only [Act.put, List.setIfInBounds_toArray, List.set_cons_zero, List.set_cons_succ]
            refine wpAnyH_take (i := 8) (oi := ⟨some 69, _, _, _, _, _⟩) (v := .agg #[.int .i64 0, .int .u8 0, .int .u8 0]) rfl (by kernel_rfl) (by kernel_rfl) (by kernel_rfl) (fun _ _ _ h => h) (Or.inl ⟨by rfl, fun W hSW => by have a0 := (hSW.cell (p := ⟨g, 0, none⟩) lg).trans c0; have a1 := (hSW.cell (p := ⟨g, 1, none⟩) lg).trans c1; have a2 := (hSW.cell (p := ⟨g, 2, none⟩) lg).trans c2; go_simp⟩) hHeld ?_
            simp only [Act.put, List.setIfInBounds_toArray, List.set_cons_zero, List.set_cons_succ]
            refine wpAnyH_take (i := 9) (oi := ⟨some 70, _, _, _, _, _⟩) (v := .agg #[.int .u8 0, .int .u8 0]) rfl (by kernel_rfl) (by kernel_rfl) (by kernel_rfl) (fun _ _ _ h => h) (Or.inl ⟨by rfl, fun W hSW => by have a0 := (hSW.cell (p := ⟨bw, 0, none⟩) le).trans e0; have a1 := (hSW.cell (p := ⟨bw, 1, none⟩) le).trans e1; go_simp⟩) hHeld ?_
            simp only [Act.put, List.setIfInBounds_toArray, List.set_cons_zero, List.set_cons_succ]
            refine wpAnyH_take (i := 10) (oi := ⟨some 71, _, _, _, _, _⟩) (v := .agg #[.int .i64 0, .int .u8 0, .int .u8 0]) rfl (by kernel_rfl) (by kernel_rfl) (by kernel_rfl) (fun _ _ _ h => h) (Or.inl ⟨by rfl, fun W hSW => by go_simp⟩) hHeld ?_
            simp only [Act.put, List.setIfInBounds_toArray, List.set_cons_zero, List.set_cons_succ]
            refine wpAnyH_take (i := 11) (oi := ⟨some 72, _, _, _, _, _⟩) (v := .bool true) rfl (by kernel_rfl) (by kernel_rfl) (by kernel_rfl) (fun _ _ _ h => h) (Or.inl ⟨by rfl, fun W hSW => by go_simp⟩) hHeld ?_
            simp only [Act.put, List.setIfInBounds_toArray, List.set_cons_zero, List.set_cons_succ]
            refine wpAnyH_take (i := 12) (oi := ⟨some 73, _, _, _, _, _⟩) (v := .bool true) rfl (by kernel_rfl) (by kernel_rfl) (by kernel_rfl) (fun _ _ _ h => h) (Or.inl ⟨by rfl, fun W hSW => by go_simp⟩) hHeld ?_
            simp only [Act.put, List.setIfInBounds_toArray, List.set_cons_zero, List.set_cons_succ]
            refine wpAnyH_take (i := 13) (oi := ⟨some 74, _, _, _, _, _⟩) (v := .bool true) rfl (by kernel_rfl) (by kernel_rfl) (by kernel_rfl) (fun _ _ _ h => h) (Or.inl ⟨by rfl, fun W hSW => by go_simp⟩) hHeld ?_
            simp only [Act.put, List.setIfInBounds_toArray, List.set_cons_zero, List.set_cons_succ]
            refine wpAnyH_take (i := 14) (oi := ⟨some 75, _, _, _, _, _⟩) (v := .pointer (some ⟨a, 1, none⟩)) rfl (by kernel_rfl) (by kernel_rfl) (by kernel_rfl) (fun _ _ _ h => h) (Or.inl ⟨by rfl, fun W hSW => by go_simp⟩) hHeld ?_
            simp only [Act.put, List.setIfInBounds_toArray, List.set_cons_zero, List.set_cons_succ]
            refine wpAnyH_take (i := 15) (oi := ⟨some 76, _, _, _, _, _⟩) (v := .int .i64 0) rfl (by kernel_rfl) (by kernel_rfl) (by kernel_rfl) (fun _ _ _ h => h) (Or.inl ⟨by rfl, fun W hSW => by have a0 := (hSW.cell (p := ⟨a, 1, none⟩) la).trans a1; go_simp⟩) hHeld ?_
            simp only [Act.put, List.setIfInBounds_toArray, List.set_cons_zero, List.set_cons_succ]
            refine wpAnyH_take (i := 16) (oi := ⟨some 77, _, _, _, _, _⟩) (v := .bool true) rfl (by kernel_rfl) (by kernel_rfl) (by kernel_rfl) (fun _ _ _ h => h) (Or.inl ⟨by rfl, fun W hSW => by go_simp⟩) hHeld ?_
            simp only [Act.put, List.setIfInBounds_toArray, List.set_cons_zero, List.set_cons_succ]
            refine wpAnyH_take (i := 17) (oi := ⟨some 78, _, _, _, _, _⟩) (v := .bool true) rfl (by kernel_rfl) (by kernel_rfl) (by kernel_rfl) (fun _ _ _ h => h) (Or.inl ⟨by rfl, fun W hSW => by go_simp⟩) hHeld ?_
            simp only [Act.put, List.setIfInBounds_toArray, List.set_cons_zero, List.set_cons_succ]
            refine wpAnyH_take (i := 18) (oi := ⟨some 79, _, _, _, _, _⟩) (v := .bool true) rfl (by kernel_rfl) (by kernel_rfl) (by kernel_rfl) (fun _ _ _ h => h) (Or.inl ⟨by rfl, fun W hSW => by go_simp⟩) hHeld ?_
            simp only [Act.put, List.setIfInBounds_toArray, List.set_cons_zero, List.set_cons_succ]
            refine wpAnyH_ready (rs := [19]) (by kernel_rfl) (by simp) ?_
            refine AllReadyH.cons (o := ⟨some 80, _, _, _, _, _⟩) rfl (fun K hK => ?_) AllReadyH.nil
            go_simp
            refine (works_c (HT.out.below (below_t HB5.out hHeld))).mono ?_
            rintro e w6 ⟨rfl, hb6⟩
            go_wp2_with fail
            refine hK.out _ _ (below_t hHeld hb6) (fun hHeld => ?_)
            clear hK K hb6
            refine wpAnyH_take (i := 20) (oi := ⟨some 81, _, _, _, _, _⟩) (v := .bool true) rfl (by kernel_rfl) (by kernel_rfl) (by kernel_rfl) (fun _ _ _ h => h) (Or.inl ⟨by rfl, fun W hSW => by go_simp⟩) hHeld ?_
            simp only [Act.put, List.setIfInBounds_toArray, List.set_cons_zero, List.set_cons_succ]
            refine wpAnyH_take (i := 21) (oi := ⟨some 4, _, _, _, _, _⟩) (v := .bool true) rfl (by kernel_rfl) (by kernel_rfl) (by kernel_rfl) (fun _ _ _ h => h) (Or.inl ⟨by rfl, fun W hSW => by go_simp⟩) hHeld ?_
            simp only [Act.put, List.setIfInBounds_toArray, List.set_cons_zero, List.set_cons_succ]
            refine wpAnyH_done (by kernel_rfl) ?_ _
            refine NoPanic.normal ?_
            refine HeldP.then_named (S := fun W => Below w5.heap.size w5 W) hHeld ?_
            rintro w7 hb7
            have HB7 := Lib.hid (below_t HB5.out hb7)
            clear hHeld hb7 a0 a1 la e0 e1 le c0 c1 c2 lg
            go_wp2_with fail
            go_ret
            exact ⟨by first | rfl | simp, HS.out ▸ HB7.out⟩
          | false =>
            go_wp2_with fail
            refine (works_c (HT.out.below HB9.out)).mono ?_
            rintro e w8 ⟨rfl, hb8⟩
            have HB8 := Lib.hid (below_t HB9.out hb8)
            clear hb8
            go_wp2_with fail
            go_ret
            exact ⟨by first | rfl | simp, HS.out ▸ HB8.out⟩
        | false =>
          have HF := Lib.hid (over_fire (n := n) (l := 0) (d := d) (by omega) (.inr HFU.out))
          go_wp2_with ((with_reducible refine at_slot 59 ?_); refine Classical.byContradiction (fun hG => ?_))
          refine hG ?_
          clear hG
          refine wp_loadN rfl (.tmp 2) rfl rfl (n := {n with s := (14, 0)}) H9.out ?_
          go_wp2_with fail
          refine (Fire_d (n := {n with s := (14, 0)}) (d := d) (D := ⟨[(0, (0, 0))], 0, 0⟩) (HT.out.below HB9.out) HDR.out hd2 HF.out).mono ?_
          rintro e w4 ⟨v, rfl, ho, hb4⟩
          obtain ⟨A1, cap, rfl, _, _, hAA⟩ := ho.form (n := 1) rfl
          obtain ⟨g, rfl, hg1, hg2⟩ := hAA (by omega)
          have HB4 := Lib.hid (below_t HB9.out hb4)
          have HC4 := Lib.hid ((HC2.out.below HBR.out).below hb4)
          have HO4 := Lib.hid ho
          have hz4 := HB4.out.size
          clear hb4 ho hAA hg1
          go_wp2_with fail
          refine HeldP.wp_named (S := fun W => Below w.heap.size w W ∧ Blk W bw TC [.int .u8 0, .int .u8 0] ∧ RowG.Own encX TX W wr.heap.size (.slice (some ⟨g, 0, none⟩) 1 cap) [(0, (0, 0))] ∧ ∃ a, a = w4.heap.size ∧ Blk W a TD [.slice (some ⟨g, 0, none⟩) 1 cap, .int .i64 0, .int .i64 0]) ⟨by have := HS.out; (repeat' (first | (with_reducible exact Below.refl _ _) | (with_reducible refine Below.setCell ?_ (by (first | omega | (simp; done) | (simp; omega))) _) | (with_reducible refine Below.alloc ?_ (by (first | omega | (simp; done) | (simp; omega))) _) | (with_reducible refine Below.drew ?_) | (with_reducible refine below_drewN ?_ _) | (with_reducible refine Below.trans ?_ (Below.mono HB4.out (by (first | omega | (simp; done) | (simp; omega))))))), by (repeat' (first | (with_reducible exact HC4.out) | (with_reducible refine BlkP.Blk.drew ?_) | (with_reducible refine BlkP.Blk.drewN ?_ _) | (with_reducible refine BlkP.Blk.setAt (us := ?_) (by first | omega | (simp; done) | (simp; omega)) rfl ?_ ?_) | (with_reducible refine BlkP.Blk.otherAt ?_ (by first | omega | (simp; done) | (simp; omega))) | (with_reducible refine BlkP.Blk.newA' (by first | omega | (simp; done) | (simp; omega)) rfl) | (with_reducible refine BlkP.Blk.alloc ?_ _) | (exact rfl))), HO4.out.below (by (repeat' (first | (with_reducible exact Below.refl _ _) | (with_reducible refine Below.setCell ?_ (by (first | omega | (simp; done) | (simp; omega))) _) | (with_reducible refine Below.alloc ?_ (by (first | omega | (simp; done) | (simp; omega))) _) | (with_reducible refine Below.drew ?_) | (with_reducible refine below_drewN ?_ _)))), w4.heap.size, rfl, by (repeat' (first | (with_reducible refine BlkP.Blk.drew ?_) | (with_reducible refine BlkP.Blk.drewN ?_ _) | (with_reducible refine BlkP.Blk.setAt (us := ?_) (by first | omega | (simp; done) | (simp; omega)) rfl ?_ ?_) | (with_reducible refine BlkP.Blk.otherAt ?_ (by first | omega | (simp; done) | (simp; omega))) | (with_reducible refine BlkP.Blk.newA' (by first | omega | (simp; done) | (simp; omega)) rfl) | (with_reducible refine BlkP.Blk.alloc ?_ _) | (exact rfl)))⟩ ?_
          rintro w5 ⟨hb5, hc5, ho5, a, ha, ha5⟩
          try rw [← ha]
          have HB5 := Lib.hid hb5
          have a0 := ha5.cell (i := 0) rfl
          have a1 := ha5.cell (i := 1) rfl
          have la := ha5.lt
          have e0 := hc5.cell (i := 0) rfl
          have e1 := hc5.cell (i := 1) rfl
          have le := hc5.lt
          have c0 : w5.cell? ⟨g, 0, none⟩ = some (.int .i64 0) := ho5.cell (i := 0) (j := 0) rfl rfl
          have c1 : w5.cell? ⟨g, 1, none⟩ = some (.int .u8 0) := ho5.cell (i := 0) (j := 1) rfl rfl
          have c2 : w5.cell? ⟨g, 2, none⟩ = some (.int .u8 0) := ho5.cell (i := 0) (j := 2) rfl rfl
          have lg := (ho5.ge g rfl).2
          clear hb5 hc5 ho5 ha ha5 hz4 hg2
          refine wp_region_noPanic ?_
          refine wp_region_held_drew (S := fun W => Below w5.heap.size w5 W) (by kernel_rfl) ((Below.refl _ w5).drew) (fun hHeld => ?_)
          refine wpAnyH_take (i := 0) (oi := ⟨some 61, _, _, _, _, _⟩) (v := .pointer (some ⟨a, 0, none⟩)) rfl (by kernel_rfl) (by kernel_rfl) (by kernel_rfl) (fun _ _ _ h => h) (Or.inl ⟨by rfl, fun W hSW => by go_simp⟩) hHeld ?_
          simp only [Act.put, List.setIfInBounds_toArray, List.set_cons_zero, List.set_cons_succ]
          refine wpAnyH_take (i := 1) (oi := ⟨some 62, _, _, _, _, _⟩) (v := .slice (some ⟨g, 0, none⟩) 1 cap) rfl (by kernel_rfl) (by kernel_rfl) (by kernel_rfl) (fun _ _ _ h => h) (Or.inl ⟨by rfl, fun W hSW => by have a0 := (hSW.cell (p := ⟨a, 0, none⟩) la).trans a0; go_simp⟩) hHeld ?_
          simp only [Act.put, List.setIfInBounds_toArray, List.set_cons_zero, List.set_cons_succ]
          refine wpAnyH_take (i := 2) (oi := ⟨some 63, _, _, _, _, _⟩) (v := .int .i64 1) rfl (by kernel_rfl) (by kernel_rfl) (by kernel_rfl) (fun _ _ _ h => h) (Or.inl ⟨by rfl, fun W hSW => by go_simp⟩) hHeld ?_
          simp only [Act.put, List.setIfInBounds_toArray, List.set_cons_zero, List.set_cons_succ]
          refine wpAnyH_take (i := 3) (oi := ⟨some 64, _, _, _, _, _⟩) (v := .bool true) rfl (by kernel_rfl) (by kernel_rfl) (by kernel_rfl) (fun _ _ _ h => h) (Or.inl ⟨by rfl, fun W hSW => by go_simp⟩) hHeld ?_
          simp only [Act.put, List.setIfInBounds_toArray, List.set_cons_zero, List.set_cons_succ]
          refine wpAnyH_take (i := 4) (oi := ⟨some 65, _, _, _, _, _⟩) (v := .bool true) rfl (by kernel_rfl) (by kernel_rfl) (by kernel_rfl) (fun _ _ _ h => h) (Or.inl ⟨by rfl, fun W hSW => by go_simp⟩) hHeld ?_
          simp only [Act.put, List.setIfInBounds_toArray, List.set_cons_zero, List.set_cons_succ]
          refine wpAnyH_take (i := 5) (oi := ⟨some 66, _, _, _, _, _⟩) (v := .pointer (some ⟨a, 0, none⟩)) rfl (by kernel_rfl) (by kernel_rfl) (by kernel_rfl) (fun _ _ _ h => h) (Or.inl ⟨by rfl, fun W hSW => by go_simp⟩) hHeld ?_
          simp only [Act.put, List.setIfInBounds_toArray, List.set_cons_zero, List.set_cons_succ]
          refine wpAnyH_take (i := 6) (oi := ⟨some 67, _, _, _, _, _⟩) (v := .slice (some ⟨g, 0, none⟩) 1 cap) rfl (by kernel_rfl) (by kernel_rfl) (by kernel_rfl) (fun _ _ _ h => h) (Or.inl ⟨by rfl, fun W hSW => by have a0 := (hSW.cell (p := ⟨a, 0, none⟩) la).trans a0; go_simp⟩) hHeld ?_
          simp only [Act.put, List.setIfInBounds_toArray, List.set_cons_zero, List.set_cons_succ]
          refine wpAnyH_take (i := 7) (oi := ⟨some 68, _, _, _, _, _⟩) (v := .pointer (some ⟨g, 0, none⟩)) rfl (by kernel_rfl) (by kernel_rfl) (by kernel_rfl) (fun _ _ _ h => h) (Or.inl ⟨by rfl, fun W hSW => by go_simp⟩) hHeld ?_
          simp only [Act.put, List.setIfInBounds_toArray, List.set_cons_zero, List.set_cons_succ]
          refine wpAnyH_take (i := 8) (oi := ⟨some 69, _, _, _, _, _⟩) (v := .agg #[.int .i64 0, .int .u8 0, .int .u8 0]) rfl (by kernel_rfl) (by kernel_rfl) (by kernel_rfl) (fun _ _ _ h => h) (Or.inl ⟨by rfl, fun W hSW => by have a0 := (hSW.cell (p := ⟨g, 0, none⟩) lg).trans c0; have a1 := (hSW.cell (p := ⟨g, 1, none⟩) lg).trans c1; have a2 := (hSW.cell (p := ⟨g, 2, none⟩) lg).trans c2; go_simp⟩) hHeld ?_
          simp only [Act.put, List.setIfInBounds_toArray, List.set_cons_zero, List.set_cons_succ]
          refine wpAnyH_take (i := 9) (oi := ⟨some 70, _, _, _, _, _⟩) (v := .agg #[.int .u8 0, .int .u8 0]) rfl (by kernel_rfl) (by kernel_rfl) (by kernel_rfl) (fun _ _ _ h => h) (Or.inl ⟨by rfl, fun W hSW => by have a0 := (hSW.cell (p := ⟨bw, 0, none⟩) le).trans e0; have a1 := (hSW.cell (p := ⟨bw, 1, none⟩) le).trans e1; go_simp⟩) hHeld ?_
          simp only [Act.put, List.setIfInBounds_toArray, List.set_cons_zero, List.set_cons_succ]
          refine wpAnyH_take (i := 10) (oi := ⟨some 71, _, _, _, _, _⟩) (v := .agg #[.int .i64 0, .int .u8 0, .int .u8 0]) rfl (by kernel_rfl) (by kernel_rfl) (by kernel_rfl) (fun _ _ _ h => h) (Or.inl ⟨by rfl, fun W hSW => by go_simp⟩) hHeld ?_
          simp only [Act.put, List.setIfInBounds_toArray, List.set_cons_zero, List.set_cons_succ]
          refine wpAnyH_take (i := 11) (oi := ⟨some 72, _, _, _, _, _⟩) (v := .bool true) rfl (by kernel_rfl) (by kernel_rfl) (by kernel_rfl) (fun _ _ _ h => h) (Or.inl ⟨by rfl, fun W hSW => by go_simp⟩) hHeld ?_
          simp only [Act.put, List.setIfInBounds_toArray, List.set_cons_zero, List.set_cons_succ]
          refine wpAnyH_take (i := 12) (oi := ⟨some 73, _, _, _, _, _⟩) (v := .bool true) rfl (by kernel_rfl) (by kernel_rfl) (by kernel_rfl) (fun _ _ _ h => h) (Or.inl ⟨by rfl, fun W hSW => by go_simp⟩) hHeld ?_
          simp only [Act.put, List.setIfInBounds_toArray, List.set_cons_zero, List.set_cons_succ]
          refine wpAnyH_take (i := 13) (oi := ⟨some 74, _, _, _, _, _⟩) (v := .bool true) rfl (by kernel_rfl) (by kernel_rfl) (by kernel_rfl) (fun _ _ _ h => h) (Or.inl ⟨by rfl, fun W hSW => by go_simp⟩) hHeld ?_
          simp only [Act.put, List.setIfInBounds_toArray, List.set_cons_zero, List.set_cons_succ]
          refine wpAnyH_take (i := 14) (oi := ⟨some 75, _, _, _, _, _⟩) (v := .pointer (some ⟨a, 1, none⟩)) rfl (by kernel_rfl) (by kernel_rfl) (by kernel_rfl) (fun _ _ _ h => h) (Or.inl ⟨by rfl, fun W hSW => by go_simp⟩) hHeld ?_
          simp only [Act.put, List.setIfInBounds_toArray, List.set_cons_zero, List.set_cons_succ]
          refine wpAnyH_take (i := 15) (oi := ⟨some 76, _, _, _, _, _⟩) (v := .int .i64 0) rfl (by kernel_rfl) (by kernel_rfl) (by kernel_rfl) (fun _ _ _ h => h) (Or.inl ⟨by rfl, fun W hSW => by have a0 := (hSW.cell (p := ⟨a, 1, none⟩) la).trans a1; go_simp⟩) hHeld ?_
          simp only [Act.put, List.setIfInBounds_toArray, List.set_cons_zero, List.set_cons_succ]
          refine wpAnyH_take (i := 16) (oi := ⟨some 77, _, _, _, _, _⟩) (v := .bool true) rfl (by kernel_rfl) (by kernel_rfl) (by kernel_rfl) (fun _ _ _ h => h) (Or.inl ⟨by rfl, fun W hSW => by go_simp⟩) hHeld ?_
          simp only [Act.put, List.setIfInBounds_toArray, List.set_cons_zero, List.set_cons_succ]
          refine wpAnyH_take (i := 17) (oi := ⟨some 78, _, _, _, _, _⟩) (v := .bool true) rfl (by kernel_rfl) (by kernel_rfl) (by kernel_rfl) (fun _ _ _ h => h) (Or.inl ⟨by rfl, fun W hSW => by go_simp⟩) hHeld ?_
          simp only [Act.put, List.setIfInBounds_toArray, List.set_cons_zero, List.set_cons_succ]
          refine wpAnyH_take (i := 18) (oi := ⟨some 79, _, _, _, _, _⟩) (v := .bool true) rfl (by kernel_rfl) (by kernel_rfl) (by kernel_rfl) (fun _ _ _ h => h) (Or.inl ⟨by rfl, fun W hSW => by go_simp⟩) hHeld ?_
          simp only [Act.put, List.setIfInBounds_toArray, List.set_cons_zero, List.set_cons_succ]
          refine wpAnyH_ready (rs := [19]) (by kernel_rfl) (by simp) ?_
          refine AllReadyH.cons (o := ⟨some 80, _, _, _, _, _⟩) rfl (fun K hK => ?_) AllReadyH.nil
          go_simp
          refine (works_c (HT.out.below (below_t HB5.out hHeld))).mono ?_
          rintro e w6 ⟨rfl, hb6⟩
          go_wp2_with fail
          refine hK.out _ _ (below_t hHeld hb6) (fun hHeld => ?_)
          clear hK K hb6
          refine wpAnyH_take (i := 20) (oi := ⟨some 81, _, _, _, _, _⟩) (v := .bool true) rfl (by kernel_rfl) (by kernel_rfl) (by kernel_rfl) (fun _ _ _ h => h) (Or.inl ⟨by rfl, fun W hSW => by go_simp⟩) hHeld ?_
          simp only [Act.put, List.setIfInBounds_toArray, List.set_cons_zero, List.set_cons_succ]
          refine wpAnyH_take (i := 21) (oi := ⟨some 4, _, _, _, _, _⟩) (v := .bool true) rfl (by kernel_rfl) (by kernel_rfl) (by kernel_rfl) (fun _ _ _ h => h) (Or.inl ⟨by rfl, fun W hSW => by go_simp⟩) hHeld ?_
          simp only [Act.put, List.setIfInBounds_toArray, List.set_cons_zero, List.set_cons_succ]
          refine wpAnyH_done (by kernel_rfl) ?_ _
          refine NoPanic.normal ?_
          refine HeldP.then_named (S := fun W => Below w5.heap.size w5 W) hHeld ?_
          rintro w7 hb7
          have HB7 := Lib.hid (below_t HB5.out hb7)
          clear hHeld hb7 a0 a1 la e0 e1 le c0 c1 c2 lg
          go_wp2_with fail
          go_ret
          exact ⟨by first | rfl | simp, HS.out ▸ HB7.out⟩
end BurnW
end Go.Proofs.YtlidcefmpoelkaaDoor
