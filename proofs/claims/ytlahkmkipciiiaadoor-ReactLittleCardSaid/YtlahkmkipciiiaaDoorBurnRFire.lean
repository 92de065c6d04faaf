/-
  The reference's Fire.
-/
import Derived.Test.YtlahkmkipciiiaaDoorBurnRef
namespace Go.Proofs.YtlahkmkipciiiaaDoor
open Go.RowKit
set_option linter.unusedVariables false
set_option linter.unusedSimpArgs false
namespace BurnW
open BlkP RowG FrS PushG CellsW NearW BurnP
/-- Of how many of the first so many sides it holds. -/
def cntTo (p : Cl → Bool) (f : Nat → Cl) : Nat → Nat
  | 0 => 0
  | j + 1 => cntTo p f j + (if p (f j) then 1 else 0)
theorem cnt_le (p : Cl → Bool) (f : Nat → Cl) : ∀ j, cntTo p f j ≤ j
  | 0 => Nat.le_refl _
  | j + 1 => by
    have := cnt_le p f j
    simp only [cntTo]
    split <;> omega
theorem cnt_any (p : Cl → Bool) (f : Nat → Cl) : ∀ j, anyTo p f j = decide (0 < cntTo p f j)
  | 0 => rfl
  | j + 1 => by
    simp only [anyTo, cntTo, cnt_any p f j]
    by_cases h : p (f j) = true
    · simp [h]
    · simp [h]
theorem rleft_q {w : World} {n : Nr} : Calls Tryd.prog 59 #[nv n] w (DeedQ w ⟨[(0, left n.s.2)], 0, mv (left n.s.2).1⟩) := rleft_c
set_option maxRecDepth 100000 in
set_option maxHeartbeats 16000000 in
theorem rFire_c {w : World} {n : Nr} {d : Nat} (hd : n.dr = (d : Int)) (hd2 : d ≤ 18446744073709551615) : Calls Tryd.prog 28 #[nv n] w (DeedQ w (fire n d)) := by
  have HDR := Lib.hid hd
  obtain ⟨D, hD⟩ : ∃ D, fire n d = D := ⟨_, rfl⟩
  rw [hD]
  have HD := Lib.hid hD
  obtain ⟨⟨k0, l0⟩, hs0⟩ : ∃ c, n.s = c := ⟨_, rfl⟩
  have HS0 := Lib.hid hs0
  obtain ⟨q0, hq0⟩ : ∃ c, kd (k0, l0) = c := ⟨_, rfl⟩
  have HQ0 := Lib.hid hq0
  have HK0 := Lib.hid (show kd n.s = q0 by rw [hs0, hq0])
  obtain ⟨s, hs⟩ : ∃ s, w.heap.size = s := ⟨_, rfl⟩
  have HS := Lib.hid hs
  clear hd hD hs0 hq0
  go_enter Tryd.func28, Tryd.ntmps28
  go_wp2_with ((with_reducible refine at_slot 1 ?_); refine Classical.byContradiction (fun hG => ?_))
  refine hG ?_
  clear hG
  refine wp_boxN rfl (.tmp 0) rfl rfl ?_
  intro w1 h1 hb1 hz1
  rw [hs] at h1 hz1
  try rw [hs]
  go_wp2_with ((with_reducible refine at_slot 10 ?_); refine Classical.byContradiction (fun hG => ?_))
  refine hG ?_
  clear hG
  refine list_named (S := fun W => Below w.heap.size w W ∧ Blk W s TN (vals n) ∧ Blk W (s + 1) TD [.slice none 0 0, .int .i64 0, .int .i64 0]) ⟨by (repeat' (first | (with_reducible exact Below.refl _ _) | (with_reducible refine Below.setCell ?_ (by (first | omega | (simp; done) | (simp; omega))) _) | (with_reducible refine Below.alloc ?_ (by (first | omega | (simp; done) | (simp; omega))) _) | (with_reducible refine Below.drew ?_) | (with_reducible refine below_drewN ?_ _) | (with_reducible refine Below.trans ?_ (Below.mono hb1 (by (first | omega | (simp; done) | (simp; omega))))))), by (repeat' (first | (with_reducible exact h1) | (with_reducible refine BlkP.Blk.drew ?_) | (with_reducible refine BlkP.Blk.drewN ?_ _) | (with_reducible refine BlkP.Blk.setAt (us := ?_) (by first | omega | (simp; done) | (simp; omega)) rfl ?_ ?_) | (with_reducible refine BlkP.Blk.otherAt ?_ (by first | omega | (simp; done) | (simp; omega))) | (with_reducible refine BlkP.Blk.newA' (by first | omega | (simp; done) | (simp; omega)) rfl) | (with_reducible refine BlkP.Blk.alloc ?_ _) | (exact rfl))), by (repeat' (first | (with_reducible refine BlkP.Blk.drew ?_) | (with_reducible refine BlkP.Blk.drewN ?_ _) | (with_reducible refine BlkP.Blk.setAt (us := ?_) (by first | omega | (simp; done) | (simp; omega)) rfl ?_ ?_) | (with_reducible refine BlkP.Blk.otherAt ?_ (by first | omega | (simp; done) | (simp; omega))) | (with_reducible refine BlkP.Blk.newA' (by first | omega | (simp; done) | (simp; omega)) rfl) | (with_reducible refine BlkP.Blk.alloc ?_ _) | (exact rfl)))⟩ ?_
  clear hb1 h1 hz1
  rintro w2 ⟨hb2, h2, hr2⟩
  have HB2 := Lib.hid hb2
  have H2 := Lib.hid h2
  have HR2 := Lib.hid hr2
  have c0 := h2.cell (i := 0) (g_kind n)
  have c1 := h2.cell (i := 1) (g_lev n)
  rw [HS0.out] at c0 c1
  simp only at c0 c1
  have ls := h2.lt
  clear hb2 h2 hr2
  go_wp2_with fail
  refine (rof_c HQ0.out).mono ?_
  rintro e w3 ⟨rfl, hb3⟩
  have HB3 := Lib.hid (below_t HB2.out hb3)
  have H3 := Lib.hid (H2.out.below hb3)
  have HR3 := Lib.hid (HR2.out.below hb3)
  clear hb3 c0 c1 ls
  by_cases hk14 : q0 = 14
  · have h14 : ((q0 : Int) != 14) = false := by simp; omega
    have HK14 := Lib.hid hk14
    clear hk14
    go_wp2_with fail
    go_loopw [3, 4, 5] (fun v3 v4 v5 wr => ∃ j : Nat, v4 = .int .i64 (j : Nat) ∧ v3 = .int .i64 (cntTo isFuel n.sd j : Nat) ∧ j ≤ 6 ∧ (∀ i, i < j → isWater (n.sd i) = false) ∧ Below w3.heap.size w3 wr) (fun _ v _ _ => 6 - (intOf v).toNat)
    case atStart => exact ⟨0, rfl, rfl, by omega, fun i hi => absurd hi (by omega), Below.refl _ _⟩
    case round =>
      obtain ⟨j, rfl, rfl, hj, hall, hbr⟩ := hrel
      have HALL := Lib.hid hall
      have HBR := Lib.hid hbr
      have HB9 := Lib.hid (below_t HB3.out hbr)
      have H9 := Lib.hid (H3.out.below hbr)
      have HR9 := Lib.hid (HR3.out.below hbr)
      have ls := H9.out.lt
      by_cases hjl : j < 6
      · have hjI : (j : Int) < 6 := by omega
        have HWR := Lib.hid (show wrap64 ((j : Int) + 1) = ((j + 1 : Nat) : Int) by rw [wr64 (by omega) (by omega)]; omega)
        obtain ⟨⟨k1, l1⟩, hk1⟩ : ∃ c, n.sd j = c := ⟨_, rfl⟩
        have HK1 := Lib.hid hk1
        obtain ⟨q1, hq1⟩ : ∃ c, kd (k1, l1) = c := ⟨_, rfl⟩
        have HQ1 := Lib.hid hq1
        have a0 := H9.out.cell (g_sk n (d := j) (by omega))
        have a1 := H9.out.cell (g_sl n (d := j) (by omega))
        rw [hk1] at a0 a1
        simp only at a0 a1
        obtain ⟨cn, hcn⟩ : ∃ c, cntTo isFuel n.sd j = c := ⟨_, rfl⟩
        have HCN := Lib.hid hcn
        have hcl : cn ≤ 6 := by have := cnt_le isFuel n.sd j; omega
        rw [hcn]
        have HWC := Lib.hid (show wrap64 ((cn : Int) + 1) = ((cn + 1 : Nat) : Int) by rw [wr64 (by omega) (by omega)]; omega)
        clear hall hbr hk1 hq1 hcn
        go_wp2_with fail
        refine (rof_c HQ1.out).mono ?_
        rintro e w4 ⟨rfl, hb4⟩
        have HB4 := Lib.hid (below_t HB9.out hb4)
        have H4 := Lib.hid (H9.out.below hb4)
        have HR4 := Lib.hid (HR9.out.below hb4)
        have HBR4 := Lib.hid (below_t HBR.out hb4)
        clear hb4 a0 a1 ls
        by_cases hw13 : q1 = 13
        · have h13 : ((q1 : Int) == 13) = true := by simp; omega
          have HWT := Lib.hid (show wet n = true from any_yes (i := j) hjl (by unfold isWater; rw [HK1.out, HQ1.out, hw13]; rfl))
          clear hw13
          have HOVER := Lib.hid (show fire n d = over1 n from by
            unfold fire
            rw [if_pos (by rw [HK0.out]; exact HK14.out), if_pos HWT.out])
          go_wp2_with ((with_reducible refine at_slot 26 ?_); refine Classical.byContradiction (fun hG => ?_))
          refine hG ?_
          clear hG
          refine wp_loadN rfl (.tmp 1) rfl rfl (n := n) H4.out ?_
          go_wp2_with fail
          refine (rleft_q (n := n)).mono ?_
          rintro e w5 ⟨v, rfl, ho, hb5⟩
          have HB5 := Lib.hid (below_t HB4.out hb5)
          have HR5 := Lib.hid (HR4.out.below hb5)
          obtain ⟨A, cc, rfl, _, _, hAA⟩ := ho.form (n := 1) rfl
          have HO0 := Lib.hid (ho.mono HB4.out.size)
          clear ho hb5 hAA
          have HO := Lib.hid (show RowG.Own encX TX w5 w.heap.size (.slice A 1 cc) [(0, left n.s.2)] from HO0.out)
          have HE := Lib.hid (show D = ⟨[(0, left n.s.2)], 0, (mv (left n.s.2).1)⟩ from by
            rw [← HD.out, HOVER.out]
            rfl)
          have r0 := HR5.out.cell (i := 0) rfl
          have f0 := HR5.out.frozen 0
          have r1 := HR5.out.cell (i := 1) rfl
          have f1 := HR5.out.frozen 1
          have r2 := HR5.out.cell (i := 2) rfl
          have f2 := HR5.out.frozen 2
          have rl := HR5.out.lt
          go_wp2_with fail
          refine bodyPost_ret (v := .agg #[.slice A 1 cc, .int .i64 0, .int .i64 (mv (left n.s.2).1)]) (by simp [results, Tryd.results28, go_sem, rl, r0, r1, r2]) rfl ?_
          rw [HE.out]
          exact ⟨_, rfl, (deed_end (D := ⟨[(0, left n.s.2)], 0, (mv (left n.s.2).1)⟩) HS.out HB5.out HR5.out HO.out).1, (deed_end (D := ⟨[(0, left n.s.2)], 0, (mv (left n.s.2).1)⟩) HS.out HB5.out HR5.out HO.out).2⟩
        · have h13 : ((q1 : Int) == 13) = false := by simp; omega
          have HNW := Lib.hid (show isWater (n.sd j) = false from by unfold isWater; rw [HK1.out, HQ1.out]; simp; exact hw13)
          clear hw13
          go_wp2_with fail
          refine (KindW.r_burns q1 _).mono ?_
          rintro e w5 ⟨rfl, hb5⟩
          have HBR5 := Lib.hid (below_t HBR4.out hb5)
          obtain ⟨fb, hfb⟩ : ∃ c, KindP.burns q1 = c := ⟨_, rfl⟩
          rw [hfb]
          have HFB := Lib.hid (show isFuel (n.sd j) = fb from by unfold isFuel; rw [HK1.out, HQ1.out]; exact hfb)
          clear hb5 hfb
          cases fb with
          | true =>
            go_wp2_with fail
            go_roundw
            case rel =>
              refine ⟨j + 1, by first | rfl | rw [HWR.out] | (congr 1; omega), ?_, by omega, fun i hi => ?_, HBR5.out⟩
              · simp only [cntTo, HFB.out, HCN.out, if_true]
                first | rfl | rw [HWC.out] | (congr 1; omega)
              · by_cases hij : i < j
                · exact HALL.out i hij
                · obtain rfl : i = j := by omega
                  exact HNW.out
            case measure =>
              simp only [intOf]
              omega
          | false =>
            go_wp2_with fail
            go_roundw
            case rel =>
              refine ⟨j + 1, by first | rfl | rw [HWR.out] | (congr 1; omega), ?_, by omega, fun i hi => ?_, HBR5.out⟩
              · simp only [cntTo, HFB.out, HCN.out]
                first | rfl | (congr 1; omega) | (simp; done)
              · by_cases hij : i < j
                · exact HALL.out i hij
                · obtain rfl : i = j := by omega
                  exact HNW.out
            case measure =>
              simp only [intOf]
              omega
      · have hjI : ¬ (j : Int) < 6 := by omega
        have hje : j = 6 := by omega
        subst hje
        have HWT := Lib.hid (show wet n = false from any_no (fun i hi => hall i hi))
        obtain ⟨cn, hcn⟩ : ∃ c, cntTo isFuel n.sd 6 = c := ⟨_, rfl⟩
        have HFL := Lib.hid (show fuel n = decide (0 < cn) from by rw [← hcn]; exact cnt_any _ _ _)
        have hcl : cn ≤ 6 := by have := cnt_le isFuel n.sd 6; omega
        rw [hcn]
        have c23 : wr.cell? ⟨s, 23, none⟩ = some (.int .u64 (d : Int)) := by
          have q := H9.out.cell (i := 23) (v := .int .u64 n.dr) rfl
          rw [HDR.out] at q
          exact q
        obtain ⟨q, hq⟩ : ∃ q, d % 6 = q := ⟨_, rfl⟩
        obtain ⟨t, ht⟩ : ∃ t, d / 6 = t := ⟨_, rfl⟩
        have HQ := Lib.hid hq
        have HTT := Lib.hid ht
        have hq6 : q < 6 := by omega
        have hq6I : (q : Int) < 6 := by omega
        have hti : t ≤ 4000000000000000000 := by omega
        have HQE := Lib.hid (show (d : Int) % 6 = (q : Int) by omega)
        have HQT := Lib.hid (show (d : Int) / 6 = (t : Int) by omega)
        clear hall hbr hcn hq ht
        go_wp2_with ((with_reducible refine at_slot 38 ?_); refine Classical.byContradiction (fun hG => ?_))
        refine hG ?_
        clear hG
        rw [HQE.out]
        obtain ⟨⟨kq, lq⟩, hsq⟩ : ∃ c, n.sd q = c := ⟨_, rfl⟩
        have HSQ := Lib.hid hsq
        obtain ⟨qq, hqq⟩ : ∃ c, kd (kq, lq) = c := ⟨_, rfl⟩
        have HQQ := Lib.hid hqq
        have a0 := H9.out.cell (g_sk n (d := q) hq6)
        have a1 := H9.out.cell (g_sl n (d := q) hq6)
        rw [hsq] at a0 a1
        simp only at a0 a1
        clear hsq hqq c23
        go_wp2_with fail
        refine (rof_c HQQ.out).mono ?_
        rintro e w4 ⟨rfl, hb4⟩
        have HB4 := Lib.hid (below_t HB9.out hb4)
        have H4 := Lib.hid (H9.out.below hb4)
        have HR4 := Lib.hid (HR9.out.below hb4)
        clear hb4 a0 a1 ls
        go_wp2_with fail
        refine (KindW.r_burns qq _).mono ?_
        rintro e w5 ⟨rfl, hb5⟩
        have HB5 := Lib.hid (below_t HB4.out hb5)
        have H5 := Lib.hid (H4.out.below hb5)
        have HR5 := Lib.hid (HR4.out.below hb5)
        obtain ⟨fq, hfq⟩ : ∃ c, KindP.burns qq = c := ⟨_, rfl⟩
        rw [hfq]
        clear hb5
        cases fq with
        | true =>
          rcases burns_in hfq with rfl | rfl | rfl
          · clear hfq
            have HKQ := Lib.hid (show kd (n.sd (d % 6)) = 6 from by rw [HQ.out, HSQ.out]; exact HQQ.out)
            have HFU := Lib.hid (show isFuel (n.sd (d % 6)) = true from by unfold isFuel; rw [HKQ.out]; rfl)
            obtain ⟨bd, hbd⟩ : ∃ b, w5.heap.size = b := ⟨_, rfl⟩
            have hsd : s + 1 < bd := by have := HR5.out.lt; omega
            go_wp2_with ((with_reducible refine at_slot 50 ?_); refine Classical.byContradiction (fun hG => ?_))
            refine hG ?_
            clear hG
            refine list_named (S := fun W => Below w.heap.size w W ∧ Blk W (s + 1) TD [.slice none 0 0, .int .i64 0, .int .i64 0] ∧ Blk W bd TD [.slice none 0 0, .int .i64 3, .int .i64 (-1)]) ⟨by have := HB5.out.size; have := HS.out; (repeat' (first | (with_reducible exact Below.refl _ _) | (with_reducible refine Below.setCell ?_ (by (first | omega | (simp; done) | (simp; omega))) _) | (with_reducible refine Below.alloc ?_ (by (first | omega | (simp; done) | (simp; omega))) _) | (with_reducible refine Below.drew ?_) | (with_reducible refine below_drewN ?_ _) | (with_reducible refine Below.trans ?_ (Below.mono HB5.out (by (first | omega | (simp; done) | (simp; omega))))))), by (repeat' (first | (with_reducible exact HR5.out) | (with_reducible refine BlkP.Blk.drew ?_) | (with_reducible refine BlkP.Blk.drewN ?_ _) | (with_reducible refine BlkP.Blk.setAt (us := ?_) (by first | omega | (simp; done) | (simp; omega)) rfl ?_ ?_) | (with_reducible refine BlkP.Blk.otherAt ?_ (by first | omega | (simp; done) | (simp; omega))) | (with_reducible refine BlkP.Blk.newA' (by first | omega | (simp; done) | (simp; omega)) rfl) | (with_reducible refine BlkP.Blk.alloc ?_ _) | (exact rfl))), by subst hbd; (repeat' (first | (with_reducible refine BlkP.Blk.drew ?_) | (with_reducible refine BlkP.Blk.drewN ?_ _) | (with_reducible refine BlkP.Blk.setAt (us := ?_) (by first | omega | (simp; done) | (simp; omega)) rfl ?_ ?_) | (with_reducible refine BlkP.Blk.otherAt ?_ (by first | omega | (simp; done) | (simp; omega))) | (with_reducible refine BlkP.Blk.newA' (by first | omega | (simp; done) | (simp; omega)) rfl) | (with_reducible refine BlkP.Blk.alloc ?_ _) | (exact rfl)))⟩ ?_
            rintro w6 ⟨hb6, hr6, hd6⟩
            try rw [hbd]
            have HB6 := Lib.hid hb6
            have HR6 := Lib.hid hr6
            have HD6 := Lib.hid hd6
            have e0 := hd6.cell (i := 0) rfl
            have hdl := hd6.lt
            clear hb6 hr6 hd6 hbd
            go_wp2_with ((with_reducible refine at_slot 57 ?_); refine Classical.byContradiction (fun hG => ?_))
            refine hG ?_
            clear hG
            rw [show ((q : Int) + 1) = ((q + 1 : Nat) : Int) from by omega]
            refine wp_pushX (w0 := w6) (B := w.heap.size) (v := .slice none 0 0) (l := []) (y := (q + 1, (14, 1))) (n := 0) rfl (.tmp 50) (.tmp 56) rfl rfl rfl (Own.nil _ _ _ _) rfl (by simp) rfl (by omega) HB6.out.size ?_
            intro g c w7 hpu
            have HPU := Lib.hid hpu.1
            have HB7 := Lib.hid (show Below w.heap.size w w7 from HB6.out.grown hpu.2.1 HB6.out.size (fun q hq => by cases hq))
            have HD7 := Lib.hid (show Blk w7 bd TD [.slice none 0 0, .int .i64 3, .int .i64 (-1)] from HD6.out.grown (w' := w7) (r := none) hpu.2.1 (by simp))
            have HR7 := Lib.hid (show Blk w7 (s + 1) TD [.slice none 0 0, .int .i64 0, .int .i64 0] from HR6.out.grown (w' := w7) (r := none) hpu.2.1 (by simp))
            have e0 := HD7.out.cell (i := 0) rfl
            have f0 := HD7.out.frozen 0
            have hdl := HD7.out.lt
            clear hpu
            go_wp2_with ((with_reducible refine at_slot 59 ?_); refine Classical.byContradiction (fun hG => ?_))
            refine hG ?_
            clear hG
            refine list_named (S := fun W => Below w.heap.size w W ∧ Blk W (s + 1) TD [.slice none 0 0, .int .i64 0, .int .i64 0] ∧ Blk W bd TD [.slice (some ⟨g, 0, none⟩) 1 c, .int .i64 3, .int .i64 (-1)] ∧ RowG.Own encX TX W w.heap.size (.slice (some ⟨g, 0, none⟩) 1 c) [(q + 1, (14, 1))]) ⟨by have := HB7.out.size; have := HS.out; (repeat' (first | (with_reducible exact Below.refl _ _) | (with_reducible refine Below.setCell ?_ (by (first | omega | (simp; done) | (simp; omega))) _) | (with_reducible refine Below.alloc ?_ (by (first | omega | (simp; done) | (simp; omega))) _) | (with_reducible refine Below.drew ?_) | (with_reducible refine below_drewN ?_ _) | (with_reducible refine Below.trans ?_ (Below.mono HB7.out (by (first | omega | (simp; done) | (simp; omega))))))), by (repeat' (first | (with_reducible exact HR7.out) | (with_reducible refine BlkP.Blk.drew ?_) | (with_reducible refine BlkP.Blk.drewN ?_ _) | (with_reducible refine BlkP.Blk.setAt (us := ?_) (by first | omega | (simp; done) | (simp; omega)) rfl ?_ ?_) | (with_reducible refine BlkP.Blk.otherAt ?_ (by first | omega | (simp; done) | (simp; omega))) | (with_reducible refine BlkP.Blk.newA' (by first | omega | (simp; done) | (simp; omega)) rfl) | (with_reducible refine BlkP.Blk.alloc ?_ _) | (exact rfl))), by (repeat' (first | (with_reducible exact HD7.out) | (with_reducible refine BlkP.Blk.drew ?_) | (with_reducible refine BlkP.Blk.drewN ?_ _) | (with_reducible refine BlkP.Blk.setAt (us := ?_) (by first | omega | (simp; done) | (simp; omega)) rfl ?_ ?_) | (with_reducible refine BlkP.Blk.otherAt ?_ (by first | omega | (simp; done) | (simp; omega))) | (with_reducible refine BlkP.Blk.newA' (by first | omega | (simp; done) | (simp; omega)) rfl) | (with_reducible refine BlkP.Blk.alloc ?_ _) | (exact rfl))), HPU.out.grown (grown_set _ bd 0 _) (.inr (own_ne HPU.out HD7.out (by decide)))⟩ ?_
            rintro w8 ⟨hb8, hr8, hd8, ho8⟩
            have HB8 := Lib.hid hb8
            have HR8 := Lib.hid hr8
            have HO8 := Lib.hid ho8
            have d0 := hd8.cell (i := 0) rfl
            have d1 := hd8.cell (i := 1) rfl
            have d2 := hd8.cell (i := 2) rfl
            have hdl := hd8.lt
            have hne : bd ≠ s + 1 := by omega
            clear hb8 hr8 hd8 ho8 e0 f0
            have HO := Lib.hid (show RowG.Own encX TX w8 w.heap.size (.slice (some ⟨g, 0, none⟩) 1 c) [(q + 1, (14, 1))] from HO8.out)
            have HE := Lib.hid (show D = ⟨[(q + 1, (14, 1))], 3, (-1)⟩ from by
              rw [← HD.out]
              unfold fire
              rw [if_pos (by rw [HK0.out]; exact HK14.out), if_neg (by rw [HWT.out]; simp), if_pos HFU.out]
              simp only [burn1, HQ.out, show kd (n.sd q) = 6 from by rw [HSQ.out]; exact HQQ.out]
              rfl)
            have r0 := HR8.out.cell (i := 0) rfl
            have f0 := HR8.out.frozen 0
            have r1 := HR8.out.cell (i := 1) rfl
            have f1 := HR8.out.frozen 1
            have r2 := HR8.out.cell (i := 2) rfl
            have f2 := HR8.out.frozen 2
            have rl := HR8.out.lt
            go_wp2_with fail
            refine bodyPost_ret (v := .agg #[.slice (some ⟨g, 0, none⟩) 1 c, .int .i64 3, .int .i64 (-1)]) (by simp [results, Tryd.results28, go_sem, rl, r0, r1, r2]) rfl ?_
            rw [HE.out]
            exact ⟨_, rfl, (deed_end (D := ⟨[(q + 1, (14, 1))], 3, (-1)⟩) HS.out HB8.out HR8.out HO.out).1, (deed_end (D := ⟨[(q + 1, (14, 1))], 3, (-1)⟩) HS.out HB8.out HR8.out HO.out).2⟩
          · clear hfq
            have HKQ := Lib.hid (show kd (n.sd (d % 6)) = 7 from by rw [HQ.out, HSQ.out]; exact HQQ.out)
            have HFU := Lib.hid (show isFuel (n.sd (d % 6)) = true from by unfold isFuel; rw [HKQ.out]; rfl)
            obtain ⟨bd, hbd⟩ : ∃ b, w5.heap.size = b := ⟨_, rfl⟩
            have hsd : s + 1 < bd := by have := HR5.out.lt; omega
            go_wp2_with ((with_reducible refine at_slot 50 ?_); refine Classical.byContradiction (fun hG => ?_))
            refine hG ?_
            clear hG
            refine list_named (S := fun W => Below w.heap.size w W ∧ Blk W (s + 1) TD [.slice none 0 0, .int .i64 0, .int .i64 0] ∧ Blk W bd TD [.slice none 0 0, .int .i64 3, .int .i64 (-1)]) ⟨by have := HB5.out.size; have := HS.out; (repeat' (first | (with_reducible exact Below.refl _ _) | (with_reducible refine Below.setCell ?_ (by (first | omega | (simp; done) | (simp; omega))) _) | (with_reducible refine Below.alloc ?_ (by (first | omega | (simp; done) | (simp; omega))) _) | (with_reducible refine Below.drew ?_) | (with_reducible refine below_drewN ?_ _) | (with_reducible refine Below.trans ?_ (Below.mono HB5.out (by (first | omega | (simp; done) | (simp; omega))))))), by (repeat' (first | (with_reducible exact HR5.out) | (with_reducible refine BlkP.Blk.drew ?_) | (with_reducible refine BlkP.Blk.drewN ?_ _) | (with_reducible refine BlkP.Blk.setAt (us := ?_) (by first | omega | (simp; done) | (simp; omega)) rfl ?_ ?_) | (with_reducible refine BlkP.Blk.otherAt ?_ (by first | omega | (simp; done) | (simp; omega))) | (with_reducible refine BlkP.Blk.newA' (by first | omega | (simp; done) | (simp; omega)) rfl) | (with_reducible refine BlkP.Blk.alloc ?_ _) | (exact rfl))), by subst hbd; (repeat' (first | (with_reducible refine BlkP.Blk.drew ?_) | (with_reducible refine BlkP.Blk.drewN ?_ _) | (with_reducible refine BlkP.Blk.setAt (us := ?_) (by first | omega | (simp; done) | (simp; omega)) rfl ?_ ?_) | (with_reducible refine BlkP.Blk.otherAt ?_ (by first | omega | (simp; done) | (simp; omega))) | (with_reducible refine BlkP.Blk.newA' (by first | omega | (simp; done) | (simp; omega)) rfl) | (with_reducible refine BlkP.Blk.alloc ?_ _) | (exact rfl)))⟩ ?_
            rintro w6 ⟨hb6, hr6, hd6⟩
            try rw [hbd]
            have HB6 := Lib.hid hb6
            have HR6 := Lib.hid hr6
            have HD6 := Lib.hid hd6
            have e0 := hd6.cell (i := 0) rfl
            have hdl := hd6.lt
            clear hb6 hr6 hd6 hbd
            go_wp2_with ((with_reducible refine at_slot 57 ?_); refine Classical.byContradiction (fun hG => ?_))
            refine hG ?_
            clear hG
            rw [show ((q : Int) + 1) = ((q + 1 : Nat) : Int) from by omega]
            refine wp_pushX (w0 := w6) (B := w.heap.size) (v := .slice none 0 0) (l := []) (y := (q + 1, (14, 0))) (n := 0) rfl (.tmp 50) (.tmp 56) rfl rfl rfl (Own.nil _ _ _ _) rfl (by simp) rfl (by omega) HB6.out.size ?_
            intro g c w7 hpu
            have HPU := Lib.hid hpu.1
            have HB7 := Lib.hid (show Below w.heap.size w w7 from HB6.out.grown hpu.2.1 HB6.out.size (fun q hq => by cases hq))
            have HD7 := Lib.hid (show Blk w7 bd TD [.slice none 0 0, .int .i64 3, .int .i64 (-1)] from HD6.out.grown (w' := w7) (r := none) hpu.2.1 (by simp))
            have HR7 := Lib.hid (show Blk w7 (s + 1) TD [.slice none 0 0, .int .i64 0, .int .i64 0] from HR6.out.grown (w' := w7) (r := none) hpu.2.1 (by simp))
            have e0 := HD7.out.cell (i := 0) rfl
            have f0 := HD7.out.frozen 0
            have hdl := HD7.out.lt
            clear hpu
            go_wp2_with ((with_reducible refine at_slot 59 ?_); refine Classical.byContradiction (fun hG => ?_))
            refine hG ?_
            clear hG
            refine list_named (S := fun W => Below w.heap.size w W ∧ Blk W (s + 1) TD [.slice none 0 0, .int .i64 0, .int .i64 0] ∧ Blk W bd TD [.slice (some ⟨g, 0, none⟩) 1 c, .int .i64 3, .int .i64 (-1)] ∧ RowG.Own encX TX W w.heap.size (.slice (some ⟨g, 0, none⟩) 1 c) [(q + 1, (14, 0))]) ⟨by have := HB7.out.size; have := HS.out; (repeat' (first | (with_reducible exact Below.refl _ _) | (with_reducible refine Below.setCell ?_ (by (first | omega | (simp; done) | (simp; omega))) _) | (with_reducible refine Below.alloc ?_ (by (first | omega | (simp; done) | (simp; omega))) _) | (with_reducible refine Below.drew ?_) | (with_reducible refine below_drewN ?_ _) | (with_reducible refine Below.trans ?_ (Below.mono HB7.out (by (first | omega | (simp; done) | (simp; omega))))))), by (repeat' (first | (with_reducible exact HR7.out) | (with_reducible refine BlkP.Blk.drew ?_) | (with_reducible refine BlkP.Blk.drewN ?_ _) | (with_reducible refine BlkP.Blk.setAt (us := ?_) (by first | omega | (simp; done) | (simp; omega)) rfl ?_ ?_) | (with_reducible refine BlkP.Blk.otherAt ?_ (by first | omega | (simp; done) | (simp; omega))) | (with_reducible refine BlkP.Blk.newA' (by first | omega | (simp; done) | (simp; omega)) rfl) | (with_reducible refine BlkP.Blk.alloc ?_ _) | (exact rfl))), by (repeat' (first | (with_reducible exact HD7.out) | (with_reducible refine BlkP.Blk.drew ?_) | (with_reducible refine BlkP.Blk.drewN ?_ _) | (with_reducible refine BlkP.Blk.setAt (us := ?_) (by first | omega | (simp; done) | (simp; omega)) rfl ?_ ?_) | (with_reducible refine BlkP.Blk.otherAt ?_ (by first | omega | (simp; done) | (simp; omega))) | (with_reducible refine BlkP.Blk.newA' (by first | omega | (simp; done) | (simp; omega)) rfl) | (with_reducible refine BlkP.Blk.alloc ?_ _) | (exact rfl))), HPU.out.grown (grown_set _ bd 0 _) (.inr (own_ne HPU.out HD7.out (by decide)))⟩ ?_
            rintro w8 ⟨hb8, hr8, hd8, ho8⟩
            have HB8 := Lib.hid hb8
            have HR8 := Lib.hid hr8
            have HO8 := Lib.hid ho8
            have d0 := hd8.cell (i := 0) rfl
            have d1 := hd8.cell (i := 1) rfl
            have d2 := hd8.cell (i := 2) rfl
            have hdl := hd8.lt
            have hne : bd ≠ s + 1 := by omega
            clear hb8 hr8 hd8 ho8 e0 f0
            have HO := Lib.hid (show RowG.Own encX TX w8 w.heap.size (.slice (some ⟨g, 0, none⟩) 1 c) [(q + 1, (14, 0))] from HO8.out)
            have HE := Lib.hid (show D = ⟨[(q + 1, (14, 0))], 3, (-1)⟩ from by
              rw [← HD.out]
              unfold fire
              rw [if_pos (by rw [HK0.out]; exact HK14.out), if_neg (by rw [HWT.out]; simp), if_pos HFU.out]
              simp only [burn1, HQ.out, show kd (n.sd q) = 7 from by rw [HSQ.out]; exact HQQ.out]
              rfl)
            have r0 := HR8.out.cell (i := 0) rfl
            have f0 := HR8.out.frozen 0
            have r1 := HR8.out.cell (i := 1) rfl
            have f1 := HR8.out.frozen 1
            have r2 := HR8.out.cell (i := 2) rfl
            have f2 := HR8.out.frozen 2
            have rl := HR8.out.lt
            go_wp2_with fail
            refine bodyPost_ret (v := .agg #[.slice (some ⟨g, 0, none⟩) 1 c, .int .i64 3, .int .i64 (-1)]) (by simp [results, Tryd.results28, go_sem, rl, r0, r1, r2]) rfl ?_
            rw [HE.out]
            exact ⟨_, rfl, (deed_end (D := ⟨[(q + 1, (14, 0))], 3, (-1)⟩) HS.out HB8.out HR8.out HO.out).1, (deed_end (D := ⟨[(q + 1, (14, 0))], 3, (-1)⟩) HS.out HB8.out HR8.out HO.out).2⟩
          · clear hfq
            have HKQ := Lib.hid (show kd (n.sd (d % 6)) = 12 from by rw [HQ.out, HSQ.out]; exact HQQ.out)
            have HFU := Lib.hid (show isFuel (n.sd (d % 6)) = true from by unfold isFuel; rw [HKQ.out]; rfl)
            obtain ⟨bd, hbd⟩ : ∃ b, w5.heap.size = b := ⟨_, rfl⟩
            have hsd : s + 1 < bd := by have := HR5.out.lt; omega
            go_wp2_with ((with_reducible refine at_slot 50 ?_); refine Classical.byContradiction (fun hG => ?_))
            refine hG ?_
            clear hG
            refine list_named (S := fun W => Below w.heap.size w W ∧ Blk W (s + 1) TD [.slice none 0 0, .int .i64 0, .int .i64 0] ∧ Blk W bd TD [.slice none 0 0, .int .i64 3, .int .i64 (0)]) ⟨by have := HB5.out.size; have := HS.out; (repeat' (first | (with_reducible exact Below.refl _ _) | (with_reducible refine Below.setCell ?_ (by (first | omega | (simp; done) | (simp; omega))) _) | (with_reducible refine Below.alloc ?_ (by (first | omega | (simp; done) | (simp; omega))) _) | (with_reducible refine Below.drew ?_) | (with_reducible refine below_drewN ?_ _) | (with_reducible refine Below.trans ?_ (Below.mono HB5.out (by (first | omega | (simp; done) | (simp; omega))))))), by (repeat' (first | (with_reducible exact HR5.out) | (with_reducible refine BlkP.Blk.drew ?_) | (with_reducible refine BlkP.Blk.drewN ?_ _) | (with_reducible refine BlkP.Blk.setAt (us := ?_) (by first | omega | (simp; done) | (simp; omega)) rfl ?_ ?_) | (with_reducible refine BlkP.Blk.otherAt ?_ (by first | omega | (simp; done) | (simp; omega))) | (with_reducible refine BlkP.Blk.newA' (by first | omega | (simp; done) | (simp; omega)) rfl) | (with_reducible refine BlkP.Blk.alloc ?_ _) | (exact rfl))), by subst hbd; (repeat' (first | (with_reducible refine BlkP.Blk.drew ?_) | (with_reducible refine BlkP.Blk.drewN ?_ _) | (with_reducible refine BlkP.Blk.setAt (us := ?_) (by first | omega | (simp; done) | (simp; omega)) rfl ?_ ?_) | (with_reducible refine BlkP.Blk.otherAt ?_ (by first | omega | (simp; done) | (simp; omega))) | (with_reducible refine BlkP.Blk.newA' (by first | omega | (simp; done) | (simp; omega)) rfl) | (with_reducible refine BlkP.Blk.alloc ?_ _) | (exact rfl)))⟩ ?_
            rintro w6 ⟨hb6, hr6, hd6⟩
            try rw [hbd]
            have HB6 := Lib.hid hb6
            have HR6 := Lib.hid hr6
            have HD6 := Lib.hid hd6
            have e0 := hd6.cell (i := 0) rfl
            have hdl := hd6.lt
            clear hb6 hr6 hd6 hbd
            go_wp2_with ((with_reducible refine at_slot 57 ?_); refine Classical.byContradiction (fun hG => ?_))
            refine hG ?_
            clear hG
            rw [show ((q : Int) + 1) = ((q + 1 : Nat) : Int) from by omega]
            refine wp_pushX (w0 := w6) (B := w.heap.size) (v := .slice none 0 0) (l := []) (y := (q + 1, (14, 0))) (n := 0) rfl (.tmp 50) (.tmp 56) rfl rfl rfl (Own.nil _ _ _ _) rfl (by simp) rfl (by omega) HB6.out.size ?_
            intro g c w7 hpu
            have HPU := Lib.hid hpu.1
            have HB7 := Lib.hid (show Below w.heap.size w w7 from HB6.out.grown hpu.2.1 HB6.out.size (fun q hq => by cases hq))
            have HD7 := Lib.hid (show Blk w7 bd TD [.slice none 0 0, .int .i64 3, .int .i64 (0)] from HD6.out.grown (w' := w7) (r := none) hpu.2.1 (by simp))
            have HR7 := Lib.hid (show Blk w7 (s + 1) TD [.slice none 0 0, .int .i64 0, .int .i64 0] from HR6.out.grown (w' := w7) (r := none) hpu.2.1 (by simp))
            have e0 := HD7.out.cell (i := 0) rfl
            have f0 := HD7.out.frozen 0
            have hdl := HD7.out.lt
            clear hpu
            go_wp2_with ((with_reducible refine at_slot 59 ?_); refine Classical.byContradiction (fun hG => ?_))
            refine hG ?_
            clear hG
            refine list_named (S := fun W => Below w.heap.size w W ∧ Blk W (s + 1) TD [.slice none 0 0, .int .i64 0, .int .i64 0] ∧ Blk W bd TD [.slice (some ⟨g, 0, none⟩) 1 c, .int .i64 3, .int .i64 (0)] ∧ RowG.Own encX TX W w.heap.size (.slice (some ⟨g, 0, none⟩) 1 c) [(q + 1, (14, 0))]) ⟨by have := HB7.out.size; have := HS.out; (repeat' (first | (with_reducible exact Below.refl _ _) | (with_reducible refine Below.setCell ?_ (by (first | omega | (simp; done) | (simp; omega))) _) | (with_reducible refine Below.alloc ?_ (by (first | omega | (simp; done) | (simp; omega))) _) | (with_reducible refine Below.drew ?_) | (with_reducible refine below_drewN ?_ _) | (with_reducible refine Below.trans ?_ (Below.mono HB7.out (by (first | omega | (simp; done) | (simp; omega))))))), by (repeat' (first | (with_reducible exact HR7.out) | (with_reducible refine BlkP.Blk.drew ?_) | (with_reducible refine BlkP.Blk.drewN ?_ _) | (with_reducible refine BlkP.Blk.setAt (us := ?_) (by first | omega | (simp; done) | (simp; omega)) rfl ?_ ?_) | (with_reducible refine BlkP.Blk.otherAt ?_ (by first | omega | (simp; done) | (simp; omega))) | (with_reducible refine BlkP.Blk.newA' (by first | omega | (simp; done) | (simp; omega)) rfl) | (with_reducible refine BlkP.Blk.alloc ?_ _) | (exact rfl))), by (repeat' (first | (with_reducible exact HD7.out) | (with_reducible refine BlkP.Blk.drew ?_) | (with_reducible refine BlkP.Blk.drewN ?_ _) | (with_reducible refine BlkP.Blk.setAt (us := ?_) (by first | omega | (simp; done) | (simp; omega)) rfl ?_ ?_) | (with_reducible refine BlkP.Blk.otherAt ?_ (by first | omega | (simp; done) | (simp; omega))) | (with_reducible refine BlkP.Blk.newA' (by first | omega | (simp; done) | (simp; omega)) rfl) | (with_reducible refine BlkP.Blk.alloc ?_ _) | (exact rfl))), HPU.out.grown (grown_set _ bd 0 _) (.inr (own_ne HPU.out HD7.out (by decide)))⟩ ?_
            rintro w8 ⟨hb8, hr8, hd8, ho8⟩
            have HB8 := Lib.hid hb8
            have HR8 := Lib.hid hr8
            have HO8 := Lib.hid ho8
            have d0 := hd8.cell (i := 0) rfl
            have d1 := hd8.cell (i := 1) rfl
            have d2 := hd8.cell (i := 2) rfl
            have hdl := hd8.lt
            have hne : bd ≠ s + 1 := by omega
            clear hb8 hr8 hd8 ho8 e0 f0
            have HO := Lib.hid (show RowG.Own encX TX w8 w.heap.size (.slice (some ⟨g, 0, none⟩) 1 c) [(q + 1, (14, 0))] from HO8.out)
            have HE := Lib.hid (show D = ⟨[(q + 1, (14, 0))], 3, (0)⟩ from by
              rw [← HD.out]
              unfold fire
              rw [if_pos (by rw [HK0.out]; exact HK14.out), if_neg (by rw [HWT.out]; simp), if_pos HFU.out]
              simp only [burn1, HQ.out, show kd (n.sd q) = 12 from by rw [HSQ.out]; exact HQQ.out]
              rfl)
            have r0 := HR8.out.cell (i := 0) rfl
            have f0 := HR8.out.frozen 0
            have r1 := HR8.out.cell (i := 1) rfl
            have f1 := HR8.out.frozen 1
            have r2 := HR8.out.cell (i := 2) rfl
            have f2 := HR8.out.frozen 2
            have rl := HR8.out.lt
            go_wp2_with fail
            refine bodyPost_ret (v := .agg #[.slice (some ⟨g, 0, none⟩) 1 c, .int .i64 3, .int .i64 (0)]) (by simp [results, Tryd.results28, go_sem, rl, r0, r1, r2]) rfl ?_
            rw [HE.out]
            exact ⟨_, rfl, (deed_end (D := ⟨[(q + 1, (14, 0))], 3, (0)⟩) HS.out HB8.out HR8.out HO.out).1, (deed_end (D := ⟨[(q + 1, (14, 0))], 3, (0)⟩) HS.out HB8.out HR8.out HO.out).2⟩
        | false =>
          have HFU := Lib.hid (show isFuel (n.sd (d % 6)) = false from by unfold isFuel; rw [HQ.out, HSQ.out, HQQ.out]; exact hfq)
          clear hfq
          by_cases hc0 : cn = 0
          · have hcI : ((cn : Int) == 0) = true := by simp; omega
            have HFU2 := Lib.hid (show fuel n = false from by rw [HFL.out, hc0]; rfl)
            clear hc0
            have HOVER := Lib.hid (show fire n d = over1 n from by
              unfold fire
              rw [if_pos (by rw [HK0.out]; exact HK14.out), if_neg (by rw [HWT.out]; simp), if_neg (by rw [HFU.out]; simp), if_neg (by rw [HFU2.out]; simp)])
            go_wp2_with ((with_reducible refine at_slot 69 ?_); refine Classical.byContradiction (fun hG => ?_))
            refine hG ?_
            clear hG
            refine wp_loadN rfl (.tmp 1) rfl rfl (n := n) H5.out ?_
            go_wp2_with fail
            refine (rleft_q (n := n)).mono ?_
            rintro e w6 ⟨v, rfl, ho, hb6⟩
            have HB6 := Lib.hid (below_t HB5.out hb6)
            have HR6 := Lib.hid (HR5.out.below hb6)
            obtain ⟨A, cc, rfl, _, _, hAA⟩ := ho.form (n := 1) rfl
            have HO0 := Lib.hid (ho.mono HB5.out.size)
            clear ho hb6 hAA
            have HO := Lib.hid (show RowG.Own encX TX w6 w.heap.size (.slice A 1 cc) [(0, left n.s.2)] from HO0.out)
            have HE := Lib.hid (show D = ⟨[(0, left n.s.2)], 0, (mv (left n.s.2).1)⟩ from by
              rw [← HD.out, HOVER.out]
              rfl)
            have r0 := HR6.out.cell (i := 0) rfl
            have f0 := HR6.out.frozen 0
            have r1 := HR6.out.cell (i := 1) rfl
            have f1 := HR6.out.frozen 1
            have r2 := HR6.out.cell (i := 2) rfl
            have f2 := HR6.out.frozen 2
            have rl := HR6.out.lt
            go_wp2_with fail
            refine bodyPost_ret (v := .agg #[.slice A 1 cc, .int .i64 0, .int .i64 (mv (left n.s.2).1)]) (by simp [results, Tryd.results28, go_sem, rl, r0, r1, r2]) rfl ?_
            rw [HE.out]
            exact ⟨_, rfl, (deed_end (D := ⟨[(0, left n.s.2)], 0, (mv (left n.s.2).1)⟩) HS.out HB6.out HR6.out HO.out).1, (deed_end (D := ⟨[(0, left n.s.2)], 0, (mv (left n.s.2).1)⟩) HS.out HB6.out HR6.out HO.out).2⟩
          · have hcI : ((cn : Int) == 0) = false := by simp; omega
            have HFU2 := Lib.hid (show fuel n = true from by rw [HFL.out]; simp; omega)
            have hwt : IntKind.u64.wrap ((d : Int) / 6) = (t : Int) := quo_c HTT.out hd2
            have c23 : w5.cell? ⟨s, 23, none⟩ = some (.int .u64 (d : Int)) := by
              have q := H5.out.cell (i := 23) (v := .int .u64 n.dr) rfl
              rw [HDR.out] at q
              exact q
            have ls := H5.out.lt
            clear hc0
            by_cases hm0 : t % 4 = 0
            · have hmI : ((t : Int) % 4 == 0) = true := by simp; omega
              have HM0 := Lib.hid hm0
              clear hm0
              have HOVER := Lib.hid (show fire n d = over1 n from by
                unfold fire
                rw [if_pos (by rw [HK0.out]; exact HK14.out), if_neg (by rw [HWT.out]; simp), if_neg (by rw [HFU.out]; simp), if_neg (by rw [HTT.out]; intro h; exact h.2 HM0.out)])
              go_wp2_with ((with_reducible refine at_slot 69 ?_); refine Classical.byContradiction (fun hG => ?_))
              refine hG ?_
              clear hG
              refine wp_loadN rfl (.tmp 1) rfl rfl (n := n) H5.out ?_
              go_wp2_with fail
              refine (rleft_q (n := n)).mono ?_
              rintro e w6 ⟨v, rfl, ho, hb6⟩
              have HB6 := Lib.hid (below_t HB5.out hb6)
              have HR6 := Lib.hid (HR5.out.below hb6)
              obtain ⟨A, cc, rfl, _, _, hAA⟩ := ho.form (n := 1) rfl
              have HO0 := Lib.hid (ho.mono HB5.out.size)
              clear ho hb6 hAA
              have HO := Lib.hid (show RowG.Own encX TX w6 w.heap.size (.slice A 1 cc) [(0, left n.s.2)] from HO0.out)
              have HE := Lib.hid (show D = ⟨[(0, left n.s.2)], 0, (mv (left n.s.2).1)⟩ from by
                rw [← HD.out, HOVER.out]
                rfl)
              have r0 := HR6.out.cell (i := 0) rfl
              have f0 := HR6.out.frozen 0
              have r1 := HR6.out.cell (i := 1) rfl
              have f1 := HR6.out.frozen 1
              have r2 := HR6.out.cell (i := 2) rfl
              have f2 := HR6.out.frozen 2
              have rl := HR6.out.lt
              go_wp2_with fail
              refine bodyPost_ret (v := .agg #[.slice A 1 cc, .int .i64 0, .int .i64 (mv (left n.s.2).1)]) (by simp [results, Tryd.results28, go_sem, rl, r0, r1, r2]) rfl ?_
              rw [HE.out]
              exact ⟨_, rfl, (deed_end (D := ⟨[(0, left n.s.2)], 0, (mv (left n.s.2).1)⟩) HS.out HB6.out HR6.out HO.out).1, (deed_end (D := ⟨[(0, left n.s.2)], 0, (mv (left n.s.2).1)⟩) HS.out HB6.out HR6.out HO.out).2⟩
            · have hmI : ((t : Int) % 4 == 0) = false := by simp; omega
              have HM0 := Lib.hid hm0
              clear hm0
              have HO := Lib.hid (show RowG.Own encX TX w5 w.heap.size (.slice none 0 0) [] from Own.nil _ _ _ _)
              have HE := Lib.hid (show D = ⟨[], 3, 0⟩ from by
                rw [← HD.out]
                unfold fire
                rw [if_pos (by rw [HK0.out]; exact HK14.out), if_neg (by rw [HWT.out]; simp), if_neg (by rw [HFU.out]; simp), if_pos ⟨HFU2.out, by rw [HTT.out]; exact HM0.out⟩])
              have r0 := HR5.out.cell (i := 0) rfl
              have f0 := HR5.out.frozen 0
              have r1 := HR5.out.cell (i := 1) rfl
              have f1 := HR5.out.frozen 1
              have r2 := HR5.out.cell (i := 2) rfl
              have f2 := HR5.out.frozen 2
              have rl := HR5.out.lt
              go_wp2_with fail
              refine bodyPost_ret (v := .agg #[.slice none 0 0, .int .i64 3, .int .i64 0]) (by simp [results, Tryd.results28, go_sem, rl, r0, r1, r2]) rfl ?_
              rw [HE.out]
              exact ⟨_, rfl, (deed_end (D := ⟨[], 3, 0⟩) HS.out HB5.out HR5.out HO.out).1, (deed_end (D := ⟨[], 3, 0⟩) HS.out HB5.out HR5.out HO.out).2⟩
  · have h14 : ((q0 : Int) != 14) = true := by simp; omega
    have HK14 := Lib.hid hk14
    clear hk14
    have HO := Lib.hid (show RowG.Own encX TX w3 w.heap.size (.slice none 0 0) [] from Own.nil _ _ _ _)
    have HE := Lib.hid (show D = ⟨[], 0, 0⟩ from by
      rw [← HD.out]
      unfold fire
      rw [if_neg (by rw [HK0.out]; exact HK14.out)])
    have r0 := HR3.out.cell (i := 0) rfl
    have f0 := HR3.out.frozen 0
    have r1 := HR3.out.cell (i := 1) rfl
    have f1 := HR3.out.frozen 1
    have r2 := HR3.out.cell (i := 2) rfl
    have f2 := HR3.out.frozen 2
    have rl := HR3.out.lt
    go_wp2_with fail
    refine bodyPost_ret (v := .agg #[.slice none 0 0, .int .i64 0, .int .i64 0]) (by simp [results, Tryd.results28, go_sem, rl, r0, r1, r2]) rfl ?_
    rw [HE.out]
    exact ⟨_, rfl, (deed_end (D := ⟨[], 0, 0⟩) HS.out HB3.out HR3.out HO.out).1, (deed_end (D := ⟨[], 0, 0⟩) HS.out HB3.out HR3.out HO.out).2⟩
end BurnW
end Go.Proofs.YtlahkmkipciiiaaDoor
