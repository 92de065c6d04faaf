/-
  The reference's Plant.
-/
import Derived.Test.YtlahkmkipciiiaaDoorBurnRFire
namespace Go.Proofs.YtlahkmkipciiiaaDoor
open Go.RowKit
set_option linter.unusedVariables false
set_option linter.unusedSimpArgs false
namespace BurnW
open BlkP RowG FrS PushG CellsW NearW BurnP
set_option maxRecDepth 100000 in
set_option maxHeartbeats 16000000 in
theorem rPlant_c {w : World} {n : Nr} {d : Nat} (hd : n.dr = (d : Int)) (hd2 : d ≤ 18446744073709551615) : Calls Tryd.prog 29 #[nv n] w (DeedQ w (plant n d)) := by
  have HDR := Lib.hid hd
  obtain ⟨D, hD⟩ : ∃ D, plant n d = D := ⟨_, rfl⟩
  rw [hD]
  have HD := Lib.hid hD
  obtain ⟨⟨k0, l0⟩, hs0⟩ : ∃ c, n.s = c := ⟨_, rfl⟩
  have HS0 := Lib.hid hs0
  obtain ⟨q0, hq0⟩ : ∃ c, kd (k0, l0) = c := ⟨_, rfl⟩
  have HQ0 := Lib.hid hq0
  have HK0 := Lib.hid (show kd n.s = q0 by rw [hs0, hq0])
  obtain ⟨⟨k5, l5⟩, hs5⟩ : ∃ c, n.sd 5 = c := ⟨_, rfl⟩
  have HS5 := Lib.hid hs5
  obtain ⟨q5, hq5⟩ : ∃ c, kd (k5, l5) = c := ⟨_, rfl⟩
  have HQ5 := Lib.hid hq5
  have HK5 := Lib.hid (show kd (n.sd 5) = q5 by rw [hs5, hq5])
  obtain ⟨lt, hlt⟩ : ∃ c, n.lt = c := ⟨_, rfl⟩
  have HLT := Lib.hid hlt
  obtain ⟨s, hs⟩ : ∃ s, w.heap.size = s := ⟨_, rfl⟩
  have HS := Lib.hid hs
  clear hd hD hs0 hq0 hs5 hq5 hlt
  go_enter Tryd.func29, Tryd.ntmps29
  go_wp2_with ((with_reducible refine at_slot 1 ?_); refine Classical.byContradiction (fun hG => ?_))
  refine hG ?_
  clear hG
  refine wp_boxN rfl (.tmp 0) rfl rfl ?_
  intro w1 h1 hb1 hz1
  rw [hs] at h1 hz1
  try rw [hs]
  go_wp2_with ((with_reducible refine at_slot 3 ?_); refine Classical.byContradiction (fun hG => ?_))
  refine hG ?_
  clear hG
  refine list_named (S := fun W => Below w.heap.size w W ∧ Blk W s TN (vals n) ∧ Blk W (s + 1) TD [.slice none 0 0, .int .i64 0, .int .i64 0]) ⟨by (repeat' (first | (with_reducible exact Below.refl _ _) | (with_reducible refine Below.setCell ?_ (by (first | omega | (simp; done) | (simp; omega))) _) | (with_reducible refine Below.alloc ?_ (by (first | omega | (simp; done) | (simp; omega))) _) | (with_reducible refine Below.drew ?_) | (with_reducible refine below_drewN ?_ _) | (with_reducible refine Below.trans ?_ (Below.mono hb1 (by (first | omega | (simp; done) | (simp; omega))))))), by (repeat' (first | (with_reducible exact h1) | (with_reducible refine BlkP.Blk.drew ?_) | (with_reducible refine BlkP.Blk.drewN ?_ _) | (with_reducible refine BlkP.Blk.setAt (us := ?_) (by first | omega | (simp; done) | (simp; omega)) rfl ?_ ?_) | (with_reducible refine BlkP.Blk.otherAt ?_ (by first | omega | (simp; done) | (simp; omega))) | (with_reducible refine BlkP.Blk.newA' (by first | omega | (simp; done) | (simp; omega)) rfl) | (with_reducible refine BlkP.Blk.alloc ?_ _) | (exact rfl))), by (repeat' (first | (with_reducible refine BlkP.Blk.drew ?_) | (with_reducible refine BlkP.Blk.drewN ?_ _) | (with_reducible refine BlkP.Blk.setAt (us := ?_) (by first | omega | (simp; done) | (simp; omega)) rfl ?_ ?_) | (with_reducible refine BlkP.Blk.otherAt ?_ (by first | omega | (simp; done) | (simp; omega))) | (with_reducible refine BlkP.Blk.newA' (by first | omega | (simp; done) | (simp; omega)) rfl) | (with_reducible refine BlkP.Blk.alloc ?_ _) | (exact rfl)))⟩ ?_
  clear hb1 h1 hz1
  rintro w2 ⟨hb2, h2, hr2⟩
  have HB2 := Lib.hid hb2
  have H2 := Lib.hid h2
  have HR2 := Lib.hid hr2
  have c0 := h2.cell (i := 0) (g_kind n)
  have c1 := h2.cell (i := 1) (g_lev n)
  rw [HS0.out] at c0 c1
  simp only at c0 c1
  have ls := h2.lt
  clear hb2 h2 hr2
  go_wp2_with fail
  refine (rof_c HQ0.out).mono ?_
  rintro e w3 ⟨rfl, hb3⟩
  have HB3 := Lib.hid (below_t HB2.out hb3)
  have H3 := Lib.hid (H2.out.below hb3)
  have HR3 := Lib.hid (HR2.out.below hb3)
  clear hb3 c0 c1 ls
  by_cases hk12 : q0 = 12
  · have h12 : ((q0 : Int) != 12) = false := by simp; omega
    have HK12 := Lib.hid hk12
    clear hk12
    have a0 := H3.out.cell (g_sk n (d := 5) (by omega))
    have a1 := H3.out.cell (g_sl n (d := 5) (by omega))
    rw [HS5.out] at a0 a1
    simp only at a0 a1
    have ls := H3.out.lt
    go_wp2_with fail
    refine (rof_c HQ5.out).mono ?_
    rintro e w4 ⟨rfl, hb4⟩
    have HB4 := Lib.hid (below_t HB3.out hb4)
    have H4 := Lib.hid (H3.out.below hb4)
    have HR4 := Lib.hid (HR3.out.below hb4)
    clear hb4 a0 a1 ls
    by_cases hk5 : q5 = 3
    · have h5 : ((q5 : Int) != 3) = false := by simp; omega
      have HK53 := Lib.hid hk5
      have c22 : w4.cell? ⟨s, 22, none⟩ = some (.int .u8 (lt : Int)) := by
        have q := H4.out.cell (i := 22) (v := .int .u8 (n.lt : Int)) rfl
        rw [HLT.out] at q
        exact q
      have c23 : w4.cell? ⟨s, 23, none⟩ = some (.int .u64 (d : Int)) := by
        have q := H4.out.cell (i := 23) (v := .int .u64 n.dr) rfl
        rw [HDR.out] at q
        exact q
      have c1 := H4.out.cell (i := 1) (g_lev n)
      rw [HS0.out] at c1
      simp only at c1
      have ls := H4.out.lt
      clear hk5
      by_cases hl9 : lt < 9
      · have h9 : (lt : Int) < 9 := by omega
        have HL9 := Lib.hid hl9
        clear hl9
        have HO := Lib.hid (show RowG.Own encX TX w4 w.heap.size (.slice none 0 0) [] from Own.nil _ _ _ _)
        have HE := Lib.hid (show D = ⟨[], 5, 0⟩ from by
          rw [← HD.out]
          unfold plant
          rw [if_pos (by rw [HK0.out]; exact HK12.out), if_pos (by rw [HK5.out]; exact HK53.out), if_pos (.inl (by rw [HLT.out]; exact HL9.out))])
        have r0 := HR4.out.cell (i := 0) rfl
        have f0 := HR4.out.frozen 0
        have r1 := HR4.out.cell (i := 1) rfl
        have f1 := HR4.out.frozen 1
        have r2 := HR4.out.cell (i := 2) rfl
        have f2 := HR4.out.frozen 2
        have rl := HR4.out.lt
        go_wp2_with fail
        refine bodyPost_ret (v := .agg #[.slice none 0 0, .int .i64 5, .int .i64 0]) (by simp [results, Tryd.results29, go_sem, rl, r0, r1, r2]) rfl ?_
        rw [HE.out]
        exact ⟨_, rfl, (deed_end (D := ⟨[], 5, 0⟩) HS.out HB4.out HR4.out HO.out).1, (deed_end (D := ⟨[], 5, 0⟩) HS.out HB4.out HR4.out HO.out).2⟩
      · have h9 : ¬ (lt : Int) < 9 := by omega
        have HL9 := Lib.hid hl9
        clear hl9
        by_cases hm0 : d % 4 = 0
        · have hmI : ((d : Int) % 4 != 0) = false := by simp; omega
          have HM0 := Lib.hid hm0
          clear hm0
          by_cases hlv : l0 < 3
          · have hlI : (l0 : Int) < 3 := by omega
            have HLV := Lib.hid hlv
            have hl8 : (l0 : Int) + 1 < 256 := by omega
            go_wp2_with fail
            rw [show ((l0 : Int) + 1) = ((l0 + 1 : Nat) : Int) from by omega]
            refine (rself_c (k := 12) (l := l0 + 1) (x := 0)).mono ?_
            rintro e w5 ⟨v, rfl, ho, hb5⟩
            have HB5 := Lib.hid (below_t HB4.out hb5)
            have HR5 := Lib.hid (HR4.out.below hb5)
            obtain ⟨A, cc, rfl, _, _, hAA⟩ := ho.form (n := 1) rfl
            have HO0 := Lib.hid (ho.mono HB4.out.size)
            clear ho hb5 hAA
            have HO := Lib.hid (show RowG.Own encX TX w5 w.heap.size (.slice A 1 cc) [(0, (12, l0 + 1))] from HO0.out)
            have HE := Lib.hid (show D = ⟨[(0, (12, l0 + 1))], 0, 0⟩ from by
              rw [← HD.out]
              unfold plant
              rw [if_pos (by rw [HK0.out]; exact HK12.out), if_pos (by rw [HK5.out]; exact HK53.out), if_neg (by rw [HLT.out]; have := HL9.out; have := HM0.out; omega), if_pos (by rw [HS0.out]; exact HLV.out)]
              rw [HS0.out])
            have r0 := HR5.out.cell (i := 0) rfl
            have f0 := HR5.out.frozen 0
            have r1 := HR5.out.cell (i := 1) rfl
            have f1 := HR5.out.frozen 1
            have r2 := HR5.out.cell (i := 2) rfl
            have f2 := HR5.out.frozen 2
            have rl := HR5.out.lt
            go_wp2_with fail
            refine bodyPost_ret (v := .agg #[.slice A 1 cc, .int .i64 0, .int .i64 0]) (by simp [results, Tryd.results29, go_sem, rl, r0, r1, r2]) rfl ?_
            rw [HE.out]
            exact ⟨_, rfl, (deed_end (D := ⟨[(0, (12, l0 + 1))], 0, 0⟩) HS.out HB5.out HR5.out HO.out).1, (deed_end (D := ⟨[(0, (12, l0 + 1))], 0, 0⟩) HS.out HB5.out HR5.out HO.out).2⟩
          · have hlI : ¬ (l0 : Int) < 3 := by omega
            have HLV := Lib.hid hlv
            go_wp2_with fail
            refine (rself_c (k := 7) (l := 0) (x := 1)).mono ?_
            rintro e w5 ⟨v, rfl, ho, hb5⟩
            have HB5 := Lib.hid (below_t HB4.out hb5)
            have HR5 := Lib.hid (HR4.out.below hb5)
            obtain ⟨A, cc, rfl, _, _, hAA⟩ := ho.form (n := 1) rfl
            have HO0 := Lib.hid (ho.mono HB4.out.size)
            clear ho hb5 hAA
            have HO := Lib.hid (show RowG.Own encX TX w5 w.heap.size (.slice A 1 cc) [(0, (7, 0))] from HO0.out)
            have HE := Lib.hid (show D = ⟨[(0, (7, 0))], 0, 1⟩ from by
              rw [← HD.out]
              unfold plant
              rw [if_pos (by rw [HK0.out]; exact HK12.out), if_pos (by rw [HK5.out]; exact HK53.out), if_neg (by rw [HLT.out]; have := HL9.out; have := HM0.out; omega), if_neg (by rw [HS0.out]; exact HLV.out)])
            have r0 := HR5.out.cell (i := 0) rfl
            have f0 := HR5.out.frozen 0
            have r1 := HR5.out.cell (i := 1) rfl
            have f1 := HR5.out.frozen 1
            have r2 := HR5.out.cell (i := 2) rfl
            have f2 := HR5.out.frozen 2
            have rl := HR5.out.lt
            go_wp2_with fail
            refine bodyPost_ret (v := .agg #[.slice A 1 cc, .int .i64 0, .int .i64 1]) (by simp [results, Tryd.results29, go_sem, rl, r0, r1, r2]) rfl ?_
            rw [HE.out]
            exact ⟨_, rfl, (deed_end (D := ⟨[(0, (7, 0))], 0, 1⟩) HS.out HB5.out HR5.out HO.out).1, (deed_end (D := ⟨[(0, (7, 0))], 0, 1⟩) HS.out HB5.out HR5.out HO.out).2⟩
        · have hmI : ((d : Int) % 4 != 0) = true := by simp; omega
          have HM0 := Lib.hid hm0
          clear hm0
          have HO := Lib.hid (show RowG.Own encX TX w4 w.heap.size (.slice none 0 0) [] from Own.nil _ _ _ _)
          have HE := Lib.hid (show D = ⟨[], 5, 0⟩ from by
            rw [← HD.out]
            unfold plant
            rw [if_pos (by rw [HK0.out]; exact HK12.out), if_pos (by rw [HK5.out]; exact HK53.out), if_pos (.inr HM0.out)])
          have r0 := HR4.out.cell (i := 0) rfl
          have f0 := HR4.out.frozen 0
          have r1 := HR4.out.cell (i := 1) rfl
          have f1 := HR4.out.frozen 1
          have r2 := HR4.out.cell (i := 2) rfl
          have f2 := HR4.out.frozen 2
          have rl := HR4.out.lt
          go_wp2_with fail
          refine bodyPost_ret (v := .agg #[.slice none 0 0, .int .i64 5, .int .i64 0]) (by simp [results, Tryd.results29, go_sem, rl, r0, r1, r2]) rfl ?_
          rw [HE.out]
          exact ⟨_, rfl, (deed_end (D := ⟨[], 5, 0⟩) HS.out HB4.out HR4.out HO.out).1, (deed_end (D := ⟨[], 5, 0⟩) HS.out HB4.out HR4.out HO.out).2⟩
    · have h5 : ((q5 : Int) != 3) = true := by simp; omega
      have HK53 := Lib.hid hk5
      clear hk5
      go_wp2_with fail
      refine (rself_c (k := 0) (l := 0) (x := 0)).mono ?_
      rintro e w5 ⟨v, rfl, ho, hb5⟩
      have HB5 := Lib.hid (below_t HB4.out hb5)
      have HR5 := Lib.hid (HR4.out.below hb5)
      obtain ⟨A, cc, rfl, _, _, hAA⟩ := ho.form (n := 1) rfl
      have HO0 := Lib.hid (ho.mono HB4.out.size)
      clear ho hb5 hAA
      have HO := Lib.hid (show RowG.Own encX TX w5 w.heap.size (.slice A 1 cc) [(0, (0, 0))] from HO0.out)
      have HE := Lib.hid (show D = ⟨[(0, (0, 0))], 0, 0⟩ from by
        rw [← HD.out]
        unfold plant
        rw [if_pos (by rw [HK0.out]; exact HK12.out), if_neg (by rw [HK5.out]; exact HK53.out)])
      have r0 := HR5.out.cell (i := 0) rfl
      have f0 := HR5.out.frozen 0
      have r1 := HR5.out.cell (i := 1) rfl
      have f1 := HR5.out.frozen 1
      have r2 := HR5.out.cell (i := 2) rfl
      have f2 := HR5.out.frozen 2
      have rl := HR5.out.lt
      go_wp2_with fail
      refine bodyPost_ret (v := .agg #[.slice A 1 cc, .int .i64 0, .int .i64 0]) (by simp [results, Tryd.results29, go_sem, rl, r0, r1, r2]) rfl ?_
      rw [HE.out]
      exact ⟨_, rfl, (deed_end (D := ⟨[(0, (0, 0))], 0, 0⟩) HS.out HB5.out HR5.out HO.out).1, (deed_end (D := ⟨[(0, (0, 0))], 0, 0⟩) HS.out HB5.out HR5.out HO.out).2⟩
  · have h12 : ((q0 : Int) != 12) = true := by simp; omega
    have HK12 := Lib.hid hk12
    clear hk12
    have HO := Lib.hid (show RowG.Own encX TX w3 w.heap.size (.slice none 0 0) [] from Own.nil _ _ _ _)
    have HE := Lib.hid (show D = ⟨[], 0, 0⟩ from by
      rw [← HD.out]
      unfold plant
      rw [if_neg (by rw [HK0.out]; exact HK12.out)])
    have r0 := HR3.out.cell (i := 0) rfl
    have f0 := HR3.out.frozen 0
    have r1 := HR3.out.cell (i := 1) rfl
    have f1 := HR3.out.frozen 1
    have r2 := HR3.out.cell (i := 2) rfl
    have f2 := HR3.out.frozen 2
    have rl := HR3.out.lt
    go_wp2_with fail
    refine bodyPost_ret (v := .agg #[.slice none 0 0, .int .i64 0, .int .i64 0]) (by simp [results, Tryd.results29, go_sem, rl, r0, r1, r2]) rfl ?_
    rw [HE.out]
    exact ⟨_, rfl, (deed_end (D := ⟨[], 0, 0⟩) HS.out HB3.out HR3.out HO.out).1, (deed_end (D := ⟨[], 0, 0⟩) HS.out HB3.out HR3.out HO.out).2⟩
end BurnW
end Go.Proofs.YtlahkmkipciiiaaDoor
