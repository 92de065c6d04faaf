/-
  Plant: what it answers.
-/
import Derived.Test.YtlahkmkipciiiaaDoorBurnFire
namespace Go.Proofs.YtlahkmkipciiiaaDoor
open Go.RowKit
set_option linter.unusedVariables false
set_option linter.unusedSimpArgs false
namespace BurnW
open BlkP RowG FrS PushG CellsW NearW BurnP
set_option maxRecDepth 100000 in
set_option maxHeartbeats 16000000 in
theorem Plant_c {w : World} {n : Nr} {d : Nat} (hT : KindW.Tab w) (hd : n.dr = (d : Int)) (hd2 : d ≤ 18446744073709551615) : Calls Tryd.prog 23 #[nv n] w (DeedQ w (plant n d)) := by
  have HT := Lib.hid hT
  have HDR := Lib.hid hd
  obtain ⟨D, hD⟩ : ∃ D, plant n d = D := ⟨_, rfl⟩
  rw [hD]
  have HD := Lib.hid hD
  obtain ⟨⟨k0, l0⟩, hs0⟩ : ∃ c, sure n.s = c := ⟨_, rfl⟩
  have HS0 := Lib.hid hs0
  have HK0 := Lib.hid (show kd n.s = k0 by rw [← sure_kd, hs0])
  obtain ⟨⟨k5, l5⟩, hs5⟩ : ∃ c, sure (n.sd 5) = c := ⟨_, rfl⟩
  have HS5 := Lib.hid hs5
  have HK5 := Lib.hid (show kd (n.sd 5) = k5 by rw [← sure_kd, hs5])
  obtain ⟨lt, hlt⟩ : ∃ c, n.lt = c := ⟨_, rfl⟩
  have HLT := Lib.hid hlt
  obtain ⟨s, hs⟩ : ∃ s, w.heap.size = s := ⟨_, rfl⟩
  have HS := Lib.hid hs
  clear hT hd hD hs0 hs5 hlt
  go_enter Tryd.func23, Tryd.ntmps23
  go_wp2_with ((with_reducible refine at_slot 1 ?_); refine Classical.byContradiction (fun hG => ?_))
  refine hG ?_
  clear hG
  refine wp_boxN rfl (.tmp 0) rfl rfl ?_
  intro w1 h1 hb1 hz1
  rw [hs] at h1 hz1
  try rw [hs]
  go_wp2_with ((with_reducible refine at_slot 5 ?_); refine Classical.byContradiction (fun hG => ?_))
  refine hG ?_
  clear hG
  refine list_named (S := fun W => Below w.heap.size w W ∧ Blk W s TN (vals n) ∧ Blk W (s + 1) TD [.slice none 0 0, .int .i64 0, .int .i64 0]) ⟨by (repeat' (first | (with_reducible exact Below.refl _ _) | (with_reducible refine Below.setCell ?_ (by (first | omega | (simp; done) | (simp; omega))) _) | (with_reducible refine Below.alloc ?_ (by (first | omega | (simp; done) | (simp; omega))) _) | (with_reducible refine Below.drew ?_) | (with_reducible refine below_drewN ?_ _) | (with_reducible refine Below.trans ?_ (Below.mono hb1 (by (first | omega | (simp; done) | (simp; omega))))))), by (repeat' (first | (with_reducible exact h1) | (with_reducible refine BlkP.Blk.drew ?_) | (with_reducible refine BlkP.Blk.drewN ?_ _) | (with_reducible refine BlkP.Blk.setAt (us := ?_) (by first | omega | (simp; done) | (simp; omega)) rfl ?_ ?_) | (with_reducible refine BlkP.Blk.otherAt ?_ (by first | omega | (simp; done) | (simp; omega))) | (with_reducible refine BlkP.Blk.newA' (by first | omega | (simp; done) | (simp; omega)) rfl) | (with_reducible refine BlkP.Blk.alloc ?_ _) | (exact rfl))), by (repeat' (first | (with_reducible refine BlkP.Blk.drew ?_) | (with_reducible refine BlkP.Blk.drewN ?_ _) | (with_reducible refine BlkP.Blk.setAt (us := ?_) (by first | omega | (simp; done) | (simp; omega)) rfl ?_ ?_) | (with_reducible refine BlkP.Blk.otherAt ?_ (by first | omega | (simp; done) | (simp; omega))) | (with_reducible refine BlkP.Blk.newA' (by first | omega | (simp; done) | (simp; omega)) rfl) | (with_reducible refine BlkP.Blk.alloc ?_ _) | (exact rfl)))⟩ ?_
  clear hb1 h1 hz1
  rintro w2 ⟨hb2, h2, hr2⟩
  have HB2 := Lib.hid hb2
  have H2 := Lib.hid h2
  have HR2 := Lib.hid hr2
  clear hb2 h2 hr2
  refine wp_loadN rfl (.tmp 1) rfl rfl (n := n) H2.out ?_
  go_wp2_with fail
  refine (sound_c (HT.out.below HB2.out)).mono ?_
  rintro e w3 ⟨rfl, hb3⟩
  have hB3 := below_t HB2.out hb3
  have h3 := H2.out.below hb3
  have hr3 := HR2.out.below hb3
  go_wp2_with ((with_reducible refine at_storeN ?_); refine Classical.byContradiction (fun hG => ?_))
  refine hG ?_
  clear hG
  refine wp_storeN rfl (.tmp 1) (.tmp 6) rfl rfl (n := snd n) rfl h3 rfl ?_
  intro w4 h4 hg4 hz4
  have HB4 := Lib.hid (show Below w.heap.size w w4 from hB3.grown hg4 (by have := hB3.size; omega) (fun q hq => by injection hq with hq; omega))
  have H4 := Lib.hid h4
  have HR4 := Lib.hid (hr3.grown hg4 (by simp))
  clear hb3 hB3 h3 hr3 h4 hg4 hz4
  go_wp2_with ((with_reducible refine at_slot 7 ?_); refine Classical.byContradiction (fun hG => ?_))
  refine hG ?_
  clear hG
  refine list_named (S := fun W => Below w.heap.size w W ∧ Blk W s TN (vals (snd n)) ∧ Blk W (s + 1) TD [.slice none 0 0, .int .i64 0, .int .i64 0] ∧ ∃ bd, bd = w4.heap.size ∧ s + 1 < bd ∧ Blk W bd TD [.slice none 0 0, .int .i64 0, .int .i64 0]) ⟨by have := HB4.out.size; (repeat' (first | (with_reducible exact Below.refl _ _) | (with_reducible refine Below.setCell ?_ (by (first | omega | (simp; done) | (simp; omega))) _) | (with_reducible refine Below.alloc ?_ (by (first | omega | (simp; done) | (simp; omega))) _) | (with_reducible refine Below.drew ?_) | (with_reducible refine below_drewN ?_ _) | (with_reducible refine Below.trans ?_ (Below.mono HB4.out (by (first | omega | (simp; done) | (simp; omega))))))), by (repeat' (first | (with_reducible exact H4.out) | (with_reducible refine BlkP.Blk.drew ?_) | (with_reducible refine BlkP.Blk.drewN ?_ _) | (with_reducible refine BlkP.Blk.setAt (us := ?_) (by first | omega | (simp; done) | (simp; omega)) rfl ?_ ?_) | (with_reducible refine BlkP.Blk.otherAt ?_ (by first | omega | (simp; done) | (simp; omega))) | (with_reducible refine BlkP.Blk.newA' (by first | omega | (simp; done) | (simp; omega)) rfl) | (with_reducible refine BlkP.Blk.alloc ?_ _) | (exact rfl))), by (repeat' (first | (with_reducible exact HR4.out) | (with_reducible refine BlkP.Blk.drew ?_) | (with_reducible refine BlkP.Blk.drewN ?_ _) | (with_reducible refine BlkP.Blk.setAt (us := ?_) (by first | omega | (simp; done) | (simp; omega)) rfl ?_ ?_) | (with_reducible refine BlkP.Blk.otherAt ?_ (by first | omega | (simp; done) | (simp; omega))) | (with_reducible refine BlkP.Blk.newA' (by first | omega | (simp; done) | (simp; omega)) rfl) | (with_reducible refine BlkP.Blk.alloc ?_ _) | (exact rfl))), w4.heap.size, rfl, HR4.out.lt, by (repeat' (first | (with_reducible refine BlkP.Blk.drew ?_) | (with_reducible refine BlkP.Blk.drewN ?_ _) | (with_reducible refine BlkP.Blk.setAt (us := ?_) (by first | omega | (simp; done) | (simp; omega)) rfl ?_ ?_) | (with_reducible refine BlkP.Blk.otherAt ?_ (by first | omega | (simp; done) | (simp; omega))) | (with_reducible refine BlkP.Blk.newA' (by first | omega | (simp; done) | (simp; omega)) rfl) | (with_reducible refine BlkP.Blk.alloc ?_ _) | (exact rfl)))⟩ ?_
  rintro w5 ⟨hb5, h5, hr5, bd, hbd, hsd, hd5⟩
  try rw [← hbd]
  have HB5 := Lib.hid hb5
  have H5 := Lib.hid h5
  have HR5 := Lib.hid hr5
  have HD5 := Lib.hid hd5
  have c0 := h5.cell (i := 0) (g_kind (snd n))
  have c1 := h5.cell (i := 1) (g_lev (snd n))
  rw [show (snd n).s = (k0, l0) from HS0.out] at c0 c1
  simp only at c0 c1
  have hsI : s < w5.heap.size := h5.lt
  clear hb5 h5 hr5 hd5 hbd
  have HSD := Lib.hid hsd
  by_cases hk12 : k0 = 12
  · have h12 : ((k0 : Int) != 12) = false := by simp; omega
    have HK12 := Lib.hid hk12
    clear hk12
    have HNS := Lib.hid (show n.s = (k0, l0) from by
      have hn := HS0.out
      rw [sure_of (by rw [HK0.out, HK12.out]; omega)] at hn
      exact hn)
    go_wp2_with ((with_reducible refine at_slot 12 ?_); refine Classical.byContradiction (fun hG => ?_))
    refine hG ?_
    clear hG
    refine wp_loadN rfl (.tmp 1) rfl rfl (n := snd n) H5.out ?_
    go_wp2_with fail
    refine changer_c.mono ?_
    rintro e w6 ⟨bn, bp, rfl, hn6, hp6, gn, gp, hb6⟩
    have HB6 := Lib.hid (below_t HB5.out hb6)
    have H6 := Lib.hid (H5.out.below hb6)
    have HR6 := Lib.hid (HR5.out.below hb6)
    have HD6 := Lib.hid (HD5.out.below hb6)
    have HN6 := Lib.hid hn6
    have HP6 := Lib.hid hp6
    have a0 := H6.out.cell (g_sk (snd n) (d := 5) (by omega))
    have a1 := H6.out.cell (g_sl (snd n) (d := 5) (by omega))
    rw [show (snd n).sd 5 = (k5, l5) from HS5.out] at a0 a1
    simp only at a0 a1
    have c1 := H6.out.cell (i := 1) (g_lev (snd n))
    rw [show (snd n).s = (k0, l0) from HS0.out] at c1
    simp only at c1
    have c22 : w6.cell? ⟨s, 22, none⟩ = some (.int .u8 (lt : Int)) := by
      have q := H6.out.cell (i := 22) (v := .int .u8 (n.lt : Int)) rfl
      rw [HLT.out] at q
      exact q
    have c23 : w6.cell? ⟨s, 23, none⟩ = some (.int .u64 (d : Int)) := by
      have q := H6.out.cell (i := 23) (v := .int .u64 n.dr) rfl
      rw [HDR.out] at q
      exact q
    have ls := H6.out.lt
    clear hb6 hn6 hp6 gn gp c0
    by_cases hk5 : k5 = 3
    · have h5 : ((k5 : Int) != 3) = false := by simp; omega
      have HK53 := Lib.hid hk5
      clear hk5
      by_cases hl9 : lt < 9
      · have h9 : (lt : Int) < 9 := by omega
        have HL9 := Lib.hid hl9
        clear hl9
        try simp only [Int.not_lt] at *
        have dI0 := HD6.out.cell (i := 1) rfl
        have dF0 := HD6.out.frozen 1
        have dL0 := HD6.out.lt
        go_wp2_with ((with_reducible refine at_slot 49 ?_); refine Classical.byContradiction (fun hG => ?_))
        refine hG ?_
        clear hG
        refine list_named (S := fun W => Below w.heap.size w W ∧ Blk W (s + 1) TD [.slice none 0 0, .int .i64 0, .int .i64 0] ∧ Blk W bd TD [.slice none 0 0, .int .i64 5, .int .i64 0] ∧ RowG.Own encX TX W w.heap.size (.slice none 0 0) []) ⟨by have := HS.out; have := HB6.out.size; (repeat' (first | (with_reducible exact Below.refl _ _) | (with_reducible refine Below.setCell ?_ (by (first | omega | (simp; done) | (simp; omega))) _) | (with_reducible refine Below.alloc ?_ (by (first | omega | (simp; done) | (simp; omega))) _) | (with_reducible refine Below.drew ?_) | (with_reducible refine below_drewN ?_ _) | (with_reducible refine Below.trans ?_ (Below.mono HB6.out (by (first | omega | (simp; done) | (simp; omega))))))), by (repeat' (first | (with_reducible exact HR6.out) | (with_reducible refine BlkP.Blk.drew ?_) | (with_reducible refine BlkP.Blk.drewN ?_ _) | (with_reducible refine BlkP.Blk.setAt (us := ?_) (by first | omega | (simp; done) | (simp; omega)) rfl ?_ ?_) | (with_reducible refine BlkP.Blk.otherAt ?_ (by first | omega | (simp; done) | (simp; omega))) | (with_reducible refine BlkP.Blk.newA' (by first | omega | (simp; done) | (simp; omega)) rfl) | (with_reducible refine BlkP.Blk.alloc ?_ _) | (exact rfl))), by (repeat' (first | (with_reducible exact HD6.out) | (with_reducible refine BlkP.Blk.drew ?_) | (with_reducible refine BlkP.Blk.drewN ?_ _) | (with_reducible refine BlkP.Blk.setAt (us := ?_) (by first | omega | (simp; done) | (simp; omega)) rfl ?_ ?_) | (with_reducible refine BlkP.Blk.otherAt ?_ (by first | omega | (simp; done) | (simp; omega))) | (with_reducible refine BlkP.Blk.newA' (by first | omega | (simp; done) | (simp; omega)) rfl) | (with_reducible refine BlkP.Blk.alloc ?_ _) | (exact rfl))), Own.nil _ _ _ _⟩ ?_
        rintro z0 ⟨zb, zr, zd, zo⟩
        have ZB := Lib.hid zb
        have ZR := Lib.hid zr
        have ZO := Lib.hid zo
        have HE := Lib.hid (show D = ⟨[], 5, 0⟩ from by
          rw [← HD.out]
          unfold plant
          rw [if_pos (by rw [HK0.out]; exact HK12.out), if_pos (by rw [HK5.out]; exact HK53.out), if_pos (.inl (by rw [HLT.out]; exact HL9.out))])
        have r0 := zr.cell (i := 0) rfl
        have r1 := zr.cell (i := 1) rfl
        have r2 := zr.cell (i := 2) rfl
        have f0 := zr.frozen 0
        have f1 := zr.frozen 1
        have f2 := zr.frozen 2
        have rl := zr.lt
        have d0 := zd.cell (i := 0) rfl
        have d1 := zd.cell (i := 1) rfl
        have d2 := zd.cell (i := 2) rfl
        have dl := zd.lt
        have hne : bd ≠ s + 1 := by have := HSD.out; omega
        clear zb zr zd zo
        go_wp2_with fail
        refine bodyPost_ret (v := .agg #[.slice none 0 0, .int .i64 5, .int .i64 0]) (by simp [results, Tryd.results23, go_sem, rl, r0, r1, r2]) rfl ?_
        rw [HE.out]
        exact ⟨_, rfl, (deed_end (D := ⟨[], 5, 0⟩) HS.out ZB.out ZR.out ZO.out).1, (deed_end (D := ⟨[], 5, 0⟩) HS.out ZB.out ZR.out ZO.out).2⟩
      · have h9 : ¬ (lt : Int) < 9 := by omega
        have HL9 := Lib.hid hl9
        clear hl9
        obtain ⟨m, hm⟩ : ∃ m, d % 4 = m := ⟨_, rfl⟩
        have HMN := Lib.hid hm
        by_cases hm0 : m = 0
        · have hmI : ((d : Int) % 4 != 0) = false := by simp; omega
          have HM0 := Lib.hid hm0
          clear hm hm0
          go_wp2_with fail
          refine wp_region_noPanic ?_
          refine wp_region_held_drew (S := fun W => Below w6.heap.size w6 W) (by kernel_rfl) ((Below.refl _ w6).drew) (fun hHeld => ?_)
          refine wpAnyH_take (i := 0) (oi := ⟨some 30, _, _, _, _, _⟩) (v := .pointer (some ⟨s, 0, none⟩)) rfl (by kernel_rfl) (by kernel_rfl) (by kernel_rfl) (fun _ _ _ h => h) (Or.inl ⟨by rfl, fun W hSW => by go_simp⟩) hHeld ?_
          simp only [Act.put, List.setIfInBounds_toArray, List.set_cons_zero, List.set_cons_succ]
          refine wpAnyH_take (i := 1) (oi := ⟨some 31, _, _, _, _, _⟩) (v := .pointer (some ⟨s, 1, none⟩)) rfl (by kernel_rfl) (by kernel_rfl) (by kernel_rfl) (fun _ _ _ h => h) (Or.inl ⟨by rfl, fun W hSW => by go_simp⟩) hHeld ?_
          simp only [Act.put, List.setIfInBounds_toArray, List.set_cons_zero, List.set_cons_succ]
          refine wpAnyH_take (i := 2) (oi := ⟨some 32, _, _, _, _, _⟩) (v := .int .u8 (l0 : Int)) rfl (by kernel_rfl) (by kernel_rfl) (by kernel_rfl) (fun _ _ _ h => h) (Or.inl ⟨by rfl, fun W hSW => by have a0 := (hSW.cell (p := ⟨s, 1, none⟩) ls).trans c1; go_simp⟩) hHeld ?_
          simp only [Act.put, List.setIfInBounds_toArray, List.set_cons_zero, List.set_cons_succ]
          refine wpAnyH_ready (rs := [3]) (by kernel_rfl) (by simp) ?_
          refine AllReadyH.cons (o := ⟨some 33, _, _, _, _, _⟩) rfl (fun K hK => ?_) AllReadyH.nil
          go_simp
          refine (KindW.k_levels 12 _ (HT.out.below (by have := HB6.out.size; (repeat' (first | (with_reducible exact Below.refl _ _) | (with_reducible refine Below.setCell ?_ (by (first | omega | (simp; done) | (simp; omega))) _) | (with_reducible refine Below.alloc ?_ (by (first | omega | (simp; done) | (simp; omega))) _) | (with_reducible refine Below.drew ?_) | (with_reducible refine below_drewN ?_ _) | (with_reducible refine Below.trans ?_ (Below.mono HB6.out (by (first | omega | (simp; done) | (simp; omega))))) | (with_reducible refine Below.trans ?_ (Below.mono hHeld (by (first | omega | (simp; done) | (simp; omega)))))))))).mono ?_
          rintro e w7 ⟨rfl, rfl⟩
          go_wp2_with fail
          refine hK.out _ _ hHeld (fun hHeld => ?_)
          clear hK K
          by_cases hlv : l0 < 3
          · have HLV := Lib.hid hlv
            have HLV2 := Lib.hid (show l0 < KindP.most 12 from hlv)
            have hlb : ((l0 : Int) < 3) = True := by simp; omega
            refine wpAnyH_take (i := 4) (oi := ⟨some 34, _, _, _, _, _⟩) (v := .bool true) rfl (by kernel_rfl) (by kernel_rfl) (by kernel_rfl) (fun _ _ _ h => h) (Or.inl ⟨by rfl, fun W hSW => by go_simp; exact HLV2.out⟩) hHeld ?_
            simp only [Act.put, List.setIfInBounds_toArray, List.set_cons_zero, List.set_cons_succ]
            refine wpAnyH_take (i := 5) (oi := ⟨some 29, _, _, _, _, _⟩) (v := .bool true) rfl (by kernel_rfl) (by kernel_rfl) (by kernel_rfl) (fun _ _ _ h => h) (Or.inl ⟨by rfl, fun W hSW => by go_simp⟩) hHeld ?_
            simp only [Act.put, List.setIfInBounds_toArray, List.set_cons_zero, List.set_cons_succ]
            refine wpAnyH_done (by kernel_rfl) ?_ _
            refine NoPanic.normal ?_
            refine HeldP.then_named (S := fun W => Below w6.heap.size w6 W) hHeld ?_
            rintro w7 hb7
            clear hHeld a0 a1 c22 c23 ls c1 hlb
            have HB7 := Lib.hid (below_t HB6.out hb7)
            have H7 := Lib.hid (H6.out.below hb7)
            have HR7 := Lib.hid (HR6.out.below hb7)
            have HD7 := Lib.hid (HD6.out.below hb7)
            have HN7 := Lib.hid (HN6.out.below hb7)
            have HP7 := Lib.hid (HP6.out.below hb7)
            clear hb7
            have c1 := H7.out.cell (i := 1) (g_lev (snd n))
            rw [show (snd n).s = (k0, l0) from HS0.out] at c1
            simp only at c1
            have ls := H7.out.lt
            have hl8 : (l0 : Int) + 1 < 256 := by omega
            go_wp2_with fail

            rw [show ((l0 : Int) + 1) = ((l0 + 1 : Nat) : Int) from by omega]
            clear c1 ls
            refine (change_c (n := snd n) (d := 0) (k := 12) (m := l0 + 1) (ko := k0) (lo := l0) (x1 := mv 12) (x2 := mv k0) (HT.out.below HB7.out) HN7.out HP7.out HD7.out (by omega) (by rw [if_pos rfl]; exact HS0.out) rfl rfl).mono ?_
            rintro e w8 ⟨rfl, v, hov, hdv, hfv⟩
            have HOV := Lib.hid (hov.mono HB7.out.size)
            obtain ⟨A, cc, rfl, _, _, hAA⟩ := hov.form (n := 1) rfl
            have HB8 := Lib.hid (show Below w.heap.size w w8 from HB7.out.trans (hfv.toBelow HB7.out.size (fun q hq => by have := HSD.out; have := HS.out; omega)))
            have HR8 := Lib.hid (hfv.blk HR7.out (by have := HSD.out; omega))
            have HD8 := Lib.hid hdv
            have dI0 := hdv.cell (i := 1) rfl
            have dF0 := hdv.frozen 1
            have dL0 := hdv.lt
            clear hov hdv hfv hAA
            go_wp2_with ((with_reducible refine at_slot 49 ?_); refine Classical.byContradiction (fun hG => ?_))
            refine hG ?_
            clear hG
            refine list_named (S := fun W => Below w.heap.size w W ∧ Blk W (s + 1) TD [.slice none 0 0, .int .i64 0, .int .i64 0] ∧ Blk W bd TD [.slice A 1 cc, .int .i64 0, .int .i64 (mv 12 - mv k0)] ∧ RowG.Own encX TX W w.heap.size (.slice A 1 cc) [(0, (12, l0 + 1))]) ⟨by have := HS.out; have := HB8.out.size; (repeat' (first | (with_reducible exact Below.refl _ _) | (with_reducible refine Below.setCell ?_ (by (first | omega | (simp; done) | (simp; omega))) _) | (with_reducible refine Below.alloc ?_ (by (first | omega | (simp; done) | (simp; omega))) _) | (with_reducible refine Below.drew ?_) | (with_reducible refine below_drewN ?_ _) | (with_reducible refine Below.trans ?_ (Below.mono HB8.out (by (first | omega | (simp; done) | (simp; omega))))))), by (repeat' (first | (with_reducible exact HR8.out) | (with_reducible refine BlkP.Blk.drew ?_) | (with_reducible refine BlkP.Blk.drewN ?_ _) | (with_reducible refine BlkP.Blk.setAt (us := ?_) (by first | omega | (simp; done) | (simp; omega)) rfl ?_ ?_) | (with_reducible refine BlkP.Blk.otherAt ?_ (by first | omega | (simp; done) | (simp; omega))) | (with_reducible refine BlkP.Blk.newA' (by first | omega | (simp; done) | (simp; omega)) rfl) | (with_reducible refine BlkP.Blk.alloc ?_ _) | (exact rfl))), by (repeat' (first | (with_reducible exact HD8.out) | (with_reducible refine BlkP.Blk.drew ?_) | (with_reducible refine BlkP.Blk.drewN ?_ _) | (with_reducible refine BlkP.Blk.setAt (us := ?_) (by first | omega | (simp; done) | (simp; omega)) rfl ?_ ?_) | (with_reducible refine BlkP.Blk.otherAt ?_ (by first | omega | (simp; done) | (simp; omega))) | (with_reducible refine BlkP.Blk.newA' (by first | omega | (simp; done) | (simp; omega)) rfl) | (with_reducible refine BlkP.Blk.alloc ?_ _) | (exact rfl))), HOV.out⟩ ?_
            rintro z0 ⟨zb, zr, zd, zo⟩
            have ZB := Lib.hid zb
            have ZR := Lib.hid zr
            have ZO := Lib.hid zo
            have HE := Lib.hid (show D = ⟨[(0, (12, l0 + 1))], 0, (mv 12 - mv k0)⟩ from by
              rw [← HD.out]
              unfold plant
              rw [if_pos (by rw [HK0.out]; exact HK12.out), if_pos (by rw [HK5.out]; exact HK53.out), if_neg (by rw [HLT.out, HMN.out]; have := HL9.out; have := HM0.out; omega), if_pos (by rw [HNS.out]; exact HLV.out)]
              rw [HNS.out, HK12.out, mv_12]
              rfl)
            have r0 := zr.cell (i := 0) rfl
            have r1 := zr.cell (i := 1) rfl
            have r2 := zr.cell (i := 2) rfl
            have f0 := zr.frozen 0
            have f1 := zr.frozen 1
            have f2 := zr.frozen 2
            have rl := zr.lt
            have d0 := zd.cell (i := 0) rfl
            have d1 := zd.cell (i := 1) rfl
            have d2 := zd.cell (i := 2) rfl
            have dl := zd.lt
            have hne : bd ≠ s + 1 := by have := HSD.out; omega
            clear zb zr zd zo
            go_wp2_with fail
            refine bodyPost_ret (v := .agg #[.slice A 1 cc, .int .i64 0, .int .i64 (mv 12 - mv k0)]) (by simp [results, Tryd.results23, go_sem, rl, r0, r1, r2]) rfl ?_
            rw [HE.out]
            exact ⟨_, rfl, (deed_end (D := ⟨[(0, (12, l0 + 1))], 0, (mv 12 - mv k0)⟩) HS.out ZB.out ZR.out ZO.out).1, (deed_end (D := ⟨[(0, (12, l0 + 1))], 0, (mv 12 - mv k0)⟩) HS.out ZB.out ZR.out ZO.out).2⟩
          · have HLV := Lib.hid hlv
            have HLV2 := Lib.hid (show KindP.most 12 ≤ l0 from Nat.le_of_not_lt hlv)
            have hlb : ((l0 : Int) < 3) = False := by simp; omega
            refine wpAnyH_take (i := 4) (oi := ⟨some 34, _, _, _, _, _⟩) (v := .bool false) rfl (by kernel_rfl) (by kernel_rfl) (by kernel_rfl) (fun _ _ _ h => h) (Or.inl ⟨by rfl, fun W hSW => by go_simp; exact HLV2.out⟩) hHeld ?_
            simp only [Act.put, List.setIfInBounds_toArray, List.set_cons_zero, List.set_cons_succ]
            refine wpAnyH_take (i := 5) (oi := ⟨some 29, _, _, _, _, _⟩) (v := .bool false) rfl (by kernel_rfl) (by kernel_rfl) (by kernel_rfl) (fun _ _ _ h => h) (Or.inl ⟨by rfl, fun W hSW => by go_simp⟩) hHeld ?_
            simp only [Act.put, List.setIfInBounds_toArray, List.set_cons_zero, List.set_cons_succ]
            refine wpAnyH_done (by kernel_rfl) ?_ _
            refine NoPanic.normal ?_
            refine HeldP.then_named (S := fun W => Below w6.heap.size w6 W) hHeld ?_
            rintro w7 hb7
            clear hHeld a0 a1 c22 c23 ls c1 hlb
            have HB7 := Lib.hid (below_t HB6.out hb7)
            have H7 := Lib.hid (H6.out.below hb7)
            have HR7 := Lib.hid (HR6.out.below hb7)
            have HD7 := Lib.hid (HD6.out.below hb7)
            have HN7 := Lib.hid (HN6.out.below hb7)
            have HP7 := Lib.hid (HP6.out.below hb7)
            clear hb7
            go_wp2_with fail
            refine (change_c (n := snd n) (d := 0) (k := 7) (m := 0) (ko := k0) (lo := l0) (x1 := mv 7) (x2 := mv k0) (HT.out.below HB7.out) HN7.out HP7.out HD7.out (by omega) (by rw [if_pos rfl]; exact HS0.out) rfl rfl).mono ?_
            rintro e w8 ⟨rfl, v, hov, hdv, hfv⟩
            have HOV := Lib.hid (hov.mono HB7.out.size)
            obtain ⟨A, cc, rfl, _, _, hAA⟩ := hov.form (n := 1) rfl
            have HB8 := Lib.hid (show Below w.heap.size w w8 from HB7.out.trans (hfv.toBelow HB7.out.size (fun q hq => by have := HSD.out; have := HS.out; omega)))
            have HR8 := Lib.hid (hfv.blk HR7.out (by have := HSD.out; omega))
            have HD8 := Lib.hid hdv
            have dI0 := hdv.cell (i := 1) rfl
            have dF0 := hdv.frozen 1
            have dL0 := hdv.lt
            clear hov hdv hfv hAA
            go_wp2_with ((with_reducible refine at_slot 49 ?_); refine Classical.byContradiction (fun hG => ?_))
            refine hG ?_
            clear hG
            refine list_named (S := fun W => Below w.heap.size w W ∧ Blk W (s + 1) TD [.slice none 0 0, .int .i64 0, .int .i64 0] ∧ Blk W bd TD [.slice A 1 cc, .int .i64 0, .int .i64 (mv 7 - mv k0)] ∧ RowG.Own encX TX W w.heap.size (.slice A 1 cc) [(0, (7, 0))]) ⟨by have := HS.out; have := HB8.out.size; (repeat' (first | (with_reducible exact Below.refl _ _) | (with_reducible refine Below.setCell ?_ (by (first | omega | (simp; done) | (simp; omega))) _) | (with_reducible refine Below.alloc ?_ (by (first | omega | (simp; done) | (simp; omega))) _) | (with_reducible refine Below.drew ?_) | (with_reducible refine below_drewN ?_ _) | (with_reducible refine Below.trans ?_ (Below.mono HB8.out (by (first | omega | (simp; done) | (simp; omega))))))), by (repeat' (first | (with_reducible exact HR8.out) | (with_reducible refine BlkP.Blk.drew ?_) | (with_reducible refine BlkP.Blk.drewN ?_ _) | (with_reducible refine BlkP.Blk.setAt (us := ?_) (by first | omega | (simp; done) | (simp; omega)) rfl ?_ ?_) | (with_reducible refine BlkP.Blk.otherAt ?_ (by first | omega | (simp; done) | (simp; omega))) | (with_reducible refine BlkP.Blk.newA' (by first | omega | (simp; done) | (simp; omega)) rfl) | (with_reducible refine BlkP.Blk.alloc ?_ _) | (exact rfl))), by (repeat' (first | (with_reducible exact HD8.out) | (with_reducible refine BlkP.Blk.drew ?_) | (with_reducible refine BlkP.Blk.drewN ?_ _) | (with_reducible refine BlkP.Blk.setAt (us := ?_) (by first | omega | (simp; done) | (simp; omega)) rfl ?_ ?_) | (with_reducible refine BlkP.Blk.otherAt ?_ (by first | omega | (simp; done) | (simp; omega))) | (with_reducible refine BlkP.Blk.newA' (by first | omega | (simp; done) | (simp; omega)) rfl) | (with_reducible refine BlkP.Blk.alloc ?_ _) | (exact rfl))), HOV.out⟩ ?_
            rintro z0 ⟨zb, zr, zd, zo⟩
            have ZB := Lib.hid zb
            have ZR := Lib.hid zr
            have ZO := Lib.hid zo
            have HE := Lib.hid (show D = ⟨[(0, (7, 0))], 0, (mv 7 - mv k0)⟩ from by
              rw [← HD.out]
              unfold plant
              rw [if_pos (by rw [HK0.out]; exact HK12.out), if_pos (by rw [HK5.out]; exact HK53.out), if_neg (by rw [HLT.out, HMN.out]; have := HL9.out; have := HM0.out; omega), if_neg (by rw [HNS.out]; exact HLV.out)]
              rw [HK12.out, mv_12]
              rfl)
            have r0 := zr.cell (i := 0) rfl
            have r1 := zr.cell (i := 1) rfl
            have r2 := zr.cell (i := 2) rfl
            have f0 := zr.frozen 0
            have f1 := zr.frozen 1
            have f2 := zr.frozen 2
            have rl := zr.lt
            have d0 := zd.cell (i := 0) rfl
            have d1 := zd.cell (i := 1) rfl
            have d2 := zd.cell (i := 2) rfl
            have dl := zd.lt
            have hne : bd ≠ s + 1 := by have := HSD.out; omega
            clear zb zr zd zo
            go_wp2_with fail
            refine bodyPost_ret (v := .agg #[.slice A 1 cc, .int .i64 0, .int .i64 (mv 7 - mv k0)]) (by simp [results, Tryd.results23, go_sem, rl, r0, r1, r2]) rfl ?_
            rw [HE.out]
            exact ⟨_, rfl, (deed_end (D := ⟨[(0, (7, 0))], 0, (mv 7 - mv k0)⟩) HS.out ZB.out ZR.out ZO.out).1, (deed_end (D := ⟨[(0, (7, 0))], 0, (mv 7 - mv k0)⟩) HS.out ZB.out ZR.out ZO.out).2⟩
        · have hmI : ((d : Int) % 4 != 0) = true := by simp; omega
          have HM0 := Lib.hid hm0
          clear hm hm0
          have dI0 := HD6.out.cell (i := 1) rfl
          have dF0 := HD6.out.frozen 1
          have dL0 := HD6.out.lt
          go_wp2_with ((with_reducible refine at_slot 49 ?_); refine Classical.byContradiction (fun hG => ?_))
          refine hG ?_
          clear hG
          refine list_named (S := fun W => Below w.heap.size w W ∧ Blk W (s + 1) TD [.slice none 0 0, .int .i64 0, .int .i64 0] ∧ Blk W bd TD [.slice none 0 0, .int .i64 5, .int .i64 0] ∧ RowG.Own encX TX W w.heap.size (.slice none 0 0) []) ⟨by have := HS.out; have := HB6.out.size; (repeat' (first | (with_reducible exact Below.refl _ _) | (with_reducible refine Below.setCell ?_ (by (first | omega | (simp; done) | (simp; omega))) _) | (with_reducible refine Below.alloc ?_ (by (first | omega | (simp; done) | (simp; omega))) _) | (with_reducible refine Below.drew ?_) | (with_reducible refine below_drewN ?_ _) | (with_reducible refine Below.trans ?_ (Below.mono HB6.out (by (first | omega | (simp; done) | (simp; omega))))))), by (repeat' (first | (with_reducible exact HR6.out) | (with_reducible refine BlkP.Blk.drew ?_) | (with_reducible refine BlkP.Blk.drewN ?_ _) | (with_reducible refine BlkP.Blk.setAt (us := ?_) (by first | omega | (simp; done) | (simp; omega)) rfl ?_ ?_) | (with_reducible refine BlkP.Blk.otherAt ?_ (by first | omega | (simp; done) | (simp; omega))) | (with_reducible refine BlkP.Blk.newA' (by first | omega | (simp; done) | (simp; omega)) rfl) | (with_reducible refine BlkP.Blk.alloc ?_ _) | (exact rfl))), by (repeat' (first | (with_reducible exact HD6.out) | (with_reducible refine BlkP.Blk.drew ?_) | (with_reducible refine BlkP.Blk.drewN ?_ _) | (with_reducible refine BlkP.Blk.setAt (us := ?_) (by first | omega | (simp; done) | (simp; omega)) rfl ?_ ?_) | (with_reducible refine BlkP.Blk.otherAt ?_ (by first | omega | (simp; done) | (simp; omega))) | (with_reducible refine BlkP.Blk.newA' (by first | omega | (simp; done) | (simp; omega)) rfl) | (with_reducible refine BlkP.Blk.alloc ?_ _) | (exact rfl))), Own.nil _ _ _ _⟩ ?_
          rintro z0 ⟨zb, zr, zd, zo⟩
          have ZB := Lib.hid zb
          have ZR := Lib.hid zr
          have ZO := Lib.hid zo
          have HE := Lib.hid (show D = ⟨[], 5, 0⟩ from by
            rw [← HD.out]
            unfold plant
            rw [if_pos (by rw [HK0.out]; exact HK12.out), if_pos (by rw [HK5.out]; exact HK53.out), if_pos (.inr (by rw [HMN.out]; exact HM0.out))])
          have r0 := zr.cell (i := 0) rfl
          have r1 := zr.cell (i := 1) rfl
          have r2 := zr.cell (i := 2) rfl
          have f0 := zr.frozen 0
          have f1 := zr.frozen 1
          have f2 := zr.frozen 2
          have rl := zr.lt
          have d0 := zd.cell (i := 0) rfl
          have d1 := zd.cell (i := 1) rfl
          have d2 := zd.cell (i := 2) rfl
          have dl := zd.lt
          have hne : bd ≠ s + 1 := by have := HSD.out; omega
          clear zb zr zd zo
          go_wp2_with fail
          refine bodyPost_ret (v := .agg #[.slice none 0 0, .int .i64 5, .int .i64 0]) (by simp [results, Tryd.results23, go_sem, rl, r0, r1, r2]) rfl ?_
          rw [HE.out]
          exact ⟨_, rfl, (deed_end (D := ⟨[], 5, 0⟩) HS.out ZB.out ZR.out ZO.out).1, (deed_end (D := ⟨[], 5, 0⟩) HS.out ZB.out ZR.out ZO.out).2⟩
    · have h5 : ((k5 : Int) != 3) = true := by simp; omega
      have HK53 := Lib.hid hk5
      clear hk5
      go_wp2_with fail
      refine (change_c (n := snd n) (d := 0) (k := 0) (m := 0) (ko := k0) (lo := l0) (x1 := mv 0) (x2 := mv k0) (HT.out.below HB6.out) HN6.out HP6.out HD6.out (by omega) (by rw [if_pos rfl]; exact HS0.out) rfl rfl).mono ?_
      rintro e w7 ⟨rfl, v, hov, hdv, hfv⟩
      have HOV := Lib.hid (hov.mono HB6.out.size)
      obtain ⟨A, cc, rfl, _, _, hAA⟩ := hov.form (n := 1) rfl
      have HB7 := Lib.hid (show Below w.heap.size w w7 from HB6.out.trans (hfv.toBelow HB6.out.size (fun q hq => by have := HSD.out; have := HS.out; omega)))
      have HR7 := Lib.hid (hfv.blk HR6.out (by have := HSD.out; omega))
      have HD7 := Lib.hid hdv
      have dI0 := hdv.cell (i := 1) rfl
      have dF0 := hdv.frozen 1
      have dL0 := hdv.lt
      clear hov hdv hfv hAA
      go_wp2_with ((with_reducible refine at_slot 49 ?_); refine Classical.byContradiction (fun hG => ?_))
      refine hG ?_
      clear hG
      refine list_named (S := fun W => Below w.heap.size w W ∧ Blk W (s + 1) TD [.slice none 0 0, .int .i64 0, .int .i64 0] ∧ Blk W bd TD [.slice A 1 cc, .int .i64 0, .int .i64 (mv 0 - mv k0)] ∧ RowG.Own encX TX W w.heap.size (.slice A 1 cc) [(0, (0, 0))]) ⟨by have := HS.out; have := HB7.out.size; (repeat' (first | (with_reducible exact Below.refl _ _) | (with_reducible refine Below.setCell ?_ (by (first | omega | (simp; done) | (simp; omega))) _) | (with_reducible refine Below.alloc ?_ (by (first | omega | (simp; done) | (simp; omega))) _) | (with_reducible refine Below.drew ?_) | (with_reducible refine below_drewN ?_ _) | (with_reducible refine Below.trans ?_ (Below.mono HB7.out (by (first | omega | (simp; done) | (simp; omega))))))), by (repeat' (first | (with_reducible exact HR7.out) | (with_reducible refine BlkP.Blk.drew ?_) | (with_reducible refine BlkP.Blk.drewN ?_ _) | (with_reducible refine BlkP.Blk.setAt (us := ?_) (by first | omega | (simp; done) | (simp; omega)) rfl ?_ ?_) | (with_reducible refine BlkP.Blk.otherAt ?_ (by first | omega | (simp; done) | (simp; omega))) | (with_reducible refine BlkP.Blk.newA' (by first | omega | (simp; done) | (simp; omega)) rfl) | (with_reducible refine BlkP.Blk.alloc ?_ _) | (exact rfl))), by (repeat' (first | (with_reducible exact HD7.out) | (with_reducible refine BlkP.Blk.drew ?_) | (with_reducible refine BlkP.Blk.drewN ?_ _) | (with_reducible refine BlkP.Blk.setAt (us := ?_) (by first | omega | (simp; done) | (simp; omega)) rfl ?_ ?_) | (with_reducible refine BlkP.Blk.otherAt ?_ (by first | omega | (simp; done) | (simp; omega))) | (with_reducible refine BlkP.Blk.newA' (by first | omega | (simp; done) | (simp; omega)) rfl) | (with_reducible refine BlkP.Blk.alloc ?_ _) | (exact rfl))), HOV.out⟩ ?_
      rintro z0 ⟨zb, zr, zd, zo⟩
      have ZB := Lib.hid zb
      have ZR := Lib.hid zr
      have ZO := Lib.hid zo
      have HE := Lib.hid (show D = ⟨[(0, (0, 0))], 0, (mv 0 - mv k0)⟩ from by
        rw [← HD.out]
        unfold plant
        rw [if_pos (by rw [HK0.out]; exact HK12.out), if_neg (by rw [HK5.out]; exact HK53.out)]
        rw [HK12.out, mv_12]
        rfl)
      have r0 := zr.cell (i := 0) rfl
      have r1 := zr.cell (i := 1) rfl
      have r2 := zr.cell (i := 2) rfl
      have f0 := zr.frozen 0
      have f1 := zr.frozen 1
      have f2 := zr.frozen 2
      have rl := zr.lt
      have d0 := zd.cell (i := 0) rfl
      have d1 := zd.cell (i := 1) rfl
      have d2 := zd.cell (i := 2) rfl
      have dl := zd.lt
      have hne : bd ≠ s + 1 := by have := HSD.out; omega
      clear zb zr zd zo
      go_wp2_with fail
      refine bodyPost_ret (v := .agg #[.slice A 1 cc, .int .i64 0, .int .i64 (mv 0 - mv k0)]) (by simp [results, Tryd.results23, go_sem, rl, r0, r1, r2]) rfl ?_
      rw [HE.out]
      exact ⟨_, rfl, (deed_end (D := ⟨[(0, (0, 0))], 0, (mv 0 - mv k0)⟩) HS.out ZB.out ZR.out ZO.out).1, (deed_end (D := ⟨[(0, (0, 0))], 0, (mv 0 - mv k0)⟩) HS.out ZB.out ZR.out ZO.out).2⟩
  · have h12 : ((k0 : Int) != 12) = true := by simp; omega
    have HK12 := Lib.hid hk12
    clear hk12
    go_wp2_with ((with_reducible refine at_slot 11 ?_); refine Classical.byContradiction (fun hG => ?_))
    refine hG ?_
    clear hG
    refine list_named (S := fun W => Below w.heap.size w W ∧ Blk W (s + 1) TD [.slice none 0 0, .int .i64 0, .int .i64 0] ∧ Blk W bd TD [.slice none 0 0, .int .i64 0, .int .i64 0] ∧ RowG.Own encX TX W w.heap.size (.slice none 0 0) []) ⟨by have := HS.out; have := HB5.out.size; (repeat' (first | (with_reducible exact Below.refl _ _) | (with_reducible refine Below.setCell ?_ (by (first | omega | (simp; done) | (simp; omega))) _) | (with_reducible refine Below.alloc ?_ (by (first | omega | (simp; done) | (simp; omega))) _) | (with_reducible refine Below.drew ?_) | (with_reducible refine below_drewN ?_ _) | (with_reducible refine Below.trans ?_ (Below.mono HB5.out (by (first | omega | (simp; done) | (simp; omega))))))), by (repeat' (first | (with_reducible exact HR5.out) | (with_reducible refine BlkP.Blk.drew ?_) | (with_reducible refine BlkP.Blk.drewN ?_ _) | (with_reducible refine BlkP.Blk.setAt (us := ?_) (by first | omega | (simp; done) | (simp; omega)) rfl ?_ ?_) | (with_reducible refine BlkP.Blk.otherAt ?_ (by first | omega | (simp; done) | (simp; omega))) | (with_reducible refine BlkP.Blk.newA' (by first | omega | (simp; done) | (simp; omega)) rfl) | (with_reducible refine BlkP.Blk.alloc ?_ _) | (exact rfl))), by (repeat' (first | (with_reducible exact HD5.out) | (with_reducible refine BlkP.Blk.drew ?_) | (with_reducible refine BlkP.Blk.drewN ?_ _) | (with_reducible refine BlkP.Blk.setAt (us := ?_) (by first | omega | (simp; done) | (simp; omega)) rfl ?_ ?_) | (with_reducible refine BlkP.Blk.otherAt ?_ (by first | omega | (simp; done) | (simp; omega))) | (with_reducible refine BlkP.Blk.newA' (by first | omega | (simp; done) | (simp; omega)) rfl) | (with_reducible refine BlkP.Blk.alloc ?_ _) | (exact rfl))), Own.nil _ _ _ _⟩ ?_
    rintro z0 ⟨zb, zr, zd, zo⟩
    have ZB := Lib.hid zb
    have ZR := Lib.hid zr
    have ZO := Lib.hid zo
    have HE := Lib.hid (show D = ⟨[], 0, 0⟩ from by
      rw [← HD.out]
      unfold plant
      rw [if_neg (by rw [HK0.out]; exact HK12.out)])
    have r0 := zr.cell (i := 0) rfl
    have r1 := zr.cell (i := 1) rfl
    have r2 := zr.cell (i := 2) rfl
    have f0 := zr.frozen 0
    have f1 := zr.frozen 1
    have f2 := zr.frozen 2
    have rl := zr.lt
    have d0 := zd.cell (i := 0) rfl
    have d1 := zd.cell (i := 1) rfl
    have d2 := zd.cell (i := 2) rfl
    have dl := zd.lt
    have hne : bd ≠ s + 1 := by have := HSD.out; omega
    clear zb zr zd zo
    go_wp2_with fail
    refine bodyPost_ret (v := .agg #[.slice none 0 0, .int .i64 0, .int .i64 0]) (by simp [results, Tryd.results23, go_sem, rl, r0, r1, r2]) rfl ?_
    rw [HE.out]
    exact ⟨_, rfl, (deed_end (D := ⟨[], 0, 0⟩) HS.out ZB.out ZR.out ZO.out).1, (deed_end (D := ⟨[], 0, 0⟩) HS.out ZB.out ZR.out ZO.out).2⟩
end BurnW
end Go.Proofs.YtlahkmkipciiiaaDoor
