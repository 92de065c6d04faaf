/-
  The reference: Next.
-/
import Derived.Test.YtlahkmkipciiiaaDoorFlowRef2
namespace Go.Proofs.YtlahkmkipciiiaaDoor
open Go.RowKit
set_option linter.unusedVariables false
set_option linter.unusedSimpArgs false
namespace FlowW
open BlkP RowG FrS PushG FlowP
theorem PutP.nil {w : World} {B : Nat} {l : List (Nat × Cl)} {e : Ending} {w' : World} (h : PutP w B (.slice none 0 0) l e w') : ∃ v', e = .returned (.agg #[v', .int .i64 0, .int .i64 0]) ∧ RowG.Own encX TX w' B v' l ∧ Below w.heap.size w w' := by
  obtain ⟨v', h1, h2, h3⟩ := h
  exact ⟨v', h1, h2, h3.toBelow (Nat.le_refl _) (fun k hk => by cases hk)⟩
set_option maxRecDepth 100000 in
set_option maxHeartbeats 32000000 in
theorem rNext_c {w : World} {n : Nr} : Calls Tryd.prog 27 #[nv n] w (DeedP w (deed n)) := by
  obtain ⟨m, hm⟩ : ∃ m, snd n = m := ⟨_, rfl⟩
  have HM := Lib.hid hm
  obtain ⟨⟨k, l0⟩, hms⟩ : ∃ c, n.s = c := ⟨_, rfl⟩
  have HMS := Lib.hid hms
  obtain ⟨⟨k5, l5⟩, hc5⟩ : ∃ c, n.sd 5 = c := ⟨_, rfl⟩
  have HC5 := Lib.hid hc5
  clear hm hms hc5
  go_enter Tryd.func27, Tryd.ntmps27
  go_wp2_with ((with_reducible refine at_slot 1 ?_); refine Classical.byContradiction (fun hG => ?_))
  refine hG ?_
  clear hG
  refine wp_boxN rfl (.tmp 0) rfl rfl ?_
  intro w1 h1 hb1 hz1
  obtain ⟨s, hs⟩ : ∃ s, w.heap.size = s := ⟨_, rfl⟩
  go_wp2_with ((with_reducible refine at_slot 9 ?_); refine Classical.byContradiction (fun hG => ?_))
  refine hG ?_
  clear hG
  refine list_named (S := fun W => Below w.heap.size w W ∧ Blk W s TN (vals n) ∧ Blk W (s + 1) TD [.slice none 0 0, .int .i64 0, .int .i64 0] ∧ Blk W (s + 2) TD [.slice none 0 0, .int .i64 0, .int .i64 0]) ⟨by (repeat' (first | (with_reducible exact Below.refl _ _) | (with_reducible refine Below.setCell ?_ (by (first | omega | (simp; done) | (simp; omega))) _) | (with_reducible refine Below.alloc ?_ (by (first | omega | (simp; done) | (simp; omega))) _) | (with_reducible refine Below.drew ?_) | (with_reducible refine below_drewN ?_ _) | (with_reducible refine Below.trans ?_ (Below.mono hb1 (by (first | omega | (simp; done) | (simp; omega))))))), by subst hs; (repeat' (first | (with_reducible exact h1) | (with_reducible refine BlkP.Blk.drew ?_) | (with_reducible refine BlkP.Blk.drewN ?_ _) | (with_reducible refine BlkP.Blk.setAt (us := ?_) (by first | omega | (simp; done) | (simp; omega)) rfl ?_ ?_) | (with_reducible refine BlkP.Blk.otherAt ?_ (by first | omega | (simp; done) | (simp; omega))) | (with_reducible refine BlkP.Blk.newA' (by first | omega | (simp; done) | (simp; omega)) rfl) | (with_reducible refine BlkP.Blk.alloc ?_ _) | (exact rfl))), by subst hs; (repeat' (first | (with_reducible refine BlkP.Blk.drew ?_) | (with_reducible refine BlkP.Blk.drewN ?_ _) | (with_reducible refine BlkP.Blk.setAt (us := ?_) (by first | omega | (simp; done) | (simp; omega)) rfl ?_ ?_) | (with_reducible refine BlkP.Blk.otherAt ?_ (by first | omega | (simp; done) | (simp; omega))) | (with_reducible refine BlkP.Blk.newA' (by first | omega | (simp; done) | (simp; omega)) rfl) | (with_reducible refine BlkP.Blk.alloc ?_ _) | (exact rfl))), by subst hs; (repeat' (first | (with_reducible refine BlkP.Blk.drew ?_) | (with_reducible refine BlkP.Blk.drewN ?_ _) | (with_reducible refine BlkP.Blk.setAt (us := ?_) (by first | omega | (simp; done) | (simp; omega)) rfl ?_ ?_) | (with_reducible refine BlkP.Blk.otherAt ?_ (by first | omega | (simp; done) | (simp; omega))) | (with_reducible refine BlkP.Blk.newA' (by first | omega | (simp; done) | (simp; omega)) rfl) | (with_reducible refine BlkP.Blk.alloc ?_ _) | (exact rfl)))⟩ ?_
  rintro w2 ⟨hb2, h2, hr2, hd2⟩
  try rw [hs]
  have HS := Lib.hid hs
  have HB2 := Lib.hid hb2
  have H2 := Lib.hid h2
  have HR2 := Lib.hid hr2
  have HD2 := Lib.hid hd2
  have c0 := h2.cell (i := 0) (g_kind n)
  have c1 := h2.cell (i := 1) (g_lev n)
  rw [HMS.out] at c0 c1
  clear h1 hb1 hz1 hb2 h2 hr2 hd2 hs
  cases hw : wet (sure (k, l0)) with
  | false =>
    have HDE := Lib.hid (show deed n = [] from by
      show deedS (snd n) = []
      have e : ¬ wet (snd n).s = true := by
        show ¬ wet (sure n.s) = true
        rw [HMS.out, hw]
        simp
      rw [deedS, if_neg e])
    go_wp2_with fail
    refine (rwet_c hw).mono ?_
    rintro e w3 ⟨rfl, hb⟩
    have HB3 := Lib.hid (below_t HB2.out hb)
    have H3 := Lib.hid (H2.out.below hb)
    have HR3 := Lib.hid (HR2.out.below hb)
    have HD3 := Lib.hid (HD2.out.below hb)
    clear hb
    clear hw c0 c1
    have d0 := HD3.out.cell (i := 0) rfl
    have d1 := HD3.out.cell (i := 1) rfl
    have d2 := HD3.out.cell (i := 2) rfl
    have r0 := HR3.out.cell (i := 0) rfl
    have z0 := HR3.out.frozen 0
    have r1 := HR3.out.cell (i := 1) rfl
    have z1 := HR3.out.frozen 1
    have r2 := HR3.out.cell (i := 2) rfl
    have z2 := HR3.out.frozen 2
    have rl := HR3.out.lt
    go_wp2_with fail
    refine bodyPost_ret (v := .agg #[.slice none 0 0, .int .i64 0, .int .i64 0]) (by simp [results, Tryd.results27, go_sem, rl, r0, r1, r2]) rfl ?_
    refine ⟨_, rfl, ?_, ((HB3.out.setCell (by have := HS.out; simp; omega) _).setCell (by have := HS.out; simp; omega) _).setCell (by have := HS.out; simp; omega) _⟩
    rw [HDE.out]
    exact Own.nil _ _ _ _
  | true =>
    have hsu := wet_lev hw
    have HL7 := Lib.hid (show l0 ≤ 7 from by
      have q := hsu.1
      rw [hsu.2.1] at q
      exact q)
    have HSS := Lib.hid (show m.s = (k, l0) from by
      rw [← HM.out]
      show sure n.s = _
      rw [HMS.out]
      exact hsu.2.1)
    have HWET := Lib.hid (show wet m.s = true from by
      rw [HSS.out]
      have q := hw
      rw [hsu.2.1] at q
      exact q)
    clear hsu
    go_wp2_with fail
    refine (rwet_c hw).mono ?_
    rintro e w3 ⟨rfl, hb⟩
    have HB3 := Lib.hid (below_t HB2.out hb)
    have H3 := Lib.hid (H2.out.below hb)
    have HR3 := Lib.hid (HR2.out.below hb)
    have HD3 := Lib.hid (HD2.out.below hb)
    clear hb
    clear hw c0 c1
    have c1 := H3.out.cell (i := 1) (g_lev n)
    rw [HMS.out] at c1
    go_wp2_with ((with_reducible refine at_slot 18 ?_); refine Classical.byContradiction (fun hG => ?_))
    refine hG ?_
    clear hG
    refine wp_loadN rfl (.tmp 1) rfl rfl (n := n) H3.out ?_
    go_wp2_with fail
    refine (rWant_c).mono ?_
    rintro e w4 ⟨rfl, hb⟩
    have HB4 := Lib.hid (below_t HB3.out hb)
    have H4 := Lib.hid (H3.out.below hb)
    have HR4 := Lib.hid (HR3.out.below hb)
    have HD4 := Lib.hid (HD3.out.below hb)
    clear hb
    rw [show want n = wantS m from by rw [← HM.out]; rfl]
    obtain ⟨⟨wl, wb⟩, hwt⟩ : ∃ x, wantS m = x := ⟨_, rfl⟩
    rw [hwt]
    have HWT := Lib.hid hwt
    clear hwt c1
    by_cases h0 : 0 < l0
    · have h0I : (0 : Int) < (l0 : Int) := by omega
      cases wb with
      | false =>
        have HDE := Lib.hid (show deed n = [] ++ [(0, (0, 0))] from by
          show deedS (snd n) = _
          rw [HM.out, deedS, if_pos HWET.out, if_pos ⟨by rw [HSS.out]; exact h0, by rw [HWT.out]⟩]
          rfl)
        have d0 := HD4.out.cell (i := 0) rfl
        have d1 := HD4.out.cell (i := 1) rfl
        have d2 := HD4.out.cell (i := 2) rfl
        go_wp2_with fail
        refine (rput_c (d := 0) (k := 0) (m := 0) (l := []) (B := w.heap.size) (Own.nil _ _ _ _) rfl (by omega) HB4.out.size).mono ?_
        rintro e w5 hp
        obtain ⟨v', rfl, ho, hb⟩ := hp.nil
        obtain ⟨A, c, rfl, _, _, _⟩ := ho.form (n := 1) rfl
        have HO := Lib.hid ho
        have HB5 := Lib.hid (below_t HB4.out hb)
        have HR5 := Lib.hid (HR4.out.below hb)
        clear hb hp ho d0 d1 d2
        have r0 := HR5.out.cell (i := 0) rfl
        have z0 := HR5.out.frozen 0
        have r1 := HR5.out.cell (i := 1) rfl
        have z1 := HR5.out.frozen 1
        have r2 := HR5.out.cell (i := 2) rfl
        have z2 := HR5.out.frozen 2
        have rl := HR5.out.lt
        go_wp2_with fail
        refine bodyPost_ret (v := .agg #[.slice A 1 c, .int .i64 0, .int .i64 0]) (by simp [results, Tryd.results27, go_sem, rl, r0, r1, r2]) rfl ?_
        refine ⟨_, rfl, ?_, ((HB5.out.setCell (by have := HS.out; simp; omega) _).setCell (by have := HS.out; simp; omega) _).setCell (by have := HS.out; simp; omega) _⟩
        rw [HDE.out]
        exact own_set3 HO.out HR5.out
      | true =>
        by_cases hl : wl = l0
        · subst hl
          have HDE0 := Lib.hid (show deed n = spreadS m from by
            show deedS (snd n) = _
            rw [HM.out, deedS, if_pos HWET.out, if_neg (by rw [HWT.out]; simp), if_neg (by rw [HWT.out, HSS.out]; simp)])
          have p0 : w4.cell? ⟨s, 12, none⟩ = some (.int .u8 (k5 : Int)) := by
            have q := H4.out.cell (g_sk n (d := 5) (by omega))
            rw [HC5.out] at q
            exact q
          have p1 : w4.cell? ⟨s, 13, none⟩ = some (.int .u8 (l5 : Int)) := by
            have q := H4.out.cell (g_sl n (d := 5) (by omega))
            rw [HC5.out] at q
            exact q
          have HM5 := Lib.hid (show m.sd 5 = sure (k5, l5) from by rw [← HM.out, ← HC5.out]; rfl)
          cases hk : soak (sure (k5, l5)) with
          | true =>
            have HDE := Lib.hid (show deed n = [] ++ [(6, (13, 1))] from by rw [HDE0.out, spreadS, if_pos (by rw [HM5.out]; exact hk)]; rfl)
            go_wp2_with fail
            refine (rsoaks_c hk).mono ?_
            rintro e w5 ⟨rfl, hb⟩
            have HB5 := Lib.hid (below_t HB4.out hb)
            have H5 := Lib.hid (H4.out.below hb)
            have HR5 := Lib.hid (HR4.out.below hb)
            have HD5 := Lib.hid (HD4.out.below hb)
            clear hb
            clear hk p0 p1
            have d0 := HD5.out.cell (i := 0) rfl
            have d1 := HD5.out.cell (i := 1) rfl
            have d2 := HD5.out.cell (i := 2) rfl
            go_wp2_with fail
            refine (rput_c (d := 6) (k := 13) (m := 1) (l := []) (B := w.heap.size) (Own.nil _ _ _ _) rfl (by omega) HB5.out.size).mono ?_
            rintro e w6 hp
            obtain ⟨v', rfl, ho, hb⟩ := hp.nil
            obtain ⟨A, c, rfl, _, _, _⟩ := ho.form (n := 1) rfl
            have HO := Lib.hid ho
            have HB6 := Lib.hid (below_t HB5.out hb)
            have HR6 := Lib.hid (HR5.out.below hb)
            clear hb hp ho d0 d1 d2
            have r0 := HR6.out.cell (i := 0) rfl
            have z0 := HR6.out.frozen 0
            have r1 := HR6.out.cell (i := 1) rfl
            have z1 := HR6.out.frozen 1
            have r2 := HR6.out.cell (i := 2) rfl
            have z2 := HR6.out.frozen 2
            have rl := HR6.out.lt
            go_wp2_with fail
            refine bodyPost_ret (v := .agg #[.slice A 1 c, .int .i64 0, .int .i64 0]) (by simp [results, Tryd.results27, go_sem, rl, r0, r1, r2]) rfl ?_
            refine ⟨_, rfl, ?_, ((HB6.out.setCell (by have := HS.out; simp; omega) _).setCell (by have := HS.out; simp; omega) _).setCell (by have := HS.out; simp; omega) _⟩
            rw [HDE.out]
            exact own_set3 HO.out HR6.out
          | false =>
            have HK5 := Lib.hid hk
            go_wp2_with fail
            refine (rsoaks_c hk).mono ?_
            rintro e w5 ⟨rfl, hb⟩
            have HB5 := Lib.hid (below_t HB4.out hb)
            have H5 := Lib.hid (H4.out.below hb)
            have HR5 := Lib.hid (HR4.out.below hb)
            have HD5 := Lib.hid (HD4.out.below hb)
            clear hb
            clear hk p0 p1
            have p0 : w5.cell? ⟨s, 12, none⟩ = some (.int .u8 (k5 : Int)) := by
              have q := H5.out.cell (g_sk n (d := 5) (by omega))
              rw [HC5.out] at q
              exact q
            have p1 : w5.cell? ⟨s, 13, none⟩ = some (.int .u8 (l5 : Int)) := by
              have q := H5.out.cell (g_sl n (d := 5) (by omega))
              rw [HC5.out] at q
              exact q
            cases hws : wet (sure (k5, l5)) with
            | true =>
              have HDE := Lib.hid (show deed n = [] from by rw [HDE0.out, spreadS, if_neg (by rw [HM5.out, HK5.out]; simp), if_pos (by rw [HM5.out, hws]; rfl)])
              go_wp2_with fail
              refine (rwet_c hws).mono ?_
              rintro e w6 ⟨rfl, hb⟩
              have HB6 := Lib.hid (below_t HB5.out hb)
              have H6 := Lib.hid (H5.out.below hb)
              have HR6 := Lib.hid (HR5.out.below hb)
              have HD6 := Lib.hid (HD5.out.below hb)
              clear hb
              clear hws p0 p1
              have d0 := HD6.out.cell (i := 0) rfl
              have d1 := HD6.out.cell (i := 1) rfl
              have d2 := HD6.out.cell (i := 2) rfl
              have r0 := HR6.out.cell (i := 0) rfl
              have z0 := HR6.out.frozen 0
              have r1 := HR6.out.cell (i := 1) rfl
              have z1 := HR6.out.frozen 1
              have r2 := HR6.out.cell (i := 2) rfl
              have z2 := HR6.out.frozen 2
              have rl := HR6.out.lt
              go_wp2_with fail
              refine bodyPost_ret (v := .agg #[.slice none 0 0, .int .i64 0, .int .i64 0]) (by simp [results, Tryd.results27, go_sem, rl, r0, r1, r2]) rfl ?_
              refine ⟨_, rfl, ?_, ((HB6.out.setCell (by have := HS.out; simp; omega) _).setCell (by have := HS.out; simp; omega) _).setCell (by have := HS.out; simp; omega) _⟩
              rw [HDE.out]
              exact Own.nil _ _ _ _
            | false =>
              by_cases h7 : wl = 7
              · subst h7
                have HDE := Lib.hid (show deed n = [] from by rw [HDE0.out, spreadS, if_neg (by rw [HM5.out, HK5.out]; simp), if_pos (by rw [HSS.out]; simp)])
                go_wp2_with fail
                refine (rwet_c hws).mono ?_
                rintro e w6 ⟨rfl, hb⟩
                have HB6 := Lib.hid (below_t HB5.out hb)
                have H6 := Lib.hid (H5.out.below hb)
                have HR6 := Lib.hid (HR5.out.below hb)
                have HD6 := Lib.hid (HD5.out.below hb)
                clear hb
                clear hws p0 p1
                have d0 := HD6.out.cell (i := 0) rfl
                have d1 := HD6.out.cell (i := 1) rfl
                have d2 := HD6.out.cell (i := 2) rfl
                have r0 := HR6.out.cell (i := 0) rfl
                have z0 := HR6.out.frozen 0
                have r1 := HR6.out.cell (i := 1) rfl
                have z1 := HR6.out.frozen 1
                have r2 := HR6.out.cell (i := 2) rfl
                have z2 := HR6.out.frozen 2
                have rl := HR6.out.lt
                go_wp2_with fail
                refine bodyPost_ret (v := .agg #[.slice none 0 0, .int .i64 0, .int .i64 0]) (by simp [results, Tryd.results27, go_sem, rl, r0, r1, r2]) rfl ?_
                refine ⟨_, rfl, ?_, ((HB6.out.setCell (by have := HS.out; simp; omega) _).setCell (by have := HS.out; simp; omega) _).setCell (by have := HS.out; simp; omega) _⟩
                rw [HDE.out]
                exact Own.nil _ _ _ _
              · have h7I : ((wl : Int) == 7) = false := by simp; omega
                have HDE := Lib.hid (show deed n = goes m 4 from by rw [HDE0.out, spreadS, if_neg (by rw [HM5.out, HK5.out]; simp), if_neg (by rw [HM5.out, hws, HSS.out]; have := HL7.out; simp; omega)])
                go_wp2_with fail
                refine (rwet_c hws).mono ?_
                rintro e w6 ⟨rfl, hb⟩
                have HB6 := Lib.hid (below_t HB5.out hb)
                have H6 := Lib.hid (H5.out.below hb)
                have HR6 := Lib.hid (HR5.out.below hb)
                have HD6 := Lib.hid (HD5.out.below hb)
                clear hb
                clear hws p0 p1
                go_wp2_with fail
                go_loopw [7] (fun v7 wr => ∃ (j q : Nat) (A : Option Addr) (c : Nat), v7 = .int .i64 (j : Nat) ∧ j ≤ 4 ∧ (goes m j).length = q ∧ Blk wr s TN (vals n) ∧ Blk wr (s + 1) TD [.slice none 0 0, .int .i64 0, .int .i64 0] ∧ Blk wr (s + 2) TD [.slice A q c, .int .i64 0, .int .i64 0] ∧ RowG.Own encX TX wr w.heap.size (.slice A q c) (goes m j) ∧ Below w.heap.size w wr) (fun v _ => 4 - (intOf v).toNat)
                case atStart => exact ⟨0, 0, none, 0, rfl, by omega, rfl, H6.out, HR6.out, HD6.out, Own.nil _ _ _ _, HB6.out⟩
                case round =>
                  obtain ⟨j, q, A, c, rfl, hj, hq, hr, hrr, hdd, hoo, hbr⟩ := hrel
                  have Hr := Lib.hid hr
                  have HRr := Lib.hid hrr
                  have HDr := Lib.hid hdd
                  have HOr := Lib.hid hoo
                  have HBr := Lib.hid hbr
                  have HQ := Lib.hid hq
                  have HQ4 := Lib.hid (show q ≤ 4 from by rw [← hq]; exact Nat.le_trans (goes_len m j) hj)
                  by_cases hjl : j < 4
                  · have hjI : (j : Int) < 4 := by omega
                    have hj6I : (j : Int) < 6 := by omega
                    have HWR := Lib.hid (show wrap64 ((j : Int) + 1) = ((j + 1 : Nat) : Int) by rw [wr64 (by omega) (by omega)]; omega)
                    have hwl7 : (wl : Int) < 7 := by have := HL7.out; omega
                    obtain ⟨⟨k1, l1⟩, hc1⟩ : ∃ c, n.sd j = c := ⟨_, rfl⟩
                    have HM1 := Lib.hid (show m.sd j = sure (k1, l1) from by rw [← HM.out, ← hc1]; rfl)
                    have p0 := hr.cell (g_sk n (d := j) (by omega))
                    have p1 := hr.cell (g_sl n (d := j) (by omega))
                    rw [hc1] at p0 p1
                    clear hr hrr hdd hoo hbr hq hc1
                    cases hk : soak (sure (k1, l1)) with
                    | true =>
                      have HGO := Lib.hid (goes_step m (j := j) (by rw [HM1.out]; exact hk))
                      go_wp2_with fail
                      refine (rsoaks_c hk).mono ?_
                      rintro e y1 ⟨rfl, hb⟩
                      have H7 := Lib.hid (Hr.out.below hb)
                      have HR7 := Lib.hid (HRr.out.below hb)
                      have HD7 := Lib.hid (HDr.out.below hb)
                      have HO7 := Lib.hid (HOr.out.below hb)
                      have HB7 := Lib.hid (below_t HBr.out hb)
                      have d0 := HD7.out.cell (i := 0) rfl
                      have d1 := HD7.out.cell (i := 1) rfl
                      have d2 := HD7.out.cell (i := 2) rfl
                      clear hb hk p0 p1
                      go_wp2_with fail
                      have hp := rput_c (d := 1 + j) (k := 13) (m := wl + 1) HO7.out HQ.out (by have := HQ4.out; omega) HB7.out.size
                      rw [show ((1 + j : Nat) : Int) = 1 + (j : Int) by omega, show ((wl + 1 : Nat) : Int) = (wl : Int) + 1 by omega] at hp
                      refine hp.mono ?_
                      clear hp
                      rintro e y2 ⟨v', rfl, ho2, hf2⟩
                      obtain ⟨A', c', rfl, _, _, _⟩ := ho2.form (n := q + 1) (by rw [List.length_append, HQ.out]; rfl)
                      have HO8 := Lib.hid ho2
                      have H8 := Lib.hid (hf2.blk H7.out (own_ne HO7.out H7.out (by decide)))
                      have HR8 := Lib.hid (hf2.blk HR7.out (own_ne HO7.out HR7.out (by decide)))
                      have HD8 := Lib.hid (hf2.blk HD7.out (own_ne HO7.out HD7.out (by decide)))
                      have HB8 := Lib.hid (HB7.out.trans (hf2.toBelow HB7.out.size (fun i hi => (HO7.out.ge i hi).1)))
                      have d0 := HD8.out.cell (i := 0) rfl
                      have d1 := HD8.out.cell (i := 1) rfl
                      have d2 := HD8.out.cell (i := 2) rfl
                      have z0 := HD8.out.frozen 0
                      have z1 := HD8.out.frozen 1
                      have z2 := HD8.out.frozen 2
                      clear ho2 hf2
                      go_wp2_with fail
                      go_roundw
                      case rel =>
                        refine ⟨j + 1, q + 1, A', c', by first | rfl | rw [HWR.out] | (congr 1; omega), by omega, by rw [HGO.out, List.length_append, HQ.out]; rfl, ?_, ?_, ?_, ?_, ?_⟩
                        · exact ((H8.out.other (by simp; omega) _).other (by simp; omega) _).other (by simp; omega) _
                        · exact ((HR8.out.other (by simp) _).other (by simp) _).other (by simp) _
                        · exact ((HD8.out.set 0 _).set 1 _).set 2 _
                        · rw [HGO.out, HSS.out]
                          exact own_set3 HO8.out HD8.out
                        · exact ((HB8.out.setCell (by have := HS.out; simp; omega) _).setCell (by have := HS.out; simp; omega) _).setCell (by have := HS.out; simp; omega) _
                      case measure =>
                        simp only [intOf]
                        omega
                    | false =>
                      have HGO := Lib.hid (goes_skip m (j := j) (by rw [HM1.out]; exact hk))
                      go_wp2_with fail
                      refine (rsoaks_c hk).mono ?_
                      rintro e y1 ⟨rfl, hb⟩
                      have H7 := Lib.hid (Hr.out.below hb)
                      have HR7 := Lib.hid (HRr.out.below hb)
                      have HD7 := Lib.hid (HDr.out.below hb)
                      have HO7 := Lib.hid (HOr.out.below hb)
                      have HB7 := Lib.hid (below_t HBr.out hb)
                      clear hb hk p0 p1
                      go_wp2_with fail
                      go_roundw
                      case rel => exact ⟨j + 1, q, A, c, by first | rfl | rw [HWR.out] | (congr 1; omega), by omega, by rw [HGO.out]; exact HQ.out, H7.out, HR7.out, HD7.out, by rw [HGO.out]; exact HO7.out, HB7.out⟩
                      case measure =>
                        simp only [intOf]
                        omega
                  · have hje : j = 4 := by omega
                    have hjI : ¬ (j : Int) < 4 := by omega
                    subst hje
                    clear hr hrr hdd hoo hbr hq
                    have HD7 := HDr
                    have HR7 := HRr
                    have HB7 := HBr
                    have d0 := HD7.out.cell (i := 0) rfl
                    have d1 := HD7.out.cell (i := 1) rfl
                    have d2 := HD7.out.cell (i := 2) rfl
                    have r0 := HR7.out.cell (i := 0) rfl
                    have z0 := HR7.out.frozen 0
                    have r1 := HR7.out.cell (i := 1) rfl
                    have z1 := HR7.out.frozen 1
                    have r2 := HR7.out.cell (i := 2) rfl
                    have z2 := HR7.out.frozen 2
                    have rl := HR7.out.lt
                    go_wp2_with fail
                    refine bodyPost_ret (v := .agg #[.slice A q c, .int .i64 0, .int .i64 0]) (by simp [results, Tryd.results27, go_sem, rl, r0, r1, r2]) rfl ?_
                    refine ⟨_, rfl, ?_, ((HB7.out.setCell (by have := HS.out; simp; omega) _).setCell (by have := HS.out; simp; omega) _).setCell (by have := HS.out; simp; omega) _⟩
                    rw [HDE.out]
                    exact own_set3 HOr.out HR7.out
        · have hlI : ((wl : Int) != (l0 : Int)) = true := by
            rw [bne_iff_ne]
            omega
          have HDE := Lib.hid (show deed n = [] ++ [(0, (13, wl))] from by
            show deedS (snd n) = _
            rw [HM.out, deedS, if_pos HWET.out, if_neg (by rw [HWT.out]; simp), if_pos ⟨by rw [HSS.out]; exact h0, by rw [HWT.out, HSS.out]; exact fun e => hl e.symm⟩, HWT.out]
            rfl)
          have d0 := HD4.out.cell (i := 0) rfl
          have d1 := HD4.out.cell (i := 1) rfl
          have d2 := HD4.out.cell (i := 2) rfl
          go_wp2_with fail
          refine (rput_c (d := 0) (k := 13) (m := wl) (l := []) (B := w.heap.size) (Own.nil _ _ _ _) rfl (by omega) HB4.out.size).mono ?_
          rintro e w5 hp
          obtain ⟨v', rfl, ho, hb⟩ := hp.nil
          obtain ⟨A, c, rfl, _, _, _⟩ := ho.form (n := 1) rfl
          have HO := Lib.hid ho
          have HB5 := Lib.hid (below_t HB4.out hb)
          have HR5 := Lib.hid (HR4.out.below hb)
          clear hb hp ho d0 d1 d2
          have r0 := HR5.out.cell (i := 0) rfl
          have z0 := HR5.out.frozen 0
          have r1 := HR5.out.cell (i := 1) rfl
          have z1 := HR5.out.frozen 1
          have r2 := HR5.out.cell (i := 2) rfl
          have z2 := HR5.out.frozen 2
          have rl := HR5.out.lt
          go_wp2_with fail
          refine bodyPost_ret (v := .agg #[.slice A 1 c, .int .i64 0, .int .i64 0]) (by simp [results, Tryd.results27, go_sem, rl, r0, r1, r2]) rfl ?_
          refine ⟨_, rfl, ?_, ((HB5.out.setCell (by have := HS.out; simp; omega) _).setCell (by have := HS.out; simp; omega) _).setCell (by have := HS.out; simp; omega) _⟩
          rw [HDE.out]
          exact own_set3 HO.out HR5.out
    · have h0I : ¬ (0 : Int) < (l0 : Int) := by omega
      have HDE0 := Lib.hid (show deed n = spreadS m from by
        show deedS (snd n) = _
        rw [HM.out, deedS, if_pos HWET.out, if_neg (fun q => by rw [HSS.out] at q; exact h0 q.1), if_neg (fun q => by rw [HSS.out] at q; exact h0 q.1)])
      have p0 : w4.cell? ⟨s, 12, none⟩ = some (.int .u8 (k5 : Int)) := by
        have q := H4.out.cell (g_sk n (d := 5) (by omega))
        rw [HC5.out] at q
        exact q
      have p1 : w4.cell? ⟨s, 13, none⟩ = some (.int .u8 (l5 : Int)) := by
        have q := H4.out.cell (g_sl n (d := 5) (by omega))
        rw [HC5.out] at q
        exact q
      have HM5 := Lib.hid (show m.sd 5 = sure (k5, l5) from by rw [← HM.out, ← HC5.out]; rfl)
      cases hk : soak (sure (k5, l5)) with
      | true =>
        have HDE := Lib.hid (show deed n = [] ++ [(6, (13, 1))] from by rw [HDE0.out, spreadS, if_pos (by rw [HM5.out]; exact hk)]; rfl)
        go_wp2_with fail
        refine (rsoaks_c hk).mono ?_
        rintro e w5 ⟨rfl, hb⟩
        have HB5 := Lib.hid (below_t HB4.out hb)
        have H5 := Lib.hid (H4.out.below hb)
        have HR5 := Lib.hid (HR4.out.below hb)
        have HD5 := Lib.hid (HD4.out.below hb)
        clear hb
        clear hk p0 p1
        have d0 := HD5.out.cell (i := 0) rfl
        have d1 := HD5.out.cell (i := 1) rfl
        have d2 := HD5.out.cell (i := 2) rfl
        go_wp2_with fail
        refine (rput_c (d := 6) (k := 13) (m := 1) (l := []) (B := w.heap.size) (Own.nil _ _ _ _) rfl (by omega) HB5.out.size).mono ?_
        rintro e w6 hp
        obtain ⟨v', rfl, ho, hb⟩ := hp.nil
        obtain ⟨A, c, rfl, _, _, _⟩ := ho.form (n := 1) rfl
        have HO := Lib.hid ho
        have HB6 := Lib.hid (below_t HB5.out hb)
        have HR6 := Lib.hid (HR5.out.below hb)
        clear hb hp ho d0 d1 d2
        have r0 := HR6.out.cell (i := 0) rfl
        have z0 := HR6.out.frozen 0
        have r1 := HR6.out.cell (i := 1) rfl
        have z1 := HR6.out.frozen 1
        have r2 := HR6.out.cell (i := 2) rfl
        have z2 := HR6.out.frozen 2
        have rl := HR6.out.lt
        go_wp2_with fail
        refine bodyPost_ret (v := .agg #[.slice A 1 c, .int .i64 0, .int .i64 0]) (by simp [results, Tryd.results27, go_sem, rl, r0, r1, r2]) rfl ?_
        refine ⟨_, rfl, ?_, ((HB6.out.setCell (by have := HS.out; simp; omega) _).setCell (by have := HS.out; simp; omega) _).setCell (by have := HS.out; simp; omega) _⟩
        rw [HDE.out]
        exact own_set3 HO.out HR6.out
      | false =>
        have HK5 := Lib.hid hk
        go_wp2_with fail
        refine (rsoaks_c hk).mono ?_
        rintro e w5 ⟨rfl, hb⟩
        have HB5 := Lib.hid (below_t HB4.out hb)
        have H5 := Lib.hid (H4.out.below hb)
        have HR5 := Lib.hid (HR4.out.below hb)
        have HD5 := Lib.hid (HD4.out.below hb)
        clear hb
        clear hk p0 p1
        have p0 : w5.cell? ⟨s, 12, none⟩ = some (.int .u8 (k5 : Int)) := by
          have q := H5.out.cell (g_sk n (d := 5) (by omega))
          rw [HC5.out] at q
          exact q
        have p1 : w5.cell? ⟨s, 13, none⟩ = some (.int .u8 (l5 : Int)) := by
          have q := H5.out.cell (g_sl n (d := 5) (by omega))
          rw [HC5.out] at q
          exact q
        cases hws : wet (sure (k5, l5)) with
        | true =>
          have HDE := Lib.hid (show deed n = [] from by rw [HDE0.out, spreadS, if_neg (by rw [HM5.out, HK5.out]; simp), if_pos (by rw [HM5.out, hws]; rfl)])
          go_wp2_with fail
          refine (rwet_c hws).mono ?_
          rintro e w6 ⟨rfl, hb⟩
          have HB6 := Lib.hid (below_t HB5.out hb)
          have H6 := Lib.hid (H5.out.below hb)
          have HR6 := Lib.hid (HR5.out.below hb)
          have HD6 := Lib.hid (HD5.out.below hb)
          clear hb
          clear hws p0 p1
          have d0 := HD6.out.cell (i := 0) rfl
          have d1 := HD6.out.cell (i := 1) rfl
          have d2 := HD6.out.cell (i := 2) rfl
          have r0 := HR6.out.cell (i := 0) rfl
          have z0 := HR6.out.frozen 0
          have r1 := HR6.out.cell (i := 1) rfl
          have z1 := HR6.out.frozen 1
          have r2 := HR6.out.cell (i := 2) rfl
          have z2 := HR6.out.frozen 2
          have rl := HR6.out.lt
          go_wp2_with fail
          refine bodyPost_ret (v := .agg #[.slice none 0 0, .int .i64 0, .int .i64 0]) (by simp [results, Tryd.results27, go_sem, rl, r0, r1, r2]) rfl ?_
          refine ⟨_, rfl, ?_, ((HB6.out.setCell (by have := HS.out; simp; omega) _).setCell (by have := HS.out; simp; omega) _).setCell (by have := HS.out; simp; omega) _⟩
          rw [HDE.out]
          exact Own.nil _ _ _ _
        | false =>
          by_cases h7 : l0 = 7
          · omega
          · have h7I : ((l0 : Int) == 7) = false := by simp; omega
            have HDE := Lib.hid (show deed n = goes m 4 from by rw [HDE0.out, spreadS, if_neg (by rw [HM5.out, HK5.out]; simp), if_neg (by rw [HM5.out, hws, HSS.out]; have := HL7.out; simp; omega)])
            go_wp2_with fail
            refine (rwet_c hws).mono ?_
            rintro e w6 ⟨rfl, hb⟩
            have HB6 := Lib.hid (below_t HB5.out hb)
            have H6 := Lib.hid (H5.out.below hb)
            have HR6 := Lib.hid (HR5.out.below hb)
            have HD6 := Lib.hid (HD5.out.below hb)
            clear hb
            clear hws p0 p1
            go_wp2_with fail
            go_loopw [7] (fun v7 wr => ∃ (j q : Nat) (A : Option Addr) (c : Nat), v7 = .int .i64 (j : Nat) ∧ j ≤ 4 ∧ (goes m j).length = q ∧ Blk wr s TN (vals n) ∧ Blk wr (s + 1) TD [.slice none 0 0, .int .i64 0, .int .i64 0] ∧ Blk wr (s + 2) TD [.slice A q c, .int .i64 0, .int .i64 0] ∧ RowG.Own encX TX wr w.heap.size (.slice A q c) (goes m j) ∧ Below w.heap.size w wr) (fun v _ => 4 - (intOf v).toNat)
            case atStart => exact ⟨0, 0, none, 0, rfl, by omega, rfl, H6.out, HR6.out, HD6.out, Own.nil _ _ _ _, HB6.out⟩
            case round =>
              obtain ⟨j, q, A, c, rfl, hj, hq, hr, hrr, hdd, hoo, hbr⟩ := hrel
              have Hr := Lib.hid hr
              have HRr := Lib.hid hrr
              have HDr := Lib.hid hdd
              have HOr := Lib.hid hoo
              have HBr := Lib.hid hbr
              have HQ := Lib.hid hq
              have HQ4 := Lib.hid (show q ≤ 4 from by rw [← hq]; exact Nat.le_trans (goes_len m j) hj)
              by_cases hjl : j < 4
              · have hjI : (j : Int) < 4 := by omega
                have hj6I : (j : Int) < 6 := by omega
                have HWR := Lib.hid (show wrap64 ((j : Int) + 1) = ((j + 1 : Nat) : Int) by rw [wr64 (by omega) (by omega)]; omega)
                have hl07 : (l0 : Int) < 7 := by have := HL7.out; omega
                obtain ⟨⟨k1, l1⟩, hc1⟩ : ∃ c, n.sd j = c := ⟨_, rfl⟩
                have HM1 := Lib.hid (show m.sd j = sure (k1, l1) from by rw [← HM.out, ← hc1]; rfl)
                have p0 := hr.cell (g_sk n (d := j) (by omega))
                have p1 := hr.cell (g_sl n (d := j) (by omega))
                rw [hc1] at p0 p1
                clear hr hrr hdd hoo hbr hq hc1
                cases hk : soak (sure (k1, l1)) with
                | true =>
                  have HGO := Lib.hid (goes_step m (j := j) (by rw [HM1.out]; exact hk))
                  go_wp2_with fail
                  refine (rsoaks_c hk).mono ?_
                  rintro e y1 ⟨rfl, hb⟩
                  have H7 := Lib.hid (Hr.out.below hb)
                  have HR7 := Lib.hid (HRr.out.below hb)
                  have HD7 := Lib.hid (HDr.out.below hb)
                  have HO7 := Lib.hid (HOr.out.below hb)
                  have HB7 := Lib.hid (below_t HBr.out hb)
                  have d0 := HD7.out.cell (i := 0) rfl
                  have d1 := HD7.out.cell (i := 1) rfl
                  have d2 := HD7.out.cell (i := 2) rfl
                  clear hb hk p0 p1
                  go_wp2_with fail
                  have hp := rput_c (d := 1 + j) (k := 13) (m := l0 + 1) HO7.out HQ.out (by have := HQ4.out; omega) HB7.out.size
                  rw [show ((1 + j : Nat) : Int) = 1 + (j : Int) by omega, show ((l0 + 1 : Nat) : Int) = (l0 : Int) + 1 by omega] at hp
                  refine hp.mono ?_
                  clear hp
                  rintro e y2 ⟨v', rfl, ho2, hf2⟩
                  obtain ⟨A', c', rfl, _, _, _⟩ := ho2.form (n := q + 1) (by rw [List.length_append, HQ.out]; rfl)
                  have HO8 := Lib.hid ho2
                  have H8 := Lib.hid (hf2.blk H7.out (own_ne HO7.out H7.out (by decide)))
                  have HR8 := Lib.hid (hf2.blk HR7.out (own_ne HO7.out HR7.out (by decide)))
                  have HD8 := Lib.hid (hf2.blk HD7.out (own_ne HO7.out HD7.out (by decide)))
                  have HB8 := Lib.hid (HB7.out.trans (hf2.toBelow HB7.out.size (fun i hi => (HO7.out.ge i hi).1)))
                  have d0 := HD8.out.cell (i := 0) rfl
                  have d1 := HD8.out.cell (i := 1) rfl
                  have d2 := HD8.out.cell (i := 2) rfl
                  have z0 := HD8.out.frozen 0
                  have z1 := HD8.out.frozen 1
                  have z2 := HD8.out.frozen 2
                  clear ho2 hf2
                  go_wp2_with fail
                  go_roundw
                  case rel =>
                    refine ⟨j + 1, q + 1, A', c', by first | rfl | rw [HWR.out] | (congr 1; omega), by omega, by rw [HGO.out, List.length_append, HQ.out]; rfl, ?_, ?_, ?_, ?_, ?_⟩
                    · exact ((H8.out.other (by simp; omega) _).other (by simp; omega) _).other (by simp; omega) _
                    · exact ((HR8.out.other (by simp) _).other (by simp) _).other (by simp) _
                    · exact ((HD8.out.set 0 _).set 1 _).set 2 _
                    · rw [HGO.out, HSS.out]
                      exact own_set3 HO8.out HD8.out
                    · exact ((HB8.out.setCell (by have := HS.out; simp; omega) _).setCell (by have := HS.out; simp; omega) _).setCell (by have := HS.out; simp; omega) _
                  case measure =>
                    simp only [intOf]
                    omega
                | false =>
                  have HGO := Lib.hid (goes_skip m (j := j) (by rw [HM1.out]; exact hk))
                  go_wp2_with fail
                  refine (rsoaks_c hk).mono ?_
                  rintro e y1 ⟨rfl, hb⟩
                  have H7 := Lib.hid (Hr.out.below hb)
                  have HR7 := Lib.hid (HRr.out.below hb)
                  have HD7 := Lib.hid (HDr.out.below hb)
                  have HO7 := Lib.hid (HOr.out.below hb)
                  have HB7 := Lib.hid (below_t HBr.out hb)
                  clear hb hk p0 p1
                  go_wp2_with fail
                  go_roundw
                  case rel => exact ⟨j + 1, q, A, c, by first | rfl | rw [HWR.out] | (congr 1; omega), by omega, by rw [HGO.out]; exact HQ.out, H7.out, HR7.out, HD7.out, by rw [HGO.out]; exact HO7.out, HB7.out⟩
                  case measure =>
                    simp only [intOf]
                    omega
              · have hje : j = 4 := by omega
                have hjI : ¬ (j : Int) < 4 := by omega
                subst hje
                clear hr hrr hdd hoo hbr hq
                have HD7 := HDr
                have HR7 := HRr
                have HB7 := HBr
                have d0 := HD7.out.cell (i := 0) rfl
                have d1 := HD7.out.cell (i := 1) rfl
                have d2 := HD7.out.cell (i := 2) rfl
                have r0 := HR7.out.cell (i := 0) rfl
                have z0 := HR7.out.frozen 0
                have r1 := HR7.out.cell (i := 1) rfl
                have z1 := HR7.out.frozen 1
                have r2 := HR7.out.cell (i := 2) rfl
                have z2 := HR7.out.frozen 2
                have rl := HR7.out.lt
                go_wp2_with fail
                refine bodyPost_ret (v := .agg #[.slice A q c, .int .i64 0, .int .i64 0]) (by simp [results, Tryd.results27, go_sem, rl, r0, r1, r2]) rfl ?_
                refine ⟨_, rfl, ?_, ((HB7.out.setCell (by have := HS.out; simp; omega) _).setCell (by have := HS.out; simp; omega) _).setCell (by have := HS.out; simp; omega) _⟩
                rw [HDE.out]
                exact own_set3 HOr.out HR7.out
end FlowW
end Go.Proofs.YtlahkmkipciiiaaDoor
