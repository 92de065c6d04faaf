/-
  Next: what the cell does.
-/
import Derived.Test.YtlahkmkipciiiaaDoorFlowNext
namespace Go.Proofs.YtlahkmkipciiiaaDoor
open Go.RowKit
set_option linter.unusedVariables false
set_option linter.unusedSimpArgs false
namespace FlowW
open BlkP RowG FrS PushG FlowP
theorem own_setD {w : World} {B R i : Nat} {v x : Value} {l : List (Nat × Cl)} {us : List Value} (h : RowG.Own encX TX w B v l) (hb : Blk w R TD us) : RowG.Own encX TX (w.setCell ⟨R, i, none⟩ x) B v l := h.grown (grown_set w R i x) (.inr (own_ne h hb (by decide)))
/-- The answer is stored into its block. -/
theorem own_set3 {w : World} {B R : Nat} {v x y z : Value} {l : List (Nat × Cl)} {us : List Value} (h : RowG.Own encX TX w B v l) (hb : Blk w R TD us) : RowG.Own encX TX (((w.setCell ⟨R, 0, none⟩ x).setCell ⟨R, 1, none⟩ y).setCell ⟨R, 2, none⟩ z) B v l :=
  own_setD (own_setD (own_setD h hb) (hb.set 0 x)) ((hb.set 0 x).set 1 y)
set_option maxRecDepth 100000 in
set_option maxHeartbeats 16000000 in
theorem Next_c {w : World} {n : Nr} (hT : KindW.Tab w) : Calls Tryd.prog 21 #[nv n] w (DeedP w (deed n)) := by
  have HT := Lib.hid hT
  have htl := hT.size
  clear hT
  obtain ⟨m, hm⟩ : ∃ m, snd n = m := ⟨_, rfl⟩
  have HM := Lib.hid hm
  obtain ⟨⟨k, l0⟩, hms⟩ : ∃ c, m.s = c := ⟨_, rfl⟩
  have HMS := Lib.hid hms
  go_enter Tryd.func21, Tryd.ntmps21
  go_wp2_with ((with_reducible refine at_slot 1 ?_); refine Classical.byContradiction (fun hG => ?_))
  refine hG ?_
  clear hG
  refine wp_boxN rfl (.tmp 0) rfl rfl ?_
  intro w1 h1 hb1 hz1
  go_wp2_with ((with_reducible refine at_slot 8 ?_); refine Classical.byContradiction (fun hG => ?_))
  refine hG ?_
  clear hG
  obtain ⟨s, hs⟩ : ∃ s, w.heap.size = s := ⟨_, rfl⟩
  refine list_named (S := fun W => Below w.heap.size w W ∧ Blk W s TN (vals n) ∧ Blk W (s + 1) TD [.slice none 0 0, .int .i64 0, .int .i64 0] ∧ W.heap.size = s + 2) ⟨by (repeat' (first | (with_reducible exact Below.refl _ _) | (with_reducible refine Below.setCell ?_ (by (first | omega | (simp; done) | (simp; omega))) _) | (with_reducible refine Below.alloc ?_ (by (first | omega | (simp; done) | (simp; omega))) _) | (with_reducible refine Below.drew ?_) | (with_reducible refine below_drewN ?_ _) | (with_reducible refine Below.trans ?_ (Below.mono hb1 (by (first | omega | (simp; done) | (simp; omega))))))), by subst hs; (repeat' (first | (with_reducible exact h1) | (with_reducible refine BlkP.Blk.drew ?_) | (with_reducible refine BlkP.Blk.drewN ?_ _) | (with_reducible refine BlkP.Blk.setAt (us := ?_) (by first | omega | (simp; done) | (simp; omega)) rfl ?_ ?_) | (with_reducible refine BlkP.Blk.otherAt ?_ (by first | omega | (simp; done) | (simp; omega))) | (with_reducible refine BlkP.Blk.newA' (by first | omega | (simp; done) | (simp; omega)) rfl) | (with_reducible refine BlkP.Blk.alloc ?_ _) | (exact rfl))), by subst hs; (repeat' (first | (with_reducible refine BlkP.Blk.drew ?_) | (with_reducible refine BlkP.Blk.drewN ?_ _) | (with_reducible refine BlkP.Blk.setAt (us := ?_) (by first | omega | (simp; done) | (simp; omega)) rfl ?_ ?_) | (with_reducible refine BlkP.Blk.otherAt ?_ (by first | omega | (simp; done) | (simp; omega))) | (with_reducible refine BlkP.Blk.newA' (by first | omega | (simp; done) | (simp; omega)) rfl) | (with_reducible refine BlkP.Blk.alloc ?_ _) | (exact rfl))), by simp; omega⟩ ?_
  rintro w2 ⟨hb2, h2, hr2, hz2⟩
  rw [hs]
  have HS := Lib.hid hs
  have HB2 := Lib.hid hb2
  have H2 := Lib.hid h2
  have HR2 := Lib.hid hr2
  clear h1 hb1 hz1 hb2 h2 hr2
  refine wp_loadN rfl (.tmp 1) rfl rfl (n := n) H2.out ?_
  go_wp2_with fail
  refine (sound_c (HT.out.below HB2.out)).mono ?_
  rintro e w3 ⟨rfl, hb3⟩
  rw [hm]
  have HB3 := Lib.hid (below_t HB2.out hb3)
  have H3 := Lib.hid (H2.out.below hb3)
  have HR3 := Lib.hid (HR2.out.below hb3)
  have HZ3 := Lib.hid (show s + 2 ≤ w3.heap.size from by rw [← hz2]; exact hb3.size)
  clear hb3 hm hz2
  go_wp2_with ((with_reducible refine at_storeN ?_); refine Classical.byContradiction (fun hG => ?_))
  refine hG ?_
  clear hG
  refine wp_storeN rfl (.tmp 1) (.tmp 9) rfl rfl rfl H3.out rfl ?_
  intro w4 h4 hg4 hz4
  obtain ⟨D, hD⟩ : ∃ D, w4.heap.size = D := ⟨_, rfl⟩
  have HD := Lib.hid hD
  have HDZ := Lib.hid (show s + 2 ≤ D ∧ tabB < s from ⟨by rw [← hD, hz4]; exact HZ3.out, by rw [← hs]; exact htl⟩)
  have HB4 := Lib.hid (show Below w.heap.size w w4 from HB3.out.grown hg4 (by have := HZ3.out; omega) (fun k hk => by injection hk with hk; omega))
  have H4 := Lib.hid h4
  have HR4 := Lib.hid (show Blk w4 (s + 1) TD [.slice none 0 0, .int .i64 0, .int .i64 0] from HR3.out.grown hg4 (by simp))
  have c0 := h4.cell (i := 0) (g_kind m)
  have c1 := h4.cell (i := 1) (g_lev m)
  rw [hms] at c0 c1
  have hs1 : s < D := by have := HDZ.out; omega
  have hs2 : s < w4.heap.size := by have := HDZ.out; omega
  have hs3 : s ≠ D := by omega
  clear h4 hg4 hz4 hms
  cases hw : wet (k, l0) with
  | false =>
    have HDE := Lib.hid (show deed n = [] from by
      show deedS (snd n) = []
      rw [HM.out]
      simp [deedS, HMS.out, hw])
    go_wp2_with fail
    refine (isWater_c hw).mono ?_
    rintro e w5 ⟨rfl, hb5⟩
    have HB5 := Lib.hid (show Below w.heap.size w w5 by (repeat' (first | (with_reducible exact Below.refl _ _) | (with_reducible refine Below.setCell ?_ (by (first | omega | (simp; done) | (simp; omega))) _) | (with_reducible refine Below.alloc ?_ (by (first | omega | (simp; done) | (simp; omega))) _) | (with_reducible refine Below.drew ?_) | (with_reducible refine below_drewN ?_ _) | (with_reducible refine Below.trans ?_ (Below.mono HB4.out (by (first | omega | (simp; done) | (simp; omega))))) | (with_reducible refine Below.trans ?_ (Below.mono hb5 (by (first | omega | (simp; done) | (simp; omega))))))))
    have HD5 := Lib.hid (show Blk w5 D TD [.slice none 0 0, .int .i64 0, .int .i64 0] from Blk.below (by (repeat' (first | (with_reducible refine BlkP.Blk.drew ?_) | (with_reducible refine BlkP.Blk.drewN ?_ _) | (with_reducible refine BlkP.Blk.setAt (us := ?_) (by first | omega | (simp; done) | (simp; omega)) rfl ?_ ?_) | (with_reducible refine BlkP.Blk.otherAt ?_ (by first | omega | (simp; done) | (simp; omega))) | (with_reducible refine BlkP.Blk.newA' (by first | omega | (simp; done) | (simp; omega)) rfl) | (with_reducible refine BlkP.Blk.alloc ?_ _) | (exact rfl)))) hb5)
    have HR5 := Lib.hid (show Blk w5 (s + 1) TD [.slice none 0 0, .int .i64 0, .int .i64 0] from Blk.below (by (repeat' (first | (with_reducible exact HR4.out) | (with_reducible refine BlkP.Blk.drew ?_) | (with_reducible refine BlkP.Blk.drewN ?_ _) | (with_reducible refine BlkP.Blk.setAt (us := ?_) (by first | omega | (simp; done) | (simp; omega)) rfl ?_ ?_) | (with_reducible refine BlkP.Blk.otherAt ?_ (by first | omega | (simp; done) | (simp; omega))) | (with_reducible refine BlkP.Blk.newA' (by first | omega | (simp; done) | (simp; omega)) rfl) | (with_reducible refine BlkP.Blk.alloc ?_ _) | (exact rfl)))) hb5)
    clear hb5 hw c0 c1 hD
    have d0 := HD5.out.cell (i := 0) rfl
    have d1 := HD5.out.cell (i := 1) rfl
    have d2 := HD5.out.cell (i := 2) rfl
    have r0 := HR5.out.cell (i := 0) rfl
    have r1 := HR5.out.cell (i := 1) rfl
    have r2 := HR5.out.cell (i := 2) rfl
    have z0 := HR5.out.frozen 0
    have z1 := HR5.out.frozen 1
    have z2 := HR5.out.frozen 2
    have rl := HR5.out.lt
    go_wp2_with fail
    refine bodyPost_ret (v := .agg #[.slice none 0 0, .int .i64 0, .int .i64 0]) (by simp [results, Tryd.results21, go_sem, rl, r0, r1, r2]) rfl ?_
    refine ⟨_, rfl, ?_, ?_⟩
    · rw [HDE.out]
      exact Own.nil _ _ _ _
    · exact ((HB5.out.setCell (by simp; omega) _).setCell (by simp; omega) _).setCell (by simp; omega) _
  | true =>
    have HWET := Lib.hid (show wet m.s = true from by rw [HMS.out]; exact hw)
    have HL7 := Lib.hid (show l0 ≤ 7 from by
      have q := (wet_lev (c := n.s) (by
        have e : sure n.s = m.s := by rw [← HM.out]; rfl
        rw [e, HMS.out]
        exact hw)).1
      have e : sure n.s = m.s := by rw [← HM.out]; rfl
      rw [e, HMS.out] at q
      exact q)
    go_wp2_with fail
    refine (isWater_c hw).mono ?_
    rintro e w5 ⟨rfl, hb5⟩
    have HB5 := Lib.hid (show Below w.heap.size w w5 by (repeat' (first | (with_reducible exact Below.refl _ _) | (with_reducible refine Below.setCell ?_ (by (first | omega | (simp; done) | (simp; omega))) _) | (with_reducible refine Below.alloc ?_ (by (first | omega | (simp; done) | (simp; omega))) _) | (with_reducible refine Below.drew ?_) | (with_reducible refine below_drewN ?_ _) | (with_reducible refine Below.trans ?_ (Below.mono HB4.out (by (first | omega | (simp; done) | (simp; omega))))) | (with_reducible refine Below.trans ?_ (Below.mono hb5 (by (first | omega | (simp; done) | (simp; omega))))))))
    have HD5 := Lib.hid (show Blk w5 D TD [.slice none 0 0, .int .i64 0, .int .i64 0] from Blk.below (by (repeat' (first | (with_reducible refine BlkP.Blk.drew ?_) | (with_reducible refine BlkP.Blk.drewN ?_ _) | (with_reducible refine BlkP.Blk.setAt (us := ?_) (by first | omega | (simp; done) | (simp; omega)) rfl ?_ ?_) | (with_reducible refine BlkP.Blk.otherAt ?_ (by first | omega | (simp; done) | (simp; omega))) | (with_reducible refine BlkP.Blk.newA' (by first | omega | (simp; done) | (simp; omega)) rfl) | (with_reducible refine BlkP.Blk.alloc ?_ _) | (exact rfl)))) hb5)
    have HR5 := Lib.hid (show Blk w5 (s + 1) TD [.slice none 0 0, .int .i64 0, .int .i64 0] from Blk.below (by (repeat' (first | (with_reducible exact HR4.out) | (with_reducible refine BlkP.Blk.drew ?_) | (with_reducible refine BlkP.Blk.drewN ?_ _) | (with_reducible refine BlkP.Blk.setAt (us := ?_) (by first | omega | (simp; done) | (simp; omega)) rfl ?_ ?_) | (with_reducible refine BlkP.Blk.otherAt ?_ (by first | omega | (simp; done) | (simp; omega))) | (with_reducible refine BlkP.Blk.newA' (by first | omega | (simp; done) | (simp; omega)) rfl) | (with_reducible refine BlkP.Blk.alloc ?_ _) | (exact rfl)))) hb5)
    have H5 := Lib.hid (show Blk w5 s TN (vals m) from Blk.below (by (repeat' (first | (with_reducible exact H4.out) | (with_reducible refine BlkP.Blk.drew ?_) | (with_reducible refine BlkP.Blk.drewN ?_ _) | (with_reducible refine BlkP.Blk.setAt (us := ?_) (by first | omega | (simp; done) | (simp; omega)) rfl ?_ ?_) | (with_reducible refine BlkP.Blk.otherAt ?_ (by first | omega | (simp; done) | (simp; omega))) | (with_reducible refine BlkP.Blk.newA' (by first | omega | (simp; done) | (simp; omega)) rfl) | (with_reducible refine BlkP.Blk.alloc ?_ _) | (exact rfl)))) hb5)
    have c1 := H5.out.cell (i := 1) (g_lev m)
    rw [HMS.out] at c1
    clear hb5 hw c0 hD
    go_wp2_with ((with_reducible refine at_slot 20 ?_); refine Classical.byContradiction (fun hG => ?_))
    refine hG ?_
    clear hG
    refine wp_loadN rfl (.tmp 1) rfl rfl (n := m) H5.out ?_
    go_wp2_with fail
    refine (want_c (HT.out.below HB5.out)).mono ?_
    rintro e w6 ⟨rfl, hb6⟩
    simp only [wantV]
    have HB6 := Lib.hid (below_t HB5.out hb6)
    have HD6 := Lib.hid (HD5.out.below hb6)
    have HR6 := Lib.hid (HR5.out.below hb6)
    have H6 := Lib.hid (H5.out.below hb6)
    obtain ⟨⟨wl, wb⟩, hwt⟩ : ∃ c, wantS m = c := ⟨_, rfl⟩
    rw [hwt]
    have HWT := Lib.hid hwt
    clear hb6 c1 hwt
    by_cases h0 : 0 < l0
    · have h0I : (0 : Int) < (l0 : Int) := by omega
      cases wb with
      | false =>
        have HDE := Lib.hid (show deed n = [] ++ [(0, (0, 0))] from by
          show deedS (snd n) = _
          rw [HM.out, deedS, if_pos HWET.out, if_pos ⟨by rw [HMS.out]; exact h0, by rw [HWT.out]⟩]
          rfl)
        go_wp2_with fail
        refine (change_c (d := 0) (k := 0) (m := 0) (v := .slice none 0 0) (l := []) (B := w6.heap.size) ⟨HD6.out, Own.nil _ _ _ _⟩ (by simp) (Nat.le_refl _)).mono ?_
        rintro e w7 ⟨rfl, hch⟩
        have hsp := ch_on (w := w6) ⟨HD6.out, Own.nil _ _ _ _⟩ (Fr.refl _ _) hch
        clear hch
        have HN := Lib.hid (show ([] ++ [(0, (0, 0))] : List (Nat × Cl)).length = 1 from rfl)
        obtain ⟨v', ⟨hd7, ho7⟩, hf7⟩ := hsp
        obtain ⟨A, c, rfl, _, _, _⟩ := ho7.form (n := 1) HN.out
        have HD7 := Lib.hid hd7
        have HO7 := Lib.hid (show RowG.Own encX TX w7 w.heap.size (.slice A 1 c) _ from ho7.mono HB6.out.size)
        have HR7 := Lib.hid (hf7.blk HR6.out (fun e => by have := HDZ.out; omega))
        have HB7 := Lib.hid (show Below w.heap.size w w7 from HB6.out.trans (hf7.toBelow HB6.out.size (fun k hk => by have := HDZ.out; omega)))
        clear hd7 ho7 hf7
        have d0 := HD7.out.cell (i := 0) rfl
        have d1 := HD7.out.cell (i := 1) rfl
        have d2 := HD7.out.cell (i := 2) rfl
        have r0 := HR7.out.cell (i := 0) rfl
        have r1 := HR7.out.cell (i := 1) rfl
        have r2 := HR7.out.cell (i := 2) rfl
        have z0 := HR7.out.frozen 0
        have z1 := HR7.out.frozen 1
        have z2 := HR7.out.frozen 2
        have rl := HR7.out.lt
        go_wp2_with fail
        refine bodyPost_ret (v := .agg #[.slice A 1 c, .int .i64 0, .int .i64 0]) (by simp [results, Tryd.results21, go_sem, rl, r0, r1, r2]) rfl ?_
        refine ⟨_, rfl, ?_, ?_⟩
        · rw [HDE.out]
          exact own_set3 HO7.out HR7.out
        · exact ((HB7.out.setCell (by simp; omega) _).setCell (by simp; omega) _).setCell (by simp; omega) _
      | true =>
        by_cases hl : l0 = wl
        · subst hl
          have HDE := Lib.hid (show deed n = spreadS m from by
            show deedS (snd n) = _
            rw [HM.out, deedS, if_pos HWET.out, if_neg (by rw [HWT.out]; simp), if_neg (by rw [HWT.out, HMS.out]; simp)])
          obtain ⟨nn, hnn⟩ : ∃ nn, (spreadS m).length = nn := ⟨_, rfl⟩
          have HN := Lib.hid hnn
          clear hnn
          go_wp2_with ((with_reducible refine at_slot 24 ?_); refine Classical.byContradiction (fun hG => ?_))
          refine hG ?_
          clear hG
          refine wp_loadN rfl (.tmp 1) rfl rfl (n := m) H6.out ?_
          go_wp2_with fail
          refine (spread_c (HT.out.below HB6.out) (by have := HDZ.out; omega) HD6.out (by rw [HMS.out]; exact HL7.out)).mono ?_
          rintro e w7 ⟨rfl, hsp⟩
          obtain ⟨v', ⟨hd7, ho7⟩, hf7⟩ := hsp
          obtain ⟨A, c, rfl, _, _, _⟩ := ho7.form (n := nn) HN.out
          have HD7 := Lib.hid hd7
          have HO7 := Lib.hid (show RowG.Own encX TX w7 w.heap.size (.slice A nn c) _ from ho7.mono HB6.out.size)
          have HR7 := Lib.hid (hf7.blk HR6.out (fun e => by have := HDZ.out; omega))
          have HB7 := Lib.hid (show Below w.heap.size w w7 from HB6.out.trans (hf7.toBelow HB6.out.size (fun k hk => by have := HDZ.out; omega)))
          clear hd7 ho7 hf7
          have d0 := HD7.out.cell (i := 0) rfl
          have d1 := HD7.out.cell (i := 1) rfl
          have d2 := HD7.out.cell (i := 2) rfl
          have r0 := HR7.out.cell (i := 0) rfl
          have r1 := HR7.out.cell (i := 1) rfl
          have r2 := HR7.out.cell (i := 2) rfl
          have z0 := HR7.out.frozen 0
          have z1 := HR7.out.frozen 1
          have z2 := HR7.out.frozen 2
          have rl := HR7.out.lt
          go_wp2_with fail
          refine bodyPost_ret (v := .agg #[.slice A nn c, .int .i64 0, .int .i64 0]) (by simp [results, Tryd.results21, go_sem, rl, r0, r1, r2]) rfl ?_
          refine ⟨_, rfl, ?_, ?_⟩
          · rw [HDE.out]
            exact own_set3 HO7.out HR7.out
          · exact ((HB7.out.setCell (by simp; omega) _).setCell (by simp; omega) _).setCell (by simp; omega) _
        · have hlI : ((l0 : Int) == (wl : Int)) = false := by simp; omega
          have HDE := Lib.hid (show deed n = [] ++ [(0, (13, wl))] from by
            show deedS (snd n) = _
            rw [HM.out, deedS, if_pos HWET.out, if_neg (by rw [HWT.out]; simp), if_pos ⟨by rw [HMS.out]; exact h0, by rw [HWT.out, HMS.out]; exact hl⟩, HWT.out]
            rfl)
          go_wp2_with fail
          refine water_c.mono ?_
          rintro e w65 ⟨rfl, hb65⟩
          have HB65 := Lib.hid hb65
          clear hb65
          go_wp2_with fail
          refine (change_c (d := 0) (k := 13) (m := wl) (v := .slice none 0 0) (l := []) (B := w6.heap.size) ⟨HD6.out.below HB65.out, Own.nil _ _ _ _⟩ (by simp) HB65.out.size).mono ?_
          rintro e w7 ⟨rfl, hch⟩
          have hsp := ch_on (w := w6) ⟨HD6.out.below HB65.out, Own.nil _ _ _ _⟩ (Fr.below _ HB65.out) hch
          clear hch
          have HN := Lib.hid (show ([] ++ [(0, (13, wl))] : List (Nat × Cl)).length = 1 from rfl)
          obtain ⟨v', ⟨hd7, ho7⟩, hf7⟩ := hsp
          obtain ⟨A, c, rfl, _, _, _⟩ := ho7.form (n := 1) HN.out
          have HD7 := Lib.hid hd7
          have HO7 := Lib.hid (show RowG.Own encX TX w7 w.heap.size (.slice A 1 c) _ from ho7.mono HB6.out.size)
          have HR7 := Lib.hid (hf7.blk HR6.out (fun e => by have := HDZ.out; omega))
          have HB7 := Lib.hid (show Below w.heap.size w w7 from HB6.out.trans (hf7.toBelow HB6.out.size (fun k hk => by have := HDZ.out; omega)))
          clear hd7 ho7 hf7
          have d0 := HD7.out.cell (i := 0) rfl
          have d1 := HD7.out.cell (i := 1) rfl
          have d2 := HD7.out.cell (i := 2) rfl
          have r0 := HR7.out.cell (i := 0) rfl
          have r1 := HR7.out.cell (i := 1) rfl
          have r2 := HR7.out.cell (i := 2) rfl
          have z0 := HR7.out.frozen 0
          have z1 := HR7.out.frozen 1
          have z2 := HR7.out.frozen 2
          have rl := HR7.out.lt
          go_wp2_with fail
          refine bodyPost_ret (v := .agg #[.slice A 1 c, .int .i64 0, .int .i64 0]) (by simp [results, Tryd.results21, go_sem, rl, r0, r1, r2]) rfl ?_
          refine ⟨_, rfl, ?_, ?_⟩
          · rw [HDE.out]
            exact own_set3 HO7.out HR7.out
          · exact ((HB7.out.setCell (by simp; omega) _).setCell (by simp; omega) _).setCell (by simp; omega) _
    · have h0I : ¬ (0 : Int) < (l0 : Int) := by omega
      have HDE := Lib.hid (show deed n = spreadS m from by
        show deedS (snd n) = _
        rw [HM.out, deedS, if_pos HWET.out, if_neg (fun q => by rw [HMS.out] at q; exact h0 q.1), if_neg (fun q => by rw [HMS.out] at q; exact h0 q.1)])
      obtain ⟨nn, hnn⟩ : ∃ nn, (spreadS m).length = nn := ⟨_, rfl⟩
      have HN := Lib.hid hnn
      clear hnn
      go_wp2_with ((with_reducible refine at_slot 24 ?_); refine Classical.byContradiction (fun hG => ?_))
      refine hG ?_
      clear hG
      refine wp_loadN rfl (.tmp 1) rfl rfl (n := m) H6.out ?_
      go_wp2_with fail
      refine (spread_c (HT.out.below HB6.out) (by have := HDZ.out; omega) HD6.out (by rw [HMS.out]; exact HL7.out)).mono ?_
      rintro e w7 ⟨rfl, hsp⟩
      obtain ⟨v', ⟨hd7, ho7⟩, hf7⟩ := hsp
      obtain ⟨A, c, rfl, _, _, _⟩ := ho7.form (n := nn) HN.out
      have HD7 := Lib.hid hd7
      have HO7 := Lib.hid (show RowG.Own encX TX w7 w.heap.size (.slice A nn c) _ from ho7.mono HB6.out.size)
      have HR7 := Lib.hid (hf7.blk HR6.out (fun e => by have := HDZ.out; omega))
      have HB7 := Lib.hid (show Below w.heap.size w w7 from HB6.out.trans (hf7.toBelow HB6.out.size (fun k hk => by have := HDZ.out; omega)))
      clear hd7 ho7 hf7
      have d0 := HD7.out.cell (i := 0) rfl
      have d1 := HD7.out.cell (i := 1) rfl
      have d2 := HD7.out.cell (i := 2) rfl
      have r0 := HR7.out.cell (i := 0) rfl
      have r1 := HR7.out.cell (i := 1) rfl
      have r2 := HR7.out.cell (i := 2) rfl
      have z0 := HR7.out.frozen 0
      have z1 := HR7.out.frozen 1
      have z2 := HR7.out.frozen 2
      have rl := HR7.out.lt
      go_wp2_with fail
      refine bodyPost_ret (v := .agg #[.slice A nn c, .int .i64 0, .int .i64 0]) (by simp [results, Tryd.results21, go_sem, rl, r0, r1, r2]) rfl ?_
      refine ⟨_, rfl, ?_, ?_⟩
      · rw [HDE.out]
        exact own_set3 HO7.out HR7.out
      · exact ((HB7.out.setCell (by simp; omega) _).setCell (by simp; omega) _).setCell (by simp; omega) _
end FlowW
end Go.Proofs.YtlahkmkipciiiaaDoor
