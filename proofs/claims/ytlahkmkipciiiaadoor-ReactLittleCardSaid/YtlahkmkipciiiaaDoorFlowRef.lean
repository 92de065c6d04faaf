/-
  The reference: Sure, wet, soaks, Want.
-/
import Derived.Test.YtlahkmkipciiiaaDoorFlowWorks
namespace Go.Proofs.YtlahkmkipciiiaaDoor
open Go.RowKit
set_option linter.unusedVariables false
set_option linter.unusedSimpArgs false
namespace FlowW
open BlkP RowG FrS PushG FlowP
set_option maxRecDepth 100000 in
set_option maxHeartbeats 4000000 in
theorem rSure_c {w : World} {k l k' l' : Nat} (h : sure (k, l) = (k', l')) : Calls Tryd.prog 76 #[.agg #[.int .u8 (k : Int), .int .u8 (l : Int)]] w fun e w' => e = .returned (.agg #[.int .u8 (k' : Int), .int .u8 (l' : Int)]) ∧ Below w.heap.size w w' := by
  cases hm : KindP.may k l with
  | true =>
    obtain ⟨rfl, rfl⟩ : k = k' ∧ l = l' := by simpa [sure, hm] using h
    have HM := Lib.hid hm
    clear hm h
    go_enter Tryd.func76, Tryd.ntmps76
    go_wp2_with fail
    refine (KindW.r_may_b HM.out _).mono ?_
    rintro e1 w1 ⟨rfl, hb⟩
    have h1 : Blk w1 w.heap.size TC [.int .u8 k, .int .u8 l] := Blk.below (by (repeat' (first | (with_reducible refine BlkP.Blk.drew ?_) | (with_reducible refine BlkP.Blk.drewN ?_ _) | (with_reducible refine BlkP.Blk.setAt (us := ?_) (by first | omega | (simp; done) | (simp; omega)) rfl ?_ ?_) | (with_reducible refine BlkP.Blk.otherAt ?_ (by first | omega | (simp; done) | (simp; omega))) | (with_reducible refine BlkP.Blk.newA' (by first | omega | (simp; done) | (simp; omega)) rfl) | (with_reducible refine BlkP.Blk.alloc ?_ _) | (exact rfl)))) hb
    have h2 : Blk w1 (w.heap.size + 1) TC [.int .u8 0, .int .u8 0] := Blk.below (by (repeat' (first | (with_reducible refine BlkP.Blk.drew ?_) | (with_reducible refine BlkP.Blk.drewN ?_ _) | (with_reducible refine BlkP.Blk.setAt (us := ?_) (by first | omega | (simp; done) | (simp; omega)) rfl ?_ ?_) | (with_reducible refine BlkP.Blk.otherAt ?_ (by first | omega | (simp; done) | (simp; omega))) | (with_reducible refine BlkP.Blk.newA' (by first | omega | (simp; done) | (simp; omega)) rfl) | (with_reducible refine BlkP.Blk.alloc ?_ _) | (exact rfl)))) hb
    have hB : Below w.heap.size w w1 := by (repeat' (first | (with_reducible exact Below.refl _ _) | (with_reducible refine Below.setCell ?_ (by (first | omega | (simp; done) | (simp; omega))) _) | (with_reducible refine Below.alloc ?_ (by (first | omega | (simp; done) | (simp; omega))) _) | (with_reducible refine Below.drew ?_) | (with_reducible refine below_drewN ?_ _) | (with_reducible refine Below.trans ?_ (Below.mono hb (by (first | omega | (simp; done) | (simp; omega)))))))
    have HB := Lib.hid hB
    have c0 := h1.cell (i := 0) rfl
    have c1 := h1.cell (i := 1) rfl
    have z0 := h2.cell (i := 0) rfl
    have z1 := h2.cell (i := 1) rfl
    have f0 := h2.frozen 0
    have f1 := h2.frozen 1
    have l1 := h2.lt
    clear hb hB h1 h2
    go_wp2_with fail
    refine bodyPost_ret (v := .agg #[.int .u8 (k : Int), .int .u8 (l : Int)]) (by simp [results, Tryd.results76, go_sem, l1, z0, z1]) rfl ?_
    exact ⟨rfl, by (repeat' (first | (with_reducible exact Below.refl _ _) | (with_reducible refine Below.setCell ?_ (by (first | omega | (simp; done) | (simp; omega))) _) | (with_reducible refine Below.alloc ?_ (by (first | omega | (simp; done) | (simp; omega))) _) | (with_reducible refine Below.drew ?_) | (with_reducible refine below_drewN ?_ _) | (with_reducible refine Below.trans ?_ (Below.mono HB.out (by (first | omega | (simp; done) | (simp; omega)))))))⟩
  | false =>
    obtain ⟨rfl, rfl⟩ : 1 = k' ∧ 0 = l' := by simpa [sure, hm] using h
    have HM := Lib.hid hm
    clear hm h
    go_enter Tryd.func76, Tryd.ntmps76
    go_wp2_with fail
    refine (KindW.r_may_b HM.out _).mono ?_
    rintro e1 w1 ⟨rfl, hb⟩
    have h2 : Blk w1 (w.heap.size + 1) TC [.int .u8 0, .int .u8 0] := Blk.below (by (repeat' (first | (with_reducible refine BlkP.Blk.drew ?_) | (with_reducible refine BlkP.Blk.drewN ?_ _) | (with_reducible refine BlkP.Blk.setAt (us := ?_) (by first | omega | (simp; done) | (simp; omega)) rfl ?_ ?_) | (with_reducible refine BlkP.Blk.otherAt ?_ (by first | omega | (simp; done) | (simp; omega))) | (with_reducible refine BlkP.Blk.newA' (by first | omega | (simp; done) | (simp; omega)) rfl) | (with_reducible refine BlkP.Blk.alloc ?_ _) | (exact rfl)))) hb
    have hB : Below w.heap.size w w1 := by (repeat' (first | (with_reducible exact Below.refl _ _) | (with_reducible refine Below.setCell ?_ (by (first | omega | (simp; done) | (simp; omega))) _) | (with_reducible refine Below.alloc ?_ (by (first | omega | (simp; done) | (simp; omega))) _) | (with_reducible refine Below.drew ?_) | (with_reducible refine below_drewN ?_ _) | (with_reducible refine Below.trans ?_ (Below.mono hb (by (first | omega | (simp; done) | (simp; omega)))))))
    have HB := Lib.hid hB
    have z0 := h2.cell (i := 0) rfl
    have z1 := h2.cell (i := 1) rfl
    have f0 := h2.frozen 0
    have f1 := h2.frozen 1
    have l1 := h2.lt
    clear hb hB h2
    go_wp2_with fail
    refine bodyPost_ret (v := .agg #[.int .u8 1, .int .u8 0]) (by simp [results, Tryd.results76, go_sem, l1, z0, z1]) rfl ?_
    exact ⟨rfl, by (repeat' (first | (with_reducible exact Below.refl _ _) | (with_reducible refine Below.setCell ?_ (by (first | omega | (simp; done) | (simp; omega))) _) | (with_reducible refine Below.alloc ?_ (by (first | omega | (simp; done) | (simp; omega))) _) | (with_reducible refine Below.drew ?_) | (with_reducible refine below_drewN ?_ _) | (with_reducible refine Below.trans ?_ (Below.mono HB.out (by (first | omega | (simp; done) | (simp; omega)))))))⟩
set_option maxRecDepth 100000 in
set_option maxHeartbeats 4000000 in
theorem rwet_c {w : World} {k l : Nat} {b : Bool} (h : wet (sure (k, l)) = b) : Calls Tryd.prog 54 #[.agg #[.int .u8 (k : Int), .int .u8 (l : Int)]] w fun e w' => e = .returned (.bool b) ∧ Below w.heap.size w w' := by
  obtain ⟨⟨k', l'⟩, hs⟩ : ∃ c, sure (k, l) = c := ⟨_, rfl⟩
  rw [hs] at h
  have HS := Lib.hid hs
  have HE := Lib.hid (show ((k' : Int) == 13) = b from by
    rw [← h, Bool.eq_iff_iff, beq_iff_eq]
    simp only [wet, beq_iff_eq]
    omega)
  clear h hs
  go_enter Tryd.func54, Tryd.ntmps54
  go_wp2_with fail
  refine (rSure_c HS.out).mono ?_
  rintro e1 w1 ⟨rfl, hb⟩
  have HB := Lib.hid (show Below w.heap.size w w1 by (repeat' (first | (with_reducible exact Below.refl _ _) | (with_reducible refine Below.setCell ?_ (by (first | omega | (simp; done) | (simp; omega))) _) | (with_reducible refine Below.alloc ?_ (by (first | omega | (simp; done) | (simp; omega))) _) | (with_reducible refine Below.drew ?_) | (with_reducible refine below_drewN ?_ _) | (with_reducible refine Below.trans ?_ (Below.mono hb (by (first | omega | (simp; done) | (simp; omega))))))))
  have hz := HB.out.size
  clear hb
  go_wp2_with fail
  go_ret
  exact ⟨congrArg (fun b => Ending.returned (.bool b)) HE.out, by (repeat' (first | (with_reducible exact Below.refl _ _) | (with_reducible refine Below.setCell ?_ (by (first | omega | (simp; done) | (simp; omega))) _) | (with_reducible refine Below.alloc ?_ (by (first | omega | (simp; done) | (simp; omega))) _) | (with_reducible refine Below.drew ?_) | (with_reducible refine below_drewN ?_ _) | (with_reducible refine Below.trans ?_ (Below.mono HB.out (by (first | omega | (simp; done) | (simp; omega)))))))⟩
set_option maxRecDepth 100000 in
set_option maxHeartbeats 4000000 in
theorem rsoaks_c {w : World} {k l : Nat} {b : Bool} (h : soak (sure (k, l)) = b) : Calls Tryd.prog 57 #[.agg #[.int .u8 (k : Int), .int .u8 (l : Int)]] w fun e w' => e = .returned (.bool b) ∧ Below w.heap.size w w' := by
  obtain ⟨⟨k', l'⟩, hs⟩ : ∃ c, sure (k, l) = c := ⟨_, rfl⟩
  rw [hs] at h
  have HS := Lib.hid hs
  have HE := Lib.hid (show KindP.soaks k' = b from h)
  clear h hs
  go_enter Tryd.func57, Tryd.ntmps57
  go_wp2_with fail
  refine (rSure_c HS.out).mono ?_
  rintro e1 w1 ⟨rfl, hb⟩
  have HB := Lib.hid (show Below w.heap.size w w1 by (repeat' (first | (with_reducible exact Below.refl _ _) | (with_reducible refine Below.setCell ?_ (by (first | omega | (simp; done) | (simp; omega))) _) | (with_reducible refine Below.alloc ?_ (by (first | omega | (simp; done) | (simp; omega))) _) | (with_reducible refine Below.drew ?_) | (with_reducible refine below_drewN ?_ _) | (with_reducible refine Below.trans ?_ (Below.mono hb (by (first | omega | (simp; done) | (simp; omega))))))))
  have hz := HB.out.size
  clear hb
  go_wp2_with fail
  refine (KindW.r_soaks k' _).mono ?_
  rintro e2 w2 ⟨rfl, hb⟩
  have HB2 := Lib.hid (show Below w.heap.size w w2 by (repeat' (first | (with_reducible exact Below.refl _ _) | (with_reducible refine Below.setCell ?_ (by (first | omega | (simp; done) | (simp; omega))) _) | (with_reducible refine Below.alloc ?_ (by (first | omega | (simp; done) | (simp; omega))) _) | (with_reducible refine Below.drew ?_) | (with_reducible refine below_drewN ?_ _) | (with_reducible refine Below.trans ?_ (Below.mono HB.out (by (first | omega | (simp; done) | (simp; omega))))) | (with_reducible refine Below.trans ?_ (Below.mono hb (by (first | omega | (simp; done) | (simp; omega))))))))
  clear hb
  go_wp2_with fail
  go_ret
  exact ⟨congrArg (fun b => Ending.returned (.bool b)) HE.out, HB2.out⟩
/-- A level side gives just this level, below the greatest. -/
theorem lv_iff {n : Nr} {d q : Nat} (hq : q < 7) : lv (snd n) d = q ↔ wet (sure (n.sd d)) = true ∧ wet (sure (n.un d)) = false ∧ soak (sure (n.un d)) = false ∧ (n.sd d).2 = q := by
  have e : ∀ c : Cl, wet (sure c) = true → sure c = c := fun c h => (wet_lev h).2.1
  unfold lv gives holds
  show (if (wet (sure (n.sd d)) && (!soak (sure (n.un d)) && !wet (sure (n.un d))) && decide ((sure (n.sd d)).2 < 7)) = true then (sure (n.sd d)).2 else 7) = q ↔ _
  cases hw : wet (sure (n.sd d)) with
  | false => simp; omega
  | true =>
    rw [e _ hw]
    by_cases h7 : (n.sd d).2 < 7
    · cases wet (sure (n.un d)) <;> cases soak (sure (n.un d)) <;> simp [h7] <;> omega
    · cases wet (sure (n.un d)) <;> cases soak (sure (n.un d)) <;> simp [h7] <;> omega
set_option maxRecDepth 100000 in
set_option maxHeartbeats 16000000 in
theorem rWant_c {w : World} {n : Nr} : Calls Tryd.prog 55 #[nv n] w fun e w' => e = .returned (.tuple #[.int .u8 ((want n).1 : Int), .bool (want n).2]) ∧ Below w.heap.size w w' := by
  obtain ⟨⟨k4, l4⟩, hc4⟩ : ∃ c, n.sd 4 = c := ⟨_, rfl⟩
  have HC4 := Lib.hid hc4
  clear hc4
  go_enter Tryd.func55, Tryd.ntmps55
  go_wp2_with ((with_reducible refine at_slot 1 ?_); refine Classical.byContradiction (fun hG => ?_))
  refine hG ?_
  clear hG
  refine wp_boxN rfl (.tmp 0) rfl rfl ?_
  intro w1 h1 hb1 hz1
  obtain ⟨s, hs⟩ : ∃ s, w.heap.size = s := ⟨_, rfl⟩
  rw [hs] at h1 hz1
  rw [hs]
  have HB1 := Lib.hid hb1
  have H1 := Lib.hid h1
  have HS := Lib.hid hs
  have a0 : w1.cell? ⟨s, 10, none⟩ = some (.int .u8 (k4 : Int)) := by
    have q := h1.cell (g_sk n (d := 4) (by omega))
    rw [HC4.out] at q
    exact q
  have a1 : w1.cell? ⟨s, 11, none⟩ = some (.int .u8 (l4 : Int)) := by
    have q := h1.cell (g_sl n (d := 4) (by omega))
    rw [HC4.out] at q
    exact q
  clear hb1 h1 hz1 hs
  cases hw : wet (sure (k4, l4)) with
  | true =>
    have HW := Lib.hid (show want n = (1, true) from by
      show wantS (snd n) = _
      have e : wet ((snd n).sd 4) = true := by
        show wet (sure (n.sd 4)) = true
        rw [HC4.out]
        exact hw
      rw [wantS, if_pos e])
    go_wp2_with fail
    refine (rwet_c hw).mono ?_
    rintro e w2 ⟨rfl, hb2⟩
    have HB2 := Lib.hid (below_t HB1.out hb2)
    clear hb2 hw a0 a1
    go_wp2_with fail
    go_ret2
    exact ⟨by rw [HW.out]; rfl, HB2.out⟩
  | false =>
    have HW := Lib.hid (show want n = if least (snd n) 4 = 7 then (0, false) else (least (snd n) 4 + 1, true) from by
      show wantS (snd n) = _
      have e : ¬ wet ((snd n).sd 4) = true := by
        show ¬ wet (sure (n.sd 4)) = true
        rw [HC4.out, hw]
        simp
      rw [wantS, if_neg e])
    go_wp2_with fail
    refine (rwet_c hw).mono ?_
    rintro e w2 ⟨rfl, hb2⟩
    have HB2 := Lib.hid (below_t HB1.out hb2)
    have H2 := Lib.hid (H1.out.below hb2)
    clear hb2 hw a0 a1
    go_wp2_with fail
    go_loopw [4] (fun v4 wr => ∃ q : Nat, v4 = .int .u8 (q : Nat) ∧ q ≤ least (snd n) 4 ∧ q ≤ 7 ∧ Blk wr s TN (vals n) ∧ Below w.heap.size w wr) (fun v _ => 7 - (intOf v).toNat)
    case atStart => exact ⟨0, rfl, by omega, by omega, H2.out, HB2.out⟩
    case round =>
      obtain ⟨q, rfl, hql, hq7, hr, hbr⟩ := hrel
      have HR := Lib.hid hr
      have HBR := Lib.hid hbr
      have HQL := Lib.hid hql
      by_cases hq : q < 7
      · have hqI : (q : Int) < 7 := by omega
        have HQ := Lib.hid hq
        clear hr hbr hql
        go_wp2_with fail
        go_loopw [5] (fun v5 wr => ∃ d : Nat, v5 = .int .i64 (d : Nat) ∧ d ≤ 4 ∧ (∀ d', d' < d → q + 1 ≤ lv (snd n) d') ∧ Blk wr s TN (vals n) ∧ Below w.heap.size w wr) (fun v _ => 4 - (intOf v).toNat)
        case atStart => exact ⟨0, rfl, by omega, fun d' h => absurd h (Nat.not_lt_zero _), HR.out, HBR.out⟩
        case round =>
          obtain ⟨d, rfl, hd, hall, hr, hbr⟩ := hrel
          have HRR := Lib.hid hr
          have HBB := Lib.hid hbr
          have HALL := Lib.hid hall
          by_cases hdl : d < 4
          · have hdI : (d : Int) < 4 := by omega
            have hd6I : (d : Int) < 6 := by omega
            have HWR := Lib.hid (show wrap64 ((d : Int) + 1) = ((d + 1 : Nat) : Int) by rw [wr64 (by omega) (by omega)]; omega)
            obtain ⟨⟨k, l⟩, hc1⟩ : ∃ c, n.sd d = c := ⟨_, rfl⟩
            obtain ⟨⟨k2, l2⟩, hc2⟩ : ∃ c, n.un d = c := ⟨_, rfl⟩
            have HIFF := Lib.hid (show lv (snd n) d = q ↔ wet (sure (k, l)) = true ∧ wet (sure (k2, l2)) = false ∧ soak (sure (k2, l2)) = false ∧ l = q from by
              have e := lv_iff (n := n) (d := d) HQ.out
              rw [hc1, hc2] at e
              exact e)
            have HA := Lib.hid (show (vals n)[2 + d * 2]? = some (.int .u8 (k : Int)) ∧ (vals n)[2 + d * 2 + 1]? = some (.int .u8 (l : Int)) ∧ (vals n)[14 + d * 2]? = some (.int .u8 (k2 : Int)) ∧ (vals n)[14 + d * 2 + 1]? = some (.int .u8 (l2 : Int)) from by
              have a1 := g_sk n (d := d) (by omega)
              have a2 := g_sl n (d := d) (by omega)
              have a3 := g_uk n (d := d) (by omega)
              have a4 := g_ul n (d := d) (by omega)
              rw [hc1] at a1 a2
              rw [hc2] at a3 a4
              exact ⟨a1, a2, a3, a4⟩)
            have HGE := Lib.hid (show q ≤ lv (snd n) d from Nat.le_trans HQL.out (least_le_lv (snd n) 4 d (by omega)))
            clear hr hbr hall hc1 hc2
            have HR0 := HRR
            have HY0 := HBB
            have s0 := HR0.out.cell HA.out.1
            have s1 := HR0.out.cell HA.out.2.1
            cases hws : wet (sure (k, l)) with
            | false =>
              have HNO := Lib.hid (show ¬ (wet (sure (k, l)) = true ∧ wet (sure (k2, l2)) = false ∧ soak (sure (k2, l2)) = false ∧ l = q) from fun h => by rw [hws] at h; cases h.1)
              go_wp2_with fail
              refine (rwet_c hws).mono ?_
              rintro e y1 ⟨rfl, hb⟩
              have HR1 := Lib.hid (HR0.out.below hb)
              have HY1 := Lib.hid (below_t HY0.out hb)
              clear hb
              have HZ := Lib.hid (And.intro HR1.out HY1.out)
              clear hws s0 s1
              go_wp2_with fail
              go_roundw
              case rel =>
                refine ⟨d + 1, by first | rfl | rw [HWR.out] | (congr 1; omega), by omega, fun d' hd' => ?_, HZ.out.1, HZ.out.2⟩
                by_cases e : d' = d
                · subst e
                  have h1 := HGE.out
                  have h2 : ¬ lv (snd n) d' = q := fun e => HNO.out (HIFF.out.1 e)
                  omega
                · exact HALL.out d' (by omega)
              case measure =>
                simp only [intOf]
                omega
            | true =>
              have HWS := Lib.hid hws
              cases hwu : wet (sure (k2, l2)) with
              | true =>
                have HNO := Lib.hid (show ¬ (wet (sure (k, l)) = true ∧ wet (sure (k2, l2)) = false ∧ soak (sure (k2, l2)) = false ∧ l = q) from fun h => by rw [hwu] at h; cases h.2.1)
                go_wp2_with fail
                refine (rwet_c hws).mono ?_
                rintro e y1 ⟨rfl, hb⟩
                have HR1 := Lib.hid (HR0.out.below hb)
                have HY1 := Lib.hid (below_t HY0.out hb)
                clear hb
                have u0 := HR1.out.cell HA.out.2.2.1
                have u1 := HR1.out.cell HA.out.2.2.2
                go_wp2_with fail
                refine (rwet_c hwu).mono ?_
                rintro e y2 ⟨rfl, hb⟩
                have HR2 := Lib.hid (HR1.out.below hb)
                have HY2 := Lib.hid (below_t HY1.out hb)
                clear hb
                have HZ := Lib.hid (And.intro HR2.out HY2.out)
                clear hws hwu s0 s1 u0 u1
                go_wp2_with fail
                go_roundw
                case rel =>
                  refine ⟨d + 1, by first | rfl | rw [HWR.out] | (congr 1; omega), by omega, fun d' hd' => ?_, HZ.out.1, HZ.out.2⟩
                  by_cases e : d' = d
                  · subst e
                    have h1 := HGE.out
                    have h2 : ¬ lv (snd n) d' = q := fun e => HNO.out (HIFF.out.1 e)
                    omega
                  · exact HALL.out d' (by omega)
                case measure =>
                  simp only [intOf]
                  omega
              | false =>
                have HWU := Lib.hid hwu
                cases hsu : soak (sure (k2, l2)) with
                | true =>
                  have HNO := Lib.hid (show ¬ (wet (sure (k, l)) = true ∧ wet (sure (k2, l2)) = false ∧ soak (sure (k2, l2)) = false ∧ l = q) from fun h => by rw [hsu] at h; cases h.2.2.1)
                  go_wp2_with fail
                  refine (rwet_c hws).mono ?_
                  rintro e y1 ⟨rfl, hb⟩
                  have HR1 := Lib.hid (HR0.out.below hb)
                  have HY1 := Lib.hid (below_t HY0.out hb)
                  clear hb
                  have u0 := HR1.out.cell HA.out.2.2.1
                  have u1 := HR1.out.cell HA.out.2.2.2
                  go_wp2_with fail
                  refine (rwet_c hwu).mono ?_
                  rintro e y2 ⟨rfl, hb⟩
                  have HR2 := Lib.hid (HR1.out.below hb)
                  have HY2 := Lib.hid (below_t HY1.out hb)
                  clear hb
                  clear u0 u1
                  have u0 := HR2.out.cell HA.out.2.2.1
                  have u1 := HR2.out.cell HA.out.2.2.2
                  go_wp2_with fail
                  refine (rsoaks_c hsu).mono ?_
                  rintro e y3 ⟨rfl, hb⟩
                  have HR3 := Lib.hid (HR2.out.below hb)
                  have HY3 := Lib.hid (below_t HY2.out hb)
                  clear hb
                  have HZ := Lib.hid (And.intro HR3.out HY3.out)
                  clear hws hwu hsu s0 s1 u0 u1
                  go_wp2_with fail
                  go_roundw
                  case rel =>
                    refine ⟨d + 1, by first | rfl | rw [HWR.out] | (congr 1; omega), by omega, fun d' hd' => ?_, HZ.out.1, HZ.out.2⟩
                    by_cases e : d' = d
                    · subst e
                      have h1 := HGE.out
                      have h2 : ¬ lv (snd n) d' = q := fun e => HNO.out (HIFF.out.1 e)
                      omega
                    · exact HALL.out d' (by omega)
                  case measure =>
                    simp only [intOf]
                    omega
                | false =>
                  have HSU := Lib.hid hsu
                  by_cases hlq : l = q
                  · subst hlq
                    have HLV := Lib.hid (HIFF.out.2 ⟨hws, hwu, hsu, rfl⟩)
                    have HWW := Lib.hid (show want n = (l + 1, true) from by
                      have h1 := least_le_lv (snd n) 4 d (by omega)
                      have h2 := HQL.out
                      have h3 := HLV.out
                      have h4 := HQ.out
                      rw [HW.out, if_neg (by omega), show least (snd n) 4 = l by omega])
                    go_wp2_with fail
                    refine (rwet_c hws).mono ?_
                    rintro e y1 ⟨rfl, hb⟩
                    have HR1 := Lib.hid (HR0.out.below hb)
                    have HY1 := Lib.hid (below_t HY0.out hb)
                    clear hb
                    have u0 := HR1.out.cell HA.out.2.2.1
                    have u1 := HR1.out.cell HA.out.2.2.2
                    go_wp2_with fail
                    refine (rwet_c hwu).mono ?_
                    rintro e y2 ⟨rfl, hb⟩
                    have HR2 := Lib.hid (HR1.out.below hb)
                    have HY2 := Lib.hid (below_t HY1.out hb)
                    clear hb
                    clear u0 u1
                    have u0 := HR2.out.cell HA.out.2.2.1
                    have u1 := HR2.out.cell HA.out.2.2.2
                    go_wp2_with fail
                    refine (rsoaks_c hsu).mono ?_
                    rintro e y3 ⟨rfl, hb⟩
                    have HR3 := Lib.hid (HR2.out.below hb)
                    have HY3 := Lib.hid (below_t HY2.out hb)
                    clear hb
                    clear hws hwu hsu u0 u1 s0 s1
                    have s0 := HR3.out.cell HA.out.1
                    have s1 := HR3.out.cell HA.out.2.1
                    have HB9 := HY3
                    go_wp2_with fail
                    go_ret2
                    exact ⟨by rw [HWW.out]; rfl, HB9.out⟩
                  · have hlI : ((l : Int) == (q : Int)) = false := by simp; omega
                    have HNO := Lib.hid (show ¬ (wet (sure (k, l)) = true ∧ wet (sure (k2, l2)) = false ∧ soak (sure (k2, l2)) = false ∧ l = q) from fun h => hlq h.2.2.2)
                    go_wp2_with fail
                    refine (rwet_c hws).mono ?_
                    rintro e y1 ⟨rfl, hb⟩
                    have HR1 := Lib.hid (HR0.out.below hb)
                    have HY1 := Lib.hid (below_t HY0.out hb)
                    clear hb
                    have u0 := HR1.out.cell HA.out.2.2.1
                    have u1 := HR1.out.cell HA.out.2.2.2
                    go_wp2_with fail
                    refine (rwet_c hwu).mono ?_
                    rintro e y2 ⟨rfl, hb⟩
                    have HR2 := Lib.hid (HR1.out.below hb)
                    have HY2 := Lib.hid (below_t HY1.out hb)
                    clear hb
                    clear u0 u1
                    have u0 := HR2.out.cell HA.out.2.2.1
                    have u1 := HR2.out.cell HA.out.2.2.2
                    go_wp2_with fail
                    refine (rsoaks_c hsu).mono ?_
                    rintro e y3 ⟨rfl, hb⟩
                    have HR3 := Lib.hid (HR2.out.below hb)
                    have HY3 := Lib.hid (below_t HY2.out hb)
                    clear hb
                    clear hws hwu hsu u0 u1 s0 s1
                    have s0 := HR3.out.cell HA.out.1
                    have s1 := HR3.out.cell HA.out.2.1
                    have HZ := Lib.hid (And.intro HR3.out HY3.out)
                    go_wp2_with fail
                    go_roundw
                    case rel =>
                      refine ⟨d + 1, by first | rfl | rw [HWR.out] | (congr 1; omega), by omega, fun d' hd' => ?_, HZ.out.1, HZ.out.2⟩
                      by_cases e : d' = d
                      · subst e
                        have h1 := HGE.out
                        have h2 : ¬ lv (snd n) d' = q := fun e => HNO.out (HIFF.out.1 e)
                        omega
                      · exact HALL.out d' (by omega)
                    case measure =>
                      simp only [intOf]
                      omega
          · have hde : d = 4 := by omega
            have hdI : ¬ (d : Int) < 4 := by omega
            subst hde
            have HWQ := Lib.hid (show q + 1 ≤ least (snd n) 4 from le_least (snd n) (q + 1) (by have := HQ.out; omega) 4 hall)
            clear hr hbr hall
            go_wp2_with fail
            go_roundw
            case rel => exact ⟨q + 1, by first | rfl | simp, HWQ.out, by omega, HRR.out, HBB.out⟩
            case measure =>
              simp only [intOf]
              omega
      · have hqI : ¬ (q : Int) < 7 := by omega
        have HWW := Lib.hid (show want n = (0, false) from by
          rw [HW.out, if_pos]
          have := least_le (snd n) 4
          omega)
        clear hr hbr hql
        go_wp2_with fail
        go_ret2
        exact ⟨by rw [HWW.out]; rfl, HBR.out⟩
end FlowW
end Go.Proofs.YtlahkmkipciiiaaDoor
