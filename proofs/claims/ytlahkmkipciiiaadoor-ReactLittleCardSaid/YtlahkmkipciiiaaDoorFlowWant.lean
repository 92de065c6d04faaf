/-
  want, Want: the level that the place wants.
-/
import Derived.Test.YtlahkmkipciiiaaDoorFlowFeed
import Derived.Test.YtlahkmkipciiiaaDoorFlowEq
namespace Go.Proofs.YtlahkmkipciiiaaDoor
open Go.RowKit
set_option linter.unusedVariables false
set_option linter.unusedSimpArgs false
namespace FlowW
open BlkP RowG FrS PushG FlowP
/-- The level sides that feed, as six sides. -/
def gvL (n : Nr) : List Cl := [(gv n 4).sd 0, (gv n 4).sd 1, (gv n 4).sd 2, (gv n 4).sd 3, (gv n 4).sd 4, (gv n 4).sd 5]
def zeroL : List Cl := [(0, 0), (0, 0), (0, 0), (0, 0), (0, 0), (0, 0)]
theorem gv_at {n : Nr} {d : Nat} (h : d < 4) : (gv n 4).sd d = if gives n d = true then n.sd d else (0, 0) := by
  show (if d < 4 ∧ gives n d = true then n.sd d else (0, 0)) = _
  simp [h]
theorem lv_seven {n : Nr} {d : Nat} : lv n d = 7 ↔ gives n d = false := by
  unfold lv
  by_cases h : gives n d = true
  · rw [if_pos h]
    have h2 : (n.sd d).2 < 7 := by
      simp [gives] at h
      omega
    simp [h]
    omega
  · rw [if_neg h]
    simp at h
    simp [h]
theorem least_seven {n : Nr} : least n 4 = 7 ↔ ∀ d, d < 4 → gives n d = false := by
  constructor
  · intro h d hd
    have h1 := least_le_lv n 4 d hd
    have h2 := lv_le n d
    exact lv_seven.1 (by omega)
  · intro h
    have := le_least n 7 (by omega) 4 (fun d hd => by rw [lv_seven.2 (h d hd)]; exact Nat.le_refl _)
    have := least_le n 4
    omega
theorem gives_wet {n : Nr} {d : Nat} (h : gives n d = true) : (n.sd d).1 = 13 := by
  simp [gives, wet] at h
  exact h.1.1
theorem gvL_zero (n : Nr) : decide (gvL n = zeroL) = decide (least n 4 = 7) := by
  rw [Bool.eq_iff_iff, decide_eq_true_eq, decide_eq_true_eq, least_seven]
  constructor
  · intro h d hd
    cases hg : gives n d with
    | false => rfl
    | true =>
      exfalso
      have e : (gv n 4).sd d = (0, 0) := by
        have h' : ∀ i : Nat, (gvL n)[i]? = zeroL[i]? := fun i => by rw [h]
        match d, hd with
        | 0, _ => exact Option.some.inj (h' 0)
        | 1, _ => exact Option.some.inj (h' 1)
        | 2, _ => exact Option.some.inj (h' 2)
        | 3, _ => exact Option.some.inj (h' 3)
      rw [gv_at hd, if_pos hg] at e
      have := gives_wet hg
      rw [e] at this
      cases this
  · intro h
    have e : ∀ d, d < 4 → (gv n 4).sd d = (0, 0) := fun d hd => by rw [gv_at hd, h d hd]; rfl
    unfold gvL
    rw [e 0 (by omega), e 1 (by omega), e 2 (by omega), e 3 (by omega)]
    rfl
theorem gv_wet {n : Nr} {d : Nat} (h : d < 4) : wet ((gv n 4).sd d) = gives n d := by
  rw [gv_at h]
  cases hg : gives n d with
  | true =>
    have := gives_wet hg
    simp [wet, this]
  | false => rfl
theorem least_yes {n : Nr} {d : Nat} (h : gives n d = true) : least n (d + 1) = min (least n d) (n.sd d).2 := by simp [least, lv, h]
theorem least_no {n : Nr} {d : Nat} (h : gives n d = false) : least n (d + 1) = least n d := by
  have := least_le n d
  simp only [least, lv, h, Bool.false_eq_true, if_false]
  omega
def wantV (n : Nr) : Value := .tuple #[.int .u8 ((wantS n).1 : Int), .bool (wantS n).2]
set_option maxRecDepth 100000 in
set_option maxHeartbeats 16000000 in
theorem want_c {w : World} {n : Nr} (hT : KindW.Tab w) : Calls Tryd.prog 39 #[nv n] w fun e w' => e = .returned (wantV n) ∧ Below w.heap.size w w' := by
  have HT := Lib.hid hT
  clear hT
  obtain ⟨⟨k4, l4⟩, hc4⟩ : ∃ c, n.sd 4 = c := ⟨_, rfl⟩
  have HC4 := Lib.hid hc4
  go_enter Tryd.func39, Tryd.ntmps39
  go_wp2_with ((with_reducible refine at_slot 1 ?_); refine Classical.byContradiction (fun hG => ?_))
  refine hG ?_
  clear hG
  refine wp_boxN rfl (.tmp 0) rfl rfl ?_
  intro w1 h1 hb1 hz1
  have HB1 := Lib.hid hb1
  have H1 := Lib.hid h1
  have a0 : w1.cell? ⟨w.heap.size, 10, none⟩ = some (.int .u8 (k4 : Int)) := by
    have q := h1.cell (g_sk n (d := 4) (by omega))
    rw [hc4] at q
    exact q
  have a1 : w1.cell? ⟨w.heap.size, 11, none⟩ = some (.int .u8 (l4 : Int)) := by
    have q := h1.cell (g_sl n (d := 4) (by omega))
    rw [hc4] at q
    exact q
  clear hb1 h1 hz1 hc4
  cases hw : wet (k4, l4) with
  | true =>
    have HW := Lib.hid (show wantS n = (1, true) from by simp [wantS, HC4.out, hw])
    go_wp2_with fail
    refine (isWater_c hw).mono ?_
    rintro e w2 ⟨rfl, hb2⟩
    have HB2 := Lib.hid (below_t HB1.out hb2)
    clear hb2 hw
    go_wp2_with fail
    go_ret2
    exact ⟨by rw [wantV, HW.out]; rfl, HB2.out⟩
  | false =>
    have HW := Lib.hid (show wantS n = if least n 4 = 7 then (0, false) else (least n 4 + 1, true) from by simp [wantS, HC4.out, hw])
    go_wp2_with fail
    refine (isWater_c hw).mono ?_
    rintro e w2 ⟨rfl, hb2⟩
    have HB2 := Lib.hid (below_t HB1.out hb2)
    have H2 := Lib.hid (H1.out.below hb2)
    clear hb2 hw a0 a1
    go_wp2_with ((with_reducible refine at_slot 12 ?_); refine Classical.byContradiction (fun hG => ?_))
    refine hG ?_
    clear hG
    refine wp_loadN rfl (.tmp 1) rfl rfl (n := n) H2.out ?_
    go_wp2_with fail
    refine (feeding_c (HT.out.below HB2.out)).mono ?_
    rintro e w3 ⟨rfl, hb3⟩
    have HB3 := Lib.hid (below_t HB2.out hb3)
    clear hb3
    go_wp2_with ((with_reducible refine at_storeN ?_); refine Classical.byContradiction (fun hG => ?_))
    refine hG ?_
    clear hG
    have hz3 := HB3.out.size
    obtain ⟨b, hb⟩ : ∃ b, w3.heap.size = b := ⟨_, rfl⟩
    refine list_named (S := fun W => Below w.heap.size w W ∧ Blk W b TN (vals nz)) ⟨by (repeat' (first | (with_reducible exact Below.refl _ _) | (with_reducible refine Below.setCell ?_ (by (first | omega | (simp; done) | (simp; omega))) _) | (with_reducible refine Below.alloc ?_ (by (first | omega | (simp; done) | (simp; omega))) _) | (with_reducible refine Below.drew ?_) | (with_reducible refine below_drewN ?_ _) | (with_reducible refine Below.trans ?_ (Below.mono HB3.out (by (first | omega | (simp; done) | (simp; omega))))))), by subst hb; (repeat' (first | (with_reducible refine BlkP.Blk.drew ?_) | (with_reducible refine BlkP.Blk.drewN ?_ _) | (with_reducible refine BlkP.Blk.setAt (us := ?_) (by first | omega | (simp; done) | (simp; omega)) rfl ?_ ?_) | (with_reducible refine BlkP.Blk.otherAt ?_ (by first | omega | (simp; done) | (simp; omega))) | (with_reducible refine BlkP.Blk.newA' (by first | omega | (simp; done) | (simp; omega)) rfl) | (with_reducible refine BlkP.Blk.alloc ?_ _) | (exact rfl)))⟩ ?_
    rintro w4 ⟨hb4, hz4⟩
    refine wp_storeN rfl (.tmp 4) (.tmp 13) rfl rfl rfl (by rw [hb]; exact hz4) rfl ?_
    intro w5 h5 hg5 hz5
    rw [hb] at h5 hg5
    have HBB := Lib.hid (show w.heap.size ≤ b from by rw [← hb]; exact HB3.out.size)
    have HB5 := Lib.hid (show Below w.heap.size w w5 from hb4.grown hg5 (by have := hb4.size; omega) (fun k hk => by injection hk with hk; have := HBB.out; omega))
    have H5 := Lib.hid h5
    rw [hb]
    clear hb4 hz4 h5 hg5 hz5 hb
    go_wp2_with ((with_reducible refine at_slot 15 ?_); refine Classical.byContradiction (fun hG => ?_))
    refine hG ?_
    clear hG
    refine wp_loadS rfl (.tmp 14) rfl rfl (n := gv n 4) H5.out ?_
    by_cases h7 : least n 4 = 7
    · have HW2 := Lib.hid (show wantS n = (0, false) from by rw [HW.out, if_pos h7])
      have hd := Lib.hid ((gvL_zero n).trans (decide_eq_true h7))
      clear h7
      have hfd := field_zero w5
      go_wp2_with ((with_reducible refine at_slot 18 ?_); refine wp_eqS rfl (.tmp 15) (.tmp 17) _ rfl (C := gvL n) (D := zeroL) rfl rfl rfl rfl (b := true) hd.out ?_)
      go_ret2
      exact ⟨by rw [wantV, HW2.out]; rfl, HB5.out⟩
    · have HW2 := Lib.hid (show wantS n = (least n 4 + 1, true) from by rw [HW.out, if_neg h7])
      have H7 := Lib.hid h7
      have hd := Lib.hid ((gvL_zero n).trans (decide_eq_false h7))
      clear h7
      have hfd := field_zero w5
      go_wp2_with ((with_reducible refine at_slot 18 ?_); refine wp_eqS rfl (.tmp 15) (.tmp 17) _ rfl (C := gvL n) (D := zeroL) rfl rfl rfl rfl (b := false) hd.out ?_)
      refine (lev_b _ (HT.out.below HB5.out)).mono ?_
      rintro e w6 ⟨rfl, hb6⟩
      have HB6 := Lib.hid (below_t HB5.out hb6)
      have H6 := Lib.hid (H5.out.below hb6)
      clear hb6
      go_wp2_with fail
      go_loopw [5, 20] (fun v5 v20 wr => ∃ j : Nat, v20 = .int .i64 (j : Nat) ∧ v5 = .int .u8 (least n j : Nat) ∧ j ≤ 4 ∧ Blk wr b TN (vals (gv n 4)) ∧ Below w.heap.size w wr) (fun _ v _ => 4 - (intOf v).toNat)
      case atStart => exact ⟨0, rfl, rfl, by omega, H6.out, HB6.out⟩
      case round =>
        obtain ⟨j, rfl, rfl, hj, hr, hbr⟩ := hrel
        have HR := Lib.hid hr
        have HBR := Lib.hid hbr
        have HLE := Lib.hid (least_le n j)
        by_cases hjl : j < 4
        · have hjI : (j : Int) < 4 := by omega
          have hj6I : (j : Int) < 6 := by omega
          have HWR := Lib.hid (show wrap64 ((j : Int) + 1) = ((j + 1 : Nat) : Int) by rw [wr64 (by omega) (by omega)]; omega)
          obtain ⟨⟨k, l⟩, hc1⟩ : ∃ c, (gv n 4).sd j = c := ⟨_, rfl⟩
          have HC1 := Lib.hid hc1
          have c0 := hr.cell (g_sk (gv n 4) (d := j) (by omega))
          have c1 := hr.cell (g_sl (gv n 4) (d := j) (by omega))
          rw [hc1] at c0 c1
          obtain ⟨q, hq⟩ : ∃ q, least n j = q := ⟨_, rfl⟩
          rw [hq]
          have HQ := Lib.hid hq
          clear hr hbr hc1 hq
          cases hg : gives n j with
          | true =>
            have HG := Lib.hid hg
            have hw : wet (k, l) = true := by rw [← HC1.out, gv_wet (by omega), hg]
            have HL := Lib.hid (show least n (j + 1) = min q l from by
              have e := gv_at (n := n) (d := j) (by omega)
              rw [hg, if_pos rfl, HC1.out] at e
              rw [least_yes hg, HQ.out, ← e])
            clear hg
            go_wp2_with fail
            refine (isWater_c hw).mono ?_
            rintro e w8 ⟨rfl, hb8⟩
            have h8 : Blk w8 wr.heap.size TC [.int .u8 (k : Int), .int .u8 (l : Int)] := Blk.below (by (repeat' (first | (with_reducible refine BlkP.Blk.drew ?_) | (with_reducible refine BlkP.Blk.drewN ?_ _) | (with_reducible refine BlkP.Blk.setAt (us := ?_) (by first | omega | (simp; done) | (simp; omega)) rfl ?_ ?_) | (with_reducible refine BlkP.Blk.otherAt ?_ (by first | omega | (simp; done) | (simp; omega))) | (with_reducible refine BlkP.Blk.newA' (by first | omega | (simp; done) | (simp; omega)) rfl) | (with_reducible refine BlkP.Blk.alloc ?_ _) | (exact rfl)))) hb8
            have HB8 := Lib.hid (show Below wr.heap.size wr w8 by (repeat' (first | (with_reducible exact Below.refl _ _) | (with_reducible refine Below.setCell ?_ (by (first | omega | (simp; done) | (simp; omega))) _) | (with_reducible refine Below.alloc ?_ (by (first | omega | (simp; done) | (simp; omega))) _) | (with_reducible refine Below.drew ?_) | (with_reducible refine below_drewN ?_ _) | (with_reducible refine Below.trans ?_ (Below.mono hb8 (by (first | omega | (simp; done) | (simp; omega))))))))
            have a0 := h8.cell (i := 0) rfl
            have a1 := h8.cell (i := 1) rfl
            clear hb8 hw h8 c0 c1
            go_wp2_with fail
            go_roundw
            case rel => exact ⟨j + 1, by first | rfl | rw [HWR.out] | (congr 1; omega), by rw [HL.out]; congr 1; omega, by omega, HR.out.below HB8.out, below_t HBR.out HB8.out⟩
            case measure =>
              simp only [intOf]
              omega
          | false =>
            have hw : wet (k, l) = false := by rw [← HC1.out, gv_wet (by omega), hg]
            have HL := Lib.hid (show least n (j + 1) = q from by rw [least_no hg, HQ.out])
            clear hg
            go_wp2_with fail
            refine (isWater_c hw).mono ?_
            rintro e w8 ⟨rfl, hb8⟩
            have HB8 := Lib.hid (show Below wr.heap.size wr w8 by (repeat' (first | (with_reducible exact Below.refl _ _) | (with_reducible refine Below.setCell ?_ (by (first | omega | (simp; done) | (simp; omega))) _) | (with_reducible refine Below.alloc ?_ (by (first | omega | (simp; done) | (simp; omega))) _) | (with_reducible refine Below.drew ?_) | (with_reducible refine below_drewN ?_ _) | (with_reducible refine Below.trans ?_ (Below.mono hb8 (by (first | omega | (simp; done) | (simp; omega))))))))
            clear hb8 hw c0 c1
            go_wp2_with fail
            go_roundw
            case rel => exact ⟨j + 1, by first | rfl | rw [HWR.out] | (congr 1; omega), by rw [HL.out], by omega, HR.out.below HB8.out, below_t HBR.out HB8.out⟩
            case measure =>
              simp only [intOf]
              omega
        · have hje : j = 4 := by omega
          have hjI : ¬ (j : Int) < 4 := by omega
          subst hje
          obtain ⟨q, hq⟩ : ∃ q, least n 4 = q := ⟨_, rfl⟩
          have HQ := Lib.hid hq
          have hq7 : q < 7 := by
            have h1 := H7.out
            have h2 := HLE.out
            omega
          rw [hq]
          clear hr hbr hq
          go_wp2_with fail
          go_ret2
          exact ⟨by rw [wantV, HW2.out, HQ.out]; rfl, HBR.out⟩
end FlowW
end Go.Proofs.YtlahkmkipciiiaaDoor
