/-
  FallSteps: step by step a column's first cell comes down by as many cells as is told, and all others stay.
-/
import Derived.Test.YtlcnhommlcdilaaDoorFallRef
namespace Go.Proofs.YtlcnhommlcdilaaDoor
open Go.RowKit
set_option linter.unusedVariables false
set_option linter.unusedSimpArgs false
namespace FallW
open BlkP RowG FrS PushG CellsW NearW
open FallP hiding Cl
theorem down_at {l : List Cl} {j i : Nat} {c0 : Cl} (h : j < l.length) (h0 : l[0]? = some c0) : (down l j)[i]? = if i < j then some (0, 0) else if i = j then some c0 else l[i]? := by
  have h1 : l.take 1 = [c0] := by
    cases l with
    | nil => simp at h
    | cons x r =>
      obtain rfl : x = c0 := by simpa using h0
      simp
  simp only [down, h1]
  by_cases a : i < j
  · rw [List.getElem?_append_left (by rw [List.length_replicate]; exact a), if_pos a, List.getElem?_replicate, if_pos a]
  · rw [List.getElem?_append_right (by rw [List.length_replicate]; omega), List.length_replicate, if_neg a]
    by_cases b : i = j
    · rw [if_pos b, b, Nat.sub_self]
      rfl
    · rw [if_neg b, List.getElem?_append_right (by simp; omega), List.getElem?_drop]
      congr 1
      simp
      omega
theorem lands_end {l : List Cl} {j : Nat} {c0 : Cl} (h0 : l[0]? = some c0) (hj : j < l.length) (hall : ∀ i y, i < j → l[i + 1]? = some y → yields y = true) (hf : 0 < j → falls c0 = true) (he : ∀ x, l[j + 1]? = some x → (falls c0 && yields x) = false) : lands l = j := by
  cases l with
  | nil => simp at hj
  | cons y r =>
    obtain rfl : y = c0 := by simpa using h0
    simp only [lands]
    cases hfc : falls y with
    | false =>
      have : j = 0 := by
        apply Classical.byContradiction
        intro q
        have := hf (by omega)
        rw [hfc] at this
        cases this
      simp [this]
    | true =>
      simp only [if_true]
      refine lead_is (by simpa using Nat.le_of_lt_succ (by simpa using hj)) (fun i x hi hx => hall i x hi (by simpa using hx)) (fun x hx => ?_)
      have := he x (by simpa using hx)
      simpa [hfc] using this
theorem own_set2 {w : World} {B g n c i i2 : Nat} {l : List Cl} {x y : Cl} (h : RowG.Own encK TK w B (.slice (some ⟨g, 0, none⟩) n c) l) (hx : l[i]? = some x) (hi : i2 = i * 2) :
    RowG.Own encK TK ((w.setCell ⟨g, i2, none⟩ (.int .u8 (y.1 : Int))).setCell ⟨g, i2 + 1, none⟩ (.int .u8 (y.2 : Int))) B (.slice (some ⟨g, 0, none⟩) n c) (l.set i y) := by
  subst hi
  have h1 := (h.store (i := i) (j := 0) (y := (y.1, x.2)) (u := .int .u8 (y.1 : Int)) hx (by decide) rfl).1
  have h2 := (h1.store (i := i) (j := 1) (x := (y.1, x.2)) (y := y) (u := .int .u8 (y.2 : Int)) (by
    rw [List.getElem?_set_self (List.getElem?_eq_some_iff.1 hx).1]) (by decide) rfl).1
  rw [List.set_set] at h2
  exact h2
set_option maxRecDepth 100000 in
set_option maxHeartbeats 64000000 in
theorem law_steps {w : World} {A : Option Addr} {n c : Nat} {l : List Cl} (hT : KindW.Tab w) (hR : Rd encK w (.slice A n c) l) (hn : l.length = n) : Calls Tryd.prog 6 #[.slice A n c] w fun e w' => e = .returned (.bool true) ∧ Below w.heap.size w w' := by
  have HT := Lib.hid hT
  have HR := Lib.hid hR
  have HN := Lib.hid hn
  obtain ⟨s, hs⟩ : ∃ s, w.heap.size = s := ⟨_, rfl⟩
  have HS := Lib.hid hs
  clear hT hR hn
  by_cases h0 : n = 0
  · have h0I : (n : Int) = 0 := by omega
    have h0b : ((n : Int) == 0) = true := by simp; omega
    go_enter Tryd.func6, Tryd.ntmps6
    go_wp2_with fail
    refine (awake_c HT.out).mono ?_
    rintro e w9 ⟨rfl, hb9⟩
    have HBZ := Lib.hid hb9
    clear hb9
    go_wp2_with fail
    go_ret
    exact ⟨rfl, HBZ.out⟩
  have h0I : ¬ (n : Int) = 0 := by omega
  have h0b : ((n : Int) == 0) = false := by simp; omega
  by_cases h200 : 200 < n
  · have h2I : (200 : Int) < (n : Int) := by omega
    go_enter Tryd.func6, Tryd.ntmps6
    go_wp2_with fail
    refine (awake_c HT.out).mono ?_
    rintro e w9 ⟨rfl, hb9⟩
    have HBZ := Lib.hid hb9
    clear hb9
    go_wp2_with fail
    go_ret
    exact ⟨rfl, HBZ.out⟩
  have h2I : ¬ (200 : Int) < (n : Int) := by omega
  have hnI : (n : Int) ≤ 200 := by omega
  have hn0 : 0 < n := by omega
  have hn200 : n ≤ 200 := by omega
  have hd2 : decide ((200 : Int) < (n : Int)) = false := by simp; omega
  obtain ⟨⟨k0, v0⟩, hx0⟩ : ∃ x, l[0]? = some x := ⟨_, List.getElem?_eq_getElem (by rw [HN.out]; exact hn0)⟩
  have HX0 := Lib.hid hx0
  obtain ⟨b, o, hA, hlt, hc⟩ := HR.out.at hx0
  subst hA
  clear hc hx0 h0 h200
  go_enter Tryd.func6, Tryd.ntmps6
  go_wp2_with ((with_reducible refine at_slot 20 ?_); refine Classical.byContradiction (fun hG => ?_))
  refine hG ?_
  clear hG
  try rw [hs]
  refine wp_appK (B := s) (l0 := []) (l := l) rfl (.tmp 18) (.tmp 19) rfl (v := .slice (some ⟨s, 0, none⟩) 0 0) (by first | rfl | (rw [hs]; rfl)) rfl (by have q := own_made w; rw [hs] at q; exact q) (HR.out.below (by (repeat' (first | (with_reducible exact Below.refl _ _) | (with_reducible refine Below.setCell ?_ (by (first | omega | (simp; done) | (simp; omega))) _) | (with_reducible refine Below.alloc ?_ (by (first | omega | (simp; done) | (simp; omega))) _) | (with_reducible refine Below.drew ?_) | (with_reducible refine below_drewN ?_ _))))) HN.out.symm (by simp; omega) (by simp; omega) ?_
  intro v' w1 ho hg
  rw [List.nil_append] at ho
  obtain ⟨A2, c2, rfl, _, _, hA2⟩ := ho.form (n := n) HN.out
  obtain ⟨g, rfl, hg1, hg2⟩ := hA2 hn0
  have HB1 := Lib.hid (show Below w.heap.size w w1 from Below.grown (by (repeat' (first | (with_reducible exact Below.refl _ _) | (with_reducible refine Below.setCell ?_ (by (first | omega | (simp; done) | (simp; omega))) _) | (with_reducible refine Below.alloc ?_ (by (first | omega | (simp; done) | (simp; omega))) _) | (with_reducible refine Below.drew ?_) | (with_reducible refine below_drewN ?_ _)))) hg (by simp) (fun q hq => by
    have : s = q := by simpa [Value.ownBlock] using hq
    omega))
  have HO1 := Lib.hid ho
  have HG := Lib.hid (show s ≤ g from hg1)
  clear ho hg hA2 hg1 hg2 hs
  go_wp2_with fail
  go_loopw [4, 5, 6] (fun v4 _ _ wr => ∃ j : Nat, v4 = .int .i64 (j : Nat) ∧ j < n ∧ (∀ i y, i < j → l[i + 1]? = some y → yields y = true) ∧ (0 < j → falls (k0, v0) = true) ∧ RowG.Own encK TK wr s (.slice (some ⟨g, 0, none⟩) n c2) (down l j) ∧ Below w.heap.size w wr) (fun v _ _ _ => n - (intOf v).toNat)
  case atStart =>
    refine ⟨0, rfl, hn0, fun i y hi _ => by omega, fun h => by omega, ?_, HB1.out⟩
    rw [down_zero (by
      intro q
      have := HN.out
      rw [q] at this
      simp at this
      omega)]
    exact HO1.out
  case round =>
    obtain ⟨j, rfl, hj, hall, hf, hrow, hbr⟩ := hrel
    have HALL := Lib.hid hall
    have HF := Lib.hid hf
    have HROW := Lib.hid hrow
    have HBR := Lib.hid hbr
    have hzr := hbr.size
    have hgr : g < wr.heap.size := (hrow.ge g rfl).2
    obtain ⟨j1, hj1⟩ : ∃ j1, j + 1 = j1 := ⟨_, rfl⟩
    have HJ1 := Lib.hid hj1
    have hj1I : (j : Int) + 1 = (j1 : Int) := by omega
    have hj1b : (j1 : Int) ≤ 200 := by omega
    have hjn : (j : Int) < (n : Int) := by omega
    have hj200 : (j : Int) < 200 := by omega
    have HWR := Lib.hid (show wrap64 ((j : Int) + 1) = (j1 : Int) by rw [wr64 (by omega) (by omega)]; omega)
    by_cases hjl : j1 < n
    · have hjI : (j1 : Int) < (n : Int) := by omega
      obtain ⟨⟨kx, vx⟩, hx⟩ : ∃ x, l[j1]? = some x := ⟨_, List.getElem?_eq_getElem (by rw [HN.out]; exact hjl)⟩
      have HX := Lib.hid hx
      have HDJ := Lib.hid (show (down l j)[j]? = some (k0, v0) from by
        rw [down_at (by rw [HN.out]; exact hj) HX0.out, if_neg (by omega), if_pos rfl])
      have HDJ1 := Lib.hid (show (down l j)[j1]? = some (kx, vx) from by
        rw [down_at (by rw [HN.out]; exact hj) HX0.out, if_neg (by omega), if_neg (by omega)]
        exact HX.out)
      have p0 : wr.cell? ⟨g, j * 2, none⟩ = some (.int .u8 (k0 : Int)) := hrow.cell (i := j) (j := 0) HDJ.out rfl
      have p1 : wr.cell? ⟨g, j * 2 + 1, none⟩ = some (.int .u8 (v0 : Int)) := hrow.cell (i := j) (j := 1) HDJ.out rfl
      obtain ⟨M, hM⟩ : ∃ M, wr.heap.size = M := ⟨_, rfl⟩
      have HM := Lib.hid hM
      clear hx hall hf hrow hbr hj1
      go_wp2_with ((with_reducible refine at_storeN ?_); refine Classical.byContradiction (fun hG => ?_))
      refine hG ?_
      clear hG
      refine list_named (S := fun W => Below wr.heap.size wr W ∧ Blk W M TN (vals nz)) ⟨by (repeat' (first | (with_reducible exact Below.refl _ _) | (with_reducible refine Below.setCell ?_ (by (first | omega | (simp; done) | (simp; omega))) _) | (with_reducible refine Below.alloc ?_ (by (first | omega | (simp; done) | (simp; omega))) _) | (with_reducible refine Below.drew ?_) | (with_reducible refine below_drewN ?_ _))), by subst hM; (repeat' (first | (with_reducible refine BlkP.Blk.drew ?_) | (with_reducible refine BlkP.Blk.drewN ?_ _) | (with_reducible refine BlkP.Blk.setAt (us := ?_) (by first | omega | (simp; done) | (simp; omega)) rfl ?_ ?_) | (with_reducible refine BlkP.Blk.otherAt ?_ (by first | omega | (simp; done) | (simp; omega))) | (with_reducible refine BlkP.Blk.newA' (by first | omega | (simp; done) | (simp; omega)) rfl) | (with_reducible refine BlkP.Blk.alloc ?_ _) | (exact rfl)))⟩ ?_
      rintro w2 ⟨hb2, hm2⟩
      try rw [hM]
      refine wp_storeN rfl (.tmp 5) (.tmp 30) rfl rfl (n := {nz with s := (k0, v0)}) rfl hm2 rfl ?_
      intro w3 h3 hg3 hz3
      have HB3 := Lib.hid (show Below wr.heap.size wr w3 from hb2.grown hg3 hb2.size (fun q hq => by injection hq with hq; omega))
      have H3 := Lib.hid h3
      have ho3 := HROW.out.below HB3.out
      have q0 : w3.cell? ⟨g, j1 * 2, none⟩ = some (.int .u8 (kx : Int)) := ho3.cell (i := j1) (j := 0) HDJ1.out rfl
      have q1 : w3.cell? ⟨g, j1 * 2 + 1, none⟩ = some (.int .u8 (vx : Int)) := ho3.cell (i := j1) (j := 1) HDJ1.out rfl
      have m12 : w3.cell? ⟨M, 12, none⟩ = some (.int .u8 0) := h3.cell rfl
      have m13 : w3.cell? ⟨M, 13, none⟩ = some (.int .u8 0) := h3.cell rfl
      have f12 := h3.frozen 12
      have f13 := h3.frozen 13
      have lm3 := h3.lt
      have hgM : g ≠ M := by omega
      have hg3' : g < w3.heap.size := by have := HB3.out.size; omega
      clear hb2 hm2 h3 hg3 hz3 ho3 p0 p1 hM
      go_wp2_with ((with_reducible refine at_slot 38 ?_); refine Classical.byContradiction (fun hG => ?_))
      refine hG ?_
      clear hG
      obtain ⟨m, hm⟩ : ∃ m, ({nz with s := (k0, v0), sd := upd nz.sd 5 (kx, vx)} : Nr) = m := ⟨_, rfl⟩
      have HMM := Lib.hid (show nextD m = if falls (k0, v0) && yields (kx, vx) then [(6, (k0, v0)), (0, (0, 0))] else [] from by rw [← hm]; rfl)
      refine list_named (S := fun W => Below wr.heap.size wr W ∧ Blk W M TN (vals m)) ⟨by have := HM.out; (repeat' (first | (with_reducible exact Below.refl _ _) | (with_reducible refine Below.setCell ?_ (by (first | omega | (simp; done) | (simp; omega))) _) | (with_reducible refine Below.alloc ?_ (by (first | omega | (simp; done) | (simp; omega))) _) | (with_reducible refine Below.drew ?_) | (with_reducible refine below_drewN ?_ _) | (with_reducible refine Below.trans ?_ (Below.mono HB3.out (by (first | omega | (simp; done) | (simp; omega))))))), by rw [← hm]; exact (H3.out.set _ _).setTo rfl⟩ ?_
      rintro w4 ⟨hb4, hm4⟩
      have HB4 := Lib.hid hb4
      clear q0 q1 m12 m13 f12 f13 lm3 hm hb4 hgM hg3'
      refine wp_loadN rfl (.tmp 5) rfl rfl (n := m) hm4 ?_
      clear hm4
      go_wp2_with fail
      refine (Next_c (HT.out.below (below_t HBR.out HB4.out))).mono ?_
      rintro e w6 ⟨v, rfl, hod, hb6⟩
      have HB6 := Lib.hid (below_t HB4.out hb6)
      have HBW := Lib.hid (below_t HBR.out HB6.out)
      have HO6 := Lib.hid (HROW.out.below HB6.out)
      have hz46 := hb6.size
      have hz4 := HB4.out.size
      have hg6 : g < w6.heap.size := by omega
      have hgn6 : g ≠ w6.heap.size := by omega
      clear hb6
      rw [HMM.out] at hod
      cases hfy : falls (k0, v0) && yields (kx, vx) with
      | false =>
        rw [hfy] at hod
        simp only [Bool.false_eq_true, if_false] at hod
        obtain ⟨A8, c8, rfl, _, _, _⟩ := hod.form (n := 0) rfl
        have HL := Lib.hid (show lands l = j from lands_end HX0.out (by rw [HN.out]; exact hj) HALL.out HF.out (fun x hx => by
          rw [HJ1.out] at hx
          obtain rfl : (kx, vx) = x := Option.some.inj (HX.out.symm.trans hx)
          exact hfy))
        clear hod hfy
        go_wp2_with fail
        refine calls_named (S := fun W => Below w6.heap.size w6 W) (by (repeat' (first | (with_reducible exact Below.refl _ _) | (with_reducible refine Below.setCell ?_ (by (first | omega | (simp; done) | (simp; omega))) _) | (with_reducible refine Below.alloc ?_ (by (first | omega | (simp; done) | (simp; omega))) _) | (with_reducible refine Below.drew ?_) | (with_reducible refine below_drewN ?_ _)))) ?_
        rintro w7 hb7
        have HB7 := Lib.hid (below_t HBW.out hb7)
        have HO7 := Lib.hid (HO6.out.below hb7)
        clear hb7 hz46 hz4 hgr hzr hg6 hgn6
        refine (Lands_c (m := j) (HT.out.below HB7.out) (HR.out.below HB7.out) HN.out (by omega) HL.out).mono ?_
        rintro e w8 ⟨rfl, hb8⟩
        have HB8 := Lib.hid (below_t HB7.out hb8)
        have HO8 := Lib.hid (HO7.out.below hb8)
        clear hb8
        go_wp2_with fail
        go_loopw [7, 8] (fun v7 _ wt => ∃ i : Nat, v7 = .int .i64 (i : Nat) ∧ i ≤ n ∧ Below w8.heap.size w8 wt) (fun v _ _ => n - (intOf v).toNat)
        case atStart => exact ⟨0, rfl, by omega, Below.refl _ _⟩
        case round =>
          obtain ⟨i, rfl, hi, hbt⟩ := hrel
          have HBT := Lib.hid hbt
          have hzt := hbt.size
          by_cases hil : i < n
          · have hiI : (i : Int) < (n : Int) := by omega
            have hi200 : (i : Int) < 200 := by omega
            have HWI := Lib.hid (show wrap64 ((i : Int) + 1) = ((i + 1 : Nat) : Int) by rw [wr64 (by omega) (by omega)]; omega)
            obtain ⟨⟨ki, vi⟩, hxi⟩ : ∃ x, l[i]? = some x := ⟨_, List.getElem?_eq_getElem (by rw [HN.out]; exact hil)⟩
            have HXI := Lib.hid hxi
            have hRW := (HR.out.below HB8.out).below hbt
            obtain ⟨b1, o1, hA1, hlt1, hc1⟩ := hRW.at hxi
            injection hA1 with hA1
            injection hA1 with hA11 hA12
            subst hA11 hA12
            have x0 : wr.cell? ⟨b, o + i * 2, none⟩ = some (.int .u8 (ki : Int)) := hc1 0 _ rfl
            have x1 : wr.cell? ⟨b, o + i * 2 + 1, none⟩ = some (.int .u8 (vi : Int)) := hc1 1 _ rfl
            obtain ⟨⟨kd1, vd1⟩, hdi⟩ : ∃ q, (down l j)[i]? = some q := ⟨_, List.getElem?_eq_getElem (by rw [down_len (by rw [HN.out]; exact hj), HN.out]; exact hil)⟩
            have HDI := Lib.hid hdi
            obtain ⟨C, hC⟩ : ∃ C, wr.heap.size = C := ⟨_, rfl⟩
            have HC := Lib.hid hC
            have hbC : b < C := by omega
            have hbC2 : b ≠ C := by omega
            have hda := down_at (l := l) (j := j) (i := i) (by rw [HN.out]; exact hj) HX0.out
            rw [hdi] at hda
            have HDA := Lib.hid hda
            have HROWT := Lib.hid (HO8.out.below hbt)
            clear hc1 hbt hxi hdi hda
            by_cases hij : i = j
            · have hijI : (i : Int) = (j : Int) := by omega
              have hijb : ((i : Int) == (j : Int)) = true := by simp; omega
              have HV := Lib.hid (show (kd1, vd1) = (k0, v0) from by
                have := HDA.out
                rw [if_neg (by omega), if_pos hij] at this
                exact Option.some.inj this)
              obtain ⟨b1, o1, hA1, hlt2, hc1⟩ := hRW.at HX0.out
              injection hA1 with hA1
              injection hA1 with hA11 hA12
              subst hA11 hA12
              have y0 : wr.cell? ⟨b, o, none⟩ = some (.int .u8 (k0 : Int)) := by simpa using hc1 0 _ rfl
              have y1 : wr.cell? ⟨b, o + 1, none⟩ = some (.int .u8 (v0 : Int)) := by simpa using hc1 1 _ rfl
              clear hc1 hRW hijI hij
              go_wp2_with fail
              refine HeldP.wp_named (S := fun W => Below wr.heap.size wr W ∧ Blk W C TC [.int .u8 (kd1 : Int), .int .u8 (vd1 : Int)]) ⟨by (repeat' (first | (with_reducible exact Below.refl _ _) | (with_reducible refine Below.setCell ?_ (by (first | omega | (simp; done) | (simp; omega))) _) | (with_reducible refine Below.alloc ?_ (by (first | omega | (simp; done) | (simp; omega))) _) | (with_reducible refine Below.drew ?_) | (with_reducible refine below_drewN ?_ _))), by
                obtain ⟨rfl, rfl⟩ : kd1 = k0 ∧ vd1 = v0 := by simpa using HV.out
                subst hC
                (repeat' (first | (with_reducible refine BlkP.Blk.drew ?_) | (with_reducible refine BlkP.Blk.drewN ?_ _) | (with_reducible refine BlkP.Blk.setAt (us := ?_) (by first | omega | (simp; done) | (simp; omega)) rfl ?_ ?_) | (with_reducible refine BlkP.Blk.otherAt ?_ (by first | omega | (simp; done) | (simp; omega))) | (with_reducible refine BlkP.Blk.newA' (by first | omega | (simp; done) | (simp; omega)) rfl) | (with_reducible refine BlkP.Blk.alloc ?_ _) | (exact rfl)))⟩ ?_
              rintro wx ⟨hbx, hcx⟩
              try rw [hC]
              have HBX := Lib.hid (below_t HBT.out hbx)
              have hox := HROWT.out.below hbx
              have z0 : wx.cell? ⟨g, i * 2, none⟩ = some (.int .u8 (kd1 : Int)) := hox.cell (i := i) (j := 0) HDI.out rfl
              have z1 : wx.cell? ⟨g, i * 2 + 1, none⟩ = some (.int .u8 (vd1 : Int)) := hox.cell (i := i) (j := 1) HDI.out rfl
              have zc0 := hcx.cell (i := 0) rfl
              have zc1 := hcx.cell (i := 1) rfl
              have hgx : g < wx.heap.size := (hox.ge g rfl).2
              have hCx := hcx.lt
              clear hbx hcx hox x0 x1 hC hbC hbC2 hlt1 y0 y1
              refine wp_region_noPanic ?_
              refine wp_region_held_drew (S := fun W => Below wx.heap.size wx W) (by kernel_rfl) ((Below.refl _ wx).drew) (fun hHeld => ?_)
              refine wpAnyH_take (i := 0) (oi := ⟨some 107, _, _, _, _, _⟩) (v := .slice (some ⟨g, 0, none⟩) n c2) rfl (by kernel_rfl) (by kernel_rfl) (by kernel_rfl) (fun _ _ _ h => h) (Or.inl ⟨by rfl, fun W hSW => by go_simp⟩) hHeld ?_
              simp only [Act.put, List.setIfInBounds_toArray, List.set_cons_zero, List.set_cons_succ]
              refine wpAnyH_take (i := 1) (oi := ⟨some 108, _, _, _, _, _⟩) (v := .int .i64 (i : Int)) rfl (by kernel_rfl) (by kernel_rfl) (by kernel_rfl) (fun _ _ _ h => h) (Or.inl ⟨by rfl, fun W hSW => by go_simp⟩) hHeld ?_
              simp only [Act.put, List.setIfInBounds_toArray, List.set_cons_zero, List.set_cons_succ]
              refine wpAnyH_take (i := 2) (oi := ⟨some 109, _, _, _, _, _⟩) (v := .pointer (some ⟨g, i * 2, none⟩)) rfl (by kernel_rfl) (by kernel_rfl) (by kernel_rfl) (fun _ _ _ h => h) (Or.inl ⟨by rfl, fun W hSW => by go_simp⟩) hHeld ?_
              simp only [Act.put, List.setIfInBounds_toArray, List.set_cons_zero, List.set_cons_succ]
              refine wpAnyH_take (i := 3) (oi := ⟨some 110, _, _, _, _, _⟩) (v := .agg #[.int .u8 (kd1 : Int), .int .u8 (vd1 : Int)]) rfl (by kernel_rfl) (by kernel_rfl) (by kernel_rfl) (fun _ _ _ h => h) (Or.inl ⟨by rfl, fun W hSW => by have a0 := (hSW.cell (p := ⟨g, i * 2, none⟩) hgx).trans z0; have a1 := (hSW.cell (p := ⟨g, i * 2 + 1, none⟩) hgx).trans z1; go_simp⟩) hHeld ?_
              simp only [Act.put, List.setIfInBounds_toArray, List.set_cons_zero, List.set_cons_succ]
              refine wpAnyH_take (i := 4) (oi := ⟨some 111, _, _, _, _, _⟩) (v := .agg #[.int .u8 (kd1 : Int), .int .u8 (vd1 : Int)]) rfl (by kernel_rfl) (by kernel_rfl) (by kernel_rfl) (fun _ _ _ h => h) (Or.inl ⟨by rfl, fun W hSW => by have a0 := (hSW.cell (p := ⟨C, 0, none⟩) hCx).trans zc0; have a1 := (hSW.cell (p := ⟨C, 1, none⟩) hCx).trans zc1; go_simp⟩) hHeld ?_
              simp only [Act.put, List.setIfInBounds_toArray, List.set_cons_zero, List.set_cons_succ]
              refine wpAnyH_take (i := 5) (oi := ⟨some 112, _, _, _, _, _⟩) (v := .bool false) rfl (by kernel_rfl) (by kernel_rfl) (by kernel_rfl) (fun _ _ _ h => h) (Or.inl ⟨by rfl, fun W hSW => by go_simp⟩) hHeld ?_
              simp only [Act.put, List.setIfInBounds_toArray, List.set_cons_zero, List.set_cons_succ]
              refine wpAnyH_done (by kernel_rfl) ?_ _
              refine NoPanic.normal ?_
              refine HeldP.then_named (S := fun W => Below wx.heap.size wx W) hHeld ?_
              rintro X0 hx0
              have HXX := Lib.hid (below_t HBX.out hx0)
              clear hHeld hx0 z0 z1 zc0 zc1 hgx hCx
              go_wp2_with fail
              go_roundw
              case rel => exact ⟨i + 1, by first | rfl | rw [HWI.out], by omega, HXX.out⟩
              case measure =>
                simp only [intOf]
                omega
            · have hijI : ¬ (i : Int) = (j : Int) := by omega
              have hijb : ((i : Int) == (j : Int)) = false := by simp; omega
              clear hRW
              by_cases hlj : i < j
              · have hljI : (i : Int) < (j : Int) := by omega
                have HV := Lib.hid (show (kd1, vd1) = (0, 0) from by
                  have := HDA.out
                  rw [if_pos hlj] at this
                  exact Option.some.inj this)
                go_wp2_with fail
                refine HeldP.wp_named (S := fun W => Below wr.heap.size wr W ∧ Blk W C TC [.int .u8 (kd1 : Int), .int .u8 (vd1 : Int)]) ⟨by (repeat' (first | (with_reducible exact Below.refl _ _) | (with_reducible refine Below.setCell ?_ (by (first | omega | (simp; done) | (simp; omega))) _) | (with_reducible refine Below.alloc ?_ (by (first | omega | (simp; done) | (simp; omega))) _) | (with_reducible refine Below.drew ?_) | (with_reducible refine below_drewN ?_ _))), by
                  obtain ⟨rfl, rfl⟩ : kd1 = 0 ∧ vd1 = 0 := by simpa using HV.out
                  subst hC
                  (repeat' (first | (with_reducible refine BlkP.Blk.drew ?_) | (with_reducible refine BlkP.Blk.drewN ?_ _) | (with_reducible refine BlkP.Blk.setAt (us := ?_) (by first | omega | (simp; done) | (simp; omega)) rfl ?_ ?_) | (with_reducible refine BlkP.Blk.otherAt ?_ (by first | omega | (simp; done) | (simp; omega))) | (with_reducible refine BlkP.Blk.newA' (by first | omega | (simp; done) | (simp; omega)) rfl) | (with_reducible refine BlkP.Blk.alloc ?_ _) | (exact rfl)))⟩ ?_
                rintro wx ⟨hbx, hcx⟩
                try rw [hC]
                have HBX := Lib.hid (below_t HBT.out hbx)
                have hox := HROWT.out.below hbx
                have z0 : wx.cell? ⟨g, i * 2, none⟩ = some (.int .u8 (kd1 : Int)) := hox.cell (i := i) (j := 0) HDI.out rfl
                have z1 : wx.cell? ⟨g, i * 2 + 1, none⟩ = some (.int .u8 (vd1 : Int)) := hox.cell (i := i) (j := 1) HDI.out rfl
                have zc0 := hcx.cell (i := 0) rfl
                have zc1 := hcx.cell (i := 1) rfl
                have hgx : g < wx.heap.size := (hox.ge g rfl).2
                have hCx := hcx.lt
                clear hbx hcx hox x0 x1 hC hbC hbC2 hlt1
                refine wp_region_noPanic ?_
                refine wp_region_held_drew (S := fun W => Below wx.heap.size wx W) (by kernel_rfl) ((Below.refl _ wx).drew) (fun hHeld => ?_)
                refine wpAnyH_take (i := 0) (oi := ⟨some 107, _, _, _, _, _⟩) (v := .slice (some ⟨g, 0, none⟩) n c2) rfl (by kernel_rfl) (by kernel_rfl) (by kernel_rfl) (fun _ _ _ h => h) (Or.inl ⟨by rfl, fun W hSW => by go_simp⟩) hHeld ?_
                simp only [Act.put, List.setIfInBounds_toArray, List.set_cons_zero, List.set_cons_succ]
                refine wpAnyH_take (i := 1) (oi := ⟨some 108, _, _, _, _, _⟩) (v := .int .i64 (i : Int)) rfl (by kernel_rfl) (by kernel_rfl) (by kernel_rfl) (fun _ _ _ h => h) (Or.inl ⟨by rfl, fun W hSW => by go_simp⟩) hHeld ?_
                simp only [Act.put, List.setIfInBounds_toArray, List.set_cons_zero, List.set_cons_succ]
                refine wpAnyH_take (i := 2) (oi := ⟨some 109, _, _, _, _, _⟩) (v := .pointer (some ⟨g, i * 2, none⟩)) rfl (by kernel_rfl) (by kernel_rfl) (by kernel_rfl) (fun _ _ _ h => h) (Or.inl ⟨by rfl, fun W hSW => by go_simp⟩) hHeld ?_
                simp only [Act.put, List.setIfInBounds_toArray, List.set_cons_zero, List.set_cons_succ]
                refine wpAnyH_take (i := 3) (oi := ⟨some 110, _, _, _, _, _⟩) (v := .agg #[.int .u8 (kd1 : Int), .int .u8 (vd1 : Int)]) rfl (by kernel_rfl) (by kernel_rfl) (by kernel_rfl) (fun _ _ _ h => h) (Or.inl ⟨by rfl, fun W hSW => by have a0 := (hSW.cell (p := ⟨g, i * 2, none⟩) hgx).trans z0; have a1 := (hSW.cell (p := ⟨g, i * 2 + 1, none⟩) hgx).trans z1; go_simp⟩) hHeld ?_
                simp only [Act.put, List.setIfInBounds_toArray, List.set_cons_zero, List.set_cons_succ]
                refine wpAnyH_take (i := 4) (oi := ⟨some 111, _, _, _, _, _⟩) (v := .agg #[.int .u8 (kd1 : Int), .int .u8 (vd1 : Int)]) rfl (by kernel_rfl) (by kernel_rfl) (by kernel_rfl) (fun _ _ _ h => h) (Or.inl ⟨by rfl, fun W hSW => by have a0 := (hSW.cell (p := ⟨C, 0, none⟩) hCx).trans zc0; have a1 := (hSW.cell (p := ⟨C, 1, none⟩) hCx).trans zc1; go_simp⟩) hHeld ?_
                simp only [Act.put, List.setIfInBounds_toArray, List.set_cons_zero, List.set_cons_succ]
                refine wpAnyH_take (i := 5) (oi := ⟨some 112, _, _, _, _, _⟩) (v := .bool false) rfl (by kernel_rfl) (by kernel_rfl) (by kernel_rfl) (fun _ _ _ h => h) (Or.inl ⟨by rfl, fun W hSW => by go_simp⟩) hHeld ?_
                simp only [Act.put, List.setIfInBounds_toArray, List.set_cons_zero, List.set_cons_succ]
                refine wpAnyH_done (by kernel_rfl) ?_ _
                refine NoPanic.normal ?_
                refine HeldP.then_named (S := fun W => Below wx.heap.size wx W) hHeld ?_
                rintro X0 hx0
                have HXX := Lib.hid (below_t HBX.out hx0)
                clear hHeld hx0 z0 z1 zc0 zc1 hgx hCx
                go_wp2_with fail
                go_roundw
                case rel => exact ⟨i + 1, by first | rfl | rw [HWI.out], by omega, HXX.out⟩
                case measure =>
                  simp only [intOf]
                  omega
              · have hljI : ¬ (i : Int) < (j : Int) := by omega
                have HV := Lib.hid (show (kd1, vd1) = (ki, vi) from by
                  have := HDA.out
                  rw [if_neg hlj, if_neg hij] at this
                  exact Option.some.inj (this.trans HXI.out))
                go_wp2_with fail
                refine HeldP.wp_named (S := fun W => Below wr.heap.size wr W ∧ Blk W C TC [.int .u8 (kd1 : Int), .int .u8 (vd1 : Int)]) ⟨by (repeat' (first | (with_reducible exact Below.refl _ _) | (with_reducible refine Below.setCell ?_ (by (first | omega | (simp; done) | (simp; omega))) _) | (with_reducible refine Below.alloc ?_ (by (first | omega | (simp; done) | (simp; omega))) _) | (with_reducible refine Below.drew ?_) | (with_reducible refine below_drewN ?_ _))), by
                  obtain ⟨rfl, rfl⟩ : kd1 = ki ∧ vd1 = vi := by simpa using HV.out
                  subst hC
                  (repeat' (first | (with_reducible refine BlkP.Blk.drew ?_) | (with_reducible refine BlkP.Blk.drewN ?_ _) | (with_reducible refine BlkP.Blk.setAt (us := ?_) (by first | omega | (simp; done) | (simp; omega)) rfl ?_ ?_) | (with_reducible refine BlkP.Blk.otherAt ?_ (by first | omega | (simp; done) | (simp; omega))) | (with_reducible refine BlkP.Blk.newA' (by first | omega | (simp; done) | (simp; omega)) rfl) | (with_reducible refine BlkP.Blk.alloc ?_ _) | (exact rfl)))⟩ ?_
                rintro wx ⟨hbx, hcx⟩
                try rw [hC]
                have HBX := Lib.hid (below_t HBT.out hbx)
                have hox := HROWT.out.below hbx
                have z0 : wx.cell? ⟨g, i * 2, none⟩ = some (.int .u8 (kd1 : Int)) := hox.cell (i := i) (j := 0) HDI.out rfl
                have z1 : wx.cell? ⟨g, i * 2 + 1, none⟩ = some (.int .u8 (vd1 : Int)) := hox.cell (i := i) (j := 1) HDI.out rfl
                have zc0 := hcx.cell (i := 0) rfl
                have zc1 := hcx.cell (i := 1) rfl
                have hgx : g < wx.heap.size := (hox.ge g rfl).2
                have hCx := hcx.lt
                clear hbx hcx hox x0 x1 hC hbC hbC2 hlt1
                refine wp_region_noPanic ?_
                refine wp_region_held_drew (S := fun W => Below wx.heap.size wx W) (by kernel_rfl) ((Below.refl _ wx).drew) (fun hHeld => ?_)
                refine wpAnyH_take (i := 0) (oi := ⟨some 107, _, _, _, _, _⟩) (v := .slice (some ⟨g, 0, none⟩) n c2) rfl (by kernel_rfl) (by kernel_rfl) (by kernel_rfl) (fun _ _ _ h => h) (Or.inl ⟨by rfl, fun W hSW => by go_simp⟩) hHeld ?_
                simp only [Act.put, List.setIfInBounds_toArray, List.set_cons_zero, List.set_cons_succ]
                refine wpAnyH_take (i := 1) (oi := ⟨some 108, _, _, _, _, _⟩) (v := .int .i64 (i : Int)) rfl (by kernel_rfl) (by kernel_rfl) (by kernel_rfl) (fun _ _ _ h => h) (Or.inl ⟨by rfl, fun W hSW => by go_simp⟩) hHeld ?_
                simp only [Act.put, List.setIfInBounds_toArray, List.set_cons_zero, List.set_cons_succ]
                refine wpAnyH_take (i := 2) (oi := ⟨some 109, _, _, _, _, _⟩) (v := .pointer (some ⟨g, i * 2, none⟩)) rfl (by kernel_rfl) (by kernel_rfl) (by kernel_rfl) (fun _ _ _ h => h) (Or.inl ⟨by rfl, fun W hSW => by go_simp⟩) hHeld ?_
                simp only [Act.put, List.setIfInBounds_toArray, List.set_cons_zero, List.set_cons_succ]
                refine wpAnyH_take (i := 3) (oi := ⟨some 110, _, _, _, _, _⟩) (v := .agg #[.int .u8 (kd1 : Int), .int .u8 (vd1 : Int)]) rfl (by kernel_rfl) (by kernel_rfl) (by kernel_rfl) (fun _ _ _ h => h) (Or.inl ⟨by rfl, fun W hSW => by have a0 := (hSW.cell (p := ⟨g, i * 2, none⟩) hgx).trans z0; have a1 := (hSW.cell (p := ⟨g, i * 2 + 1, none⟩) hgx).trans z1; go_simp⟩) hHeld ?_
                simp only [Act.put, List.setIfInBounds_toArray, List.set_cons_zero, List.set_cons_succ]
                refine wpAnyH_take (i := 4) (oi := ⟨some 111, _, _, _, _, _⟩) (v := .agg #[.int .u8 (kd1 : Int), .int .u8 (vd1 : Int)]) rfl (by kernel_rfl) (by kernel_rfl) (by kernel_rfl) (fun _ _ _ h => h) (Or.inl ⟨by rfl, fun W hSW => by have a0 := (hSW.cell (p := ⟨C, 0, none⟩) hCx).trans zc0; have a1 := (hSW.cell (p := ⟨C, 1, none⟩) hCx).trans zc1; go_simp⟩) hHeld ?_
                simp only [Act.put, List.setIfInBounds_toArray, List.set_cons_zero, List.set_cons_succ]
                refine wpAnyH_take (i := 5) (oi := ⟨some 112, _, _, _, _, _⟩) (v := .bool false) rfl (by kernel_rfl) (by kernel_rfl) (by kernel_rfl) (fun _ _ _ h => h) (Or.inl ⟨by rfl, fun W hSW => by go_simp⟩) hHeld ?_
                simp only [Act.put, List.setIfInBounds_toArray, List.set_cons_zero, List.set_cons_succ]
                refine wpAnyH_done (by kernel_rfl) ?_ _
                refine NoPanic.normal ?_
                refine HeldP.then_named (S := fun W => Below wx.heap.size wx W) hHeld ?_
                rintro X0 hx0
                have HXX := Lib.hid (below_t HBX.out hx0)
                clear hHeld hx0 z0 z1 zc0 zc1 hgx hCx
                go_wp2_with fail
                go_roundw
                case rel => exact ⟨i + 1, by first | rfl | rw [HWI.out], by omega, HXX.out⟩
                case measure =>
                  simp only [intOf]
                  omega
          · have hiI : ¬ (i : Int) < (n : Int) := by omega
            have HB9 := Lib.hid (below_t HB8.out hbt)
            clear hbt
            go_wp2_with fail
            refine (awake_c (HT.out.below HB9.out)).mono ?_
            rintro e w9 ⟨rfl, hb9⟩
            have HBZ := Lib.hid (below_t HB9.out hb9)
            clear hb9
            go_wp2_with fail
            go_ret
            exact ⟨rfl, HBZ.out⟩
      | true =>
        rw [hfy] at hod
        simp only [if_true] at hod
        have hfy2 : falls (k0, v0) = true ∧ yields (kx, vx) = true := by simpa using hfy
        have HFY := Lib.hid hfy2
        obtain ⟨A8, c8, rfl, _, _, hA8⟩ := hod.form (n := 2) rfl
        obtain ⟨g8, rfl, hg81, hg82⟩ := hA8 (by omega)
        have e0 : w6.cell? ⟨g8, 0, none⟩ = some (.int .i64 6) := hod.cell (i := 0) (j := 0) rfl rfl
        have e3 : w6.cell? ⟨g8, 3, none⟩ = some (.int .i64 0) := hod.cell (i := 1) (j := 0) rfl rfl
        have HOD := Lib.hid hod
        have hg8n : g8 ≠ w6.heap.size := by omega
        clear hod hfy hfy2 hA8
        go_wp2_with ((with_reducible refine at_slot 67 ?_); refine Classical.byContradiction (fun hG => ?_))
        refine hG ?_
        clear hG
        refine list_named (S := fun W => Below w6.heap.size w6 W ∧ Blk W w6.heap.size TD [.slice (some ⟨g8, 0, none⟩) 2 c8, .int .i64 0, .int .i64 0]) ⟨by (repeat' (first | (with_reducible exact Below.refl _ _) | (with_reducible refine Below.setCell ?_ (by (first | omega | (simp; done) | (simp; omega))) _) | (with_reducible refine Below.alloc ?_ (by (first | omega | (simp; done) | (simp; omega))) _) | (with_reducible refine Below.drew ?_) | (with_reducible refine below_drewN ?_ _))), by (repeat' (first | (with_reducible refine BlkP.Blk.drew ?_) | (with_reducible refine BlkP.Blk.drewN ?_ _) | (with_reducible refine BlkP.Blk.setAt (us := ?_) (by first | omega | (simp; done) | (simp; omega)) rfl ?_ ?_) | (with_reducible refine BlkP.Blk.otherAt ?_ (by first | omega | (simp; done) | (simp; omega))) | (with_reducible refine BlkP.Blk.newA' (by first | omega | (simp; done) | (simp; omega)) rfl) | (with_reducible refine BlkP.Blk.alloc ?_ _) | (exact rfl)))⟩ ?_
        rintro w7 ⟨hb7, he7⟩
        have HB7 := Lib.hid (below_t HBW.out hb7)
        have HO7 := Lib.hid (HO6.out.below hb7)
        have hd7 := HOD.out.below hb7
        have d1 : w7.cell? ⟨g8, 1, none⟩ = some (.int .u8 (k0 : Int)) := hd7.cell (i := 0) (j := 1) rfl rfl
        have d2 : w7.cell? ⟨g8, 2, none⟩ = some (.int .u8 (v0 : Int)) := hd7.cell (i := 0) (j := 2) rfl rfl
        have d4 : w7.cell? ⟨g8, 4, none⟩ = some (.int .u8 0) := hd7.cell (i := 1) (j := 1) rfl rfl
        have d5 : w7.cell? ⟨g8, 5, none⟩ = some (.int .u8 0) := hd7.cell (i := 1) (j := 2) rfl rfl
        have x0 := he7.cell (i := 0) rfl
        have p0 : w7.cell? ⟨g, j * 2, none⟩ = some (.int .u8 (k0 : Int)) := HO7.out.cell (i := j) (j := 0) HDJ.out rfl
        have p1 : w7.cell? ⟨g, j * 2 + 1, none⟩ = some (.int .u8 (v0 : Int)) := HO7.out.cell (i := j) (j := 1) HDJ.out rfl
        have q0 : w7.cell? ⟨g, j1 * 2, none⟩ = some (.int .u8 (kx : Int)) := HO7.out.cell (i := j1) (j := 0) HDJ1.out rfl
        have q1 : w7.cell? ⟨g, j1 * 2 + 1, none⟩ = some (.int .u8 (vx : Int)) := HO7.out.cell (i := j1) (j := 1) HDJ1.out rfl
        have fq0 := HO7.out.frozen (j1 * 2)
        have fq1 := HO7.out.frozen (j1 * 2 + 1)
        have fp0 := HO7.out.frozen (j * 2)
        have fp1 := HO7.out.frozen (j * 2 + 1)
        have hgg8 : g ≠ g8 := by omega
        have hg8g : g8 ≠ g := by omega
        have hgE : g ≠ w6.heap.size := by omega
        have hEg : w6.heap.size ≠ g := by omega
        have hlg : g < w7.heap.size := (HO7.out.ge g rfl).2
        have hlg8 : g8 < w7.heap.size := (hd7.ge g8 rfl).2
        have hlE : w6.heap.size < w7.heap.size := he7.lt
        clear hb7 he7 hd7 e0 e3 hg8n hg81 hg82 hz46 hz4 hzr hg6 hgn6
        go_wp2_with fail
        go_roundw
        case rel =>
          refine ⟨j1, by first | rfl | rw [HWR.out], hjl, fun i y hi hy => ?_, fun _ => HFY.out.1, ?_, ?_⟩
          · by_cases hij : i < j
            · exact HALL.out i y hij hy
            · obtain rfl : i = j := by have := HJ1.out; omega
              rw [HJ1.out] at hy
              obtain rfl : (kx, vx) = y := Option.some.inj (HX.out.symm.trans hy)
              exact HFY.out.2
          · have h1 := own_set2 (i2 := j1 * 2) (y := (k0, v0)) HO7.out HDJ1.out rfl
            have h2 := own_set2 (i := j) (i2 := j * 2) (x := (k0, v0)) (y := (0, 0)) h1 (by
              rw [List.getElem?_set_ne (by have := HJ1.out; omega)]
              exact HDJ.out) rfl
            have e := down_step (l := l) (n := j) (c := (k0, v0)) (by rw [HN.out, HJ1.out]; exact hjl) HX0.out
            rw [HJ1.out] at e
            rw [e] at h2
            exact h2
          · have h1 := HG.out
            have h2 := HS.out
            exact (((HB7.out.setCell (by simp; omega) _).setCell (by simp; omega) _).setCell (by simp; omega) _).setCell (by simp; omega) _
        case measure =>
          simp only [intOf]
          omega
    · have hjI : ¬ (j1 : Int) < (n : Int) := by omega
      have HL := Lib.hid (show lands l = j from lands_end HX0.out (by rw [HN.out]; exact hj) HALL.out HF.out (fun x hx => by
        have := (List.getElem?_eq_some_iff.1 hx).1
        have := HN.out
        have := HJ1.out
        omega))
      have HB7 := Lib.hid hbr
      have HO7 := Lib.hid hrow
      clear hall hf hrow hbr hj1 hgr hzr
      go_wp2_with fail
      refine (Lands_c (m := j) (HT.out.below HB7.out) (HR.out.below HB7.out) HN.out (by omega) HL.out).mono ?_
      rintro e w8 ⟨rfl, hb8⟩
      have HB8 := Lib.hid (below_t HB7.out hb8)
      have HO8 := Lib.hid (HO7.out.below hb8)
      clear hb8
      go_wp2_with fail
      go_loopw [7, 8] (fun v7 _ wt => ∃ i : Nat, v7 = .int .i64 (i : Nat) ∧ i ≤ n ∧ Below w8.heap.size w8 wt) (fun v _ _ => n - (intOf v).toNat)
      case atStart => exact ⟨0, rfl, by omega, Below.refl _ _⟩
      case round =>
        obtain ⟨i, rfl, hi, hbt⟩ := hrel
        have HBT := Lib.hid hbt
        have hzt := hbt.size
        by_cases hil : i < n
        · have hiI : (i : Int) < (n : Int) := by omega
          have hi200 : (i : Int) < 200 := by omega
          have HWI := Lib.hid (show wrap64 ((i : Int) + 1) = ((i + 1 : Nat) : Int) by rw [wr64 (by omega) (by omega)]; omega)
          obtain ⟨⟨ki, vi⟩, hxi⟩ : ∃ x, l[i]? = some x := ⟨_, List.getElem?_eq_getElem (by rw [HN.out]; exact hil)⟩
          have HXI := Lib.hid hxi
          have hRW := (HR.out.below HB8.out).below hbt
          obtain ⟨b1, o1, hA1, hlt1, hc1⟩ := hRW.at hxi
          injection hA1 with hA1
          injection hA1 with hA11 hA12
          subst hA11 hA12
          have x0 : wr.cell? ⟨b, o + i * 2, none⟩ = some (.int .u8 (ki : Int)) := hc1 0 _ rfl
          have x1 : wr.cell? ⟨b, o + i * 2 + 1, none⟩ = some (.int .u8 (vi : Int)) := hc1 1 _ rfl
          obtain ⟨⟨kd1, vd1⟩, hdi⟩ : ∃ q, (down l j)[i]? = some q := ⟨_, List.getElem?_eq_getElem (by rw [down_len (by rw [HN.out]; exact hj), HN.out]; exact hil)⟩
          have HDI := Lib.hid hdi
          obtain ⟨C, hC⟩ : ∃ C, wr.heap.size = C := ⟨_, rfl⟩
          have HC := Lib.hid hC
          have hbC : b < C := by omega
          have hbC2 : b ≠ C := by omega
          have hda := down_at (l := l) (j := j) (i := i) (by rw [HN.out]; exact hj) HX0.out
          rw [hdi] at hda
          have HDA := Lib.hid hda
          have HROWT := Lib.hid (HO8.out.below hbt)
          clear hc1 hbt hxi hdi hda
          by_cases hij : i = j
          · have hijI : (i : Int) = (j : Int) := by omega
            have hijb : ((i : Int) == (j : Int)) = true := by simp; omega
            have HV := Lib.hid (show (kd1, vd1) = (k0, v0) from by
              have := HDA.out
              rw [if_neg (by omega), if_pos hij] at this
              exact Option.some.inj this)
            obtain ⟨b1, o1, hA1, hlt2, hc1⟩ := hRW.at HX0.out
            injection hA1 with hA1
            injection hA1 with hA11 hA12
            subst hA11 hA12
            have y0 : wr.cell? ⟨b, o, none⟩ = some (.int .u8 (k0 : Int)) := by simpa using hc1 0 _ rfl
            have y1 : wr.cell? ⟨b, o + 1, none⟩ = some (.int .u8 (v0 : Int)) := by simpa using hc1 1 _ rfl
            clear hc1 hRW hijI hij
            go_wp2_with fail
            refine HeldP.wp_named (S := fun W => Below wr.heap.size wr W ∧ Blk W C TC [.int .u8 (kd1 : Int), .int .u8 (vd1 : Int)]) ⟨by (repeat' (first | (with_reducible exact Below.refl _ _) | (with_reducible refine Below.setCell ?_ (by (first | omega | (simp; done) | (simp; omega))) _) | (with_reducible refine Below.alloc ?_ (by (first | omega | (simp; done) | (simp; omega))) _) | (with_reducible refine Below.drew ?_) | (with_reducible refine below_drewN ?_ _))), by
              obtain ⟨rfl, rfl⟩ : kd1 = k0 ∧ vd1 = v0 := by simpa using HV.out
              subst hC
              (repeat' (first | (with_reducible refine BlkP.Blk.drew ?_) | (with_reducible refine BlkP.Blk.drewN ?_ _) | (with_reducible refine BlkP.Blk.setAt (us := ?_) (by first | omega | (simp; done) | (simp; omega)) rfl ?_ ?_) | (with_reducible refine BlkP.Blk.otherAt ?_ (by first | omega | (simp; done) | (simp; omega))) | (with_reducible refine BlkP.Blk.newA' (by first | omega | (simp; done) | (simp; omega)) rfl) | (with_reducible refine BlkP.Blk.alloc ?_ _) | (exact rfl)))⟩ ?_
            rintro wx ⟨hbx, hcx⟩
            try rw [hC]
            have HBX := Lib.hid (below_t HBT.out hbx)
            have hox := HROWT.out.below hbx
            have z0 : wx.cell? ⟨g, i * 2, none⟩ = some (.int .u8 (kd1 : Int)) := hox.cell (i := i) (j := 0) HDI.out rfl
            have z1 : wx.cell? ⟨g, i * 2 + 1, none⟩ = some (.int .u8 (vd1 : Int)) := hox.cell (i := i) (j := 1) HDI.out rfl
            have zc0 := hcx.cell (i := 0) rfl
            have zc1 := hcx.cell (i := 1) rfl
            have hgx : g < wx.heap.size := (hox.ge g rfl).2
            have hCx := hcx.lt
            clear hbx hcx hox x0 x1 hC hbC hbC2 hlt1 y0 y1
            refine wp_region_noPanic ?_
            refine wp_region_held_drew (S := fun W => Below wx.heap.size wx W) (by kernel_rfl) ((Below.refl _ wx).drew) (fun hHeld => ?_)
            refine wpAnyH_take (i := 0) (oi := ⟨some 107, _, _, _, _, _⟩) (v := .slice (some ⟨g, 0, none⟩) n c2) rfl (by kernel_rfl) (by kernel_rfl) (by kernel_rfl) (fun _ _ _ h => h) (Or.inl ⟨by rfl, fun W hSW => by go_simp⟩) hHeld ?_
            simp only [Act.put, List.setIfInBounds_toArray, List.set_cons_zero, List.set_cons_succ]
            refine wpAnyH_take (i := 1) (oi := ⟨some 108, _, _, _, _, _⟩) (v := .int .i64 (i : Int)) rfl (by kernel_rfl) (by kernel_rfl) (by kernel_rfl) (fun _ _ _ h => h) (Or.inl ⟨by rfl, fun W hSW => by go_simp⟩) hHeld ?_
            simp only [Act.put, List.setIfInBounds_toArray, List.set_cons_zero, List.set_cons_succ]
            refine wpAnyH_take (i := 2) (oi := ⟨some 109, _, _, _, _, _⟩) (v := .pointer (some ⟨g, i * 2, none⟩)) rfl (by kernel_rfl) (by kernel_rfl) (by kernel_rfl) (fun _ _ _ h => h) (Or.inl ⟨by rfl, fun W hSW => by go_simp⟩) hHeld ?_
            simp only [Act.put, List.setIfInBounds_toArray, List.set_cons_zero, List.set_cons_succ]
            refine wpAnyH_take (i := 3) (oi := ⟨some 110, _, _, _, _, _⟩) (v := .agg #[.int .u8 (kd1 : Int), .int .u8 (vd1 : Int)]) rfl (by kernel_rfl) (by kernel_rfl) (by kernel_rfl) (fun _ _ _ h => h) (Or.inl ⟨by rfl, fun W hSW => by have a0 := (hSW.cell (p := ⟨g, i * 2, none⟩) hgx).trans z0; have a1 := (hSW.cell (p := ⟨g, i * 2 + 1, none⟩) hgx).trans z1; go_simp⟩) hHeld ?_
            simp only [Act.put, List.setIfInBounds_toArray, List.set_cons_zero, List.set_cons_succ]
            refine wpAnyH_take (i := 4) (oi := ⟨some 111, _, _, _, _, _⟩) (v := .agg #[.int .u8 (kd1 : Int), .int .u8 (vd1 : Int)]) rfl (by kernel_rfl) (by kernel_rfl) (by kernel_rfl) (fun _ _ _ h => h) (Or.inl ⟨by rfl, fun W hSW => by have a0 := (hSW.cell (p := ⟨C, 0, none⟩) hCx).trans zc0; have a1 := (hSW.cell (p := ⟨C, 1, none⟩) hCx).trans zc1; go_simp⟩) hHeld ?_
            simp only [Act.put, List.setIfInBounds_toArray, List.set_cons_zero, List.set_cons_succ]
            refine wpAnyH_take (i := 5) (oi := ⟨some 112, _, _, _, _, _⟩) (v := .bool false) rfl (by kernel_rfl) (by kernel_rfl) (by kernel_rfl) (fun _ _ _ h => h) (Or.inl ⟨by rfl, fun W hSW => by go_simp⟩) hHeld ?_
            simp only [Act.put, List.setIfInBounds_toArray, List.set_cons_zero, List.set_cons_succ]
            refine wpAnyH_done (by kernel_rfl) ?_ _
            refine NoPanic.normal ?_
            refine HeldP.then_named (S := fun W => Below wx.heap.size wx W) hHeld ?_
            rintro X0 hx0
            have HXX := Lib.hid (below_t HBX.out hx0)
            clear hHeld hx0 z0 z1 zc0 zc1 hgx hCx
            go_wp2_with fail
            go_roundw
            case rel => exact ⟨i + 1, by first | rfl | rw [HWI.out], by omega, HXX.out⟩
            case measure =>
              simp only [intOf]
              omega
          · have hijI : ¬ (i : Int) = (j : Int) := by omega
            have hijb : ((i : Int) == (j : Int)) = false := by simp; omega
            clear hRW
            by_cases hlj : i < j
            · have hljI : (i : Int) < (j : Int) := by omega
              have HV := Lib.hid (show (kd1, vd1) = (0, 0) from by
                have := HDA.out
                rw [if_pos hlj] at this
                exact Option.some.inj this)
              go_wp2_with fail
              refine HeldP.wp_named (S := fun W => Below wr.heap.size wr W ∧ Blk W C TC [.int .u8 (kd1 : Int), .int .u8 (vd1 : Int)]) ⟨by (repeat' (first | (with_reducible exact Below.refl _ _) | (with_reducible refine Below.setCell ?_ (by (first | omega | (simp; done) | (simp; omega))) _) | (with_reducible refine Below.alloc ?_ (by (first | omega | (simp; done) | (simp; omega))) _) | (with_reducible refine Below.drew ?_) | (with_reducible refine below_drewN ?_ _))), by
                obtain ⟨rfl, rfl⟩ : kd1 = 0 ∧ vd1 = 0 := by simpa using HV.out
                subst hC
                (repeat' (first | (with_reducible refine BlkP.Blk.drew ?_) | (with_reducible refine BlkP.Blk.drewN ?_ _) | (with_reducible refine BlkP.Blk.setAt (us := ?_) (by first | omega | (simp; done) | (simp; omega)) rfl ?_ ?_) | (with_reducible refine BlkP.Blk.otherAt ?_ (by first | omega | (simp; done) | (simp; omega))) | (with_reducible refine BlkP.Blk.newA' (by first | omega | (simp; done) | (simp; omega)) rfl) | (with_reducible refine BlkP.Blk.alloc ?_ _) | (exact rfl)))⟩ ?_
              rintro wx ⟨hbx, hcx⟩
              try rw [hC]
              have HBX := Lib.hid (below_t HBT.out hbx)
              have hox := HROWT.out.below hbx
              have z0 : wx.cell? ⟨g, i * 2, none⟩ = some (.int .u8 (kd1 : Int)) := hox.cell (i := i) (j := 0) HDI.out rfl
              have z1 : wx.cell? ⟨g, i * 2 + 1, none⟩ = some (.int .u8 (vd1 : Int)) := hox.cell (i := i) (j := 1) HDI.out rfl
              have zc0 := hcx.cell (i := 0) rfl
              have zc1 := hcx.cell (i := 1) rfl
              have hgx : g < wx.heap.size := (hox.ge g rfl).2
              have hCx := hcx.lt
              clear hbx hcx hox x0 x1 hC hbC hbC2 hlt1
              refine wp_region_noPanic ?_
              refine wp_region_held_drew (S := fun W => Below wx.heap.size wx W) (by kernel_rfl) ((Below.refl _ wx).drew) (fun hHeld => ?_)
              refine wpAnyH_take (i := 0) (oi := ⟨some 107, _, _, _, _, _⟩) (v := .slice (some ⟨g, 0, none⟩) n c2) rfl (by kernel_rfl) (by kernel_rfl) (by kernel_rfl) (fun _ _ _ h => h) (Or.inl ⟨by rfl, fun W hSW => by go_simp⟩) hHeld ?_
              simp only [Act.put, List.setIfInBounds_toArray, List.set_cons_zero, List.set_cons_succ]
              refine wpAnyH_take (i := 1) (oi := ⟨some 108, _, _, _, _, _⟩) (v := .int .i64 (i : Int)) rfl (by kernel_rfl) (by kernel_rfl) (by kernel_rfl) (fun _ _ _ h => h) (Or.inl ⟨by rfl, fun W hSW => by go_simp⟩) hHeld ?_
              simp only [Act.put, List.setIfInBounds_toArray, List.set_cons_zero, List.set_cons_succ]
              refine wpAnyH_take (i := 2) (oi := ⟨some 109, _, _, _, _, _⟩) (v := .pointer (some ⟨g, i * 2, none⟩)) rfl (by kernel_rfl) (by kernel_rfl) (by kernel_rfl) (fun _ _ _ h => h) (Or.inl ⟨by rfl, fun W hSW => by go_simp⟩) hHeld ?_
              simp only [Act.put, List.setIfInBounds_toArray, List.set_cons_zero, List.set_cons_succ]
              refine wpAnyH_take (i := 3) (oi := ⟨some 110, _, _, _, _, _⟩) (v := .agg #[.int .u8 (kd1 : Int), .int .u8 (vd1 : Int)]) rfl (by kernel_rfl) (by kernel_rfl) (by kernel_rfl) (fun _ _ _ h => h) (Or.inl ⟨by rfl, fun W hSW => by have a0 := (hSW.cell (p := ⟨g, i * 2, none⟩) hgx).trans z0; have a1 := (hSW.cell (p := ⟨g, i * 2 + 1, none⟩) hgx).trans z1; go_simp⟩) hHeld ?_
              simp only [Act.put, List.setIfInBounds_toArray, List.set_cons_zero, List.set_cons_succ]
              refine wpAnyH_take (i := 4) (oi := ⟨some 111, _, _, _, _, _⟩) (v := .agg #[.int .u8 (kd1 : Int), .int .u8 (vd1 : Int)]) rfl (by kernel_rfl) (by kernel_rfl) (by kernel_rfl) (fun _ _ _ h => h) (Or.inl ⟨by rfl, fun W hSW => by have a0 := (hSW.cell (p := ⟨C, 0, none⟩) hCx).trans zc0; have a1 := (hSW.cell (p := ⟨C, 1, none⟩) hCx).trans zc1; go_simp⟩) hHeld ?_
              simp only [Act.put, List.setIfInBounds_toArray, List.set_cons_zero, List.set_cons_succ]
              refine wpAnyH_take (i := 5) (oi := ⟨some 112, _, _, _, _, _⟩) (v := .bool false) rfl (by kernel_rfl) (by kernel_rfl) (by kernel_rfl) (fun _ _ _ h => h) (Or.inl ⟨by rfl, fun W hSW => by go_simp⟩) hHeld ?_
              simp only [Act.put, List.setIfInBounds_toArray, List.set_cons_zero, List.set_cons_succ]
              refine wpAnyH_done (by kernel_rfl) ?_ _
              refine NoPanic.normal ?_
              refine HeldP.then_named (S := fun W => Below wx.heap.size wx W) hHeld ?_
              rintro X0 hx0
              have HXX := Lib.hid (below_t HBX.out hx0)
              clear hHeld hx0 z0 z1 zc0 zc1 hgx hCx
              go_wp2_with fail
              go_roundw
              case rel => exact ⟨i + 1, by first | rfl | rw [HWI.out], by omega, HXX.out⟩
              case measure =>
                simp only [intOf]
                omega
            · have hljI : ¬ (i : Int) < (j : Int) := by omega
              have HV := Lib.hid (show (kd1, vd1) = (ki, vi) from by
                have := HDA.out
                rw [if_neg hlj, if_neg hij] at this
                exact Option.some.inj (this.trans HXI.out))
              exfalso
              omega
        · have hiI : ¬ (i : Int) < (n : Int) := by omega
          have HB9 := Lib.hid (below_t HB8.out hbt)
          clear hbt
          go_wp2_with fail
          refine (awake_c (HT.out.below HB9.out)).mono ?_
          rintro e w9 ⟨rfl, hb9⟩
          have HBZ := Lib.hid (below_t HB9.out hb9)
          clear hb9
          go_wp2_with fail
          go_ret
          exact ⟨rfl, HBZ.out⟩
end FallW
end Go.Proofs.YtlcnhommlcdilaaDoor
