/-
  BurnCounts: what fire, and what a plant, says of movable cells is by how many more there are behind it.
-/
import Derived.Test.YtlidcefmpoelkaaDoorBurnLaw1
namespace Go.Proofs.YtlidcefmpoelkaaDoor
open Go.RowKit
set_option linter.unusedVariables false
set_option linter.unusedSimpArgs false
namespace BurnW
open BlkP RowG FrS PushG CellsW NearW BurnP
theorem more_app (n : Nr) (x : Nat × Cl) : ∀ l, more n (l ++ [x]) = more n l + (mv x.2.1 - mv (was n x.1).1)
  | [] => by simp [more]
  | y :: r => by
    simp only [List.cons_append, more]
    rw [more_app n x r]
    omega
theorem more_abs (n : Nr) : ∀ l : List (Nat × Cl), -(l.length : Int) ≤ more n l ∧ more n l ≤ (l.length : Int)
  | [] => by simp [more]
  | y :: r => by
    have h := more_abs n r
    have a := mv_le y.2.1
    have b := mv_le (was n y.1).1
    simp only [more, List.length_cons]
    omega
theorem mv_b {k : Nat} {b : Bool} (h : KindP.movable k = b) : mv k = if b then 1 else 0 := by
  unfold mv
  rw [h]
set_option maxRecDepth 100000 in
set_option maxHeartbeats 16000000 in
theorem lcounted_c {w : World} {n : Nr} {A : Option Addr} {k c : Nat} {ag dl : Int} {L : List (Nat × Cl)} (hT : KindW.Tab w) (hR : Rd encX w (.slice A k c) L) (hk : L.length = k) (hk1 : k ≤ 100) (hd : ∀ x ∈ L, x.1 ≤ 6) :
    Calls Tryd.prog 18 #[nv n, .agg #[.slice A k c, .int .i64 ag, .int .i64 dl]] w fun e w' => e = .returned (.int .i64 (more n L)) ∧ Below w.heap.size w w' := by
  have HT := Lib.hid hT
  have HR := Lib.hid hR
  have HK := Lib.hid hk
  have HD6 := Lib.hid hd
  have hk1I : (k : Int) ≤ 100 := by omega
  obtain ⟨s, hs⟩ : ∃ s, w.heap.size = s := ⟨_, rfl⟩
  have HS := Lib.hid hs
  clear hT hR hk hd
  go_enter Tryd.func18, Tryd.ntmps18
  go_wp2_with ((with_reducible refine at_slot 2 ?_); refine Classical.byContradiction (fun hG => ?_))
  refine hG ?_
  clear hG
  refine wp_boxN rfl (.tmp 0) rfl rfl ?_
  intro w1 h1 hb1 hz1
  rw [hs] at h1 hz1
  try rw [hs]
  go_wp2_with fail
  refine HeldP.wp_named (S := fun W => Below w.heap.size w W ∧ Blk W s TN (vals n) ∧ Blk W (s + 1) TD [.slice A k c, .int .i64 ag, .int .i64 dl]) ⟨by (repeat' (first | (with_reducible exact Below.refl _ _) | (with_reducible refine Below.setCell ?_ (by (first | omega | (simp; done) | (simp; omega))) _) | (with_reducible refine Below.alloc ?_ (by (first | omega | (simp; done) | (simp; omega))) _) | (with_reducible refine Below.drew ?_) | (with_reducible refine below_drewN ?_ _) | (with_reducible refine Below.trans ?_ (Below.mono hb1 (by (first | omega | (simp; done) | (simp; omega))))))), by (repeat' (first | (with_reducible exact h1) | (with_reducible refine BlkP.Blk.drew ?_) | (with_reducible refine BlkP.Blk.drewN ?_ _) | (with_reducible refine BlkP.Blk.setAt (us := ?_) (by first | omega | (simp; done) | (simp; omega)) rfl ?_ ?_) | (with_reducible refine BlkP.Blk.otherAt ?_ (by first | omega | (simp; done) | (simp; omega))) | (with_reducible refine BlkP.Blk.newA' (by first | omega | (simp; done) | (simp; omega)) rfl) | (with_reducible refine BlkP.Blk.alloc ?_ _) | (exact rfl))), by (repeat' (first | (with_reducible refine BlkP.Blk.drew ?_) | (with_reducible refine BlkP.Blk.drewN ?_ _) | (with_reducible refine BlkP.Blk.setAt (us := ?_) (by first | omega | (simp; done) | (simp; omega)) rfl ?_ ?_) | (with_reducible refine BlkP.Blk.otherAt ?_ (by first | omega | (simp; done) | (simp; omega))) | (with_reducible refine BlkP.Blk.newA' (by first | omega | (simp; done) | (simp; omega)) rfl) | (with_reducible refine BlkP.Blk.alloc ?_ _) | (exact rfl)))⟩ ?_
  clear hb1 h1
  rintro w2 ⟨hb2, h2, hr2⟩
  have HB2 := Lib.hid hb2
  have H2 := Lib.hid h2
  have HR2 := Lib.hid hr2
  try rw [hz1]
  clear hb2 h2 hr2 hz1
  go_loopw [5, 6, 7, 8] (fun v5 v6 _ _ wr => ∃ j : Nat, v6 = .int .i64 (j : Nat) ∧ v5 = .int .i64 (more n (L.take j)) ∧ j ≤ k ∧ Below w2.heap.size w2 wr) (fun _ v _ _ _ => k - (intOf v).toNat)
  case atStart => exact ⟨0, rfl, rfl, by omega, Below.refl _ _⟩
  case round =>
    obtain ⟨j, rfl, rfl, hj, hbr⟩ := hrel
    have HBR := Lib.hid hbr
    have HB9 := Lib.hid (below_t HB2.out hbr)
    have H9 := H2.out.below hbr
    have HR9 := HR2.out.below hbr
    have r0 := HR9.cell (i := 0) rfl
    have rl := HR9.lt
    by_cases hjl : j < k
    · have hjI : (j : Int) < (k : Int) := by omega
      have hj1 : (j : Int) < 100 := by omega
      have HWR := Lib.hid (show wrap64 ((j : Int) + 1) = ((j + 1 : Nat) : Int) by rw [wr64 (by omega) (by omega)]; omega)
      obtain ⟨⟨d, kk, mm⟩, hx⟩ : ∃ x, L[j]? = some x := ⟨_, List.getElem?_eq_getElem (by rw [HK.out]; exact hjl)⟩
      have hd6 : d ≤ 6 := HD6.out _ (List.mem_of_getElem? hx)
      obtain ⟨b, o, hA, hlt, hc⟩ := (HR.out.below HB9.out).at hx
      subst hA
      have p0 : wr.cell? ⟨b, o + j * 3, none⟩ = some (.int .i64 (d : Int)) := hc 0 _ rfl
      have p1 : wr.cell? ⟨b, o + j * 3 + 1, none⟩ = some (.int .u8 (kk : Int)) := hc 1 _ rfl
      have p2 : wr.cell? ⟨b, o + j * 3 + 2, none⟩ = some (.int .u8 (mm : Int)) := hc 2 _ rfl
      obtain ⟨⟨ko, lo⟩, hold⟩ : ∃ c, was n d = c := ⟨_, rfl⟩
      obtain ⟨X, hX⟩ : ∃ X, more n (L.take j) = X := ⟨_, rfl⟩
      have hXb := more_abs n (L.take j)
      rw [hX, List.length_take] at hXb
      have hX1 : -100 ≤ X := by omega
      have hX2 : X ≤ 100 := by omega
      rw [hX]
      have HM := Lib.hid (show more n (L.take (j + 1)) = X + (mv kk - mv ko) from by
        rw [List.take_add_one, hx, Option.toList_some, more_app, hX, hold])
      obtain ⟨fk, hfk⟩ : ∃ r, KindP.movable kk = r := ⟨_, rfl⟩
      obtain ⟨fo, hfo⟩ : ∃ r, KindP.movable ko = r := ⟨_, rfl⟩
      have HFK := Lib.hid hfk
      have HFO := Lib.hid hfo
      have c0 := H9.cell (i := 0) (g_kind n)
      have c1 := H9.cell (i := 1) (g_lev n)
      have ls := H9.lt
      obtain ⟨bx, hbx⟩ : ∃ b, wr.heap.size = b := ⟨_, rfl⟩
      rw [hbx] at hlt ls rl
      by_cases h0 : d = 0
      · have hw : n.s = (ko, lo) := by
          rw [← hold]
          unfold was
          rw [if_neg (by omega)]
        have hdI : ¬ (1 : Int) ≤ (d : Int) := by omega
        rw [hw] at c0 c1
        simp only at c0 c1
        clear hbr hc hx hX hold hfk hfo hw h0 H9 HR9 hXb hjl
        go_wp2_with ((with_reducible refine at_slot 37 ?_); refine Classical.byContradiction (fun hG => ?_))
        refine hG ?_
        clear hG
        refine list_named (S := fun W => Below w2.heap.size w2 W ∧ Blk W bx TX [.int .i64 (d : Int), .int .u8 (kk : Int), .int .u8 (mm : Int)] ∧ Blk W (bx + 1) TC [.int .u8 (ko : Int), .int .u8 (lo : Int)]) ⟨by have := HBR.out.size; (repeat' (first | (with_reducible exact Below.refl _ _) | (with_reducible refine Below.setCell ?_ (by (first | omega | (simp; done) | (simp; omega))) _) | (with_reducible refine Below.alloc ?_ (by (first | omega | (simp; done) | (simp; omega))) _) | (with_reducible refine Below.drew ?_) | (with_reducible refine below_drewN ?_ _) | (with_reducible refine Below.trans ?_ (Below.mono HBR.out (by (first | omega | (simp; done) | (simp; omega))))))), by subst hbx; (repeat' (first | (with_reducible refine BlkP.Blk.drew ?_) | (with_reducible refine BlkP.Blk.drewN ?_ _) | (with_reducible refine BlkP.Blk.setAt (us := ?_) (by first | omega | (simp; done) | (simp; omega)) rfl ?_ ?_) | (with_reducible refine BlkP.Blk.otherAt ?_ (by first | omega | (simp; done) | (simp; omega))) | (with_reducible refine BlkP.Blk.newA' (by first | omega | (simp; done) | (simp; omega)) rfl) | (with_reducible refine BlkP.Blk.alloc ?_ _) | (exact rfl))), by subst hbx; (repeat' (first | (with_reducible refine BlkP.Blk.drew ?_) | (with_reducible refine BlkP.Blk.drewN ?_ _) | (with_reducible refine BlkP.Blk.setAt (us := ?_) (by first | omega | (simp; done) | (simp; omega)) rfl ?_ ?_) | (with_reducible refine BlkP.Blk.otherAt ?_ (by first | omega | (simp; done) | (simp; omega))) | (with_reducible refine BlkP.Blk.newA' (by first | omega | (simp; done) | (simp; omega)) rfl) | (with_reducible refine BlkP.Blk.alloc ?_ _) | (exact rfl)))⟩ ?_
        rintro w6 ⟨hb6, hx6, hc6⟩
        try rw [hbx]
        have HB62 := Lib.hid hb6
        have HB6 := Lib.hid (below_t HB2.out hb6)
        have x1 := hx6.cell (i := 1) rfl
        have k0 := hc6.cell (i := 0) rfl
        have lx := hx6.lt
        have lk := hc6.lt
        clear hb6 hx6 hc6 p0 p1 p2 c0 c1 ls hbx
        go_wp2_with fail
        refine (KindW.k_movable kk _ (HT.out.below HB6.out)).mono ?_
        rw [HFK.out]
        rintro e w7 ⟨rfl, rfl⟩
        cases fk with
        | true =>
          have HMK := Lib.hid (mv_b HFK.out)
          go_wp2_with fail
          refine (KindW.k_movable ko _ (HT.out.below HB6.out)).mono ?_
          rw [HFO.out]
          rintro e w7 ⟨rfl, rfl⟩
          cases fo with
          | true =>
            have HMO := Lib.hid (mv_b HFO.out)
            go_wp2_with fail
            go_roundw
            case rel =>
              refine ⟨j + 1, by first | rfl | rw [HWR.out] | (congr 1; omega), ?_, by omega, HB62.out⟩
              rw [HM.out, HMK.out, HMO.out]
              first | rfl | (congr 1; simp; done) | (congr 1; simp; omega) | (congr 1; omega) | (simp; done) | (simp; omega)
            case measure =>
              simp only [intOf]
              omega
          | false =>
            have HMO := Lib.hid (mv_b HFO.out)
            go_wp2_with fail
            go_roundw
            case rel =>
              refine ⟨j + 1, by first | rfl | rw [HWR.out] | (congr 1; omega), ?_, by omega, HB62.out⟩
              rw [HM.out, HMK.out, HMO.out]
              first | rfl | (congr 1; simp; done) | (congr 1; simp; omega) | (congr 1; omega) | (simp; done) | (simp; omega)
            case measure =>
              simp only [intOf]
              omega
        | false =>
          have HMK := Lib.hid (mv_b HFK.out)
          go_wp2_with fail
          refine (KindW.k_movable ko _ (HT.out.below HB6.out)).mono ?_
          rw [HFO.out]
          rintro e w7 ⟨rfl, rfl⟩
          cases fo with
          | true =>
            have HMO := Lib.hid (mv_b HFO.out)
            go_wp2_with fail
            go_roundw
            case rel =>
              refine ⟨j + 1, by first | rfl | rw [HWR.out] | (congr 1; omega), ?_, by omega, HB62.out⟩
              rw [HM.out, HMK.out, HMO.out]
              first | rfl | (congr 1; simp; done) | (congr 1; simp; omega) | (congr 1; omega) | (simp; done) | (simp; omega)
            case measure =>
              simp only [intOf]
              omega
          | false =>
            have HMO := Lib.hid (mv_b HFO.out)
            go_wp2_with fail
            go_roundw
            case rel =>
              refine ⟨j + 1, by first | rfl | rw [HWR.out] | (congr 1; omega), ?_, by omega, HB62.out⟩
              rw [HM.out, HMK.out, HMO.out]
              first | rfl | (congr 1; simp; done) | (congr 1; simp; omega) | (congr 1; omega) | (simp; done) | (simp; omega)
            case measure =>
              simp only [intOf]
              omega
      · have hw : n.sd (d - 1) = (ko, lo) := by
          rw [← hold]
          unfold was
          rw [if_pos (by omega)]
        have hdI : (1 : Int) ≤ (d : Int) := by omega
        have hdJ : (d : Int) ≤ 6 := by omega
        have hd5 : d - 1 < 6 := by omega
        have hd5I : (d : Int) - 1 < 6 := by omega
        have a0 := H9.cell (g_sk n (d := d - 1) hd5)
        have a1 := H9.cell (g_sl n (d := d - 1) hd5)
        rw [hw] at a0 a1
        simp only at a0 a1
        clear hbr hc hx hX hold hfk hfo hw h0 H9 HR9 hXb hjl
        go_wp2_with ((with_reducible refine at_slot 37 ?_); refine Classical.byContradiction (fun hG => ?_))
        refine hG ?_
        clear hG
        refine list_named (S := fun W => Below w2.heap.size w2 W ∧ Blk W bx TX [.int .i64 (d : Int), .int .u8 (kk : Int), .int .u8 (mm : Int)] ∧ Blk W (bx + 1) TC [.int .u8 (ko : Int), .int .u8 (lo : Int)]) ⟨by have := HBR.out.size; (repeat' (first | (with_reducible exact Below.refl _ _) | (with_reducible refine Below.setCell ?_ (by (first | omega | (simp; done) | (simp; omega))) _) | (with_reducible refine Below.alloc ?_ (by (first | omega | (simp; done) | (simp; omega))) _) | (with_reducible refine Below.drew ?_) | (with_reducible refine below_drewN ?_ _) | (with_reducible refine Below.trans ?_ (Below.mono HBR.out (by (first | omega | (simp; done) | (simp; omega))))))), by subst hbx; (repeat' (first | (with_reducible refine BlkP.Blk.drew ?_) | (with_reducible refine BlkP.Blk.drewN ?_ _) | (with_reducible refine BlkP.Blk.setAt (us := ?_) (by first | omega | (simp; done) | (simp; omega)) rfl ?_ ?_) | (with_reducible refine BlkP.Blk.otherAt ?_ (by first | omega | (simp; done) | (simp; omega))) | (with_reducible refine BlkP.Blk.newA' (by first | omega | (simp; done) | (simp; omega)) rfl) | (with_reducible refine BlkP.Blk.alloc ?_ _) | (exact rfl))), by subst hbx; (repeat' (first | (with_reducible refine BlkP.Blk.drew ?_) | (with_reducible refine BlkP.Blk.drewN ?_ _) | (with_reducible refine BlkP.Blk.setAt (us := ?_) (by first | omega | (simp; done) | (simp; omega)) rfl ?_ ?_) | (with_reducible refine BlkP.Blk.otherAt ?_ (by first | omega | (simp; done) | (simp; omega))) | (with_reducible refine BlkP.Blk.newA' (by first | omega | (simp; done) | (simp; omega)) rfl) | (with_reducible refine BlkP.Blk.alloc ?_ _) | (exact rfl)))⟩ ?_
        rintro w6 ⟨hb6, hx6, hc6⟩
        try rw [hbx]
        have HB62 := Lib.hid hb6
        have HB6 := Lib.hid (below_t HB2.out hb6)
        have x1 := hx6.cell (i := 1) rfl
        have k0 := hc6.cell (i := 0) rfl
        have lx := hx6.lt
        have lk := hc6.lt
        clear a0 a1 hb6 hx6 hc6 p0 p1 p2 c0 c1 ls hbx
        go_wp2_with fail
        refine (KindW.k_movable kk _ (HT.out.below HB6.out)).mono ?_
        rw [HFK.out]
        rintro e w7 ⟨rfl, rfl⟩
        cases fk with
        | true =>
          have HMK := Lib.hid (mv_b HFK.out)
          go_wp2_with fail
          refine (KindW.k_movable ko _ (HT.out.below HB6.out)).mono ?_
          rw [HFO.out]
          rintro e w7 ⟨rfl, rfl⟩
          cases fo with
          | true =>
            have HMO := Lib.hid (mv_b HFO.out)
            go_wp2_with fail
            go_roundw
            case rel =>
              refine ⟨j + 1, by first | rfl | rw [HWR.out] | (congr 1; omega), ?_, by omega, HB62.out⟩
              rw [HM.out, HMK.out, HMO.out]
              first | rfl | (congr 1; simp; done) | (congr 1; simp; omega) | (congr 1; omega) | (simp; done) | (simp; omega)
            case measure =>
              simp only [intOf]
              omega
          | false =>
            have HMO := Lib.hid (mv_b HFO.out)
            go_wp2_with fail
            go_roundw
            case rel =>
              refine ⟨j + 1, by first | rfl | rw [HWR.out] | (congr 1; omega), ?_, by omega, HB62.out⟩
              rw [HM.out, HMK.out, HMO.out]
              first | rfl | (congr 1; simp; done) | (congr 1; simp; omega) | (congr 1; omega) | (simp; done) | (simp; omega)
            case measure =>
              simp only [intOf]
              omega
        | false =>
          have HMK := Lib.hid (mv_b HFK.out)
          go_wp2_with fail
          refine (KindW.k_movable ko _ (HT.out.below HB6.out)).mono ?_
          rw [HFO.out]
          rintro e w7 ⟨rfl, rfl⟩
          cases fo with
          | true =>
            have HMO := Lib.hid (mv_b HFO.out)
            go_wp2_with fail
            go_roundw
            case rel =>
              refine ⟨j + 1, by first | rfl | rw [HWR.out] | (congr 1; omega), ?_, by omega, HB62.out⟩
              rw [HM.out, HMK.out, HMO.out]
              first | rfl | (congr 1; simp; done) | (congr 1; simp; omega) | (congr 1; omega) | (simp; done) | (simp; omega)
            case measure =>
              simp only [intOf]
              omega
          | false =>
            have HMO := Lib.hid (mv_b HFO.out)
            go_wp2_with fail
            go_roundw
            case rel =>
              refine ⟨j + 1, by first | rfl | rw [HWR.out] | (congr 1; omega), ?_, by omega, HB62.out⟩
              rw [HM.out, HMK.out, HMO.out]
              first | rfl | (congr 1; simp; done) | (congr 1; simp; omega) | (congr 1; omega) | (simp; done) | (simp; omega)
            case measure =>
              simp only [intOf]
              omega
    · have hjI : ¬ (j : Int) < (k : Int) := by omega
      have HE := Lib.hid (show L.take j = L from List.take_of_length_le (by rw [HK.out]; omega))
      rw [HE.out]
      clear hbr H9 HR9
      go_wp2_with fail
      go_ret
      exact ⟨rfl, HS.out ▸ HB9.out⟩
end BurnW
end Go.Proofs.YtlidcefmpoelkaaDoor
