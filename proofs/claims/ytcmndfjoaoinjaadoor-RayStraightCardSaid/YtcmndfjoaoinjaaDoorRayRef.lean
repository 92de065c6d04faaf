/-
  The walk of the reference's Way.
-/
import Derived.Test.YtcmndfjoaoinjaaDoorRayRefP
import Derived.Deep.LoopGhost
import Derived.Deep.AppendLies
import Derived.Deep.QuietTactic
import Derived.Deep.Cut
import Derived.Deep.CutRange
import Derived.BigQuiet
import Derived.Outline
namespace Go.Proofs.YtcmndfjoaoinjaaDoor
open Go.RowKit
set_option linter.unusedVariables false
set_option linter.unusedSimpArgs false
namespace RayP
open PlaceW BlkP
/-- Is one of the first k numbers not 0? -/
def someK (d : T3) (k : Nat) : Bool := (decide (0 < k) && decide (d.x ≠ 0)) || (decide (1 < k) && decide (d.y ≠ 0)) || (decide (2 < k) && decide (d.z ≠ 0))
def numK (d : T3) (k : Nat) : Int := if k = 0 then d.x else if k = 1 then d.y else d.z
theorem someK_succ (d : T3) {k : Nat} (hk : k < 3) : someK d (k + 1) = (someK d k || decide (numK d k ≠ 0)) := by
  match k, hk with
  | 0, _ => simp [someK, numK]
  | 1, _ => simp [someK, numK]
  | 2, _ => simp [someK, numK]
theorem dir_inD {d : T3} (hd : dirB d.x d.y d.z = true) : inD d.x = true ∧ inD d.y = true ∧ inD d.z = true :=
  ⟨by cases h : inD d.x <;> simp [dirB, h] at hd ⊢, by cases h : inD d.y <;> simp [dirB, h] at hd ⊢, by cases h : inD d.z <;> simp [dirB, h] at hd ⊢⟩
theorem num_in {d : T3} (hd : dirB d.x d.y d.z = true) (k : Nat) : -1000 ≤ numK d k ∧ numK d k ≤ 1000 := by
  obtain ⟨hx, hy, hz⟩ := dir_inD hd
  unfold numK
  split
  · exact inD_true hx
  · split
    · exact inD_true hy
    · exact inD_true hz
theorem dir_some3 {d : T3} (hd : dirB d.x d.y d.z = true) : someK d 3 = true := by
  have h := dir_some hd
  unfold Some3 szT at h
  simp only [ne_eq, sz_zero] at h
  by_cases h1 : d.x = 0
  · by_cases h2 : d.y = 0
    · by_cases h3 : d.z = 0
      · simp [h1, h2, h3] at h
      · simp [someK, h3]
    · simp [someK, h2]
  · simp [someK, h1]
/-- How far the numbers have been looked at. -/
def SomeL (d : T3) (v8 v9 : Value) : Prop := ∃ k : Nat, k ≤ 3 ∧ v9 = .int .i64 (k : Int) ∧ v8 = .bool (someK d k)
set_option maxRecDepth 100000 in
set_option maxHeartbeats 8000000 in
theorem r_way_c {p d : T3} {n : Nat} {w : World} (hp : mayT p = true) (hd : dirB d.x d.y d.z = true) (hn : n ≤ 256) :
    Calls Tryd.prog 8 #[.agg #[.int .i64 p.x, .int .i64 p.y, .int .i64 p.z], .agg #[.int .i64 d.x, .int .i64 d.y, .int .i64 d.z], .int .i64 (n : Int)] w (WayP (wayA p d n) w) := by
  obtain ⟨i0, hi0, hz0, hz1, hz2⟩ := info_parts infoPlace
  have HI0 := Lib.hid hi0
  have HZ0 := Lib.hid hz0
  have HZ1 := Lib.hid hz1
  have HZ2 := Lib.hid hz2
  clear hi0 hz0 hz1 hz2
  have HP := Lib.hid (show mayB p.x p.y p.z = true from hp)
  have HD := Lib.hid hd
  have HP0 := Lib.hid (pos_zero p d)
  have HN := Lib.hid (num_in hd)
  have HS3 := Lib.hid (dir_some3 hd)
  clear hp hd
  go_enter Tryd.func8, Tryd.ntmps8
  go_wp2_with fail
  go_at_call 21
  refine (r_may_b HP.out _).mono ?_
  rintro e w1 ⟨rfl, hb1⟩
  have hB1 : Blk w1 (w.heap.size + 1) 24 [.int .i64 d.x, .int .i64 d.y, .int .i64 d.z] := BlkP.Blk.below (by (repeat' (first | (with_reducible refine BlkP.Blk.drew ?_) | (with_reducible refine BlkP.Blk.drewN ?_ _) | (with_reducible refine BlkP.Blk.setAt (us := ?_) (by first | omega | (simp; done) | (simp; omega)) rfl ?_ ?_) | (with_reducible refine BlkP.Blk.otherAt ?_ (by first | omega | (simp; done) | (simp; omega))) | (with_reducible refine BlkP.Blk.newA' (by first | omega | (simp; done) | (simp; omega)) rfl) | (with_reducible refine BlkP.Blk.alloc ?_ _) | (exact rfl)))) hb1
  have hA1 : Blk w1 w.heap.size 23 [.int .i64 p.x, .int .i64 p.y, .int .i64 p.z] := BlkP.Blk.below (by (repeat' (first | (with_reducible refine BlkP.Blk.drew ?_) | (with_reducible refine BlkP.Blk.drewN ?_ _) | (with_reducible refine BlkP.Blk.setAt (us := ?_) (by first | omega | (simp; done) | (simp; omega)) rfl ?_ ?_) | (with_reducible refine BlkP.Blk.otherAt ?_ (by first | omega | (simp; done) | (simp; omega))) | (with_reducible refine BlkP.Blk.newA' (by first | omega | (simp; done) | (simp; omega)) rfl) | (with_reducible refine BlkP.Blk.alloc ?_ _) | (exact rfl)))) hb1
  have hb1' : Below w.heap.size w w1 := by (repeat' (first | (with_reducible exact Below.refl _ _) | (with_reducible refine Below.setCell ?_ (by (first | omega | (simp; done) | (simp; omega))) _) | (with_reducible refine Below.alloc ?_ (by (first | omega | (simp; done) | (simp; omega))) _) | (with_reducible refine Below.drew ?_) | (with_reducible refine below_drewN ?_ _) | (with_reducible refine Below.trans ?_ (Below.mono hb1 (by (first | omega | (simp; done) | (simp; omega)))))))
  have c0 := hB1.cell (i := 0) (v := .int .i64 d.x) rfl
  have c1 := hB1.cell (i := 1) (v := .int .i64 d.y) rfl
  have c2 := hB1.cell (i := 2) (v := .int .i64 d.z) rfl
  have hz1 := hB1.lt
  have HB1 := Lib.hid hB1
  have HA1 := Lib.hid hA1
  have HBB1 := Lib.hid hb1'
  clear hB1 hA1 hb1' hb1
  go_wp2_with fail
  go_loop [8, 9] (fun v8 v9 => SomeL d v8 v9) (fun _ v9 => (3 - intOf v9).toNat)
  case atStart => exact ⟨0, by omega, rfl, by simp [someK]⟩
  case round =>
    obtain ⟨k, hk, rfl, rfl⟩ := hrel
    obtain ⟨sb, hsb⟩ : ∃ sb, someK d k = sb := ⟨_, rfl⟩
    rw [hsb]
    have HSB := Lib.hid hsb
    clear hsb
    by_cases hlt : k < 3
    · have HK : Hid (someK d (k + 1) = (sb || decide (numK d k ≠ 0))) := Lib.hid (by rw [someK_succ d hlt, HSB.out])
      obtain ⟨x, hx⟩ : ∃ x, numK d k = x := ⟨_, rfl⟩
      have hcx : w1.cell? ⟨w.heap.size + 1, k, none⟩ = some (.int .i64 x) := by
        subst hx
        match k, hlt with
        | 0, _ => exact c0
        | 1, _ => exact c1
        | 2, _ => exact c2
      obtain ⟨b1, b2⟩ := HN.out k
      rw [hx] at b1 b2
      have HX := Lib.hid hx
      have hkI : (k : Int) < 3 := by omega
      have hk1 : ¬ x < -1000 := by omega
      have hk2 : ¬ 1000 < x := by omega
      clear hx c0 c1 c2
      cases sb with
      | true =>
        go_wp2_with fail
        go_round
        case rel => exact ⟨k + 1, by omega, by go_num, by rw [HK.out]; rfl⟩
        case measure => (simp only [intOf]; omega)
      | false =>
        go_wp2_with fail
        go_round
        case rel => exact ⟨k + 1, by omega, by go_num, by rw [HK.out, HX.out]; by_cases q : x = 0 <;> simp [q]⟩
        case measure => (simp only [intOf]; omega)
    · obtain rfl : k = 3 := by omega
      have hsb : sb = true := by rw [← HSB.out]; exact HS3.out
      subst hsb
      have n1 : ¬ (n : Int) < 0 := by omega
      have n2 : ¬ 256 < (n : Int) := by omega
      go_wp2_with fail
      refine HeldP.wp_named (fun W => Blk W (w.heap.size + 1) 24 [.int .i64 d.x, .int .i64 d.y, .int .i64 d.z] ∧ Blk W w.heap.size 23 [.int .i64 p.x, .int .i64 p.y, .int .i64 p.z] ∧ Below w.heap.size w W) ⟨HB1.out, HA1.out, HBB1.out⟩ ?_
      clear c0 c1 c2 hz1
      rintro wn ⟨hB, hA, hbn⟩
      have m0 := hB.cell (i := 0) (v := .int .i64 d.x) rfl
      have m1 := hB.cell (i := 1) (v := .int .i64 d.y) rfl
      have m2 := hB.cell (i := 2) (v := .int .i64 d.z) rfl
      have ml := hB.lt
      have HBN := Lib.hid hB
      have HAN := Lib.hid hA
      have HBBN := Lib.hid hbn
      have HAL0 : Hid (∀ W, Calls Tryd.prog 22 #[.int .i64 0, .int .i64 d.x, .int .i64 (n : Int)] W (AlongP 0 d.x n W)) := Lib.hid (along_c (by omega) (HN.out 0) hn)
      have HAL1 : Hid (∀ W, Calls Tryd.prog 22 #[.int .i64 1, .int .i64 d.z, .int .i64 (n : Int)] W (AlongP 1 d.z n W)) := Lib.hid (along_c (by omega) (HN.out 2) hn)
      have HAL2 : Hid (∀ W, Calls Tryd.prog 22 #[.int .i64 2, .int .i64 d.y, .int .i64 (n : Int)] W (AlongP 2 d.y n W)) := Lib.hid (along_c (by omega) (HN.out 1) hn)
      clear hB hA hbn
      refine wp_region_noPanic ?_
      refine wp_region_held_drew (S := fun W => Below wn.heap.size wn W) (by kernel_rfl) ((Below.refl _ wn).drew) (fun hHeld => ?_)
      refine wpAnyH_take (i := 0) (oi := ⟨some 50, _, _, _, _, _⟩) (v := .pointer (some ⟨w.heap.size + 1, 0, none⟩)) rfl (by kernel_rfl) (by kernel_rfl) (by kernel_rfl) (fun _ _ _ h => h) (Or.inl ⟨by rfl, fun W hSW => by go_simp⟩) hHeld ?_
      simp only [Act.put, List.setIfInBounds_toArray, List.set_cons_zero, List.set_cons_succ]
      refine wpAnyH_take (i := 1) (oi := ⟨some 51, _, _, _, _, _⟩) (v := .int .i64 d.x) rfl (by kernel_rfl) (by kernel_rfl) (by kernel_rfl) (fun _ _ _ h => h) (Or.inl ⟨by rfl, fun W hSW => by have a0 := (hSW.cell (p := ⟨w.heap.size + 1, 0, none⟩) ml).trans m0; go_simp⟩) hHeld ?_
      simp only [Act.put, List.setIfInBounds_toArray, List.set_cons_zero, List.set_cons_succ]
      refine wpAnyH_take (i := 2) (oi := ⟨some 52, _, _, _, _, _⟩) (v := .int .i64 (n : Int)) rfl (by kernel_rfl) (by kernel_rfl) (by kernel_rfl) (fun _ _ _ h => h) (Or.inl ⟨by rfl, fun W hSW => by go_simp⟩) hHeld ?_
      simp only [Act.put, List.setIfInBounds_toArray, List.set_cons_zero, List.set_cons_succ]
      refine wpAnyH_take (i := 4) (oi := ⟨some 54, _, _, _, _, _⟩) (v := .pointer (some ⟨w.heap.size + 1, 2, none⟩)) rfl (by kernel_rfl) (by kernel_rfl) (by kernel_rfl) (fun _ _ _ h => h) (Or.inl ⟨by rfl, fun W hSW => by go_simp⟩) hHeld ?_
      simp only [Act.put, List.setIfInBounds_toArray, List.set_cons_zero, List.set_cons_succ]
      refine wpAnyH_take (i := 5) (oi := ⟨some 55, _, _, _, _, _⟩) (v := .int .i64 d.z) rfl (by kernel_rfl) (by kernel_rfl) (by kernel_rfl) (fun _ _ _ h => h) (Or.inl ⟨by rfl, fun W hSW => by have a0 := (hSW.cell (p := ⟨w.heap.size + 1, 2, none⟩) ml).trans m2; go_simp⟩) hHeld ?_
      simp only [Act.put, List.setIfInBounds_toArray, List.set_cons_zero, List.set_cons_succ]
      refine wpAnyH_take (i := 6) (oi := ⟨some 56, _, _, _, _, _⟩) (v := .int .i64 (n : Int)) rfl (by kernel_rfl) (by kernel_rfl) (by kernel_rfl) (fun _ _ _ h => h) (Or.inl ⟨by rfl, fun W hSW => by go_simp⟩) hHeld ?_
      simp only [Act.put, List.setIfInBounds_toArray, List.set_cons_zero, List.set_cons_succ]
      refine wpAnyH_take (i := 8) (oi := ⟨some 58, _, _, _, _, _⟩) (v := .pointer (some ⟨w.heap.size + 1, 1, none⟩)) rfl (by kernel_rfl) (by kernel_rfl) (by kernel_rfl) (fun _ _ _ h => h) (Or.inl ⟨by rfl, fun W hSW => by go_simp⟩) hHeld ?_
      simp only [Act.put, List.setIfInBounds_toArray, List.set_cons_zero, List.set_cons_succ]
      refine wpAnyH_take (i := 9) (oi := ⟨some 59, _, _, _, _, _⟩) (v := .int .i64 d.y) rfl (by kernel_rfl) (by kernel_rfl) (by kernel_rfl) (fun _ _ _ h => h) (Or.inl ⟨by rfl, fun W hSW => by have a0 := (hSW.cell (p := ⟨w.heap.size + 1, 1, none⟩) ml).trans m1; go_simp⟩) hHeld ?_
      simp only [Act.put, List.setIfInBounds_toArray, List.set_cons_zero, List.set_cons_succ]
      refine wpAnyH_take (i := 10) (oi := ⟨some 60, _, _, _, _, _⟩) (v := .int .i64 (n : Int)) rfl (by kernel_rfl) (by kernel_rfl) (by kernel_rfl) (fun _ _ _ h => h) (Or.inl ⟨by rfl, fun W hSW => by go_simp⟩) hHeld ?_
      simp only [Act.put, List.setIfInBounds_toArray, List.set_cons_zero, List.set_cons_succ]
      refine wpAnyH_ready (rs := [3]) (by kernel_rfl) (by simp) ?_
      refine AllReadyH.cons (o := ⟨some 53, _, _, _, _, _⟩) rfl (fun K hK => ?_) AllReadyH.nil
      go_simp
      refine (HAL0.out _).mono ?_
      rintro e w3 ⟨v3, rfl, hO3, hb3⟩
      obtain ⟨A3, c3, rfl, hn3, hm3, hR3⟩ := own_row hO3
      have HR3 := Lib.hid hR3
      clear hO3 hR3
      go_wp2_with fail
      have HB3 := Lib.hid hb3
      refine hK.out _ _ (below_t hHeld hb3) (fun hHeld => ?_)
      clear hK K hb3
      refine wpAnyH_ready (rs := [7]) (by kernel_rfl) (by simp) ?_
      refine AllReadyH.cons (o := ⟨some 57, _, _, _, _, _⟩) rfl (fun K hK => ?_) AllReadyH.nil
      go_simp
      refine (HAL1.out _).mono ?_
      rintro e w4 ⟨v4, rfl, hO4, hb4⟩
      obtain ⟨A4, c4, rfl, hn4, hm4, hR4⟩ := own_row hO4
      have HR4 := Lib.hid hR4
      clear hO4 hR4
      go_wp2_with fail
      have HB4 := Lib.hid hb4
      refine hK.out _ _ (below_t hHeld hb4) (fun hHeld => ?_)
      clear hK K hb4
      refine wpAnyH_ready (rs := [11]) (by kernel_rfl) (by simp) ?_
      refine AllReadyH.cons (o := ⟨some 61, _, _, _, _, _⟩) rfl (fun K hK => ?_) AllReadyH.nil
      go_simp
      refine (HAL2.out _).mono ?_
      rintro e w5 ⟨v5, rfl, hO5, hb5⟩
      obtain ⟨A5, c5, rfl, hn5, hm5, hR5⟩ := own_row hO5
      have HR5 := Lib.hid hR5
      clear hO5 hR5
      go_wp2_with fail
      have HB5 := Lib.hid hb5
      refine hK.out _ _ (below_t hHeld hb5) (fun hHeld => ?_)
      clear hK K hb5
      refine wpAnyH_ready (rs := [12]) (by kernel_rfl) (by simp) ?_
      refine AllReadyH.cons (o := ⟨some 62, _, _, _, _, _⟩) rfl (fun K hK => ?_) AllReadyH.nil
      go_simp
      refine hK.out _ _ (hHeld.alloc hHeld.size _) (fun hHeld => ?_)
      clear hK K
      refine wpAnyH_ready (rs := [13]) (by kernel_rfl) (by simp) ?_
      refine AllReadyH.cons (o := ⟨some 10, _, _, _, _, _⟩) rfl (fun K hK => ?_) AllReadyH.nil
      go_simp
      refine hK.out _ _ hHeld (fun hHeld => ?_)
      clear hK K
      refine wpAnyH_done (by kernel_rfl) ?_ _
      refine NoPanic.normal ?_
      refine HeldP.then_named (fun W => RowsR W w5.heap.size d ⟨0, 0, 0⟩ n (pick3 A3 A4 A5) (pick3 c3 c4 c5) ∧ Blk W w.heap.size 23 [.int .i64 p.x, .int .i64 p.y, .int .i64 p.z] ∧ Below w.heap.size w W ∧ w5.heap.size < W.heap.size ∧ w.heap.size ≤ w5.heap.size) ?named0 ?_
      case named0 =>
        have s3 : w3.heap.size ≤ w5.heap.size := Nat.le_trans HB4.out.size HB5.out.size
        have s4 := HB5.out.size
        have s0 := HB3.out.size
        have s1 := HBBN.out.size
        refine ⟨rows_start (heap_alloc_new _ _) ⟨hn3, hm3⟩ ⟨hn4, hm4⟩ ⟨hn5, hm5⟩ ?_ ?_ ?_, ?_, ?_, by simp, ?_⟩
        · exact (((((HR3.out.below (Nat.le_refl _) HB4.out).below HB4.out.size HB5.out).mono s3)).below (Nat.le_refl _) ((Below.refl _ _).alloc (Nat.le_refl _) _))
        · exact (((HR4.out.below (Nat.le_refl _) HB5.out).mono s4)).below (Nat.le_refl _) ((Below.refl _ _).alloc (Nat.le_refl _) _)
        · exact HR5.out.below (Nat.le_refl _) ((Below.refl _ _).alloc (Nat.le_refl _) _)
        · exact HAN.out.below hHeld
        · exact HBBN.out.trans (hHeld.mono HBBN.out.size)
        · exact Nat.le_trans HBBN.out.size (Nat.le_trans (Nat.le_trans (by simpa using s0) s3) (Nat.le_refl _))
      rintro W0 ⟨hRW, hAW, hbW, hsW, hw5⟩
      have q0 := hAW.cell (i := 0) (v := .int .i64 p.x) rfl
      have q1 := hAW.cell (i := 1) (v := .int .i64 p.y) rfl
      have q2 := hAW.cell (i := 2) (v := .int .i64 p.z) rfl
      have ql := hAW.lt
      have HRW := Lib.hid hRW
      have HBW := Lib.hid hbW
      clear hRW hAW hbW hHeld HR3 HR4 HR5 HB3 HB4 HB5 HAL0 HAL1 HAL2 HBN HAN HBBN m0 m1 m2 ml hn3 hm3 hn4 hm4 hn5 hm5
      generalize hbR : w5.heap.size = bR at *
      clear hbR
      go_wp2_with fail
      refine HeldP.wp_named (fun W => WayQ p d n w (W0.heap.size + 1) W0.heap.size bR (pick3 A3 A4 A5) (pick3 c3 c4 c5) 0 (.slice none 0 0) W) ?named1 ?_
      case named1 =>
        refine ⟨Nat.zero_le _, fun j hj => absurd hj (by omega), OwnL.nil _ _, ?_, ?_, by have := HBW.out; (repeat' (first | (with_reducible exact Below.refl _ _) | (with_reducible refine Below.setCell ?_ (by (first | omega | (simp; done) | (simp; omega))) _) | (with_reducible refine Below.alloc ?_ (by (first | omega | (simp; done) | (simp; omega))) _) | (with_reducible refine Below.drew ?_) | (with_reducible refine below_drewN ?_ _) | (with_reducible refine Below.trans ?_ (Below.mono this (by (first | omega | (simp; done) | (simp; omega))))))), by simp⟩
        · rw [show mAt d 0 = ⟨0, 0, 0⟩ from rfl, HP0.out]
          (repeat' (first | (with_reducible refine BlkP.Blk.drew ?_) | (with_reducible refine BlkP.Blk.drewN ?_ _) | (with_reducible refine BlkP.Blk.setAt (us := ?_) (by first | omega | (simp; done) | (simp; omega)) rfl ?_ ?_) | (with_reducible refine BlkP.Blk.otherAt ?_ (by first | omega | (simp; done) | (simp; omega))) | (with_reducible refine BlkP.Blk.newA' (by first | omega | (simp; done) | (simp; omega)) rfl) | (with_reducible refine BlkP.Blk.alloc ?_ _) | (exact rfl)))
        · exact HRW.out.alloc _
      rintro W1 hQ1
      have HQ1 := Lib.hid hQ1
      have h3 := Lib.hid (dir_some HD.out)
      clear hQ1 HRW HBW q0 q1 q2 ql
      generalize hbP : W0.heap.size = bP at *
      clear hbP
      go_loopg [11] n (fun g v wr => ∃ (i : Nat) (RA : Nat → Option Addr) (RC : Nat → Nat), i + g = n ∧ WayQ p d n w (bP + 1) bP bR RA RC i v wr)
      case atStart => exact ⟨0, _, _, by omega, HQ1.out⟩
      case round =>
        obtain ⟨i, RA, RC, hig, hQ⟩ := hrel
        obtain ⟨A, c, rfl, hc⟩ := hQ.own.form' (lst_len p d i)
        have HQ := Lib.hid hQ
        have hsr := hQ.rows.blk.lt
        have hsp := hQ.at_.lt
        have hbig := hQ.big
        clear hQ
        cases gk with
        | zero =>
          obtain rfl : i = n := by omega
          have hin : ¬ (i : Int) < (i : Int) := by omega
          go_wp2_with fail
          try rw [Exit.noGoto_ret]
          go_ret2
          exact HQ.out.done (by (repeat' (first | (with_reducible exact Below.refl _ _) | (with_reducible refine Below.setCell ?_ (by (first | omega | (simp; done) | (simp; omega))) _) | (with_reducible refine Below.alloc ?_ (by (first | omega | (simp; done) | (simp; omega))) _) | (with_reducible refine Below.drew ?_) | (with_reducible refine below_drewN ?_ _)))) (by omega) (.inl rfl)
        | succ g =>
          have hin : (i : Int) < (n : Int) := by omega
          have hin2 : i < n := by omega
          go_wp2_with fail
          go_loopw [13, 14] (fun v13 v14 wy => ∃ k : Nat, k ≤ 3 ∧ v14 = .int .i64 (k : Int) ∧ v13 = .int .i64 (scan (szT d) (mAt d i) k) ∧ Below wr.heap.size wr wy) (fun _ v14 _ => (3 - intOf v14).toNat)
          case atStart => exact ⟨0, by omega, rfl, rfl, Below.refl _ _⟩
          case round =>
            obtain ⟨k, hk, rfl, rfl, hby⟩ := hrel
            have hQy := HQ.out.keep hby
            have HY := Lib.hid hby
            have hyr := hQy.rows.blk.lt
            have hyp := hQy.at_.lt
            have hyz := hby.size
            obtain ⟨sc, hsc⟩ : ∃ sc, scan (szT d) (mAt d i) k = sc := ⟨_, rfl⟩
            obtain ⟨hsc1, hsc2⟩ := scan_range (szT d) (mAt d i) k
            rw [hsc] at hsc1 hsc2
            rw [hsc]
            have HSC := Lib.hid hsc
            clear hsc
            by_cases hk3 : k < 3
            · have hkI : (k : Int) < 3 := by omega
              have hkt : decide ((k : Int) < 3) = true := decide_eq_true hkI
              have hk0 : (0 : Int) ≤ (k : Int) := by omega
              have hcell := hQy.rows.get hk3
              have hrow := hQy.rows.row k hk3
              have hcap := (hQy.rows.cap k hk3).1
              have hml : nA (mAt d i) k < n := by
                have := at_le d i k
                omega
              have HQY := Lib.hid hQy
              clear hQy hby
              by_cases hd0 : nA d k = 0
              · have hs0 : nA (szT d) k = 0 := by rw [nA_sz, hd0]; rfl
                have hl0 : leftN d (mAt d i) n k = 0 := by rw [leftN, if_pos hd0]
                rw [hl0] at hcell
                have HSN := Lib.hid (scan_no (m := mAt d i) hs0)
                clear hrow hcap hd0 hs0 hl0
                go_wp2_with fail
                go_quiet (fail)
                go_wp2_with fail
                go_roundw
                case rel => exact ⟨k + 1, by omega, by go_num, by rw [HSN.out, HSC.out], by have := HY.out; (repeat' (first | (with_reducible exact Below.refl _ _) | (with_reducible refine Below.setCell ?_ (by (first | omega | (simp; done) | (simp; omega))) _) | (with_reducible refine Below.alloc ?_ (by (first | omega | (simp; done) | (simp; omega))) _) | (with_reducible refine Below.drew ?_) | (with_reducible refine below_drewN ?_ _) | (with_reducible refine Below.trans ?_ (Below.mono this (by (first | omega | (simp; done) | (simp; omega)))))))⟩
                case measure => (simp only [intOf]; omega)
              · have hs0 : nA (szT d) k ≠ 0 := by
                  rw [nA_sz]
                  exact fun e => hd0 (sz_zero.1 e)
                obtain ⟨N, hN⟩ := left_pos (pos_at d i) hml hd0
                obtain ⟨g1, o1, hA1, hg1, e0, e1, e2, e3⟩ := hrow.first (by omega)
                rw [hA1] at hcell
                have hN1 : 0 < leftN d (mAt d i) n k := by omega
                obtain ⟨N1, hN1e⟩ : ∃ N1, leftN d (mAt d i) n k = N1 := ⟨_, rfl⟩
                rw [hN1e] at hcell hN1 hcap
                have hN1I : (0 : Int) < (N1 : Int) := by omega
                clear hrow hA1 hN hN1e hd0
                by_cases hneg : sc = -1
                · have HSF := Lib.hid (scan_first hs0 (HSC.out.trans hneg))
                  subst hneg
                  clear hs0 e0 e1 e2 e3
                  have hdN : decide ((0 : Int) < (N1 : Int)) = true := decide_eq_true hN1I
                  go_wp2_with fail
                  go_quiet (fail)
                  go_wp2_with fail
                  go_roundw
                  case rel => exact ⟨k + 1, by omega, by go_num, by rw [HSF.out], by have := HY.out; (repeat' (first | (with_reducible exact Below.refl _ _) | (with_reducible refine Below.setCell ?_ (by (first | omega | (simp; done) | (simp; omega))) _) | (with_reducible refine Below.alloc ?_ (by (first | omega | (simp; done) | (simp; omega))) _) | (with_reducible refine Below.drew ?_) | (with_reducible refine below_drewN ?_ _) | (with_reducible refine Below.trans ?_ (Below.mono this (by (first | omega | (simp; done) | (simp; omega)))))))⟩
                  case measure => (simp only [intOf]; omega)
                · obtain ⟨b, rfl⟩ : ∃ b : Nat, sc = (b : Int) := ⟨sc.toNat, by omega⟩
                  have hbk : b < k := by omega
                  have hb3 : b < 3 := by omega
                  have hbd : nA d b ≠ 0 := fun e => scan_is HSC.out (by rw [nA_sz, e]; rfl)
                  have HSM := Lib.hid (scan_more hs0 HSC.out)
                  have HAH := Lib.hid (ahead_is (s := szT d) (m := mAt d i) hbk (pos_at d i))
                  have hmlb : nA (mAt d i) b < n := by
                    have := at_le d i b
                    omega
                  obtain ⟨N0, hN0⟩ := left_pos (pos_at d i) hmlb hbd
                  have hcellb := HQY.out.rows.get hb3
                  obtain ⟨g2, o2, hA2, hg2, f0, f1, f2, f3⟩ := (HQY.out.rows.row b hb3).first (by omega)
                  have hcapb := (HQY.out.rows.cap b hb3).1
                  rw [hA2] at hcellb
                  have hN2 : 0 < leftN d (mAt d i) n b := by omega
                  obtain ⟨N2, hN2e⟩ : ∃ N2, leftN d (mAt d i) n b = N2 := ⟨_, rfl⟩
                  rw [hN2e] at hcellb hN2 hcapb
                  have hN2I : (0 : Int) < (N2 : Int) := by omega
                  have hbI : (b : Int) < 3 := by omega
                  have hb0 : (0 : Int) ≤ (b : Int) := by omega
                  have hbn : ¬ (b : Int) < 0 := by omega
                  have hbnD : decide ((b : Int) < 0) = false := decide_eq_false hbn
                  have hdN : decide ((0 : Int) < (N1 : Int)) = true := decide_eq_true hN1I
                  have lg1 : g1 < wr.heap.size := by omega
                  have lg2 : g2 < wr.heap.size := by omega
                  have hPk : ∀ x y : Nat, 0 ≤ (2 * nA (mAt d i) x + 1) * (2 * nA (szT d) y) ∧ (2 * nA (mAt d i) x + 1) * (2 * nA (szT d) y) ≤ 100000000 := fun x y => by
                    have h1 := nA_pos (pos_at d i) x
                    have h2 := at_le d i x
                    have h4 := dir_size HD.out y
                    have h5 := nA_pos (szT_nonneg d) y
                    exact ⟨Int.mul_nonneg (by omega) (by omega), Int.le_trans (Int.mul_le_mul (show 2 * nA (mAt d i) x + 1 ≤ 10000 by omega) (show 2 * nA (szT d) y ≤ 10000 by omega) (by omega) (by omega)) (by omega)⟩
                  have HPK := Lib.hid hPk
                  clear hPk hA2 hN2e hbd hs0 hneg
                  go_wp2_with fail
                  refine wp_region_noPanic ?_
                  refine wp_region_held_drew (S := fun W => Below wr.heap.size wr W) (by kernel_rfl) ((Below.refl _ wr).drew) (fun hHeld => ?_)
                  refine wpAnyH_take (i := 0) (oi := ⟨some 72, _, _, _, _, _⟩) (v := .slice (some ⟨bR, 0, none⟩) 3 3) rfl (by kernel_rfl) (by kernel_rfl) (by kernel_rfl) (fun _ _ _ h => h) (Or.inl ⟨by rfl, fun W hSW => by go_simp⟩) hHeld ?_
                  simp only [Act.put, List.setIfInBounds_toArray, List.set_cons_zero, List.set_cons_succ]
                  refine wpAnyH_take (i := 1) (oi := ⟨some 73, _, _, _, _, _⟩) (v := .int .i64 (k : Int)) rfl (by kernel_rfl) (by kernel_rfl) (by kernel_rfl) (fun _ _ _ h => h) (Or.inl ⟨by rfl, fun W hSW => by go_simp⟩) hHeld ?_
                  simp only [Act.put, List.setIfInBounds_toArray, List.set_cons_zero, List.set_cons_succ]
                  refine wpAnyH_take (i := 2) (oi := ⟨some 74, _, _, _, _, _⟩) (v := .pointer (some ⟨bR, k, none⟩)) rfl (by kernel_rfl) (by kernel_rfl) (by kernel_rfl) (fun _ _ _ h => h) (Or.inl ⟨by rfl, fun W hSW => by go_simp⟩) hHeld ?_
                  simp only [Act.put, List.setIfInBounds_toArray, List.set_cons_zero, List.set_cons_succ]
                  refine wpAnyH_take (i := 3) (oi := ⟨some 75, _, _, _, _, _⟩) (v := .slice (some ⟨g1, o1, none⟩) N1 (RC k)) rfl (by kernel_rfl) (by kernel_rfl) (by kernel_rfl) (fun _ _ _ h => h) (Or.inl ⟨by rfl, fun W hSW => by have a0 := (hSW.cell (p := ⟨bR, k, none⟩) hyr).trans hcell; go_simp⟩) hHeld ?_
                  simp only [Act.put, List.setIfInBounds_toArray, List.set_cons_zero, List.set_cons_succ]
                  refine wpAnyH_take (i := 4) (oi := ⟨some 76, _, _, _, _, _⟩) (v := .int .i64 (N1 : Int)) rfl (by kernel_rfl) (by kernel_rfl) (by kernel_rfl) (fun _ _ _ h => h) (Or.inl ⟨by rfl, fun W hSW => by go_simp⟩) hHeld ?_
                  simp only [Act.put, List.setIfInBounds_toArray, List.set_cons_zero, List.set_cons_succ]
                  refine wpAnyH_take (i := 5) (oi := ⟨some 77, _, _, _, _, _⟩) (v := .bool true) rfl (by kernel_rfl) (by kernel_rfl) (by kernel_rfl) (fun _ _ _ h => h) (Or.inl ⟨by rfl, fun W hSW => by go_simp⟩) hHeld ?_
                  simp only [Act.put, List.setIfInBounds_toArray, List.set_cons_zero, List.set_cons_succ]
                  refine wpAnyH_take (i := 6) (oi := ⟨some 78, _, _, _, _, _⟩) (v := .bool true) rfl (by kernel_rfl) (by kernel_rfl) (by kernel_rfl) (fun _ _ _ h => h) (Or.inl ⟨by rfl, fun W hSW => by go_simp⟩) hHeld ?_
                  simp only [Act.put, List.setIfInBounds_toArray, List.set_cons_zero, List.set_cons_succ]
                  refine wpAnyH_take (i := 7) (oi := ⟨some 79, _, _, _, _, _⟩) (v := .int .i64 (b : Int)) rfl (by kernel_rfl) (by kernel_rfl) (by kernel_rfl) (fun _ _ _ h => h) (Or.inl ⟨by rfl, fun W hSW => by go_simp⟩) hHeld ?_
                  simp only [Act.put, List.setIfInBounds_toArray, List.set_cons_zero, List.set_cons_succ]
                  refine wpAnyH_take (i := 8) (oi := ⟨some 80, _, _, _, _, _⟩) (v := .bool false) rfl (by kernel_rfl) (by kernel_rfl) (by kernel_rfl) (fun _ _ _ h => h) (Or.inl ⟨by rfl, fun W hSW => by go_simp⟩) hHeld ?_
                  simp only [Act.put, List.setIfInBounds_toArray, List.set_cons_zero, List.set_cons_succ]
                  refine wpAnyH_take (i := 9) (oi := ⟨some 81, _, _, _, _, _⟩) (v := .bool false) rfl (by kernel_rfl) (by kernel_rfl) (by kernel_rfl) (fun _ _ _ h => h) (Or.inl ⟨by rfl, fun W hSW => by go_simp⟩) hHeld ?_
                  simp only [Act.put, List.setIfInBounds_toArray, List.set_cons_zero, List.set_cons_succ]
                  refine wpAnyH_take (i := 10) (oi := ⟨some 82, _, _, _, _, _⟩) (v := .slice (some ⟨bR, 0, none⟩) 3 3) rfl (by kernel_rfl) (by kernel_rfl) (by kernel_rfl) (fun _ _ _ h => h) (Or.inl ⟨by rfl, fun W hSW => by go_simp⟩) hHeld ?_
                  simp only [Act.put, List.setIfInBounds_toArray, List.set_cons_zero, List.set_cons_succ]
                  refine wpAnyH_take (i := 11) (oi := ⟨some 83, _, _, _, _, _⟩) (v := .int .i64 (k : Int)) rfl (by kernel_rfl) (by kernel_rfl) (by kernel_rfl) (fun _ _ _ h => h) (Or.inl ⟨by rfl, fun W hSW => by go_simp⟩) hHeld ?_
                  simp only [Act.put, List.setIfInBounds_toArray, List.set_cons_zero, List.set_cons_succ]
                  refine wpAnyH_take (i := 12) (oi := ⟨some 84, _, _, _, _, _⟩) (v := .pointer (some ⟨bR, k, none⟩)) rfl (by kernel_rfl) (by kernel_rfl) (by kernel_rfl) (fun _ _ _ h => h) (Or.inl ⟨by rfl, fun W hSW => by go_simp⟩) hHeld ?_
                  simp only [Act.put, List.setIfInBounds_toArray, List.set_cons_zero, List.set_cons_succ]
                  refine wpAnyH_take (i := 13) (oi := ⟨some 85, _, _, _, _, _⟩) (v := .slice (some ⟨g1, o1, none⟩) N1 (RC k)) rfl (by kernel_rfl) (by kernel_rfl) (by kernel_rfl) (fun _ _ _ h => h) (Or.inl ⟨by rfl, fun W hSW => by have a0 := (hSW.cell (p := ⟨bR, k, none⟩) hyr).trans hcell; go_simp⟩) hHeld ?_
                  simp only [Act.put, List.setIfInBounds_toArray, List.set_cons_zero, List.set_cons_succ]
                  refine wpAnyH_take (i := 14) (oi := ⟨some 86, _, _, _, _, _⟩) (v := .pointer (some ⟨g1, o1, none⟩)) rfl (by kernel_rfl) (by kernel_rfl) (by kernel_rfl) (fun _ _ _ h => h) (Or.inl ⟨by rfl, fun W hSW => by go_simp⟩) hHeld ?_
                  simp only [Act.put, List.setIfInBounds_toArray, List.set_cons_zero, List.set_cons_succ]
                  refine wpAnyH_take (i := 15) (oi := ⟨some 87, _, _, _, _, _⟩) (v := .agg #[.int .i64 (k : Int), .int .i64 (byA (nA d k)), .int .i64 (2 * nA (mAt d i) k + 1), .int .i64 (2 * nA (szT d) k)]) rfl (by kernel_rfl) (by kernel_rfl) (by kernel_rfl) (fun _ _ _ h => h) (Or.inl ⟨by rfl, fun W hSW => by have a0 := (hSW.cell (p := ⟨g1, o1, none⟩) lg1).trans e0; have a1 := (hSW.cell (p := ⟨g1, o1 + 1, none⟩) lg1).trans e1; have a2 := (hSW.cell (p := ⟨g1, o1 + 2, none⟩) lg1).trans e2; have a3 := (hSW.cell (p := ⟨g1, o1 + 3, none⟩) lg1).trans e3; go_simp⟩) hHeld ?_
                  simp only [Act.put, List.setIfInBounds_toArray, List.set_cons_zero, List.set_cons_succ]
                  refine wpAnyH_take (i := 16) (oi := ⟨some 88, _, _, _, _, _⟩) (v := .slice (some ⟨bR, 0, none⟩) 3 3) rfl (by kernel_rfl) (by kernel_rfl) (by kernel_rfl) (fun _ _ _ h => h) (Or.inl ⟨by rfl, fun W hSW => by go_simp⟩) hHeld ?_
                  simp only [Act.put, List.setIfInBounds_toArray, List.set_cons_zero, List.set_cons_succ]
                  refine wpAnyH_take (i := 17) (oi := ⟨some 89, _, _, _, _, _⟩) (v := .int .i64 (b : Int)) rfl (by kernel_rfl) (by kernel_rfl) (by kernel_rfl) (fun _ _ _ h => h) (Or.inl ⟨by rfl, fun W hSW => by go_simp⟩) hHeld ?_
                  simp only [Act.put, List.setIfInBounds_toArray, List.set_cons_zero, List.set_cons_succ]
                  refine wpAnyH_take (i := 18) (oi := ⟨some 90, _, _, _, _, _⟩) (v := .pointer (some ⟨bR, b, none⟩)) rfl (by kernel_rfl) (by kernel_rfl) (by kernel_rfl) (fun _ _ _ h => h) (Or.inl ⟨by rfl, fun W hSW => by go_simp⟩) hHeld ?_
                  simp only [Act.put, List.setIfInBounds_toArray, List.set_cons_zero, List.set_cons_succ]
                  refine wpAnyH_take (i := 19) (oi := ⟨some 91, _, _, _, _, _⟩) (v := .slice (some ⟨g2, o2, none⟩) N2 (RC b)) rfl (by kernel_rfl) (by kernel_rfl) (by kernel_rfl) (fun _ _ _ h => h) (Or.inl ⟨by rfl, fun W hSW => by have a0 := (hSW.cell (p := ⟨bR, b, none⟩) hyr).trans hcellb; go_simp⟩) hHeld ?_
                  simp only [Act.put, List.setIfInBounds_toArray, List.set_cons_zero, List.set_cons_succ]
                  refine wpAnyH_take (i := 20) (oi := ⟨some 92, _, _, _, _, _⟩) (v := .pointer (some ⟨g2, o2, none⟩)) rfl (by kernel_rfl) (by kernel_rfl) (by kernel_rfl) (fun _ _ _ h => h) (Or.inl ⟨by rfl, fun W hSW => by go_simp⟩) hHeld ?_
                  simp only [Act.put, List.setIfInBounds_toArray, List.set_cons_zero, List.set_cons_succ]
                  refine wpAnyH_take (i := 21) (oi := ⟨some 93, _, _, _, _, _⟩) (v := .agg #[.int .i64 (b : Int), .int .i64 (byA (nA d b)), .int .i64 (2 * nA (mAt d i) b + 1), .int .i64 (2 * nA (szT d) b)]) rfl (by kernel_rfl) (by kernel_rfl) (by kernel_rfl) (fun _ _ _ h => h) (Or.inl ⟨by rfl, fun W hSW => by have a0 := (hSW.cell (p := ⟨g2, o2, none⟩) lg2).trans f0; have a1 := (hSW.cell (p := ⟨g2, o2 + 1, none⟩) lg2).trans f1; have a2 := (hSW.cell (p := ⟨g2, o2 + 2, none⟩) lg2).trans f2; have a3 := (hSW.cell (p := ⟨g2, o2 + 3, none⟩) lg2).trans f3; go_simp⟩) hHeld ?_
                  simp only [Act.put, List.setIfInBounds_toArray, List.set_cons_zero, List.set_cons_succ]
                  refine wpAnyH_ready (rs := [22]) (by kernel_rfl) (by simp) ?_
                  refine AllReadyH.cons (o := ⟨some 94, _, _, _, _, _⟩) rfl (fun K hK => ?_) AllReadyH.nil
                  go_simp
                  refine (ahead_c (HPK.out k b).1 (HPK.out k b).2 (HPK.out b k).1 (HPK.out b k).2 HAH.out _).mono ?_
                  rintro e w8 ⟨rfl, hb8⟩
                  go_wp2_with fail
                  refine hK.out _ _ (below_t hHeld hb8) (fun hHeld => ?_)
                  clear hK K hb8
                  refine wpAnyH_ready (rs := [23]) (by kernel_rfl) (by simp) ?_
                  refine AllReadyH.cons (o := ⟨some 95, _, _, _, _, _⟩) rfl (fun K hK => ?_) AllReadyH.nil
                  go_simp
                  refine hK.out _ _ hHeld (fun hHeld => ?_)
                  clear hK K
                  refine wpAnyH_ready (rs := [24]) (by kernel_rfl) (by simp) ?_
                  refine AllReadyH.cons (o := ⟨some 96, _, _, _, _, _⟩) rfl (fun K hK => ?_) AllReadyH.nil
                  go_simp
                  refine hK.out _ _ hHeld (fun hHeld => ?_)
                  clear hK K
                  refine wpAnyH_done (by kernel_rfl) ?_ _
                  refine NoPanic.normal ?_
                  have HHE := Lib.hid hHeld
                  clear hHeld hcell hcellb e0 e1 e2 e3 f0 f1 f2 f3
                  by_cases hcmp : (2 * nA (mAt d i) k + 1) * nA (szT d) b < (2 * nA (mAt d i) b + 1) * nA (szT d) k
                  · have HC := Lib.hid (show scan (szT d) (mAt d i) (k + 1) = (k : Int) by rw [HSM.out, if_pos hcmp])
                    go_wp2_with fail
                    go_roundw
                    case rel => exact ⟨k + 1, by omega, by go_num, by rw [HC.out], HY.out.trans (HHE.out.mono HY.out.size)⟩
                    case measure => (simp only [intOf]; omega)
                  · have HC := Lib.hid (show scan (szT d) (mAt d i) (k + 1) = (b : Int) by rw [HSM.out, if_neg hcmp])
                    go_wp2_with fail
                    go_roundw
                    case rel => exact ⟨k + 1, by omega, by go_num, by rw [HC.out], HY.out.trans (HHE.out.mono HY.out.size)⟩
                    case measure => (simp only [intOf]; omega)
            · obtain rfl : k = 3 := by omega
              have hsn := scan_next (szT_nonneg d) (pos_at d i) h3.out
              have HSN : Hid (sc = (nextA (szT d) (mAt d i) : Int)) := Lib.hid (by rw [← HSC.out, hsn])
              have h3a : nextA (szT d) (mAt d i) < 3 := by
                have := scan_range (szT d) (mAt d i) 3
                omega
              clear hsn
              obtain ⟨a, ha⟩ : ∃ a, nextA (szT d) (mAt d i) = a := ⟨_, rfl⟩
              rw [ha] at HSN h3a
              have HBU : Hid (mAt d (i + 1) = bump (mAt d i) a) := Lib.hid (by rw [stepM_at, stepM, ha])
              have hda : nA d a ≠ 0 := fun e => scan_is (HSC.out.trans HSN.out) (by rw [nA_sz, e]; rfl)
              have hml : nA (mAt d i) a < n := by
                have := at_le d i a
                omega
              have HQY := Lib.hid hQy
              clear hQy hby ha
              match a, h3a with
              | 0, _ =>
                obtain rfl : sc = 0 := HSN.out
                obtain ⟨N, hN⟩ := left_pos (pos_at d i) hml hda
                have hrow := HQY.out.rows.row 0 (by omega)
                have hcell := HQY.out.rows.get (k := 0) (by omega)
                have hfr := HQY.out.rows.blk.frozen 0
                have hcap := (HQY.out.rows.cap 0 (by omega)).1
                obtain ⟨g1, o1, hA1, hg1, e0, e1, e2, e3⟩ := hrow.first (by omega)
                rw [hA1, hN] at hcell
                rw [hN] at hcap
                have e0 : wr.cell? ⟨g1, o1, none⟩ = some (.int .i64 0) := e0
                obtain ⟨bb, hbb⟩ : ∃ bb, byA (nA d 0) = bb := ⟨_, rfl⟩
                have hbb1 : -1 ≤ bb ∧ bb ≤ 1 := by
                  rw [← hbb]
                  unfold byA
                  split <;> omega
                rw [hbb] at e1
                obtain ⟨A', hA'⟩ : ∃ A', (if RC 0 = 1 then some ⟨g1, o1, none⟩ else (some (⟨g1, o1, none⟩ : Addr)).map (·.add 4)) = A' := ⟨_, rfl⟩
                have hrest : ∀ w, (Instr.sliceAt 49 (.slice (some ⟨g1, o1, none⟩) (N + 1) (RC 0)) (some (.int .i64 1)) none none).run Tryd.prog w = .ok (.slice A' N (RC 0 - 1)) w := fun w => by
                  rw [← hA']
                  exact run_rest w hcap
                have HA' : Hid ((if RC 0 = 1 then RA 0 else (RA 0).map (·.add 4)) = A') := Lib.hid (by rw [hA1]; exact hA')
                have HNX := Lib.hid (pos_next_0 (p := p) (m := mAt d i) (show nA d 0 ≠ 0 from hda))
                have HBB := Lib.hid hbb
                have HN0 := Lib.hid hN
                have HMAY := Lib.hid (may_at (i := i) HP.out HQY.out.all)
                obtain ⟨b1, b2, b3, b4, b5, b6⟩ := mayT_true HMAY.out
                have x0 := HQY.out.at_.cell (i := 0) (v := .int .i64 ((posA p d (mAt d i)).x)) rfl
                have x1 := HQY.out.at_.cell (i := 1) (v := .int .i64 ((posA p d (mAt d i)).y)) rfl
                have x2 := HQY.out.at_.cell (i := 2) (v := .int .i64 ((posA p d (mAt d i)).z)) rfl
                have xf := HQY.out.at_.frozen 0
                have lg1 : g1 < wr.heap.size := by omega
                have hbp1 : bP < wr.heap.size := hyp
                clear hrow hA1 hA' hbb hN
                go_wp2_with fail
                go_at_call 21
                have hRN := ((HQY.out.rows.next (pos_at d i) (by omega) hml hda HN0.out).set (a := ⟨bP, 0, none⟩) (show bR < bP by omega) (.int .i64 ((posA p d (mAt d i)).x + bb))).alloc (.cells #[.int .i64 0, .int .i64 bb, .int .i64 (2 * nA (mAt d i) 0 + 1), .int .i64 (2 * nA (szT d) 0)] 54)
                rw [HA'.out, ← HBU.out] at hRN
                have HRN := Lib.hid hRN
                clear hRN
                cases hmq : mayT (posA p d (mAt d (i + 1))) with
                | false =>
                  have HMB : Hid (mayB ((posA p d (mAt d i)).x + bb) (posA p d (mAt d i)).y (posA p d (mAt d i)).z = false) := Lib.hid (by
                    rw [HBU.out, HNX.out, HBB.out] at hmq
                    exact hmq)
                  have HE : Hid (i = n ∨ mayT (posA p d (mAt d (i + 1))) = false) := Lib.hid (.inr hmq)
                  clear hmq
                  refine (r_may_b HMB.out _).mono ?_
                  rintro e w7 ⟨rfl, hb7⟩
                  have hOw : OwnL w7 (bP + 1) (.slice A i c) (lst p d i) := OwnL.below (by (repeat' (first | (with_reducible exact HQY.out.own) | (with_reducible refine OwnL.set ?_ (by first | (show bR < bP + 1; omega) | (show bP < bP + 1; omega))) | (with_reducible refine OwnL.alloc ?_ _)))) hb7
                  have hz7 := hb7.size
                  try simp at hz7
                  have HOW := Lib.hid hOw
                  clear hOw
                  go_wp2_with fail
                  try rw [Exit.noGoto_ret]
                  go_ret2
                  have hbq := HQY.out.below
                  rw [way_is HQY.out.le HQY.out.all HE.out]
                  exact ⟨_, rfl, HOW.out.mono (by omega), by (repeat' (first | (with_reducible exact Below.refl _ _) | (with_reducible refine Below.setCell ?_ (by (first | omega | (simp; done) | (simp; omega))) _) | (with_reducible refine Below.alloc ?_ (by (first | omega | (simp; done) | (simp; omega))) _) | (with_reducible refine Below.drew ?_) | (with_reducible refine below_drewN ?_ _) | (with_reducible refine Below.trans ?_ (Below.mono hb7 (by (first | omega | (simp; done) | (simp; omega))))) | (with_reducible refine Below.trans ?_ (Below.mono hbq (by (first | omega | (simp; done) | (simp; omega)))))))⟩
                | true =>
                  have HMB : Hid (mayB ((posA p d (mAt d i)).x + bb) (posA p d (mAt d i)).y (posA p d (mAt d i)).z = true) := Lib.hid (by
                    rw [HBU.out, HNX.out, HBB.out] at hmq
                    exact hmq)
                  have HMQ := Lib.hid hmq
                  clear hmq
                  refine (r_may_b HMB.out _).mono ?_
                  rintro e w7 ⟨rfl, hb7⟩
                  have hOw : OwnL w7 (bP + 1) (.slice A i c) (lst p d i) := OwnL.below (by (repeat' (first | (with_reducible exact HQY.out.own) | (with_reducible refine OwnL.set ?_ (by first | (show bR < bP + 1; omega) | (show bP < bP + 1; omega))) | (with_reducible refine OwnL.alloc ?_ _)))) hb7
                  have hz7 := hb7.size
                  try simp at hz7
                  have HOW := Lib.hid hOw
                  clear hOw
                  go_upto_region 32 with (fail)
                  refine HeldP.wp_named (fun W => OwnL W (bP + 1) (.slice A i c) (lst p d i) ∧ Blk W bP 23 [.int .i64 ((posA p d (mAt d i)).x + bb), .int .i64 (posA p d (mAt d i)).y, .int .i64 (posA p d (mAt d i)).z] ∧ RowsR W bR d (mAt d (i + 1)) n (fun k => if k = 0 then A' else RA k) (fun k => if k = 0 then RC 0 - 1 else RC k) ∧ Below w.heap.size w W ∧ wr.heap.size ≤ W.heap.size) ?named0 ?_
                  case named0 =>
                    have hbq := HQY.out.below
                    have hAq := HQY.out.at_
                    refine ⟨HOW.out, BlkP.Blk.below (by (repeat' (first | (with_reducible exact hAq) | (with_reducible refine BlkP.Blk.drew ?_) | (with_reducible refine BlkP.Blk.drewN ?_ _) | (with_reducible refine BlkP.Blk.setAt (us := ?_) (by first | omega | (simp; done) | (simp; omega)) rfl ?_ ?_) | (with_reducible refine BlkP.Blk.otherAt ?_ (by first | omega | (simp; done) | (simp; omega))) | (with_reducible refine BlkP.Blk.newA' (by first | omega | (simp; done) | (simp; omega)) rfl) | (with_reducible refine BlkP.Blk.alloc ?_ _) | (exact rfl)))) hb7, HRN.out.below hb7, by (repeat' (first | (with_reducible exact Below.refl _ _) | (with_reducible refine Below.setCell ?_ (by (first | omega | (simp; done) | (simp; omega))) _) | (with_reducible refine Below.alloc ?_ (by (first | omega | (simp; done) | (simp; omega))) _) | (with_reducible refine Below.drew ?_) | (with_reducible refine below_drewN ?_ _) | (with_reducible refine Below.trans ?_ (Below.mono hb7 (by (first | omega | (simp; done) | (simp; omega))))) | (with_reducible refine Below.trans ?_ (Below.mono hbq (by (first | omega | (simp; done) | (simp; omega))))))), by omega⟩
                  rintro W8 ⟨hO8, hA8, hR8, hb8, hz8⟩
                  have y0 := hA8.cell (i := 0) (v := .int .i64 ((posA p d (mAt d i)).x + bb)) rfl
                  have y1 := hA8.cell (i := 1) (v := .int .i64 (posA p d (mAt d i)).y) rfl
                  have y2 := hA8.cell (i := 2) (v := .int .i64 (posA p d (mAt d i)).z) rfl
                  have HO8 : Hid (W8.ownsRow (bP + 1) 23 3 (.slice A i c) i (cellsL (lst p d i))) := Lib.hid (by
                    have := hO8
                    unfold OwnL at this
                    rwa [lst_len] at this)
                  have HA8 := Lib.hid hA8
                  have HR8 := Lib.hid hR8
                  have HB8 := Lib.hid hb8
                  have hq8 := hA8.lt
                  clear hO8 hA8 hR8 hb8 x0 x1 x2 xf hb7 hcell hfr e0 e1 e2 e3 hrest
                  go_wp2_with (at_builtin; go_loud (refine wpList_append_own_at _ rfl _ _ 25 rfl (bP + 1) 23 i0 (.agg #[.int .i64 0, .int .i64 0, .int .i64 0]) 3 24 Tryd.underlying25 HI0.out HZ0.out HZ1.out HZ2.out rfl (by decide) _ _ _ rfl (HO8.out.alloc _) ⟨W8.heap.size, 0, none⟩ 1 1 [.int .i64 ((posA p d (mAt d i)).x + bb), .int .i64 (posA p d (mAt d i)).y, .int .i64 (posA p d (mAt d i)).z] rfl rfl ?c1_0 ?c2_0 ?c3_0 ?c4_0 ?c5_0 ?_))
                  case c1_0 => exact World.news_of_block (cs := #[.int .i64 ((posA p d (mAt d i)).x + bb), .int .i64 (posA p d (mAt d i)).y, .int .i64 (posA p d (mAt d i)).z]) (t := 23) (fr := (0, 0)) (heap_alloc_new W8 _)
                  case c2_0 => simp [Value.oneCell']
                  case c3_0 => (unfold maxLen; omega)
                  case c4_0 => omega
                  case c5_0 => (simp; omega)
                  intro v9 w9 hO9 hgrow _ hblk
                  have hA9 := (HA8.out.alloc _).grown hgrow (fun e => by
                    have := ownBlock_ge HO8.out bP e.symm
                    omega)
                  have hR9 := (HR8.out.alloc _).grown hgrow (fun g hg => by
                    have := ownBlock_ge HO8.out g hg
                    omega)
                  have hb9 : Below w.heap.size w w9 := (HB8.out.alloc (by have := HB8.out.size; omega) _).grown hgrow (by (simp; omega)) (fun g hg => by
                    have := ownBlock_ge HO8.out g hg
                    omega)
                  have hg9 := hgrow.size
                  simp at hg9
                  have HQ9 : Hid (WayQ p d n w (bP + 1) bP bR (fun k => if k = 0 then A' else RA k) (fun k => if k = 0 then RC 0 - 1 else RC k) (i + 1) v9 w9) := Lib.hid ⟨by omega, HQY.out.all.succ HMQ.out, by
                    unfold OwnL
                    rw [lst_succ, cellsL_snoc, List.length_append, lst_len, HBU.out, HNX.out, HBB.out]
                    exact hO9, by
                    rw [HBU.out, HNX.out, HBB.out]
                    exact hA9, hR9, hb9, by omega⟩
                  clear hO9 hgrow hblk hA9 hR9 hb9 y0 y1 y2 hg9
                  go_wp2_with fail
                  go_roundg g
                  case measure => omega
                  case rel => exact ⟨i + 1, _, _, by omega, HQ9.out⟩
              | 1, _ =>
                obtain rfl : sc = 1 := HSN.out
                obtain ⟨N, hN⟩ := left_pos (pos_at d i) hml hda
                have hrow := HQY.out.rows.row 1 (by omega)
                have hcell := HQY.out.rows.get (k := 1) (by omega)
                have hfr := HQY.out.rows.blk.frozen 1
                have hcap := (HQY.out.rows.cap 1 (by omega)).1
                obtain ⟨g1, o1, hA1, hg1, e0, e1, e2, e3⟩ := hrow.first (by omega)
                rw [hA1, hN] at hcell
                rw [hN] at hcap
                have e0 : wr.cell? ⟨g1, o1, none⟩ = some (.int .i64 1) := e0
                obtain ⟨bb, hbb⟩ : ∃ bb, byA (nA d 1) = bb := ⟨_, rfl⟩
                have hbb1 : -1 ≤ bb ∧ bb ≤ 1 := by
                  rw [← hbb]
                  unfold byA
                  split <;> omega
                rw [hbb] at e1
                obtain ⟨A', hA'⟩ : ∃ A', (if RC 1 = 1 then some ⟨g1, o1, none⟩ else (some (⟨g1, o1, none⟩ : Addr)).map (·.add 4)) = A' := ⟨_, rfl⟩
                have hrest : ∀ w, (Instr.sliceAt 49 (.slice (some ⟨g1, o1, none⟩) (N + 1) (RC 1)) (some (.int .i64 1)) none none).run Tryd.prog w = .ok (.slice A' N (RC 1 - 1)) w := fun w => by
                  rw [← hA']
                  exact run_rest w hcap
                have HA' : Hid ((if RC 1 = 1 then RA 1 else (RA 1).map (·.add 4)) = A') := Lib.hid (by rw [hA1]; exact hA')
                have HNX := Lib.hid (pos_next_1 (p := p) (m := mAt d i) (show nA d 1 ≠ 0 from hda))
                have HBB := Lib.hid hbb
                have HN0 := Lib.hid hN
                have HMAY := Lib.hid (may_at (i := i) HP.out HQY.out.all)
                obtain ⟨b1, b2, b3, b4, b5, b6⟩ := mayT_true HMAY.out
                have x0 := HQY.out.at_.cell (i := 0) (v := .int .i64 ((posA p d (mAt d i)).x)) rfl
                have x1 := HQY.out.at_.cell (i := 1) (v := .int .i64 ((posA p d (mAt d i)).y)) rfl
                have x2 := HQY.out.at_.cell (i := 2) (v := .int .i64 ((posA p d (mAt d i)).z)) rfl
                have xf := HQY.out.at_.frozen 2
                have lg1 : g1 < wr.heap.size := by omega
                have hbp1 : bP < wr.heap.size := hyp
                clear hrow hA1 hA' hbb hN
                go_wp2_with fail
                go_at_call 21
                have hRN := ((HQY.out.rows.next (pos_at d i) (by omega) hml hda HN0.out).set (a := ⟨bP, 2, none⟩) (show bR < bP by omega) (.int .i64 ((posA p d (mAt d i)).z + bb))).alloc (.cells #[.int .i64 1, .int .i64 bb, .int .i64 (2 * nA (mAt d i) 1 + 1), .int .i64 (2 * nA (szT d) 1)] 54)
                rw [HA'.out, ← HBU.out] at hRN
                have HRN := Lib.hid hRN
                clear hRN
                cases hmq : mayT (posA p d (mAt d (i + 1))) with
                | false =>
                  have HMB : Hid (mayB (posA p d (mAt d i)).x (posA p d (mAt d i)).y ((posA p d (mAt d i)).z + bb) = false) := Lib.hid (by
                    rw [HBU.out, HNX.out, HBB.out] at hmq
                    exact hmq)
                  have HE : Hid (i = n ∨ mayT (posA p d (mAt d (i + 1))) = false) := Lib.hid (.inr hmq)
                  clear hmq
                  refine (r_may_b HMB.out _).mono ?_
                  rintro e w7 ⟨rfl, hb7⟩
                  have hOw : OwnL w7 (bP + 1) (.slice A i c) (lst p d i) := OwnL.below (by (repeat' (first | (with_reducible exact HQY.out.own) | (with_reducible refine OwnL.set ?_ (by first | (show bR < bP + 1; omega) | (show bP < bP + 1; omega))) | (with_reducible refine OwnL.alloc ?_ _)))) hb7
                  have hz7 := hb7.size
                  try simp at hz7
                  have HOW := Lib.hid hOw
                  clear hOw
                  go_wp2_with fail
                  try rw [Exit.noGoto_ret]
                  go_ret2
                  have hbq := HQY.out.below
                  rw [way_is HQY.out.le HQY.out.all HE.out]
                  exact ⟨_, rfl, HOW.out.mono (by omega), by (repeat' (first | (with_reducible exact Below.refl _ _) | (with_reducible refine Below.setCell ?_ (by (first | omega | (simp; done) | (simp; omega))) _) | (with_reducible refine Below.alloc ?_ (by (first | omega | (simp; done) | (simp; omega))) _) | (with_reducible refine Below.drew ?_) | (with_reducible refine below_drewN ?_ _) | (with_reducible refine Below.trans ?_ (Below.mono hb7 (by (first | omega | (simp; done) | (simp; omega))))) | (with_reducible refine Below.trans ?_ (Below.mono hbq (by (first | omega | (simp; done) | (simp; omega)))))))⟩
                | true =>
                  have HMB : Hid (mayB (posA p d (mAt d i)).x (posA p d (mAt d i)).y ((posA p d (mAt d i)).z + bb) = true) := Lib.hid (by
                    rw [HBU.out, HNX.out, HBB.out] at hmq
                    exact hmq)
                  have HMQ := Lib.hid hmq
                  clear hmq
                  refine (r_may_b HMB.out _).mono ?_
                  rintro e w7 ⟨rfl, hb7⟩
                  have hOw : OwnL w7 (bP + 1) (.slice A i c) (lst p d i) := OwnL.below (by (repeat' (first | (with_reducible exact HQY.out.own) | (with_reducible refine OwnL.set ?_ (by first | (show bR < bP + 1; omega) | (show bP < bP + 1; omega))) | (with_reducible refine OwnL.alloc ?_ _)))) hb7
                  have hz7 := hb7.size
                  try simp at hz7
                  have HOW := Lib.hid hOw
                  clear hOw
                  go_upto_region 32 with (fail)
                  refine HeldP.wp_named (fun W => OwnL W (bP + 1) (.slice A i c) (lst p d i) ∧ Blk W bP 23 [.int .i64 (posA p d (mAt d i)).x, .int .i64 (posA p d (mAt d i)).y, .int .i64 ((posA p d (mAt d i)).z + bb)] ∧ RowsR W bR d (mAt d (i + 1)) n (fun k => if k = 1 then A' else RA k) (fun k => if k = 1 then RC 1 - 1 else RC k) ∧ Below w.heap.size w W ∧ wr.heap.size ≤ W.heap.size) ?named1 ?_
                  case named1 =>
                    have hbq := HQY.out.below
                    have hAq := HQY.out.at_
                    refine ⟨HOW.out, BlkP.Blk.below (by (repeat' (first | (with_reducible exact hAq) | (with_reducible refine BlkP.Blk.drew ?_) | (with_reducible refine BlkP.Blk.drewN ?_ _) | (with_reducible refine BlkP.Blk.setAt (us := ?_) (by first | omega | (simp; done) | (simp; omega)) rfl ?_ ?_) | (with_reducible refine BlkP.Blk.otherAt ?_ (by first | omega | (simp; done) | (simp; omega))) | (with_reducible refine BlkP.Blk.newA' (by first | omega | (simp; done) | (simp; omega)) rfl) | (with_reducible refine BlkP.Blk.alloc ?_ _) | (exact rfl)))) hb7, HRN.out.below hb7, by (repeat' (first | (with_reducible exact Below.refl _ _) | (with_reducible refine Below.setCell ?_ (by (first | omega | (simp; done) | (simp; omega))) _) | (with_reducible refine Below.alloc ?_ (by (first | omega | (simp; done) | (simp; omega))) _) | (with_reducible refine Below.drew ?_) | (with_reducible refine below_drewN ?_ _) | (with_reducible refine Below.trans ?_ (Below.mono hb7 (by (first | omega | (simp; done) | (simp; omega))))) | (with_reducible refine Below.trans ?_ (Below.mono hbq (by (first | omega | (simp; done) | (simp; omega))))))), by omega⟩
                  rintro W8 ⟨hO8, hA8, hR8, hb8, hz8⟩
                  have y0 := hA8.cell (i := 0) (v := .int .i64 (posA p d (mAt d i)).x) rfl
                  have y1 := hA8.cell (i := 1) (v := .int .i64 (posA p d (mAt d i)).y) rfl
                  have y2 := hA8.cell (i := 2) (v := .int .i64 ((posA p d (mAt d i)).z + bb)) rfl
                  have HO8 : Hid (W8.ownsRow (bP + 1) 23 3 (.slice A i c) i (cellsL (lst p d i))) := Lib.hid (by
                    have := hO8
                    unfold OwnL at this
                    rwa [lst_len] at this)
                  have HA8 := Lib.hid hA8
                  have HR8 := Lib.hid hR8
                  have HB8 := Lib.hid hb8
                  have hq8 := hA8.lt
                  clear hO8 hA8 hR8 hb8 x0 x1 x2 xf hb7 hcell hfr e0 e1 e2 e3 hrest
                  go_wp2_with (at_builtin; go_loud (refine wpList_append_own_at _ rfl _ _ 25 rfl (bP + 1) 23 i0 (.agg #[.int .i64 0, .int .i64 0, .int .i64 0]) 3 24 Tryd.underlying25 HI0.out HZ0.out HZ1.out HZ2.out rfl (by decide) _ _ _ rfl (HO8.out.alloc _) ⟨W8.heap.size, 0, none⟩ 1 1 [.int .i64 (posA p d (mAt d i)).x, .int .i64 (posA p d (mAt d i)).y, .int .i64 ((posA p d (mAt d i)).z + bb)] rfl rfl ?c1_1 ?c2_1 ?c3_1 ?c4_1 ?c5_1 ?_))
                  case c1_1 => exact World.news_of_block (cs := #[.int .i64 (posA p d (mAt d i)).x, .int .i64 (posA p d (mAt d i)).y, .int .i64 ((posA p d (mAt d i)).z + bb)]) (t := 23) (fr := (0, 0)) (heap_alloc_new W8 _)
                  case c2_1 => simp [Value.oneCell']
                  case c3_1 => (unfold maxLen; omega)
                  case c4_1 => omega
                  case c5_1 => (simp; omega)
                  intro v9 w9 hO9 hgrow _ hblk
                  have hA9 := (HA8.out.alloc _).grown hgrow (fun e => by
                    have := ownBlock_ge HO8.out bP e.symm
                    omega)
                  have hR9 := (HR8.out.alloc _).grown hgrow (fun g hg => by
                    have := ownBlock_ge HO8.out g hg
                    omega)
                  have hb9 : Below w.heap.size w w9 := (HB8.out.alloc (by have := HB8.out.size; omega) _).grown hgrow (by (simp; omega)) (fun g hg => by
                    have := ownBlock_ge HO8.out g hg
                    omega)
                  have hg9 := hgrow.size
                  simp at hg9
                  have HQ9 : Hid (WayQ p d n w (bP + 1) bP bR (fun k => if k = 1 then A' else RA k) (fun k => if k = 1 then RC 1 - 1 else RC k) (i + 1) v9 w9) := Lib.hid ⟨by omega, HQY.out.all.succ HMQ.out, by
                    unfold OwnL
                    rw [lst_succ, cellsL_snoc, List.length_append, lst_len, HBU.out, HNX.out, HBB.out]
                    exact hO9, by
                    rw [HBU.out, HNX.out, HBB.out]
                    exact hA9, hR9, hb9, by omega⟩
                  clear hO9 hgrow hblk hA9 hR9 hb9 y0 y1 y2 hg9
                  go_wp2_with fail
                  go_roundg g
                  case measure => omega
                  case rel => exact ⟨i + 1, _, _, by omega, HQ9.out⟩
              | 2, _ =>
                obtain rfl : sc = 2 := HSN.out
                obtain ⟨N, hN⟩ := left_pos (pos_at d i) hml hda
                have hrow := HQY.out.rows.row 2 (by omega)
                have hcell := HQY.out.rows.get (k := 2) (by omega)
                have hfr := HQY.out.rows.blk.frozen 2
                have hcap := (HQY.out.rows.cap 2 (by omega)).1
                obtain ⟨g1, o1, hA1, hg1, e0, e1, e2, e3⟩ := hrow.first (by omega)
                rw [hA1, hN] at hcell
                rw [hN] at hcap
                have e0 : wr.cell? ⟨g1, o1, none⟩ = some (.int .i64 2) := e0
                obtain ⟨bb, hbb⟩ : ∃ bb, byA (nA d 2) = bb := ⟨_, rfl⟩
                have hbb1 : -1 ≤ bb ∧ bb ≤ 1 := by
                  rw [← hbb]
                  unfold byA
                  split <;> omega
                rw [hbb] at e1
                obtain ⟨A', hA'⟩ : ∃ A', (if RC 2 = 1 then some ⟨g1, o1, none⟩ else (some (⟨g1, o1, none⟩ : Addr)).map (·.add 4)) = A' := ⟨_, rfl⟩
                have hrest : ∀ w, (Instr.sliceAt 49 (.slice (some ⟨g1, o1, none⟩) (N + 1) (RC 2)) (some (.int .i64 1)) none none).run Tryd.prog w = .ok (.slice A' N (RC 2 - 1)) w := fun w => by
                  rw [← hA']
                  exact run_rest w hcap
                have HA' : Hid ((if RC 2 = 1 then RA 2 else (RA 2).map (·.add 4)) = A') := Lib.hid (by rw [hA1]; exact hA')
                have HNX := Lib.hid (pos_next_2 (p := p) (m := mAt d i) (show nA d 2 ≠ 0 from hda))
                have HBB := Lib.hid hbb
                have HN0 := Lib.hid hN
                have HMAY := Lib.hid (may_at (i := i) HP.out HQY.out.all)
                obtain ⟨b1, b2, b3, b4, b5, b6⟩ := mayT_true HMAY.out
                have x0 := HQY.out.at_.cell (i := 0) (v := .int .i64 ((posA p d (mAt d i)).x)) rfl
                have x1 := HQY.out.at_.cell (i := 1) (v := .int .i64 ((posA p d (mAt d i)).y)) rfl
                have x2 := HQY.out.at_.cell (i := 2) (v := .int .i64 ((posA p d (mAt d i)).z)) rfl
                have xf := HQY.out.at_.frozen 1
                have lg1 : g1 < wr.heap.size := by omega
                have hbp1 : bP < wr.heap.size := hyp
                clear hrow hA1 hA' hbb hN
                go_wp2_with fail
                go_at_call 21
                have hRN := ((HQY.out.rows.next (pos_at d i) (by omega) hml hda HN0.out).set (a := ⟨bP, 1, none⟩) (show bR < bP by omega) (.int .i64 ((posA p d (mAt d i)).y + bb))).alloc (.cells #[.int .i64 2, .int .i64 bb, .int .i64 (2 * nA (mAt d i) 2 + 1), .int .i64 (2 * nA (szT d) 2)] 54)
                rw [HA'.out, ← HBU.out] at hRN
                have HRN := Lib.hid hRN
                clear hRN
                cases hmq : mayT (posA p d (mAt d (i + 1))) with
                | false =>
                  have HMB : Hid (mayB (posA p d (mAt d i)).x ((posA p d (mAt d i)).y + bb) (posA p d (mAt d i)).z = false) := Lib.hid (by
                    rw [HBU.out, HNX.out, HBB.out] at hmq
                    exact hmq)
                  have HE : Hid (i = n ∨ mayT (posA p d (mAt d (i + 1))) = false) := Lib.hid (.inr hmq)
                  clear hmq
                  refine (r_may_b HMB.out _).mono ?_
                  rintro e w7 ⟨rfl, hb7⟩
                  have hOw : OwnL w7 (bP + 1) (.slice A i c) (lst p d i) := OwnL.below (by (repeat' (first | (with_reducible exact HQY.out.own) | (with_reducible refine OwnL.set ?_ (by first | (show bR < bP + 1; omega) | (show bP < bP + 1; omega))) | (with_reducible refine OwnL.alloc ?_ _)))) hb7
                  have hz7 := hb7.size
                  try simp at hz7
                  have HOW := Lib.hid hOw
                  clear hOw
                  go_wp2_with fail
                  try rw [Exit.noGoto_ret]
                  go_ret2
                  have hbq := HQY.out.below
                  rw [way_is HQY.out.le HQY.out.all HE.out]
                  exact ⟨_, rfl, HOW.out.mono (by omega), by (repeat' (first | (with_reducible exact Below.refl _ _) | (with_reducible refine Below.setCell ?_ (by (first | omega | (simp; done) | (simp; omega))) _) | (with_reducible refine Below.alloc ?_ (by (first | omega | (simp; done) | (simp; omega))) _) | (with_reducible refine Below.drew ?_) | (with_reducible refine below_drewN ?_ _) | (with_reducible refine Below.trans ?_ (Below.mono hb7 (by (first | omega | (simp; done) | (simp; omega))))) | (with_reducible refine Below.trans ?_ (Below.mono hbq (by (first | omega | (simp; done) | (simp; omega)))))))⟩
                | true =>
                  have HMB : Hid (mayB (posA p d (mAt d i)).x ((posA p d (mAt d i)).y + bb) (posA p d (mAt d i)).z = true) := Lib.hid (by
                    rw [HBU.out, HNX.out, HBB.out] at hmq
                    exact hmq)
                  have HMQ := Lib.hid hmq
                  clear hmq
                  refine (r_may_b HMB.out _).mono ?_
                  rintro e w7 ⟨rfl, hb7⟩
                  have hOw : OwnL w7 (bP + 1) (.slice A i c) (lst p d i) := OwnL.below (by (repeat' (first | (with_reducible exact HQY.out.own) | (with_reducible refine OwnL.set ?_ (by first | (show bR < bP + 1; omega) | (show bP < bP + 1; omega))) | (with_reducible refine OwnL.alloc ?_ _)))) hb7
                  have hz7 := hb7.size
                  try simp at hz7
                  have HOW := Lib.hid hOw
                  clear hOw
                  go_upto_region 32 with (fail)
                  refine HeldP.wp_named (fun W => OwnL W (bP + 1) (.slice A i c) (lst p d i) ∧ Blk W bP 23 [.int .i64 (posA p d (mAt d i)).x, .int .i64 ((posA p d (mAt d i)).y + bb), .int .i64 (posA p d (mAt d i)).z] ∧ RowsR W bR d (mAt d (i + 1)) n (fun k => if k = 2 then A' else RA k) (fun k => if k = 2 then RC 2 - 1 else RC k) ∧ Below w.heap.size w W ∧ wr.heap.size ≤ W.heap.size) ?named2 ?_
                  case named2 =>
                    have hbq := HQY.out.below
                    have hAq := HQY.out.at_
                    refine ⟨HOW.out, BlkP.Blk.below (by (repeat' (first | (with_reducible exact hAq) | (with_reducible refine BlkP.Blk.drew ?_) | (with_reducible refine BlkP.Blk.drewN ?_ _) | (with_reducible refine BlkP.Blk.setAt (us := ?_) (by first | omega | (simp; done) | (simp; omega)) rfl ?_ ?_) | (with_reducible refine BlkP.Blk.otherAt ?_ (by first | omega | (simp; done) | (simp; omega))) | (with_reducible refine BlkP.Blk.newA' (by first | omega | (simp; done) | (simp; omega)) rfl) | (with_reducible refine BlkP.Blk.alloc ?_ _) | (exact rfl)))) hb7, HRN.out.below hb7, by (repeat' (first | (with_reducible exact Below.refl _ _) | (with_reducible refine Below.setCell ?_ (by (first | omega | (simp; done) | (simp; omega))) _) | (with_reducible refine Below.alloc ?_ (by (first | omega | (simp; done) | (simp; omega))) _) | (with_reducible refine Below.drew ?_) | (with_reducible refine below_drewN ?_ _) | (with_reducible refine Below.trans ?_ (Below.mono hb7 (by (first | omega | (simp; done) | (simp; omega))))) | (with_reducible refine Below.trans ?_ (Below.mono hbq (by (first | omega | (simp; done) | (simp; omega))))))), by omega⟩
                  rintro W8 ⟨hO8, hA8, hR8, hb8, hz8⟩
                  have y0 := hA8.cell (i := 0) (v := .int .i64 (posA p d (mAt d i)).x) rfl
                  have y1 := hA8.cell (i := 1) (v := .int .i64 ((posA p d (mAt d i)).y + bb)) rfl
                  have y2 := hA8.cell (i := 2) (v := .int .i64 (posA p d (mAt d i)).z) rfl
                  have HO8 : Hid (W8.ownsRow (bP + 1) 23 3 (.slice A i c) i (cellsL (lst p d i))) := Lib.hid (by
                    have := hO8
                    unfold OwnL at this
                    rwa [lst_len] at this)
                  have HA8 := Lib.hid hA8
                  have HR8 := Lib.hid hR8
                  have HB8 := Lib.hid hb8
                  have hq8 := hA8.lt
                  clear hO8 hA8 hR8 hb8 x0 x1 x2 xf hb7 hcell hfr e0 e1 e2 e3 hrest
                  go_wp2_with (at_builtin; go_loud (refine wpList_append_own_at _ rfl _ _ 25 rfl (bP + 1) 23 i0 (.agg #[.int .i64 0, .int .i64 0, .int .i64 0]) 3 24 Tryd.underlying25 HI0.out HZ0.out HZ1.out HZ2.out rfl (by decide) _ _ _ rfl (HO8.out.alloc _) ⟨W8.heap.size, 0, none⟩ 1 1 [.int .i64 (posA p d (mAt d i)).x, .int .i64 ((posA p d (mAt d i)).y + bb), .int .i64 (posA p d (mAt d i)).z] rfl rfl ?c1_2 ?c2_2 ?c3_2 ?c4_2 ?c5_2 ?_))
                  case c1_2 => exact World.news_of_block (cs := #[.int .i64 (posA p d (mAt d i)).x, .int .i64 ((posA p d (mAt d i)).y + bb), .int .i64 (posA p d (mAt d i)).z]) (t := 23) (fr := (0, 0)) (heap_alloc_new W8 _)
                  case c2_2 => simp [Value.oneCell']
                  case c3_2 => (unfold maxLen; omega)
                  case c4_2 => omega
                  case c5_2 => (simp; omega)
                  intro v9 w9 hO9 hgrow _ hblk
                  have hA9 := (HA8.out.alloc _).grown hgrow (fun e => by
                    have := ownBlock_ge HO8.out bP e.symm
                    omega)
                  have hR9 := (HR8.out.alloc _).grown hgrow (fun g hg => by
                    have := ownBlock_ge HO8.out g hg
                    omega)
                  have hb9 : Below w.heap.size w w9 := (HB8.out.alloc (by have := HB8.out.size; omega) _).grown hgrow (by (simp; omega)) (fun g hg => by
                    have := ownBlock_ge HO8.out g hg
                    omega)
                  have hg9 := hgrow.size
                  simp at hg9
                  have HQ9 : Hid (WayQ p d n w (bP + 1) bP bR (fun k => if k = 2 then A' else RA k) (fun k => if k = 2 then RC 2 - 1 else RC k) (i + 1) v9 w9) := Lib.hid ⟨by omega, HQY.out.all.succ HMQ.out, by
                    unfold OwnL
                    rw [lst_succ, cellsL_snoc, List.length_append, lst_len, HBU.out, HNX.out, HBB.out]
                    exact hO9, by
                    rw [HBU.out, HNX.out, HBB.out]
                    exact hA9, hR9, hb9, by omega⟩
                  clear hO9 hgrow hblk hA9 hR9 hb9 y0 y1 y2 hg9
                  go_wp2_with fail
                  go_roundg g
                  case measure => omega
                  case rel => exact ⟨i + 1, _, _, by omega, HQ9.out⟩
end RayP
end Go.Proofs.YtcmndfjoaoinjaaDoor
