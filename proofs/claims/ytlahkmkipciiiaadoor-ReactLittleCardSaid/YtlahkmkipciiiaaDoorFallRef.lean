/-
  The reference: Same, Next, Lands, Row.
-/
import Derived.Test.YtlahkmkipciiiaaDoorFallAwake
import Derived.Test.YtlahkmkipciiiaaDoorHeldP
namespace Go.Proofs.YtlahkmkipciiiaaDoor
open Go.RowKit
set_option linter.unusedVariables false
set_option linter.unusedSimpArgs false
namespace FallW
open BlkP RowG FrS PushG CellsW NearW
open FallP hiding Cl
set_option maxRecDepth 100000 in
set_option maxHeartbeats 16000000 in
theorem rsame_c {w : World} {A1 A2 : Option Addr} {n c1 c2 : Nat} {l : List (Nat × Cl)} (h1 : Rd encX w (.slice A1 n c1) l) (h2 : Rd encX w (.slice A2 n c2) l) (hn : l.length = n) (h4 : n ≤ 100) :
    Calls Tryd.prog 10 #[.agg #[.slice A1 n c1, .int .i64 0, .int .i64 0], .agg #[.slice A2 n c2, .int .i64 0, .int .i64 0]] w fun e w' => e = .returned (.bool true) ∧ Below w.heap.size w w' := by
  have HR1 := Lib.hid h1
  have HR2 := Lib.hid h2
  have HN := Lib.hid hn
  have H4 := Lib.hid h4
  clear h1 h2 hn h4
  go_enter Tryd.func10, Tryd.ntmps10
  go_wp2_with fail
  obtain ⟨s, hs⟩ : ∃ s, w.heap.size = s := ⟨_, rfl⟩
  refine HeldP.wp_named (S := fun W => Below w.heap.size w W ∧ Blk W s TD [.slice A1 n c1, .int .i64 0, .int .i64 0] ∧ Blk W (s + 1) TD [.slice A2 n c2, .int .i64 0, .int .i64 0]) ⟨by (repeat' (first | (with_reducible exact Below.refl _ _) | (with_reducible refine Below.setCell ?_ (by (first | omega | (simp; done) | (simp; omega))) _) | (with_reducible refine Below.alloc ?_ (by (first | omega | (simp; done) | (simp; omega))) _) | (with_reducible refine Below.drew ?_) | (with_reducible refine below_drewN ?_ _))), by subst hs; (repeat' (first | (with_reducible refine BlkP.Blk.drew ?_) | (with_reducible refine BlkP.Blk.drewN ?_ _) | (with_reducible refine BlkP.Blk.setAt (us := ?_) (by first | omega | (simp; done) | (simp; omega)) rfl ?_ ?_) | (with_reducible refine BlkP.Blk.otherAt ?_ (by first | omega | (simp; done) | (simp; omega))) | (with_reducible refine BlkP.Blk.newA' (by first | omega | (simp; done) | (simp; omega)) rfl) | (with_reducible refine BlkP.Blk.alloc ?_ _) | (exact rfl))), by subst hs; (repeat' (first | (with_reducible refine BlkP.Blk.drew ?_) | (with_reducible refine BlkP.Blk.drewN ?_ _) | (with_reducible refine BlkP.Blk.setAt (us := ?_) (by first | omega | (simp; done) | (simp; omega)) rfl ?_ ?_) | (with_reducible refine BlkP.Blk.otherAt ?_ (by first | omega | (simp; done) | (simp; omega))) | (with_reducible refine BlkP.Blk.newA' (by first | omega | (simp; done) | (simp; omega)) rfl) | (with_reducible refine BlkP.Blk.alloc ?_ _) | (exact rfl)))⟩ ?_
  rintro w1 ⟨hb1, hx1, hy1⟩
  have HB1 := Lib.hid hb1
  have HX1 := Lib.hid hx1
  have HY1 := Lib.hid hy1
  have HS := Lib.hid hs
  rw [hs]
  clear hb1 hx1 hy1 hs
  go_loopw [5] (fun v5 wr => ∃ j : Nat, v5 = .int .i64 (j : Nat) ∧ j ≤ n ∧ Below w1.heap.size w1 wr) (fun v _ => n - (intOf v).toNat)
  case atStart => exact ⟨0, rfl, by omega, Below.refl _ _⟩
  case round =>
    obtain ⟨j, rfl, hj, hbr⟩ := hrel
    have HBR := Lib.hid hbr
    have HX := Lib.hid (HX1.out.below hbr)
    have HY := Lib.hid (HY1.out.below hbr)
    have x0 := HX.out.cell (i := 0) rfl
    have y0 := HY.out.cell (i := 0) rfl
    have lx := HX.out.lt
    have ly := HY.out.lt
    by_cases hjl : j < n
    · have hjI : (j : Int) < (n : Int) := by omega
      have hj1 : (j : Int) < 100 := by have := H4.out; omega
      have hj2 : j < 100 := by have := H4.out; omega
      have HWR := Lib.hid (show wrap64 ((j : Int) + 1) = ((j + 1 : Nat) : Int) by rw [wr64 (by omega) (by have := H4.out; omega)]; omega)
      obtain ⟨⟨d, k, m⟩, hl⟩ : ∃ x, l[j]? = some x := ⟨_, List.getElem?_eq_getElem (by rw [HN.out]; exact hjl)⟩
      obtain ⟨b1, o1, hA1, hlt1, hc1⟩ := (HR1.out.below (below_t HB1.out hbr)).at hl
      obtain ⟨b2, o2, hA2, hlt2, hc2⟩ := (HR2.out.below (below_t HB1.out hbr)).at hl
      subst hA1
      subst hA2
      have p0 : wr.cell? ⟨b1, o1 + j * 3, none⟩ = some (.int .i64 (d : Int)) := hc1 0 _ rfl
      have p1 : wr.cell? ⟨b1, o1 + j * 3 + 1, none⟩ = some (.int .u8 (k : Int)) := hc1 1 _ rfl
      have p2 : wr.cell? ⟨b1, o1 + j * 3 + 2, none⟩ = some (.int .u8 (m : Int)) := hc1 2 _ rfl
      have q0 : wr.cell? ⟨b2, o2 + j * 3, none⟩ = some (.int .i64 (d : Int)) := hc2 0 _ rfl
      have q1 : wr.cell? ⟨b2, o2 + j * 3 + 1, none⟩ = some (.int .u8 (k : Int)) := hc2 1 _ rfl
      have q2 : wr.cell? ⟨b2, o2 + j * 3 + 2, none⟩ = some (.int .u8 (m : Int)) := hc2 2 _ rfl
      clear hc1 hc2 hbr hl
      go_wp2_with fail
      refine wp_region_noPanic ?_
      refine wp_region_held_drew (S := fun W => Below wr.heap.size wr W) (by kernel_rfl) ((Below.refl _ wr).drew) (fun hHeld => ?_)
      refine wpAnyH_take (i := 0) (oi := ⟨some 34, _, _, _, _, _⟩) (v := .pointer (some ⟨s, 0, none⟩)) rfl (by kernel_rfl) (by kernel_rfl) (by kernel_rfl) (fun _ _ _ h => h) (Or.inl ⟨by rfl, fun W hSW => by go_simp⟩) hHeld ?_
      simp only [Act.put, List.setIfInBounds_toArray, List.set_cons_zero, List.set_cons_succ]
      refine wpAnyH_take (i := 1) (oi := ⟨some 35, _, _, _, _, _⟩) (v := .slice (some ⟨b1, o1, none⟩) n c1) rfl (by kernel_rfl) (by kernel_rfl) (by kernel_rfl) (fun _ _ _ h => h) (Or.inl ⟨by rfl, fun W hSW => by have a0 := (hSW.cell (p := ⟨s, 0, none⟩) lx).trans x0; go_simp⟩) hHeld ?_
      simp only [Act.put, List.setIfInBounds_toArray, List.set_cons_zero, List.set_cons_succ]
      refine wpAnyH_take (i := 2) (oi := ⟨some 36, _, _, _, _, _⟩) (v := .int .i64 (j : Int)) rfl (by kernel_rfl) (by kernel_rfl) (by kernel_rfl) (fun _ _ _ h => h) (Or.inl ⟨by rfl, fun W hSW => by go_simp⟩) hHeld ?_
      simp only [Act.put, List.setIfInBounds_toArray, List.set_cons_zero, List.set_cons_succ]
      refine wpAnyH_take (i := 3) (oi := ⟨some 37, _, _, _, _, _⟩) (v := .pointer (some ⟨b1, o1 + j * 3, none⟩)) rfl (by kernel_rfl) (by kernel_rfl) (by kernel_rfl) (fun _ _ _ h => h) (Or.inl ⟨by rfl, fun W hSW => by go_simp⟩) hHeld ?_
      simp only [Act.put, List.setIfInBounds_toArray, List.set_cons_zero, List.set_cons_succ]
      refine wpAnyH_take (i := 4) (oi := ⟨some 38, _, _, _, _, _⟩) (v := .agg #[.int .i64 (d : Int), .int .u8 (k : Int), .int .u8 (m : Int)]) rfl (by kernel_rfl) (by kernel_rfl) (by kernel_rfl) (fun _ _ _ h => h) (Or.inl ⟨by rfl, fun W hSW => by have a0 := (hSW.cell (p := ⟨b1, o1 + j * 3, none⟩) hlt1).trans p0; have a1 := (hSW.cell (p := ⟨b1, o1 + j * 3 + 1, none⟩) hlt1).trans p1; have a2 := (hSW.cell (p := ⟨b1, o1 + j * 3 + 2, none⟩) hlt1).trans p2; go_simp⟩) hHeld ?_
      simp only [Act.put, List.setIfInBounds_toArray, List.set_cons_zero, List.set_cons_succ]
      refine wpAnyH_take (i := 5) (oi := ⟨some 39, _, _, _, _, _⟩) (v := .pointer (some ⟨s + 1, 0, none⟩)) rfl (by kernel_rfl) (by kernel_rfl) (by kernel_rfl) (fun _ _ _ h => h) (Or.inl ⟨by rfl, fun W hSW => by go_simp⟩) hHeld ?_
      simp only [Act.put, List.setIfInBounds_toArray, List.set_cons_zero, List.set_cons_succ]
      refine wpAnyH_take (i := 6) (oi := ⟨some 40, _, _, _, _, _⟩) (v := .slice (some ⟨b2, o2, none⟩) n c2) rfl (by kernel_rfl) (by kernel_rfl) (by kernel_rfl) (fun _ _ _ h => h) (Or.inl ⟨by rfl, fun W hSW => by have a0 := (hSW.cell (p := ⟨s + 1, 0, none⟩) ly).trans y0; go_simp⟩) hHeld ?_
      simp only [Act.put, List.setIfInBounds_toArray, List.set_cons_zero, List.set_cons_succ]
      refine wpAnyH_take (i := 7) (oi := ⟨some 41, _, _, _, _, _⟩) (v := .int .i64 (j : Int)) rfl (by kernel_rfl) (by kernel_rfl) (by kernel_rfl) (fun _ _ _ h => h) (Or.inl ⟨by rfl, fun W hSW => by go_simp⟩) hHeld ?_
      simp only [Act.put, List.setIfInBounds_toArray, List.set_cons_zero, List.set_cons_succ]
      refine wpAnyH_take (i := 8) (oi := ⟨some 42, _, _, _, _, _⟩) (v := .pointer (some ⟨b2, o2 + j * 3, none⟩)) rfl (by kernel_rfl) (by kernel_rfl) (by kernel_rfl) (fun _ _ _ h => h) (Or.inl ⟨by rfl, fun W hSW => by go_simp⟩) hHeld ?_
      simp only [Act.put, List.setIfInBounds_toArray, List.set_cons_zero, List.set_cons_succ]
      refine wpAnyH_take (i := 9) (oi := ⟨some 43, _, _, _, _, _⟩) (v := .agg #[.int .i64 (d : Int), .int .u8 (k : Int), .int .u8 (m : Int)]) rfl (by kernel_rfl) (by kernel_rfl) (by kernel_rfl) (fun _ _ _ h => h) (Or.inl ⟨by rfl, fun W hSW => by have a0 := (hSW.cell (p := ⟨b2, o2 + j * 3, none⟩) hlt2).trans q0; have a1 := (hSW.cell (p := ⟨b2, o2 + j * 3 + 1, none⟩) hlt2).trans q1; have a2 := (hSW.cell (p := ⟨b2, o2 + j * 3 + 2, none⟩) hlt2).trans q2; go_simp⟩) hHeld ?_
      simp only [Act.put, List.setIfInBounds_toArray, List.set_cons_zero, List.set_cons_succ]
      refine wpAnyH_take (i := 10) (oi := ⟨some 44, _, _, _, _, _⟩) (v := .bool false) rfl (by kernel_rfl) (by kernel_rfl) (by kernel_rfl) (fun _ _ _ h => h) (Or.inl ⟨by rfl, fun W hSW => by go_simp⟩) hHeld ?_
      simp only [Act.put, List.setIfInBounds_toArray, List.set_cons_zero, List.set_cons_succ]
      refine wpAnyH_done (by kernel_rfl) ?_ _
      refine NoPanic.normal ?_
      refine HeldP.then_named (S := fun W => Below wr.heap.size wr W) hHeld ?_
      rintro X0 hx0
      have HX0 := Lib.hid (below_t HBR.out hx0)
      clear hHeld hx0 x0 y0 lx ly p0 p1 p2 q0 q1 q2
      go_wp2_with fail
      go_roundw
      case rel => exact ⟨j + 1, by first | rfl | rw [HWR.out] | (congr 1; omega), by omega, HX0.out⟩
      case measure =>
        simp only [intOf]
        omega
    · have hjI : ¬ (j : Int) < (n : Int) := by omega
      clear hbr
      go_wp2_with fail
      go_ret
      exact ⟨rfl, below_t HB1.out HBR.out⟩
set_option maxRecDepth 100000 in
set_option maxHeartbeats 8000000 in
theorem rNext_c {w : World} {n : Nr} : Calls Tryd.prog 26 #[nv n] w (DeedP w (nextD n)) := by
  obtain ⟨⟨k0, l0⟩, hs0⟩ : ∃ c, n.s = c := ⟨_, rfl⟩
  obtain ⟨⟨k5, l5⟩, hs5⟩ : ∃ c, n.sd 5 = c := ⟨_, rfl⟩
  have HS0 := Lib.hid hs0
  have HS5 := Lib.hid hs5
  obtain ⟨f, hf⟩ : ∃ f, falls (k0, l0) = f := ⟨_, rfl⟩
  obtain ⟨y, hy⟩ : ∃ y, yields (k5, l5) = y := ⟨_, rfl⟩
  obtain ⟨q0, hq0⟩ : ∃ q, kd (k0, l0) = q := ⟨_, rfl⟩
  obtain ⟨q5, hq5⟩ : ∃ q, kd (k5, l5) = q := ⟨_, rfl⟩
  have HF := Lib.hid hf
  have HY := Lib.hid hy
  have HQ0 := Lib.hid hq0
  have HQ5 := Lib.hid hq5
  have HD := Lib.hid (show nextD n = if f && y then [(6, (k0, l0)), (0, (0, 0))] else [] from by
    unfold nextD
    rw [hs0, hs5, hf, hy])
  clear hs0 hs5 hf hy hq0 hq5
  go_enter Tryd.func26, Tryd.ntmps26
  go_wp2_with ((with_reducible refine at_slot 1 ?_); refine Classical.byContradiction (fun hG => ?_))
  refine hG ?_
  clear hG
  refine wp_boxN rfl (.tmp 0) rfl rfl ?_
  intro w1 h1 hb1 hz1
  obtain ⟨s, hs⟩ : ∃ s, w.heap.size = s := ⟨_, rfl⟩
  rw [hs] at h1 hz1
  rw [hs]
  have HB1 := Lib.hid hb1
  have H1 := Lib.hid h1
  have HS := Lib.hid hs
  have hs1 : s < w1.heap.size := h1.lt
  clear h1 hb1 hs
  go_wp2_with ((with_reducible refine at_slot 4 ?_); refine Classical.byContradiction (fun hG => ?_))
  refine hG ?_
  clear hG
  refine list_named (S := fun W => Below w.heap.size w W ∧ Blk W s TN (vals n) ∧ Blk W (s + 1) TD [.slice none 0 0, .int .i64 0, .int .i64 0] ∧ Blk W (s + 2) TD [.slice none 0 0, .int .i64 0, .int .i64 0]) ⟨by have zz := HB1.out.size; (repeat' (first | (with_reducible exact Below.refl _ _) | (with_reducible refine Below.setCell ?_ (by (first | omega | (simp; done) | (simp; omega))) _) | (with_reducible refine Below.alloc ?_ (by (first | omega | (simp; done) | (simp; omega))) _) | (with_reducible refine Below.drew ?_) | (with_reducible refine below_drewN ?_ _) | (with_reducible refine Below.trans ?_ (Below.mono HB1.out (by (first | omega | (simp; done) | (simp; omega))))))), by (repeat' (first | (with_reducible exact H1.out) | (with_reducible refine BlkP.Blk.drew ?_) | (with_reducible refine BlkP.Blk.drewN ?_ _) | (with_reducible refine BlkP.Blk.setAt (us := ?_) (by first | omega | (simp; done) | (simp; omega)) rfl ?_ ?_) | (with_reducible refine BlkP.Blk.otherAt ?_ (by first | omega | (simp; done) | (simp; omega))) | (with_reducible refine BlkP.Blk.newA' (by first | omega | (simp; done) | (simp; omega)) rfl) | (with_reducible refine BlkP.Blk.alloc ?_ _) | (exact rfl))), by (repeat' (first | (with_reducible refine BlkP.Blk.drew ?_) | (with_reducible refine BlkP.Blk.drewN ?_ _) | (with_reducible refine BlkP.Blk.setAt (us := ?_) (by first | omega | (simp; done) | (simp; omega)) rfl ?_ ?_) | (with_reducible refine BlkP.Blk.otherAt ?_ (by first | omega | (simp; done) | (simp; omega))) | (with_reducible refine BlkP.Blk.newA' (by first | omega | (simp; done) | (simp; omega)) rfl) | (with_reducible refine BlkP.Blk.alloc ?_ _) | (exact rfl))), by (repeat' (first | (with_reducible refine BlkP.Blk.drew ?_) | (with_reducible refine BlkP.Blk.drewN ?_ _) | (with_reducible refine BlkP.Blk.setAt (us := ?_) (by first | omega | (simp; done) | (simp; omega)) rfl ?_ ?_) | (with_reducible refine BlkP.Blk.otherAt ?_ (by first | omega | (simp; done) | (simp; omega))) | (with_reducible refine BlkP.Blk.newA' (by first | omega | (simp; done) | (simp; omega)) rfl) | (with_reducible refine BlkP.Blk.alloc ?_ _) | (exact rfl)))⟩ ?_
  rintro w2 ⟨hb2, h2, hr2, hd2⟩
  try rw [hz1]
  have HB2 := Lib.hid hb2
  have H2 := Lib.hid h2
  have HR2 := Lib.hid hr2
  have HD2 := Lib.hid hd2
  have c0 := h2.cell (i := 0) (g_kind n)
  have c1 := h2.cell (i := 1) (g_lev n)
  rw [HS0.out] at c0 c1
  clear hb2 h2 hr2 hd2 hs1 hz1
  go_wp2_with fail
  refine (rof_c HQ0.out).mono ?_
  rintro e w3 ⟨rfl, hb3⟩
  have HB3 := Lib.hid (below_t HB2.out hb3)
  clear c0 c1
  go_wp2_with fail
  refine (rfalls_c HQ0.out HF.out).mono ?_
  rintro e w4 ⟨rfl, hb4⟩
  have HB4 := Lib.hid (below_t HB3.out hb4)
  have H4 := Lib.hid ((H2.out.below hb3).below hb4)
  have HR4 := Lib.hid ((HR2.out.below hb3).below hb4)
  have HD4 := Lib.hid ((HD2.out.below hb3).below hb4)
  clear hb3 hb4
  cases f with
  | false =>
    have HE := Lib.hid (show nextD n = [] from by rw [HD.out]; rfl)
    have r0 := HR4.out.cell (i := 0) rfl
    have z0 := HR4.out.frozen 0
    have r1 := HR4.out.cell (i := 1) rfl
    have z1 := HR4.out.frozen 1
    have r2 := HR4.out.cell (i := 2) rfl
    have z2 := HR4.out.frozen 2
    have d0 := HD4.out.cell (i := 0) rfl
    have y0 := HD4.out.frozen 0
    have d1 := HD4.out.cell (i := 1) rfl
    have y1 := HD4.out.frozen 1
    have d2 := HD4.out.cell (i := 2) rfl
    have y2 := HD4.out.frozen 2
    have rl := HR4.out.lt
    have rl2 := HD4.out.lt
    go_wp2_with fail
    refine bodyPost_ret (v := .agg #[.slice none 0 0, .int .i64 0, .int .i64 0]) (by simp [results, Tryd.results26, go_sem, rl, r0, r1, r2]) rfl ?_
    refine ⟨_, rfl, ?_, ?_⟩
    · rw [HE.out]
      exact Own.nil _ _ _ _
    · have := HS.out
      exact ((HB4.out.setCell (by simp; omega) _).setCell (by simp; omega) _).setCell (by simp; omega) _
  | true =>
    have c0 := H4.out.cell (g_sk n (d := 5) (by omega))
    have c1 := H4.out.cell (g_sl n (d := 5) (by omega))
    rw [HS5.out] at c0 c1
    simp only at c0 c1
    have hs3 : s < w4.heap.size := H4.out.lt
    go_wp2_with fail
    refine (rof_c HQ5.out).mono ?_
    rintro e w5 ⟨rfl, hb5⟩
    have HB5 := Lib.hid (below_t HB4.out hb5)
    clear c0 c1 hs3
    go_wp2_with fail
    refine (ryields_c HQ5.out HY.out).mono ?_
    rintro e w6 ⟨rfl, hb6⟩
    have HB6 := Lib.hid (below_t HB5.out hb6)
    have H6 := Lib.hid ((H4.out.below hb5).below hb6)
    have HR6 := Lib.hid ((HR4.out.below hb5).below hb6)
    have HD6 := Lib.hid ((HD4.out.below hb5).below hb6)
    clear hb5 hb6
    cases y with
    | false =>
      have HE := Lib.hid (show nextD n = [] from by rw [HD.out]; rfl)
      have r0 := HR6.out.cell (i := 0) rfl
      have z0 := HR6.out.frozen 0
      have r1 := HR6.out.cell (i := 1) rfl
      have z1 := HR6.out.frozen 1
      have r2 := HR6.out.cell (i := 2) rfl
      have z2 := HR6.out.frozen 2
      have d0 := HD6.out.cell (i := 0) rfl
      have y0 := HD6.out.frozen 0
      have d1 := HD6.out.cell (i := 1) rfl
      have y1 := HD6.out.frozen 1
      have d2 := HD6.out.cell (i := 2) rfl
      have y2 := HD6.out.frozen 2
      have rl := HR6.out.lt
      have rl2 := HD6.out.lt
      go_wp2_with fail
      refine bodyPost_ret (v := .agg #[.slice none 0 0, .int .i64 0, .int .i64 0]) (by simp [results, Tryd.results26, go_sem, rl, r0, r1, r2]) rfl ?_
      refine ⟨_, rfl, ?_, ?_⟩
      · rw [HE.out]
        exact Own.nil _ _ _ _
      · have := HS.out
        exact ((HB6.out.setCell (by simp; omega) _).setCell (by simp; omega) _).setCell (by simp; omega) _
    | true =>
      have HE := Lib.hid (show nextD n = [(6, (k0, l0)), (0, (0, 0))] from by rw [HD.out]; rfl)
      have c0 := H6.out.cell (i := 0) (g_kind n)
      have c1 := H6.out.cell (i := 1) (g_lev n)
      rw [HS0.out] at c0 c1
      have d0 := HD6.out.cell (i := 0) rfl
      have y0 := HD6.out.frozen 0
      have sl := H6.out.lt
      have dl := HD6.out.lt
      have HZ := Lib.hid (show w.heap.size ≤ w6.heap.size from HB6.out.size)
      go_wp2_with ((with_reducible refine at_slot 21 ?_); refine Classical.byContradiction (fun hG => ?_))
      refine hG ?_
      clear hG
      refine wp_pushX (w0 := w6) (v := .slice none 0 0) (y := (6, (k0, l0))) (l := []) (n := 0) (B := w.heap.size) rfl (.tmp 16) (.tmp 20) rfl (by first | rfl | simp) rfl (Own.nil _ _ _ _) rfl rfl rfl (by omega) HZ.out ?_
      intro g1 cp1 w7 hpu
      have HO7 := Lib.hid hpu.1
      have HB7 := Lib.hid (show Below w.heap.size w w7 from HB6.out.grown hpu.2.1 HZ.out (fun q hq => by cases hq))
      have HR7 := Lib.hid (show Blk w7 (s + 1) TD [.slice none 0 0, .int .i64 0, .int .i64 0] from HR6.out.grown hpu.2.1 (by simp [Value.ownBlock]))
      have HD7 := Lib.hid (show Blk w7 (s + 2) TD [.slice none 0 0, .int .i64 0, .int .i64 0] from HD6.out.grown hpu.2.1 (by simp [Value.ownBlock]))
      have d0 := HD7.out.cell (i := 0) rfl
      have y0 := HD7.out.frozen 0
      have dl := HD7.out.lt
      clear hpu c0 c1 sl
      go_wp2_with ((with_reducible refine at_slot 24 ?_); refine Classical.byContradiction (fun hG => ?_))
      refine hG ?_
      clear hG
      refine list_named (S := fun W => Below w.heap.size w W ∧ Blk W (s + 1) TD [.slice none 0 0, .int .i64 0, .int .i64 0] ∧ Blk W (s + 2) TD [.slice (some ⟨g1, 0, none⟩) 1 cp1, .int .i64 0, .int .i64 0] ∧ RowG.Own encX TX W w.heap.size (.slice (some ⟨g1, 0, none⟩) 1 cp1) [(6, (k0, l0))]) ⟨by have := HS.out; exact HB7.out.setCell (by simp; omega) _, by (repeat' (first | (with_reducible exact HR7.out) | (with_reducible refine BlkP.Blk.drew ?_) | (with_reducible refine BlkP.Blk.drewN ?_ _) | (with_reducible refine BlkP.Blk.setAt (us := ?_) (by first | omega | (simp; done) | (simp; omega)) rfl ?_ ?_) | (with_reducible refine BlkP.Blk.otherAt ?_ (by first | omega | (simp; done) | (simp; omega))) | (with_reducible refine BlkP.Blk.newA' (by first | omega | (simp; done) | (simp; omega)) rfl) | (with_reducible refine BlkP.Blk.alloc ?_ _) | (exact rfl))), HD7.out.set 0 _, own_setD HO7.out HD7.out⟩ ?_
      rintro w8 ⟨hb8, hr8, hd8, ho8⟩
      have HB8 := Lib.hid hb8
      have HR8 := Lib.hid hr8
      have HD8 := Lib.hid hd8
      have HO8 := Lib.hid ho8
      have d0 := hd8.cell (i := 0) rfl
      have y0 := hd8.frozen 0
      have dl := hd8.lt
      have HZ8 := Lib.hid (show w.heap.size ≤ w8.heap.size from hb8.size)
      clear hb8 hr8 hd8 ho8
      go_wp2_with ((with_reducible refine at_slot 28 ?_); refine Classical.byContradiction (fun hG => ?_))
      refine hG ?_
      clear hG
      refine wp_pushX (w0 := w8) (v := .slice (some ⟨g1, 0, none⟩) 1 cp1) (y := (0, (0, 0))) (l := [(6, (k0, l0))]) (n := 1) (B := w.heap.size) rfl (.tmp 24) (.tmp 27) rfl (by first | rfl | simp) rfl HO8.out rfl rfl rfl (by omega) HZ8.out ?_
      intro g2 cp2 w9 hpu
      have HO9 := Lib.hid hpu.1
      have HB9 := Lib.hid (show Below w.heap.size w w9 from HB8.out.grown hpu.2.1 HZ8.out (fun q hq => (HO8.out.ge q hq).1))
      have HR9 := Lib.hid (show Blk w9 (s + 1) TD [.slice none 0 0, .int .i64 0, .int .i64 0] from HR8.out.grown hpu.2.1 (fun e => own_ne HO8.out HR8.out (by decide) e.symm))
      have HD9 := Lib.hid (show Blk w9 (s + 2) TD [.slice (some ⟨g1, 0, none⟩) 1 cp1, .int .i64 0, .int .i64 0] from HD8.out.grown hpu.2.1 (fun e => own_ne HO8.out HD8.out (by decide) e.symm))
      have r0 := HR9.out.cell (i := 0) rfl
      have z0 := HR9.out.frozen 0
      have r1 := HR9.out.cell (i := 1) rfl
      have z1 := HR9.out.frozen 1
      have r2 := HR9.out.cell (i := 2) rfl
      have z2 := HR9.out.frozen 2
      have d0 := HD9.out.cell (i := 0) rfl
      have y0 := HD9.out.frozen 0
      have d1 := HD9.out.cell (i := 1) rfl
      have y1 := HD9.out.frozen 1
      have d2 := HD9.out.cell (i := 2) rfl
      have y2 := HD9.out.frozen 2
      have rl := HR9.out.lt
      have rl2 := HD9.out.lt
      clear hpu dl
      go_wp2_with fail
      refine bodyPost_ret (v := .agg #[.slice (some ⟨g2, 0, none⟩) 2 cp2, .int .i64 0, .int .i64 0]) (by simp [results, Tryd.results26, go_sem, rl, r0, r1, r2]) rfl ?_
      refine ⟨_, rfl, ?_, ?_⟩
      · rw [HE.out]
        exact own_set3 (own_setD HO9.out HD9.out) (HR9.out.other (by simp) _)
      · have := HS.out
        exact (((HB9.out.setCell (by simp; omega) _).setCell (by simp; omega) _).setCell (by simp; omega) _).setCell (by simp; omega) _
end FallW
end Go.Proofs.YtlahkmkipciiiaaDoor
