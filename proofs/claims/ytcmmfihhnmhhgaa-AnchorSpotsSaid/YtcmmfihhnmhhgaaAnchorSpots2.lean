/-
  AnchorSpots: what ticks, and the reference's; in new memory.
-/
import Derived.BigQuiet
import Derived.BigRegion
import Derived.Lib.Hide
import Derived.Deep.RegionHeld3
import Derived.Deep.MidRow
import Derived.Laws.Tables
import Derived.Test.YtcmmfihhnmhhgaaAnchorAwake
namespace Go.Proofs.Ytcmmfihhnmhhgaa
open Go.RowKit
set_option linter.unusedVariables false
set_option linter.unusedSimpArgs false
namespace AncW
open BlkP RowG FrS PushG AncP
open PlaceW (bcell below_drewN)
set_option maxRecDepth 100000 in
set_option maxHeartbeats 16000000 in
theorem law_spots {w : World} {a b : An} {x y z : Int} (ha : Is64 a.1) (hb : Is64 b.1) :
    Calls Try.prog 4 #[.agg #[.int .i64 a.1.1, .int .i64 a.1.2.1, .int .i64 a.1.2.2, .bool a.2, .int .i64 b.1.1, .int .i64 b.1.2.1, .int .i64 b.1.2.2, .bool b.2], .agg #[.int .i64 x, .int .i64 y, .int .i64 z]] w fun e w' => e = .returned (.bool true) ∧ Below w.heap.size w w' := by
  have HIA := Lib.hid ha
  have HIB := Lib.hid hb
  obtain ⟨L, hL⟩ : ∃ L, rspots a b = L := ⟨_, rfl⟩
  have HTK := Lib.hid (show Ticks a b L from hL ▸ rspots_ticks ha hb)
  obtain ⟨n, hn⟩ : ∃ n, L.length = n := ⟨_, rfl⟩
  have HN := Lib.hid hn
  have hn72 : n ≤ 72 := hn ▸ ticks_len ha hb HTK.out
  have HL := Lib.hid hL
  obtain ⟨r, hr⟩ : ∃ r, inL a b (x, y, z) = r := ⟨_, rfl⟩
  have HR := Lib.hid hr
  obtain ⟨s, hs⟩ : ∃ s, w.heap.size = s := ⟨_, rfl⟩
  clear ha hb hL hn hr
  go_enter Try.func4, Try.ntmps4
  go_wp2_with fail
  refine HeldP.wp_named (fun W => Below w.heap.size w W ∧ Blk W s TT [.int .i64 a.1.1, .int .i64 a.1.2.1, .int .i64 a.1.2.2, .bool a.2, .int .i64 b.1.1, .int .i64 b.1.2.1, .int .i64 b.1.2.2, .bool b.2] ∧ Blk W (s + 1) TS [.int .i64 x, .int .i64 y, .int .i64 z]) ⟨by (repeat' (first | (with_reducible exact Below.refl _ _) | (with_reducible refine Below.setCell ?_ (by (first | omega | (simp; done) | (simp; omega))) _) | (with_reducible refine Below.alloc ?_ (by (first | omega | (simp; done) | (simp; omega))) _) | (with_reducible refine Below.drew ?_) | (with_reducible refine below_drewN ?_ _))), by subst hs; (repeat' (first | (with_reducible refine BlkP.Blk.drew ?_) | (with_reducible refine BlkP.Blk.drewN ?_ _) | (with_reducible refine BlkP.Blk.setAt (us := ?_) (by first | omega | (simp; done) | (simp; omega)) rfl ?_ ?_) | (with_reducible refine BlkP.Blk.otherAt ?_ (by first | omega | (simp; done) | (simp; omega))) | (with_reducible refine BlkP.Blk.newA' (by first | omega | (simp; done) | (simp; omega)) rfl) | (with_reducible refine BlkP.Blk.alloc ?_ _) | (exact rfl))), by subst hs; (repeat' (first | (with_reducible refine BlkP.Blk.drew ?_) | (with_reducible refine BlkP.Blk.drewN ?_ _) | (with_reducible refine BlkP.Blk.setAt (us := ?_) (by first | omega | (simp; done) | (simp; omega)) rfl ?_ ?_) | (with_reducible refine BlkP.Blk.otherAt ?_ (by first | omega | (simp; done) | (simp; omega))) | (with_reducible refine BlkP.Blk.newA' (by first | omega | (simp; done) | (simp; omega)) rfl) | (with_reducible refine BlkP.Blk.alloc ?_ _) | (exact rfl)))⟩ ?_
  rintro w1 ⟨hb1, h1, h2⟩
  try rw [hs]
  have B1 := Lib.hid hb1
  have H1 := Lib.hid h1
  have H2 := Lib.hid h2
  have c0 := h1.cell (i := 0) rfl
  have c1 := h1.cell (i := 1) rfl
  have c2 := h1.cell (i := 2) rfl
  have c3 := h1.cell (i := 3) rfl
  have c4 := h1.cell (i := 4) rfl
  have c5 := h1.cell (i := 5) rfl
  have c6 := h1.cell (i := 6) rfl
  have c7 := h1.cell (i := 7) rfl
  have cl := h1.lt
  clear hb1 h1 h2 hs
  refine wp_region_noPanic ?_
  refine wp_region_held_drew (S := fun W => Below w1.heap.size w1 W) (by kernel_rfl) ((Below.refl _ w1).drew) (fun hHeld => ?_)
  refine wpAnyH_take (i := 0) (oi := ⟨some 9, _, _, _, _, _⟩) (v := .agg #[.int .i64 a.1.1, .int .i64 a.1.2.1, .int .i64 a.1.2.2, .bool a.2, .int .i64 b.1.1, .int .i64 b.1.2.1, .int .i64 b.1.2.2, .bool b.2]) rfl (by kernel_rfl) (by kernel_rfl) (by kernel_rfl) (fun _ _ _ h => h) (Or.inl ⟨by rfl, fun W hSW => by have a0 := (hSW.cell (p := ⟨s, 0, none⟩) cl).trans c0; have a1 := (hSW.cell (p := ⟨s, 1, none⟩) cl).trans c1; have a2 := (hSW.cell (p := ⟨s, 2, none⟩) cl).trans c2; have a3 := (hSW.cell (p := ⟨s, 3, none⟩) cl).trans c3; have a4 := (hSW.cell (p := ⟨s, 4, none⟩) cl).trans c4; have a5 := (hSW.cell (p := ⟨s, 5, none⟩) cl).trans c5; have a6 := (hSW.cell (p := ⟨s, 6, none⟩) cl).trans c6; have a7 := (hSW.cell (p := ⟨s, 7, none⟩) cl).trans c7; go_simp⟩) hHeld ?_
  simp only [Act.put, List.setIfInBounds_toArray, List.set_cons_zero, List.set_cons_succ]
  refine wpAnyH_take (i := 2) (oi := ⟨some 11, _, _, _, _, _⟩) (v := .agg #[.int .i64 a.1.1, .int .i64 a.1.2.1, .int .i64 a.1.2.2, .bool a.2, .int .i64 b.1.1, .int .i64 b.1.2.1, .int .i64 b.1.2.2, .bool b.2]) rfl (by kernel_rfl) (by kernel_rfl) (by kernel_rfl) (fun _ _ _ h => h) (Or.inl ⟨by rfl, fun W hSW => by have a0 := (hSW.cell (p := ⟨s, 0, none⟩) cl).trans c0; have a1 := (hSW.cell (p := ⟨s, 1, none⟩) cl).trans c1; have a2 := (hSW.cell (p := ⟨s, 2, none⟩) cl).trans c2; have a3 := (hSW.cell (p := ⟨s, 3, none⟩) cl).trans c3; have a4 := (hSW.cell (p := ⟨s, 4, none⟩) cl).trans c4; have a5 := (hSW.cell (p := ⟨s, 5, none⟩) cl).trans c5; have a6 := (hSW.cell (p := ⟨s, 6, none⟩) cl).trans c6; have a7 := (hSW.cell (p := ⟨s, 7, none⟩) cl).trans c7; go_simp⟩) hHeld ?_
  simp only [Act.put, List.setIfInBounds_toArray, List.set_cons_zero, List.set_cons_succ]
  refine wpAnyH_ready (rs := [1]) (by kernel_rfl) (by simp) ?_
  refine AllReadyH.cons (o := ⟨some 10, _, _, _, _, _⟩) rfl (fun K hK => ?_) AllReadyH.nil
  go_simp
  refine (Spots_c HIA.out HIB.out).mono ?_
  rintro e w2 ⟨v1, rfl, o1, hb2⟩
  have O1 := Lib.hid (o1.mono hHeld.size)
  have X1 := Lib.hid (fun g hg => (o1.ge g hg).2)
  have Y1 := Lib.hid hb2
  clear o1
  refine hK.out _ _ (below_t hHeld hb2) (fun hHeld => ?_)
  clear hK K hb2
  refine wpAnyH_ready (rs := [3]) (by kernel_rfl) (by simp) ?_
  refine AllReadyH.cons (o := ⟨some 12, _, _, _, _, _⟩) rfl (fun K hK => ?_) AllReadyH.nil
  go_simp
  refine (Spots_c HIA.out HIB.out).mono ?_
  rintro e w3 ⟨v2, rfl, o2, hb3⟩
  have O2 := Lib.hid (o2.mono hHeld.size)
  have HZ23 := Lib.hid hb3.size
  have O1 := Lib.hid (O1.out.below hb3)
  have X2 := Lib.hid (show Apt v1 v2 from fun g hg e => by have h1 := (o2.ge g hg).1; have h2 := X1.out g e; omega)
  clear o2
  refine hK.out _ _ (below_t hHeld hb3) (fun hHeld => ?_)
  clear hK K hb3
  refine wpAnyH_take (i := 4) (oi := ⟨some 5, _, _, _, _, _⟩) (v := v1) rfl (by kernel_rfl) (by kernel_rfl) (by kernel_rfl) (fun _ _ _ h => h) (Or.inl ⟨by rfl, fun W hSW => by go_simp⟩) hHeld ?_
  simp only [Act.put, List.setIfInBounds_toArray, List.set_cons_zero, List.set_cons_succ]
  refine wpAnyH_take (i := 5) (oi := ⟨some 6, _, _, _, _, _⟩) (v := v2) rfl (by kernel_rfl) (by kernel_rfl) (by kernel_rfl) (fun _ _ _ h => h) (Or.inl ⟨by rfl, fun W hSW => by go_simp⟩) hHeld ?_
  simp only [Act.put, List.setIfInBounds_toArray, List.set_cons_zero, List.set_cons_succ]
  refine wpAnyH_done (by kernel_rfl) ?_ _
  refine NoPanic.normal ?_
  have B3 := Lib.hid hHeld
  have SZ := Lib.hid (show w2.heap.size ≤ w3.heap.size from HZ23.out)
  have H13 := Lib.hid (H1.out.below B3.out)
  clear hHeld c0 c1 c2 c3 c4 c5 c6 c7 cl
  have c0 := H13.out.cell (i := 0) rfl
  have c1 := H13.out.cell (i := 1) rfl
  have c2 := H13.out.cell (i := 2) rfl
  have c3 := H13.out.cell (i := 3) rfl
  have c4 := H13.out.cell (i := 4) rfl
  have c5 := H13.out.cell (i := 5) rfl
  have c6 := H13.out.cell (i := 6) rfl
  have c7 := H13.out.cell (i := 7) rfl
  have cl := H13.out.lt
  go_wp2_with fail
  refine (rSpots_c HIA.out HIB.out).mono ?_
  rintro e w6 ⟨v3, rfl, o3, hb6⟩
  have B6 := Lib.hid (below_t B3.out hb6)
  have O3 := Lib.hid (o3.mono B3.out.size)
  have O1 := Lib.hid (O1.out.below hb6)
  have O2 := Lib.hid (O2.out.below hb6)
  have X3 := Lib.hid (show Apt v1 v3 from fun g hg e => by
    have h1 := (o3.ge g hg).1
    have h2 := X1.out g e
    have h3 := B3.out.size
    have h4 := SZ.out
    omega)
  rw [HL.out] at O1 O2 O3
  obtain ⟨A1, cp1, rfl, _, _, hA1⟩ := own_len O1.out HN.out
  obtain ⟨A2, cp2, rfl, _, _, _⟩ := own_len O2.out HN.out
  obtain ⟨A3, cp3, rfl, _, _, _⟩ := own_len O3.out HN.out
  have HA1 := Lib.hid hA1
  have k1 := H1.out.below B6.out
  have k2 := H2.out.below B6.out
  clear hb6 o3 hA1 c0 c1 c2 c3 c4 c5 c6 c7 cl
  have c0 := k1.cell (i := 0) rfl
  have c1 := k1.cell (i := 1) rfl
  have c2 := k1.cell (i := 2) rfl
  have c3 := k1.cell (i := 3) rfl
  have c4 := k1.cell (i := 4) rfl
  have c5 := k1.cell (i := 5) rfl
  have c6 := k1.cell (i := 6) rfl
  have c7 := k1.cell (i := 7) rfl
  have cl := k1.lt
  have p0 := k2.cell (i := 0) rfl
  have p1 := k2.cell (i := 1) rfl
  have p2 := k2.cell (i := 2) rfl
  have pl := k2.lt
  clear k1 k2
  go_wp2_with fail
  refine wp_region_noPanic ?_
  refine wp_region_held_drew (S := fun W => Below w6.heap.size w6 W) (by kernel_rfl) ((Below.refl _ w6).drew) (fun hHeld => ?_)
  refine wpAnyH_take (i := 0) (oi := ⟨some 15, _, _, _, _, _⟩) (v := .slice A1 n cp1) rfl (by kernel_rfl) (by kernel_rfl) (by kernel_rfl) (fun _ _ _ h => h) (Or.inl ⟨by rfl, fun W hSW => by go_simp⟩) hHeld ?_
  simp only [Act.put, List.setIfInBounds_toArray, List.set_cons_zero, List.set_cons_succ]
  refine wpAnyH_take (i := 1) (oi := ⟨some 16, _, _, _, _, _⟩) (v := .slice A3 n cp3) rfl (by kernel_rfl) (by kernel_rfl) (by kernel_rfl) (fun _ _ _ h => h) (Or.inl ⟨by rfl, fun W hSW => by go_simp⟩) hHeld ?_
  simp only [Act.put, List.setIfInBounds_toArray, List.set_cons_zero, List.set_cons_succ]
  refine wpAnyH_ready (rs := [2]) (by kernel_rfl) (by simp) ?_
  refine AllReadyH.cons (o := ⟨some 17, _, _, _, _, _⟩) rfl (fun K hK => ?_) AllReadyH.nil
  go_simp
  refine (rSame_c (own_rd (O1.out.below hHeld)) (own_rd (O3.out.below hHeld)) HN.out (by omega)).mono ?_
  rintro e w7 ⟨rfl, hb7⟩
  refine hK.out _ _ (below_t hHeld hb7) (fun hHeld => ?_)
  clear hK K hb7
  refine wpAnyH_take (i := 3) (oi := ⟨some 18, _, _, _, _, _⟩) (v := .bool false) rfl (by kernel_rfl) (by kernel_rfl) (by kernel_rfl) (fun _ _ _ h => h) (Or.inl ⟨by rfl, fun W hSW => by go_simp⟩) hHeld ?_
  simp only [Act.put, List.setIfInBounds_toArray, List.set_cons_zero, List.set_cons_succ]
  refine wpAnyH_take (i := 4) (oi := ⟨some 19, _, _, _, _, _⟩) (v := .bool false) rfl (by kernel_rfl) (by kernel_rfl) (by kernel_rfl) (fun _ _ _ h => h) (Or.inl ⟨by rfl, fun W hSW => by go_simp⟩) hHeld ?_
  simp only [Act.put, List.setIfInBounds_toArray, List.set_cons_zero, List.set_cons_succ]
  refine wpAnyH_take (i := 5) (oi := ⟨some 20, _, _, _, _, _⟩) (v := .agg #[.int .i64 a.1.1, .int .i64 a.1.2.1, .int .i64 a.1.2.2, .bool a.2, .int .i64 b.1.1, .int .i64 b.1.2.1, .int .i64 b.1.2.2, .bool b.2]) rfl (by kernel_rfl) (by kernel_rfl) (by kernel_rfl) (fun _ _ _ h => h) (Or.inl ⟨by rfl, fun W hSW => by have a0 := (hSW.cell (p := ⟨s, 0, none⟩) cl).trans c0; have a1 := (hSW.cell (p := ⟨s, 1, none⟩) cl).trans c1; have a2 := (hSW.cell (p := ⟨s, 2, none⟩) cl).trans c2; have a3 := (hSW.cell (p := ⟨s, 3, none⟩) cl).trans c3; have a4 := (hSW.cell (p := ⟨s, 4, none⟩) cl).trans c4; have a5 := (hSW.cell (p := ⟨s, 5, none⟩) cl).trans c5; have a6 := (hSW.cell (p := ⟨s, 6, none⟩) cl).trans c6; have a7 := (hSW.cell (p := ⟨s, 7, none⟩) cl).trans c7; go_simp⟩) hHeld ?_
  simp only [Act.put, List.setIfInBounds_toArray, List.set_cons_zero, List.set_cons_succ]
  refine wpAnyH_take (i := 6) (oi := ⟨some 21, _, _, _, _, _⟩) (v := .agg #[.int .i64 x, .int .i64 y, .int .i64 z]) rfl (by kernel_rfl) (by kernel_rfl) (by kernel_rfl) (fun _ _ _ h => h) (Or.inl ⟨by rfl, fun W hSW => by have a0 := (hSW.cell (p := ⟨s + 1, 0, none⟩) pl).trans p0; have a1 := (hSW.cell (p := ⟨s + 1, 1, none⟩) pl).trans p1; have a2 := (hSW.cell (p := ⟨s + 1, 2, none⟩) pl).trans p2; go_simp⟩) hHeld ?_
  simp only [Act.put, List.setIfInBounds_toArray, List.set_cons_zero, List.set_cons_succ]
  refine wpAnyH_take (i := 8) (oi := ⟨some 23, _, _, _, _, _⟩) (v := .agg #[.int .i64 a.1.1, .int .i64 a.1.2.1, .int .i64 a.1.2.2, .bool a.2, .int .i64 b.1.1, .int .i64 b.1.2.1, .int .i64 b.1.2.2, .bool b.2]) rfl (by kernel_rfl) (by kernel_rfl) (by kernel_rfl) (fun _ _ _ h => h) (Or.inl ⟨by rfl, fun W hSW => by have a0 := (hSW.cell (p := ⟨s, 0, none⟩) cl).trans c0; have a1 := (hSW.cell (p := ⟨s, 1, none⟩) cl).trans c1; have a2 := (hSW.cell (p := ⟨s, 2, none⟩) cl).trans c2; have a3 := (hSW.cell (p := ⟨s, 3, none⟩) cl).trans c3; have a4 := (hSW.cell (p := ⟨s, 4, none⟩) cl).trans c4; have a5 := (hSW.cell (p := ⟨s, 5, none⟩) cl).trans c5; have a6 := (hSW.cell (p := ⟨s, 6, none⟩) cl).trans c6; have a7 := (hSW.cell (p := ⟨s, 7, none⟩) cl).trans c7; go_simp⟩) hHeld ?_
  simp only [Act.put, List.setIfInBounds_toArray, List.set_cons_zero, List.set_cons_succ]
  refine wpAnyH_take (i := 9) (oi := ⟨some 24, _, _, _, _, _⟩) (v := .agg #[.int .i64 x, .int .i64 y, .int .i64 z]) rfl (by kernel_rfl) (by kernel_rfl) (by kernel_rfl) (fun _ _ _ h => h) (Or.inl ⟨by rfl, fun W hSW => by have a0 := (hSW.cell (p := ⟨s + 1, 0, none⟩) pl).trans p0; have a1 := (hSW.cell (p := ⟨s + 1, 1, none⟩) pl).trans p1; have a2 := (hSW.cell (p := ⟨s + 1, 2, none⟩) pl).trans p2; go_simp⟩) hHeld ?_
  simp only [Act.put, List.setIfInBounds_toArray, List.set_cons_zero, List.set_cons_succ]
  refine wpAnyH_ready (rs := [7]) (by kernel_rfl) (by simp) ?_
  refine AllReadyH.cons (o := ⟨some 22, _, _, _, _, _⟩) rfl (fun K hK => ?_) AllReadyH.nil
  go_simp
  refine (In_c HR.out).mono ?_
  rintro e w8 ⟨rfl, hb8⟩
  refine hK.out _ _ (below_t hHeld hb8) (fun hHeld => ?_)
  clear hK K hb8
  refine wpAnyH_ready (rs := [10]) (by kernel_rfl) (by simp) ?_
  refine AllReadyH.cons (o := ⟨some 25, _, _, _, _, _⟩) rfl (fun K hK => ?_) AllReadyH.nil
  go_simp
  refine (rIn_c HIA.out HIB.out HR.out).mono ?_
  rintro e w9 ⟨rfl, hb9⟩
  refine hK.out _ _ (below_t hHeld hb9) (fun hHeld => ?_)
  clear hK K hb9
  refine wpAnyH_take (i := 11) (oi := ⟨some 26, _, _, _, _, _⟩) (v := .bool false) rfl (by kernel_rfl) (by kernel_rfl) (by kernel_rfl) (fun _ _ _ h => h) (Or.inl ⟨by rfl, fun W hSW => by have q : (r != r) = false := (by simp); go_simp⟩) hHeld ?_
  simp only [Act.put, List.setIfInBounds_toArray, List.set_cons_zero, List.set_cons_succ]
  refine wpAnyH_take (i := 12) (oi := ⟨some 27, _, _, _, _, _⟩) (v := .bool false) rfl (by kernel_rfl) (by kernel_rfl) (by kernel_rfl) (fun _ _ _ h => h) (Or.inl ⟨by rfl, fun W hSW => by go_simp⟩) hHeld ?_
  simp only [Act.put, List.setIfInBounds_toArray, List.set_cons_zero, List.set_cons_succ]
  refine wpAnyH_done (by kernel_rfl) ?_ _
  refine NoPanic.normal ?_
  have B9 := Lib.hid (below_t B6.out hHeld)
  have O1 := Lib.hid (O1.out.below hHeld)
  have O2 := Lib.hid (O2.out.below hHeld)
  have O3 := Lib.hid (O3.out.below hHeld)
  clear hHeld c0 c1 c2 c3 c4 c5 c6 c7 cl p0 p1 p2 pl
  go_wp2_with fail
  go_loopw [8] (fun v8 wr => ∃ i : Nat, v8 = .int .i64 (i : Nat) ∧ i ≤ n ∧ RowG.Own encS TS wr w1.heap.size (.slice A1 n cp1) (List.replicate i (77, 0, 0) ++ L.drop i) ∧ RowG.Own encS TS wr w1.heap.size (.slice A2 n cp2) L ∧ RowG.Own encS TS wr w1.heap.size (.slice A3 n cp3) L ∧ Below w1.heap.size w1 wr) (fun v _ => 100 - (intOf v).toNat)
  case atStart => exact ⟨0, rfl, Nat.zero_le _, O1.out, O2.out, O3.out, B9.out⟩
  case round =>
    obtain ⟨i, rfl, hi, p1, p2, p3, hbr⟩ := hrel
    have P1 := Lib.hid p1
    have P2 := Lib.hid p2
    have P3 := Lib.hid p3
    have BR := Lib.hid hbr
    clear p1 p2 p3 hbr
    by_cases hin : i < n
    · have hiI : (i : Int) < (n : Int) := by omega
      obtain ⟨g, rfl, _, _⟩ := HA1.out (by omega)
      obtain ⟨⟨qx, qy, qz⟩, hq⟩ : ∃ q, L[i]? = some q := ⟨_, List.getElem?_eq_getElem (by rw [HN.out]; exact hin)⟩
      have HIN := Lib.hid ((HTK.out.2 (qx, qy, qz)).1 (List.mem_of_getElem? hq))
      have hq1 : (List.replicate i ((77 : Int), (0 : Int), (0 : Int)) ++ L.drop i)[i]? = some (qx, qy, qz) := by
        rw [List.getElem?_append_right (by simp), List.length_replicate, Nat.sub_self, List.getElem?_drop, Nat.add_zero]
        exact hq
      have HQ1 := Lib.hid hq1
      obtain ⟨x0, x1, x2⟩ := spot_at P1.out hq1
      have gl := own_at P1.out hq1
      simp only at x0 x1 x2
      have k1 := H1.out.below BR.out
      have c0 := k1.cell (i := 0) rfl
      have c1 := k1.cell (i := 1) rfl
      have c2 := k1.cell (i := 2) rfl
      have c3 := k1.cell (i := 3) rfl
      have c4 := k1.cell (i := 4) rfl
      have c5 := k1.cell (i := 5) rfl
      have c6 := k1.cell (i := 6) rfl
      have c7 := k1.cell (i := 7) rfl
      have cl := k1.lt
      clear hq hq1 k1
      go_wp2_with fail
      refine wp_region_noPanic ?_
      refine wp_region_held_drew (S := fun W => Below wr.heap.size wr W) (by kernel_rfl) ((Below.refl _ wr).drew) (fun hHeld => ?_)
      refine wpAnyH_take (i := 0) (oi := ⟨some 34, _, _, _, _, _⟩) (v := .agg #[.int .i64 a.1.1, .int .i64 a.1.2.1, .int .i64 a.1.2.2, .bool a.2, .int .i64 b.1.1, .int .i64 b.1.2.1, .int .i64 b.1.2.2, .bool b.2]) rfl (by kernel_rfl) (by kernel_rfl) (by kernel_rfl) (fun _ _ _ h => h) (Or.inl ⟨by rfl, fun W hSW => by have a0 := (hSW.cell (p := ⟨s, 0, none⟩) cl).trans c0; have a1 := (hSW.cell (p := ⟨s, 1, none⟩) cl).trans c1; have a2 := (hSW.cell (p := ⟨s, 2, none⟩) cl).trans c2; have a3 := (hSW.cell (p := ⟨s, 3, none⟩) cl).trans c3; have a4 := (hSW.cell (p := ⟨s, 4, none⟩) cl).trans c4; have a5 := (hSW.cell (p := ⟨s, 5, none⟩) cl).trans c5; have a6 := (hSW.cell (p := ⟨s, 6, none⟩) cl).trans c6; have a7 := (hSW.cell (p := ⟨s, 7, none⟩) cl).trans c7; go_simp⟩) hHeld ?_
      simp only [Act.put, List.setIfInBounds_toArray, List.set_cons_zero, List.set_cons_succ]
      refine wpAnyH_take (i := 1) (oi := ⟨some 35, _, _, _, _, _⟩) (v := .slice (some ⟨g, 0, none⟩) n cp1) rfl (by kernel_rfl) (by kernel_rfl) (by kernel_rfl) (fun _ _ _ h => h) (Or.inl ⟨by rfl, fun W hSW => by go_simp⟩) hHeld ?_
      simp only [Act.put, List.setIfInBounds_toArray, List.set_cons_zero, List.set_cons_succ]
      refine wpAnyH_take (i := 2) (oi := ⟨some 36, _, _, _, _, _⟩) (v := .int .i64 (i : Int)) rfl (by kernel_rfl) (by kernel_rfl) (by kernel_rfl) (fun _ _ _ h => h) (Or.inl ⟨by rfl, fun W hSW => by go_simp⟩) hHeld ?_
      simp only [Act.put, List.setIfInBounds_toArray, List.set_cons_zero, List.set_cons_succ]
      refine wpAnyH_take (i := 3) (oi := ⟨some 37, _, _, _, _, _⟩) (v := .pointer (some ⟨g, i * 3, none⟩)) rfl (by kernel_rfl) (by kernel_rfl) (by kernel_rfl) (fun _ _ _ h => h) (Or.inl ⟨by rfl, fun W hSW => by go_simp⟩) hHeld ?_
      simp only [Act.put, List.setIfInBounds_toArray, List.set_cons_zero, List.set_cons_succ]
      refine wpAnyH_take (i := 4) (oi := ⟨some 38, _, _, _, _, _⟩) (v := .agg #[.int .i64 qx, .int .i64 qy, .int .i64 qz]) rfl (by kernel_rfl) (by kernel_rfl) (by kernel_rfl) (fun _ _ _ h => h) (Or.inl ⟨by rfl, fun W hSW => by have a0 := (hSW.cell (p := ⟨g, i * 3, none⟩) gl).trans x0; have a1 := (hSW.cell (p := ⟨g, i * 3 + 1, none⟩) gl).trans x1; have a2 := (hSW.cell (p := ⟨g, i * 3 + 2, none⟩) gl).trans x2; go_simp⟩) hHeld ?_
      simp only [Act.put, List.setIfInBounds_toArray, List.set_cons_zero, List.set_cons_succ]
      refine wpAnyH_ready (rs := [5]) (by kernel_rfl) (by simp) ?_
      refine AllReadyH.cons (o := ⟨some 39, _, _, _, _, _⟩) rfl (fun K hK => ?_) AllReadyH.nil
      go_simp
      refine (In_c HIN.out).mono ?_
      rintro e w5 ⟨rfl, hb5⟩
      refine hK.out _ _ (below_t hHeld hb5) (fun hHeld => ?_)
      clear hK K hb5
      refine wpAnyH_take (i := 6) (oi := ⟨some 40, _, _, _, _, _⟩) (v := .bool false) rfl (by kernel_rfl) (by kernel_rfl) (by kernel_rfl) (fun _ _ _ h => h) (Or.inl ⟨by rfl, fun W hSW => by go_simp⟩) hHeld ?_
      simp only [Act.put, List.setIfInBounds_toArray, List.set_cons_zero, List.set_cons_succ]
      refine wpAnyH_done (by kernel_rfl) ?_ _
      refine NoPanic.normal ?_
      have HH := Lib.hid hHeld
      have Q1 := Lib.hid (P1.out.below hHeld)
      have Q2 := Lib.hid (P2.out.below hHeld)
      have Q3 := Lib.hid (P3.out.below hHeld)
      have B5 := Lib.hid (below_t BR.out hHeld)
      clear hHeld c0 c1 c2 c3 c4 c5 c6 c7 cl x0 x1 x2 gl
      obtain ⟨x0, x1, x2⟩ := spot_at Q1.out HQ1.out
      have f0 := Q1.out.frozen (i * 3)
      have f1 := Q1.out.frozen (i * 3 + 1)
      have f2 := Q1.out.frozen (i * 3 + 2)
      have gl := own_at Q1.out HQ1.out
      simp only at x0 x1 x2
      go_wp2_with fail
      clear x0 x1 x2 f0 f1 f2 gl
      go_roundw
      case rel =>
        have hp := own_put (y := (77, 0, 0)) Q1.out HQ1.out
        refine ⟨i + 1, by first | rfl | (congr 1; omega), by omega, ?_, ?_, ?_, ?_⟩
        · have h := hp.1
          have e : (List.replicate i ((77 : Int), (0 : Int), (0 : Int)) ++ L.drop i).set i (77, 0, 0) = List.replicate (i + 1) (77, 0, 0) ++ L.drop (i + 1) := by
            rw [List.set_append_right _ _ (by simp), List.length_replicate, Nat.sub_self, List.drop_eq_getElem_cons (show i < L.length by rw [HN.out]; exact hin), List.set_cons_zero, List.replicate_succ', List.append_assoc]
            rfl
          rw [e] at h
          exact h
        · exact Q2.out.grown hp.2 (.inr (fun e => X2.out g e rfl))
        · exact Q3.out.grown hp.2 (.inr (fun e => X3.out g e rfl))
        · exact B5.out.grown hp.2 B5.out.size (fun k hk => (Q1.out.ge k hk).1)
      case measure =>
        simp only [intOf]
        omega
    · have hiI : ¬ (i : Int) < (n : Int) := by omega
      go_wp2_with fail
      refine (rSame_c (own_rd P2.out) (own_rd P3.out) HN.out (by omega)).mono ?_
      rintro e w7 ⟨rfl, hb7⟩
      have B7 := Lib.hid (below_t BR.out hb7)
      clear hb7
      go_wp2_with fail
      refine awake_c.mono ?_
      rintro e w8 ⟨rfl, hb8⟩
      have B8 := Lib.hid (below_t B7.out hb8)
      clear hb8
      go_wp2_with fail
      go_ret
      exact ⟨rfl, below_t B1.out B8.out⟩
end AncW
end Go.Proofs.Ytcmmfihhnmhhgaa
