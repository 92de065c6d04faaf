/-
  The reference: Same of equal rows; Spots.
-/
import Derived.BigQuiet
import Derived.BigRegion
import Derived.Lib.Hide
import Derived.Deep.RegionHeld3
import Derived.Deep.MidRow
import Derived.Laws.Tables
import Derived.Test.YtcmmfihhnmhhgaaAnchorRow
namespace Go.Proofs.Ytcmmfihhnmhhgaa
open Go.RowKit
set_option linter.unusedVariables false
set_option linter.unusedSimpArgs false
namespace AncW
open BlkP RowG FrS PushG AncP
open PlaceW (bcell below_drewN)

theorem rd_spot {w : World} {A : Option Addr} {n c i : Nat} {l : List V} {q : V} (h : Rd encS w (.slice A n c) l) (hq : l[i]? = some q) : ∃ b o, A = some ⟨b, o, none⟩ ∧ b < w.heap.size ∧ w.cell? ⟨b, o + i * 3, none⟩ = some (.int .i64 q.1) ∧ w.cell? ⟨b, o + i * 3 + 1, none⟩ = some (.int .i64 q.2.1) ∧ w.cell? ⟨b, o + i * 3 + 2, none⟩ = some (.int .i64 q.2.2) := by
  obtain ⟨b, o, hA, hl, hc⟩ := h.at hq
  exact ⟨b, o, hA, hl, hc 0 _ rfl, hc 1 _ rfl, hc 2 _ rfl⟩
theorem own_at {w : World} {B g n c i : Nat} {l : List V} {q : V} (h : RowG.Own encS TS w B (.slice (some ⟨g, 0, none⟩) n c) l) (hq : l[i]? = some q) : g < w.heap.size := (h.ge g rfl).2
theorem cmp_lt {p q : V} {m : Int} (h : PlaceW.cmpOf p.1 p.2.1 p.2.2 q.1 q.2.1 q.2.2 = m) : m < 0 ↔ ltS p q := by
  rw [← h]
  exact cf_lt p q
theorem rcand_q {v : V} {n : Nat} {x y z : Int} (h : rcand v n = (x, y, z)) : wrap64 (wrap64 (v.1 + (n : Int) / 12) - 1) = x ∧ (n : Int) % 4 = y ∧ wrap64 (wrap64 (v.2.2 + (n : Int) / 4 % 3) - 1) = z := by
  unfold rcand at h
  simpa using h
theorem wI (v : Int) : IntKind.i64.wrap v = wrap64 v := by
  unfold wrap64
  simp [IntKind.wrap, IntKind.bits, IntKind.signed]
  try omega
set_option maxRecDepth 100000 in
set_option maxHeartbeats 16000000 in
theorem rSame_c {w : World} {A A' : Option Addr} {n c c' : Nat} {l : List V} (h1 : Rd encS w (.slice A n c) l) (h2 : Rd encS w (.slice A' n c') l) (hn : l.length = n) (hn2 : n ≤ 1000) :
    Calls Try.prog 14 #[.slice A n c, .slice A' n c'] w fun e w' => e = .returned (.bool true) ∧ Below w.heap.size w w' := by
  have H1 := Lib.hid h1
  have H2 := Lib.hid h2
  have HN := Lib.hid hn
  clear h1 h2 hn
  go_enter Try.func14, Try.ntmps14
  go_wp2_with fail
  go_loopw [5] (fun v5 wr => ∃ i : Nat, v5 = .int .i64 (i : Nat) ∧ i ≤ n ∧ Below w.heap.size w wr) (fun v _ => 1001 - (intOf v).toNat)
  case atStart => exact ⟨0, rfl, Nat.zero_le _, Below.refl _ _⟩
  case round =>
    obtain ⟨i, rfl, hi, hbr⟩ := hrel
    have HBR := Lib.hid hbr
    clear hbr
    by_cases hin : i < n
    · have hiI : (i : Int) < (n : Int) := by omega
      have hi1 : (i : Int) + 1 ≤ 1000 := by omega
      obtain ⟨⟨qx, qy, qz⟩, hq⟩ : ∃ q, l[i]? = some q := ⟨_, List.getElem?_eq_getElem (by rw [HN.out]; exact hin)⟩
      obtain ⟨b1, o1, rfl, l1, x0, x1, x2⟩ := rd_spot (H1.out.below HBR.out) hq
      obtain ⟨b2, o2, rfl, l2, y0, y1, y2⟩ := rd_spot (H2.out.below HBR.out) hq
      simp only at x0 x1 x2 y0 y1 y2
      have qe : ∀ w, (binOp .neq TS (.agg #[.int .i64 qx, .int .i64 qy, .int .i64 qz]) (.agg #[.int .i64 qx, .int .i64 qy, .int .i64 qz])).run Try.prog w = .ok (.bool false) w := fun w => run_neS w (qx, qy, qz) (qx, qy, qz) (r := true) (by simp)
      clear hq
      go_wp2_with fail
      go_quiet (fail)
      go_wp2_with fail
      go_roundw
      case rel => exact ⟨i + 1, by first | rfl | (congr 1; omega), by omega, by (repeat' (first | (with_reducible exact Below.refl _ _) | (with_reducible refine Below.setCell ?_ (by (first | omega | (simp; done) | (simp; omega))) _) | (with_reducible refine Below.alloc ?_ (by (first | omega | (simp; done) | (simp; omega))) _) | (with_reducible refine Below.drew ?_) | (with_reducible refine below_drewN ?_ _) | (with_reducible refine Below.trans ?_ (Below.mono HBR.out (by (first | omega | (simp; done) | (simp; omega)))))))⟩
      case measure =>
        simp only [intOf]
        omega
    · have hiI : ¬ (i : Int) < (n : Int) := by omega
      go_wp2_with fail
      go_ret
      exact ⟨rfl, HBR.out⟩
set_option maxRecDepth 100000 in
set_option maxHeartbeats 16000000 in
theorem rSpots_c {w : World} {a b : An} (ha : Is64 a.1) (hb : Is64 b.1) :
    Calls Try.prog 13 #[.agg #[.int .i64 a.1.1, .int .i64 a.1.2.1, .int .i64 a.1.2.2, .bool a.2, .int .i64 b.1.1, .int .i64 b.1.2.1, .int .i64 b.1.2.2, .bool b.2]] w (RowP w (rspots a b)) := by
  have HIA := Lib.hid ha
  have HIB := Lib.hid hb
  clear ha hb
  obtain ⟨s, hs⟩ : ∃ s, w.heap.size = s := ⟨_, rfl⟩
  go_enter Try.func13, Try.ntmps13
  go_wp2_with fail
  refine HeldP.wp_named (fun W => Below w.heap.size w W ∧ Blk W s TT [.int .i64 a.1.1, .int .i64 a.1.2.1, .int .i64 a.1.2.2, .bool a.2, .int .i64 b.1.1, .int .i64 b.1.2.1, .int .i64 b.1.2.2, .bool b.2]) ⟨by (repeat' (first | (with_reducible exact Below.refl _ _) | (with_reducible refine Below.setCell ?_ (by (first | omega | (simp; done) | (simp; omega))) _) | (with_reducible refine Below.alloc ?_ (by (first | omega | (simp; done) | (simp; omega))) _) | (with_reducible refine Below.drew ?_) | (with_reducible refine below_drewN ?_ _))), by subst hs; (repeat' (first | (with_reducible refine BlkP.Blk.drew ?_) | (with_reducible refine BlkP.Blk.drewN ?_ _) | (with_reducible refine BlkP.Blk.setAt (us := ?_) (by first | omega | (simp; done) | (simp; omega)) rfl ?_ ?_) | (with_reducible refine BlkP.Blk.otherAt ?_ (by first | omega | (simp; done) | (simp; omega))) | (with_reducible refine BlkP.Blk.newA' (by first | omega | (simp; done) | (simp; omega)) rfl) | (with_reducible refine BlkP.Blk.alloc ?_ _) | (exact rfl)))⟩ ?_
  rintro w1 ⟨hb1, h1⟩
  try rw [hs]
  have HB1 := Lib.hid hb1
  have H1 := Lib.hid h1
  clear hb1 h1 hs
  go_loopw [3, 4] (fun v3 v4 wr => ∃ (l : List V) (vr : Value), vr = v3 ∧ RowG.Own encS TS wr w1.heap.size vr l ∧ Below w1.heap.size w1 wr ∧ (v4 = .int .i64 0 ∧ l = [] ∨ v4 = .int .i64 1 ∧ l = rone a b a [] ∨ v4 = .int .i64 2 ∧ l = rspots a b)) (fun _ v _ => 2 - (intOf v).toNat)
  case atStart => exact ⟨[], _, rfl, Own.nil _ _ _ _, Below.refl _ _, .inl ⟨rfl, rfl⟩⟩
  case round =>
    obtain ⟨l, vr, rfl, hor, hbr, hv⟩ := hrel
    have HOR := Lib.hid hor
    have HBR := Lib.hid hbr
    clear hor hbr
    rcases hv with ⟨rfl, rfl⟩ | ⟨rfl, rfl⟩ | ⟨rfl, rfl⟩
    · have HLE := Lib.hid (show ([] : List V).length ≤ 72 by simp)
      have k := H1.out.below HBR.out
      have c3 := k.cell (i := 3) rfl
      have ml := k.lt
      cases ho : a.2 with
      | false =>
        rw [ho] at c3
        have HO := Lib.hid ho
        clear ho k
        go_wp2_with fail
        clear c3 ml
        go_roundw
        case rel => exact ⟨_, _, rfl, HOR.out, HBR.out, .inr (.inl ⟨rfl, by simp [rone, HO.out]⟩)⟩
        case measure =>
          simp only [intOf]
          omega
      | true =>
        rw [ho] at c3
        have HO := Lib.hid ho
        clear ho k
        go_wp2_with fail
        clear c3 ml
        go_loopw [3, 5] (fun v3 v5 wr => ∃ (n : Nat) (vr : Value), v5 = .int .i64 (n : Nat) ∧ n ≤ 36 ∧ vr = v3 ∧ RowG.Own encS TS wr w1.heap.size vr (racc a b a.1 (([] : List V)) n) ∧ Below w1.heap.size w1 wr) (fun _ v _ => 36 - (intOf v).toNat)
        case atStart => exact ⟨0, _, rfl, Nat.zero_le _, rfl, HOR.out, HBR.out⟩
        case round =>
          obtain ⟨n, vr, rfl, hn, rfl, ho, hbr⟩ := hrel
          have HOR := Lib.hid ho
          have HBR := Lib.hid hbr
          have hbz := hbr.size
          clear ho hbr
          by_cases hn36 : n < 36
          · have hnI : (n : Int) < 36 := by omega
            have hn1 : (n : Int) + 1 ≤ 36 := by omega
            obtain ⟨⟨x, y, z⟩, hc⟩ : ∃ q, rcand a.1 n = q := ⟨_, rfl⟩
            have HC := Lib.hid (rcand_q hc)
            obtain ⟨l, hl⟩ : ∃ l, racc a b a.1 (([] : List V)) n = l := ⟨_, rfl⟩
            have HST0 := Lib.hid (show racc a b a.1 (([] : List V)) (n + 1) = rstep a b (x, y, z) l by rw [racc, hc, hl])
            rw [hl] at HOR
            obtain ⟨N, hN⟩ : ∃ N, l.length = N := ⟨_, rfl⟩
            have HN := Lib.hid hN
            have HNL := Lib.hid (show N ≤ 200 by
              have h1 := racc_len (a := a) (b := b) (v := a.1) (l := ([] : List V)) n
              have h2 := HLE.out
              rw [hl, hN] at h1
              omega)
            have hnl := HNL.out
            obtain ⟨AV, cp, rfl, _, _, hAA⟩ := own_len HOR.out hN
            have HAA := Lib.hid hAA
            have k := H1.out.below HBR.out
            have c0 := k.cell (i := 0) rfl
            have c2 := k.cell (i := 2) rfl
            have ml := k.lt
            obtain ⟨q, hq⟩ : ∃ q, wr.heap.size = q := ⟨_, rfl⟩
            clear hc hl hN hAA k
            go_wp2_with fail
            refine wp_region_noPanic ?_
            refine wp_region_held_drew (S := fun Xw => Below wr.heap.size wr Xw) (by kernel_rfl) ((Below.refl _ wr).drew) (fun hHeld => ?_)
            refine wpAnyH_take (i := 0) (oi := ⟨some 21, _, _, _, _, _⟩) (v := .int .i64 0) rfl (by kernel_rfl) (by kernel_rfl) (by kernel_rfl) (fun _ _ _ h => h) (Or.inl ⟨by rfl, fun Xw hSW => by go_simp⟩) hHeld ?_
            simp only [Act.put, List.setIfInBounds_toArray, List.set_cons_zero, List.set_cons_succ]
            refine wpAnyH_take (i := 1) (oi := ⟨some 22, _, _, _, _, _⟩) (v := .pointer (some ⟨s, 0, none⟩)) rfl (by kernel_rfl) (by kernel_rfl) (by kernel_rfl) (fun _ _ _ h => h) (Or.inl ⟨by rfl, fun Xw hSW => by go_simp⟩) hHeld ?_
            simp only [Act.put, List.setIfInBounds_toArray, List.set_cons_zero, List.set_cons_succ]
            refine wpAnyH_take (i := 2) (oi := ⟨some 23, _, _, _, _, _⟩) (v := .pointer (some ⟨s, 0, none⟩)) rfl (by kernel_rfl) (by kernel_rfl) (by kernel_rfl) (fun _ _ _ h => h) (Or.inl ⟨by rfl, fun Xw hSW => by go_simp⟩) hHeld ?_
            simp only [Act.put, List.setIfInBounds_toArray, List.set_cons_zero, List.set_cons_succ]
            refine wpAnyH_take (i := 3) (oi := ⟨some 24, _, _, _, _, _⟩) (v := .pointer (some ⟨s, 0, none⟩)) rfl (by kernel_rfl) (by kernel_rfl) (by kernel_rfl) (fun _ _ _ h => h) (Or.inl ⟨by rfl, fun Xw hSW => by go_simp⟩) hHeld ?_
            simp only [Act.put, List.setIfInBounds_toArray, List.set_cons_zero, List.set_cons_succ]
            refine wpAnyH_take (i := 4) (oi := ⟨some 25, _, _, _, _, _⟩) (v := .int .i64 a.1.1) rfl (by kernel_rfl) (by kernel_rfl) (by kernel_rfl) (fun _ _ _ h => h) (Or.inl ⟨by rfl, fun Xw hSW => by have q := (hSW.cell (p := ⟨s, 0, none⟩) ml).trans c0; go_simp⟩) hHeld ?_
            simp only [Act.put, List.setIfInBounds_toArray, List.set_cons_zero, List.set_cons_succ]
            refine wpAnyH_take (i := 5) (oi := ⟨some 26, _, _, _, _, _⟩) (v := .int .i64 (n : Int)) rfl (by kernel_rfl) (by kernel_rfl) (by kernel_rfl) (fun _ _ _ h => h) (Or.inl ⟨by rfl, fun Xw hSW => by go_simp⟩) hHeld ?_
            simp only [Act.put, List.setIfInBounds_toArray, List.set_cons_zero, List.set_cons_succ]
            refine wpAnyH_take (i := 6) (oi := ⟨some 27, _, _, _, _, _⟩) (v := .int .i64 ((n : Int) / 12)) rfl (by kernel_rfl) (by kernel_rfl) (by kernel_rfl) (fun _ _ _ h => h) (Or.inl ⟨by rfl, fun Xw hSW => by go_simp; exact BitsP.wrapI_small (by omega) (by omega)⟩) hHeld ?_
            simp only [Act.put, List.setIfInBounds_toArray, List.set_cons_zero, List.set_cons_succ]
            refine wpAnyH_take (i := 7) (oi := ⟨some 28, _, _, _, _, _⟩) (v := .int .i64 (wrap64 (a.1.1 + (n : Int) / 12))) rfl (by kernel_rfl) (by kernel_rfl) (by kernel_rfl) (fun _ _ _ h => h) (Or.inl ⟨by rfl, fun Xw hSW => by go_simp; exact wI _⟩) hHeld ?_
            simp only [Act.put, List.setIfInBounds_toArray, List.set_cons_zero, List.set_cons_succ]
            refine wpAnyH_take (i := 8) (oi := ⟨some 29, _, _, _, _, _⟩) (v := .int .i64 x) rfl (by kernel_rfl) (by kernel_rfl) (by kernel_rfl) (fun _ _ _ h => h) (Or.inl ⟨by rfl, fun Xw hSW => by go_simp; rw [wI]; exact HC.out.1⟩) hHeld ?_
            simp only [Act.put, List.setIfInBounds_toArray, List.set_cons_zero, List.set_cons_succ]
            refine wpAnyH_take (i := 9) (oi := ⟨some 30, _, _, _, _, _⟩) (v := .int .i64 (n : Int)) rfl (by kernel_rfl) (by kernel_rfl) (by kernel_rfl) (fun _ _ _ h => h) (Or.inl ⟨by rfl, fun Xw hSW => by go_simp⟩) hHeld ?_
            simp only [Act.put, List.setIfInBounds_toArray, List.set_cons_zero, List.set_cons_succ]
            refine wpAnyH_take (i := 10) (oi := ⟨some 31, _, _, _, _, _⟩) (v := .int .i64 y) rfl (by kernel_rfl) (by kernel_rfl) (by kernel_rfl) (fun _ _ _ h => h) (Or.inl ⟨by rfl, fun Xw hSW => by go_simp; rw [Int.tmod_eq_emod_of_nonneg (by omega)]; exact HC.out.2.1⟩) hHeld ?_
            simp only [Act.put, List.setIfInBounds_toArray, List.set_cons_zero, List.set_cons_succ]
            refine wpAnyH_take (i := 11) (oi := ⟨some 32, _, _, _, _, _⟩) (v := .int .i64 0) rfl (by kernel_rfl) (by kernel_rfl) (by kernel_rfl) (fun _ _ _ h => h) (Or.inl ⟨by rfl, fun Xw hSW => by go_simp⟩) hHeld ?_
            simp only [Act.put, List.setIfInBounds_toArray, List.set_cons_zero, List.set_cons_succ]
            refine wpAnyH_take (i := 12) (oi := ⟨some 33, _, _, _, _, _⟩) (v := .pointer (some ⟨s, 0, none⟩)) rfl (by kernel_rfl) (by kernel_rfl) (by kernel_rfl) (fun _ _ _ h => h) (Or.inl ⟨by rfl, fun Xw hSW => by go_simp⟩) hHeld ?_
            simp only [Act.put, List.setIfInBounds_toArray, List.set_cons_zero, List.set_cons_succ]
            refine wpAnyH_take (i := 13) (oi := ⟨some 34, _, _, _, _, _⟩) (v := .pointer (some ⟨s, 0, none⟩)) rfl (by kernel_rfl) (by kernel_rfl) (by kernel_rfl) (fun _ _ _ h => h) (Or.inl ⟨by rfl, fun Xw hSW => by go_simp⟩) hHeld ?_
            simp only [Act.put, List.setIfInBounds_toArray, List.set_cons_zero, List.set_cons_succ]
            refine wpAnyH_take (i := 14) (oi := ⟨some 35, _, _, _, _, _⟩) (v := .pointer (some ⟨s, 2, none⟩)) rfl (by kernel_rfl) (by kernel_rfl) (by kernel_rfl) (fun _ _ _ h => h) (Or.inl ⟨by rfl, fun Xw hSW => by go_simp⟩) hHeld ?_
            simp only [Act.put, List.setIfInBounds_toArray, List.set_cons_zero, List.set_cons_succ]
            refine wpAnyH_take (i := 15) (oi := ⟨some 36, _, _, _, _, _⟩) (v := .int .i64 a.1.2.2) rfl (by kernel_rfl) (by kernel_rfl) (by kernel_rfl) (fun _ _ _ h => h) (Or.inl ⟨by rfl, fun Xw hSW => by have q := (hSW.cell (p := ⟨s, 2, none⟩) ml).trans c2; go_simp⟩) hHeld ?_
            simp only [Act.put, List.setIfInBounds_toArray, List.set_cons_zero, List.set_cons_succ]
            refine wpAnyH_take (i := 16) (oi := ⟨some 37, _, _, _, _, _⟩) (v := .int .i64 (n : Int)) rfl (by kernel_rfl) (by kernel_rfl) (by kernel_rfl) (fun _ _ _ h => h) (Or.inl ⟨by rfl, fun Xw hSW => by go_simp⟩) hHeld ?_
            simp only [Act.put, List.setIfInBounds_toArray, List.set_cons_zero, List.set_cons_succ]
            refine wpAnyH_take (i := 17) (oi := ⟨some 38, _, _, _, _, _⟩) (v := .int .i64 ((n : Int) / 4)) rfl (by kernel_rfl) (by kernel_rfl) (by kernel_rfl) (fun _ _ _ h => h) (Or.inl ⟨by rfl, fun Xw hSW => by go_simp; exact BitsP.wrapI_small (by omega) (by omega)⟩) hHeld ?_
            simp only [Act.put, List.setIfInBounds_toArray, List.set_cons_zero, List.set_cons_succ]
            refine wpAnyH_take (i := 18) (oi := ⟨some 39, _, _, _, _, _⟩) (v := .int .i64 ((n : Int) / 4 % 3)) rfl (by kernel_rfl) (by kernel_rfl) (by kernel_rfl) (fun _ _ _ h => h) (Or.inl ⟨by rfl, fun Xw hSW => by go_simp; exact Int.tmod_eq_emod_of_nonneg (by omega)⟩) hHeld ?_
            simp only [Act.put, List.setIfInBounds_toArray, List.set_cons_zero, List.set_cons_succ]
            refine wpAnyH_take (i := 19) (oi := ⟨some 40, _, _, _, _, _⟩) (v := .int .i64 (wrap64 (a.1.2.2 + (n : Int) / 4 % 3))) rfl (by kernel_rfl) (by kernel_rfl) (by kernel_rfl) (fun _ _ _ h => h) (Or.inl ⟨by rfl, fun Xw hSW => by go_simp; exact wI _⟩) hHeld ?_
            simp only [Act.put, List.setIfInBounds_toArray, List.set_cons_zero, List.set_cons_succ]
            refine wpAnyH_take (i := 20) (oi := ⟨some 41, _, _, _, _, _⟩) (v := .int .i64 z) rfl (by kernel_rfl) (by kernel_rfl) (by kernel_rfl) (fun _ _ _ h => h) (Or.inl ⟨by rfl, fun Xw hSW => by go_simp; rw [wI]; exact HC.out.2.2⟩) hHeld ?_
            simp only [Act.put, List.setIfInBounds_toArray, List.set_cons_zero, List.set_cons_succ]
            refine wpAnyH_take (i := 21) (oi := ⟨some 42, _, _, _, _, _⟩) (v := .agg #[.int .i64 x, .int .i64 y, .int .i64 z]) rfl (by kernel_rfl) (by kernel_rfl) (by kernel_rfl) (fun _ _ _ h => h) (Or.inl ⟨by rfl, fun Xw hSW => by go_simp⟩) hHeld ?_
            simp only [Act.put, List.setIfInBounds_toArray, List.set_cons_zero, List.set_cons_succ]
            refine wpAnyH_ready (rs := [22]) (by kernel_rfl) (by simp) ?_
            refine AllReadyH.cons (o := ⟨some 6, _, _, _, _, _⟩) rfl (fun K hK => ?_) AllReadyH.nil
            go_simp
            refine hK.out _ _ (by (repeat' (first | (with_reducible exact Below.refl _ _) | (with_reducible refine Below.setCell ?_ (by (first | omega | (simp; done) | (simp; omega))) _) | (with_reducible refine Below.alloc ?_ (by (first | omega | (simp; done) | (simp; omega))) _) | (with_reducible refine Below.drew ?_) | (with_reducible refine below_drewN ?_ _) | (with_reducible refine Below.trans ?_ (Below.mono hHeld (by (first | omega | (simp; done) | (simp; omega)))))))) (fun hHeld => ?_)
            clear hK K
            refine wpAnyH_ready (rs := [23]) (by kernel_rfl) (by simp) ?_
            refine AllReadyH.cons (o := ⟨none, _, _, _, _, _⟩) rfl (fun K hK => ?_) AllReadyH.nil
            go_simp
            refine hK.out _ _ (by (repeat' (first | (with_reducible exact Below.refl _ _) | (with_reducible refine Below.setCell ?_ (by (first | omega | (simp; done) | (simp; omega))) _) | (with_reducible refine Below.alloc ?_ (by (first | omega | (simp; done) | (simp; omega))) _) | (with_reducible refine Below.drew ?_) | (with_reducible refine below_drewN ?_ _) | (with_reducible refine Below.trans ?_ (Below.mono hHeld (by (first | omega | (simp; done) | (simp; omega)))))))) (fun hHeld => ?_)
            clear hK K
            refine wpAnyH_done (by kernel_rfl) ?_ _
            refine NoPanic.normal ?_
            refine HeldP.then_named (S := fun W => Below wr.heap.size wr W ∧ Blk W q TS [.int .i64 x, .int .i64 y, .int .i64 z]) ⟨hHeld, by subst hq; (repeat' (first | (with_reducible refine BlkP.Blk.drew ?_) | (with_reducible refine BlkP.Blk.drewN ?_ _) | (with_reducible refine BlkP.Blk.setAt (us := ?_) (by first | omega | (simp; done) | (simp; omega)) rfl ?_ ?_) | (with_reducible refine BlkP.Blk.otherAt ?_ (by first | omega | (simp; done) | (simp; omega))) | (with_reducible refine BlkP.Blk.newA' (by first | omega | (simp; done) | (simp; omega)) rfl) | (with_reducible refine BlkP.Blk.alloc ?_ _) | (exact rfl)))⟩ ?_
            try rw [hq]
            clear hHeld
            rintro w5 ⟨hb5, hq5⟩
            try rw [← hq] at hb5
            have k := H1.out.below (below_t HBR.out hb5)
            have k0 := k.cell (i := 0) rfl
            have k1 := k.cell (i := 1) rfl
            have k2 := k.cell (i := 2) rfl
            have k3 := k.cell (i := 3) rfl
            have k4 := k.cell (i := 4) rfl
            have k5 := k.cell (i := 5) rfl
            have k6 := k.cell (i := 6) rfl
            have k7 := k.cell (i := 7) rfl
            have kl := k.lt
            have e0 := hq5.cell (i := 0) rfl
            have e1 := hq5.cell (i := 1) rfl
            have e2 := hq5.cell (i := 2) rfl
            have el := hq5.lt
            have B5 := Lib.hid (below_t HBR.out hb5)
            have O5 := Lib.hid (HOR.out.below hb5)
            have Q5 := Lib.hid hq5
            have VQ := Lib.hid (show (Value.slice AV N cp).ownBlock ≠ some q from fun e => by
              have := (HOR.out.ge q e).2
              omega)
            clear hb5 hq5 c0 c2 ml k
            cases hr : inL a b (x, y, z) with
            | false =>
              have HIN := Lib.hid hr
              clear hr
              go_wp2_with fail
              refine (rIn_c HIA.out HIB.out HIN.out).mono ?_
              rintro e w6 ⟨rfl, hb6⟩
              have HB6 := Lib.hid hb6
              clear hb6 k0 k1 k2 k3 k4 k5 k6 k7 kl e0 e1 e2 el
              go_wp2_with fail
              go_roundw
              case rel =>
                refine ⟨n + 1, _, by first | rfl | (congr 1; omega), by omega, rfl, ?_, below_t B5.out HB6.out⟩
                rw [HST0.out, rstep, HIN.out]
                exact O5.out.below HB6.out
              case measure =>
                simp only [intOf]
                omega
            | true =>
              have HIN := Lib.hid hr
              have HST := Lib.hid (show racc a b a.1 (([] : List V)) (n + 1) = insS (x, y, z) l by rw [HST0.out, rstep, hr]; rfl)
              clear hr
              go_wp2_with fail
              refine (rIn_c HIA.out HIB.out HIN.out).mono ?_
              rintro e w6 ⟨rfl, hb6⟩
              have B6 := Lib.hid (below_t B5.out hb6)
              have O6 := Lib.hid (O5.out.below hb6)
              have Q6 := Lib.hid (Q5.out.below hb6)
              clear hb6 k0 k1 k2 k3 k4 k5 k6 k7 kl e0 e1 e2 el
              go_wp2_with fail
              go_loopw [7] (fun v7 wx => ∃ i : Nat, v7 = .int .i64 (i : Nat) ∧ i ≤ N ∧ (∀ j t, j < i → l[j]? = some t → ltS t (x, y, z)) ∧ Below w6.heap.size w6 wx) (fun v _ => 300 - (intOf v).toNat)
              case atStart => exact ⟨0, rfl, Nat.zero_le _, fun j t h => by omega, Below.refl _ _⟩
              case round =>
                obtain ⟨i, rfl, hi, hall, hbx⟩ := hrel
                have HALL := Lib.hid hall
                have HBX0 := Lib.hid hbx
                have O12 := Lib.hid (O6.out.below hbx)
                have q12 := Q6.out.below hbx
                have Q12 := Lib.hid q12
                have B12 := Lib.hid (below_t B6.out hbx)
                have HI := Lib.hid hi
                have d0 := q12.cell (i := 0) rfl
                have d1 := q12.cell (i := 1) rfl
                have d2 := q12.cell (i := 2) rfl
                have ql := q12.lt
                clear hall hbx q12
                by_cases hin : i < N
                · have hiI : (i : Int) < (N : Int) := by omega
                  have hd : decide ((i : Int) < (N : Int)) = true := decide_eq_true hiI
                  obtain ⟨g, rfl, _, _⟩ := HAA.out (by omega)
                  obtain ⟨⟨tx, ty, tz⟩, ht⟩ : ∃ t, l[i]? = some t := ⟨_, List.getElem?_eq_getElem (by rw [HN.out]; exact hin)⟩
                  have HT := Lib.hid ht
                  obtain ⟨m, hm⟩ : ∃ m, PlaceW.cmpOf tx ty tz x y z = m := ⟨_, rfl⟩
                  have HCM := Lib.hid hm
                  have HLT := Lib.hid (cmp_lt (p := (tx, ty, tz)) (q := (x, y, z)) hm)
                  obtain ⟨t0, t1, t2⟩ := spot_at O12.out ht
                  have gl := own_at O12.out ht
                  simp only at t0 t1 t2
                  clear ht hm
                  by_cases hm0 : m < 0
                  · have hmd : decide (m < 0) = true := decide_eq_true hm0
                    go_wp2_with fail
                    refine wp_region_noPanic ?_
                    refine wp_region_held_drew (S := fun W => Below wr.heap.size wr W) (by kernel_rfl) ((Below.refl _ wr).drew) (fun hHeld => ?_)
                    refine wpAnyH_take (i := 0) (oi := ⟨some 47, _, _, _, _, _⟩) (v := .int .i64 (i : Int)) rfl (by kernel_rfl) (by kernel_rfl) (by kernel_rfl) (fun _ _ _ h => h) (Or.inl ⟨by rfl, fun W hSW => by go_simp⟩) hHeld ?_
                    simp only [Act.put, List.setIfInBounds_toArray, List.set_cons_zero, List.set_cons_succ]
                    refine wpAnyH_take (i := 1) (oi := ⟨some 48, _, _, _, _, _⟩) (v := .slice (some ⟨g, 0, none⟩) N cp) rfl (by kernel_rfl) (by kernel_rfl) (by kernel_rfl) (fun _ _ _ h => h) (Or.inl ⟨by rfl, fun W hSW => by go_simp⟩) hHeld ?_
                    simp only [Act.put, List.setIfInBounds_toArray, List.set_cons_zero, List.set_cons_succ]
                    refine wpAnyH_take (i := 2) (oi := ⟨some 49, _, _, _, _, _⟩) (v := .int .i64 (N : Int)) rfl (by kernel_rfl) (by kernel_rfl) (by kernel_rfl) (fun _ _ _ h => h) (Or.inl ⟨by rfl, fun W hSW => by go_simp⟩) hHeld ?_
                    simp only [Act.put, List.setIfInBounds_toArray, List.set_cons_zero, List.set_cons_succ]
                    refine wpAnyH_take (i := 3) (oi := ⟨some 50, _, _, _, _, _⟩) (v := .bool true) rfl (by kernel_rfl) (by kernel_rfl) (by kernel_rfl) (fun _ _ _ h => h) (Or.inl ⟨by rfl, fun W hSW => by go_simp⟩) hHeld ?_
                    simp only [Act.put, List.setIfInBounds_toArray, List.set_cons_zero, List.set_cons_succ]
                    refine wpAnyH_take (i := 4) (oi := ⟨some 51, _, _, _, _, _⟩) (v := .bool true) rfl (by kernel_rfl) (by kernel_rfl) (by kernel_rfl) (fun _ _ _ h => h) (Or.inl ⟨by rfl, fun W hSW => by go_simp⟩) hHeld ?_
                    simp only [Act.put, List.setIfInBounds_toArray, List.set_cons_zero, List.set_cons_succ]
                    refine wpAnyH_take (i := 5) (oi := ⟨some 52, _, _, _, _, _⟩) (v := .slice (some ⟨g, 0, none⟩) N cp) rfl (by kernel_rfl) (by kernel_rfl) (by kernel_rfl) (fun _ _ _ h => h) (Or.inl ⟨by rfl, fun W hSW => by go_simp⟩) hHeld ?_
                    simp only [Act.put, List.setIfInBounds_toArray, List.set_cons_zero, List.set_cons_succ]
                    refine wpAnyH_take (i := 6) (oi := ⟨some 53, _, _, _, _, _⟩) (v := .int .i64 (i : Int)) rfl (by kernel_rfl) (by kernel_rfl) (by kernel_rfl) (fun _ _ _ h => h) (Or.inl ⟨by rfl, fun W hSW => by go_simp⟩) hHeld ?_
                    simp only [Act.put, List.setIfInBounds_toArray, List.set_cons_zero, List.set_cons_succ]
                    refine wpAnyH_take (i := 7) (oi := ⟨some 54, _, _, _, _, _⟩) (v := .pointer (some ⟨g, i * 3, none⟩)) rfl (by kernel_rfl) (by kernel_rfl) (by kernel_rfl) (fun _ _ _ h => h) (Or.inl ⟨by rfl, fun W hSW => by go_simp⟩) hHeld ?_
                    simp only [Act.put, List.setIfInBounds_toArray, List.set_cons_zero, List.set_cons_succ]
                    refine wpAnyH_take (i := 8) (oi := ⟨some 55, _, _, _, _, _⟩) (v := .agg #[.int .i64 tx, .int .i64 ty, .int .i64 tz]) rfl (by kernel_rfl) (by kernel_rfl) (by kernel_rfl) (fun _ _ _ h => h) (Or.inl ⟨by rfl, fun W hSW => by have a0 := (hSW.cell (p := ⟨g, i * 3, none⟩) gl).trans t0; have a1 := (hSW.cell (p := ⟨g, i * 3 + 1, none⟩) gl).trans t1; have a2 := (hSW.cell (p := ⟨g, i * 3 + 2, none⟩) gl).trans t2; go_simp⟩) hHeld ?_
                    simp only [Act.put, List.setIfInBounds_toArray, List.set_cons_zero, List.set_cons_succ]
                    refine wpAnyH_take (i := 9) (oi := ⟨some 56, _, _, _, _, _⟩) (v := .agg #[.int .i64 x, .int .i64 y, .int .i64 z]) rfl (by kernel_rfl) (by kernel_rfl) (by kernel_rfl) (fun _ _ _ h => h) (Or.inl ⟨by rfl, fun W hSW => by have a0 := (hSW.cell (p := ⟨q, 0, none⟩) ql).trans d0; have a1 := (hSW.cell (p := ⟨q, 1, none⟩) ql).trans d1; have a2 := (hSW.cell (p := ⟨q, 2, none⟩) ql).trans d2; go_simp⟩) hHeld ?_
                    simp only [Act.put, List.setIfInBounds_toArray, List.set_cons_zero, List.set_cons_succ]
                    refine wpAnyH_ready (rs := [10]) (by kernel_rfl) (by simp) ?_
                    refine AllReadyH.cons (o := ⟨some 57, _, _, _, _, _⟩) rfl (fun K hK => ?_) AllReadyH.nil
                    go_simp
                    refine (PlaceW.r_cmpSpot_c HCM.out _).mono ?_
                    rintro e w10 ⟨rfl, hb10⟩
                    refine hK.out _ _ (below_t hHeld hb10) (fun hHeld => ?_)
                    clear hK K hb10
                    refine wpAnyH_take (i := 11) (oi := ⟨some 58, _, _, _, _, _⟩) (v := .bool true) rfl (by kernel_rfl) (by kernel_rfl) (by kernel_rfl) (fun _ _ _ h => h) (Or.inl ⟨by rfl, fun W hSW => by go_simp⟩) hHeld ?_
                    simp only [Act.put, List.setIfInBounds_toArray, List.set_cons_zero, List.set_cons_succ]
                    refine wpAnyH_take (i := 12) (oi := ⟨some 59, _, _, _, _, _⟩) (v := .bool true) rfl (by kernel_rfl) (by kernel_rfl) (by kernel_rfl) (fun _ _ _ h => h) (Or.inl ⟨by rfl, fun W hSW => by go_simp⟩) hHeld ?_
                    simp only [Act.put, List.setIfInBounds_toArray, List.set_cons_zero, List.set_cons_succ]
                    refine wpAnyH_done (by kernel_rfl) ?_ _
                    refine NoPanic.normal ?_
                    have HHE := Lib.hid hHeld
                    clear hHeld t0 t1 t2 gl d0 d1 d2 ql
                    go_wp2_with fail
                    go_roundw
                    case rel =>
                      refine ⟨i + 1, by first | rfl | (congr 1; omega), by omega, fun j t hj ht => ?_, ?_⟩
                      · by_cases e : j = i
                        · subst e
                          have e2 : (tx, ty, tz) = t := Option.some.inj (HT.out.symm.trans ht)
                          rw [← e2]
                          exact HLT.out.1 (by omega)
                        · exact HALL.out j t (by omega) ht
                      · exact below_t HBX0.out HHE.out
                    case measure =>
                      simp only [intOf]
                      omega
                  · have hmd : decide (m < 0) = false := decide_eq_false hm0
                    go_wp2_with fail
                    refine wp_region_noPanic ?_
                    refine wp_region_held_drew (S := fun W => Below wr.heap.size wr W) (by kernel_rfl) ((Below.refl _ wr).drew) (fun hHeld => ?_)
                    refine wpAnyH_take (i := 0) (oi := ⟨some 47, _, _, _, _, _⟩) (v := .int .i64 (i : Int)) rfl (by kernel_rfl) (by kernel_rfl) (by kernel_rfl) (fun _ _ _ h => h) (Or.inl ⟨by rfl, fun W hSW => by go_simp⟩) hHeld ?_
                    simp only [Act.put, List.setIfInBounds_toArray, List.set_cons_zero, List.set_cons_succ]
                    refine wpAnyH_take (i := 1) (oi := ⟨some 48, _, _, _, _, _⟩) (v := .slice (some ⟨g, 0, none⟩) N cp) rfl (by kernel_rfl) (by kernel_rfl) (by kernel_rfl) (fun _ _ _ h => h) (Or.inl ⟨by rfl, fun W hSW => by go_simp⟩) hHeld ?_
                    simp only [Act.put, List.setIfInBounds_toArray, List.set_cons_zero, List.set_cons_succ]
                    refine wpAnyH_take (i := 2) (oi := ⟨some 49, _, _, _, _, _⟩) (v := .int .i64 (N : Int)) rfl (by kernel_rfl) (by kernel_rfl) (by kernel_rfl) (fun _ _ _ h => h) (Or.inl ⟨by rfl, fun W hSW => by go_simp⟩) hHeld ?_
                    simp only [Act.put, List.setIfInBounds_toArray, List.set_cons_zero, List.set_cons_succ]
                    refine wpAnyH_take (i := 3) (oi := ⟨some 50, _, _, _, _, _⟩) (v := .bool true) rfl (by kernel_rfl) (by kernel_rfl) (by kernel_rfl) (fun _ _ _ h => h) (Or.inl ⟨by rfl, fun W hSW => by go_simp⟩) hHeld ?_
                    simp only [Act.put, List.setIfInBounds_toArray, List.set_cons_zero, List.set_cons_succ]
                    refine wpAnyH_take (i := 4) (oi := ⟨some 51, _, _, _, _, _⟩) (v := .bool true) rfl (by kernel_rfl) (by kernel_rfl) (by kernel_rfl) (fun _ _ _ h => h) (Or.inl ⟨by rfl, fun W hSW => by go_simp⟩) hHeld ?_
                    simp only [Act.put, List.setIfInBounds_toArray, List.set_cons_zero, List.set_cons_succ]
                    refine wpAnyH_take (i := 5) (oi := ⟨some 52, _, _, _, _, _⟩) (v := .slice (some ⟨g, 0, none⟩) N cp) rfl (by kernel_rfl) (by kernel_rfl) (by kernel_rfl) (fun _ _ _ h => h) (Or.inl ⟨by rfl, fun W hSW => by go_simp⟩) hHeld ?_
                    simp only [Act.put, List.setIfInBounds_toArray, List.set_cons_zero, List.set_cons_succ]
                    refine wpAnyH_take (i := 6) (oi := ⟨some 53, _, _, _, _, _⟩) (v := .int .i64 (i : Int)) rfl (by kernel_rfl) (by kernel_rfl) (by kernel_rfl) (fun _ _ _ h => h) (Or.inl ⟨by rfl, fun W hSW => by go_simp⟩) hHeld ?_
                    simp only [Act.put, List.setIfInBounds_toArray, List.set_cons_zero, List.set_cons_succ]
                    refine wpAnyH_take (i := 7) (oi := ⟨some 54, _, _, _, _, _⟩) (v := .pointer (some ⟨g, i * 3, none⟩)) rfl (by kernel_rfl) (by kernel_rfl) (by kernel_rfl) (fun _ _ _ h => h) (Or.inl ⟨by rfl, fun W hSW => by go_simp⟩) hHeld ?_
                    simp only [Act.put, List.setIfInBounds_toArray, List.set_cons_zero, List.set_cons_succ]
                    refine wpAnyH_take (i := 8) (oi := ⟨some 55, _, _, _, _, _⟩) (v := .agg #[.int .i64 tx, .int .i64 ty, .int .i64 tz]) rfl (by kernel_rfl) (by kernel_rfl) (by kernel_rfl) (fun _ _ _ h => h) (Or.inl ⟨by rfl, fun W hSW => by have a0 := (hSW.cell (p := ⟨g, i * 3, none⟩) gl).trans t0; have a1 := (hSW.cell (p := ⟨g, i * 3 + 1, none⟩) gl).trans t1; have a2 := (hSW.cell (p := ⟨g, i * 3 + 2, none⟩) gl).trans t2; go_simp⟩) hHeld ?_
                    simp only [Act.put, List.setIfInBounds_toArray, List.set_cons_zero, List.set_cons_succ]
                    refine wpAnyH_take (i := 9) (oi := ⟨some 56, _, _, _, _, _⟩) (v := .agg #[.int .i64 x, .int .i64 y, .int .i64 z]) rfl (by kernel_rfl) (by kernel_rfl) (by kernel_rfl) (fun _ _ _ h => h) (Or.inl ⟨by rfl, fun W hSW => by have a0 := (hSW.cell (p := ⟨q, 0, none⟩) ql).trans d0; have a1 := (hSW.cell (p := ⟨q, 1, none⟩) ql).trans d1; have a2 := (hSW.cell (p := ⟨q, 2, none⟩) ql).trans d2; go_simp⟩) hHeld ?_
                    simp only [Act.put, List.setIfInBounds_toArray, List.set_cons_zero, List.set_cons_succ]
                    refine wpAnyH_ready (rs := [10]) (by kernel_rfl) (by simp) ?_
                    refine AllReadyH.cons (o := ⟨some 57, _, _, _, _, _⟩) rfl (fun K hK => ?_) AllReadyH.nil
                    go_simp
                    refine (PlaceW.r_cmpSpot_c HCM.out _).mono ?_
                    rintro e w10 ⟨rfl, hb10⟩
                    refine hK.out _ _ (below_t hHeld hb10) (fun hHeld => ?_)
                    clear hK K hb10
                    refine wpAnyH_take (i := 11) (oi := ⟨some 58, _, _, _, _, _⟩) (v := .bool false) rfl (by kernel_rfl) (by kernel_rfl) (by kernel_rfl) (fun _ _ _ h => h) (Or.inl ⟨by rfl, fun W hSW => by go_simp⟩) hHeld ?_
                    simp only [Act.put, List.setIfInBounds_toArray, List.set_cons_zero, List.set_cons_succ]
                    refine wpAnyH_take (i := 12) (oi := ⟨some 59, _, _, _, _, _⟩) (v := .bool false) rfl (by kernel_rfl) (by kernel_rfl) (by kernel_rfl) (fun _ _ _ h => h) (Or.inl ⟨by rfl, fun W hSW => by go_simp⟩) hHeld ?_
                    simp only [Act.put, List.setIfInBounds_toArray, List.set_cons_zero, List.set_cons_succ]
                    refine wpAnyH_done (by kernel_rfl) ?_ _
                    refine NoPanic.normal ?_
                    have HHE := Lib.hid hHeld
                    obtain ⟨wx, hwx⟩ : ∃ wx, wx = w10 := ⟨_, rfl⟩
                    subst hwx
                    have OX := Lib.hid (O12.out.below HHE.out)
                    have QX := Lib.hid (Q12.out.below HHE.out)
                    have BX := Lib.hid (below_t B12.out HHE.out)
                    clear hHeld t0 t1 t2 gl d0 d1 d2 ql
                    obtain ⟨t0, t1, t2⟩ := spot_at OX.out HT.out
                    have gl := own_at OX.out HT.out
                    have d0 := QX.out.cell (i := 0) rfl
                    have d1 := QX.out.cell (i := 1) rfl
                    have d2 := QX.out.cell (i := 2) rfl
                    have ql := QX.out.lt
                    simp only at t0 t1 t2
                    by_cases he : (tx, ty, tz) = (x, y, z)
                    · have qe : ∀ w, (binOp .eql TS (.agg #[.int .i64 tx, .int .i64 ty, .int .i64 tz]) (.agg #[.int .i64 x, .int .i64 y, .int .i64 z])).run Try.prog w = .ok (.bool true) w := fun w => run_eqS w (tx, ty, tz) (x, y, z) (decide_eq_true he)
                      have HE := Lib.hid he
                      clear he
                      go_wp2_with fail
                      go_quiet (fail)
                      go_wp2_with fail
                      go_roundw
                      case rel =>
                        refine ⟨n + 1, _, by first | rfl | (congr 1; omega), by omega, rfl, ?_, by (repeat' (first | (with_reducible exact Below.refl _ _) | (with_reducible refine Below.setCell ?_ (by (first | omega | (simp; done) | (simp; omega))) _) | (with_reducible refine Below.alloc ?_ (by (first | omega | (simp; done) | (simp; omega))) _) | (with_reducible refine Below.drew ?_) | (with_reducible refine below_drewN ?_ _) | (with_reducible refine Below.trans ?_ (Below.mono BX.out (by (first | omega | (simp; done) | (simp; omega)))))))⟩
                        rw [HST.out, ins_there (x, y, z) (i := i) (by rw [HN.out]; omega) HALL.out (HE.out ▸ HT.out)]
                        exact OX.out.below (by (repeat' (first | (with_reducible exact Below.refl _ _) | (with_reducible refine Below.setCell ?_ (by (first | omega | (simp; done) | (simp; omega))) _) | (with_reducible refine Below.alloc ?_ (by (first | omega | (simp; done) | (simp; omega))) _) | (with_reducible refine Below.drew ?_) | (with_reducible refine below_drewN ?_ _))))
                      case measure =>
                        simp only [intOf]
                        omega
                    · have qe : ∀ w, (binOp .eql TS (.agg #[.int .i64 tx, .int .i64 ty, .int .i64 tz]) (.agg #[.int .i64 x, .int .i64 y, .int .i64 z])).run Try.prog w = .ok (.bool false) w := fun w => run_eqS w (tx, ty, tz) (x, y, z) (decide_eq_false he)
                      have HNX := Lib.hid (show ∀ t, l[i]? = some t → ¬ ltS t (x, y, z) ∧ t ≠ (x, y, z) from fun t ht => by
                        have e2 : (tx, ty, tz) = t := Option.some.inj (HT.out.symm.trans ht)
                        rw [← e2]
                        exact ⟨fun h => by have := HLT.out.2 h; omega, he⟩)
                      clear he
                      go_wp2_with fail
                      go_quiet (fail)
                      clear t0 t1 t2 gl d0 d1 d2 ql qe
                      go_wp2_with ((with_reducible refine at_slot 77 ?_); refine Classical.byContradiction (fun hG => ?_))
                      refine hG ?_
                      clear hG
                      refine list_named (S := fun W => ∃ W0, W = W0.alloc (.cells #[.int .i64 0, .int .i64 0, .int .i64 0] TS) ∧ Below wx.heap.size wx W0 ∧ W0.heap.size = wx.heap.size) ⟨_, rfl, by (repeat' (first | (with_reducible exact Below.refl _ _) | (with_reducible refine Below.setCell ?_ (by (first | omega | (simp; done) | (simp; omega))) _) | (with_reducible refine Below.alloc ?_ (by (first | omega | (simp; done) | (simp; omega))) _) | (with_reducible refine Below.drew ?_) | (with_reducible refine below_drewN ?_ _))), by first | rfl | (simp; done)⟩ ?_
                      rintro _ ⟨w7, rfl, hb7, e7⟩
                      have B7 := Lib.hid (below_t BX.out hb7)
                      have O7 := Lib.hid (OX.out.below hb7)
                      have Q7 := Lib.hid (QX.out.below hb7)
                      have hz7 := B7.out.size
                      clear hb7
                      refine wp_pushS (w0 := w7) rfl (.tmp 74) (.tmp 76) rfl (v := (.slice (some ⟨g, 0, none⟩) N cp)) (y := ((0 : Int), (0 : Int), (0 : Int))) (l := l) (n := N) rfl rfl rfl O7.out (by rw [e7]; rfl) HN.out (by omega) (by omega) ?_
                      rintro g1 c1 w8 ⟨ho8, hg8, hn8⟩
                      have O8 := Lib.hid ho8
                      have HC1 := Lib.hid (show N + 1 ≤ c1 from (own_parts ho8).2.2.1)
                      obtain ⟨k1, hk1⟩ : ∃ k1, i + 1 = k1 := ⟨_, rfl⟩
                      have HK1 := Lib.hid (show k1 ≤ N + 1 ∧ k1 = i + 1 by omega)
                      have HW1 := Lib.hid (show wrap64 ((i : Int) + 1) = (k1 : Int) by unfold wrap64; omega)
                      clear hk1
                      have B8 := Lib.hid (show Below w1.heap.size w1 w8 from B7.out.grown hg8 hz7 (fun k hk => (O7.out.ge k hk).1))
                      have NQ := Lib.hid (show q ≠ g1 from fun e => by
                        rcases hn8 with h | h
                        · exact VQ.out (h.trans (congrArg some e.symm))
                        · have := Q7.out.lt
                          omega)
                      have Q8 := Lib.hid (Q7.out.grown hg8 (fun e => VQ.out e.symm))
                      clear ho8 hg8 hn8
                      go_wp2_with fail
                      refine wp_region_noPanic ?_
                      refine wp_region_held_drew (S := fun Xw => Fr (fun k => k = g1) w8 Xw) (by kernel_rfl) ((Fr.refl _ w8).drew) (fun hHeld => ?_)
                      refine wpAnyH_take (i := 0) (oi := ⟨some 78, _, _, _, _, _⟩) (v := .slice (some ⟨g1, 0, none⟩) (N + 1) c1) rfl (by kernel_rfl) (by kernel_rfl) (by kernel_rfl) (fun _ _ _ h => h) (Or.inl ⟨by rfl, fun Xw hSW => by go_simp⟩) hHeld ?_
                      simp only [Act.put, List.setIfInBounds_toArray, List.set_cons_zero, List.set_cons_succ]
                      refine wpAnyH_take (i := 1) (oi := ⟨some 79, _, _, _, _, _⟩) (v := .int .i64 (i : Int)) rfl (by kernel_rfl) (by kernel_rfl) (by kernel_rfl) (fun _ _ _ h => h) (Or.inl ⟨by rfl, fun Xw hSW => by go_simp⟩) hHeld ?_
                      simp only [Act.put, List.setIfInBounds_toArray, List.set_cons_zero, List.set_cons_succ]
                      refine wpAnyH_take (i := 2) (oi := ⟨some 80, _, _, _, _, _⟩) (v := .int .i64 (k1 : Int)) rfl (by kernel_rfl) (by kernel_rfl) (by kernel_rfl) (fun _ _ _ h => h) (Or.inl ⟨by rfl, fun Xw hSW => by go_simp; rw [wI]; exact HW1.out⟩) hHeld ?_
                      simp only [Act.put, List.setIfInBounds_toArray, List.set_cons_zero, List.set_cons_succ]
                      refine wpAnyH_take (i := 3) (oi := ⟨some 81, _, _, _, _, _⟩) (v := cutV g1 (N + 1) c1 k1) rfl (by kernel_rfl) (by kernel_rfl) (by kernel_rfl) (fun _ _ _ h => h) (Or.inl ⟨by rfl, fun Xw hSW => by have q := run_cutS (g := g1) (n := N + 1) (c := c1) (k := k1) Xw HK1.out.1 HC1.out; go_simp⟩) hHeld ?_
                      simp only [Act.put, List.setIfInBounds_toArray, List.set_cons_zero, List.set_cons_succ]
                      refine wpAnyH_take (i := 4) (oi := ⟨some 82, _, _, _, _, _⟩) (v := .slice (some ⟨g1, 0, none⟩) (N + 1) c1) rfl (by kernel_rfl) (by kernel_rfl) (by kernel_rfl) (fun _ _ _ h => h) (Or.inl ⟨by rfl, fun Xw hSW => by go_simp⟩) hHeld ?_
                      simp only [Act.put, List.setIfInBounds_toArray, List.set_cons_zero, List.set_cons_succ]
                      refine wpAnyH_take (i := 5) (oi := ⟨some 83, _, _, _, _, _⟩) (v := .int .i64 (i : Int)) rfl (by kernel_rfl) (by kernel_rfl) (by kernel_rfl) (fun _ _ _ h => h) (Or.inl ⟨by rfl, fun Xw hSW => by go_simp⟩) hHeld ?_
                      simp only [Act.put, List.setIfInBounds_toArray, List.set_cons_zero, List.set_cons_succ]
                      refine wpAnyH_take (i := 6) (oi := ⟨some 84, _, _, _, _, _⟩) (v := cutV g1 (N + 1) c1 i) rfl (by kernel_rfl) (by kernel_rfl) (by kernel_rfl) (fun _ _ _ h => h) (Or.inl ⟨by rfl, fun Xw hSW => by have q := run_cutS (g := g1) (n := N + 1) (c := c1) (k := i) Xw (by omega) HC1.out; go_simp⟩) hHeld ?_
                      simp only [Act.put, List.setIfInBounds_toArray, List.set_cons_zero, List.set_cons_succ]
                      refine wpAnyH_ready (rs := [7]) (by kernel_rfl) (by simp) ?_
                      refine AllReadyH.cons (o := ⟨some 85, _, _, _, _, _⟩) rfl (fun K hK => ?_) AllReadyH.nil
                      refine step_copyS (W := w8.drew) (n := N) (i := i) (g := g1) (c := c1) rfl (.tmp 81) (.tmp 84) rfl O8.out (by omega) (by rw [HK1.out.2]; rfl) rfl ?_
                      intro w9 ho9 hg9
                      have O9 := Lib.hid ho9
                      have F9 := Lib.hid (show Fr (fun k => k = g1) w8 w9 from (Fr.refl _ w8).drew.trans (Fr.grown (S := fun k => k = g1) (w := w8.drew) hg9 (fun k hk => (Option.some.inj hk).symm)) (fun k hk => .inl hk))
                      clear ho9 hg9
                      refine hK.out _ _ F9.out (fun hHeld => ?_)
                      clear hK K hHeld
                      refine wpAnyH_done (by kernel_rfl) ?_ _
                      refine NoPanic.normal ?_
                      have q9 := F9.out.blk Q8.out NQ.out
                      have d0 := q9.cell (i := 0) rfl
                      have d1 := q9.cell (i := 1) rfl
                      have d2 := q9.cell (i := 2) rfl
                      have ql := q9.lt
                      obtain ⟨⟨ux, uy, uz⟩, hu⟩ : ∃ u, (slid (l ++ [((0 : Int), (0 : Int), (0 : Int))]) N i)[i]? = some u := ⟨_, List.getElem?_eq_getElem (by rw [slid_len (by rw [List.length_append, HN.out]; rfl) (by omega)]; omega)⟩
                      have HU := Lib.hid hu
                      obtain ⟨u0, u1, u2⟩ := spot_at O9.out hu
                      have f0 := O9.out.frozen (i * 3)
                      have f1 := O9.out.frozen (i * 3 + 1)
                      have f2 := O9.out.frozen (i * 3 + 2)
                      have gl := own_at O9.out hu
                      simp only at u0 u1 u2
                      have B9 := Lib.hid (B8.out.trans (F9.out.toBelow B8.out.size (fun k hk => by
                        subst hk
                        exact (O8.out.ge k rfl).1)))
                      clear q9 hu
                      go_wp2_with fail
                      clear d0 d1 d2 ql u0 u1 u2 f0 f1 f2 gl
                      go_roundw
                      case rel =>
                        refine ⟨n + 1, _, by first | rfl | (congr 1; omega), by omega, rfl, ?_, ?_⟩
                        · rw [HST.out, ins_new (x, y, z) (i := i) (by rw [HN.out]; omega) HALL.out HNX.out, ← slid_set (z := ((0 : Int), (0 : Int), (0 : Int))) HN.out (by omega)]
                          exact (own_put (y := (x, y, z)) O9.out HU.out).1
                        · exact B9.out.grown (own_put (y := (x, y, z)) O9.out HU.out).2 B9.out.size (fun k hk => (O9.out.ge k hk).1)
                      case measure =>
                        simp only [intOf]
                        omega
                · obtain rfl : i = N := by omega
                  have hiI : ¬ (i : Int) < (i : Int) := by omega
                  have hd : decide ((i : Int) < (i : Int)) = false := decide_eq_false hiI
                  go_wp2_with fail
                  refine wp_region_noPanic ?_
                  refine wp_region_held_drew (S := fun W => Below wr.heap.size wr W) (by kernel_rfl) ((Below.refl _ wr).drew) (fun hHeld => ?_)
                  refine wpAnyH_take (i := 0) (oi := ⟨some 47, _, _, _, _, _⟩) (v := .int .i64 (i : Int)) rfl (by kernel_rfl) (by kernel_rfl) (by kernel_rfl) (fun _ _ _ h => h) (Or.inl ⟨by rfl, fun W hSW => by go_simp⟩) hHeld ?_
                  simp only [Act.put, List.setIfInBounds_toArray, List.set_cons_zero, List.set_cons_succ]
                  refine wpAnyH_take (i := 1) (oi := ⟨some 48, _, _, _, _, _⟩) (v := .slice AV i cp) rfl (by kernel_rfl) (by kernel_rfl) (by kernel_rfl) (fun _ _ _ h => h) (Or.inl ⟨by rfl, fun W hSW => by go_simp⟩) hHeld ?_
                  simp only [Act.put, List.setIfInBounds_toArray, List.set_cons_zero, List.set_cons_succ]
                  refine wpAnyH_take (i := 2) (oi := ⟨some 49, _, _, _, _, _⟩) (v := .int .i64 (i : Int)) rfl (by kernel_rfl) (by kernel_rfl) (by kernel_rfl) (fun _ _ _ h => h) (Or.inl ⟨by rfl, fun W hSW => by go_simp⟩) hHeld ?_
                  simp only [Act.put, List.setIfInBounds_toArray, List.set_cons_zero, List.set_cons_succ]
                  refine wpAnyH_take (i := 3) (oi := ⟨some 50, _, _, _, _, _⟩) (v := .bool false) rfl (by kernel_rfl) (by kernel_rfl) (by kernel_rfl) (fun _ _ _ h => h) (Or.inl ⟨by rfl, fun W hSW => by go_simp⟩) hHeld ?_
                  simp only [Act.put, List.setIfInBounds_toArray, List.set_cons_zero, List.set_cons_succ]
                  refine wpAnyH_take (i := 4) (oi := ⟨some 51, _, _, _, _, _⟩) (v := .bool false) rfl (by kernel_rfl) (by kernel_rfl) (by kernel_rfl) (fun _ _ _ h => h) (Or.inl ⟨by rfl, fun W hSW => by go_simp⟩) hHeld ?_
                  simp only [Act.put, List.setIfInBounds_toArray, List.set_cons_zero, List.set_cons_succ]
                  refine wpAnyH_take (i := 5) (oi := ⟨some 52, _, _, _, _, _⟩) (v := undef) rfl (by kernel_rfl) (by kernel_rfl) (by kernel_rfl) (fun _ _ _ h => h) (Or.inr ⟨by kernel_rfl, rfl⟩) hHeld ?_
                  simp only [Act.put, List.setIfInBounds_toArray, List.set_cons_zero, List.set_cons_succ]
                  refine wpAnyH_take (i := 6) (oi := ⟨some 53, _, _, _, _, _⟩) (v := undef) rfl (by kernel_rfl) (by kernel_rfl) (by kernel_rfl) (fun _ _ _ h => h) (Or.inr ⟨by kernel_rfl, rfl⟩) hHeld ?_
                  simp only [Act.put, List.setIfInBounds_toArray, List.set_cons_zero, List.set_cons_succ]
                  refine wpAnyH_take (i := 7) (oi := ⟨some 54, _, _, _, _, _⟩) (v := undef) rfl (by kernel_rfl) (by kernel_rfl) (by kernel_rfl) (fun _ _ _ h => h) (Or.inr ⟨by kernel_rfl, rfl⟩) hHeld ?_
                  simp only [Act.put, List.setIfInBounds_toArray, List.set_cons_zero, List.set_cons_succ]
                  refine wpAnyH_take (i := 8) (oi := ⟨some 55, _, _, _, _, _⟩) (v := undef) rfl (by kernel_rfl) (by kernel_rfl) (by kernel_rfl) (fun _ _ _ h => h) (Or.inr ⟨by kernel_rfl, rfl⟩) hHeld ?_
                  simp only [Act.put, List.setIfInBounds_toArray, List.set_cons_zero, List.set_cons_succ]
                  refine wpAnyH_take (i := 9) (oi := ⟨some 56, _, _, _, _, _⟩) (v := undef) rfl (by kernel_rfl) (by kernel_rfl) (by kernel_rfl) (fun _ _ _ h => h) (Or.inr ⟨by kernel_rfl, rfl⟩) hHeld ?_
                  simp only [Act.put, List.setIfInBounds_toArray, List.set_cons_zero, List.set_cons_succ]
                  refine wpAnyH_take (i := 10) (oi := ⟨some 57, _, _, _, _, _⟩) (v := undef) rfl (by kernel_rfl) (by kernel_rfl) (by kernel_rfl) (fun _ _ _ h => h) (Or.inr ⟨by kernel_rfl, rfl⟩) hHeld ?_
                  simp only [Act.put, List.setIfInBounds_toArray, List.set_cons_zero, List.set_cons_succ]
                  refine wpAnyH_take (i := 11) (oi := ⟨some 58, _, _, _, _, _⟩) (v := undef) rfl (by kernel_rfl) (by kernel_rfl) (by kernel_rfl) (fun _ _ _ h => h) (Or.inr ⟨by kernel_rfl, rfl⟩) hHeld ?_
                  simp only [Act.put, List.setIfInBounds_toArray, List.set_cons_zero, List.set_cons_succ]
                  refine wpAnyH_take (i := 12) (oi := ⟨some 59, _, _, _, _, _⟩) (v := .bool false) rfl (by kernel_rfl) (by kernel_rfl) (by kernel_rfl) (fun _ _ _ h => h) (Or.inl ⟨by rfl, fun W hSW => by go_simp⟩) hHeld ?_
                  simp only [Act.put, List.setIfInBounds_toArray, List.set_cons_zero, List.set_cons_succ]
                  refine wpAnyH_done (by kernel_rfl) ?_ _
                  refine NoPanic.normal ?_
                  obtain ⟨wx, hwx⟩ : ∃ wx, wx = wr := ⟨_, rfl⟩
                  subst hwx
                  have OX := Lib.hid O12.out
                  have QX := Lib.hid Q12.out
                  have BX := Lib.hid B12.out
                  have HNX := Lib.hid (show ∀ t, l[i]? = some t → ¬ ltS t (x, y, z) ∧ t ≠ (x, y, z) from fun t ht => by
                    rw [List.getElem?_eq_none (by rw [HN.out]; exact Nat.le_refl _)] at ht
                    cases ht)
                  clear hHeld d0 d1 d2 ql
                  go_wp2_with fail
                  go_quiet (fail)
                  go_wp2_with ((with_reducible refine at_slot 77 ?_); refine Classical.byContradiction (fun hG => ?_))
                  refine hG ?_
                  clear hG
                  refine list_named (S := fun W => ∃ W0, W = W0.alloc (.cells #[.int .i64 0, .int .i64 0, .int .i64 0] TS) ∧ Below wx.heap.size wx W0 ∧ W0.heap.size = wx.heap.size) ⟨_, rfl, by (repeat' (first | (with_reducible exact Below.refl _ _) | (with_reducible refine Below.setCell ?_ (by (first | omega | (simp; done) | (simp; omega))) _) | (with_reducible refine Below.alloc ?_ (by (first | omega | (simp; done) | (simp; omega))) _) | (with_reducible refine Below.drew ?_) | (with_reducible refine below_drewN ?_ _))), by first | rfl | (simp; done)⟩ ?_
                  rintro _ ⟨w7, rfl, hb7, e7⟩
                  have B7 := Lib.hid (below_t BX.out hb7)
                  have O7 := Lib.hid (OX.out.below hb7)
                  have Q7 := Lib.hid (QX.out.below hb7)
                  have hz7 := B7.out.size
                  clear hb7
                  refine wp_pushS (w0 := w7) rfl (.tmp 74) (.tmp 76) rfl (v := .slice AV i cp) (y := ((0 : Int), (0 : Int), (0 : Int))) (l := l) (n := i) rfl rfl rfl O7.out (by rw [e7]; rfl) HN.out (by omega) (by omega) ?_
                  rintro g1 c1 w8 ⟨ho8, hg8, hn8⟩
                  have O8 := Lib.hid ho8
                  have HC1 := Lib.hid (show i + 1 ≤ c1 from (own_parts ho8).2.2.1)
                  obtain ⟨k1, hk1⟩ : ∃ k1, i + 1 = k1 := ⟨_, rfl⟩
                  have HK1 := Lib.hid (show k1 ≤ i + 1 ∧ k1 = i + 1 by omega)
                  have HW1 := Lib.hid (show wrap64 ((i : Int) + 1) = (k1 : Int) by unfold wrap64; omega)
                  clear hk1
                  have B8 := Lib.hid (show Below w1.heap.size w1 w8 from B7.out.grown hg8 hz7 (fun k hk => (O7.out.ge k hk).1))
                  have NQ := Lib.hid (show q ≠ g1 from fun e => by
                    rcases hn8 with h | h
                    · exact VQ.out (h.trans (congrArg some e.symm))
                    · have := Q7.out.lt
                      omega)
                  have Q8 := Lib.hid (Q7.out.grown hg8 (fun e => VQ.out e.symm))
                  clear ho8 hg8 hn8
                  go_wp2_with fail
                  refine wp_region_noPanic ?_
                  refine wp_region_held_drew (S := fun Xw => Fr (fun k => k = g1) w8 Xw) (by kernel_rfl) ((Fr.refl _ w8).drew) (fun hHeld => ?_)
                  refine wpAnyH_take (i := 0) (oi := ⟨some 78, _, _, _, _, _⟩) (v := .slice (some ⟨g1, 0, none⟩) (i + 1) c1) rfl (by kernel_rfl) (by kernel_rfl) (by kernel_rfl) (fun _ _ _ h => h) (Or.inl ⟨by rfl, fun Xw hSW => by go_simp⟩) hHeld ?_
                  simp only [Act.put, List.setIfInBounds_toArray, List.set_cons_zero, List.set_cons_succ]
                  refine wpAnyH_take (i := 1) (oi := ⟨some 79, _, _, _, _, _⟩) (v := .int .i64 (i : Int)) rfl (by kernel_rfl) (by kernel_rfl) (by kernel_rfl) (fun _ _ _ h => h) (Or.inl ⟨by rfl, fun Xw hSW => by go_simp⟩) hHeld ?_
                  simp only [Act.put, List.setIfInBounds_toArray, List.set_cons_zero, List.set_cons_succ]
                  refine wpAnyH_take (i := 2) (oi := ⟨some 80, _, _, _, _, _⟩) (v := .int .i64 (k1 : Int)) rfl (by kernel_rfl) (by kernel_rfl) (by kernel_rfl) (fun _ _ _ h => h) (Or.inl ⟨by rfl, fun Xw hSW => by go_simp; rw [wI]; exact HW1.out⟩) hHeld ?_
                  simp only [Act.put, List.setIfInBounds_toArray, List.set_cons_zero, List.set_cons_succ]
                  refine wpAnyH_take (i := 3) (oi := ⟨some 81, _, _, _, _, _⟩) (v := cutV g1 (i + 1) c1 k1) rfl (by kernel_rfl) (by kernel_rfl) (by kernel_rfl) (fun _ _ _ h => h) (Or.inl ⟨by rfl, fun Xw hSW => by have q := run_cutS (g := g1) (n := i + 1) (c := c1) (k := k1) Xw HK1.out.1 HC1.out; go_simp⟩) hHeld ?_
                  simp only [Act.put, List.setIfInBounds_toArray, List.set_cons_zero, List.set_cons_succ]
                  refine wpAnyH_take (i := 4) (oi := ⟨some 82, _, _, _, _, _⟩) (v := .slice (some ⟨g1, 0, none⟩) (i + 1) c1) rfl (by kernel_rfl) (by kernel_rfl) (by kernel_rfl) (fun _ _ _ h => h) (Or.inl ⟨by rfl, fun Xw hSW => by go_simp⟩) hHeld ?_
                  simp only [Act.put, List.setIfInBounds_toArray, List.set_cons_zero, List.set_cons_succ]
                  refine wpAnyH_take (i := 5) (oi := ⟨some 83, _, _, _, _, _⟩) (v := .int .i64 (i : Int)) rfl (by kernel_rfl) (by kernel_rfl) (by kernel_rfl) (fun _ _ _ h => h) (Or.inl ⟨by rfl, fun Xw hSW => by go_simp⟩) hHeld ?_
                  simp only [Act.put, List.setIfInBounds_toArray, List.set_cons_zero, List.set_cons_succ]
                  refine wpAnyH_take (i := 6) (oi := ⟨some 84, _, _, _, _, _⟩) (v := cutV g1 (i + 1) c1 i) rfl (by kernel_rfl) (by kernel_rfl) (by kernel_rfl) (fun _ _ _ h => h) (Or.inl ⟨by rfl, fun Xw hSW => by have q := run_cutS (g := g1) (n := i + 1) (c := c1) (k := i) Xw (by omega) HC1.out; go_simp⟩) hHeld ?_
                  simp only [Act.put, List.setIfInBounds_toArray, List.set_cons_zero, List.set_cons_succ]
                  refine wpAnyH_ready (rs := [7]) (by kernel_rfl) (by simp) ?_
                  refine AllReadyH.cons (o := ⟨some 85, _, _, _, _, _⟩) rfl (fun K hK => ?_) AllReadyH.nil
                  refine step_copyS (W := w8.drew) (n := i) (i := i) (g := g1) (c := c1) rfl (.tmp 81) (.tmp 84) rfl O8.out (by omega) (by rw [HK1.out.2]; rfl) rfl ?_
                  intro w9 ho9 hg9
                  have O9 := Lib.hid ho9
                  have F9 := Lib.hid (show Fr (fun k => k = g1) w8 w9 from (Fr.refl _ w8).drew.trans (Fr.grown (S := fun k => k = g1) (w := w8.drew) hg9 (fun k hk => (Option.some.inj hk).symm)) (fun k hk => .inl hk))
                  clear ho9 hg9
                  refine hK.out _ _ F9.out (fun hHeld => ?_)
                  clear hK K hHeld
                  refine wpAnyH_done (by kernel_rfl) ?_ _
                  refine NoPanic.normal ?_
                  have q9 := F9.out.blk Q8.out NQ.out
                  have d0 := q9.cell (i := 0) rfl
                  have d1 := q9.cell (i := 1) rfl
                  have d2 := q9.cell (i := 2) rfl
                  have ql := q9.lt
                  obtain ⟨⟨ux, uy, uz⟩, hu⟩ : ∃ u, (slid (l ++ [((0 : Int), (0 : Int), (0 : Int))]) i i)[i]? = some u := ⟨_, List.getElem?_eq_getElem (by rw [slid_len (by rw [List.length_append, HN.out]; rfl) (by omega)]; omega)⟩
                  have HU := Lib.hid hu
                  obtain ⟨u0, u1, u2⟩ := spot_at O9.out hu
                  have f0 := O9.out.frozen (i * 3)
                  have f1 := O9.out.frozen (i * 3 + 1)
                  have f2 := O9.out.frozen (i * 3 + 2)
                  have gl := own_at O9.out hu
                  simp only at u0 u1 u2
                  have B9 := Lib.hid (B8.out.trans (F9.out.toBelow B8.out.size (fun k hk => by
                    subst hk
                    exact (O8.out.ge k rfl).1)))
                  clear q9 hu
                  go_wp2_with fail
                  clear d0 d1 d2 ql u0 u1 u2 f0 f1 f2 gl
                  go_roundw
                  case rel =>
                    refine ⟨n + 1, _, by first | rfl | (congr 1; omega), by omega, rfl, ?_, ?_⟩
                    · rw [HST.out, ins_new (x, y, z) (i := i) (by rw [HN.out]; omega) HALL.out HNX.out, ← slid_set (z := ((0 : Int), (0 : Int), (0 : Int))) HN.out (by omega)]
                      exact (own_put (y := (x, y, z)) O9.out HU.out).1
                    · exact B9.out.grown (own_put (y := (x, y, z)) O9.out HU.out).2 B9.out.size (fun k hk => (O9.out.ge k hk).1)
                  case measure =>
                    simp only [intOf]
                    omega
          · obtain rfl : n = 36 := by omega
            go_wp2_with fail
            go_roundw
            case rel => exact ⟨_, _, rfl, HOR.out, HBR.out, .inr (.inl ⟨rfl, by simp [rone, HO.out]⟩)⟩
            case measure =>
              simp only [intOf]
              omega
    · have HLE := Lib.hid (show (rone a b a []).length ≤ 72 by
        have h := rone_len (a := a) (b := b) (c := a) (l := [])
        simp only [List.length_nil] at h
        omega)
      have k := H1.out.below HBR.out
      have c3 := k.cell (i := 7) rfl
      have ml := k.lt
      cases ho : b.2 with
      | false =>
        rw [ho] at c3
        have HO := Lib.hid ho
        clear ho k
        go_wp2_with fail
        clear c3 ml
        go_roundw
        case rel => exact ⟨_, _, rfl, HOR.out, HBR.out, .inr (.inr ⟨rfl, by simp [rspots, rone, HO.out]⟩)⟩
        case measure =>
          simp only [intOf]
          omega
      | true =>
        rw [ho] at c3
        have HO := Lib.hid ho
        clear ho k
        go_wp2_with fail
        clear c3 ml
        go_loopw [3, 5] (fun v3 v5 wr => ∃ (n : Nat) (vr : Value), v5 = .int .i64 (n : Nat) ∧ n ≤ 36 ∧ vr = v3 ∧ RowG.Own encS TS wr w1.heap.size vr (racc a b b.1 (rone a b a []) n) ∧ Below w1.heap.size w1 wr) (fun _ v _ => 36 - (intOf v).toNat)
        case atStart => exact ⟨0, _, rfl, Nat.zero_le _, rfl, HOR.out, HBR.out⟩
        case round =>
          obtain ⟨n, vr, rfl, hn, rfl, ho, hbr⟩ := hrel
          have HOR := Lib.hid ho
          have HBR := Lib.hid hbr
          have hbz := hbr.size
          clear ho hbr
          by_cases hn36 : n < 36
          · have hnI : (n : Int) < 36 := by omega
            have hn1 : (n : Int) + 1 ≤ 36 := by omega
            obtain ⟨⟨x, y, z⟩, hc⟩ : ∃ q, rcand b.1 n = q := ⟨_, rfl⟩
            have HC := Lib.hid (rcand_q hc)
            obtain ⟨l, hl⟩ : ∃ l, racc a b b.1 (rone a b a []) n = l := ⟨_, rfl⟩
            have HST0 := Lib.hid (show racc a b b.1 (rone a b a []) (n + 1) = rstep a b (x, y, z) l by rw [racc, hc, hl])
            rw [hl] at HOR
            obtain ⟨N, hN⟩ : ∃ N, l.length = N := ⟨_, rfl⟩
            have HN := Lib.hid hN
            have HNL := Lib.hid (show N ≤ 200 by
              have h1 := racc_len (a := a) (b := b) (v := b.1) (l := rone a b a []) n
              have h2 := HLE.out
              rw [hl, hN] at h1
              omega)
            have hnl := HNL.out
            obtain ⟨AV, cp, rfl, _, _, hAA⟩ := own_len HOR.out hN
            have HAA := Lib.hid hAA
            have k := H1.out.below HBR.out
            have c0 := k.cell (i := 4) rfl
            have c2 := k.cell (i := 6) rfl
            have ml := k.lt
            obtain ⟨q, hq⟩ : ∃ q, wr.heap.size = q := ⟨_, rfl⟩
            clear hc hl hN hAA k
            go_wp2_with fail
            refine wp_region_noPanic ?_
            refine wp_region_held_drew (S := fun Xw => Below wr.heap.size wr Xw) (by kernel_rfl) ((Below.refl _ wr).drew) (fun hHeld => ?_)
            refine wpAnyH_take (i := 0) (oi := ⟨some 21, _, _, _, _, _⟩) (v := .int .i64 1) rfl (by kernel_rfl) (by kernel_rfl) (by kernel_rfl) (fun _ _ _ h => h) (Or.inl ⟨by rfl, fun Xw hSW => by go_simp⟩) hHeld ?_
            simp only [Act.put, List.setIfInBounds_toArray, List.set_cons_zero, List.set_cons_succ]
            refine wpAnyH_take (i := 1) (oi := ⟨some 22, _, _, _, _, _⟩) (v := .pointer (some ⟨s, 4, none⟩)) rfl (by kernel_rfl) (by kernel_rfl) (by kernel_rfl) (fun _ _ _ h => h) (Or.inl ⟨by rfl, fun Xw hSW => by go_simp⟩) hHeld ?_
            simp only [Act.put, List.setIfInBounds_toArray, List.set_cons_zero, List.set_cons_succ]
            refine wpAnyH_take (i := 2) (oi := ⟨some 23, _, _, _, _, _⟩) (v := .pointer (some ⟨s, 4, none⟩)) rfl (by kernel_rfl) (by kernel_rfl) (by kernel_rfl) (fun _ _ _ h => h) (Or.inl ⟨by rfl, fun Xw hSW => by go_simp⟩) hHeld ?_
            simp only [Act.put, List.setIfInBounds_toArray, List.set_cons_zero, List.set_cons_succ]
            refine wpAnyH_take (i := 3) (oi := ⟨some 24, _, _, _, _, _⟩) (v := .pointer (some ⟨s, 4, none⟩)) rfl (by kernel_rfl) (by kernel_rfl) (by kernel_rfl) (fun _ _ _ h => h) (Or.inl ⟨by rfl, fun Xw hSW => by go_simp⟩) hHeld ?_
            simp only [Act.put, List.setIfInBounds_toArray, List.set_cons_zero, List.set_cons_succ]
            refine wpAnyH_take (i := 4) (oi := ⟨some 25, _, _, _, _, _⟩) (v := .int .i64 b.1.1) rfl (by kernel_rfl) (by kernel_rfl) (by kernel_rfl) (fun _ _ _ h => h) (Or.inl ⟨by rfl, fun Xw hSW => by have q := (hSW.cell (p := ⟨s, 4, none⟩) ml).trans c0; go_simp⟩) hHeld ?_
            simp only [Act.put, List.setIfInBounds_toArray, List.set_cons_zero, List.set_cons_succ]
            refine wpAnyH_take (i := 5) (oi := ⟨some 26, _, _, _, _, _⟩) (v := .int .i64 (n : Int)) rfl (by kernel_rfl) (by kernel_rfl) (by kernel_rfl) (fun _ _ _ h => h) (Or.inl ⟨by rfl, fun Xw hSW => by go_simp⟩) hHeld ?_
            simp only [Act.put, List.setIfInBounds_toArray, List.set_cons_zero, List.set_cons_succ]
            refine wpAnyH_take (i := 6) (oi := ⟨some 27, _, _, _, _, _⟩) (v := .int .i64 ((n : Int) / 12)) rfl (by kernel_rfl) (by kernel_rfl) (by kernel_rfl) (fun _ _ _ h => h) (Or.inl ⟨by rfl, fun Xw hSW => by go_simp; exact BitsP.wrapI_small (by omega) (by omega)⟩) hHeld ?_
            simp only [Act.put, List.setIfInBounds_toArray, List.set_cons_zero, List.set_cons_succ]
            refine wpAnyH_take (i := 7) (oi := ⟨some 28, _, _, _, _, _⟩) (v := .int .i64 (wrap64 (b.1.1 + (n : Int) / 12))) rfl (by kernel_rfl) (by kernel_rfl) (by kernel_rfl) (fun _ _ _ h => h) (Or.inl ⟨by rfl, fun Xw hSW => by go_simp; exact wI _⟩) hHeld ?_
            simp only [Act.put, List.setIfInBounds_toArray, List.set_cons_zero, List.set_cons_succ]
            refine wpAnyH_take (i := 8) (oi := ⟨some 29, _, _, _, _, _⟩) (v := .int .i64 x) rfl (by kernel_rfl) (by kernel_rfl) (by kernel_rfl) (fun _ _ _ h => h) (Or.inl ⟨by rfl, fun Xw hSW => by go_simp; rw [wI]; exact HC.out.1⟩) hHeld ?_
            simp only [Act.put, List.setIfInBounds_toArray, List.set_cons_zero, List.set_cons_succ]
            refine wpAnyH_take (i := 9) (oi := ⟨some 30, _, _, _, _, _⟩) (v := .int .i64 (n : Int)) rfl (by kernel_rfl) (by kernel_rfl) (by kernel_rfl) (fun _ _ _ h => h) (Or.inl ⟨by rfl, fun Xw hSW => by go_simp⟩) hHeld ?_
            simp only [Act.put, List.setIfInBounds_toArray, List.set_cons_zero, List.set_cons_succ]
            refine wpAnyH_take (i := 10) (oi := ⟨some 31, _, _, _, _, _⟩) (v := .int .i64 y) rfl (by kernel_rfl) (by kernel_rfl) (by kernel_rfl) (fun _ _ _ h => h) (Or.inl ⟨by rfl, fun Xw hSW => by go_simp; rw [Int.tmod_eq_emod_of_nonneg (by omega)]; exact HC.out.2.1⟩) hHeld ?_
            simp only [Act.put, List.setIfInBounds_toArray, List.set_cons_zero, List.set_cons_succ]
            refine wpAnyH_take (i := 11) (oi := ⟨some 32, _, _, _, _, _⟩) (v := .int .i64 1) rfl (by kernel_rfl) (by kernel_rfl) (by kernel_rfl) (fun _ _ _ h => h) (Or.inl ⟨by rfl, fun Xw hSW => by go_simp⟩) hHeld ?_
            simp only [Act.put, List.setIfInBounds_toArray, List.set_cons_zero, List.set_cons_succ]
            refine wpAnyH_take (i := 12) (oi := ⟨some 33, _, _, _, _, _⟩) (v := .pointer (some ⟨s, 4, none⟩)) rfl (by kernel_rfl) (by kernel_rfl) (by kernel_rfl) (fun _ _ _ h => h) (Or.inl ⟨by rfl, fun Xw hSW => by go_simp⟩) hHeld ?_
            simp only [Act.put, List.setIfInBounds_toArray, List.set_cons_zero, List.set_cons_succ]
            refine wpAnyH_take (i := 13) (oi := ⟨some 34, _, _, _, _, _⟩) (v := .pointer (some ⟨s, 4, none⟩)) rfl (by kernel_rfl) (by kernel_rfl) (by kernel_rfl) (fun _ _ _ h => h) (Or.inl ⟨by rfl, fun Xw hSW => by go_simp⟩) hHeld ?_
            simp only [Act.put, List.setIfInBounds_toArray, List.set_cons_zero, List.set_cons_succ]
            refine wpAnyH_take (i := 14) (oi := ⟨some 35, _, _, _, _, _⟩) (v := .pointer (some ⟨s, 6, none⟩)) rfl (by kernel_rfl) (by kernel_rfl) (by kernel_rfl) (fun _ _ _ h => h) (Or.inl ⟨by rfl, fun Xw hSW => by go_simp⟩) hHeld ?_
            simp only [Act.put, List.setIfInBounds_toArray, List.set_cons_zero, List.set_cons_succ]
            refine wpAnyH_take (i := 15) (oi := ⟨some 36, _, _, _, _, _⟩) (v := .int .i64 b.1.2.2) rfl (by kernel_rfl) (by kernel_rfl) (by kernel_rfl) (fun _ _ _ h => h) (Or.inl ⟨by rfl, fun Xw hSW => by have q := (hSW.cell (p := ⟨s, 6, none⟩) ml).trans c2; go_simp⟩) hHeld ?_
            simp only [Act.put, List.setIfInBounds_toArray, List.set_cons_zero, List.set_cons_succ]
            refine wpAnyH_take (i := 16) (oi := ⟨some 37, _, _, _, _, _⟩) (v := .int .i64 (n : Int)) rfl (by kernel_rfl) (by kernel_rfl) (by kernel_rfl) (fun _ _ _ h => h) (Or.inl ⟨by rfl, fun Xw hSW => by go_simp⟩) hHeld ?_
            simp only [Act.put, List.setIfInBounds_toArray, List.set_cons_zero, List.set_cons_succ]
            refine wpAnyH_take (i := 17) (oi := ⟨some 38, _, _, _, _, _⟩) (v := .int .i64 ((n : Int) / 4)) rfl (by kernel_rfl) (by kernel_rfl) (by kernel_rfl) (fun _ _ _ h => h) (Or.inl ⟨by rfl, fun Xw hSW => by go_simp; exact BitsP.wrapI_small (by omega) (by omega)⟩) hHeld ?_
            simp only [Act.put, List.setIfInBounds_toArray, List.set_cons_zero, List.set_cons_succ]
            refine wpAnyH_take (i := 18) (oi := ⟨some 39, _, _, _, _, _⟩) (v := .int .i64 ((n : Int) / 4 % 3)) rfl (by kernel_rfl) (by kernel_rfl) (by kernel_rfl) (fun _ _ _ h => h) (Or.inl ⟨by rfl, fun Xw hSW => by go_simp; exact Int.tmod_eq_emod_of_nonneg (by omega)⟩) hHeld ?_
            simp only [Act.put, List.setIfInBounds_toArray, List.set_cons_zero, List.set_cons_succ]
            refine wpAnyH_take (i := 19) (oi := ⟨some 40, _, _, _, _, _⟩) (v := .int .i64 (wrap64 (b.1.2.2 + (n : Int) / 4 % 3))) rfl (by kernel_rfl) (by kernel_rfl) (by kernel_rfl) (fun _ _ _ h => h) (Or.inl ⟨by rfl, fun Xw hSW => by go_simp; exact wI _⟩) hHeld ?_
            simp only [Act.put, List.setIfInBounds_toArray, List.set_cons_zero, List.set_cons_succ]
            refine wpAnyH_take (i := 20) (oi := ⟨some 41, _, _, _, _, _⟩) (v := .int .i64 z) rfl (by kernel_rfl) (by kernel_rfl) (by kernel_rfl) (fun _ _ _ h => h) (Or.inl ⟨by rfl, fun Xw hSW => by go_simp; rw [wI]; exact HC.out.2.2⟩) hHeld ?_
            simp only [Act.put, List.setIfInBounds_toArray, List.set_cons_zero, List.set_cons_succ]
            refine wpAnyH_take (i := 21) (oi := ⟨some 42, _, _, _, _, _⟩) (v := .agg #[.int .i64 x, .int .i64 y, .int .i64 z]) rfl (by kernel_rfl) (by kernel_rfl) (by kernel_rfl) (fun _ _ _ h => h) (Or.inl ⟨by rfl, fun Xw hSW => by go_simp⟩) hHeld ?_
            simp only [Act.put, List.setIfInBounds_toArray, List.set_cons_zero, List.set_cons_succ]
            refine wpAnyH_ready (rs := [22]) (by kernel_rfl) (by simp) ?_
            refine AllReadyH.cons (o := ⟨some 6, _, _, _, _, _⟩) rfl (fun K hK => ?_) AllReadyH.nil
            go_simp
            refine hK.out _ _ (by (repeat' (first | (with_reducible exact Below.refl _ _) | (with_reducible refine Below.setCell ?_ (by (first | omega | (simp; done) | (simp; omega))) _) | (with_reducible refine Below.alloc ?_ (by (first | omega | (simp; done) | (simp; omega))) _) | (with_reducible refine Below.drew ?_) | (with_reducible refine below_drewN ?_ _) | (with_reducible refine Below.trans ?_ (Below.mono hHeld (by (first | omega | (simp; done) | (simp; omega)))))))) (fun hHeld => ?_)
            clear hK K
            refine wpAnyH_ready (rs := [23]) (by kernel_rfl) (by simp) ?_
            refine AllReadyH.cons (o := ⟨none, _, _, _, _, _⟩) rfl (fun K hK => ?_) AllReadyH.nil
            go_simp
            refine hK.out _ _ (by (repeat' (first | (with_reducible exact Below.refl _ _) | (with_reducible refine Below.setCell ?_ (by (first | omega | (simp; done) | (simp; omega))) _) | (with_reducible refine Below.alloc ?_ (by (first | omega | (simp; done) | (simp; omega))) _) | (with_reducible refine Below.drew ?_) | (with_reducible refine below_drewN ?_ _) | (with_reducible refine Below.trans ?_ (Below.mono hHeld (by (first | omega | (simp; done) | (simp; omega)))))))) (fun hHeld => ?_)
            clear hK K
            refine wpAnyH_done (by kernel_rfl) ?_ _
            refine NoPanic.normal ?_
            refine HeldP.then_named (S := fun W => Below wr.heap.size wr W ∧ Blk W q TS [.int .i64 x, .int .i64 y, .int .i64 z]) ⟨hHeld, by subst hq; (repeat' (first | (with_reducible refine BlkP.Blk.drew ?_) | (with_reducible refine BlkP.Blk.drewN ?_ _) | (with_reducible refine BlkP.Blk.setAt (us := ?_) (by first | omega | (simp; done) | (simp; omega)) rfl ?_ ?_) | (with_reducible refine BlkP.Blk.otherAt ?_ (by first | omega | (simp; done) | (simp; omega))) | (with_reducible refine BlkP.Blk.newA' (by first | omega | (simp; done) | (simp; omega)) rfl) | (with_reducible refine BlkP.Blk.alloc ?_ _) | (exact rfl)))⟩ ?_
            try rw [hq]
            clear hHeld
            rintro w5 ⟨hb5, hq5⟩
            try rw [← hq] at hb5
            have k := H1.out.below (below_t HBR.out hb5)
            have k0 := k.cell (i := 0) rfl
            have k1 := k.cell (i := 1) rfl
            have k2 := k.cell (i := 2) rfl
            have k3 := k.cell (i := 3) rfl
            have k4 := k.cell (i := 4) rfl
            have k5 := k.cell (i := 5) rfl
            have k6 := k.cell (i := 6) rfl
            have k7 := k.cell (i := 7) rfl
            have kl := k.lt
            have e0 := hq5.cell (i := 0) rfl
            have e1 := hq5.cell (i := 1) rfl
            have e2 := hq5.cell (i := 2) rfl
            have el := hq5.lt
            have B5 := Lib.hid (below_t HBR.out hb5)
            have O5 := Lib.hid (HOR.out.below hb5)
            have Q5 := Lib.hid hq5
            have VQ := Lib.hid (show (Value.slice AV N cp).ownBlock ≠ some q from fun e => by
              have := (HOR.out.ge q e).2
              omega)
            clear hb5 hq5 c0 c2 ml k
            cases hr : inL a b (x, y, z) with
            | false =>
              have HIN := Lib.hid hr
              clear hr
              go_wp2_with fail
              refine (rIn_c HIA.out HIB.out HIN.out).mono ?_
              rintro e w6 ⟨rfl, hb6⟩
              have HB6 := Lib.hid hb6
              clear hb6 k0 k1 k2 k3 k4 k5 k6 k7 kl e0 e1 e2 el
              go_wp2_with fail
              go_roundw
              case rel =>
                refine ⟨n + 1, _, by first | rfl | (congr 1; omega), by omega, rfl, ?_, below_t B5.out HB6.out⟩
                rw [HST0.out, rstep, HIN.out]
                exact O5.out.below HB6.out
              case measure =>
                simp only [intOf]
                omega
            | true =>
              have HIN := Lib.hid hr
              have HST := Lib.hid (show racc a b b.1 (rone a b a []) (n + 1) = insS (x, y, z) l by rw [HST0.out, rstep, hr]; rfl)
              clear hr
              go_wp2_with fail
              refine (rIn_c HIA.out HIB.out HIN.out).mono ?_
              rintro e w6 ⟨rfl, hb6⟩
              have B6 := Lib.hid (below_t B5.out hb6)
              have O6 := Lib.hid (O5.out.below hb6)
              have Q6 := Lib.hid (Q5.out.below hb6)
              clear hb6 k0 k1 k2 k3 k4 k5 k6 k7 kl e0 e1 e2 el
              go_wp2_with fail
              go_loopw [7] (fun v7 wx => ∃ i : Nat, v7 = .int .i64 (i : Nat) ∧ i ≤ N ∧ (∀ j t, j < i → l[j]? = some t → ltS t (x, y, z)) ∧ Below w6.heap.size w6 wx) (fun v _ => 300 - (intOf v).toNat)
              case atStart => exact ⟨0, rfl, Nat.zero_le _, fun j t h => by omega, Below.refl _ _⟩
              case round =>
                obtain ⟨i, rfl, hi, hall, hbx⟩ := hrel
                have HALL := Lib.hid hall
                have HBX0 := Lib.hid hbx
                have O12 := Lib.hid (O6.out.below hbx)
                have q12 := Q6.out.below hbx
                have Q12 := Lib.hid q12
                have B12 := Lib.hid (below_t B6.out hbx)
                have HI := Lib.hid hi
                have d0 := q12.cell (i := 0) rfl
                have d1 := q12.cell (i := 1) rfl
                have d2 := q12.cell (i := 2) rfl
                have ql := q12.lt
                clear hall hbx q12
                by_cases hin : i < N
                · have hiI : (i : Int) < (N : Int) := by omega
                  have hd : decide ((i : Int) < (N : Int)) = true := decide_eq_true hiI
                  obtain ⟨g, rfl, _, _⟩ := HAA.out (by omega)
                  obtain ⟨⟨tx, ty, tz⟩, ht⟩ : ∃ t, l[i]? = some t := ⟨_, List.getElem?_eq_getElem (by rw [HN.out]; exact hin)⟩
                  have HT := Lib.hid ht
                  obtain ⟨m, hm⟩ : ∃ m, PlaceW.cmpOf tx ty tz x y z = m := ⟨_, rfl⟩
                  have HCM := Lib.hid hm
                  have HLT := Lib.hid (cmp_lt (p := (tx, ty, tz)) (q := (x, y, z)) hm)
                  obtain ⟨t0, t1, t2⟩ := spot_at O12.out ht
                  have gl := own_at O12.out ht
                  simp only at t0 t1 t2
                  clear ht hm
                  by_cases hm0 : m < 0
                  · have hmd : decide (m < 0) = true := decide_eq_true hm0
                    go_wp2_with fail
                    refine wp_region_noPanic ?_
                    refine wp_region_held_drew (S := fun W => Below wr.heap.size wr W) (by kernel_rfl) ((Below.refl _ wr).drew) (fun hHeld => ?_)
                    refine wpAnyH_take (i := 0) (oi := ⟨some 47, _, _, _, _, _⟩) (v := .int .i64 (i : Int)) rfl (by kernel_rfl) (by kernel_rfl) (by kernel_rfl) (fun _ _ _ h => h) (Or.inl ⟨by rfl, fun W hSW => by go_simp⟩) hHeld ?_
                    simp only [Act.put, List.setIfInBounds_toArray, List.set_cons_zero, List.set_cons_succ]
                    refine wpAnyH_take (i := 1) (oi := ⟨some 48, _, _, _, _, _⟩) (v := .slice (some ⟨g, 0, none⟩) N cp) rfl (by kernel_rfl) (by kernel_rfl) (by kernel_rfl) (fun _ _ _ h => h) (Or.inl ⟨by rfl, fun W hSW => by go_simp⟩) hHeld ?_
                    simp only [Act.put, List.setIfInBounds_toArray, List.set_cons_zero, List.set_cons_succ]
                    refine wpAnyH_take (i := 2) (oi := ⟨some 49, _, _, _, _, _⟩) (v := .int .i64 (N : Int)) rfl (by kernel_rfl) (by kernel_rfl) (by kernel_rfl) (fun _ _ _ h => h) (Or.inl ⟨by rfl, fun W hSW => by go_simp⟩) hHeld ?_
                    simp only [Act.put, List.setIfInBounds_toArray, List.set_cons_zero, List.set_cons_succ]
                    refine wpAnyH_take (i := 3) (oi := ⟨some 50, _, _, _, _, _⟩) (v := .bool true) rfl (by kernel_rfl) (by kernel_rfl) (by kernel_rfl) (fun _ _ _ h => h) (Or.inl ⟨by rfl, fun W hSW => by go_simp⟩) hHeld ?_
                    simp only [Act.put, List.setIfInBounds_toArray, List.set_cons_zero, List.set_cons_succ]
                    refine wpAnyH_take (i := 4) (oi := ⟨some 51, _, _, _, _, _⟩) (v := .bool true) rfl (by kernel_rfl) (by kernel_rfl) (by kernel_rfl) (fun _ _ _ h => h) (Or.inl ⟨by rfl, fun W hSW => by go_simp⟩) hHeld ?_
                    simp only [Act.put, List.setIfInBounds_toArray, List.set_cons_zero, List.set_cons_succ]
                    refine wpAnyH_take (i := 5) (oi := ⟨some 52, _, _, _, _, _⟩) (v := .slice (some ⟨g, 0, none⟩) N cp) rfl (by kernel_rfl) (by kernel_rfl) (by kernel_rfl) (fun _ _ _ h => h) (Or.inl ⟨by rfl, fun W hSW => by go_simp⟩) hHeld ?_
                    simp only [Act.put, List.setIfInBounds_toArray, List.set_cons_zero, List.set_cons_succ]
                    refine wpAnyH_take (i := 6) (oi := ⟨some 53, _, _, _, _, _⟩) (v := .int .i64 (i : Int)) rfl (by kernel_rfl) (by kernel_rfl) (by kernel_rfl) (fun _ _ _ h => h) (Or.inl ⟨by rfl, fun W hSW => by go_simp⟩) hHeld ?_
                    simp only [Act.put, List.setIfInBounds_toArray, List.set_cons_zero, List.set_cons_succ]
                    refine wpAnyH_take (i := 7) (oi := ⟨some 54, _, _, _, _, _⟩) (v := .pointer (some ⟨g, i * 3, none⟩)) rfl (by kernel_rfl) (by kernel_rfl) (by kernel_rfl) (fun _ _ _ h => h) (Or.inl ⟨by rfl, fun W hSW => by go_simp⟩) hHeld ?_
                    simp only [Act.put, List.setIfInBounds_toArray, List.set_cons_zero, List.set_cons_succ]
                    refine wpAnyH_take (i := 8) (oi := ⟨some 55, _, _, _, _, _⟩) (v := .agg #[.int .i64 tx, .int .i64 ty, .int .i64 tz]) rfl (by kernel_rfl) (by kernel_rfl) (by kernel_rfl) (fun _ _ _ h => h) (Or.inl ⟨by rfl, fun W hSW => by have a0 := (hSW.cell (p := ⟨g, i * 3, none⟩) gl).trans t0; have a1 := (hSW.cell (p := ⟨g, i * 3 + 1, none⟩) gl).trans t1; have a2 := (hSW.cell (p := ⟨g, i * 3 + 2, none⟩) gl).trans t2; go_simp⟩) hHeld ?_
                    simp only [Act.put, List.setIfInBounds_toArray, List.set_cons_zero, List.set_cons_succ]
                    refine wpAnyH_take (i := 9) (oi := ⟨some 56, _, _, _, _, _⟩) (v := .agg #[.int .i64 x, .int .i64 y, .int .i64 z]) rfl (by kernel_rfl) (by kernel_rfl) (by kernel_rfl) (fun _ _ _ h => h) (Or.inl ⟨by rfl, fun W hSW => by have a0 := (hSW.cell (p := ⟨q, 0, none⟩) ql).trans d0; have a1 := (hSW.cell (p := ⟨q, 1, none⟩) ql).trans d1; have a2 := (hSW.cell (p := ⟨q, 2, none⟩) ql).trans d2; go_simp⟩) hHeld ?_
                    simp only [Act.put, List.setIfInBounds_toArray, List.set_cons_zero, List.set_cons_succ]
                    refine wpAnyH_ready (rs := [10]) (by kernel_rfl) (by simp) ?_
                    refine AllReadyH.cons (o := ⟨some 57, _, _, _, _, _⟩) rfl (fun K hK => ?_) AllReadyH.nil
                    go_simp
                    refine (PlaceW.r_cmpSpot_c HCM.out _).mono ?_
                    rintro e w10 ⟨rfl, hb10⟩
                    refine hK.out _ _ (below_t hHeld hb10) (fun hHeld => ?_)
                    clear hK K hb10
                    refine wpAnyH_take (i := 11) (oi := ⟨some 58, _, _, _, _, _⟩) (v := .bool true) rfl (by kernel_rfl) (by kernel_rfl) (by kernel_rfl) (fun _ _ _ h => h) (Or.inl ⟨by rfl, fun W hSW => by go_simp⟩) hHeld ?_
                    simp only [Act.put, List.setIfInBounds_toArray, List.set_cons_zero, List.set_cons_succ]
                    refine wpAnyH_take (i := 12) (oi := ⟨some 59, _, _, _, _, _⟩) (v := .bool true) rfl (by kernel_rfl) (by kernel_rfl) (by kernel_rfl) (fun _ _ _ h => h) (Or.inl ⟨by rfl, fun W hSW => by go_simp⟩) hHeld ?_
                    simp only [Act.put, List.setIfInBounds_toArray, List.set_cons_zero, List.set_cons_succ]
                    refine wpAnyH_done (by kernel_rfl) ?_ _
                    refine NoPanic.normal ?_
                    have HHE := Lib.hid hHeld
                    clear hHeld t0 t1 t2 gl d0 d1 d2 ql
                    go_wp2_with fail
                    go_roundw
                    case rel =>
                      refine ⟨i + 1, by first | rfl | (congr 1; omega), by omega, fun j t hj ht => ?_, ?_⟩
                      · by_cases e : j = i
                        · subst e
                          have e2 : (tx, ty, tz) = t := Option.some.inj (HT.out.symm.trans ht)
                          rw [← e2]
                          exact HLT.out.1 (by omega)
                        · exact HALL.out j t (by omega) ht
                      · exact below_t HBX0.out HHE.out
                    case measure =>
                      simp only [intOf]
                      omega
                  · have hmd : decide (m < 0) = false := decide_eq_false hm0
                    go_wp2_with fail
                    refine wp_region_noPanic ?_
                    refine wp_region_held_drew (S := fun W => Below wr.heap.size wr W) (by kernel_rfl) ((Below.refl _ wr).drew) (fun hHeld => ?_)
                    refine wpAnyH_take (i := 0) (oi := ⟨some 47, _, _, _, _, _⟩) (v := .int .i64 (i : Int)) rfl (by kernel_rfl) (by kernel_rfl) (by kernel_rfl) (fun _ _ _ h => h) (Or.inl ⟨by rfl, fun W hSW => by go_simp⟩) hHeld ?_
                    simp only [Act.put, List.setIfInBounds_toArray, List.set_cons_zero, List.set_cons_succ]
                    refine wpAnyH_take (i := 1) (oi := ⟨some 48, _, _, _, _, _⟩) (v := .slice (some ⟨g, 0, none⟩) N cp) rfl (by kernel_rfl) (by kernel_rfl) (by kernel_rfl) (fun _ _ _ h => h) (Or.inl ⟨by rfl, fun W hSW => by go_simp⟩) hHeld ?_
                    simp only [Act.put, List.setIfInBounds_toArray, List.set_cons_zero, List.set_cons_succ]
                    refine wpAnyH_take (i := 2) (oi := ⟨some 49, _, _, _, _, _⟩) (v := .int .i64 (N : Int)) rfl (by kernel_rfl) (by kernel_rfl) (by kernel_rfl) (fun _ _ _ h => h) (Or.inl ⟨by rfl, fun W hSW => by go_simp⟩) hHeld ?_
                    simp only [Act.put, List.setIfInBounds_toArray, List.set_cons_zero, List.set_cons_succ]
                    refine wpAnyH_take (i := 3) (oi := ⟨some 50, _, _, _, _, _⟩) (v := .bool true) rfl (by kernel_rfl) (by kernel_rfl) (by kernel_rfl) (fun _ _ _ h => h) (Or.inl ⟨by rfl, fun W hSW => by go_simp⟩) hHeld ?_
                    simp only [Act.put, List.setIfInBounds_toArray, List.set_cons_zero, List.set_cons_succ]
                    refine wpAnyH_take (i := 4) (oi := ⟨some 51, _, _, _, _, _⟩) (v := .bool true) rfl (by kernel_rfl) (by kernel_rfl) (by kernel_rfl) (fun _ _ _ h => h) (Or.inl ⟨by rfl, fun W hSW => by go_simp⟩) hHeld ?_
                    simp only [Act.put, List.setIfInBounds_toArray, List.set_cons_zero, List.set_cons_succ]
                    refine wpAnyH_take (i := 5) (oi := ⟨some 52, _, _, _, _, _⟩) (v := .slice (some ⟨g, 0, none⟩) N cp) rfl (by kernel_rfl) (by kernel_rfl) (by kernel_rfl) (fun _ _ _ h => h) (Or.inl ⟨by rfl, fun W hSW => by go_simp⟩) hHeld ?_
                    simp only [Act.put, List.setIfInBounds_toArray, List.set_cons_zero, List.set_cons_succ]
                    refine wpAnyH_take (i := 6) (oi := ⟨some 53, _, _, _, _, _⟩) (v := .int .i64 (i : Int)) rfl (by kernel_rfl) (by kernel_rfl) (by kernel_rfl) (fun _ _ _ h => h) (Or.inl ⟨by rfl, fun W hSW => by go_simp⟩) hHeld ?_
                    simp only [Act.put, List.setIfInBounds_toArray, List.set_cons_zero, List.set_cons_succ]
                    refine wpAnyH_take (i := 7) (oi := ⟨some 54, _, _, _, _, _⟩) (v := .pointer (some ⟨g, i * 3, none⟩)) rfl (by kernel_rfl) (by kernel_rfl) (by kernel_rfl) (fun _ _ _ h => h) (Or.inl ⟨by rfl, fun W hSW => by go_simp⟩) hHeld ?_
                    simp only [Act.put, List.setIfInBounds_toArray, List.set_cons_zero, List.set_cons_succ]
                    refine wpAnyH_take (i := 8) (oi := ⟨some 55, _, _, _, _, _⟩) (v := .agg #[.int .i64 tx, .int .i64 ty, .int .i64 tz]) rfl (by kernel_rfl) (by kernel_rfl) (by kernel_rfl) (fun _ _ _ h => h) (Or.inl ⟨by rfl, fun W hSW => by have a0 := (hSW.cell (p := ⟨g, i * 3, none⟩) gl).trans t0; have a1 := (hSW.cell (p := ⟨g, i * 3 + 1, none⟩) gl).trans t1; have a2 := (hSW.cell (p := ⟨g, i * 3 + 2, none⟩) gl).trans t2; go_simp⟩) hHeld ?_
                    simp only [Act.put, List.setIfInBounds_toArray, List.set_cons_zero, List.set_cons_succ]
                    refine wpAnyH_take (i := 9) (oi := ⟨some 56, _, _, _, _, _⟩) (v := .agg #[.int .i64 x, .int .i64 y, .int .i64 z]) rfl (by kernel_rfl) (by kernel_rfl) (by kernel_rfl) (fun _ _ _ h => h) (Or.inl ⟨by rfl, fun W hSW => by have a0 := (hSW.cell (p := ⟨q, 0, none⟩) ql).trans d0; have a1 := (hSW.cell (p := ⟨q, 1, none⟩) ql).trans d1; have a2 := (hSW.cell (p := ⟨q, 2, none⟩) ql).trans d2; go_simp⟩) hHeld ?_
                    simp only [Act.put, List.setIfInBounds_toArray, List.set_cons_zero, List.set_cons_succ]
                    refine wpAnyH_ready (rs := [10]) (by kernel_rfl) (by simp) ?_
                    refine AllReadyH.cons (o := ⟨some 57, _, _, _, _, _⟩) rfl (fun K hK => ?_) AllReadyH.nil
                    go_simp
                    refine (PlaceW.r_cmpSpot_c HCM.out _).mono ?_
                    rintro e w10 ⟨rfl, hb10⟩
                    refine hK.out _ _ (below_t hHeld hb10) (fun hHeld => ?_)
                    clear hK K hb10
                    refine wpAnyH_take (i := 11) (oi := ⟨some 58, _, _, _, _, _⟩) (v := .bool false) rfl (by kernel_rfl) (by kernel_rfl) (by kernel_rfl) (fun _ _ _ h => h) (Or.inl ⟨by rfl, fun W hSW => by go_simp⟩) hHeld ?_
                    simp only [Act.put, List.setIfInBounds_toArray, List.set_cons_zero, List.set_cons_succ]
                    refine wpAnyH_take (i := 12) (oi := ⟨some 59, _, _, _, _, _⟩) (v := .bool false) rfl (by kernel_rfl) (by kernel_rfl) (by kernel_rfl) (fun _ _ _ h => h) (Or.inl ⟨by rfl, fun W hSW => by go_simp⟩) hHeld ?_
                    simp only [Act.put, List.setIfInBounds_toArray, List.set_cons_zero, List.set_cons_succ]
                    refine wpAnyH_done (by kernel_rfl) ?_ _
                    refine NoPanic.normal ?_
                    have HHE := Lib.hid hHeld
                    obtain ⟨wx, hwx⟩ : ∃ wx, wx = w10 := ⟨_, rfl⟩
                    subst hwx
                    have OX := Lib.hid (O12.out.below HHE.out)
                    have QX := Lib.hid (Q12.out.below HHE.out)
                    have BX := Lib.hid (below_t B12.out HHE.out)
                    clear hHeld t0 t1 t2 gl d0 d1 d2 ql
                    obtain ⟨t0, t1, t2⟩ := spot_at OX.out HT.out
                    have gl := own_at OX.out HT.out
                    have d0 := QX.out.cell (i := 0) rfl
                    have d1 := QX.out.cell (i := 1) rfl
                    have d2 := QX.out.cell (i := 2) rfl
                    have ql := QX.out.lt
                    simp only at t0 t1 t2
                    by_cases he : (tx, ty, tz) = (x, y, z)
                    · have qe : ∀ w, (binOp .eql TS (.agg #[.int .i64 tx, .int .i64 ty, .int .i64 tz]) (.agg #[.int .i64 x, .int .i64 y, .int .i64 z])).run Try.prog w = .ok (.bool true) w := fun w => run_eqS w (tx, ty, tz) (x, y, z) (decide_eq_true he)
                      have HE := Lib.hid he
                      clear he
                      go_wp2_with fail
                      go_quiet (fail)
                      go_wp2_with fail
                      go_roundw
                      case rel =>
                        refine ⟨n + 1, _, by first | rfl | (congr 1; omega), by omega, rfl, ?_, by (repeat' (first | (with_reducible exact Below.refl _ _) | (with_reducible refine Below.setCell ?_ (by (first | omega | (simp; done) | (simp; omega))) _) | (with_reducible refine Below.alloc ?_ (by (first | omega | (simp; done) | (simp; omega))) _) | (with_reducible refine Below.drew ?_) | (with_reducible refine below_drewN ?_ _) | (with_reducible refine Below.trans ?_ (Below.mono BX.out (by (first | omega | (simp; done) | (simp; omega)))))))⟩
                        rw [HST.out, ins_there (x, y, z) (i := i) (by rw [HN.out]; omega) HALL.out (HE.out ▸ HT.out)]
                        exact OX.out.below (by (repeat' (first | (with_reducible exact Below.refl _ _) | (with_reducible refine Below.setCell ?_ (by (first | omega | (simp; done) | (simp; omega))) _) | (with_reducible refine Below.alloc ?_ (by (first | omega | (simp; done) | (simp; omega))) _) | (with_reducible refine Below.drew ?_) | (with_reducible refine below_drewN ?_ _))))
                      case measure =>
                        simp only [intOf]
                        omega
                    · have qe : ∀ w, (binOp .eql TS (.agg #[.int .i64 tx, .int .i64 ty, .int .i64 tz]) (.agg #[.int .i64 x, .int .i64 y, .int .i64 z])).run Try.prog w = .ok (.bool false) w := fun w => run_eqS w (tx, ty, tz) (x, y, z) (decide_eq_false he)
                      have HNX := Lib.hid (show ∀ t, l[i]? = some t → ¬ ltS t (x, y, z) ∧ t ≠ (x, y, z) from fun t ht => by
                        have e2 : (tx, ty, tz) = t := Option.some.inj (HT.out.symm.trans ht)
                        rw [← e2]
                        exact ⟨fun h => by have := HLT.out.2 h; omega, he⟩)
                      clear he
                      go_wp2_with fail
                      go_quiet (fail)
                      clear t0 t1 t2 gl d0 d1 d2 ql qe
                      go_wp2_with ((with_reducible refine at_slot 77 ?_); refine Classical.byContradiction (fun hG => ?_))
                      refine hG ?_
                      clear hG
                      refine list_named (S := fun W => ∃ W0, W = W0.alloc (.cells #[.int .i64 0, .int .i64 0, .int .i64 0] TS) ∧ Below wx.heap.size wx W0 ∧ W0.heap.size = wx.heap.size) ⟨_, rfl, by (repeat' (first | (with_reducible exact Below.refl _ _) | (with_reducible refine Below.setCell ?_ (by (first | omega | (simp; done) | (simp; omega))) _) | (with_reducible refine Below.alloc ?_ (by (first | omega | (simp; done) | (simp; omega))) _) | (with_reducible refine Below.drew ?_) | (with_reducible refine below_drewN ?_ _))), by first | rfl | (simp; done)⟩ ?_
                      rintro _ ⟨w7, rfl, hb7, e7⟩
                      have B7 := Lib.hid (below_t BX.out hb7)
                      have O7 := Lib.hid (OX.out.below hb7)
                      have Q7 := Lib.hid (QX.out.below hb7)
                      have hz7 := B7.out.size
                      clear hb7
                      refine wp_pushS (w0 := w7) rfl (.tmp 74) (.tmp 76) rfl (v := (.slice (some ⟨g, 0, none⟩) N cp)) (y := ((0 : Int), (0 : Int), (0 : Int))) (l := l) (n := N) rfl rfl rfl O7.out (by rw [e7]; rfl) HN.out (by omega) (by omega) ?_
                      rintro g1 c1 w8 ⟨ho8, hg8, hn8⟩
                      have O8 := Lib.hid ho8
                      have HC1 := Lib.hid (show N + 1 ≤ c1 from (own_parts ho8).2.2.1)
                      obtain ⟨k1, hk1⟩ : ∃ k1, i + 1 = k1 := ⟨_, rfl⟩
                      have HK1 := Lib.hid (show k1 ≤ N + 1 ∧ k1 = i + 1 by omega)
                      have HW1 := Lib.hid (show wrap64 ((i : Int) + 1) = (k1 : Int) by unfold wrap64; omega)
                      clear hk1
                      have B8 := Lib.hid (show Below w1.heap.size w1 w8 from B7.out.grown hg8 hz7 (fun k hk => (O7.out.ge k hk).1))
                      have NQ := Lib.hid (show q ≠ g1 from fun e => by
                        rcases hn8 with h | h
                        · exact VQ.out (h.trans (congrArg some e.symm))
                        · have := Q7.out.lt
                          omega)
                      have Q8 := Lib.hid (Q7.out.grown hg8 (fun e => VQ.out e.symm))
                      clear ho8 hg8 hn8
                      go_wp2_with fail
                      refine wp_region_noPanic ?_
                      refine wp_region_held_drew (S := fun Xw => Fr (fun k => k = g1) w8 Xw) (by kernel_rfl) ((Fr.refl _ w8).drew) (fun hHeld => ?_)
                      refine wpAnyH_take (i := 0) (oi := ⟨some 78, _, _, _, _, _⟩) (v := .slice (some ⟨g1, 0, none⟩) (N + 1) c1) rfl (by kernel_rfl) (by kernel_rfl) (by kernel_rfl) (fun _ _ _ h => h) (Or.inl ⟨by rfl, fun Xw hSW => by go_simp⟩) hHeld ?_
                      simp only [Act.put, List.setIfInBounds_toArray, List.set_cons_zero, List.set_cons_succ]
                      refine wpAnyH_take (i := 1) (oi := ⟨some 79, _, _, _, _, _⟩) (v := .int .i64 (i : Int)) rfl (by kernel_rfl) (by kernel_rfl) (by kernel_rfl) (fun _ _ _ h => h) (Or.inl ⟨by rfl, fun Xw hSW => by go_simp⟩) hHeld ?_
                      simp only [Act.put, List.setIfInBounds_toArray, List.set_cons_zero, List.set_cons_succ]
                      refine wpAnyH_take (i := 2) (oi := ⟨some 80, _, _, _, _, _⟩) (v := .int .i64 (k1 : Int)) rfl (by kernel_rfl) (by kernel_rfl) (by kernel_rfl) (fun _ _ _ h => h) (Or.inl ⟨by rfl, fun Xw hSW => by go_simp; rw [wI]; exact HW1.out⟩) hHeld ?_
                      simp only [Act.put, List.setIfInBounds_toArray, List.set_cons_zero, List.set_cons_succ]
                      refine wpAnyH_take (i := 3) (oi := ⟨some 81, _, _, _, _, _⟩) (v := cutV g1 (N + 1) c1 k1) rfl (by kernel_rfl) (by kernel_rfl) (by kernel_rfl) (fun _ _ _ h => h) (Or.inl ⟨by rfl, fun Xw hSW => by have q := run_cutS (g := g1) (n := N + 1) (c := c1) (k := k1) Xw HK1.out.1 HC1.out; go_simp⟩) hHeld ?_
                      simp only [Act.put, List.setIfInBounds_toArray, List.set_cons_zero, List.set_cons_succ]
                      refine wpAnyH_take (i := 4) (oi := ⟨some 82, _, _, _, _, _⟩) (v := .slice (some ⟨g1, 0, none⟩) (N + 1) c1) rfl (by kernel_rfl) (by kernel_rfl) (by kernel_rfl) (fun _ _ _ h => h) (Or.inl ⟨by rfl, fun Xw hSW => by go_simp⟩) hHeld ?_
                      simp only [Act.put, List.setIfInBounds_toArray, List.set_cons_zero, List.set_cons_succ]
                      refine wpAnyH_take (i := 5) (oi := ⟨some 83, _, _, _, _, _⟩) (v := .int .i64 (i : Int)) rfl (by kernel_rfl) (by kernel_rfl) (by kernel_rfl) (fun _ _ _ h => h) (Or.inl ⟨by rfl, fun Xw hSW => by go_simp⟩) hHeld ?_
                      simp only [Act.put, List.setIfInBounds_toArray, List.set_cons_zero, List.set_cons_succ]
                      refine wpAnyH_take (i := 6) (oi := ⟨some 84, _, _, _, _, _⟩) (v := cutV g1 (N + 1) c1 i) rfl (by kernel_rfl) (by kernel_rfl) (by kernel_rfl) (fun _ _ _ h => h) (Or.inl ⟨by rfl, fun Xw hSW => by have q := run_cutS (g := g1) (n := N + 1) (c := c1) (k := i) Xw (by omega) HC1.out; go_simp⟩) hHeld ?_
                      simp only [Act.put, List.setIfInBounds_toArray, List.set_cons_zero, List.set_cons_succ]
                      refine wpAnyH_ready (rs := [7]) (by kernel_rfl) (by simp) ?_
                      refine AllReadyH.cons (o := ⟨some 85, _, _, _, _, _⟩) rfl (fun K hK => ?_) AllReadyH.nil
                      refine step_copyS (W := w8.drew) (n := N) (i := i) (g := g1) (c := c1) rfl (.tmp 81) (.tmp 84) rfl O8.out (by omega) (by rw [HK1.out.2]; rfl) rfl ?_
                      intro w9 ho9 hg9
                      have O9 := Lib.hid ho9
                      have F9 := Lib.hid (show Fr (fun k => k = g1) w8 w9 from (Fr.refl _ w8).drew.trans (Fr.grown (S := fun k => k = g1) (w := w8.drew) hg9 (fun k hk => (Option.some.inj hk).symm)) (fun k hk => .inl hk))
                      clear ho9 hg9
                      refine hK.out _ _ F9.out (fun hHeld => ?_)
                      clear hK K hHeld
                      refine wpAnyH_done (by kernel_rfl) ?_ _
                      refine NoPanic.normal ?_
                      have q9 := F9.out.blk Q8.out NQ.out
                      have d0 := q9.cell (i := 0) rfl
                      have d1 := q9.cell (i := 1) rfl
                      have d2 := q9.cell (i := 2) rfl
                      have ql := q9.lt
                      obtain ⟨⟨ux, uy, uz⟩, hu⟩ : ∃ u, (slid (l ++ [((0 : Int), (0 : Int), (0 : Int))]) N i)[i]? = some u := ⟨_, List.getElem?_eq_getElem (by rw [slid_len (by rw [List.length_append, HN.out]; rfl) (by omega)]; omega)⟩
                      have HU := Lib.hid hu
                      obtain ⟨u0, u1, u2⟩ := spot_at O9.out hu
                      have f0 := O9.out.frozen (i * 3)
                      have f1 := O9.out.frozen (i * 3 + 1)
                      have f2 := O9.out.frozen (i * 3 + 2)
                      have gl := own_at O9.out hu
                      simp only at u0 u1 u2
                      have B9 := Lib.hid (B8.out.trans (F9.out.toBelow B8.out.size (fun k hk => by
                        subst hk
                        exact (O8.out.ge k rfl).1)))
                      clear q9 hu
                      go_wp2_with fail
                      clear d0 d1 d2 ql u0 u1 u2 f0 f1 f2 gl
                      go_roundw
                      case rel =>
                        refine ⟨n + 1, _, by first | rfl | (congr 1; omega), by omega, rfl, ?_, ?_⟩
                        · rw [HST.out, ins_new (x, y, z) (i := i) (by rw [HN.out]; omega) HALL.out HNX.out, ← slid_set (z := ((0 : Int), (0 : Int), (0 : Int))) HN.out (by omega)]
                          exact (own_put (y := (x, y, z)) O9.out HU.out).1
                        · exact B9.out.grown (own_put (y := (x, y, z)) O9.out HU.out).2 B9.out.size (fun k hk => (O9.out.ge k hk).1)
                      case measure =>
                        simp only [intOf]
                        omega
                · obtain rfl : i = N := by omega
                  have hiI : ¬ (i : Int) < (i : Int) := by omega
                  have hd : decide ((i : Int) < (i : Int)) = false := decide_eq_false hiI
                  go_wp2_with fail
                  refine wp_region_noPanic ?_
                  refine wp_region_held_drew (S := fun W => Below wr.heap.size wr W) (by kernel_rfl) ((Below.refl _ wr).drew) (fun hHeld => ?_)
                  refine wpAnyH_take (i := 0) (oi := ⟨some 47, _, _, _, _, _⟩) (v := .int .i64 (i : Int)) rfl (by kernel_rfl) (by kernel_rfl) (by kernel_rfl) (fun _ _ _ h => h) (Or.inl ⟨by rfl, fun W hSW => by go_simp⟩) hHeld ?_
                  simp only [Act.put, List.setIfInBounds_toArray, List.set_cons_zero, List.set_cons_succ]
                  refine wpAnyH_take (i := 1) (oi := ⟨some 48, _, _, _, _, _⟩) (v := .slice AV i cp) rfl (by kernel_rfl) (by kernel_rfl) (by kernel_rfl) (fun _ _ _ h => h) (Or.inl ⟨by rfl, fun W hSW => by go_simp⟩) hHeld ?_
                  simp only [Act.put, List.setIfInBounds_toArray, List.set_cons_zero, List.set_cons_succ]
                  refine wpAnyH_take (i := 2) (oi := ⟨some 49, _, _, _, _, _⟩) (v := .int .i64 (i : Int)) rfl (by kernel_rfl) (by kernel_rfl) (by kernel_rfl) (fun _ _ _ h => h) (Or.inl ⟨by rfl, fun W hSW => by go_simp⟩) hHeld ?_
                  simp only [Act.put, List.setIfInBounds_toArray, List.set_cons_zero, List.set_cons_succ]
                  refine wpAnyH_take (i := 3) (oi := ⟨some 50, _, _, _, _, _⟩) (v := .bool false) rfl (by kernel_rfl) (by kernel_rfl) (by kernel_rfl) (fun _ _ _ h => h) (Or.inl ⟨by rfl, fun W hSW => by go_simp⟩) hHeld ?_
                  simp only [Act.put, List.setIfInBounds_toArray, List.set_cons_zero, List.set_cons_succ]
                  refine wpAnyH_take (i := 4) (oi := ⟨some 51, _, _, _, _, _⟩) (v := .bool false) rfl (by kernel_rfl) (by kernel_rfl) (by kernel_rfl) (fun _ _ _ h => h) (Or.inl ⟨by rfl, fun W hSW => by go_simp⟩) hHeld ?_
                  simp only [Act.put, List.setIfInBounds_toArray, List.set_cons_zero, List.set_cons_succ]
                  refine wpAnyH_take (i := 5) (oi := ⟨some 52, _, _, _, _, _⟩) (v := undef) rfl (by kernel_rfl) (by kernel_rfl) (by kernel_rfl) (fun _ _ _ h => h) (Or.inr ⟨by kernel_rfl, rfl⟩) hHeld ?_
                  simp only [Act.put, List.setIfInBounds_toArray, List.set_cons_zero, List.set_cons_succ]
                  refine wpAnyH_take (i := 6) (oi := ⟨some 53, _, _, _, _, _⟩) (v := undef) rfl (by kernel_rfl) (by kernel_rfl) (by kernel_rfl) (fun _ _ _ h => h) (Or.inr ⟨by kernel_rfl, rfl⟩) hHeld ?_
                  simp only [Act.put, List.setIfInBounds_toArray, List.set_cons_zero, List.set_cons_succ]
                  refine wpAnyH_take (i := 7) (oi := ⟨some 54, _, _, _, _, _⟩) (v := undef) rfl (by kernel_rfl) (by kernel_rfl) (by kernel_rfl) (fun _ _ _ h => h) (Or.inr ⟨by kernel_rfl, rfl⟩) hHeld ?_
                  simp only [Act.put, List.setIfInBounds_toArray, List.set_cons_zero, List.set_cons_succ]
                  refine wpAnyH_take (i := 8) (oi := ⟨some 55, _, _, _, _, _⟩) (v := undef) rfl (by kernel_rfl) (by kernel_rfl) (by kernel_rfl) (fun _ _ _ h => h) (Or.inr ⟨by kernel_rfl, rfl⟩) hHeld ?_
                  simp only [Act.put, List.setIfInBounds_toArray, List.set_cons_zero, List.set_cons_succ]
                  refine wpAnyH_take (i := 9) (oi := ⟨some 56, _, _, _, _, _⟩) (v := undef) rfl (by kernel_rfl) (by kernel_rfl) (by kernel_rfl) (fun _ _ _ h => h) (Or.inr ⟨by kernel_rfl, rfl⟩) hHeld ?_
                  simp only [Act.put, List.setIfInBounds_toArray, List.set_cons_zero, List.set_cons_succ]
                  refine wpAnyH_take (i := 10) (oi := ⟨some 57, _, _, _, _, _⟩) (v := undef) rfl (by kernel_rfl) (by kernel_rfl) (by kernel_rfl) (fun _ _ _ h => h) (Or.inr ⟨by kernel_rfl, rfl⟩) hHeld ?_
                  simp only [Act.put, List.setIfInBounds_toArray, List.set_cons_zero, List.set_cons_succ]
                  refine wpAnyH_take (i := 11) (oi := ⟨some 58, _, _, _, _, _⟩) (v := undef) rfl (by kernel_rfl) (by kernel_rfl) (by kernel_rfl) (fun _ _ _ h => h) (Or.inr ⟨by kernel_rfl, rfl⟩) hHeld ?_
                  simp only [Act.put, List.setIfInBounds_toArray, List.set_cons_zero, List.set_cons_succ]
                  refine wpAnyH_take (i := 12) (oi := ⟨some 59, _, _, _, _, _⟩) (v := .bool false) rfl (by kernel_rfl) (by kernel_rfl) (by kernel_rfl) (fun _ _ _ h => h) (Or.inl ⟨by rfl, fun W hSW => by go_simp⟩) hHeld ?_
                  simp only [Act.put, List.setIfInBounds_toArray, List.set_cons_zero, List.set_cons_succ]
                  refine wpAnyH_done (by kernel_rfl) ?_ _
                  refine NoPanic.normal ?_
                  obtain ⟨wx, hwx⟩ : ∃ wx, wx = wr := ⟨_, rfl⟩
                  subst hwx
                  have OX := Lib.hid O12.out
                  have QX := Lib.hid Q12.out
                  have BX := Lib.hid B12.out
                  have HNX := Lib.hid (show ∀ t, l[i]? = some t → ¬ ltS t (x, y, z) ∧ t ≠ (x, y, z) from fun t ht => by
                    rw [List.getElem?_eq_none (by rw [HN.out]; exact Nat.le_refl _)] at ht
                    cases ht)
                  clear hHeld d0 d1 d2 ql
                  go_wp2_with fail
                  go_quiet (fail)
                  go_wp2_with ((with_reducible refine at_slot 77 ?_); refine Classical.byContradiction (fun hG => ?_))
                  refine hG ?_
                  clear hG
                  refine list_named (S := fun W => ∃ W0, W = W0.alloc (.cells #[.int .i64 0, .int .i64 0, .int .i64 0] TS) ∧ Below wx.heap.size wx W0 ∧ W0.heap.size = wx.heap.size) ⟨_, rfl, by (repeat' (first | (with_reducible exact Below.refl _ _) | (with_reducible refine Below.setCell ?_ (by (first | omega | (simp; done) | (simp; omega))) _) | (with_reducible refine Below.alloc ?_ (by (first | omega | (simp; done) | (simp; omega))) _) | (with_reducible refine Below.drew ?_) | (with_reducible refine below_drewN ?_ _))), by first | rfl | (simp; done)⟩ ?_
                  rintro _ ⟨w7, rfl, hb7, e7⟩
                  have B7 := Lib.hid (below_t BX.out hb7)
                  have O7 := Lib.hid (OX.out.below hb7)
                  have Q7 := Lib.hid (QX.out.below hb7)
                  have hz7 := B7.out.size
                  clear hb7
                  refine wp_pushS (w0 := w7) rfl (.tmp 74) (.tmp 76) rfl (v := .slice AV i cp) (y := ((0 : Int), (0 : Int), (0 : Int))) (l := l) (n := i) rfl rfl rfl O7.out (by rw [e7]; rfl) HN.out (by omega) (by omega) ?_
                  rintro g1 c1 w8 ⟨ho8, hg8, hn8⟩
                  have O8 := Lib.hid ho8
                  have HC1 := Lib.hid (show i + 1 ≤ c1 from (own_parts ho8).2.2.1)
                  obtain ⟨k1, hk1⟩ : ∃ k1, i + 1 = k1 := ⟨_, rfl⟩
                  have HK1 := Lib.hid (show k1 ≤ i + 1 ∧ k1 = i + 1 by omega)
                  have HW1 := Lib.hid (show wrap64 ((i : Int) + 1) = (k1 : Int) by unfold wrap64; omega)
                  clear hk1
                  have B8 := Lib.hid (show Below w1.heap.size w1 w8 from B7.out.grown hg8 hz7 (fun k hk => (O7.out.ge k hk).1))
                  have NQ := Lib.hid (show q ≠ g1 from fun e => by
                    rcases hn8 with h | h
                    · exact VQ.out (h.trans (congrArg some e.symm))
                    · have := Q7.out.lt
                      omega)
                  have Q8 := Lib.hid (Q7.out.grown hg8 (fun e => VQ.out e.symm))
                  clear ho8 hg8 hn8
                  go_wp2_with fail
                  refine wp_region_noPanic ?_
                  refine wp_region_held_drew (S := fun Xw => Fr (fun k => k = g1) w8 Xw) (by kernel_rfl) ((Fr.refl _ w8).drew) (fun hHeld => ?_)
                  refine wpAnyH_take (i := 0) (oi := ⟨some 78, _, _, _, _, _⟩) (v := .slice (some ⟨g1, 0, none⟩) (i + 1) c1) rfl (by kernel_rfl) (by kernel_rfl) (by kernel_rfl) (fun _ _ _ h => h) (Or.inl ⟨by rfl, fun Xw hSW => by go_simp⟩) hHeld ?_
                  simp only [Act.put, List.setIfInBounds_toArray, List.set_cons_zero, List.set_cons_succ]
                  refine wpAnyH_take (i := 1) (oi := ⟨some 79, _, _, _, _, _⟩) (v := .int .i64 (i : Int)) rfl (by kernel_rfl) (by kernel_rfl) (by kernel_rfl) (fun _ _ _ h => h) (Or.inl ⟨by rfl, fun Xw hSW => by go_simp⟩) hHeld ?_
                  simp only [Act.put, List.setIfInBounds_toArray, List.set_cons_zero, List.set_cons_succ]
                  refine wpAnyH_take (i := 2) (oi := ⟨some 80, _, _, _, _, _⟩) (v := .int .i64 (k1 : Int)) rfl (by kernel_rfl) (by kernel_rfl) (by kernel_rfl) (fun _ _ _ h => h) (Or.inl ⟨by rfl, fun Xw hSW => by go_simp; rw [wI]; exact HW1.out⟩) hHeld ?_
                  simp only [Act.put, List.setIfInBounds_toArray, List.set_cons_zero, List.set_cons_succ]
                  refine wpAnyH_take (i := 3) (oi := ⟨some 81, _, _, _, _, _⟩) (v := cutV g1 (i + 1) c1 k1) rfl (by kernel_rfl) (by kernel_rfl) (by kernel_rfl) (fun _ _ _ h => h) (Or.inl ⟨by rfl, fun Xw hSW => by have q := run_cutS (g := g1) (n := i + 1) (c := c1) (k := k1) Xw HK1.out.1 HC1.out; go_simp⟩) hHeld ?_
                  simp only [Act.put, List.setIfInBounds_toArray, List.set_cons_zero, List.set_cons_succ]
                  refine wpAnyH_take (i := 4) (oi := ⟨some 82, _, _, _, _, _⟩) (v := .slice (some ⟨g1, 0, none⟩) (i + 1) c1) rfl (by kernel_rfl) (by kernel_rfl) (by kernel_rfl) (fun _ _ _ h => h) (Or.inl ⟨by rfl, fun Xw hSW => by go_simp⟩) hHeld ?_
                  simp only [Act.put, List.setIfInBounds_toArray, List.set_cons_zero, List.set_cons_succ]
                  refine wpAnyH_take (i := 5) (oi := ⟨some 83, _, _, _, _, _⟩) (v := .int .i64 (i : Int)) rfl (by kernel_rfl) (by kernel_rfl) (by kernel_rfl) (fun _ _ _ h => h) (Or.inl ⟨by rfl, fun Xw hSW => by go_simp⟩) hHeld ?_
                  simp only [Act.put, List.setIfInBounds_toArray, List.set_cons_zero, List.set_cons_succ]
                  refine wpAnyH_take (i := 6) (oi := ⟨some 84, _, _, _, _, _⟩) (v := cutV g1 (i + 1) c1 i) rfl (by kernel_rfl) (by kernel_rfl) (by kernel_rfl) (fun _ _ _ h => h) (Or.inl ⟨by rfl, fun Xw hSW => by have q := run_cutS (g := g1) (n := i + 1) (c := c1) (k := i) Xw (by omega) HC1.out; go_simp⟩) hHeld ?_
                  simp only [Act.put, List.setIfInBounds_toArray, List.set_cons_zero, List.set_cons_succ]
                  refine wpAnyH_ready (rs := [7]) (by kernel_rfl) (by simp) ?_
                  refine AllReadyH.cons (o := ⟨some 85, _, _, _, _, _⟩) rfl (fun K hK => ?_) AllReadyH.nil
                  refine step_copyS (W := w8.drew) (n := i) (i := i) (g := g1) (c := c1) rfl (.tmp 81) (.tmp 84) rfl O8.out (by omega) (by rw [HK1.out.2]; rfl) rfl ?_
                  intro w9 ho9 hg9
                  have O9 := Lib.hid ho9
                  have F9 := Lib.hid (show Fr (fun k => k = g1) w8 w9 from (Fr.refl _ w8).drew.trans (Fr.grown (S := fun k => k = g1) (w := w8.drew) hg9 (fun k hk => (Option.some.inj hk).symm)) (fun k hk => .inl hk))
                  clear ho9 hg9
                  refine hK.out _ _ F9.out (fun hHeld => ?_)
                  clear hK K hHeld
                  refine wpAnyH_done (by kernel_rfl) ?_ _
                  refine NoPanic.normal ?_
                  have q9 := F9.out.blk Q8.out NQ.out
                  have d0 := q9.cell (i := 0) rfl
                  have d1 := q9.cell (i := 1) rfl
                  have d2 := q9.cell (i := 2) rfl
                  have ql := q9.lt
                  obtain ⟨⟨ux, uy, uz⟩, hu⟩ : ∃ u, (slid (l ++ [((0 : Int), (0 : Int), (0 : Int))]) i i)[i]? = some u := ⟨_, List.getElem?_eq_getElem (by rw [slid_len (by rw [List.length_append, HN.out]; rfl) (by omega)]; omega)⟩
                  have HU := Lib.hid hu
                  obtain ⟨u0, u1, u2⟩ := spot_at O9.out hu
                  have f0 := O9.out.frozen (i * 3)
                  have f1 := O9.out.frozen (i * 3 + 1)
                  have f2 := O9.out.frozen (i * 3 + 2)
                  have gl := own_at O9.out hu
                  simp only at u0 u1 u2
                  have B9 := Lib.hid (B8.out.trans (F9.out.toBelow B8.out.size (fun k hk => by
                    subst hk
                    exact (O8.out.ge k rfl).1)))
                  clear q9 hu
                  go_wp2_with fail
                  clear d0 d1 d2 ql u0 u1 u2 f0 f1 f2 gl
                  go_roundw
                  case rel =>
                    refine ⟨n + 1, _, by first | rfl | (congr 1; omega), by omega, rfl, ?_, ?_⟩
                    · rw [HST.out, ins_new (x, y, z) (i := i) (by rw [HN.out]; omega) HALL.out HNX.out, ← slid_set (z := ((0 : Int), (0 : Int), (0 : Int))) HN.out (by omega)]
                      exact (own_put (y := (x, y, z)) O9.out HU.out).1
                    · exact B9.out.grown (own_put (y := (x, y, z)) O9.out HU.out).2 B9.out.size (fun k hk => (O9.out.ge k hk).1)
                  case measure =>
                    simp only [intOf]
                    omega
          · obtain rfl : n = 36 := by omega
            go_wp2_with fail
            go_roundw
            case rel => exact ⟨_, _, rfl, HOR.out, HBR.out, .inr (.inr ⟨rfl, by simp [rspots, rone, HO.out]⟩)⟩
            case measure =>
              simp only [intOf]
              omega
    · go_wp2_with fail
      go_ret
      exact ⟨_, rfl, HOR.out.mono HB1.out.size, below_t HB1.out HBR.out⟩
end AncW
end Go.Proofs.Ytcmmfihhnmhhgaa
