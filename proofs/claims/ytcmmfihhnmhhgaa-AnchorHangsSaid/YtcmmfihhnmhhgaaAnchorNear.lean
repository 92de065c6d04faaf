/-
  What is near an anchor.
-/
import Derived.BigQuiet
import Derived.BigRegion
import Derived.Lib.Hide
import Derived.Deep.RegionHeld3
import Derived.Deep.MidRow
import Derived.Laws.Tables
import Derived.Test.YtcmmfihhnmhhgaaAnchorIn
namespace Go.Proofs.Ytcmmfihhnmhhgaa
open Go.RowKit
set_option linter.unusedVariables false
set_option linter.unusedSimpArgs false
namespace AncW
open BlkP RowG FrS PushG AncP
open PlaceW (bcell below_drewN)

theorem own_len {α : Type} {e : Enc α} {E : TypeId} {w : World} {B : Nat} {v : Value} {l : List α} (h : RowG.Own e E w B v l) {n : Nat} (hn : l.length = n) : ∃ A c, v = .slice A n c ∧ n ≤ c ∧ c ≤ 9223372036854775807 ∧ (0 < n → ∃ g, A = some ⟨g, 0, none⟩ ∧ B ≤ g ∧ g < w.heap.size) := h.form hn
/-- A row of spots of the call's own is answered. -/
def RowP (w : World) (l : List V) (e : Ending) (w' : World) : Prop := ∃ v, e = .returned v ∧ RowG.Own encS TS w' w.heap.size v l ∧ Below w.heap.size w w'
theorem pcand_at {a : V} {x z y : Nat} (hx : x < 3) (hz : z < 3) (hy : y < 4) : pcand a (12 * x + 4 * z + y) = (wrap64 (wrap64 (a.1 - 1) + (x : Int)), (y : Int), wrap64 (wrap64 (a.2.2 - 1) + (z : Int))) := by
  unfold pcand
  rw [show (12 * x + 4 * z + y) / 12 = x by omega, show (12 * x + 4 * z + y) % 4 = y by omega, show (12 * x + 4 * z + y) / 4 % 3 = z by omega]
set_option maxRecDepth 100000 in
set_option maxHeartbeats 16000000 in
theorem near_c {w : World} {a : An} :
    Calls Try.prog 23 #[.agg #[.int .i64 a.1.1, .int .i64 a.1.2.1, .int .i64 a.1.2.2, .bool a.2]] w (RowP w (pnear a)) := by
  obtain ⟨s, hs⟩ : ∃ s, w.heap.size = s := ⟨_, rfl⟩
  have HS := Lib.hid hs
  cases ho : a.2 with
  | false =>
    have HP := Lib.hid (show pnear a = [] by simp [pnear, ho])
    clear ho
    go_enter Try.func23, Try.ntmps23
    go_wp2_with fail
    go_ret
    refine ⟨_, rfl, ?_, by (repeat' (first | (with_reducible exact Below.refl _ _) | (with_reducible refine Below.setCell ?_ (by (first | omega | (simp; done) | (simp; omega))) _) | (with_reducible refine Below.alloc ?_ (by (first | omega | (simp; done) | (simp; omega))) _) | (with_reducible refine Below.drew ?_) | (with_reducible refine below_drewN ?_ _)))⟩
    rw [HP.out]
    exact Own.nil _ _ _ _
  | true =>
    have HP := Lib.hid (show pnear a = pacc a.1 36 by simp [pnear, ho])
    clear ho
    go_enter Try.func23, Try.ntmps23
    go_wp2_with fail
    refine HeldP.wp_named (fun W => Below w.heap.size w W ∧ Blk W s TA [.int .i64 a.1.1, .int .i64 a.1.2.1, .int .i64 a.1.2.2, .bool true]) ⟨by (repeat' (first | (with_reducible exact Below.refl _ _) | (with_reducible refine Below.setCell ?_ (by (first | omega | (simp; done) | (simp; omega))) _) | (with_reducible refine Below.alloc ?_ (by (first | omega | (simp; done) | (simp; omega))) _) | (with_reducible refine Below.drew ?_) | (with_reducible refine below_drewN ?_ _))), by subst hs; (repeat' (first | (with_reducible refine BlkP.Blk.drew ?_) | (with_reducible refine BlkP.Blk.drewN ?_ _) | (with_reducible refine BlkP.Blk.setAt (us := ?_) (by first | omega | (simp; done) | (simp; omega)) rfl ?_ ?_) | (with_reducible refine BlkP.Blk.otherAt ?_ (by first | omega | (simp; done) | (simp; omega))) | (with_reducible refine BlkP.Blk.newA' (by first | omega | (simp; done) | (simp; omega)) rfl) | (with_reducible refine BlkP.Blk.alloc ?_ _) | (exact rfl)))⟩ ?_
    rintro w1 ⟨hb1, h1⟩
    try rw [hs]
    have HB1 := Lib.hid hb1
    have H1 := Lib.hid h1
    have hz1 := hb1.size
    clear hb1 h1 hs
    go_loopw [3, 11] (fun v3 v11 wr => ∃ (x : Nat) (v : Value), v11 = .int .i64 (x : Nat) ∧ x ≤ 3 ∧ v3 = v ∧ RowG.Own encS TS wr w1.heap.size v (pacc a.1 (12 * x)) ∧ Below w1.heap.size w1 wr) (fun _ v _ => 3 - (intOf v).toNat)
    case atStart => exact ⟨0, _, rfl, by omega, rfl, Own.nil _ _ _ _, Below.refl _ _⟩
    case round =>
      obtain ⟨x, v, rfl, hx, rfl, ho, hbr⟩ := hrel
      have HO := Lib.hid ho
      have HBR := Lib.hid hbr
      have hbz := hbr.size
      clear ho hbr
      by_cases hx3 : x < 3
      · have hxI : (x : Int) < 3 := by omega
        go_wp2_with fail
        go_loopw [3, 14] (fun v3 v14 wr => ∃ (z : Nat) (v : Value), v14 = .int .i64 (z : Nat) ∧ z ≤ 3 ∧ v3 = v ∧ RowG.Own encS TS wr w1.heap.size v (pacc a.1 (12 * x + 4 * z)) ∧ Below w1.heap.size w1 wr) (fun _ v _ => 3 - (intOf v).toNat)
        case atStart => exact ⟨0, _, rfl, by omega, rfl, HO.out, HBR.out⟩
        case round =>
          obtain ⟨z, v, rfl, hz, rfl, ho, hbr⟩ := hrel
          have HO := Lib.hid ho
          have HBR := Lib.hid hbr
          have hbz := hbr.size
          clear ho hbr
          by_cases hz3 : z < 3
          · have hzI : (z : Int) < 3 := by omega
            go_wp2_with fail
            go_loopw [3, 17] (fun v3 v17 wr => ∃ (i : Nat) (v : Value), v17 = .int .i64 (i : Nat) ∧ i ≤ 4 ∧ v3 = v ∧ RowG.Own encS TS wr w1.heap.size v (pacc a.1 (12 * x + 4 * z + i)) ∧ Below w1.heap.size w1 wr) (fun _ v _ => 4 - (intOf v).toNat)
            case atStart => exact ⟨0, _, rfl, by omega, rfl, HO.out, HBR.out⟩
            case round =>
              obtain ⟨i, v, rfl, hi, rfl, ho, hbr⟩ := hrel
              have HO := Lib.hid ho
              have HBR := Lib.hid hbr
              have hbz := hbr.size
              clear ho hbr
              by_cases h4 : i < 4
              · have hI : (i : Int) < 4 := by omega
                have HC := Lib.hid (pcand_at (a := a.1) hx3 hz3 h4)
                obtain ⟨⟨qx, qy, qz⟩, hq⟩ : ∃ q, pcand a.1 (12 * x + 4 * z + i) = q := ⟨_, rfl⟩
                have HQ := Lib.hid hq
                rw [hq] at HC
                obtain ⟨rfl, rfl, rfl⟩ : qx = _ ∧ qy = _ ∧ qz = _ := by simpa using HC.out
                have k := H1.out.below HBR.out
                have c0 := k.cell (i := 0) rfl
                have c1 := k.cell (i := 1) rfl
                have c2 := k.cell (i := 2) rfl
                have kl := k.lt
                clear k
                clear hq HC
                cases hm : may (wrap64 (wrap64 (a.1.1 - 1) + (x : Int)), (i : Int), wrap64 (wrap64 (a.1.2.2 - 1) + (z : Int))) with
                | false =>
                  have HM := Lib.hid hm
                  clear hm
                  go_wp2_with fail
                  refine (PlaceW.maySpot_b ((may_is _ _ _).trans HM.out) _).mono ?_
                  rintro e w5 ⟨rfl, hb5⟩
                  have B5 : Below wr.heap.size wr w5 := by (repeat' (first | (with_reducible exact Below.refl _ _) | (with_reducible refine Below.setCell ?_ (by (first | omega | (simp; done) | (simp; omega))) _) | (with_reducible refine Below.alloc ?_ (by (first | omega | (simp; done) | (simp; omega))) _) | (with_reducible refine Below.drew ?_) | (with_reducible refine below_drewN ?_ _) | (with_reducible refine Below.trans ?_ (Below.mono hb5 (by (first | omega | (simp; done) | (simp; omega)))))))
                  have HB5 := Lib.hid B5
                  clear hb5 B5 c0 c1 c2 kl
                  go_wp2_with fail
                  go_roundw
                  case rel =>
                    refine ⟨i + 1, _, by first | rfl | (congr 1; omega), by omega, rfl, ?_, below_t HBR.out HB5.out⟩
                    have e : pacc a.1 (12 * x + 4 * z + (i + 1)) = pacc a.1 (12 * x + 4 * z + i) := by
                      show pacc a.1 ((12 * x + 4 * z + i) + 1) = _
                      rw [pacc, HQ.out, HM.out]
                      rfl
                    rw [e]
                    exact HO.out.below HB5.out
                  case measure =>
                    simp only [intOf]
                    omega
                | true =>
                  have HM := Lib.hid hm
                  clear hm
                  have hnl := pacc_len a.1 (12 * x + 4 * z + i)
                  obtain ⟨n, hn⟩ : ∃ n, (pacc a.1 (12 * x + 4 * z + i)).length = n := ⟨_, rfl⟩
                  have HN := Lib.hid hn
                  rw [hn] at hnl
                  clear hn
                  go_wp2_with fail
                  refine calls_named (S := fun W => Below wr.heap.size wr W ∧ Blk W wr.heap.size TS [.int .i64 (wrap64 (wrap64 (a.1.1 - 1) + (x : Int))), .int .i64 (i : Int), .int .i64 (wrap64 (wrap64 (a.1.2.2 - 1) + (z : Int)))]) ⟨by (repeat' (first | (with_reducible exact Below.refl _ _) | (with_reducible refine Below.setCell ?_ (by (first | omega | (simp; done) | (simp; omega))) _) | (with_reducible refine Below.alloc ?_ (by (first | omega | (simp; done) | (simp; omega))) _) | (with_reducible refine Below.drew ?_) | (with_reducible refine below_drewN ?_ _))), by (repeat' (first | (with_reducible refine BlkP.Blk.drew ?_) | (with_reducible refine BlkP.Blk.drewN ?_ _) | (with_reducible refine BlkP.Blk.setAt (us := ?_) (by first | omega | (simp; done) | (simp; omega)) rfl ?_ ?_) | (with_reducible refine BlkP.Blk.otherAt ?_ (by first | omega | (simp; done) | (simp; omega))) | (with_reducible refine BlkP.Blk.newA' (by first | omega | (simp; done) | (simp; omega)) rfl) | (with_reducible refine BlkP.Blk.alloc ?_ _) | (exact rfl)))⟩ ?_
                  rintro w4 ⟨hb4, h4⟩
                  have HB4 := Lib.hid hb4
                  have H4 := Lib.hid h4
                  clear hb4 h4
                  refine (PlaceW.maySpot_b ((may_is _ _ _).trans HM.out) _).mono ?_
                  rintro e w5 ⟨rfl, hb5⟩
                  have HB5 := Lib.hid (below_t HB4.out hb5)
                  have k5 := H4.out.below hb5
                  have d0 := k5.cell (i := 0) rfl
                  have d1 := k5.cell (i := 1) rfl
                  have d2 := k5.cell (i := 2) rfl
                  have k5l := k5.lt
                  have HO5 := Lib.hid (HO.out.below HB5.out)
                  have hz5 := HB5.out.size
                  clear hb5 k5 c0 c1 c2 kl
                  go_wp2_with ((with_reducible refine at_slot 39 ?_); refine Classical.byContradiction (fun hG => ?_))
                  refine hG ?_
                  clear hG
                  refine list_named (S := fun W => ∃ W0, W = W0.alloc (.cells #[.int .i64 (wrap64 (wrap64 (a.1.1 - 1) + (x : Int))), .int .i64 (i : Int), .int .i64 (wrap64 (wrap64 (a.1.2.2 - 1) + (z : Int)))] TS) ∧ W0 = w5) ⟨_, rfl, rfl⟩ ?_
                  rintro _ ⟨w6, rfl, rfl⟩
                  refine wp_pushS (w0 := w6) rfl (.tmp 36) (.tmp 38) rfl (y := (wrap64 (wrap64 (a.1.1 - 1) + (x : Int)), (i : Int), wrap64 (wrap64 (a.1.2.2 - 1) + (z : Int)))) rfl rfl rfl HO5.out rfl HN.out (by omega) (by omega) ?_
                  rintro g c w7 ⟨ho7, hg7, _⟩
                  have HO7 := Lib.hid ho7
                  have HB7 := Lib.hid (show Below w1.heap.size w1 w7 from (below_t HBR.out HB5.out).grown hg7 (by have := HBR.out.size; have := HB5.out.size; omega) (fun k hk => (HO5.out.ge k hk).1))
                  clear ho7 hg7 d0 d1 d2 k5l
                  go_wp2_with fail
                  go_roundw
                  case rel =>
                    refine ⟨i + 1, _, by first | rfl | (congr 1; omega), by omega, rfl, ?_, HB7.out⟩
                    have e : pacc a.1 (12 * x + 4 * z + (i + 1)) = pacc a.1 (12 * x + 4 * z + i) ++ [(wrap64 (wrap64 (a.1.1 - 1) + (x : Int)), (i : Int), wrap64 (wrap64 (a.1.2.2 - 1) + (z : Int)))] := by
                      show pacc a.1 ((12 * x + 4 * z + i) + 1) = _
                      rw [pacc, HQ.out, HM.out]
                      rfl
                    rw [e]
                    exact HO7.out
                  case measure =>
                    simp only [intOf]
                    omega
              · obtain rfl : i = 4 := by omega
                go_wp2_with fail
                go_roundw
                case rel => exact ⟨z + 1, _, by first | rfl | (congr 1; omega), by omega, rfl, by have h := HO.out; rw [show 12 * x + 4 * z + 4 = 12 * x + 4 * (z + 1) by omega] at h; exact h, HBR.out⟩
                case measure =>
                  simp only [intOf]
                  omega
          · obtain rfl : z = 3 := by omega
            go_wp2_with fail
            go_roundw
            case rel => exact ⟨x + 1, _, by first | rfl | (congr 1; omega), by omega, rfl, by have h := HO.out; rw [show 12 * x + 4 * 3 = 12 * (x + 1) by omega] at h; exact h, HBR.out⟩
            case measure =>
              simp only [intOf]
              omega
      · obtain rfl : x = 3 := by omega
        go_wp2_with fail
        go_ret
        refine ⟨_, rfl, ?_, below_t HB1.out HBR.out⟩
        rw [HP.out]
        exact HO.out.mono HB1.out.size
end AncW
end Go.Proofs.Ytcmmfihhnmhhgaa
