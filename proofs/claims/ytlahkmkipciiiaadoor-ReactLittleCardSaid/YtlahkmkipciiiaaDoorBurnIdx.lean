/-
  Is there such a one beside? (slices.ContainsFunc, slices.IndexFunc over the six sides)
-/
import Derived.Test.YtlahkmkipciiiaaDoorBurnMem
namespace Go.Proofs.YtlahkmkipciiiaaDoor
open Go.RowKit
set_option linter.unusedVariables false
set_option linter.unusedSimpArgs false
namespace BurnW
open BlkP RowG FrS PushG CellsW NearW BurnP
set_option maxRecDepth 100000 in
set_option maxHeartbeats 8000000 in
theorem idx_water_c {w : World} {b : Nat} {n : Nr} (hT : KindW.Tab w) (hB : Blk w b TN (vals n)) :
    Calls Tryd.prog 80 #[.slice (some ⟨b, 2, none⟩) 6 6, .func (.func 45) #[] #[]] w fun e w' => (∃ v : Int, e = .returned (.int .i64 v) ∧ decide (0 ≤ v) = anyTo (fun c => c.1 == 13) n.sd 6) ∧ Below w.heap.size w w' := by
  have HT := Lib.hid hT
  have HB := Lib.hid hB
  clear hT hB
  go_enter Tryd.func80, Tryd.ntmps80
  go_wp2_with fail
  go_loopw [8] (fun v8 wr => ∃ j : Nat, v8 = .int .i64 (j : Nat) ∧ j ≤ 6 ∧ (∀ i, i < j → (fun c => c.1 == 13) (n.sd i) = false) ∧ Below w.heap.size w wr) (fun v _ => 6 - (intOf v).toNat)
  case atStart => exact ⟨0, rfl, by omega, fun i hi => absurd hi (by omega), Below.refl _ _⟩
  case round =>
    obtain ⟨j, rfl, hj, hall, hbr⟩ := hrel
    have HALL := Lib.hid hall
    have HBR := Lib.hid hbr
    have hz := hbr.size
    by_cases hjl : j < 6
    · have hjI : (j : Int) < 6 := by omega
      have HWR := Lib.hid (show wrap64 ((j : Int) + 1) = ((j + 1 : Nat) : Int) by rw [wr64 (by omega) (by omega)]; omega)
      obtain ⟨⟨k, v⟩, hx⟩ : ∃ c, n.sd j = c := ⟨_, rfl⟩
      have HX := Lib.hid hx
      have c0 := (HB.out.below hbr).cell (g_sk n (d := j) (by omega))
      have c1 := (HB.out.below hbr).cell (g_sl n (d := j) (by omega))
      have lt := (HB.out.below hbr).lt
      rw [hx] at c0 c1
      simp only at c0 c1
      obtain ⟨q, hq⟩ : ∃ q, (fun c => c.1 == 13) (k, v) = q := ⟨_, rfl⟩
      have HQ := Lib.hid hq
      clear hall hbr hq hx
      go_wp2_with fail
      refine (isWater_c HQ.out).mono ?_
      rintro e w5 ⟨rfl, hb5⟩
      have HB5 := Lib.hid (below_t HBR.out hb5)
      clear hb5 c0 c1 lt
      cases q with
      | false =>
        go_wp2_with fail
        go_roundw
        case rel =>
          refine ⟨j + 1, by first | rfl | rw [HWR.out] | (congr 1; omega), by omega, fun i hi => ?_, HB5.out⟩
          by_cases hij : i < j
          · exact HALL.out i hij
          · obtain rfl : i = j := by omega
            rw [HX.out]
            exact HQ.out
        case measure =>
          simp only [intOf]
          omega
      | true =>
        have HA := Lib.hid (any_yes (p := fun c => c.1 == 13) (f := n.sd) (j := 6) (i := j) hjl (by rw [HX.out]; exact HQ.out))
        go_wp2_with fail
        go_ret
        exact ⟨⟨_, rfl, by rw [HA.out]; simp⟩, HB5.out⟩
    · have hje : j = 6 := by omega
      have hjI : ¬ (j : Int) < 6 := by omega
      have HA := Lib.hid (any_no (p := fun c => c.1 == 13) (f := n.sd) (j := 6) (by rw [← hje]; exact hall))
      clear hall hbr hje
      go_wp2_with fail
      go_ret
      exact ⟨⟨_, rfl, by rw [HA.out]; decide⟩, HBR.out⟩
set_option maxRecDepth 100000 in
set_option maxHeartbeats 8000000 in
theorem beside_water_c {w : World} {n : Nr} {r : Bool} (hT : KindW.Tab w) (hr : anyTo (fun c => c.1 == 13) n.sd 6 = r) :
    Calls Tryd.prog 44 #[nv n, .func (.func 45) #[] #[]] w fun e w' => e = .returned (.bool r) ∧ Below w.heap.size w w' := by
  have HT := Lib.hid hT
  have HR := Lib.hid hr
  clear hT hr
  obtain ⟨s, hs⟩ : ∃ s, w.heap.size = s := ⟨_, rfl⟩
  have HS := Lib.hid hs
  go_enter Tryd.func44, Tryd.ntmps44
  go_wp2_with ((with_reducible refine at_slot 2 ?_); refine Classical.byContradiction (fun hG => ?_))
  refine hG ?_
  clear hG
  refine wp_boxN rfl (.tmp 0) rfl rfl ?_
  intro w1 h1 hb1 hz1
  rw [hs] at h1 hz1
  try rw [hs]
  have HB1 := Lib.hid hb1
  have H1 := Lib.hid h1
  have hlt := h1.lt
  clear h1 hb1 hz1 hs
  go_wp2_with fail
  go_enter Tryd.func73, Tryd.ntmps73
  go_wp2_with fail
  refine (idx_water_c (n := n) (HT.out.below HB1.out) H1.out).mono ?_
  rintro e w2 ⟨⟨v, rfl, hv⟩, hb2⟩
  rw [HR.out] at hv
  have HB2 := Lib.hid (below_t HB1.out hb2)
  clear hb2 hlt
  go_wp2_with fail
  go_ret
  exact ⟨by rw [← hv]; first | rfl | simp, HB2.out⟩
set_option maxRecDepth 100000 in
set_option maxHeartbeats 8000000 in
theorem idx_burns_c {w : World} {b : Nat} {n : Nr} (hT : KindW.Tab w) (hB : Blk w b TN (vals n)) :
    Calls Tryd.prog 80 #[.slice (some ⟨b, 2, none⟩) 6 6, .func (.func 46) #[] #[]] w fun e w' => (∃ v : Int, e = .returned (.int .i64 v) ∧ decide (0 ≤ v) = anyTo (fun c => KindP.burns c.1) n.sd 6) ∧ Below w.heap.size w w' := by
  have HT := Lib.hid hT
  have HB := Lib.hid hB
  clear hT hB
  go_enter Tryd.func80, Tryd.ntmps80
  go_wp2_with fail
  go_loopw [8] (fun v8 wr => ∃ j : Nat, v8 = .int .i64 (j : Nat) ∧ j ≤ 6 ∧ (∀ i, i < j → (fun c => KindP.burns c.1) (n.sd i) = false) ∧ Below w.heap.size w wr) (fun v _ => 6 - (intOf v).toNat)
  case atStart => exact ⟨0, rfl, by omega, fun i hi => absurd hi (by omega), Below.refl _ _⟩
  case round =>
    obtain ⟨j, rfl, hj, hall, hbr⟩ := hrel
    have HALL := Lib.hid hall
    have HBR := Lib.hid hbr
    have hz := hbr.size
    by_cases hjl : j < 6
    · have hjI : (j : Int) < 6 := by omega
      have HWR := Lib.hid (show wrap64 ((j : Int) + 1) = ((j + 1 : Nat) : Int) by rw [wr64 (by omega) (by omega)]; omega)
      obtain ⟨⟨k, v⟩, hx⟩ : ∃ c, n.sd j = c := ⟨_, rfl⟩
      have HX := Lib.hid hx
      have c0 := (HB.out.below hbr).cell (g_sk n (d := j) (by omega))
      have c1 := (HB.out.below hbr).cell (g_sl n (d := j) (by omega))
      have lt := (HB.out.below hbr).lt
      rw [hx] at c0 c1
      simp only at c0 c1
      obtain ⟨q, hq⟩ : ∃ q, (fun c => KindP.burns c.1) (k, v) = q := ⟨_, rfl⟩
      have HQ := Lib.hid hq
      clear hall hbr hq hx
      go_wp2_with fail
      refine (burns_c (HT.out.below HBR.out) HQ.out).mono ?_
      rintro e w5 ⟨rfl, hb5⟩
      have HB5 := Lib.hid (below_t HBR.out hb5)
      clear hb5 c0 c1 lt
      cases q with
      | false =>
        go_wp2_with fail
        go_roundw
        case rel =>
          refine ⟨j + 1, by first | rfl | rw [HWR.out] | (congr 1; omega), by omega, fun i hi => ?_, HB5.out⟩
          by_cases hij : i < j
          · exact HALL.out i hij
          · obtain rfl : i = j := by omega
            rw [HX.out]
            exact HQ.out
        case measure =>
          simp only [intOf]
          omega
      | true =>
        have HA := Lib.hid (any_yes (p := fun c => KindP.burns c.1) (f := n.sd) (j := 6) (i := j) hjl (by rw [HX.out]; exact HQ.out))
        go_wp2_with fail
        go_ret
        exact ⟨⟨_, rfl, by rw [HA.out]; simp⟩, HB5.out⟩
    · have hje : j = 6 := by omega
      have hjI : ¬ (j : Int) < 6 := by omega
      have HA := Lib.hid (any_no (p := fun c => KindP.burns c.1) (f := n.sd) (j := 6) (by rw [← hje]; exact hall))
      clear hall hbr hje
      go_wp2_with fail
      go_ret
      exact ⟨⟨_, rfl, by rw [HA.out]; decide⟩, HBR.out⟩
set_option maxRecDepth 100000 in
set_option maxHeartbeats 8000000 in
theorem beside_burns_c {w : World} {n : Nr} {r : Bool} (hT : KindW.Tab w) (hr : anyTo (fun c => KindP.burns c.1) n.sd 6 = r) :
    Calls Tryd.prog 44 #[nv n, .func (.func 46) #[] #[]] w fun e w' => e = .returned (.bool r) ∧ Below w.heap.size w w' := by
  have HT := Lib.hid hT
  have HR := Lib.hid hr
  clear hT hr
  obtain ⟨s, hs⟩ : ∃ s, w.heap.size = s := ⟨_, rfl⟩
  have HS := Lib.hid hs
  go_enter Tryd.func44, Tryd.ntmps44
  go_wp2_with ((with_reducible refine at_slot 2 ?_); refine Classical.byContradiction (fun hG => ?_))
  refine hG ?_
  clear hG
  refine wp_boxN rfl (.tmp 0) rfl rfl ?_
  intro w1 h1 hb1 hz1
  rw [hs] at h1 hz1
  try rw [hs]
  have HB1 := Lib.hid hb1
  have H1 := Lib.hid h1
  have hlt := h1.lt
  clear h1 hb1 hz1 hs
  go_wp2_with fail
  go_enter Tryd.func73, Tryd.ntmps73
  go_wp2_with fail
  refine (idx_burns_c (n := n) (HT.out.below HB1.out) H1.out).mono ?_
  rintro e w2 ⟨⟨v, rfl, hv⟩, hb2⟩
  rw [HR.out] at hv
  have HB2 := Lib.hid (below_t HB1.out hb2)
  clear hb2 hlt
  go_wp2_with fail
  go_ret
  exact ⟨by rw [← hv]; first | rfl | simp, HB2.out⟩
end BurnW
end Go.Proofs.YtlahkmkipciiiaaDoor
