/-
  FallShort: what is pushed is movable, and ends at a cell that yields; what stands behind does not count.
-/
import Derived.Test.YtlcnhommlcdilaaDoorFallAwake
namespace Go.Proofs.YtlcnhommlcdilaaDoor
open Go.RowKit
set_option linter.unusedVariables false
set_option linter.unusedSimpArgs false
namespace FallW
open BlkP RowG FrS PushG CellsW NearW
open FallP hiding Cl
theorem mov_eq (c : Cl) : movable c = (KindP.may c.1 c.2 && KindP.movable c.1) := by
  unfold movable kd
  cases KindP.may c.1 c.2 with
  | true => simp
  | false =>
    simp
    decide
theorem yld_kind {c : Cl} (h : yields c = true) : KindP.yields c.1 = true := by
  unfold yields kd at h
  split at h
  · exact h
  · exact absurd h (by decide)
theorem lead_at {p : Cl → Bool} {l : List Cl} {j : Nat} {x : Cl} (h : j ≤ lead p l) (hx : l[j]? = some x) : p x = decide (j + 1 ≤ lead p l) := by
  by_cases q : j < lead p l
  · rw [lead_all p l j x q hx]
    simp
    omega
  · have e : j = lead p l := by omega
    rw [e] at hx
    rw [lead_end p l x hx]
    simp
    omega
theorem row_cases (l : List Cl) : (∃ m x, row l = (m, 0) ∧ 0 < m ∧ m ≤ 8 ∧ lead movable l = m ∧ l[m]? = some x ∧ yields x = true) ∨ (row l = (0, 5) ∧ lead movable l = 0) ∨ (row l = (0, 12) ∧ lead movable l ≠ 0) := by
  unfold row
  by_cases h0 : lead movable l = 0
  · exact .inr (.inl ⟨by rw [if_pos h0], h0⟩)
  · rw [if_neg h0]
    by_cases h8 : 8 < lead movable l
    · exact .inr (.inr ⟨by rw [if_pos h8], h0⟩)
    · rw [if_neg h8]
      cases hx : l[lead movable l]? with
      | none => exact .inr (.inr ⟨rfl, h0⟩)
      | some x =>
        cases hy : yields x with
        | true => exact .inl ⟨lead movable l, x, by simp [hy], by omega, by omega, rfl, hx, hy⟩
        | false => exact .inr (.inr ⟨by simp [hy], h0⟩)
theorem kmov_b {k : Nat} {b : Bool} (h : KindP.movable k = b) (w : World) (hT : KindW.Tab w) : Calls Tryd.prog 20 #[.int .u8 (k : Int)] w fun e w' => e = .returned (.bool b) ∧ Below w.heap.size w w' := by
  refine (KindW.k_movable k w hT).mono ?_
  rintro e w' ⟨rfl, rfl⟩
  exact ⟨by rw [h], Below.refl _ _⟩
theorem kyld_b {k : Nat} {b : Bool} (h : KindP.yields k = b) (w : World) (hT : KindW.Tab w) : Calls Tryd.prog 21 #[.int .u8 (k : Int)] w fun e w' => e = .returned (.bool b) ∧ Below w.heap.size w w' := by
  refine (KindW.k_yields k w hT).mono ?_
  rintro e w' ⟨rfl, rfl⟩
  exact ⟨by rw [h], Below.refl _ _⟩
set_option maxRecDepth 100000 in
set_option maxHeartbeats 64000000 in
theorem law_short {w : World} {A1 A2 : Option Addr} {n1 n2 c1 c2 : Nat} {l1 l2 : List Cl} (hT : KindW.Tab w) (hR1 : Rd encK w (.slice A1 n1 c1) l1) (hR2 : Rd encK w (.slice A2 n2 c2) l2) (hn1 : l1.length = n1) (hn2 : l2.length = n2) (hb : (n1 + n2) * 2 ≤ 140737488355328) :
    Calls Tryd.prog 7 #[.slice A1 n1 c1, .slice A2 n2 c2] w fun e w' => e = .returned (.bool true) ∧ Below w.heap.size w w' := by
  have HT := Lib.hid hT
  have HR1 := Lib.hid hR1
  have HR2 := Lib.hid hR2
  have HN1 := Lib.hid hn1
  have HN2 := Lib.hid hn2
  have HBB := Lib.hid hb
  have hb1 : n1 ≤ 140737488355328 := by omega
  have hb1I : (n1 : Int) ≤ 140737488355328 := by omega
  obtain ⟨s, hs⟩ : ∃ s, w.heap.size = s := ⟨_, rfl⟩
  have HS := Lib.hid hs
  obtain ⟨t, ht⟩ : ∃ t, lead movable l1 = t := ⟨_, rfl⟩
  have HTT := Lib.hid ht
  have htn : t ≤ n1 := by rw [← ht, ← hn1]; exact lead_le _ _
  obtain ⟨⟨m2, f2⟩, hq2⟩ : ∃ q, row (l1 ++ l2) = q := ⟨_, rfl⟩
  have HQ2 := Lib.hid hq2
  have HCASE := Lib.hid (row_cases l1)
  obtain ⟨⟨m1, f1⟩, hq1⟩ : ∃ q, row l1 = q := ⟨_, rfl⟩
  have HQ1 := Lib.hid hq1
  clear hT hR1 hR2 hn1 hn2 hb ht hq1 hq2
  go_enter Tryd.func7, Tryd.ntmps7
  go_wp2_with fail
  refine (Row_c HT.out HR1.out HN1.out hb1 HQ1.out).mono ?_
  rintro e w1 ⟨rfl, hb1'⟩
  have HB1 := Lib.hid hb1'
  have hz1 := hb1'.size
  clear hb1'
  go_wp2_with ((with_reducible refine at_slot 20 ?_); refine Classical.byContradiction (fun hG => ?_))
  refine hG ?_
  clear hG
  refine wp_appK (B := s) (l0 := []) (l := l1) rfl (.tmp 18) (.tmp 19) rfl (v := .slice none 0 0) (by first | rfl | simp) rfl (Own.nil _ _ _ _) (HR1.out.below HB1.out) HN1.out.symm (by have := HBB.out; simp; omega) (by omega) ?_
  intro v' w2 ho hg
  rw [List.nil_append] at ho
  obtain ⟨A3, c3, rfl, _, _, _⟩ := ho.form (n := n1) HN1.out
  have HB2 := Lib.hid (show Below w.heap.size w w2 from HB1.out.grown hg (by omega) (fun q hq => by cases hq))
  have HO2 := Lib.hid ho
  have hz2 := HB2.out.size
  clear ho hg
  go_wp2_with ((with_reducible refine at_slot 23 ?_); refine Classical.byContradiction (fun hG => ?_))
  refine hG ?_
  clear hG
  refine wp_appK (B := s) (l0 := l1) (l := l2) rfl (.tmp 21) (.tmp 22) rfl (v := .slice A3 n1 c3) (by first | rfl | simp) rfl HO2.out (HR2.out.below HB2.out) HN2.out.symm (by have := HBB.out; rw [HN1.out]; omega) (by omega) ?_
  intro v' w3 ho hg
  obtain ⟨n3, hn3⟩ : ∃ n3, n1 + n2 = n3 := ⟨_, rfl⟩
  have HN3 := Lib.hid (show (l1 ++ l2).length = n3 from by rw [List.length_append, HN1.out, HN2.out]; exact hn3)
  obtain ⟨A4, c4, rfl, _, _, _⟩ := ho.form (n := n3) HN3.out
  have HB3 := Lib.hid (show Below w.heap.size w w3 from HB2.out.grown hg (by omega) (fun q hq => by have := (HO2.out.ge q hq).1; omega))
  have HO3 := Lib.hid ho.rd
  have hb3n : n3 ≤ 140737488355328 := by have := HBB.out; omega
  clear ho hg hn3 hz1 hz2 hs
  go_wp2_with fail
  refine (Row_c (HT.out.below HB3.out) HO3.out HN3.out hb3n HQ2.out).mono ?_
  rintro e w4 ⟨rfl, hb4⟩
  have HB4 := Lib.hid (below_t HB3.out hb4)
  clear hb4
  rcases HCASE.out with ⟨m, x, e1, e2, e3, e4, e5, e6⟩ | ⟨e1, e2⟩ | ⟨e1, e2⟩
  · obtain ⟨rfl, rfl⟩ : m1 = m ∧ f1 = 0 := by
      have q := HQ1.out.symm.trans e1
      simpa using q
    obtain ⟨kx, vx⟩ := x
    have hmn : m1 < n1 := by
      have := (List.getElem?_eq_some_iff.1 e5).1
      rw [HN1.out] at this
      exact this
    obtain ⟨rfl, rfl⟩ : m2 = m1 ∧ f2 = 0 := by
      have e7 := lead_app movable l2 l1 (by rw [e4, HN1.out]; exact hmn)
      have q : row (l1 ++ l2) = (m1, 0) := by
        unfold row
        rw [e7, e4, if_neg (by omega), if_neg (by omega), List.getElem?_append_left (by rw [HN1.out]; exact hmn), e5]
        simp [e6]
      have := HQ2.out.symm.trans q
      simpa using this
    have HX := Lib.hid e5
    have HYK := Lib.hid (show KindP.yields kx = true from yld_kind e6)
    have HALL := Lib.hid (show ∀ i x, i < m2 → l1[i]? = some x → movable x = true from by rw [← e4]; exact fun i x => lead_all movable l1 i x)
    have hmI : (0 : Int) < (m2 : Int) := by omega
    have hm8 : (m2 : Int) ≤ 8 := by omega
    have hmnI : (m2 : Int) < (n1 : Int) := by omega
    clear e1 e4 e5 e6
    go_wp2_with fail
    go_loopw [10] (fun v10 wr => ∃ j : Nat, v10 = .int .i64 (j : Nat) ∧ j ≤ m2 ∧ Below w4.heap.size w4 wr) (fun v _ => m2 - (intOf v).toNat)
    case atStart => exact ⟨0, rfl, by omega, Below.refl _ _⟩
    case round =>
      obtain ⟨j, rfl, hj, hbr⟩ := hrel
      have HBR := Lib.hid hbr
      have HBW := Lib.hid (below_t HB4.out hbr)
      by_cases hjl : j < m2
      · have hjI : (j : Int) < (m2 : Int) := by omega
        have hjn : (j : Int) < (n1 : Int) := by omega
        have hjnN : j < n1 := by omega
        have HWR := Lib.hid (show wrap64 ((j : Int) + 1) = ((j + 1 : Nat) : Int) by rw [wr64 (by omega) (by omega)]; omega)
        obtain ⟨⟨k, v⟩, hx⟩ : ∃ x, l1[j]? = some x := ⟨_, List.getElem?_eq_getElem (by rw [HN1.out]; exact hjnN)⟩
        have HMK := Lib.hid (show KindP.movable k = true from by
          have q := HALL.out j _ hjl hx
          rw [mov_eq] at q
          simp only [Bool.and_eq_true] at q
          exact q.2)
        obtain ⟨b, o, hA, hlt, hc⟩ := (HR1.out.below HBW.out).at hx
        subst hA
        have x0 : wr.cell? ⟨b, o + j * 2, none⟩ = some (.int .u8 (k : Int)) := hc 0 _ rfl
        clear hc hx hbr
        go_wp2_with fail
        refine (kmov_b HMK.out _ (HT.out.below HBW.out)).mono ?_
        rintro e w5 ⟨rfl, hb5⟩
        have HB5 := Lib.hid (below_t HBR.out hb5)
        clear hb5 x0
        go_wp2_with fail
        go_roundw
        case rel => exact ⟨j + 1, by first | rfl | rw [HWR.out], by omega, HB5.out⟩
        case measure =>
          simp only [intOf]
          omega
      · have hje : j = m2 := by omega
        have hjI : ¬ (j : Int) < (m2 : Int) := by omega
        obtain ⟨b, o, hA, hlt, hc⟩ := (HR1.out.below HBW.out).at HX.out
        subst hA
        have x0 : wr.cell? ⟨b, o + m2 * 2, none⟩ = some (.int .u8 (kx : Int)) := hc 0 _ rfl
        clear hc hbr hje
        go_wp2_with fail
        refine (kyld_b HYK.out _ (HT.out.below HBW.out)).mono ?_
        rintro e w5 ⟨rfl, hb5⟩
        have HB5 := Lib.hid (below_t HBW.out hb5)
        clear hb5 x0
        go_wp2_with fail
        refine (awake_c (HT.out.below HB5.out)).mono ?_
        rintro e w6 ⟨rfl, hb6⟩
        have HB6 := Lib.hid (below_t HB5.out hb6)
        clear hb6
        go_wp2_with fail
        go_ret
        exact ⟨by first | rfl | simp, HB6.out⟩
  · obtain ⟨rfl, rfl⟩ : m1 = 0 ∧ f1 = 5 := by
      have q := HQ1.out.symm.trans e1
      simpa using q
    have ht0 : t = 0 := by rw [← HTT.out]; exact e2
    clear e1 e2
    by_cases hn0 : 0 < n1
    · have hn0I : (0 : Int) < (n1 : Int) := by omega
      obtain ⟨rfl, rfl⟩ : m2 = 0 ∧ f2 = 5 := by
        have e7 := lead_app movable l2 l1 (by rw [HTT.out, HN1.out]; omega)
        have q : row (l1 ++ l2) = (0, 5) := by
          unfold row
          rw [e7, HTT.out, if_pos ht0]
        have := HQ2.out.symm.trans q
        simpa using this
      have HT0 := Lib.hid ht0
      clear ht0
      go_wp2_with fail
      go_loopw [11, 12] (fun v11 v12 wr => ∃ (j : Nat) (b : Bool), v12 = .int .i64 (j : Nat) ∧ v11 = .bool b ∧ b = decide (j ≤ t) ∧ j ≤ 9 ∧ Below w4.heap.size w4 wr) (fun _ v _ => 9 - (intOf v).toNat)
      case atStart => exact ⟨0, true, rfl, rfl, by simp, by omega, Below.refl _ _⟩
      case round =>
        obtain ⟨j, b0, rfl, rfl, hb0, hj, hbr⟩ := hrel
        have HBR := Lib.hid hbr
        have HBW := Lib.hid (below_t HB4.out hbr)
        have HB0 := Lib.hid hb0
        clear hb0 hbr
        by_cases hjl : j < 9
        · have hjI : (j : Int) < 9 := by omega
          have HWR := Lib.hid (show wrap64 ((j : Int) + 1) = ((j + 1 : Nat) : Int) by rw [wr64 (by omega) (by omega)]; omega)
          cases b0 with
          | false =>
            have hjt : ¬ j ≤ t := by have := HB0.out; simpa using this
            go_wp2_with fail
            go_roundw
            case rel => exact ⟨j + 1, false, by first | rfl | rw [HWR.out], rfl, by simp; omega, by omega, HBR.out⟩
            case measure =>
              simp only [intOf]
              omega
          | true =>
            have hjt : j ≤ t := by have := HB0.out; simpa using this
            by_cases hjn : j < n1
            · have hjnI : (j : Int) < (n1 : Int) := by omega
              obtain ⟨⟨k, v⟩, hx⟩ : ∃ x, l1[j]? = some x := ⟨_, List.getElem?_eq_getElem (by rw [HN1.out]; exact hjn)⟩
              have HAT := Lib.hid (show (KindP.may k v && KindP.movable k) = decide (j + 1 ≤ t) from by
                have q := lead_at (p := movable) (by rw [HTT.out]; exact hjt) hx
                rw [mov_eq, HTT.out] at q
                exact q)
              obtain ⟨b, o, hA, hlt, hc⟩ := (HR1.out.below HBW.out).at hx
              subst hA
              have x0 : wr.cell? ⟨b, o + j * 2, none⟩ = some (.int .u8 (k : Int)) := hc 0 _ rfl
              have x1 : wr.cell? ⟨b, o + j * 2 + 1, none⟩ = some (.int .u8 (v : Int)) := hc 1 _ rfl
              obtain ⟨bm, hm⟩ : ∃ bm, KindP.may k v = bm := ⟨_, rfl⟩
              obtain ⟨bk, hk⟩ : ∃ bk, KindP.movable k = bk := ⟨_, rfl⟩
              have HM := Lib.hid hm
              have HK := Lib.hid hk
              clear hc hx hm hk
              go_wp2_with fail
              refine (KindW.k_may_b HM.out _ (HT.out.below HBW.out)).mono ?_
              rintro e w5 ⟨rfl, hb5⟩
              have HB5 := Lib.hid (below_t HBR.out hb5)
              have HBW5 := Lib.hid (below_t HBW.out hb5)
              have y0 := (hb5.cell (p := ⟨b, o + j * 2, none⟩) hlt).trans x0
              have hlt5 : b < w5.heap.size := Nat.lt_of_lt_of_le hlt hb5.size
              clear hb5 x0 x1
              cases bm with
              | false =>
                go_wp2_with fail
                go_roundw
                case rel => exact ⟨j + 1, false, by first | rfl | rw [HWR.out], rfl, by rw [← HAT.out, HM.out]; rfl, by omega, HB5.out⟩
                case measure =>
                  simp only [intOf]
                  omega
              | true =>
                go_wp2_with fail
                refine (kmov_b HK.out _ (HT.out.below HBW5.out)).mono ?_
                rintro e w6 ⟨rfl, hb6⟩
                have HB6 := Lib.hid (below_t HB5.out hb6)
                clear hb6 y0
                cases bk with
                | false =>
                  go_wp2_with fail
                  go_roundw
                  case rel => exact ⟨j + 1, false, by first | rfl | rw [HWR.out], rfl, by rw [← HAT.out, HM.out, HK.out]; rfl, by omega, HB6.out⟩
                  case measure =>
                    simp only [intOf]
                    omega
                | true =>
                  go_wp2_with fail
                  go_roundw
                  case rel => exact ⟨j + 1, true, by first | rfl | rw [HWR.out], rfl, by rw [← HAT.out, HM.out, HK.out]; rfl, by omega, HB6.out⟩
                  case measure =>
                    simp only [intOf]
                    omega
            · have hjnI : ¬ (j : Int) < (n1 : Int) := by omega
              go_wp2_with fail
              go_roundw
              case rel => exact ⟨j + 1, false, by first | rfl | rw [HWR.out], rfl, by simp; omega, by omega, HBR.out⟩
              case measure =>
                simp only [intOf]
                omega
        · have hje : j = 9 := by omega
          have hjI : ¬ (j : Int) < 9 := by omega
          have HB9 := Lib.hid (show b0 = decide (9 ≤ t) from by rw [← hje]; exact HB0.out)
          clear hje
          cases b0 with
          | true =>
            have h9 : 9 ≤ t := by have := HB9.out; simpa using this
            have := HT0.out
            exfalso
            omega
          | false =>
            have h9 : ¬ 9 ≤ t := by have := HB9.out; simpa using this
            go_wp2_with fail
            refine (awake_c (HT.out.below HBW.out)).mono ?_
            rintro e w6 ⟨rfl, hb6⟩
            have HB6 := Lib.hid (below_t HBW.out hb6)
            clear hb6
            go_wp2_with fail
            go_ret
            exact ⟨by first | rfl | simp, HB6.out⟩
    · have hn0I : ¬ (0 : Int) < (n1 : Int) := by omega
      have HT0 := Lib.hid ht0
      clear ht0
      go_wp2_with fail
      go_loopw [11, 12] (fun v11 v12 wr => ∃ (j : Nat) (b : Bool), v12 = .int .i64 (j : Nat) ∧ v11 = .bool b ∧ b = decide (j ≤ t) ∧ j ≤ 9 ∧ Below w4.heap.size w4 wr) (fun _ v _ => 9 - (intOf v).toNat)
      case atStart => exact ⟨0, true, rfl, rfl, by simp, by omega, Below.refl _ _⟩
      case round =>
        obtain ⟨j, b0, rfl, rfl, hb0, hj, hbr⟩ := hrel
        have HBR := Lib.hid hbr
        have HBW := Lib.hid (below_t HB4.out hbr)
        have HB0 := Lib.hid hb0
        clear hb0 hbr
        by_cases hjl : j < 9
        · have hjI : (j : Int) < 9 := by omega
          have HWR := Lib.hid (show wrap64 ((j : Int) + 1) = ((j + 1 : Nat) : Int) by rw [wr64 (by omega) (by omega)]; omega)
          cases b0 with
          | false =>
            have hjt : ¬ j ≤ t := by have := HB0.out; simpa using this
            go_wp2_with fail
            go_roundw
            case rel => exact ⟨j + 1, false, by first | rfl | rw [HWR.out], rfl, by simp; omega, by omega, HBR.out⟩
            case measure =>
              simp only [intOf]
              omega
          | true =>
            have hjt : j ≤ t := by have := HB0.out; simpa using this
            by_cases hjn : j < n1
            · exfalso
              omega
            · have hjnI : ¬ (j : Int) < (n1 : Int) := by omega
              go_wp2_with fail
              go_roundw
              case rel => exact ⟨j + 1, false, by first | rfl | rw [HWR.out], rfl, by simp; omega, by omega, HBR.out⟩
              case measure =>
                simp only [intOf]
                omega
        · have hje : j = 9 := by omega
          have hjI : ¬ (j : Int) < 9 := by omega
          have HB9 := Lib.hid (show b0 = decide (9 ≤ t) from by rw [← hje]; exact HB0.out)
          clear hje
          cases b0 with
          | true =>
            have h9 : 9 ≤ t := by have := HB9.out; simpa using this
            have := HT0.out
            exfalso
            omega
          | false =>
            have h9 : ¬ 9 ≤ t := by have := HB9.out; simpa using this
            go_wp2_with fail
            refine (awake_c (HT.out.below HBW.out)).mono ?_
            rintro e w6 ⟨rfl, hb6⟩
            have HB6 := Lib.hid (below_t HBW.out hb6)
            clear hb6
            go_wp2_with fail
            go_ret
            exact ⟨by first | rfl | simp, HB6.out⟩
  · obtain ⟨rfl, rfl⟩ : m1 = 0 ∧ f1 = 12 := by
      have q := HQ1.out.symm.trans e1
      simpa using q
    have HC9 := Lib.hid (show 9 ≤ t → m2 = 0 ∧ f2 = 12 from fun h9 => by
      have e7 := lead_le_app movable l2 l1
      rw [HTT.out] at e7
      have q : row (l1 ++ l2) = (0, 12) := by
        unfold row
        rw [if_neg (by omega), if_pos (by omega)]
      have := HQ2.out.symm.trans q
      simpa using this)
    clear e1 e2
    go_wp2_with fail
    go_loopw [11, 12] (fun v11 v12 wr => ∃ (j : Nat) (b : Bool), v12 = .int .i64 (j : Nat) ∧ v11 = .bool b ∧ b = decide (j ≤ t) ∧ j ≤ 9 ∧ Below w4.heap.size w4 wr) (fun _ v _ => 9 - (intOf v).toNat)
    case atStart => exact ⟨0, true, rfl, rfl, by simp, by omega, Below.refl _ _⟩
    case round =>
      obtain ⟨j, b0, rfl, rfl, hb0, hj, hbr⟩ := hrel
      have HBR := Lib.hid hbr
      have HBW := Lib.hid (below_t HB4.out hbr)
      have HB0 := Lib.hid hb0
      clear hb0 hbr
      by_cases hjl : j < 9
      · have hjI : (j : Int) < 9 := by omega
        have HWR := Lib.hid (show wrap64 ((j : Int) + 1) = ((j + 1 : Nat) : Int) by rw [wr64 (by omega) (by omega)]; omega)
        cases b0 with
        | false =>
          have hjt : ¬ j ≤ t := by have := HB0.out; simpa using this
          go_wp2_with fail
          go_roundw
          case rel => exact ⟨j + 1, false, by first | rfl | rw [HWR.out], rfl, by simp; omega, by omega, HBR.out⟩
          case measure =>
            simp only [intOf]
            omega
        | true =>
          have hjt : j ≤ t := by have := HB0.out; simpa using this
          by_cases hjn : j < n1
          · have hjnI : (j : Int) < (n1 : Int) := by omega
            obtain ⟨⟨k, v⟩, hx⟩ : ∃ x, l1[j]? = some x := ⟨_, List.getElem?_eq_getElem (by rw [HN1.out]; exact hjn)⟩
            have HAT := Lib.hid (show (KindP.may k v && KindP.movable k) = decide (j + 1 ≤ t) from by
              have q := lead_at (p := movable) (by rw [HTT.out]; exact hjt) hx
              rw [mov_eq, HTT.out] at q
              exact q)
            obtain ⟨b, o, hA, hlt, hc⟩ := (HR1.out.below HBW.out).at hx
            subst hA
            have x0 : wr.cell? ⟨b, o + j * 2, none⟩ = some (.int .u8 (k : Int)) := hc 0 _ rfl
            have x1 : wr.cell? ⟨b, o + j * 2 + 1, none⟩ = some (.int .u8 (v : Int)) := hc 1 _ rfl
            obtain ⟨bm, hm⟩ : ∃ bm, KindP.may k v = bm := ⟨_, rfl⟩
            obtain ⟨bk, hk⟩ : ∃ bk, KindP.movable k = bk := ⟨_, rfl⟩
            have HM := Lib.hid hm
            have HK := Lib.hid hk
            clear hc hx hm hk
            go_wp2_with fail
            refine (KindW.k_may_b HM.out _ (HT.out.below HBW.out)).mono ?_
            rintro e w5 ⟨rfl, hb5⟩
            have HB5 := Lib.hid (below_t HBR.out hb5)
            have HBW5 := Lib.hid (below_t HBW.out hb5)
            have y0 := (hb5.cell (p := ⟨b, o + j * 2, none⟩) hlt).trans x0
            have hlt5 : b < w5.heap.size := Nat.lt_of_lt_of_le hlt hb5.size
            clear hb5 x0 x1
            cases bm with
            | false =>
              go_wp2_with fail
              go_roundw
              case rel => exact ⟨j + 1, false, by first | rfl | rw [HWR.out], rfl, by rw [← HAT.out, HM.out]; rfl, by omega, HB5.out⟩
              case measure =>
                simp only [intOf]
                omega
            | true =>
              go_wp2_with fail
              refine (kmov_b HK.out _ (HT.out.below HBW5.out)).mono ?_
              rintro e w6 ⟨rfl, hb6⟩
              have HB6 := Lib.hid (below_t HB5.out hb6)
              clear hb6 y0
              cases bk with
              | false =>
                go_wp2_with fail
                go_roundw
                case rel => exact ⟨j + 1, false, by first | rfl | rw [HWR.out], rfl, by rw [← HAT.out, HM.out, HK.out]; rfl, by omega, HB6.out⟩
                case measure =>
                  simp only [intOf]
                  omega
              | true =>
                go_wp2_with fail
                go_roundw
                case rel => exact ⟨j + 1, true, by first | rfl | rw [HWR.out], rfl, by rw [← HAT.out, HM.out, HK.out]; rfl, by omega, HB6.out⟩
                case measure =>
                  simp only [intOf]
                  omega
          · have hjnI : ¬ (j : Int) < (n1 : Int) := by omega
            go_wp2_with fail
            go_roundw
            case rel => exact ⟨j + 1, false, by first | rfl | rw [HWR.out], rfl, by simp; omega, by omega, HBR.out⟩
            case measure =>
              simp only [intOf]
              omega
      · have hje : j = 9 := by omega
        have hjI : ¬ (j : Int) < 9 := by omega
        have HB9 := Lib.hid (show b0 = decide (9 ≤ t) from by rw [← hje]; exact HB0.out)
        clear hje
        cases b0 with
        | true =>
          have h9 : 9 ≤ t := by have := HB9.out; simpa using this
          obtain ⟨rfl, rfl⟩ := HC9.out h9
          go_wp2_with fail
          refine (awake_c (HT.out.below HBW.out)).mono ?_
          rintro e w6 ⟨rfl, hb6⟩
          have HB6 := Lib.hid (below_t HBW.out hb6)
          clear hb6
          go_wp2_with fail
          go_ret
          exact ⟨by first | rfl | simp, HB6.out⟩
        | false =>
          have h9 : ¬ 9 ≤ t := by have := HB9.out; simpa using this
          go_wp2_with fail
          refine (awake_c (HT.out.below HBW.out)).mono ?_
          rintro e w6 ⟨rfl, hb6⟩
          have HB6 := Lib.hid (below_t HBW.out hb6)
          clear hb6
          go_wp2_with fail
          go_ret
          exact ⟨by first | rfl | simp, HB6.out⟩
end FallW
end Go.Proofs.YtlcnhommlcdilaaDoor
