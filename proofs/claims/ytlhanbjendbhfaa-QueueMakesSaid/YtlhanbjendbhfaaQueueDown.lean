/-
  heap.down.
-/
import Derived.Test.YtlhanbjendbhfaaQueueUp
namespace Go.Proofs.Ytlhanbjendbhfaa
open Go.RowKit
set_option linter.unusedVariables false
set_option linter.unusedSimpArgs false
namespace QueW
open BlkP RowG FrS PushG HeapP ChunkW

/-- What down leaves: how far it came, the ticks. -/
structure DownR (w : World) (B pb g n c m i0 : Nat) (l L : List Tick) (J : (Nat → Tick) → Nat → Prop) (q : Nat) (l' : List Tick) (W' : Nat → Nat) (w' : World) : Prop where
  pd : Pd w' B pb (.slice (some ⟨g, 0, none⟩) n c) l' W'
  ws : Ws l' W' L
  len : l'.length = n
  j : J (gt l') q
  le : i0 ≤ q
  le2 : q ≤ 5000
  same : q = i0 → l' = l
  keep : ∀ k, m ≤ k → gt l' k = gt l k
  fr : Fr (Sp pb (.slice (some ⟨g, 0, none⟩) n c)) w w'
def Kids (m q : Nat) (f : Nat → Tick) : Prop := ∀ k, 0 < k → k < m → par k = q → ¬ tl (f k) (f q)
/-- What a step down keeps. -/
def Steps (m : Nat) (J : (Nat → Tick) → Nat → Prop) : Prop := ∀ f q j, J f q → 0 < j → j < m → par j = q → (∀ k, 0 < k → k < m → par k = q → ¬ tl (f k) (f j)) → tl (f j) (f q) → J (sw f q j) j
set_option maxRecDepth 100000 in
set_option maxHeartbeats 16000000 in
theorem down_c {w : World} {pb B g n c i0 m : Nat} {l L : List Tick} {W : Nat → Nat} (J : (Nat → Tick) → Nat → Prop) (h : Pd w B pb (.slice (some ⟨g, 0, none⟩) n c) l W) (hw : Ws l W L) (hn : l.length = n) (hm : m ≤ n) (hi0 : i0 ≤ 5000) (hi1 : 0 < m → i0 < m) (hJ : J (gt l) i0) (hS : Steps m J) :
    Calls Try.prog 48 #[.iface 55 (.pointer (some ⟨pb, 0, none⟩)), .int .i64 (i0 : Int), .int .i64 (m : Int)] w fun e w' => ∃ (q : Nat) (l' : List Tick) (W' : Nat → Nat), e = .returned (.bool (decide (i0 < q))) ∧ DownR w B pb g n c m i0 l L J q l' W' w' ∧ Kids m q (gt l') := by
  have hn5 : n ≤ 4096 := by rw [← hn]; exact hw.few
  have R0 := Lib.hid (show DownR w B pb g n c m i0 l L J i0 l W w from ⟨h, hw, hn, hJ, Nat.le_refl _, hi0, fun _ => rfl, fun _ _ => rfl, Fr.refl _ w⟩)
  have hstep := Lib.hid hS
  clear h hw hn hJ hS
  go_enter Try.func48, Try.ntmps48
  go_wp2_with fail
  go_loopw [7, 8, 9, 10] (fun v7 _ _ _ wr => ∃ (q : Nat) (l1 : List Tick) (W1 : Nat → Nat), v7 = .int .i64 (q : Nat) ∧ DownR w B pb g n c m i0 l L J q l1 W1 wr) (fun v _ _ _ _ => 5001 - (intOf v).toNat)
  case atStart => exact ⟨i0, l, W, rfl, R0.out⟩
  case round =>
    obtain ⟨q, l1, W1, rfl, hr1⟩ := hrel
    have R1 := Lib.hid hr1
    have hq5 := hr1.le2
    have hq0 := hr1.le
    clear hr1
    obtain ⟨j1, hj1⟩ : ∃ j1, 2 * q + 1 = j1 := ⟨_, rfl⟩
    have hq1 : 2 * (q : Int) + 1 = (j1 : Int) := by omega
    have hqI : (q : Int) ≤ 5000 := by omega
    have hm5 : (m : Int) ≤ 4096 := by omega
    have HJ1 := Lib.hid hj1
    by_cases hA : m ≤ j1
    · have hAI : (m : Int) ≤ (j1 : Int) := by omega
      clear hj1
      go_wp2_with fail
      go_ret
      exact ⟨q, l1, W1, rfl, R1.out, fun k h1 h2 h3 _ => by
        have e1 := HJ1.out
        rcases (par_kid h1).1 h3 with e | e <;> omega⟩
    have hAI : ¬ (m : Int) ≤ (j1 : Int) := by omega
    have hA2 : (j1 : Int) < (m : Int) := by omega
    obtain ⟨j2, hj2⟩ : ∃ j2, j1 + 1 = j2 := ⟨_, rfl⟩
    have hj2I : (j1 : Int) + 1 = (j2 : Int) := by omega
    have HJ2 := Lib.hid hj2
    have hqm : q < m := by omega
    have hj1n : j1 < n := by omega
    have gq0 := gt_some (l := l1) (k := q) (by rw [R1.out.len]; omega)
    have iq0 := R1.out.ws.ix (k := q) (by rw [R1.out.len]; omega)
    obtain ⟨⟨tq, dq⟩, htq⟩ : ∃ t, gt l1 q = t := ⟨_, rfl⟩
    rw [htq] at gq0 iq0
    obtain ⟨aq, rfl⟩ : ∃ aq : Nat, tq = (aq : Int) := ⟨tq.toNat, by have := iq0.1; omega⟩
    have haq : aq < 4096 := by have := iq0.2; omega
    have Gq := Lib.hid gq0
    have Tq := Lib.hid htq
    clear gq0 iq0 htq
    have g10 := gt_some (l := l1) (k := j1) (by rw [R1.out.len]; omega)
    have i10 := R1.out.ws.ix (k := j1) (by rw [R1.out.len]; omega)
    obtain ⟨⟨t1, d1⟩, ht1⟩ : ∃ t, gt l1 j1 = t := ⟨_, rfl⟩
    rw [ht1] at g10 i10
    obtain ⟨a1, rfl⟩ : ∃ a1 : Nat, t1 = (a1 : Int) := ⟨t1.toNat, by have := i10.1; omega⟩
    have ha1 : a1 < 4096 := by have := i10.2; omega
    have G1 := Lib.hid g10
    have T1 := Lib.hid ht1
    clear g10 i10 ht1
    by_cases hB : j2 < m
    · have hBI : (j2 : Int) < (m : Int) := by omega
      have g20 := gt_some (l := l1) (k := j2) (by rw [R1.out.len]; omega)
      have i20 := R1.out.ws.ix (k := j2) (by rw [R1.out.len]; omega)
      obtain ⟨⟨t2, d2⟩, ht2⟩ : ∃ t, gt l1 j2 = t := ⟨_, rfl⟩
      rw [ht2] at g20 i20
      obtain ⟨a2, rfl⟩ : ∃ a2 : Nat, t2 = (a2 : Int) := ⟨t2.toNat, by have := i20.1; omega⟩
      have ha2 : a2 < 4096 := by have := i20.2; omega
      have G2 := Lib.hid g20
      have T2 := Lib.hid ht2
      clear g20 i20 ht2
      clear hj1 hj2
      cases hb0 : tlB ((a2 : Int), d2) ((a1 : Int), d1) with
      | true =>
        have HB0 := Lib.hid hb0
        have hml := m_less R1.out.pd.cell0
        clear hb0
        go_wp2_with fail
        refine (less_c R1.out.pd.row.rd R1.out.len (by omega) G2.out G1.out).mono ?_
        rw [HB0.out]
        rintro e w1 ⟨rfl, hb1⟩
        have PD := Lib.hid (R1.out.pd.below hb1)
        have FR := Lib.hid (R1.out.fr.trans (Fr.below _ hb1) (fun i hi => .inl hi))
        clear hb1 hml
        have HMIN := Lib.hid (show ∀ k, 0 < k → k < m → par k = q → ¬ tl (gt l1 k) (gt l1 j2) from by
          have e1 := HJ1.out
          have e2 := HJ2.out
          refine kids_min tl_ord (.inr ⟨by omega, ?_⟩) tl_irr
          have hz := tlB_iff.1 HB0.out
          rw [← T2.out, ← T1.out] at hz
          rw [show 2 * q + 2 = j2 by omega, show 2 * q + 1 = j1 by omega]
          exact hz
        )
        cases hb : tlB ((a2 : Int), d2) ((aq : Int), dq) with
        | false =>
          have HB := Lib.hid hb
          have hml := m_less (Pd.cell0 PD.out)
          clear hb
          go_wp2_with fail
          refine (less_c (Pd.row PD.out).rd R1.out.len (by omega) G2.out Gq.out).mono ?_
          rw [HB.out]
          rintro e x1 ⟨rfl, hx⟩
          have X := Lib.hid hx
          clear hx
          go_wp2_with fail
          go_ret
          refine ⟨q, l1, W1, rfl, ⟨Pd.below PD.out X.out, R1.out.ws, R1.out.len, R1.out.j, R1.out.le, R1.out.le2, R1.out.same, R1.out.keep, Fr.trans FR.out (Fr.below _ X.out) (fun i hi => .inl hi)⟩, fun k h1 h2 h3 h4 => ?_⟩
          have hm := HMIN.out
          have h5 := hm k h1 h2 h3
          have h6 := tlB_not.1 HB.out
          rw [← T2.out, ← Tq.out] at h6
          exact tl_ord.thru h6 h5 h4
        | true =>
          have HB := Lib.hid hb
          have hml := m_less (Pd.cell0 PD.out)
          have hsw := m_swap pb
          clear hb
          go_wp2_with fail
          refine (less_c (Pd.row PD.out).rd R1.out.len (by omega) G2.out Gq.out).mono ?_
          rw [HB.out]
          rintro e x1 ⟨rfl, hx⟩
          have X := Lib.hid hx
          clear hx hml
          go_wp2_with fail
          refine (Swap_c (Pd.below PD.out X.out) R1.out.len (by omega) Gq.out G2.out haq ha2).mono ?_
          rintro e y1 ⟨rfl, hp2, hf2⟩
          have P2 := Lib.hid hp2
          have F2 := Lib.hid hf2
          clear hp2 hf2
          go_wp2_with fail
          go_roundw
          case measure =>
            simp only [intOf]
            simp
            have e1 := HJ1.out
            have e2 := HJ2.out
            omega
          case rel =>
            refine ⟨j2, swp l1 q j2, _, rfl, P2.out, ?_, by rw [swp_len, R1.out.len], ?_, by have := R1.out.le; have e1 := HJ1.out; have e2 := HJ2.out; omega, by have e1 := HJ1.out; have e2 := HJ2.out; omega, fun h => by have := R1.out.le; have e1 := HJ1.out; have e2 := HJ2.out; omega, fun k hk => ?_, (Fr.trans FR.out (Fr.below _ X.out) (fun i hi => .inl hi)).trans F2.out (fun i hi => .inl hi)⟩
            · have z := R1.out.ws.swap (i := q) (j := j2) (by rw [R1.out.len]; omega) (by rw [R1.out.len]; omega)
              rw [T2.out, Tq.out] at z
              exact z
            · rw [swp_gt (by rw [R1.out.len]; omega) (by rw [R1.out.len]; omega)]
              refine hstep.out _ q j2 R1.out.j (by have e1 := HJ1.out; omega) (by omega) (by have e1 := HJ1.out; have e2 := HJ2.out; unfold par; omega) (HMIN.out) ?_
              rw [T2.out, Tq.out]
              exact tlB_iff.1 HB.out
            · rw [swp_gt (by rw [R1.out.len]; omega) (by rw [R1.out.len]; omega), sw_o _ (by have e1 := HJ1.out; have e2 := HJ2.out; omega) (by have e1 := HJ1.out; have e2 := HJ2.out; omega)]
              exact R1.out.keep k hk
      | false =>
        have HB0 := Lib.hid hb0
        have hml := m_less R1.out.pd.cell0
        clear hb0
        go_wp2_with fail
        refine (less_c R1.out.pd.row.rd R1.out.len (by omega) G2.out G1.out).mono ?_
        rw [HB0.out]
        rintro e w1 ⟨rfl, hb1⟩
        have PD := Lib.hid (R1.out.pd.below hb1)
        have FR := Lib.hid (R1.out.fr.trans (Fr.below _ hb1) (fun i hi => .inl hi))
        clear hb1 hml
        have HMIN := Lib.hid (show ∀ k, 0 < k → k < m → par k = q → ¬ tl (gt l1 k) (gt l1 j1) from by
          have e1 := HJ1.out
          have e2 := HJ2.out
          refine kids_min tl_ord (.inl ⟨by omega, fun _ => ?_⟩) tl_irr
          have hz := tlB_not.1 HB0.out
          rw [← T2.out, ← T1.out] at hz
          rw [show 2 * q + 2 = j2 by omega, show 2 * q + 1 = j1 by omega]
          exact hz
        )
        cases hb : tlB ((a1 : Int), d1) ((aq : Int), dq) with
        | false =>
          have HB := Lib.hid hb
          have hml := m_less (Pd.cell0 PD.out)
          clear hb
          go_wp2_with fail
          refine (less_c (Pd.row PD.out).rd R1.out.len (by omega) G1.out Gq.out).mono ?_
          rw [HB.out]
          rintro e x2 ⟨rfl, hx⟩
          have X := Lib.hid hx
          clear hx
          go_wp2_with fail
          go_ret
          refine ⟨q, l1, W1, rfl, ⟨Pd.below PD.out X.out, R1.out.ws, R1.out.len, R1.out.j, R1.out.le, R1.out.le2, R1.out.same, R1.out.keep, Fr.trans FR.out (Fr.below _ X.out) (fun i hi => .inl hi)⟩, fun k h1 h2 h3 h4 => ?_⟩
          have hm := HMIN.out
          have h5 := hm k h1 h2 h3
          have h6 := tlB_not.1 HB.out
          rw [← T1.out, ← Tq.out] at h6
          exact tl_ord.thru h6 h5 h4
        | true =>
          have HB := Lib.hid hb
          have hml := m_less (Pd.cell0 PD.out)
          have hsw := m_swap pb
          clear hb
          go_wp2_with fail
          refine (less_c (Pd.row PD.out).rd R1.out.len (by omega) G1.out Gq.out).mono ?_
          rw [HB.out]
          rintro e x2 ⟨rfl, hx⟩
          have X := Lib.hid hx
          clear hx hml
          go_wp2_with fail
          refine (Swap_c (Pd.below PD.out X.out) R1.out.len (by omega) Gq.out G1.out haq ha1).mono ?_
          rintro e y2 ⟨rfl, hp2, hf2⟩
          have P2 := Lib.hid hp2
          have F2 := Lib.hid hf2
          clear hp2 hf2
          go_wp2_with fail
          go_roundw
          case measure =>
            simp only [intOf]
            simp
            have e1 := HJ1.out
            have e2 := HJ2.out
            omega
          case rel =>
            refine ⟨j1, swp l1 q j1, _, rfl, P2.out, ?_, by rw [swp_len, R1.out.len], ?_, by have := R1.out.le; have e1 := HJ1.out; have e2 := HJ2.out; omega, by have e1 := HJ1.out; have e2 := HJ2.out; omega, fun h => by have := R1.out.le; have e1 := HJ1.out; have e2 := HJ2.out; omega, fun k hk => ?_, (Fr.trans FR.out (Fr.below _ X.out) (fun i hi => .inl hi)).trans F2.out (fun i hi => .inl hi)⟩
            · have z := R1.out.ws.swap (i := q) (j := j1) (by rw [R1.out.len]; omega) (by rw [R1.out.len]; omega)
              rw [T1.out, Tq.out] at z
              exact z
            · rw [swp_gt (by rw [R1.out.len]; omega) (by rw [R1.out.len]; omega)]
              refine hstep.out _ q j1 R1.out.j (by have e1 := HJ1.out; omega) (by omega) (by have e1 := HJ1.out; have e2 := HJ2.out; unfold par; omega) (HMIN.out) ?_
              rw [T1.out, Tq.out]
              exact tlB_iff.1 HB.out
            · rw [swp_gt (by rw [R1.out.len]; omega) (by rw [R1.out.len]; omega), sw_o _ (by have e1 := HJ1.out; have e2 := HJ2.out; omega) (by have e1 := HJ1.out; have e2 := HJ2.out; omega)]
              exact R1.out.keep k hk
    · have hBI : ¬ (j2 : Int) < (m : Int) := by omega
      clear hj1 hj2
      have HMIN := Lib.hid (show ∀ k, 0 < k → k < m → par k = q → ¬ tl (gt l1 k) (gt l1 j1) from by
        have e1 := HJ1.out
        have e2 := HJ2.out
        refine kids_min tl_ord (.inl ⟨by omega, fun hz => by omega⟩) tl_irr
      )
      cases hb : tlB ((a1 : Int), d1) ((aq : Int), dq) with
      | false =>
        have HB := Lib.hid hb
        have hml := m_less (Pd.cell0 R1.out.pd)
        clear hb
        go_wp2_with fail
        refine (less_c (Pd.row R1.out.pd).rd R1.out.len (by omega) G1.out Gq.out).mono ?_
        rw [HB.out]
        rintro e x3 ⟨rfl, hx⟩
        have X := Lib.hid hx
        clear hx
        go_wp2_with fail
        go_ret
        refine ⟨q, l1, W1, rfl, ⟨Pd.below R1.out.pd X.out, R1.out.ws, R1.out.len, R1.out.j, R1.out.le, R1.out.le2, R1.out.same, R1.out.keep, Fr.trans R1.out.fr (Fr.below _ X.out) (fun i hi => .inl hi)⟩, fun k h1 h2 h3 h4 => ?_⟩
        have hm := HMIN.out
        have h5 := hm k h1 h2 h3
        have h6 := tlB_not.1 HB.out
        rw [← T1.out, ← Tq.out] at h6
        exact tl_ord.thru h6 h5 h4
      | true =>
        have HB := Lib.hid hb
        have hml := m_less (Pd.cell0 R1.out.pd)
        have hsw := m_swap pb
        clear hb
        go_wp2_with fail
        refine (less_c (Pd.row R1.out.pd).rd R1.out.len (by omega) G1.out Gq.out).mono ?_
        rw [HB.out]
        rintro e x3 ⟨rfl, hx⟩
        have X := Lib.hid hx
        clear hx hml
        go_wp2_with fail
        refine (Swap_c (Pd.below R1.out.pd X.out) R1.out.len (by omega) Gq.out G1.out haq ha1).mono ?_
        rintro e y3 ⟨rfl, hp2, hf2⟩
        have P2 := Lib.hid hp2
        have F2 := Lib.hid hf2
        clear hp2 hf2
        go_wp2_with fail
        go_roundw
        case measure =>
          simp only [intOf]
          simp
          have e1 := HJ1.out
          have e2 := HJ2.out
          omega
        case rel =>
          refine ⟨j1, swp l1 q j1, _, rfl, P2.out, ?_, by rw [swp_len, R1.out.len], ?_, by have := R1.out.le; have e1 := HJ1.out; have e2 := HJ2.out; omega, by have e1 := HJ1.out; have e2 := HJ2.out; omega, fun h => by have := R1.out.le; have e1 := HJ1.out; have e2 := HJ2.out; omega, fun k hk => ?_, (Fr.trans R1.out.fr (Fr.below _ X.out) (fun i hi => .inl hi)).trans F2.out (fun i hi => .inl hi)⟩
          · have z := R1.out.ws.swap (i := q) (j := j1) (by rw [R1.out.len]; omega) (by rw [R1.out.len]; omega)
            rw [T1.out, Tq.out] at z
            exact z
          · rw [swp_gt (by rw [R1.out.len]; omega) (by rw [R1.out.len]; omega)]
            refine hstep.out _ q j1 R1.out.j (by have e1 := HJ1.out; omega) (by omega) (by have e1 := HJ1.out; have e2 := HJ2.out; unfold par; omega) (HMIN.out) ?_
            rw [T1.out, Tq.out]
            exact tlB_iff.1 HB.out
          · rw [swp_gt (by rw [R1.out.len]; omega) (by rw [R1.out.len]; omega), sw_o _ (by have e1 := HJ1.out; have e2 := HJ2.out; omega) (by have e1 := HJ1.out; have e2 := HJ2.out; omega)]
            exact R1.out.keep k hk
end QueW
end Go.Proofs.Ytlhanbjendbhfaa
