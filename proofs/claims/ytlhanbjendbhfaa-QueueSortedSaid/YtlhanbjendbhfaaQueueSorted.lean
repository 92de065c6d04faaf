/-
  QueueSorted.
-/
import Derived.Test.YtlhanbjendbhfaaQueueWorks
import Derived.Test.YtlhanbjendbhfaaQueueLawP
import Derived.BigQuiet
namespace Go.Proofs.Ytlhanbjendbhfaa
open Go.RowKit
set_option linter.unusedVariables false
set_option linter.unusedSimpArgs false
namespace QueW
open BlkP RowG FrS PushG HeapP ChunkW
section
variable {w : World}
set_option maxRecDepth 100000 in
set_option maxHeartbeats 16000000 in
theorem law_sorted {A : Option Addr} {n c : Nat} {l : List Tick} (hR : Rd encT w (.slice A n c) l) (hn : l.length = n) :
    Calls Try.prog 5 #[.slice A n c] w fun e w' => e = .returned (.bool true) ∧ Below w.heap.size w w' := by
  have HR := Lib.hid hR
  have HN := Lib.hid hn
  obtain ⟨m, hm⟩ : ∃ m, min n 200 = m := ⟨_, rfl⟩
  have hmn : m ≤ n := by omega
  have hmK : m ≤ 200 := by omega
  have hmI : min (n : Int) 200 = (m : Int) := by omega
  have HMI := Lib.hid hmI
  clear hR hn hm hmI
  go_enter Try.func5, Try.ntmps5
  go_wp2_with ((with_reducible refine at_slot 17 ?_); refine Classical.byContradiction (fun hG => ?_))
  refine hG ?_
  clear hG
  refine wp_uptoR rfl (.tmp 13) (.tmp 16) rfl (n := m) rfl ?_ HR.out (by rw [HN.out]; exact hmn) ?_
  · show Value.int .i64 _ = _
    rw [← HMI.out]
  intro hup
  have U0 := Lib.hid hup
  obtain ⟨l0, hl0⟩ : ∃ l0, l.take m = l0 := ⟨_, rfl⟩
  have HL0 := Lib.hid (show l0.length = m by rw [← hl0, List.length_take, HN.out]; omega)
  rw [hl0] at U0
  clear hup hl0
  go_wp2_with fail
  refine (put_c U0.out HL0.out (by omega)).mono ?_
  rintro e w1 ⟨qb, S, rfl, hq1, hb1⟩
  have Q1 := Lib.hid hq1
  have B1 := Lib.hid hb1
  have HLEN := Lib.hid (puts_len l0)
  have HG := Lib.hid (good_puts l0)
  clear hq1 hb1
  obtain ⟨L0, hL0⟩ : ∃ L0, putsT l0 = L0 := ⟨_, rfl⟩
  have HPL := Lib.hid hL0
  rw [hL0] at Q1 HLEN HG
  clear hL0
  have HLE := Lib.hid (show L0.length ≤ 200 by have := HLEN.out; rw [HL0.out] at this; omega)
  go_wp2_with fail
  go_loopw [4, 5] (fun v4 v5 wr => ∃ (i : Nat) (L1 : List Tick) (S1 : Nat → Prop) (out : List Tick) (vb : Value), v5 = .int .i64 (i : Nat) ∧ i + L1.length = L0.length ∧ Que wr w.heap.size qb L1 S1 ∧ v4 = vb ∧ RowG.Own encT TT wr w.heap.size vb out ∧ (∀ k, vb.ownBlock = some k → ¬ S1 k) ∧ Drain L0 out L1 ∧ Below w.heap.size w wr) (fun _ v _ => 6000 - (intOf v).toNat)
  case atStart => exact ⟨0, L0, S, [], _, rfl, by omega, Q1.out, rfl, Own.nil _ _ _ _, fun k hk => (by cases hk), drain_begin L0, B1.out⟩
  case round =>
    obtain ⟨i, L1, S1, out, vb, rfl, hi, hq, rfl, ho, hns, hdr, hbr⟩ := hrel
    have Q := Lib.hid hq
    have O := Lib.hid ho
    have NS := Lib.hid hns
    have DR := Lib.hid hdr
    have BR := Lib.hid hbr
    have HI := Lib.hid hi
    have HOL := Lib.hid (show out.length ≤ 200 by have := hdr.len; have := HLE.out; omega)
    have hi200 : i ≤ 200 := by have := HLE.out; omega
    have hiI : (i : Int) < 201 := by omega
    have hi1 : (i : Int) + 1 ≤ 201 := by omega
    clear hq ho hns hdr hbr hi
    obtain ⟨b, hb⟩ : ∃ b, takeB L1 2199023255552 = b := ⟨_, rfl⟩
    obtain ⟨⟨a, d⟩, hv⟩ : ∃ x, takeV L1 2199023255552 = x := ⟨_, rfl⟩
    have HTB := Lib.hid hb
    have HV := Lib.hid hv
    clear hb hv
    go_wp2_with fail
    refine (Take_c Q.out HV.out HTB.out).mono ?_
    rintro e w4 ⟨rfl, S4, hq4, hf4, hn4⟩
    have Q4 := Lib.hid hq4
    have O4 := Lib.hid (hf4.own O.out (fun g hg => NS.out g hg))
    have NS4 := Lib.hid (show ∀ k, Value.ownBlock _ = some k → ¬ S4 k from fun k hk h4 => by
      rcases hn4 k h4 with q | q
      · exact NS.out k hk q
      · have := (O.out.ge k hk).2
        omega)
    have B4 := Lib.hid (BR.out.trans (Q.out.toBelow hf4))
    have hz4 := B4.out.size
    clear hq4 hf4 hn4
    cases b with
    | false =>
      go_wp2_with fail
      refine HeldP.wp_named (S := fun W => Below w4.heap.size w4 W) (by (repeat' (first | (with_reducible exact Below.refl _ _) | (with_reducible refine Below.setCell ?_ (by (first | omega | (simp; done) | (simp; omega))) _) | (with_reducible refine Below.alloc ?_ (by (first | omega | (simp; done) | (simp; omega))) _) | (with_reducible refine Below.drew ?_) | (with_reducible refine below_drewN ?_ _)))) ?_
      rintro w5 hb5
      have Q5 := Lib.hid (Q4.out.below hb5)
      have O5 := Lib.hid (O4.out.below hb5)
      have B5 := Lib.hid (B4.out.trans (hb5.mono hz4))
      clear hb5
      have HE := Lib.hid (show L1 = [] by
        have q := take_all Q.out.good
        rw [HTB.out] at q
        simpa using q.symm)
      have hT : takeT L1 2199023255552 = L1 := by unfold takeT; rw [HTB.out]; rfl
      rw [hT, HE.out] at Q5
      rw [HE.out] at DR
      obtain ⟨N, hN⟩ : ∃ N, out.length = N := ⟨_, rfl⟩
      have HON := Lib.hid hN
      have hN200 : N ≤ 200 := by have := HOL.out; omega
      have hNI : (N : Int) ≤ 200 := by omega
      obtain ⟨A4, c4, e4, _, _, hA4⟩ := own_len O5.out hN
      subst e4
      have HA4 := Lib.hid hA4
      clear hN hT hA4
      go_wp2_with fail
      go_loopw [8] (fun v8 wr => ∃ j : Nat, v8 = .int .i64 (j : Nat) ∧ j ≤ N ∧ Below w.heap.size w wr ∧ RowG.Own encT TT wr w.heap.size (.slice A4 N c4) out ∧ Que wr w.heap.size qb [] S4) (fun v _ => 6000 - (intOf v).toNat)
      case atStart => exact ⟨0, rfl, Nat.zero_le _, B5.out, O5.out, Q5.out⟩
      case round =>
        obtain ⟨j, rfl, hj, hbr2, ho2, hq2⟩ := hrel
        have BR2 := Lib.hid hbr2
        have O2 := Lib.hid ho2
        have Q2 := Lib.hid hq2
        clear hbr2 ho2 hq2
        by_cases hjN : j < N
        · have hjI : (j : Int) < (N : Int) := by omega
          have hj1 : (j : Int) + 1 ≤ 201 := by omega
          obtain ⟨⟨xa, xd⟩, hx⟩ : ∃ x, out[j]? = some x := ⟨_, List.getElem?_eq_getElem (by rw [HON.out]; exact hjN)⟩
          have HX := Lib.hid hx
          clear hx
          by_cases hj0 : j = 0
          · have hd0 : decide (0 < (j : Int)) = false := decide_eq_false (by omega)
            go_wp2_with fail
            go_quiet (fail)
            refine HeldP.then_named (S := fun W => Below w.heap.size w W ∧ RowG.Own encT TT W w.heap.size (.slice A4 N c4) out ∧ Que W w.heap.size qb [] S4) ⟨by (repeat' (first | (with_reducible exact Below.refl _ _) | (with_reducible refine Below.setCell ?_ (by (first | omega | (simp; done) | (simp; omega))) _) | (with_reducible refine Below.alloc ?_ (by (first | omega | (simp; done) | (simp; omega))) _) | (with_reducible refine Below.drew ?_) | (with_reducible refine below_drewN ?_ _) | (with_reducible refine Below.trans ?_ (Below.mono BR2.out (by (first | omega | (simp; done) | (simp; omega))))))), O2.out.below (by (repeat' (first | (with_reducible exact Below.refl _ _) | (with_reducible refine Below.setCell ?_ (by (first | omega | (simp; done) | (simp; omega))) _) | (with_reducible refine Below.alloc ?_ (by (first | omega | (simp; done) | (simp; omega))) _) | (with_reducible refine Below.drew ?_) | (with_reducible refine below_drewN ?_ _)))), Q2.out.below (by (repeat' (first | (with_reducible exact Below.refl _ _) | (with_reducible refine Below.setCell ?_ (by (first | omega | (simp; done) | (simp; omega))) _) | (with_reducible refine Below.alloc ?_ (by (first | omega | (simp; done) | (simp; omega))) _) | (with_reducible refine Below.drew ?_) | (with_reducible refine below_drewN ?_ _))))⟩ ?_
            rintro w8 ⟨hb8, ho8, hq8⟩
            have B8 := Lib.hid hb8
            have O8 := Lib.hid ho8
            have Q8 := Lib.hid hq8
            clear hb8 ho8 hq8
            go_wp2_with fail
            go_loopw [9] (fun v9 wq => ∃ k : Nat, v9 = .int .i64 (k : Nat) ∧ k ≤ j ∧ Below w.heap.size w wq ∧ RowG.Own encT TT wq w.heap.size (.slice A4 N c4) out ∧ Que wq w.heap.size qb [] S4) (fun v _ => 6000 - (intOf v).toNat)
            case atStart => exact ⟨0, rfl, Nat.zero_le _, B8.out, O8.out, Q8.out⟩
            case round =>
              obtain ⟨k, rfl, hk, hb9, ho9, hq9⟩ := hrel
              have B9 := Lib.hid hb9
              have O9 := Lib.hid ho9
              have Q9 := Lib.hid hq9
              clear hb9 ho9 hq9
              by_cases hkj : k < j
              · omega
              · have hkI : ¬ (k : Int) < (j : Int) := by omega
                go_wp2_with fail
                go_roundw
                case measure =>
                  simp only [intOf]
                  omega
                case rel =>
                  exact ⟨j + 1, by first | rfl | (congr 1; omega), by omega, B9.out, O9.out, Q9.out⟩
          · have hd0 : decide (0 < (j : Int)) = true := decide_eq_true (by omega)
            have hd0n : decide (0 < j) = true := decide_eq_true (by omega)
            have hj0I : 0 < (j : Int) := by omega
            obtain ⟨j', hj'⟩ : ∃ j', j = j' + 1 := ⟨j - 1, by omega⟩
            have hjm : (j : Int) - 1 = (j' : Int) := by omega
            have hj'N : (j' : Int) < (N : Int) := by omega
            obtain ⟨⟨ya, yd⟩, hy⟩ : ∃ x, out[j']? = some x := ⟨_, List.getElem?_eq_getElem (by rw [HON.out]; omega)⟩
            have hr := drain_rises DR.out (show j' < j by omega) hy HX.out
            unfold tl at hr
            simp only at hr
            have HY := Lib.hid hy
            clear hy hj'
            by_cases hlt : yd < xd
            · have f1 : decide (xd < yd) = false := decide_eq_false (by omega)
              have f2 : (xd == yd) = false := by simp; omega
              clear hr
              obtain ⟨g0, hg0, _, _⟩ := HA4.out (by omega)
              subst hg0
              have hgl := (O2.out.ge g0 rfl).2
              have x0 := O2.out.cell (j := 0) HX.out rfl
              have x1 := O2.out.cell (j := 1) HX.out rfl
              have y0 := O2.out.cell (j := 0) HY.out rfl
              have y1 := O2.out.cell (j := 1) HY.out rfl
              simp only [show encT.k = 2 from rfl, Nat.add_zero] at x0 x1 y0 y1
              go_wp2_with fail
              go_quiet (fail)
              refine HeldP.then_named (S := fun W => Below w.heap.size w W ∧ RowG.Own encT TT W w.heap.size (.slice (some ⟨g0, 0, none⟩) N c4) out ∧ Que W w.heap.size qb [] S4) ⟨by (repeat' (first | (with_reducible exact Below.refl _ _) | (with_reducible refine Below.setCell ?_ (by (first | omega | (simp; done) | (simp; omega))) _) | (with_reducible refine Below.alloc ?_ (by (first | omega | (simp; done) | (simp; omega))) _) | (with_reducible refine Below.drew ?_) | (with_reducible refine below_drewN ?_ _) | (with_reducible refine Below.trans ?_ (Below.mono BR2.out (by (first | omega | (simp; done) | (simp; omega))))))), O2.out.below (by (repeat' (first | (with_reducible exact Below.refl _ _) | (with_reducible refine Below.setCell ?_ (by (first | omega | (simp; done) | (simp; omega))) _) | (with_reducible refine Below.alloc ?_ (by (first | omega | (simp; done) | (simp; omega))) _) | (with_reducible refine Below.drew ?_) | (with_reducible refine below_drewN ?_ _)))), Q2.out.below (by (repeat' (first | (with_reducible exact Below.refl _ _) | (with_reducible refine Below.setCell ?_ (by (first | omega | (simp; done) | (simp; omega))) _) | (with_reducible refine Below.alloc ?_ (by (first | omega | (simp; done) | (simp; omega))) _) | (with_reducible refine Below.drew ?_) | (with_reducible refine below_drewN ?_ _))))⟩ ?_
              rintro w8 ⟨hb8, ho8, hq8⟩
              have B8 := Lib.hid hb8
              have O8 := Lib.hid ho8
              have Q8 := Lib.hid hq8
              clear hb8 ho8 hq8
              go_wp2_with fail
              go_loopw [9] (fun v9 wq => ∃ k : Nat, v9 = .int .i64 (k : Nat) ∧ k ≤ j ∧ Below w.heap.size w wq ∧ RowG.Own encT TT wq w.heap.size (.slice (some ⟨g0, 0, none⟩) N c4) out ∧ Que wq w.heap.size qb [] S4) (fun v _ => 6000 - (intOf v).toNat)
              case atStart => exact ⟨0, rfl, Nat.zero_le _, B8.out, O8.out, Q8.out⟩
              case round =>
                obtain ⟨k, rfl, hk, hb9, ho9, hq9⟩ := hrel
                have B9 := Lib.hid hb9
                have O9 := Lib.hid ho9
                have Q9 := Lib.hid hq9
                clear hb9 ho9 hq9
                by_cases hkj : k < j
                · have hkI : (k : Int) < (j : Int) := by omega
                  have hkN : (k : Int) < (N : Int) := by omega
                  have hk1 : (k : Int) + 1 ≤ 201 := by omega
                  obtain ⟨⟨ka, kd⟩, hkx⟩ : ∃ x, out[k]? = some x := ⟨_, List.getElem?_eq_getElem (by rw [HON.out]; omega)⟩
                  have hap := drain_apart HG.out DR.out hkj hkx HX.out
                  have hne : (ka == xa) = false := by simpa using hap
                  have z0 := O9.out.cell (j := 0) hkx rfl
                  have x0 := O9.out.cell (j := 0) HX.out rfl
                  have hgl := (O9.out.ge g0 rfl).2
                  simp only [show encT.k = 2 from rfl, Nat.add_zero] at z0 x0
                  clear hap hkx
                  go_wp2_with fail
                  go_quiet (fail)
                  go_wp2_with fail
                  go_roundw
                  case measure =>
                    simp only [intOf]
                    omega
                  case rel =>
                    exact ⟨k + 1, by first | rfl | (congr 1; omega), by omega, by (repeat' (first | (with_reducible exact Below.refl _ _) | (with_reducible refine Below.setCell ?_ (by (first | omega | (simp; done) | (simp; omega))) _) | (with_reducible refine Below.alloc ?_ (by (first | omega | (simp; done) | (simp; omega))) _) | (with_reducible refine Below.drew ?_) | (with_reducible refine below_drewN ?_ _) | (with_reducible refine Below.trans ?_ (Below.mono B9.out (by (first | omega | (simp; done) | (simp; omega))))))), O9.out.below (by (repeat' (first | (with_reducible exact Below.refl _ _) | (with_reducible refine Below.setCell ?_ (by (first | omega | (simp; done) | (simp; omega))) _) | (with_reducible refine Below.alloc ?_ (by (first | omega | (simp; done) | (simp; omega))) _) | (with_reducible refine Below.drew ?_) | (with_reducible refine below_drewN ?_ _)))), Q9.out.below (by (repeat' (first | (with_reducible exact Below.refl _ _) | (with_reducible refine Below.setCell ?_ (by (first | omega | (simp; done) | (simp; omega))) _) | (with_reducible refine Below.alloc ?_ (by (first | omega | (simp; done) | (simp; omega))) _) | (with_reducible refine Below.drew ?_) | (with_reducible refine below_drewN ?_ _))))⟩
                · have hkI : ¬ (k : Int) < (j : Int) := by omega
                  go_wp2_with fail
                  go_roundw
                  case measure =>
                    simp only [intOf]
                    omega
                  case rel =>
                    exact ⟨j + 1, by first | rfl | (congr 1; omega), by omega, B9.out, O9.out, Q9.out⟩
            · obtain rfl : yd = xd := by omega
              have f1 : decide (yd < yd) = false := decide_eq_false (by omega)
              have f3 : decide (xa ≤ ya) = false := decide_eq_false (by omega)
              clear hr
              obtain ⟨g0, hg0, _, _⟩ := HA4.out (by omega)
              subst hg0
              have hgl := (O2.out.ge g0 rfl).2
              have x0 := O2.out.cell (j := 0) HX.out rfl
              have x1 := O2.out.cell (j := 1) HX.out rfl
              have y0 := O2.out.cell (j := 0) HY.out rfl
              have y1 := O2.out.cell (j := 1) HY.out rfl
              simp only [show encT.k = 2 from rfl, Nat.add_zero] at x0 x1 y0 y1
              go_wp2_with fail
              go_quiet (fail)
              refine HeldP.then_named (S := fun W => Below w.heap.size w W ∧ RowG.Own encT TT W w.heap.size (.slice (some ⟨g0, 0, none⟩) N c4) out ∧ Que W w.heap.size qb [] S4) ⟨by (repeat' (first | (with_reducible exact Below.refl _ _) | (with_reducible refine Below.setCell ?_ (by (first | omega | (simp; done) | (simp; omega))) _) | (with_reducible refine Below.alloc ?_ (by (first | omega | (simp; done) | (simp; omega))) _) | (with_reducible refine Below.drew ?_) | (with_reducible refine below_drewN ?_ _) | (with_reducible refine Below.trans ?_ (Below.mono BR2.out (by (first | omega | (simp; done) | (simp; omega))))))), O2.out.below (by (repeat' (first | (with_reducible exact Below.refl _ _) | (with_reducible refine Below.setCell ?_ (by (first | omega | (simp; done) | (simp; omega))) _) | (with_reducible refine Below.alloc ?_ (by (first | omega | (simp; done) | (simp; omega))) _) | (with_reducible refine Below.drew ?_) | (with_reducible refine below_drewN ?_ _)))), Q2.out.below (by (repeat' (first | (with_reducible exact Below.refl _ _) | (with_reducible refine Below.setCell ?_ (by (first | omega | (simp; done) | (simp; omega))) _) | (with_reducible refine Below.alloc ?_ (by (first | omega | (simp; done) | (simp; omega))) _) | (with_reducible refine Below.drew ?_) | (with_reducible refine below_drewN ?_ _))))⟩ ?_
              rintro w8 ⟨hb8, ho8, hq8⟩
              have B8 := Lib.hid hb8
              have O8 := Lib.hid ho8
              have Q8 := Lib.hid hq8
              clear hb8 ho8 hq8
              go_wp2_with fail
              go_loopw [9] (fun v9 wq => ∃ k : Nat, v9 = .int .i64 (k : Nat) ∧ k ≤ j ∧ Below w.heap.size w wq ∧ RowG.Own encT TT wq w.heap.size (.slice (some ⟨g0, 0, none⟩) N c4) out ∧ Que wq w.heap.size qb [] S4) (fun v _ => 6000 - (intOf v).toNat)
              case atStart => exact ⟨0, rfl, Nat.zero_le _, B8.out, O8.out, Q8.out⟩
              case round =>
                obtain ⟨k, rfl, hk, hb9, ho9, hq9⟩ := hrel
                have B9 := Lib.hid hb9
                have O9 := Lib.hid ho9
                have Q9 := Lib.hid hq9
                clear hb9 ho9 hq9
                by_cases hkj : k < j
                · have hkI : (k : Int) < (j : Int) := by omega
                  have hkN : (k : Int) < (N : Int) := by omega
                  have hk1 : (k : Int) + 1 ≤ 201 := by omega
                  obtain ⟨⟨ka, kd⟩, hkx⟩ : ∃ x, out[k]? = some x := ⟨_, List.getElem?_eq_getElem (by rw [HON.out]; omega)⟩
                  have hap := drain_apart HG.out DR.out hkj hkx HX.out
                  have hne : (ka == xa) = false := by simpa using hap
                  have z0 := O9.out.cell (j := 0) hkx rfl
                  have x0 := O9.out.cell (j := 0) HX.out rfl
                  have hgl := (O9.out.ge g0 rfl).2
                  simp only [show encT.k = 2 from rfl, Nat.add_zero] at z0 x0
                  clear hap hkx
                  go_wp2_with fail
                  go_quiet (fail)
                  go_wp2_with fail
                  go_roundw
                  case measure =>
                    simp only [intOf]
                    omega
                  case rel =>
                    exact ⟨k + 1, by first | rfl | (congr 1; omega), by omega, by (repeat' (first | (with_reducible exact Below.refl _ _) | (with_reducible refine Below.setCell ?_ (by (first | omega | (simp; done) | (simp; omega))) _) | (with_reducible refine Below.alloc ?_ (by (first | omega | (simp; done) | (simp; omega))) _) | (with_reducible refine Below.drew ?_) | (with_reducible refine below_drewN ?_ _) | (with_reducible refine Below.trans ?_ (Below.mono B9.out (by (first | omega | (simp; done) | (simp; omega))))))), O9.out.below (by (repeat' (first | (with_reducible exact Below.refl _ _) | (with_reducible refine Below.setCell ?_ (by (first | omega | (simp; done) | (simp; omega))) _) | (with_reducible refine Below.alloc ?_ (by (first | omega | (simp; done) | (simp; omega))) _) | (with_reducible refine Below.drew ?_) | (with_reducible refine below_drewN ?_ _)))), Q9.out.below (by (repeat' (first | (with_reducible exact Below.refl _ _) | (with_reducible refine Below.setCell ?_ (by (first | omega | (simp; done) | (simp; omega))) _) | (with_reducible refine Below.alloc ?_ (by (first | omega | (simp; done) | (simp; omega))) _) | (with_reducible refine Below.drew ?_) | (with_reducible refine below_drewN ?_ _))))⟩
                · have hkI : ¬ (k : Int) < (j : Int) := by omega
                  go_wp2_with fail
                  go_roundw
                  case measure =>
                    simp only [intOf]
                    omega
                  case rel =>
                    exact ⟨j + 1, by first | rfl | (congr 1; omega), by omega, B9.out, O9.out, Q9.out⟩
        · have hjI : ¬ (j : Int) < (N : Int) := by omega
          go_wp2_with fail
          go_loopw [10] (fun v10 wr => ∃ k4 : Nat, v10 = .int .i64 (k4 : Nat) ∧ k4 ≤ m ∧ Below w.heap.size w wr ∧ RowG.Own encT TT wr w.heap.size (.slice A4 N c4) out ∧ Que wr w.heap.size qb [] S4) (fun v _ => 6000 - (intOf v).toNat)
          case atStart => exact ⟨0, rfl, Nat.zero_le _, BR2.out, O2.out, Q2.out⟩
          case round =>
            obtain ⟨k4, rfl, hk4, hbr3, ho3, hq3⟩ := hrel
            have B3 := Lib.hid hbr3
            have O3 := Lib.hid ho3
            have Q3 := Lib.hid hq3
            clear hbr3 ho3 hq3
            by_cases hkm : k4 < m
            · have hkI : (k4 : Int) < (m : Int) := by omega
              have hk1 : (k4 : Int) + 1 ≤ 201 := by omega
              obtain ⟨⟨ta, td⟩, ht⟩ : ∃ x, l0[k4]? = some x := ⟨_, List.getElem?_eq_getElem (by rw [HL0.out]; exact hkm)⟩
              have HT := Lib.hid ht
              obtain ⟨b0, o0, rfl, hl00, hs0⟩ := (U0.out.below B3.out).at ht
              have x0 := hs0 0 _ rfl
              have x1 := hs0 1 _ rfl
              simp only [show encT.k = 2 from rfl, Nat.add_zero] at x0 x1
              clear ht hs0
              go_wp2_with fail
              refine (lmay_c rfl).mono ?_
              rintro e w4 ⟨rfl, hb4⟩
              have B4 := Lib.hid (below_t B3.out hb4)
              have O4 := Lib.hid (O3.out.below hb4)
              have Q4 := Lib.hid (Q3.out.below hb4)
              clear hb4 x0 x1
              go_wp2_with fail
              go_loopw [11, 12] (fun v11 v12 wr => ∃ (i2 : Nat) (fd : Bool), v12 = .int .i64 (i2 : Nat) ∧ i2 ≤ N ∧ v11 = .bool fd ∧ fd = (!(mayB (ta, td)) || (out.take i2).any (fun x => decide (x.1 = ta) && decide (x.2 ≤ td))) ∧ Below w.heap.size w wr ∧ RowG.Own encT TT wr w.heap.size (.slice A4 N c4) out ∧ Que wr w.heap.size qb [] S4) (fun _ v _ => 6000 - (intOf v).toNat)
              case atStart => exact ⟨0, !(mayB (ta, td)), rfl, Nat.zero_le _, rfl, by simp, B4.out, O4.out, Q4.out⟩
              case round =>
                obtain ⟨i2, fd, rfl, hi2, rfl, hfd, hbr5, ho5, hq5⟩ := hrel
                have HF := Lib.hid hfd
                have BR5 := Lib.hid hbr5
                have O5 := Lib.hid ho5
                have Q5 := Lib.hid hq5
                clear hfd hbr5 ho5 hq5
                by_cases hin : i2 < N
                · have hiI : (i2 : Int) < (N : Int) := by omega
                  have hi1 : (i2 : Int) + 1 ≤ 201 := by omega
                  obtain ⟨⟨xa, xd⟩, hx⟩ : ∃ x, out[i2]? = some x := ⟨_, List.getElem?_eq_getElem (by rw [HON.out]; exact hin)⟩
                  have HX := Lib.hid hx
                  obtain ⟨g, rfl, _, _⟩ := HA4.out (by omega)
                  have hgl := (O5.out.ge g rfl).2
                  have x0 := O5.out.cell (j := 0) hx rfl
                  have x1 := O5.out.cell (j := 1) hx rfl
                  simp only [show encT.k = 2 from rfl, Nat.add_zero] at x0 x1
                  obtain ⟨b3, o3, hA3, hl3, hs3⟩ := (U0.out.below BR5.out).at HT.out
                  injection hA3 with hA3
                  injection hA3 with e1 e2
                  subst e1 e2
                  have y0 := hs3 0 _ rfl
                  have y1 := hs3 1 _ rfl
                  simp only [show encT.k = 2 from rfl, Nat.add_zero] at y0 y1
                  clear hx hs3
                  cases fd with
                  | true =>
                    go_wp2_with fail
                    go_quiet (fail)
                    go_wp2_with fail
                    go_roundw
                    case measure =>
                      simp only [intOf]
                      omega
                    case rel =>
                      refine ⟨i2 + 1, true, by first | rfl | (congr 1; omega), by omega, rfl, ?_, by (repeat' (first | (with_reducible exact Below.refl _ _) | (with_reducible refine Below.setCell ?_ (by (first | omega | (simp; done) | (simp; omega))) _) | (with_reducible refine Below.alloc ?_ (by (first | omega | (simp; done) | (simp; omega))) _) | (with_reducible refine Below.drew ?_) | (with_reducible refine below_drewN ?_ _) | (with_reducible refine Below.trans ?_ (Below.mono BR5.out (by (first | omega | (simp; done) | (simp; omega))))))), O5.out.below (by (repeat' (first | (with_reducible exact Below.refl _ _) | (with_reducible refine Below.setCell ?_ (by (first | omega | (simp; done) | (simp; omega))) _) | (with_reducible refine Below.alloc ?_ (by (first | omega | (simp; done) | (simp; omega))) _) | (with_reducible refine Below.drew ?_) | (with_reducible refine below_drewN ?_ _)))), Q5.out.below (by (repeat' (first | (with_reducible exact Below.refl _ _) | (with_reducible refine Below.setCell ?_ (by (first | omega | (simp; done) | (simp; omega))) _) | (with_reducible refine Below.alloc ?_ (by (first | omega | (simp; done) | (simp; omega))) _) | (with_reducible refine Below.drew ?_) | (with_reducible refine below_drewN ?_ _))))⟩
                      rw [(make_step (L1 := []) HX.out).2, List.any_append]
                      have h1 := HF.out
                      simp only [List.any_cons, List.any_nil, Bool.or_false]
                      rw [← Bool.or_assoc, ← h1]
                      simp
                  | false =>
                    by_cases he : xa = ta
                    · subst he
                      by_cases hle : xd ≤ td
                      · skip
                        go_wp2_with fail
                        go_quiet (fail)
                        go_wp2_with fail
                        go_roundw
                        case measure =>
                          simp only [intOf]
                          omega
                        case rel =>
                          refine ⟨i2 + 1, true, by first | rfl | (congr 1; omega), by omega, rfl, ?_, by (repeat' (first | (with_reducible exact Below.refl _ _) | (with_reducible refine Below.setCell ?_ (by (first | omega | (simp; done) | (simp; omega))) _) | (with_reducible refine Below.alloc ?_ (by (first | omega | (simp; done) | (simp; omega))) _) | (with_reducible refine Below.drew ?_) | (with_reducible refine below_drewN ?_ _) | (with_reducible refine Below.trans ?_ (Below.mono BR5.out (by (first | omega | (simp; done) | (simp; omega))))))), O5.out.below (by (repeat' (first | (with_reducible exact Below.refl _ _) | (with_reducible refine Below.setCell ?_ (by (first | omega | (simp; done) | (simp; omega))) _) | (with_reducible refine Below.alloc ?_ (by (first | omega | (simp; done) | (simp; omega))) _) | (with_reducible refine Below.drew ?_) | (with_reducible refine below_drewN ?_ _)))), Q5.out.below (by (repeat' (first | (with_reducible exact Below.refl _ _) | (with_reducible refine Below.setCell ?_ (by (first | omega | (simp; done) | (simp; omega))) _) | (with_reducible refine Below.alloc ?_ (by (first | omega | (simp; done) | (simp; omega))) _) | (with_reducible refine Below.drew ?_) | (with_reducible refine below_drewN ?_ _))))⟩
                          rw [(make_step (L1 := []) HX.out).2, List.any_append]
                          have h1 := HF.out
                          simp only [List.any_cons, List.any_nil, Bool.or_false]
                          rw [← Bool.or_assoc, ← h1]
                          simp [hle]
                      · have hdl := decide_eq_false hle
                        go_wp2_with fail
                        go_quiet (fail)
                        go_wp2_with fail
                        go_roundw
                        case measure =>
                          simp only [intOf]
                          omega
                        case rel =>
                          refine ⟨i2 + 1, false, by first | rfl | (congr 1; omega), by omega, rfl, ?_, by (repeat' (first | (with_reducible exact Below.refl _ _) | (with_reducible refine Below.setCell ?_ (by (first | omega | (simp; done) | (simp; omega))) _) | (with_reducible refine Below.alloc ?_ (by (first | omega | (simp; done) | (simp; omega))) _) | (with_reducible refine Below.drew ?_) | (with_reducible refine below_drewN ?_ _) | (with_reducible refine Below.trans ?_ (Below.mono BR5.out (by (first | omega | (simp; done) | (simp; omega))))))), O5.out.below (by (repeat' (first | (with_reducible exact Below.refl _ _) | (with_reducible refine Below.setCell ?_ (by (first | omega | (simp; done) | (simp; omega))) _) | (with_reducible refine Below.alloc ?_ (by (first | omega | (simp; done) | (simp; omega))) _) | (with_reducible refine Below.drew ?_) | (with_reducible refine below_drewN ?_ _)))), Q5.out.below (by (repeat' (first | (with_reducible exact Below.refl _ _) | (with_reducible refine Below.setCell ?_ (by (first | omega | (simp; done) | (simp; omega))) _) | (with_reducible refine Below.alloc ?_ (by (first | omega | (simp; done) | (simp; omega))) _) | (with_reducible refine Below.drew ?_) | (with_reducible refine below_drewN ?_ _))))⟩
                          rw [(make_step (L1 := []) HX.out).2, List.any_append]
                          have h1 := HF.out
                          simp only [List.any_cons, List.any_nil, Bool.or_false]
                          rw [← Bool.or_assoc, ← h1]
                          simp [hle]
                    · have hne : (xa == ta) = false := by simp [he]
                      go_wp2_with fail
                      go_quiet (fail)
                      go_wp2_with fail
                      go_roundw
                      case measure =>
                        simp only [intOf]
                        omega
                      case rel =>
                        refine ⟨i2 + 1, false, by first | rfl | (congr 1; omega), by omega, rfl, ?_, by (repeat' (first | (with_reducible exact Below.refl _ _) | (with_reducible refine Below.setCell ?_ (by (first | omega | (simp; done) | (simp; omega))) _) | (with_reducible refine Below.alloc ?_ (by (first | omega | (simp; done) | (simp; omega))) _) | (with_reducible refine Below.drew ?_) | (with_reducible refine below_drewN ?_ _) | (with_reducible refine Below.trans ?_ (Below.mono BR5.out (by (first | omega | (simp; done) | (simp; omega))))))), O5.out.below (by (repeat' (first | (with_reducible exact Below.refl _ _) | (with_reducible refine Below.setCell ?_ (by (first | omega | (simp; done) | (simp; omega))) _) | (with_reducible refine Below.alloc ?_ (by (first | omega | (simp; done) | (simp; omega))) _) | (with_reducible refine Below.drew ?_) | (with_reducible refine below_drewN ?_ _)))), Q5.out.below (by (repeat' (first | (with_reducible exact Below.refl _ _) | (with_reducible refine Below.setCell ?_ (by (first | omega | (simp; done) | (simp; omega))) _) | (with_reducible refine Below.alloc ?_ (by (first | omega | (simp; done) | (simp; omega))) _) | (with_reducible refine Below.drew ?_) | (with_reducible refine below_drewN ?_ _))))⟩
                        rw [(make_step (L1 := []) HX.out).2, List.any_append]
                        have h1 := HF.out
                        simp only [List.any_cons, List.any_nil, Bool.or_false]
                        rw [← Bool.or_assoc, ← h1]
                        simp [he]
                · have hiI : ¬ (i2 : Int) < (N : Int) := by omega
                  obtain rfl : fd = true := by
                    rw [HF.out]
                    cases hm : mayB (ta, td) with
                    | false => rfl
                    | true =>
                      have hd := puts_due (l := l0) good_nil (List.mem_of_getElem? HT.out) hm
                      have hd2 : dueL ta L0 ≠ 0 ∧ dueL ta L0 ≤ td := by rw [← HPL.out]; exact hd
                      have hmem := (DR.out.mem _).1 ((due_mem HG.out.1).2 ⟨rfl, hd2.1⟩)
                      have ho : (ta, dueL ta L0) ∈ out := by
                        rcases hmem with q | q
                        · exact q
                        · simp at q
                      rw [List.take_of_length_le (by rw [HON.out]; omega)]
                      simp only [Bool.not_true, Bool.false_or, List.any_eq_true]
                      exact ⟨_, ho, by simp [hd2.2]⟩
                  go_wp2_with fail
                  go_roundw
                  case measure =>
                    simp only [intOf]
                    omega
                  case rel =>
                    exact ⟨k4 + 1, by first | rfl | (congr 1; omega), by omega, BR5.out, O5.out, Q5.out⟩
            · have hkI : ¬ (k4 : Int) < (m : Int) := by omega
              go_wp2_with fail
              refine (qLen_c Q3.out).mono ?_
              rintro e w5 ⟨rfl, rfl⟩
              go_wp2_with fail
              refine (works_c).mono ?_
              rintro e wz ⟨rfl, hbz⟩
              have BZ := Lib.hid (below_t B3.out hbz)
              clear hbz
              go_wp2_with fail
              go_ret
              exact ⟨rfl, BZ.out⟩
    | true =>
      go_wp2_with ((with_reducible refine at_slot 36 ?_); refine Classical.byContradiction (fun hG => ?_))
      refine hG ?_
      clear hG
      refine list_named (S := fun W => ∃ w5, Below w4.heap.size w4 w5 ∧ w5.heap.size = w4.heap.size + 1 ∧ W = w5.alloc (.cells #[.int .i64 a, .int .i64 d] TT)) ⟨w4.alloc (.cells #[.int .i64 a, .int .i64 d] TT), by (repeat' (first | (with_reducible exact Below.refl _ _) | (with_reducible refine Below.setCell ?_ (by (first | omega | (simp; done) | (simp; omega))) _) | (with_reducible refine Below.alloc ?_ (by (first | omega | (simp; done) | (simp; omega))) _) | (with_reducible refine Below.drew ?_) | (with_reducible refine below_drewN ?_ _))), by simp, rfl⟩ ?_
      rintro w6 ⟨w5, hb5, hz5, rfl⟩
      have Q5 := Lib.hid (Q4.out.below hb5)
      have O5 := Lib.hid (O4.out.below hb5)
      have NS5 := NS4
      have B5 := Lib.hid (B4.out.trans (hb5.mono hz4))
      clear hb5
      have HLT := Lib.hid (take_len Q.out.good HTB.out)
      have HDS := Lib.hid (show Drain L0 (out ++ [(a, d)]) (takeT L1 2199023255552) by
        have hne := (take_is HTB.out).1
        have z := drain_step DR.out Q.out.good hne
        have hv := HV.out
        unfold takeV at hv
        rw [if_pos HTB.out] at hv
        unfold takeT
        rw [if_pos HTB.out]
        rw [hv] at z ⊢
        exact z)
      refine RowG.wp_push encT rfl (.tmp 33) (.tmp 35) rfl underS infoT rfl (by decide) w5 #[.int .i64 a, .int .i64 d] rfl (a, d) rfl rfl (B := w.heap.size) O5.out (by rw [hz5]; rfl) (by have := HOL.out; have : maxLen = 9223372036854775807 := rfl; omega) (by have := HOL.out; omega) B5.out.size ?_
      intro v6 w6 ho6 hg6 hv6
      have O6 := Lib.hid ho6
      have B6 := Lib.hid (show Below w.heap.size w w6 from B5.out.trans (O5.out.grownB hg6 B5.out.size))
      have Q6 := Lib.hid (Q5.out.fr (Fr.grown (S := fun k => some k = u4.ownBlock) hg6 (fun i hi => hi.symm)) (fun k h1 h2 => NS5.out k h2.symm h1))
      have N6 := Lib.hid (show ∀ k, v6.ownBlock = some k → ¬ S4 k from fun k hk h4 => by
        rcases hv6 with q | q
        · exact NS5.out k (q.symm.trans hk) h4
        · rw [q] at hk
          injection hk with hk
          have := (Q5.out.ge h4).2
          omega)
      clear ho6 hg6 hv6
      go_wp2_with fail
      go_roundw
      case measure =>
        simp only [intOf]
        omega
      case rel =>
        refine ⟨i + 1, _, S4, out ++ [(a, d)], v6, by first | rfl | (congr 1; omega), by have := HLT.out; have := HI.out; omega, Q6.out, rfl, O6.out, N6.out, HDS.out, B6.out⟩
end
end QueW
end Go.Proofs.Ytlhanbjendbhfaa
