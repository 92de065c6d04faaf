/-
  QueueLater.
-/
import Derived.Test.YtlhanbjendbhfaaQueueWorks
import Derived.Test.YtlhanbjendbhfaaQueueLawP
import Derived.BigQuiet
namespace Go.Proofs.Ytlhanbjendbhfaa
open Go.RowKit
set_option linter.unusedVariables false
set_option linter.unusedSimpArgs false
namespace QueW
open BlkP RowG FrS PushG HeapP ChunkW
section
variable {w : World}
set_option maxRecDepth 100000 in
set_option maxHeartbeats 16000000 in
theorem law_later {A : Option Addr} {n c : Nat} {l : List Tick} {now : Int} (hR : Rd encT w (.slice A n c) l) (hn : l.length = n) :
    Calls Try.prog 7 #[.slice A n c, .int .i64 now] w fun e w' => e = .returned (.bool true) ∧ Below w.heap.size w w' := by
  have HR := Lib.hid hR
  have HN := Lib.hid hn
  obtain ⟨m, hm⟩ : ∃ m, min n 200 = m := ⟨_, rfl⟩
  have hmn : m ≤ n := by omega
  have hmK : m ≤ 200 := by omega
  have hmI : min (n : Int) 200 = (m : Int) := by omega
  have HMI := Lib.hid hmI
  clear hR hn hm hmI
  go_enter Try.func7, Try.ntmps7
  go_wp2_with ((with_reducible refine at_slot 15 ?_); refine Classical.byContradiction (fun hG => ?_))
  refine hG ?_
  clear hG
  refine wp_uptoR rfl (.tmp 11) (.tmp 14) rfl (n := m) rfl ?_ HR.out (by rw [HN.out]; exact hmn) ?_
  · show Value.int .i64 _ = _
    rw [← HMI.out]
  intro hup
  have U0 := Lib.hid hup
  obtain ⟨l0, hl0⟩ : ∃ l0, l.take m = l0 := ⟨_, rfl⟩
  have HL0 := Lib.hid (show l0.length = m by rw [← hl0, List.length_take, HN.out]; omega)
  rw [hl0] at U0
  clear hup hl0
  go_wp2_with fail
  refine (put_c U0.out HL0.out (by omega)).mono ?_
  rintro e w1 ⟨qb, S, rfl, hq1, hb1⟩
  have Q1 := Lib.hid hq1
  have B1 := Lib.hid hb1
  have HLEN := Lib.hid (puts_len l0)
  have HG := Lib.hid (good_puts l0)
  clear hq1 hb1
  obtain ⟨L0, hL0⟩ : ∃ L0, putsT l0 = L0 := ⟨_, rfl⟩
  rw [hL0] at Q1 HLEN HG
  clear hL0
  have HLE := Lib.hid (show L0.length ≤ 200 by have := HLEN.out; rw [HL0.out] at this; omega)
  go_wp2_with fail
  go_loopw [6] (fun v6 wr => ∃ (i : Nat) (L1 : List Tick) (S1 : Nat → Prop), v6 = .int .i64 (i : Nat) ∧ i + L1.length = L0.length ∧ Que wr w.heap.size qb L1 S1 ∧ Below w.heap.size w wr) (fun v _ => 6000 - (intOf v).toNat)
  case atStart => exact ⟨0, L0, S, rfl, by omega, Q1.out, B1.out⟩
  case round =>
    obtain ⟨i, L1, S1, rfl, hi, hq, hbr⟩ := hrel
    have Q := Lib.hid hq
    have BR := Lib.hid hbr
    have hi200 : i ≤ 200 := by have := HLE.out; omega
    have hiI : (i : Int) < 201 := by omega
    have hi1 : (i : Int) + 1 ≤ 201 := by omega
    have hbz := hbr.size
    clear hq hbr
    cases ht : takeB L1 now with
    | false =>
      obtain ⟨⟨a, d⟩, hv⟩ : ∃ x, takeV L1 now = x := ⟨_, rfl⟩
      have hT : takeT L1 now = L1 := by unfold takeT; rw [ht]; rfl
      have HT := Lib.hid hT
      have HV := Lib.hid hv
      have HTB := Lib.hid ht
      clear hT hv ht
      go_wp2_with fail
      refine (Take_c Q.out HV.out HTB.out).mono ?_
      rintro e w2 ⟨rfl, S2, hq2, hf2, hn2⟩
      rw [HT.out] at hq2
      have Q2 := Lib.hid hq2
      have B2 := Lib.hid (BR.out.trans (Q.out.toBelow hf2))
      have hz2 := B2.out.size
      clear hq2 hf2 hn2
      go_wp2_with fail
      obtain ⟨⟨fa, fd⟩, hf⟩ : ∃ f, firstL L1 = f := ⟨_, rfl⟩
      have HF := Lib.hid hf
      by_cases h0 : L1 = []
      · have HD := Lib.hid (show decide (L1 ≠ []) = false by simp [h0])
        clear hf h0
        refine (First_c (Q2.out.below (by (repeat' (first | (with_reducible exact Below.refl _ _) | (with_reducible refine Below.setCell ?_ (by (first | omega | (simp; done) | (simp; omega))) _) | (with_reducible refine Below.alloc ?_ (by (first | omega | (simp; done) | (simp; omega))) _) | (with_reducible refine Below.drew ?_) | (with_reducible refine below_drewN ?_ _))))) HF.out HD.out).mono ?_
        rintro e w3 ⟨rfl, hb3⟩
        have B3 := Lib.hid (show Below w.heap.size w w3 by (repeat' (first | (with_reducible exact Below.refl _ _) | (with_reducible refine Below.setCell ?_ (by (first | omega | (simp; done) | (simp; omega))) _) | (with_reducible refine Below.alloc ?_ (by (first | omega | (simp; done) | (simp; omega))) _) | (with_reducible refine Below.drew ?_) | (with_reducible refine below_drewN ?_ _) | (with_reducible refine Below.trans ?_ (Below.mono hb3 (by (first | omega | (simp; done) | (simp; omega))))) | (with_reducible refine Below.trans ?_ (Below.mono B2.out (by (first | omega | (simp; done) | (simp; omega))))))))
        have hz3 := B3.out.size
        clear hb3
        go_wp2_with fail
        refine (works_c).mono ?_
        rintro e w4 ⟨rfl, hb4⟩
        have B4 := Lib.hid (show Below w.heap.size w w4 by (repeat' (first | (with_reducible exact Below.refl _ _) | (with_reducible refine Below.setCell ?_ (by (first | omega | (simp; done) | (simp; omega))) _) | (with_reducible refine Below.alloc ?_ (by (first | omega | (simp; done) | (simp; omega))) _) | (with_reducible refine Below.drew ?_) | (with_reducible refine below_drewN ?_ _) | (with_reducible refine Below.trans ?_ (Below.mono hb4 (by (first | omega | (simp; done) | (simp; omega))))) | (with_reducible refine Below.trans ?_ (Below.mono B3.out (by (first | omega | (simp; done) | (simp; omega))))))))
        clear hb4
        go_wp2_with fail
        go_ret
        exact ⟨rfl, B4.out⟩
      · have hlate : ¬ fd ≤ now := by
          have q := HTB.out
          unfold takeB at q
          rw [hf] at q
          simpa [h0] using q
        have hlt : now < fd := by omega
        have HD := Lib.hid (show decide (L1 ≠ []) = true by simp [h0])
        clear hf h0
        refine (First_c (Q2.out.below (by (repeat' (first | (with_reducible exact Below.refl _ _) | (with_reducible refine Below.setCell ?_ (by (first | omega | (simp; done) | (simp; omega))) _) | (with_reducible refine Below.alloc ?_ (by (first | omega | (simp; done) | (simp; omega))) _) | (with_reducible refine Below.drew ?_) | (with_reducible refine below_drewN ?_ _))))) HF.out HD.out).mono ?_
        rintro e w3 ⟨rfl, hb3⟩
        have B3 := Lib.hid (show Below w.heap.size w w3 by (repeat' (first | (with_reducible exact Below.refl _ _) | (with_reducible refine Below.setCell ?_ (by (first | omega | (simp; done) | (simp; omega))) _) | (with_reducible refine Below.alloc ?_ (by (first | omega | (simp; done) | (simp; omega))) _) | (with_reducible refine Below.drew ?_) | (with_reducible refine below_drewN ?_ _) | (with_reducible refine Below.trans ?_ (Below.mono hb3 (by (first | omega | (simp; done) | (simp; omega))))) | (with_reducible refine Below.trans ?_ (Below.mono B2.out (by (first | omega | (simp; done) | (simp; omega))))))))
        have hz3 := B3.out.size
        clear hb3
        go_wp2_with fail
        refine (works_c).mono ?_
        rintro e w4 ⟨rfl, hb4⟩
        have B4 := Lib.hid (show Below w.heap.size w w4 by (repeat' (first | (with_reducible exact Below.refl _ _) | (with_reducible refine Below.setCell ?_ (by (first | omega | (simp; done) | (simp; omega))) _) | (with_reducible refine Below.alloc ?_ (by (first | omega | (simp; done) | (simp; omega))) _) | (with_reducible refine Below.drew ?_) | (with_reducible refine below_drewN ?_ _) | (with_reducible refine Below.trans ?_ (Below.mono hb4 (by (first | omega | (simp; done) | (simp; omega))))) | (with_reducible refine Below.trans ?_ (Below.mono B3.out (by (first | omega | (simp; done) | (simp; omega))))))))
        clear hb4
        go_wp2_with fail
        go_ret
        exact ⟨rfl, B4.out⟩
    | true =>
      obtain ⟨⟨a, d⟩, hv⟩ : ∃ x, takeV L1 now = x := ⟨_, rfl⟩
      have hle : d ≤ now := by
        have h2 := (take_is ht).2
        unfold takeV at hv
        rw [if_pos ht] at hv
        rw [hv] at h2
        exact h2
      have hnl : ¬ now < d := by omega
      have HLT := Lib.hid (take_len Q.out.good ht)
      have HV := Lib.hid hv
      have HTB := Lib.hid ht
      clear hv ht
      go_wp2_with fail
      refine (Take_c Q.out HV.out HTB.out).mono ?_
      rintro e w2 ⟨rfl, S2, hq2, hf2, hn2⟩
      have Q2 := Lib.hid hq2
      have B2 := Lib.hid (BR.out.trans (Q.out.toBelow hf2))
      have hz2 := B2.out.size
      clear hq2 hf2 hn2
      go_wp2_with fail
      go_roundw
      case measure =>
        simp only [intOf]
        omega
      case rel =>
        refine ⟨i + 1, _, S2, by first | rfl | (congr 1; omega), by have := HLT.out; omega, Q2.out.below (by (repeat' (first | (with_reducible exact Below.refl _ _) | (with_reducible refine Below.setCell ?_ (by (first | omega | (simp; done) | (simp; omega))) _) | (with_reducible refine Below.alloc ?_ (by (first | omega | (simp; done) | (simp; omega))) _) | (with_reducible refine Below.drew ?_) | (with_reducible refine below_drewN ?_ _)))), by (repeat' (first | (with_reducible exact Below.refl _ _) | (with_reducible refine Below.setCell ?_ (by (first | omega | (simp; done) | (simp; omega))) _) | (with_reducible refine Below.alloc ?_ (by (first | omega | (simp; done) | (simp; omega))) _) | (with_reducible refine Below.drew ?_) | (with_reducible refine below_drewN ?_ _) | (with_reducible refine Below.trans ?_ (Below.mono B2.out (by (first | omega | (simp; done) | (simp; omega)))))))⟩
end
end QueW
end Go.Proofs.Ytlhanbjendbhfaa
