/-
  QueueAgain.
-/
import Derived.Test.YtlhanbjendbhfaaQueueWorks
import Derived.Test.YtlhanbjendbhfaaQueueLawP
import Derived.BigQuiet
namespace Go.Proofs.Ytlhanbjendbhfaa
open Go.RowKit
set_option linter.unusedVariables false
set_option linter.unusedSimpArgs false
namespace QueW
open BlkP RowG FrS PushG HeapP ChunkW
section
variable {w : World}
set_option maxRecDepth 100000 in
set_option maxHeartbeats 16000000 in
theorem law_again {A : Option Addr} {n c : Nat} {l : List Tick} (hR : Rd encT w (.slice A n c) l) (hn : l.length = n) :
    Calls Try.prog 8 #[.slice A n c] w fun e w' => e = .returned (.bool true) ∧ Below w.heap.size w w' := by
  have qe := fun w => run_neT w 0 0
  have HR := Lib.hid hR
  have HN := Lib.hid hn
  obtain ⟨m, hm⟩ : ∃ m, min n 200 = m := ⟨_, rfl⟩
  have hmn : m ≤ n := by omega
  have hmK : m ≤ 200 := by omega
  have hmI : min (n : Int) 200 = (m : Int) := by omega
  have HMI := Lib.hid hmI
  clear hR hn hm hmI
  go_enter Try.func8, Try.ntmps8
  go_wp2_with ((with_reducible refine at_slot 15 ?_); refine Classical.byContradiction (fun hG => ?_))
  refine hG ?_
  clear hG
  refine wp_uptoR rfl (.tmp 11) (.tmp 14) rfl (n := m) rfl ?_ HR.out (by rw [HN.out]; exact hmn) ?_
  · show Value.int .i64 _ = _
    rw [← HMI.out]
  intro hup
  have U0 := Lib.hid hup
  obtain ⟨l0, hl0⟩ : ∃ l0, l.take m = l0 := ⟨_, rfl⟩
  have HL0 := Lib.hid (show l0.length = m by rw [← hl0, List.length_take, HN.out]; omega)
  rw [hl0] at U0
  clear hup hl0
  go_wp2_with fail
  refine (put_c U0.out HL0.out (by omega)).mono ?_
  rintro e w1 ⟨qb, S, rfl, hq1, hb1⟩
  have Q1 := Lib.hid hq1
  have B1 := Lib.hid hb1
  have HLEN := Lib.hid (puts_len l0)
  have HG := Lib.hid (good_puts l0)
  clear hq1 hb1
  obtain ⟨L0, hL0⟩ : ∃ L0, putsT l0 = L0 := ⟨_, rfl⟩
  rw [hL0] at Q1 HLEN HG
  clear hL0
  have HLE := Lib.hid (show L0.length ≤ 200 by have := HLEN.out; rw [HL0.out] at this; omega)
  obtain ⟨N, hN⟩ : ∃ N, L0.length = N := ⟨_, rfl⟩
  have HN0 := Lib.hid hN
  clear hN
  go_wp2_with fail
  refine (List_c Q1.out).mono ?_
  rintro e w2 ⟨v', rfl, ho2, hb2⟩
  obtain ⟨A2, c2, rfl, _, _, _⟩ := own_len ho2 HN0.out
  have Q2 := Lib.hid (Q1.out.below hb2)
  have B2 := Lib.hid (below_t B1.out hb2)
  have O2 := Lib.hid ho2.rd
  clear ho2 hb2
  go_wp2_with fail
  refine (New_c O2.out HN0.out (by have := HLE.out; rw [HN0.out] at this; omega) (new_same HG.out)).mono ?_
  rintro e w3 ⟨hb3, h3⟩
  rcases h3 with ⟨h, _⟩ | ⟨_, pb, S2, rfl, hp3⟩
  · exact absurd rfl h
  have hp3' : Que w3 w2.heap.size pb L0 S2 := hp3
  have P3 := Lib.hid hp3'
  have Q3 := Lib.hid (Q2.out.below hb3)
  have B3 := Lib.hid (below_t B2.out hb3)
  have D3 := Lib.hid (show ∀ k, S k → ¬ S2 k from fun k h1 h2 => by
    have := (Q2.out.ge h1).2
    have := (P3.out.ge h2).1
    omega)
  clear hb3 hp3 hp3'
  go_wp2_with fail
  go_loopw [6] (fun v6 wr => ∃ (i : Nat) (L1 : List Tick) (S1 S3 : Nat → Prop), v6 = .int .i64 (i : Nat) ∧ i + L1.length = N ∧ Que wr w.heap.size qb L1 S1 ∧ Que wr w2.heap.size pb L1 S3 ∧ (∀ k, S1 k → ¬ S3 k) ∧ Below w.heap.size w wr) (fun v _ => 6000 - (intOf v).toNat)
  case atStart => exact ⟨0, L0, S, S2, rfl, by rw [HN0.out]; omega, Q3.out, P3.out, D3.out, B3.out⟩
  case round =>
    obtain ⟨i, L1, S1, S3, rfl, hi, hq, hp, hd, hbr⟩ := hrel
    have Q := Lib.hid hq
    have PQ := Lib.hid hp
    have D := Lib.hid hd
    have BR := Lib.hid hbr
    have hi200 : i ≤ 200 := by have := HLE.out; rw [HN0.out] at this; omega
    have hiI : (i : Int) < 201 := by omega
    have hi1 : (i : Int) + 1 ≤ 201 := by omega
    have hbz := hbr.size
    have HI := Lib.hid hi
    obtain ⟨b, hb⟩ : ∃ b, takeB L1 2199023255552 = b := ⟨_, rfl⟩
    obtain ⟨⟨a, d⟩, hv⟩ : ∃ x, takeV L1 2199023255552 = x := ⟨_, rfl⟩
    have HTB := Lib.hid hb
    have HV := Lib.hid hv
    have qn := fun w => run_neT w a d
    have hbb : (b != b) = false := by simp
    clear hq hp hd hbr hb hv hi
    go_wp2_with fail
    refine (Take_c Q.out HV.out HTB.out).mono ?_
    rintro e w4 ⟨rfl, S4, hq4, hf4, hn4⟩
    have Q4 := Lib.hid hq4
    have P4 := Lib.hid (PQ.out.fr hf4 (fun k h2 h1 => D.out k h1 h2))
    have N4 := Lib.hid (show ∀ k, S4 k → ¬ S3 k from fun k h4 h3 => by
      rcases hn4 k h4 with q | q
      · exact D.out k q h3
      · have := (PQ.out.ge h3).2
        omega)
    have B4 := Lib.hid (BR.out.trans (Q.out.toBelow hf4))
    have hz4 := B4.out.size
    clear hq4 hf4 hn4
    go_wp2_with fail
    refine calls_named (S := fun W => Below w4.heap.size w4 W ∧ Blk W w4.heap.size TT [.int .i64 a, .int .i64 d]) ⟨by (repeat' (first | (with_reducible exact Below.refl _ _) | (with_reducible refine Below.setCell ?_ (by (first | omega | (simp; done) | (simp; omega))) _) | (with_reducible refine Below.alloc ?_ (by (first | omega | (simp; done) | (simp; omega))) _) | (with_reducible refine Below.drew ?_) | (with_reducible refine below_drewN ?_ _))), by (repeat' (first | (with_reducible refine BlkP.Blk.drew ?_) | (with_reducible refine BlkP.Blk.drewN ?_ _) | (with_reducible refine BlkP.Blk.setAt (us := ?_) (by first | omega | (simp; done) | (simp; omega)) rfl ?_ ?_) | (with_reducible refine BlkP.Blk.otherAt ?_ (by first | omega | (simp; done) | (simp; omega))) | (with_reducible refine BlkP.Blk.newA' (by first | omega | (simp; done) | (simp; omega)) rfl) | (with_reducible refine BlkP.Blk.alloc ?_ _) | (exact rfl)))⟩ ?_
    rintro w5 ⟨hb5, t5⟩
    have Q5 := Lib.hid (Q4.out.below hb5)
    have P5 := Lib.hid (P4.out.below hb5)
    have B5 := Lib.hid (B4.out.trans (hb5.mono hz4))
    have T5 := Lib.hid t5
    have TL := Lib.hid t5.lt
    have hz5 := hb5.size
    have HTS := Lib.hid (show ∀ k, S3 k → k < w4.heap.size from fun k hk => (P4.out.ge hk).2)
    clear hb5 t5
    refine (Take_c P5.out HV.out HTB.out).mono ?_
    rintro e w6 ⟨rfl, S6, hp6, hf6, hn6⟩
    have P6 := Lib.hid hp6
    have Q6 := Lib.hid (Q5.out.fr hf6 (fun k h4 h3 => N4.out k h4 h3))
    have N6 := Lib.hid (show ∀ k, S4 k → ¬ S6 k from fun k h4 h6 => by
      rcases hn6 k h6 with q | q
      · exact N4.out k h4 q
      · have := (Q5.out.ge h4).2
        omega)
    have B6 := Lib.hid (B5.out.trans ((P5.out.toBelow hf6).mono (by have := B2.out.size; omega)))
    have t6 := hf6.blk T5.out (fun q => by have := HTS.out _ q; omega)
    have T6 := Lib.hid t6
    have x0 := t6.cell (i := 0) rfl
    have x1 := t6.cell (i := 1) rfl
    have xl := t6.lt
    have hz6 := B6.out.size
    clear hp6 hf6 hn6 t6
    cases b with
    | false =>
      have HE := Lib.hid (show takeT L1 2199023255552 = [] by
        unfold takeT
        rw [HTB.out]
        have q := take_all Q.out.good
        rw [HTB.out] at q
        simpa using q.symm)
      rw [HE.out] at P6 Q6
      go_wp2_with fail
      refine calls_named (S := fun W => Below w6.heap.size w6 W) (by (repeat' (first | (with_reducible exact Below.refl _ _) | (with_reducible refine Below.setCell ?_ (by (first | omega | (simp; done) | (simp; omega))) _) | (with_reducible refine Below.alloc ?_ (by (first | omega | (simp; done) | (simp; omega))) _) | (with_reducible refine Below.drew ?_) | (with_reducible refine below_drewN ?_ _)))) ?_
      rintro w7 hb7
      have Q7 := Lib.hid (Q6.out.below hb7)
      have P7 := Lib.hid (P6.out.below hb7)
      have B7 := Lib.hid (B6.out.trans (hb7.mono hz6))
      clear hb7
      refine (qLen_c Q7.out).mono ?_
      rintro e w8 ⟨rfl, rfl⟩
      go_wp2_with fail
      refine (qLen_c P7.out).mono ?_
      rintro e w9 ⟨rfl, rfl⟩
      go_wp2_with fail
      refine (works_c).mono ?_
      rintro e wz ⟨rfl, hbz'⟩
      have BZ := Lib.hid (below_t B7.out hbz')
      clear hbz'
      go_wp2_with fail
      go_ret
      exact ⟨rfl, BZ.out⟩
    | true =>
      have HLT := Lib.hid (take_len Q.out.good HTB.out)
      go_wp2_with fail
      go_roundw
      case measure =>
        simp only [intOf]
        omega
      case rel =>
        refine ⟨i + 1, _, S4, S6, by first | rfl | (congr 1; omega), by have := HLT.out; have := HI.out; omega, Q6.out.below (by (repeat' (first | (with_reducible exact Below.refl _ _) | (with_reducible refine Below.setCell ?_ (by (first | omega | (simp; done) | (simp; omega))) _) | (with_reducible refine Below.alloc ?_ (by (first | omega | (simp; done) | (simp; omega))) _) | (with_reducible refine Below.drew ?_) | (with_reducible refine below_drewN ?_ _)))), P6.out.below (by (repeat' (first | (with_reducible exact Below.refl _ _) | (with_reducible refine Below.setCell ?_ (by (first | omega | (simp; done) | (simp; omega))) _) | (with_reducible refine Below.alloc ?_ (by (first | omega | (simp; done) | (simp; omega))) _) | (with_reducible refine Below.drew ?_) | (with_reducible refine below_drewN ?_ _)))), N6.out, by (repeat' (first | (with_reducible exact Below.refl _ _) | (with_reducible refine Below.setCell ?_ (by (first | omega | (simp; done) | (simp; omega))) _) | (with_reducible refine Below.alloc ?_ (by (first | omega | (simp; done) | (simp; omega))) _) | (with_reducible refine Below.drew ?_) | (with_reducible refine below_drewN ?_ _) | (with_reducible refine Below.trans ?_ (Below.mono B6.out (by (first | omega | (simp; done) | (simp; omega)))))))⟩
end
end QueW
end Go.Proofs.Ytlhanbjendbhfaa
