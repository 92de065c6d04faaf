/-
  JournalRecovers.
-/
import Derived.Test.YtknckaegpdganaaGreatDoorJouLaw
import Derived.Test.YtknckaegpdganaaGreatDoorJouRStand
import Derived.Test.YtknckaegpdganaaGreatDoorJouSame
namespace Go.Proofs.YtknckaegpdganaaGreatDoor
-- mine: whole_c same_c awake_c take_c step_c back_c
open Go.RowKit
set_option linter.unusedVariables false
set_option linter.unusedSimpArgs false
set_option maxRecDepth 100000
namespace JouW
open BlkP RowG FrS PushG JournalP SecP SecW JouP CrcW
theorem recD_len {d : Dk} {a m : Int} : (recD d a m).ws.length ≤ d.ws.length + 61 := by
  unfold recD
  split
  · rename_i h
    have h2 := open_fine h
    rw [adds_len]
    unfold recWs
    split
    · simp
    · rename_i hne
      have hs := standJ_stands (n := d.n) (a := a.toNat) (m := m.toNat) (f := d.now) hne
      have h3 := hs.le
      have h4 : (pads (stJ d a m)).length = (stJ d a m).length := List.length_map ..
      have h5 : (stJ d a m).length ≤ m.toNat := h3
      simp only [homes, List.length_append, h4, List.length_cons, List.length_nil]
      omega
  · omega
def RecRel (w : World) (pd pq n1 : Nat) (v11 : Value) (wr : World) : Prop := ∃ (i : Nat) (d : Dk) (S T : Nat → Prop), v11 = .int .i64 (i : Int) ∧ i ≤ 2 ∧ d.ws.length ≤ 61 * i ∧ Dsk wr w.heap.size pd d S ∧ Rsk wr w.heap.size pq (n1 + 61 * i) d T ∧ (∀ k, T k → ¬ S k) ∧ Below w.heap.size w wr
set_option maxHeartbeats 16000000 in
theorem law_recovers {w : World} {A1 : Option Addr} {n1 c1 : Nat} {L : List (Int × Sec)} {x a m : Int} (hT : Tab w) (hL : Rd encL w (.slice A1 n1 c1) L) (hn1 : L.length = n1) :
    Calls Tryz.prog 3 #[.int .i64 x, .slice A1 n1 c1, .int .i64 a, .int .i64 m] w fun e w' => e = .returned (.bool true) ∧ Below w.heap.size w w' := by
  have HT := Lib.hid hT
  have HL := Lib.hid hL
  have HN1 := Lib.hid hn1
  clear hT hL hn1
  go_enter Tryz.func3, Tryz.ntmps3
  go_wp2_with fail
  refine (short_c HL.out HN1.out).mono ?_
  rintro e w1 ⟨⟨r1, rfl, hr1⟩, hw⟩
  obtain rfl := hw
  cases r1 with
  | false =>
    go_wp2_with fail
    refine (awake_c HT.out).mono ?_
    rintro e w2 ⟨rfl, hb2⟩
    have B2 := Lib.hid hb2
    clear hb2
    go_wp2_with fail
    go_ret
    exact ⟨rfl, B2.out⟩
  | true =>
    have h1 := hr1 rfl
    clear hr1
    go_wp2_with fail
    refine (disks_c HL.out HN1.out h1).mono ?_
    rintro e w3 ⟨pd, pq, S, T, rfl, hq, ht, hdj, hb⟩
    have Q3 := Lib.hid hq
    have T3 := Lib.hid ht
    have D3 := Lib.hid hdj
    have B3 := Lib.hid hb
    have HWS := Lib.hid (show (oldD x L).ws.length ≤ 61 * 0 by rw [oldD_ws]; simp)
    clear hq ht hdj hb
    go_wp2_with fail
    go_loopw [11] (RecRel w1 pd pq n1) (fun v _ => 2 - (RowKit.intOf v).toNat)
    case atStart => exact ⟨0, oldD x L, S, T, rfl, by omega, HWS.out, Q3.out, T3.out, D3.out, B3.out⟩
    case round =>
      obtain ⟨i, d, Si, Ti, rfl, hi, hws, hq, ht, hdj, hbr⟩ := hrel
      have QI := Lib.hid hq
      have TI := Lib.hid ht
      have DI := Lib.hid hdj
      have BR := Lib.hid hbr
      clear hq ht hdj hbr
      by_cases hin : i < 2
      · have hiI : (i : Int) < 2 := by omega
        obtain ⟨b, hb⟩ : ∃ b, recB d a m = b := ⟨_, rfl⟩
        obtain ⟨z, hz⟩ : ∃ z, openE d.n a m = z := ⟨_, rfl⟩
        obtain ⟨d5, hd5⟩ : ∃ d5, recD d a m = d5 := ⟨_, rfl⟩
        have HB := Lib.hid hb
        have HZ := Lib.hid hz
        have HD := Lib.hid hd5
        have HLD := Lib.hid (show d5.ws.length ≤ 61 * (i + 1) by
          have := recD_len (d := d) (a := a) (m := m)
          rw [← hd5]
          omega)
        clear hb hz hd5
        go_wp2_with fail
        refine (Recover_c (HT.out.below BR.out) QI.out (by omega) HB.out HD.out HZ.out).mono ?_
        rintro e w4 ⟨rfl, S4, hq4, hf4, hn4⟩
        have Q4 := Lib.hid hq4
        have BW4 := Lib.hid (BR.out.trans (QI.out.toBelow hf4))
        have T4 := Lib.hid (TI.out.fr hf4 DI.out)
        have D4 := Lib.hid (show ∀ k, Ti k → ¬ S4 k from apart_turned (w := wr) (fun k hk => (TI.out.ge hk).2) DI.out hn4)
        clear hq4 hf4 hn4
        go_wp2_with fail
        refine (rRecover_c T4.out (by omega) HB.out HD.out HZ.out).mono ?_
        rintro e w5 ⟨rfl, T5, hq5, hf5, hn5⟩
        have TT5 := Lib.hid (show Rsk w5 w1.heap.size pq (n1 + 61 * (i + 1)) d5 T5 from hq5.mono (Nat.le_refl _) (by omega))
        have BW5 := Lib.hid (BW4.out.trans (T4.out.toBelow hf5))
        have Q5 := Lib.hid (Q4.out.fr hf5 (fun k h1 h2 => D4.out k h2 h1))
        have D5 := Lib.hid (show ∀ k, T5 k → ¬ S4 k from fun k h1 h2 => by
          rcases hn5 k h1 with q | q
          · exact D4.out k q h2
          · have := (Q4.out.ge h2).2
            omega)
        clear hq5 hf5 hn5
        go_wp2_with fail
        refine (Log_c Q5.out (by have := HLD.out; omega)).mono ?_
        rintro e w6 ⟨v6, rfl, ho6, hb6⟩
        have L6 := Lib.hid ho6
        have BW6 := Lib.hid (below_t BW5.out hb6)
        have Q6 := Lib.hid (Q5.out.below hb6)
        have T6 := Lib.hid (TT5.out.below hb6)
        clear ho6 hb6
        go_wp2_with fail
        refine (rLog_c T6.out (by omega)).mono ?_
        rintro e w7 ⟨v7, rfl, ho7, hb7⟩
        have M7 := Lib.hid ho7
        have L7 := Lib.hid (L6.out.below hb7)
        have BW7 := Lib.hid (below_t BW6.out hb7)
        have Q7 := Lib.hid (Q6.out.below hb7)
        have T7 := Lib.hid (T6.out.below hb7)
        clear ho7 hb7
        have hbb : (b != b) = false := by cases b <;> rfl
        have hbb2 : (b == b) = true := by cases b <;> rfl
        go_wp2_with fail
        refine (Same_c L7.out M7.out).mono ?_
        rintro e w8 ⟨rfl, hb8⟩
        have BW8 := Lib.hid (below_t BW7.out hb8)
        have Q8 := Lib.hid (Q7.out.below hb8)
        have T8 := Lib.hid (T7.out.below hb8)
        clear hb8
        go_wp2_with fail
        go_roundw
        case rel => exact ⟨i + 1, d5, S4, T5, by first | rfl | (congr 1; omega), by omega, HLD.out, Q8.out, T8.out, D5.out, BW8.out⟩
        case measure => first | (simp [RowKit.intOf]; done) | (simp [RowKit.intOf]; omega)
      · have hiI : ¬ (i : Int) < 2 := by omega
        go_wp2_with fail
        refine (awake_c (HT.out.below BR.out)).mono ?_
        rintro e w4 ⟨rfl, hb4⟩
        have B4 := Lib.hid (below_t BR.out hb4)
        clear hb4
        go_wp2_with fail
        go_ret
        exact ⟨rfl, B4.out⟩
end JouW
end Go.Proofs.YtknckaegpdganaaGreatDoor
