/-
  BytesBroken: a reader that is broken stays so.
-/
import Derived.Test.YtblfahnjogaacaaBytesAsk
namespace Go.Proofs.Ytblfahnjogaacaa
open Go.RowKit
open Go.Lib (uvarint uvarint_small uvarint_big uvarint_length64 uvarint_pos zigzag)
set_option linter.unusedVariables false
set_option linter.unusedSimpArgs false
namespace BytesW

theorem bad_num (l : List UInt8) : rNum (l, true) = (0, (l, true)) := by simp [rNum]
theorem bad_int (l : List UInt8) : rInt (l, true) = (0, (l, true)) := by simp [rInt, rNum, zag]
theorem bad_text (l : List UInt8) (n : Int) : rText (l, true) n = ([], (l, true)) := by simp [rText]
theorem bad_step (l : List UInt8) (n : Int) : rStep (l, true) n = ([], (l, true)) := by simp [rStep]
theorem bad_fixed (l : List UInt8) (n : Int) : rFixed (l, true) n = (0, (l, true)) := by simp [rFixed]
theorem bad_end (l : List UInt8) : rEnd (l, true) = (l, true) := by simp [rEnd]
theorem bad_err (l : List UInt8) : rErr (l, true) = 4 := by simp [rErr]
def BrokenRel (w : World) (p : Nat) (l : List UInt8) (n : Nat) (i : Value) (wr : World) : Prop := ∃ j : Nat, i = .int .i64 j ∧ j ≤ n ∧ RS wr p (l, true) ∧ Below w.heap.size w wr
set_option maxRecDepth 100000 in
set_option maxHeartbeats 1000000 in
theorem law_broken {s : List UInt8} {A : Option Addr} {c : Nat} {xs : List (Int × Int)} (hs : s.length ≤ 9223372036854775807) (hx : xs.length ≤ 9223372036854775807) (w : World) (hA : AskAt w A xs) :
    Calls Try.prog 8 #[.string ⟨s.toArray⟩, .slice A xs.length c] w fun e w' => e = .returned (.bool true) ∧ Below w.heap.size w w' := by
  obtain ⟨l, hl⟩ : ∃ l, l = s.take 200 := ⟨_, rfl⟩
  have hll : l.length ≤ 200 := by rw [hl]; simp; omega
  have HL := Lib.hid hl
  have HA := Lib.hid hA
  have es : (⟨l.toArray⟩ : ByteArray).size = l.length := by simp [ByteArray.size]
  clear hl hA
  go_enter Try.func8, Try.ntmps8
  go_wp2_with fail
  go_at_call 10
  refine (cut_c (n := 200) hs (by omega) _).mono ?_
  rintro e w' ⟨rfl, rfl⟩
  rw [← HL.out]
  go_wp2_with ((with_reducible refine at_slot 16 ?_); refine wp_bytes rfl (.tmp 15) rfl (l := l) rfl ?_ (by simp only [maxLen]; omega); intro c1 w1 cs1 hcs1 k1 k2 k3 k4 hb1 hz1)
  have hA1 := at_bytes hcs1 k4
  have HB1 := Lib.hid hb1
  have hzz1 := hb1.size
  clear hb1 k4 hcs1
  go_wp2_with fail
  go_at_call 20
  refine (newReader_c hA1 (by omega)).mono ?_
  rintro e w2 ⟨p, rfl, hs2, hp2, hp3, hb2⟩
  have HB2 := Lib.hid (below_more HB1.out hb2)
  have hp : w.heap.size ≤ p := by omega
  clear hb2
  go_wp2_with fail
  go_at_call 28
  refine (take_c hs2 (show rStep (l, false) (-1) = ([], (l, true)) by simp [rStep])).mono ?_
  rintro e w3 ⟨A3, d3, rfl, hA3, k5, k6, hg3, hs3⟩
  have HB3 := Lib.hid (below_next (s := (l, true)) HB2.out hp hg3)
  clear hg3 hA3
  go_wp2_with fail
  go_loopw [6] (BrokenRel w p l xs.length) (fun i _ => xs.length - (intOf i).toNat)
  case atStart => exact ⟨0, rfl, by omega, hs3, HB3.out⟩
  case round =>
    obtain ⟨j, rfl, hj, hsr, hbr⟩ := hrel
    have HB4 := Lib.hid hbr
    have hzr := hbr.size
    clear hbr
    by_cases hgo : j < xs.length ∧ j < 30
    · obtain ⟨hj1, hj2⟩ := hgo
      obtain ⟨b, o, W, N, hAe, hN0, hN1, hW0, hW1, g1, g2, g3⟩ := (HA.out.below HB4.out).at_ hj1
      have hbl : b < w.heap.size := by
        obtain ⟨b', o', hA', hlt', _⟩ := HA.out (fun e => by rw [e] at hj1; simp at hj1)
        rw [hAe] at hA'
        injection hA' with hA'
        injection hA' with h1 _ _
        omega
      subst hAe
      go_wp2_with fail
      go_at_call 30
      refine (num_c hsr (bad_num l)).mono ?_
      rintro e w5 ⟨rfl, hg5, hs5⟩
      have HB5 := Lib.hid (below_next (s := (l, true)) HB4.out hp hg5)
      have hz5 := HB5.out.size
      have g1 : w5.cell? ⟨b, o + j * 2, none⟩ = some (.int .i64 W) := cell_grown g1 (Nat.lt_of_lt_of_le hbl hzr) (by omega) hg5
      have g2 : w5.cell? ⟨b, o + (j * 2 + 1), none⟩ = some (.int .i64 N) := cell_grown g2 (Nat.lt_of_lt_of_le hbl hzr) (by omega) hg5
      have g3 : w5.cell? ⟨b, o + j * 2 + 1, none⟩ = some (.int .i64 N) := cell_grown g3 (Nat.lt_of_lt_of_le hbl hzr) (by omega) hg5
      go_wp2_with fail
      go_at_call 31
      refine (int_c hs5 (bad_int l)).mono ?_
      rintro e w6 ⟨rfl, hg6, hs6⟩
      have HB6 := Lib.hid (below_next (s := (l, true)) HB5.out hp hg6)
      have hz6 := HB6.out.size
      have g1 : w6.cell? ⟨b, o + j * 2, none⟩ = some (.int .i64 W) := cell_grown g1 (Nat.lt_of_lt_of_le hbl hz5) (by omega) hg6
      have g2 : w6.cell? ⟨b, o + (j * 2 + 1), none⟩ = some (.int .i64 N) := cell_grown g2 (Nat.lt_of_lt_of_le hbl hz5) (by omega) hg6
      have g3 : w6.cell? ⟨b, o + j * 2 + 1, none⟩ = some (.int .i64 N) := cell_grown g3 (Nat.lt_of_lt_of_le hbl hz5) (by omega) hg6
      go_wp2_with fail
      go_at_call 32
      refine (text_c hs6 (bad_text l N) hN0 hN1).mono ?_
      rintro e w7 ⟨rfl, hg7, hs7⟩
      have HB7 := Lib.hid (below_next (s := (l, true)) HB6.out hp hg7)
      have hz7 := HB7.out.size
      have g1 : w7.cell? ⟨b, o + j * 2, none⟩ = some (.int .i64 W) := cell_grown g1 (Nat.lt_of_lt_of_le hbl hz6) (by omega) hg7
      have g2 : w7.cell? ⟨b, o + (j * 2 + 1), none⟩ = some (.int .i64 N) := cell_grown g2 (Nat.lt_of_lt_of_le hbl hz6) (by omega) hg7
      have g3 : w7.cell? ⟨b, o + j * 2 + 1, none⟩ = some (.int .i64 N) := cell_grown g3 (Nat.lt_of_lt_of_le hbl hz6) (by omega) hg7
      go_wp2_with fail
      go_at_call 28
      refine (take_c hs7 (bad_step l N)).mono ?_
      rintro e w8 ⟨A8, d8, rfl, hA8, m8, n8, hg8, hs8⟩
      have HB8 := Lib.hid (below_next (s := (l, true)) HB7.out hp hg8)
      have hz8 := HB8.out.size
      have g1 : w8.cell? ⟨b, o + j * 2, none⟩ = some (.int .i64 W) := cell_grown g1 (Nat.lt_of_lt_of_le hbl hz7) (by omega) hg8
      have g2 : w8.cell? ⟨b, o + (j * 2 + 1), none⟩ = some (.int .i64 N) := cell_grown g2 (Nat.lt_of_lt_of_le hbl hz7) (by omega) hg8
      have g3 : w8.cell? ⟨b, o + j * 2 + 1, none⟩ = some (.int .i64 N) := cell_grown g3 (Nat.lt_of_lt_of_le hbl hz7) (by omega) hg8
      go_wp2_with fail
      go_at_call 33
      refine (fixed_c hs8 (bad_fixed l N)).mono ?_
      rintro e w9 ⟨rfl, hg9, hs9⟩
      have HB9 := Lib.hid (below_next (s := (l, true)) HB8.out hp hg9)
      have hz9 := HB9.out.size
      have g1 : w9.cell? ⟨b, o + j * 2, none⟩ = some (.int .i64 W) := cell_grown g1 (Nat.lt_of_lt_of_le hbl hz8) (by omega) hg9
      have g2 : w9.cell? ⟨b, o + (j * 2 + 1), none⟩ = some (.int .i64 N) := cell_grown g2 (Nat.lt_of_lt_of_le hbl hz8) (by omega) hg9
      have g3 : w9.cell? ⟨b, o + j * 2 + 1, none⟩ = some (.int .i64 N) := cell_grown g3 (Nat.lt_of_lt_of_le hbl hz8) (by omega) hg9
      go_wp2_with fail
      go_at_call 29
      refine (end_c hs9 (show rErr (rEnd (l, true)) = 4 by rw [bad_end, bad_err])).mono ?_
      rintro e w10 ⟨rfl, hg10, hs10⟩
      rw [bad_end] at hs10
      have HB10 := Lib.hid (below_next (s := (l, true)) HB9.out hp hg10)
      have hz10 := HB10.out.size
      go_wp2_with (first
        | (go_at_call 22; refine (left_c hs10).mono ?_; rintro e w' ⟨rfl, rfl⟩)
        | (go_at_call 24; refine (err_c hs10 (bad_err l)).mono ?_; rintro e w' ⟨rfl, rfl⟩))
      go_roundw
      case rel => exact ⟨j + 1, by go_num, by omega, hs10, HB10.out⟩
      case measure => simp [intOf]; omega
    · have hor : xs.length ≤ j ∨ 30 ≤ j := by omega
      clear hgo
      rcases hor with hor | hor
      · go_wp2_with (first
          | (go_at_call 24; refine (err_c hsr (bad_err l)).mono ?_; rintro e w' ⟨rfl, rfl⟩)
          | (go_at_call 19; refine (works_c _).mono ?_; rintro e w4 ⟨rfl, hb4⟩))
        go_ret
        exact ⟨rfl, below_more HB4.out hb4⟩
      · by_cases hj3 : j < xs.length
        all_goals
          go_wp2_with (first
            | (go_at_call 24; refine (err_c hsr (bad_err l)).mono ?_; rintro e w' ⟨rfl, rfl⟩)
            | (go_at_call 19; refine (works_c _).mono ?_; rintro e w4 ⟨rfl, hb4⟩))
          go_ret
          exact ⟨rfl, below_more HB4.out hb4⟩
end BytesW
end Go.Proofs.Ytblfahnjogaacaa
