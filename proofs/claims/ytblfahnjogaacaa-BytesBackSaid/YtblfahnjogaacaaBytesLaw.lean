/-
  The laws' own small functions; a reader that is none.
-/
import Derived.Test.YtblfahnjogaacaaBytesCalls
namespace Go.Proofs.Ytblfahnjogaacaa
open Go.RowKit
open Go.Lib (uvarint uvarint_small uvarint_big uvarint_length64 uvarint_pos zigzag)
set_option linter.unusedVariables false
set_option linter.unusedSimpArgs false
namespace BytesW

theorem ret_st {a b : ByteArray} (h : a = b) : Ending.returned (.string a) = .returned (.string b) := by rw [h]
theorem extract_take (l : List UInt8) (n : Nat) : (⟨l.toArray⟩ : ByteArray).extract 0 n = ⟨(l.take n).toArray⟩ := by
  apply ByteArray.ext
  simp
theorem cut_c {l : List UInt8} {n : Nat} (hl : l.length ≤ 9223372036854775807) (hn : n ≤ 1000000) (w : World) :
    Calls Try.prog 10 #[.string ⟨l.toArray⟩, .int .i64 n] w fun e w' => e = .returned (.string ⟨(l.take n).toArray⟩) ∧ w = w' := by
  have es : (⟨l.toArray⟩ : ByteArray).size = l.length := by simp [ByteArray.size]
  by_cases h : n < l.length
  · have HE := Lib.hid (extract_take l n)
    go_enter Try.func10, Try.ntmps10
    go_wp2_with fail
    go_ret
    refine ⟨?_, rfl⟩
    first | rfl | (rw [← HE.out]; rfl) | (rw [← HE.out]; simp)
  · have HE := Lib.hid (show l.take n = l from List.take_of_length_le (by omega))
    have HX := Lib.hid (extract_take l l.length)
    go_enter Try.func10, Try.ntmps10
    go_wp2_with fail
    go_ret
    refine ⟨ret_st ?_, rfl⟩
    have e := HX.out
    rw [List.take_length] at e
    rw [HE.out]
    exact e

theorem uv300 : uvarint 300 = [172, 2] := by
  rw [uvarint_big (by omega), uvarint_small (by omega)]
  rfl
theorem works_c (w : World) : Calls Try.prog 19 #[] w fun e w' => e = .returned (.bool true) ∧ Below w.heap.size w w' := by
  have HL := Lib.hid (show ([] : List UInt8) ++ uvarint 300 = [172, 2] by rw [uv300]; rfl)
  have HP := @put_c w none [] 0 300 At.nil (by simp) (by omega)
  rw [HL.out] at HP
  have HP2 := Lib.hid HP
  clear HP
  have hN : rNum (([172, 2] : List UInt8), false) = (300, ([], false)) := by decide
  have HN := Lib.hid hN
  have hE : rErr (rEnd (([] : List UInt8), false)) = 0 := by decide
  have HE := Lib.hid hE
  clear hN hE
  go_enter Try.func19, Try.ntmps19
  go_wp2_with fail
  go_at_call 11
  refine HP2.out.mono ?_
  rintro e w1 ⟨v1, rfl, hown1, hb1⟩
  obtain ⟨A1, c1, rfl, hA1, hc1, hc11⟩ := hown1.sl
  have hz1 := hb1.size
  go_wp2_with fail
  go_at_call 20
  refine (newReader_c hA1 (by simp)).mono ?_
  rintro e w2 ⟨p, rfl, hs2, hp, hp2, hb2⟩
  have HB := Lib.hid (hb1.trans (hb2.mono hz1))
  have hA2 := hA1.below hb2
  have hp' : w.heap.size ≤ p := by omega
  clear hb1 hb2
  go_wp2_with (first
    | ((with_reducible refine at_slot 7 ?_); refine wp_str rfl (.tmp 6) rfl (A := A1) (l := [172, 2]) (c := c1) rfl hA2 ?_)
    | (go_at_call 30; refine (num_c hs2 HN.out).mono ?_; rintro e w3 ⟨rfl, hg3, hs3⟩; have hs3 := hs3)
    | (go_at_call 29; refine (end_c hs3 HE.out).mono ?_; rintro e w4 ⟨rfl, hg4, hs4⟩))
  go_ret
  refine ⟨rfl, ?_⟩
  have h1 := HB.out.grown hg3 (by omega) (fun k hk => by injection hk with hk; omega)
  exact h1.grown hg4 (by have := hg3.size; omega) (fun k hk => by injection hk with hk; omega)

/-! A reader that is none, and one that was not made by NewReader. -/
theorem isSound_nil (w : World) : Calls Try.prog 45 #[.pointer none] w fun e w' => e = .returned (.bool false) ∧ w = w' := by
  go_enter Try.func45, Try.ntmps45
  go_wp2_with fail
  go_ret
  exact ⟨rfl, rfl⟩
theorem num_nil (w : World) : Calls Try.prog 30 #[.pointer none] w fun e w' => e = .returned (.int .u64 0) ∧ w = w' := by
  go_enter Try.func30, Try.ntmps30
  go_wp2_with (go_at_call 45; refine (isSound_nil _).mono ?_; rintro e w' ⟨rfl, rfl⟩)
  go_ret
  exact ⟨rfl, rfl⟩
theorem err_nil (w : World) : Calls Try.prog 24 #[.pointer none] w fun e w' => e = .returned (.int .i64 1) ∧ w = w' := by
  go_enter Try.func24, Try.ntmps24
  go_wp2_with fail
  go_ret
  exact ⟨rfl, rfl⟩
theorem end_nil (w : World) : Calls Try.prog 29 #[.pointer none] w fun e w' => e = .returned (.int .i64 1) ∧ w = w' := by
  go_enter Try.func29, Try.ntmps29
  go_wp2_with (first | (go_at_call 45; refine (isSound_nil _).mono ?_; rintro e w' ⟨rfl, rfl⟩) | (go_at_call 24; refine (err_nil _).mono ?_; rintro e w' ⟨rfl, rfl⟩))
  go_ret
  exact ⟨rfl, rfl⟩
theorem left_nil (w : World) : Calls Try.prog 22 #[.pointer none] w fun e w' => e = .returned (.int .i64 0) ∧ w = w' := by
  go_enter Try.func22, Try.ntmps22
  go_wp2_with fail
  go_ret
  exact ⟨rfl, rfl⟩
theorem isSound_un {w : World} {p : Nat} (h : w.cell? ⟨p, 1, none⟩ = some (.int .u8 0)) : Calls Try.prog 45 #[.pointer (some ⟨p, 0, none⟩)] w fun e w' => e = .returned (.bool false) ∧ w = w' := by
  go_enter Try.func45, Try.ntmps45
  go_wp2_with fail
  go_ret
  exact ⟨rfl, rfl⟩
theorem err_un {w : World} {p : Nat} (h : w.cell? ⟨p, 1, none⟩ = some (.int .u8 0)) : Calls Try.prog 24 #[.pointer (some ⟨p, 0, none⟩)] w fun e w' => e = .returned (.int .i64 1) ∧ w = w' := by
  go_enter Try.func24, Try.ntmps24
  go_wp2_with fail
  go_ret
  exact ⟨rfl, rfl⟩
theorem next_un {w : World} {p : Nat} {n : Int} (h : w.cell? ⟨p, 1, none⟩ = some (.int .u8 0)) : Calls Try.prog 44 #[.pointer (some ⟨p, 0, none⟩), .int .i64 n] w fun e w' => e = .returned (.slice none 0 0) ∧ w = w' := by
  go_enter Try.func44, Try.ntmps44
  go_wp2_with (go_at_call 45; refine (isSound_un h).mono ?_; rintro e w' ⟨rfl, rfl⟩)
  go_ret
  exact ⟨rfl, rfl⟩
theorem take_un {w : World} {p : Nat} {n : Int} (h : w.cell? ⟨p, 1, none⟩ = some (.int .u8 0)) : Calls Try.prog 28 #[.pointer (some ⟨p, 0, none⟩), .int .i64 n] w (Gives w []) := by
  have HC := Lib.hid (@clone_c w none [] 0 At.nil (by simp))
  go_enter Try.func28, Try.ntmps28
  go_wp2_with (first | (go_at_call 44; refine (next_un h).mono ?_; rintro e w' ⟨rfl, rfl⟩) | (go_at_call 37; refine HC.out.mono ?_; rintro e w1 ⟨v1, rfl, hown1, hb1⟩))
  go_ret
  exact ⟨v1, rfl, hown1, hb1⟩
end BytesW
end Go.Proofs.Ytblfahnjogaacaa
