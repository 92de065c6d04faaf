/-
  math/bits: OnesCount64, TrailingZeros64; how many sectors are free.
-/
import Derived.Test.YtbnkaeigabifhaaDoorFreeSmall
-- mine: whole_c same_c awake_c take_c step_c back_c Made number_c next_c fixed_c clone_c int_c end_c put_c
namespace Go.Proofs.YtbnkaeigabifhaaDoor
open Go.RowKit
set_option linter.unusedVariables false
set_option linter.unusedSimpArgs false
set_option maxRecDepth 100000
namespace FreW
open BlkP RowG FrS PushG FreP
theorem and_lit (x m : Nat) (hx : x < 18446744073709551616) (hm : m < 18446744073709551616) {y l : Int} (hy : y = (x : Int)) (hl : l = (m : Int)) : bits .and .u64 y l = ((x &&& m : Nat) : Int) := by
  rw [hy, hl, bits_and_u64_nat x m hx hm]
theorem wrap_nat (n : Nat) {y : Int} (hy : y = (n : Int)) (hn : n < 18446744073709551616) : IntKind.u64.wrap y = (n : Int) := by
  rw [IntKind.wrap_u64, hy]
  omega
theorem and_low {t : Nat} (ht : t < 9223372036854775808) : bits .and .i64 (t : Int) 127 = ((t % 128 : Nat) : Int) := by
  have h1 : (BitVec.ofInt 64 (t : Int)).toNat = t := by
    rw [BitVec.ofInt_natCast, BitVec.toNat_ofNat]; exact Nat.mod_eq_of_lt (by omega)
  have h2 : (BitVec.ofInt 64 (127 : Int)).toNat = 127 := by decide
  show IntKind.i64.wrap ((BitVec.ofInt 64 (t : Int) &&& BitVec.ofInt 64 (127 : Int)).toNat : Int) = _
  rw [BitVec.toNat_and, h1, h2, show (127 : Nat) = 2 ^ 7 - 1 from rfl, Nat.and_two_pow_sub_one_eq_mod, IntKind.wrap_i64]
  omega
set_option maxHeartbeats 2000000 in
theorem OnesCount64_c {X : Nat} (hX : X < 18446744073709551616) (w : World) : Calls Tryd.prog 46 #[.int .u64 (X : Int)] w fun e w' => e = .returned (.int .i64 (pop 64 X : Int)) ∧ w' = w := by
  obtain ⟨x1, x2, x3, y, z, t, e1, e2, e3, e4, e5, e6, e7, e8, e9, e10, e11⟩ := pop_steps X hX
  obtain ⟨a1, ha1⟩ : ∃ a, a = X / 2 &&& m0 := ⟨_, rfl⟩
  obtain ⟨b1, hb1⟩ : ∃ a, a = X &&& m0 := ⟨_, rfl⟩
  have q1 : bits .and .u64 ((X : Int) / 2) 6148914691236517205 = (a1 : Int) := by rw [ha1]; exact and_lit (X / 2) m0 (by omega) (by decide) (by omega) rfl
  have q2 : bits .and .u64 (X : Int) 6148914691236517205 = (b1 : Int) := by rw [hb1]; exact and_lit X m0 hX (by decide) rfl rfl
  rw [← ha1, ← hb1] at e1
  have q3 : IntKind.u64.wrap ((a1 : Int) + (b1 : Int)) = (x1 : Int) := wrap_nat x1 (by omega) e8
  obtain ⟨a2, ha2⟩ : ∃ a, a = x1 / 4 &&& m1 := ⟨_, rfl⟩
  obtain ⟨b2, hb2⟩ : ∃ a, a = x1 &&& m1 := ⟨_, rfl⟩
  have q4 : bits .and .u64 ((x1 : Int) / 4) 3689348814741910323 = (a2 : Int) := by rw [ha2]; exact and_lit (x1 / 4) m1 (by omega) (by decide) (by omega) rfl
  have q5 : bits .and .u64 (x1 : Int) 3689348814741910323 = (b2 : Int) := by rw [hb2]; exact and_lit x1 m1 e8 (by decide) rfl rfl
  rw [← ha2, ← hb2] at e2
  have q6 : IntKind.u64.wrap ((a2 : Int) + (b2 : Int)) = (x2 : Int) := wrap_nat x2 (by omega) (by omega)
  have q7 : bits .and .u64 ((x2 : Int) / 16 + (x2 : Int)) 1085102592571150095 = (x3 : Int) := by rw [← e3]; exact and_lit (x2 / 16 + x2) m2 e9 (by decide) (by omega) rfl
  have q7b : IntKind.u64.wrap ((x2 : Int) / 16 + (x2 : Int)) = (x2 : Int) / 16 + (x2 : Int) := by rw [IntKind.wrap_u64]; omega
  have q8 : IntKind.u64.wrap ((x3 : Int) + (x3 : Int) / 256) = (y : Int) := wrap_nat y (by omega) (by omega)
  have q9 : IntKind.u64.wrap ((y : Int) + (y : Int) / 65536) = (z : Int) := wrap_nat z (by omega) (by omega)
  have q10 : IntKind.u64.wrap ((z : Int) + (z : Int) / 4294967296) = (t : Int) := wrap_nat t (by omega) (by omega)
  have q11 : bits .and .i64 (t : Int) 127 = ((pop 64 X : Nat) : Int) := by rw [and_low e10, e7]
  have ht : (t : Int) < 9223372036854775808 := by omega
  have HR := Lib.hid (show (pop 64 X : Nat) ≤ 64 from e11)
  obtain ⟨r, hr⟩ : ∃ r, r = pop 64 X := ⟨_, rfl⟩
  rw [← hr] at q11 ⊢
  have Q1 := Lib.hid q1
  have Q2 := Lib.hid q2
  have Q3 := Lib.hid q3
  have Q4 := Lib.hid q4
  have Q5 := Lib.hid q5
  have Q6 := Lib.hid q6
  have Q7 := Lib.hid q7
  have Q7b := Lib.hid q7b
  have Q8 := Lib.hid q8
  have Q9 := Lib.hid q9
  have Q10 := Lib.hid q10
  have Q11 := Lib.hid q11
  clear e1 e2 e3 e4 e5 e6 e7 e8 e9 e10 e11 ha1 hb1 ha2 hb2 q1 q2 q3 q4 q5 q6 q7 q7b q8 q9 q10 q11 hr
  go_enter Tryd.func46, Tryd.ntmps46
  go_wp2_with (simp only [Q1.out, Q2.out, Q3.out, Q4.out, Q5.out, Q6.out, Q7b.out, Q7.out, Q8.out, Q9.out, Q10.out, Q11.out])
  go_ret
  exact ⟨rfl, rfl⟩
theorem tz_key (x a : Nat) (hx : x < 18446744073709551616) (hx0 : x ≠ 0) (hlow : x &&& (18446744073709551616 - x) = a) :
    IntKind.u64.wrap (bits BinOp.and IntKind.u64 (x : Int) (IntKind.u64.wrap (-(x : Int))) * 285870213051353865) / 288230376151711744 = ((a * 285870213051353865 % 18446744073709551616 / 288230376151711744 : Nat) : Int) := by
  have e1 : IntKind.u64.wrap (-(x : Int)) = ((18446744073709551616 - x : Nat) : Int) := by rw [IntKind.wrap_u64]; omega
  rw [e1, bits_and_u64_nat x _ hx (by omega), hlow, IntKind.wrap_u64]
  omega
/-- The table of math/bits, as it is laid. -/
def TabZ (w : World) : Prop := (∀ j, j < 64 → w.cell? ⟨0, j, none⟩ = some (.int .u8 ((Lib.deBruijn64tab.getD j 0 : Nat) : Int))) ∧ 0 < w.heap.size
theorem TabZ.fr {S : Nat → Prop} {w w' : World} (h : TabZ w) (hf : Fr S w w') (hn : ¬ S 0) : TabZ w' :=
  ⟨fun j hj => (hf.cell (p := ⟨0, j, none⟩) h.2 hn).trans (h.1 j hj), Nat.lt_of_lt_of_le h.2 hf.size⟩
theorem TabZ.below {w w' : World} (h : TabZ w) (hb : Below w.heap.size w w') : TabZ w' := h.fr (Fr.below (fun _ => False) hb) (fun q => q)
theorem tz_core {x k idx : Nat} {w : World} (hx0 : ((x : Int) == 0) = false)
    (key : IntKind.u64.wrap (bits BinOp.and IntKind.u64 (x : Int) (IntKind.u64.wrap (-(x : Int))) * 285870213051353865) / 288230376151711744 = (idx : Int))
    (hi : idx < 64) (hk : k < 64) (hcell : w.cell? ⟨0, idx, none⟩ = some (.int .u8 k)) :
    Calls Tryd.prog 41 #[.int .u64 (x : Int)] w fun e w' => e = .returned (.int .i64 (k : Int)) ∧ w' = w := by
  go_enter Tryd.func41, Tryd.ntmps41
  go_wp2_with (simp only [key])
  go_ret
  exact ⟨rfl, rfl⟩
theorem TrailingZeros64_c {x : Nat} (hx0 : x ≠ 0) (hx : x < 18446744073709551616) {w : World} (hT : TabZ w) : Calls Tryd.prog 41 #[.int .u64 (x : Int)] w fun e w' => e = .returned (.int .i64 (Lib.ctz 64 x : Int)) ∧ w' = w := by
  obtain ⟨hlow, hk⟩ := Lib.lowest_bit 64 x hx0 hx
  obtain ⟨hi, htab⟩ := Lib.deBruijn64_at _ hk
  have hcell := hT.1 _ hi
  rw [htab] at hcell
  exact tz_core (by simp; omega) (tz_key x _ hx hx0 hlow) hi hk hcell
section
variable {w : World} {B p n : Nat} {L : List Bool} {S : Nat → Prop}
theorem Free_no (w : World) : Calls Tryd.prog 25 #[.pointer none] w fun e w' => e = .returned (.int .i64 0) ∧ w' = w := by
  go_enter Tryd.func25, Tryd.ntmps25
  go_wp2_with fail
  go_ret
  exact ⟨rfl, rfl⟩
set_option maxHeartbeats 1000000 in
theorem Free_i (h : Mp w B p n L S) : Calls Tryd.prog 25 #[.pointer (some ⟨p, 0, none⟩)] w fun e w' => e = .returned (.int .i64 (free L : Int)) ∧ w' = w := by
  have hlen := h.len
  have hhi := h.hi
  obtain ⟨g, c, h1, h2⟩ := h
  have c1 := h1.bp.cell (i := 1) (v := .slice (some ⟨g, 0, none⟩) (nw n) c) rfl
  have hnw : nw n ≤ 2048 := by unfold nw; omega
  have HE : Hid (cnt (has L) 0 (64 * nw n) = free L) := Lib.hid (by rw [← hlen]; exact words_free L)
  have HW := Lib.hid (fun j (hj : j < nw n) => h1.word hj)
  clear h1 h2 hlen
  go_enter Tryd.func25, Tryd.ntmps25
  go_wp2_with fail
  go_loopw [3, 5, 13] (fun v3 v5 v13 wr => ∃ (j : Nat), v13 = .int .i64 (j : Int) ∧ j ≤ nw n ∧ v3 = .int .i64 ((cnt (has L) 0 (64 * j) : Nat) : Int) ∧ wr = w) (fun v3 v5 v13 _ => nw n - (RowKit.intOf v13).toNat)
  case atStart => exact ⟨0, rfl, by omega, rfl, rfl⟩
  case round =>
    obtain ⟨j, rfl, hj, rfl, hwr⟩ := hrel
    obtain rfl := hwr
    by_cases hlt : j < nw n
    · have cw := HW.out j hlt
      have hle := cnt_le (has L) (64 * j) 0
      have HC := Lib.hid (show cnt (has L) 0 (64 * (j + 1)) = cnt (has L) 0 (64 * j) + pop 64 (wd L j) by
        rw [show 64 * (j + 1) = 64 * j + 64 by omega, cnt_add, Nat.zero_add]
        unfold wd
        rw [pop_word])
      have hp : pop 64 (wd L j) ≤ 64 := by
        unfold wd
        rw [pop_word]
        exact cnt_le _ _ _
      obtain ⟨W, hW⟩ : ∃ W, W = wd L j := ⟨_, rfl⟩
      have hWl : W < 18446744073709551616 := by rw [hW]; exact wd_lt _ _
      rw [← hW] at cw HC hp
      obtain ⟨q, hq⟩ : ∃ q, q = cnt (has L) 0 (64 * j) := ⟨_, rfl⟩
      rw [← hq] at HC hle ⊢
      obtain ⟨r, hr⟩ : ∃ r, r = pop 64 W := ⟨_, rfl⟩
      have HP : Hid (∀ w, Calls Tryd.prog 46 #[.int .u64 (W : Int)] w fun e w' => e = .returned (.int .i64 (r : Int)) ∧ w' = w) := Lib.hid (fun w => by rw [hr]; exact OnesCount64_c hWl w)
      rw [← hr] at HC hp
      clear hW hq hr
      go_wp2_with fail
      go_at_call 46
      refine (HP.out _).mono ?_
      rintro e w1 ⟨rfl, rfl⟩
      go_wp2_with fail
      go_roundw
      case rel => exact ⟨j + 1, by go_num, by omega, by rw [HC.out]; go_num, by first | rfl | trivial⟩
      case measure => simp [RowKit.intOf]; omega
    · obtain rfl : j = nw n := by omega
      go_wp2_with fail
      go_ret
      exact ⟨by rw [← HE.out]; rfl, rfl⟩
end
end FreW
end Go.Proofs.YtbnkaeigabifhaaDoor
