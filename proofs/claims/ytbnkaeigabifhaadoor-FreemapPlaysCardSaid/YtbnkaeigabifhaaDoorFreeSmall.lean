/-
  The small walks of package freemap: what a map is asked; math/bits.
-/
import Derived.Test.YtbnkaeigabifhaaDoorFreeMem
import Derived.Laws.Bits64b
import Derived.BigQuiet
-- mine: whole_c same_c awake_c take_c step_c back_c Made number_c next_c fixed_c clone_c int_c end_c put_c
namespace Go.Proofs.YtbnkaeigabifhaaDoor
open Go.RowKit
set_option linter.unusedVariables false
set_option linter.unusedSimpArgs false
set_option maxRecDepth 100000
namespace FreW
open BlkP RowG FrS PushG FreP
def isM (n : Int) : Bool := decide (256 ≤ n) && decide (n ≤ 131072)
theorem isM_iff {n : Int} : isM n = true ↔ 256 ≤ n ∧ n ≤ 131072 := by simp [isM]
theorem isMap_c {n : Int} {r : Bool} (h : isM n = r) (w : World) : Calls Tryd.prog 36 #[.int .i64 n] w fun e w' => e = .returned (.bool r) ∧ w' = w := by
  by_cases h1 : 256 ≤ n
  · by_cases h2 : n ≤ 131072
    · obtain rfl : r = true := by rw [← h]; simp [isM, h1, h2]
      clear h
      go_enter Tryd.func36, Tryd.ntmps36
      go_wp2_with fail
      go_ret
      exact ⟨rfl, rfl⟩
    · obtain rfl : r = false := by rw [← h]; simp [isM, h1, h2]
      clear h
      go_enter Tryd.func36, Tryd.ntmps36
      go_wp2_with fail
      go_ret
      exact ⟨rfl, rfl⟩
  · obtain rfl : r = false := by rw [← h]; simp [isM, h1]
    clear h
    go_enter Tryd.func36, Tryd.ntmps36
    go_wp2_with fail
    go_ret
    exact ⟨rfl, rfl⟩
theorem parts_c {n m : Nat} (hn : n ≤ 131072) (hm : 1 ≤ m ∧ m ≤ 4000) (w : World) : Calls Tryd.prog 39 #[.int .i64 (n : Int), .int .i64 (m : Int)] w fun e w' => e = .returned (.int .i64 (((n + m - 1) / m : Nat) : Int)) ∧ w' = w := by
  have H : Hid (((n : Int) + m - 1) / m = (((n + m - 1) / m : Nat) : Int)) := Lib.hid (by
    rw [Int.natCast_ediv]
    congr 1
    omega)
  have h0 : (m : Int) ≠ 0 := by omega
  have h1 : 0 ≤ (n : Int) + m - 1 := by omega
  have h2 : ((m : Int) == 0) = false := by simpa using h0
  have h3 : ((m : Int) == -1) = false := by simp
  go_enter Tryd.func39, Tryd.ntmps39
  go_wp2_with fail
  go_ret
  refine ⟨?_, rfl⟩
  have h4 : ((n : Int) + m - 1).tdiv m = ((n : Int) + m - 1) / m := Int.tdiv_eq_ediv_of_nonneg h1
  have h5 : (((n + m - 1) / m : Nat)) ≤ n + m - 1 := Nat.div_le_self _ _
  rw [H.out]
  rfl
def size (n : Int) : Nat := if isM n then (n.toNat + 3999) / 4000 else 0
theorem Size_c (n : Int) (w : World) : Calls Tryd.prog 13 #[.int .i64 n] w fun e w' => e = .returned (.int .i64 (size n : Int)) ∧ w' = w := by
  by_cases h : isM n = true
  · have hb := isM_iff.1 h
    obtain ⟨m, rfl⟩ := Int.eq_ofNat_of_zero_le (show 0 ≤ n by omega)
    have HS := Lib.hid (show size (m : Int) = (m + 3999) / 4000 by unfold size; rw [if_pos h]; rfl)
    have HB := Lib.hid hb
    clear hb
    go_enter Tryd.func13, Tryd.ntmps13
    go_wp2_with fail
    go_at_call 36
    refine (isMap_c h _).mono ?_
    rintro e w1 ⟨rfl, rfl⟩
    go_wp2_with fail
    go_at_call 39
    refine (parts_c (n := m) (m := 4000) (by have := HB.out; omega) (by omega) _).mono ?_
    rintro e w1 ⟨rfl, rfl⟩
    go_wp2_with fail
    go_ret
    exact ⟨by rw [HS.out]; rfl, rfl⟩
  · have h : isM n = false := by simpa using h
    have HS := Lib.hid (show size n = 0 by unfold size; rw [if_neg (by simp [h])])
    go_enter Tryd.func13, Tryd.ntmps13
    go_wp2_with fail
    go_at_call 36
    refine (isMap_c h _).mono ?_
    rintro e w1 ⟨rfl, rfl⟩
    go_wp2_with fail
    go_ret
    exact ⟨by rw [HS.out]; rfl, rfl⟩
theorem pow_lt (i : Nat) : 2 ^ (i % 64) < 18446744073709551616 := Nat.pow_lt_pow_right (by decide) (Nat.mod_lt _ (by decide))
theorem wrap_pow (i : Nat) : IntKind.u64.wrap ((2 : Int) ^ (i % 64)) = ((2 ^ (i % 64) : Nat) : Int) := by
  have h := pow_lt i
  have e : (2 : Int) ^ (i % 64) = ((2 ^ (i % 64) : Nat) : Int) := by simp
  rw [IntKind.wrap_u64, e]
  generalize 2 ^ (i % 64) = P at h ⊢
  omega
theorem bit_c (i : Nat) (w : World) : Calls Tryd.prog 58 #[.int .i64 (i : Int)] w fun e w' => e = .returned (.int .u64 ((2 ^ (i % 64) : Nat) : Int)) ∧ w' = w := by
  have hp := pow_lt i
  go_enter Tryd.func58, Tryd.ntmps58
  go_wp2_with fail
  go_ret
  exact ⟨by rw [wrap_pow]; rfl, rfl⟩
section
variable {w : World} {B p n : Nat} {L : List Bool} {S : Nat → Prop}
theorem Len_i (h : Mp w B p n L S) : Calls Tryd.prog 24 #[.pointer (some ⟨p, 0, none⟩)] w fun e w' => e = .returned (.int .i64 (n : Int)) ∧ w' = w := by
  obtain ⟨g, c, h1, h2⟩ := h
  have c0 := h1.bp.cell (i := 0) (v := .int .i64 (n : Int)) rfl
  go_enter Tryd.func24, Tryd.ntmps24
  go_wp2_with fail
  go_ret
  exact ⟨rfl, rfl⟩
theorem Len_no (w : World) : Calls Tryd.prog 24 #[.pointer none] w fun e w' => e = .returned (.int .i64 0) ∧ w' = w := by
  go_enter Tryd.func24, Tryd.ntmps24
  go_wp2_with fail
  go_ret
  exact ⟨rfl, rfl⟩
theorem isMade_i (h : Mp w B p n L S) : Calls Tryd.prog 40 #[.pointer (some ⟨p, 0, none⟩)] w fun e w' => e = .returned (.bool true) ∧ w' = w := by
  have hl := h.lo
  have hh := h.hi
  have d : decide (0 < n) = true := by simp; omega
  have H := Lib.hid h
  clear h
  go_enter Tryd.func40, Tryd.ntmps40
  go_wp2_with fail
  go_at_call 24
  refine (Len_i H.out).mono ?_
  rintro e w1 ⟨rfl, rfl⟩
  go_wp2_with fail
  go_ret
  exact ⟨rfl, rfl⟩
theorem isMade_no (w : World) : Calls Tryd.prog 40 #[.pointer none] w fun e w' => e = .returned (.bool false) ∧ w' = w := by
  go_enter Tryd.func40, Tryd.ntmps40
  go_wp2_with fail
  go_at_call 24
  refine (Len_no _).mono ?_
  rintro e w1 ⟨rfl, rfl⟩
  go_wp2_with fail
  go_ret
  exact ⟨rfl, rfl⟩
theorem isSector_i (h : Mp w B p n L S) {x : Int} {r : Bool} (hr : inL L x = r) : Calls Tryd.prog 47 #[.pointer (some ⟨p, 0, none⟩), .int .i64 x] w fun e w' => e = .returned (.bool r) ∧ w' = w := by
  have HL := h.len
  have H := Lib.hid h
  unfold inL at hr
  rw [HL] at hr
  clear h HL
  by_cases h0 : 0 ≤ x
  · by_cases h1 : x < n
    · have : r = true := by rw [← hr]; simp [h0, h1]
      subst this
      clear hr
      go_enter Tryd.func47, Tryd.ntmps47
      go_wp2_with fail
      go_at_call 24
      refine (Len_i H.out).mono ?_
      rintro e w1 ⟨rfl, rfl⟩
      go_wp2_with fail
      go_ret
      exact ⟨rfl, rfl⟩
    · have : r = false := by rw [← hr]; simp [h1]
      subst this
      clear hr
      have d : decide (x < (n : Int)) = false := by simpa using h1
      go_enter Tryd.func47, Tryd.ntmps47
      go_wp2_with fail
      go_at_call 24
      refine (Len_i H.out).mono ?_
      rintro e w1 ⟨rfl, rfl⟩
      go_wp2_with fail
      go_ret
      exact ⟨rfl, rfl⟩
  · have : r = false := by rw [← hr]; simp [h0]
    subst this
    clear hr
    go_enter Tryd.func47, Tryd.ntmps47
    go_wp2_with fail
    go_ret
    exact ⟨rfl, rfl⟩
set_option maxHeartbeats 1000000 in
theorem isFree_q (h : Mp w B p n L S) {x : Int} (hx : inL L x = true) : Calls Tryd.prog 48 #[.pointer (some ⟨p, 0, none⟩), .int .i64 x] w fun e w' => e = .returned (.bool (has L x.toNat)) ∧ ∃ q, w' = w.drewN q := by
  have hb := inL_iff.1 hx
  have hlen := h.len
  have hhi := h.hi
  obtain ⟨g, c, h1, h2⟩ := h
  obtain ⟨i, rfl⟩ := Int.eq_ofNat_of_zero_le hb.1
  have hi : i < n := by omega
  have c1 := h1.bp.cell (i := 1) (v := .slice (some ⟨g, 0, none⟩) (nw n) c) rfl
  have hj := nw_lt hi
  have cw := h1.word hj
  have HA : Hid (bits .and .u64 (wd L (i / 64) : Int) ((2 ^ (i % 64) : Nat) : Int) = ((if has L i then 2 ^ (i % 64) else 0 : Nat) : Int)) := Lib.hid (by
    rw [bits_and_u64_nat _ _ (wd_lt L _) (pow_lt i), wd_and])
  obtain ⟨j, hj2⟩ : ∃ j, j = i / 64 := ⟨_, rfl⟩
  rw [← hj2] at hj cw HA
  have hw : IntKind.i64.wrap ((i : Int) / 64) = (j : Int) := by rw [IntKind.wrap_i64]; omega
  obtain ⟨W, hW⟩ : ∃ W, W = wd L j := ⟨_, rfl⟩
  have hWl : W < 18446744073709551616 := by rw [hW]; exact wd_lt _ _
  rw [← hW] at cw HA
  obtain ⟨P, hP⟩ : ∃ P : Nat, P = 2 ^ (i % 64) := ⟨_, rfl⟩
  have hPl : P < 18446744073709551616 := by rw [hP]; exact pow_lt _
  have hP0 : 0 < P := by rw [hP]; exact Nat.two_pow_pos _
  have HC : Hid (∀ w : World, Calls Tryd.prog 58 #[.int .i64 (i : Int)] w fun e w' => e = .returned (.int .u64 (P : Int)) ∧ w' = w) := Lib.hid (fun w => by rw [hP]; exact bit_c i w)
  rw [← hP] at HA
  have HB : Hid ((bits .and .u64 (W : Int) (P : Int) != 0) = has L i) := Lib.hid (by
    rw [HA.out]
    cases has L i
    · simp
    · simp
      omega)
  have hjs : j < 4096 := by omega
  clear hW hP h1 h2 hj2 hx hb hlen
  go_enter Tryd.func48, Tryd.ntmps48
  go_wp2_with fail
  go_quiet ((go_at_call 58; exact Calls.quiet_of_same (HC.out _)))
  go_wp2_with fail
  go_ret
  exact ⟨by rw [show ((i : Int)).toNat = i from rfl, ← HB.out]; rfl, _, rfl⟩
theorem bel_drewN {B : Nat} {w w' : World} (h : Below B w w') (n : Nat) : Below B w (w'.drewN n) := ⟨h.os, h.tape, h.output, h.size, h.block⟩
theorem isFree_i (h : Mp w B p n L S) {x : Int} (hx : inL L x = true) : Calls Tryd.prog 48 #[.pointer (some ⟨p, 0, none⟩), .int .i64 x] w fun e w' => e = .returned (.bool (has L x.toNat)) ∧ Below w.heap.size w w' :=
  (isFree_q h hx).mono fun e w' ⟨h1, q, h2⟩ => ⟨h1, by rw [h2]; exact bel_drewN (Below.refl _ _) _⟩
theorem Has_q (h : Mp w B p n L S) (x : Int) : Calls Tryd.prog 27 #[.pointer (some ⟨p, 0, none⟩), .int .i64 x] w fun e w' => e = .returned (.bool (inL L x && has L x.toNat)) ∧ ∃ q, w' = w.drewN q := by
  have H := Lib.hid h
  clear h
  cases hx : inL L x
  · have HX := Lib.hid hx
    clear hx
    go_enter Tryd.func27, Tryd.ntmps27
    go_wp2_with fail
    go_at_call 47
    refine (isSector_i H.out HX.out).mono ?_
    rintro e w1 ⟨rfl, rfl⟩
    go_wp2_with fail
    go_ret
    exact ⟨rfl, 0, rfl⟩
  · have HX := Lib.hid hx
    clear hx
    rw [Bool.true_and]
    go_enter Tryd.func27, Tryd.ntmps27
    go_wp2_with fail
    go_at_call 47
    refine (isSector_i H.out HX.out).mono ?_
    rintro e w1 ⟨rfl, rfl⟩
    go_wp2_with fail
    go_at_call 48
    refine (isFree_q H.out HX.out).mono ?_
    rintro e w1 ⟨rfl, q1, hb1⟩
    subst hb1
    go_wp2_with fail
    go_ret
    exact ⟨rfl, q1, rfl⟩
theorem Has_i (h : Mp w B p n L S) (x : Int) : Calls Tryd.prog 27 #[.pointer (some ⟨p, 0, none⟩), .int .i64 x] w fun e w' => e = .returned (.bool (inL L x && has L x.toNat)) ∧ Below w.heap.size w w' :=
  (Has_q h x).mono fun e w' ⟨h1, q, h2⟩ => ⟨h1, by rw [h2]; exact bel_drewN (Below.refl _ _) _⟩
theorem octet_i (h : Mp w B p n L S) {i : Nat} (h8 : i % 8 = 0) (hi : i ≤ 1000000) : Calls Tryd.prog 49 #[.pointer (some ⟨p, 0, none⟩), .int .i64 (i : Int)] w fun e w' => e = .returned (.int .u8 (wordN (has L) 8 i : Int)) ∧ w' = w := by
  have H := Lib.hid h
  have hlen := h.len
  have hhi := h.hi
  cases hx : inL L (i : Int)
  · have HX := Lib.hid hx
    have e0 : wordN (has L) 8 i = 0 := octet_none (by
      apply Nat.le_of_not_lt
      intro q
      have : inL L (i : Int) = true := inL_iff.2 ⟨by omega, by omega⟩
      rw [this] at hx
      cases hx)
    rw [e0]
    clear hx e0 h hlen
    go_enter Tryd.func49, Tryd.ntmps49
    go_wp2_with fail
    go_at_call 47
    refine (isSector_i H.out HX.out).mono ?_
    rintro e w1 ⟨rfl, rfl⟩
    go_wp2_with fail
    go_ret
    exact ⟨rfl, rfl⟩
  · have HX := Lib.hid hx
    have hb := inL_iff.1 hx
    obtain ⟨g, c, h1, h2⟩ := h
    have hi2 : i < n := by omega
    have c1 := h1.bp.cell (i := 1) (v := .slice (some ⟨g, 0, none⟩) (nw n) c) rfl
    have hj := nw_lt hi2
    have cw := h1.word hj
    have HO := Lib.hid (wd_octet L i h8)
    obtain ⟨j, hj2⟩ : ∃ j, j = i / 64 := ⟨_, rfl⟩
    rw [← hj2] at hj cw HO
    have hw : IntKind.i64.wrap ((i : Int) / 64) = (j : Int) := by rw [IntKind.wrap_i64]; omega
    obtain ⟨W, hW⟩ : ∃ W, W = wd L j := ⟨_, rfl⟩
    have hWl : W < 18446744073709551616 := by rw [hW]; exact wd_lt _ _
    rw [← hW] at cw HO
    clear hW h1 h2 hj2 hx hb hlen h8
    go_enter Tryd.func49, Tryd.ntmps49
    go_wp2_with fail
    go_at_call 47
    refine (isSector_i H.out HX.out).mono ?_
    rintro e w1 ⟨rfl, rfl⟩
    go_wp2_with fail
    go_ret
    have e : ((W : Int) / 2 ^ (i % 64) % 256) = ((wordN (has L) 8 i : Nat) : Int) := by
      rw [← HO.out]
      simp [Int.natCast_ediv, Int.natCast_emod, Int.natCast_pow]
    refine ⟨?_, rfl⟩
    rw [e]
    rfl
end
end FreW
end Go.Proofs.YtbnkaeigabifhaaDoor
