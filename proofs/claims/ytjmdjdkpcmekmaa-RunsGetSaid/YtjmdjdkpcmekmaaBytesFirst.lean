/-
  The reference's way to find the number with whose bytes a list begins.
-/
import Derived.Test.YtjmdjdkpcmekmaaBytesRefs2
namespace Go.Proofs.Ytjmdjdkpcmekmaa
open Go.RowKit
open Go.Lib (uvarint uvarint_small uvarint_big uvarint_length64 uvarint_pos zigzag)
set_option linter.unusedVariables false
set_option linter.unusedSimpArgs false
namespace BytesW

def FirstRel (k : Nat) (v : Value) : Prop := ∃ i : Nat, v = .int .i64 ((i : Int) + 1) ∧ i < k
def InRel (l : List UInt8) (i : Nat) (v u : Value) : Prop :=
  ∃ (j : Nat) (y x : Int), j ≤ i + 1 ∧ v = .int .u64 y ∧ u = .int .i64 x ∧ y = ((vm ((l.take (i + 1)).drop j) : Nat) : Int) ∧ x = (j : Int) - 1
/-- A byte at hand: its number, its cell; what groups from there on make. -/
theorem cellAt {w : World} {b o : Nat} {l : List UInt8} {i t : Nat} (hc : ∀ (i : Nat) (x : UInt8), l[i]? = some x → w.cell? ⟨b, o + i, none⟩ = some (bv x)) (ht : t < i + 1) (hil : i < l.length) :
    ∃ z : Int, z = ((l[t]'(by omega)).toNat : Int) ∧ 0 ≤ z ∧ z < 256 ∧ w.cell? ⟨b, o + t, none⟩ = some (.int .u8 z) ∧ Hid (vm ((l.take (i + 1)).drop t) = (128 * vm ((l.take (i + 1)).drop (t + 1)) + (l[t]'(by omega)).toNat % 128) % 18446744073709551616) := by
  have hx := (l[t]'(by omega)).toNat_lt
  refine ⟨_, rfl, by omega, by omega, hc t _ (List.getElem?_eq_getElem (by omega)), Lib.hid ?_⟩
  rw [List.drop_eq_getElem_cons (i := t) (by simp; omega)]
  simp only [vm, List.getElem_take]

theorem first_yesC {w : World} {A : Option Addr} {l : List UInt8} {c m k : Nat} (hA : AtC w A l) (hl : l.length ≤ 1000000) (h : pn l 0 0 = some (m, k)) :
    Calls Try.prog 27 #[.slice A l.length c] w fun e w' => e = .returned (.tuple #[.int .u64 m, .int .i64 k]) ∧ Below w.heap.size w w' := by
  obtain ⟨hm, hp, hk⟩ := pn_some h
  obtain ⟨hk1, hk2, hk3⟩ := pn_le h
  have HM := Lib.hid hm
  have HP := Lib.hid hp
  have HK := Lib.hid hk
  clear h hm hp hk
  have HA := Lib.hid hA
  go_enter Try.func27, Try.ntmps27
  go_wp2_with fail
  go_loop [4] (FirstRel k) (fun v => (1000003 - intOf v).toNat)
  case atStart => exact ⟨0, rfl, by omega⟩
  case round =>
    obtain ⟨i, rfl, hik⟩ := hrel
    have h10 : i + 1 ≤ 10 := by omega
    have hil : i < l.length := by omega
    obtain ⟨b, o, rfl, hc⟩ := HA.out.cells (fun e => by rw [e] at hil; simp at hil)
    have HC := Lib.hid hc
    clear hc
    obtain ⟨z, hz, hz0, hz1, g1, HV0⟩ := cellAt (i := i) HC.out (show i < i + 1 by omega) hil
    clear HV0
    have HZ := Lib.hid hz
    clear hz
    by_cases h128 : 128 ≤ z
    · have hi : i + 1 < k := by
        rcases Nat.lt_or_ge (i + 1) k with h | h
        · exact h
        · have e := uv_last m i (by rw [← HK.out]; omega)
          have e2 := HP.out.getElem (i := i) (by rw [← HK.out]; omega)
          rw [e2] at e
          have := HZ.out
          omega
      go_wp2_with fail
      go_round
      case rel => exact ⟨i + 1, by go_num, by omega⟩
      case measure => simp [intOf]; omega
    · have hi : k = i + 1 := by
        rcases Nat.lt_or_ge (i + 1) k with h | h
        · have e := uv_head m i (by rw [← HK.out]; omega)
          have e2 := HP.out.getElem (i := i) (by rw [← HK.out]; omega)
          rw [e2] at e
          have := HZ.out
          omega
        · omega
      have HVM : Hid (vm (l.take (i + 1)) = m) := Lib.hid (by
        have e := List.prefix_iff_eq_take.1 HP.out
        rw [← hi, HK.out, ← e, vm_uvarint _ HM.out])
      have HSM : Hid (decide (uvarint m <+: l) = true) := Lib.hid (by simpa using HP.out)
      have HUL := Lib.hid (uvarint_length64 HM.out)
      have HKI := Lib.hid hi
      clear hi
      go_wp2_with fail
      go_loop [5, 6] (InRel l i) (fun _ k => (intOf k + 1).toNat)
      case atStart => exact ⟨i + 1, _, _, by omega, rfl, rfl, by simp [List.drop_eq_nil_of_le, vm], by (first | (push_cast; omega) | omega | simp)⟩
      case round =>
        obtain ⟨jj, y, x, hjj, rfl, rfl, hy, hx⟩ := hrel
        have hvl := vm_lt ((l.take (i + 1)).drop jj)
        have hy0 : 0 ≤ y := by omega
        have hy1 : y < 18446744073709551616 := by omega
        have hx0 : -1 ≤ x := by omega
        have hx1 : x ≤ 1000000 := by omega
        clear hvl
        have HY := Lib.hid hy
        clear hy
        by_cases hpos : 0 ≤ x
        · obtain ⟨t, rfl⟩ := Int.eq_ofNat_of_zero_le hpos
          have hti : t < i + 1 := by omega
          obtain ⟨z2, hz2, hz20, hz21, g2, HV⟩ := cellAt (i := i) HC.out hti hil
          have HJ := Lib.hid (show jj = t + 1 by omega)
          have HZ2 := Lib.hid hz2
          clear hz2 hx
          go_wp2_with fail
          go_round
          case rel =>
            refine ⟨t, _, _, by omega, rfl, rfl, ?_, by omega⟩
            rw [HV.out]
            have e := HY.out
            rw [HJ.out] at e
            have := HZ2.out
            (first | omega | (simp only [IntKind.wrap_u64]; omega))
          case measure => (first | (simp [intOf]; done) | (simp [intOf]; omega))
        · have HJ := Lib.hid (show jj = 0 by omega)
          have HYF : Hid (y = ((vm (l.take (i + 1)) : Nat) : Int)) := Lib.hid (by have e := HY.out; rw [HJ.out] at e; simpa using e)
          clear hx
          go_wp2_with fail
          go_at_call 19
          refine (r_num_c (n := m) HM.out (by rw [HYF.out, HVM.out])).mono ?_
          rintro e w1 ⟨v1, rfl, hown1, hb1⟩
          obtain ⟨A1, c1, rfl, hA1, hc1⟩ := hown1.sl
          have hul := HUL.out
          go_wp2_with fail
          go_at_call 37
          refine (same_C (HA.out.below hb1) hA1.c (by omega) (by omega) HSM.out).mono ?_
          rintro e w2 ⟨rfl, hb2⟩
          go_wp2_with fail
          go_ret2
          exact ⟨by rw [HYF.out, HVM.out, HKI.out]; rfl, hb1.trans (hb2.mono hb1.size)⟩
theorem first_yes {w : World} {A : Option Addr} {l : List UInt8} {c m k : Nat} (hA : At w A l) (hl : l.length ≤ 1000000) (h : pn l 0 0 = some (m, k)) :
    Calls Try.prog 27 #[.slice A l.length c] w fun e w' => e = .returned (.tuple #[.int .u64 m, .int .i64 k]) ∧ Below w.heap.size w w' := first_yesC hA.c hl h

theorem first_noC {w : World} {A : Option Addr} {l : List UInt8} {c : Nat} (hA : AtC w A l) (hl : l.length ≤ 1000000) (h : pn l 0 0 = none) :
    Calls Try.prog 27 #[.slice A l.length c] w fun e w' => e = .returned (.tuple #[.int .u64 0, .int .i64 0]) ∧ Below w.heap.size w w' := by
  have HN := Lib.hid (pn_none h)
  clear h
  have HA := Lib.hid hA
  go_enter Try.func27, Try.ntmps27
  go_wp2_with fail
  go_loop [4] (FirstRel 1000002) (fun v => (1000003 - intOf v).toNat)
  case atStart => exact ⟨0, rfl, by omega⟩
  case round =>
    obtain ⟨i, rfl, hik⟩ := hrel
    by_cases hstop : 10 < i + 1 ∨ l.length < i + 1
    · by_cases h10 : 10 < i + 1
      · clear hstop
        go_wp2_with fail
        go_ret2
        exact ⟨rfl, Below.refl _ _⟩
      · have hlen : l.length < i + 1 := by omega
        clear hstop
        go_wp2_with fail
        go_ret2
        exact ⟨rfl, Below.refl _ _⟩
    have h10 : i + 1 ≤ 10 := by omega
    have hil : i < l.length := by omega
    clear hstop
    obtain ⟨b, o, rfl, hc⟩ := HA.out.cells (fun e => by rw [e] at hil; simp at hil)
    have HC := Lib.hid hc
    clear hc
    obtain ⟨z, hz, hz0, hz1, g1, HV0⟩ := cellAt (i := i) HC.out (show i < i + 1 by omega) hil
    clear HV0
    have HZ := Lib.hid hz
    clear hz
    by_cases h128 : 128 ≤ z
    · go_wp2_with fail
      go_round
      case rel => exact ⟨i + 1, by go_num, by omega⟩
      case measure => simp [intOf]; omega
    · have HSM : Hid (decide (uvarint (vm (l.take (i + 1))) <+: l) = false) := Lib.hid (by simpa using HN.out _ (vm_lt _))
      have HUL := Lib.hid (uvarint_length64 (vm_lt (l.take (i + 1))))
      go_wp2_with fail
      go_loop [5, 6] (InRel l i) (fun _ k => (intOf k + 1).toNat)
      case atStart => exact ⟨i + 1, _, _, by omega, rfl, rfl, by simp [List.drop_eq_nil_of_le, vm], by (first | (push_cast; omega) | omega | simp)⟩
      case round =>
        obtain ⟨jj, y, x, hjj, rfl, rfl, hy, hx⟩ := hrel
        have hvl := vm_lt ((l.take (i + 1)).drop jj)
        have hy0 : 0 ≤ y := by omega
        have hy1 : y < 18446744073709551616 := by omega
        have hx0 : -1 ≤ x := by omega
        have hx1 : x ≤ 1000000 := by omega
        clear hvl
        have HY := Lib.hid hy
        clear hy
        by_cases hpos : 0 ≤ x
        · obtain ⟨t, rfl⟩ := Int.eq_ofNat_of_zero_le hpos
          have hti : t < i + 1 := by omega
          obtain ⟨z2, hz2, hz20, hz21, g2, HV⟩ := cellAt (i := i) HC.out hti hil
          have HJ := Lib.hid (show jj = t + 1 by omega)
          have HZ2 := Lib.hid hz2
          clear hz2 hx
          go_wp2_with fail
          go_round
          case rel =>
            refine ⟨t, _, _, by omega, rfl, rfl, ?_, by omega⟩
            rw [HV.out]
            have e := HY.out
            rw [HJ.out] at e
            have := HZ2.out
            (first | omega | (simp only [IntKind.wrap_u64]; omega))
          case measure => (first | (simp [intOf]; done) | (simp [intOf]; omega))
        · have HJ := Lib.hid (show jj = 0 by omega)
          have HYF : Hid (y = ((vm (l.take (i + 1)) : Nat) : Int)) := Lib.hid (by have e := HY.out; rw [HJ.out] at e; simpa using e)
          clear hx
          go_wp2_with fail
          go_at_call 19
          refine (r_num_c (n := vm (l.take (i + 1))) (vm_lt _) HYF.out).mono ?_
          rintro e w1 ⟨v1, rfl, hown1, hb1⟩
          obtain ⟨A1, c1, rfl, hA1, hc1⟩ := hown1.sl
          have hul := HUL.out
          go_wp2_with fail
          go_at_call 37
          refine (same_C (HA.out.below hb1) hA1.c (by omega) (by omega) HSM.out).mono ?_
          rintro e w2 ⟨rfl, hb2⟩
          go_wp2_with fail
          go_ret2
          exact ⟨rfl, hb1.trans (hb2.mono hb1.size)⟩
theorem first_no {w : World} {A : Option Addr} {l : List UInt8} {c : Nat} (hA : At w A l) (hl : l.length ≤ 1000000) (h : pn l 0 0 = none) :
    Calls Try.prog 27 #[.slice A l.length c] w fun e w' => e = .returned (.tuple #[.int .u64 0, .int .i64 0]) ∧ Below w.heap.size w w' := first_noC hA.c hl h
end BytesW
end Go.Proofs.Ytjmdjdkpcmekmaa
