/-
  Walks, third part.
-/
import Derived.Test.YtfhfmjfhceinmaaDoorKindWalks2
namespace Go.Proofs.YtfhfmjfhceinmaaDoor
open Go.RowKit
namespace KindW
open KindP

theorem dec_lt {a b : Nat} {v : Bool} (h : decide (a < b) = v) : decide ((a : Int) < (b : Int)) = v := by
  rw [← h]; simp
theorem dec_le {a b : Nat} {v : Bool} (h : decide (a ≤ b) = v) : decide ((a : Int) ≤ (b : Int)) = v := by
  rw [← h]; simp

set_option maxHeartbeats 400000 in
theorem k_may (k l : Nat) (w : World) (hT : Tab w) :
    Calls Tryd.prog 28 #[.agg #[.int .u8 k, .int .u8 l]] w fun e w' => e = .returned (.bool (may k l)) ∧ Below w.heap.size w w' := by
  by_cases h : k < 15
  · have hl := hT.least k h
    have hm := hT.most k h
    have hz := hT.size
    obtain ⟨a, ha⟩ : ∃ a, KindP.least k = a := ⟨_, rfl⟩
    obtain ⟨b, hb⟩ : ∃ b, KindP.most k = b := ⟨_, rfl⟩
    rw [ha] at hl
    rw [hb] at hm
    have hd : decide ((k : Int) < 15) = true := by simp; omega
    by_cases h1 : a ≤ l
    · have hd1 : decide (a ≤ l) = true := by simpa using h1
      have hd1' := dec_le hd1
      by_cases h2 : l ≤ b
      · have hd2 : decide (l ≤ b) = true := by simpa using h2
        have hd2' := dec_le hd2
        have e : Hid (may k l = true) := Lib.hid (by simp [may, h, ha, hb, h1, h2])
        clear hT ha hb
        go_enter Tryd.func28, Tryd.ntmps28
        go_wp2_with fail
        go_quiet (fail)
        go_wp2
        go_ret
        exact ⟨by rw [e.out]; rfl, below_drewN ((Below.refl _ _).alloc (Nat.le_refl _) _) _⟩
      · have hd2 : decide (l ≤ b) = false := by simpa using h2
        have hd2' := dec_le hd2
        have e : Hid (may k l = false) := Lib.hid (by simp [may, hb, h2])
        clear hT ha hb
        go_enter Tryd.func28, Tryd.ntmps28
        go_wp2_with fail
        go_quiet (fail)
        go_wp2
        go_ret
        exact ⟨by rw [e.out]; rfl, below_drewN ((Below.refl _ _).alloc (Nat.le_refl _) _) _⟩
    · have hd1 : decide (a ≤ l) = false := by simpa using h1
      have hd1' := dec_le hd1
      have e : Hid (may k l = false) := Lib.hid (by simp [may, ha, h1])
      clear hT ha hb
      go_enter Tryd.func28, Tryd.ntmps28
      go_wp2_with fail
      go_quiet (fail)
      go_wp2
      go_ret
      exact ⟨by rw [e.out]; rfl, below_drewN ((Below.refl _ _).alloc (Nat.le_refl _) _) _⟩
  · have hd : decide ((k : Int) < 15) = false := by simp; omega
    have e : Hid (may k l = false) := Lib.hid (by simp [may, h])
    clear hT
    go_enter Tryd.func28, Tryd.ntmps28
    go_wp2_with fail
    go_quiet (fail)
    go_wp2
    go_ret
    exact ⟨by rw [e.out]; rfl, below_drewN ((Below.refl _ _).alloc (Nat.le_refl _) _) _⟩

theorem may_levels (k l : Nat) : may k l = (decide (k < 15) && !decide (KindP.most k < l) && (!(k == 11) || decide (0 < l))) := by
  by_cases h11 : k = 11
  · subst h11
    rw [Bool.eq_iff_iff]
    simp [may, show KindP.least 11 = 1 from rfl, show KindP.most 11 = 15 from rfl]
    omega
  · by_cases h : k < 15
    · have h0 : KindP.least k = 0 := by
        revert h11
        revert h
        revert k
        decide
      rw [Bool.eq_iff_iff]
      simp [may, h0, h11]
    · simp [may, h]

set_option maxHeartbeats 400000 in
theorem r_may (k l : Nat) (w : World) :
    Calls Tryd.prog 29 #[.agg #[.int .u8 k, .int .u8 l]] w fun e w' => e = .returned (.bool (may k l)) ∧ Below w.heap.size w w' := by
  have hm := may_levels k l
  by_cases h : k < 15
  · have hd : decide (15 ≤ (k : Int)) = false := by simp; omega
    obtain ⟨b, hb⟩ : ∃ b, KindP.most k = b := ⟨_, rfl⟩
    by_cases h1 : b < l
    · have hd1 : decide (b < l) = true := by simpa using h1
      have hd1' := dec_lt hd1
      have e : Hid (may k l = false) := Lib.hid (by simp [hm, hb, h1])
      have hL := fun w => r_levels k w
      rw [hb] at hL
      have HL := Lib.hid hL
      clear hm hL hb h1
      go_enter Tryd.func29, Tryd.ntmps29
      go_wp2_with fail
      go_quiet ((go_at_call 27; exact Calls.quiet_of_same ((HL.out _).mono fun _ _ h => ⟨h.1, h.2.symm⟩)))
      go_wp2
      go_ret
      exact ⟨by rw [e.out]; rfl, below_drewN ((Below.refl _ _).alloc (Nat.le_refl _) _) _⟩
    · have hd1 : decide (b < l) = false := by simpa using h1
      have hd1' := dec_lt hd1
      have hL := fun w => r_levels k w
      rw [hb] at hL
      have HL := Lib.hid hL
      by_cases h11 : k = 11
      · subst h11
        by_cases h3 : 0 < l
        · have hd3 : decide (0 < l) = true := by simpa using h3
          have hd3' := dec_lt hd3
          have e : Hid (may 11 l = true) := Lib.hid (by simp [hm, hb, h1, h3])
          clear hm hL hb h1
          go_enter Tryd.func29, Tryd.ntmps29
          go_wp2_with fail
          go_quiet ((go_at_call 27; exact Calls.quiet_of_same ((HL.out _).mono fun _ _ h => ⟨h.1, h.2.symm⟩)))
          go_wp2
          go_ret
          exact ⟨by rw [e.out]; rfl, below_drewN ((Below.refl _ _).alloc (Nat.le_refl _) _) _⟩
        · have hd3 : decide (0 < l) = false := by simpa using h3
          have hd3' := dec_lt hd3
          have e : Hid (may 11 l = false) := Lib.hid (by simp [hm, h3])
          clear hm hL hb h1
          go_enter Tryd.func29, Tryd.ntmps29
          go_wp2_with fail
          go_quiet ((go_at_call 27; exact Calls.quiet_of_same ((HL.out _).mono fun _ _ h => ⟨h.1, h.2.symm⟩)))
          go_wp2
          go_ret
          exact ⟨by rw [e.out]; rfl, below_drewN ((Below.refl _ _).alloc (Nat.le_refl _) _) _⟩
      · have e11 : ((k : Int) != 11) = true := by simp; omega
        have e : Hid (may k l = true) := Lib.hid (by simp [hm, hb, h1, h, h11])
        clear hm hL hb h1
        go_enter Tryd.func29, Tryd.ntmps29
        go_wp2_with fail
        go_quiet ((go_at_call 27; exact Calls.quiet_of_same ((HL.out _).mono fun _ _ h => ⟨h.1, h.2.symm⟩)))
        go_wp2
        go_ret
        exact ⟨by rw [e.out]; rfl, below_drewN ((Below.refl _ _).alloc (Nat.le_refl _) _) _⟩
  · have hd : decide (15 ≤ (k : Int)) = true := by simp; omega
    have e : Hid (may k l = false) := Lib.hid (by simp [hm, h])
    clear hm
    go_enter Tryd.func29, Tryd.ntmps29
    go_wp2_with fail
    go_quiet (fail)
    go_wp2
    go_ret
    exact ⟨by rw [e.out]; rfl, below_drewN ((Below.refl _ _).alloc (Nat.le_refl _) _) _⟩
end KindW
end Go.Proofs.YtfhfmjfhceinmaaDoor
