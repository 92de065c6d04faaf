/-
  The laws of hash, first part: the chapter's answers, HashMix, HashBelow, HashRange.
-/
import Derived.Test.YtkbnkhhapmdjkaaHashPlain
namespace Go.Proofs.Ytkbnkhhapmdjkaa
open Go.RowKit
set_option linter.unusedSimpArgs false
set_option linter.unusedVariables false
namespace HashW

theorem awake_c (w : World) : Calls Try.prog 11 #[] w fun e w' => e = .returned (.bool true) ∧ w = w' := by
  go_enter Try.func11, Try.ntmps11
  go_wp2_with fail
  go_at_call 9
  refine (mix_c awake1 _).mono ?_
  rintro e w' ⟨rfl, rfl⟩
  go_wp2_with fail
  go_at_call 14
  refine (below_c (by decide) (by decide) (by decide) awake2 _).mono ?_
  rintro e w' ⟨rfl, rfl⟩
  go_wp2_with fail
  go_ret
  exact ⟨rfl, rfl⟩

theorem law_mix (x : Int) (w : World) : Calls Try.prog 3 #[.int .u64 x] w fun e w' => e = .returned (.bool true) ∧ w = w' := by
  obtain ⟨y, h1⟩ : ∃ y, mixI x = y := ⟨_, rfl⟩
  obtain ⟨z, h2⟩ : ∃ z, mixI y = z := ⟨_, rfl⟩
  have H1 := Lib.hid h1
  have H2 := Lib.hid h2
  clear h1 h2
  go_enter Try.func3, Try.ntmps3
  go_wp2_with (first | (go_at_call 9; (first | (with_reducible refine (mix_c H1.out _).mono ?_) | (with_reducible refine (mix_c H2.out _).mono ?_)); rintro e w' ⟨rfl, rfl⟩) | (go_at_call 10; (first | (with_reducible refine (r_mix_c H1.out _).mono ?_) | (with_reducible refine (r_mix_c H2.out _).mono ?_)); rintro e w' ⟨rfl, rfl⟩) | (go_at_call 11; refine (awake_c _).mono ?_; rintro e w' ⟨rfl, rfl⟩))
  go_ret
  exact ⟨rfl, rfl⟩

theorem law_below {h n : Int} (h0 : 0 ≤ h) (h1 : h < 18446744073709551616) (n1 : n ≤ 9223372036854775807) (w : World) : Calls Try.prog 5 #[.int .u64 h, .int .i64 n] w fun e w' => e = .returned (.bool true) ∧ w = w' := by
  obtain ⟨y, e1⟩ : ∃ y, belowI h n = y := ⟨_, rfl⟩
  have H1 := Lib.hid e1
  clear e1
  go_enter Try.func5, Try.ntmps5
  go_wp2_with (first | (go_at_call 14; (with_reducible refine (below_c h0 h1 n1 H1.out _).mono ?_); rintro e w' ⟨rfl, rfl⟩) | (go_at_call 15; (with_reducible refine (r_below_c h0 h1 n1 H1.out _).mono ?_); rintro e w' ⟨rfl, rfl⟩) | (go_at_call 11; refine (awake_c _).mono ?_; rintro e w' ⟨rfl, rfl⟩))
  go_ret
  exact ⟨rfl, rfl⟩

theorem belowI_mono {h g n : Int} (h0 : 0 ≤ h) (hg : h ≤ g) (hn : 1 ≤ n) : belowI h n ≤ belowI g n := by
  unfold belowI
  rw [if_neg (by omega), if_neg (by omega)]
  exact Int.ediv_le_ediv (by decide) (Int.mul_le_mul_of_nonneg_right hg (by omega))
theorem belowI_0 (n : Int) : belowI 0 n = 0 := by simp [belowI]
theorem belowI_top {n : Int} (hn : 1 ≤ n) (n1 : n ≤ 9223372036854775807) : belowI 18446744073709551615 n = n - 1 := by
  unfold belowI
  rw [if_neg (by omega)]
  omega

theorem law_range {h g n : Int} (h0 : 0 ≤ h) (h1 : h < 18446744073709551616) (g0 : 0 ≤ g) (g1 : g < 18446744073709551616) (n0 : -9223372036854775808 ≤ n) (n1 : n ≤ 9223372036854775807) (w : World) :
    Calls Try.prog 8 #[.int .u64 h, .int .u64 g, .int .i64 n] w fun e w' => e = .returned (.bool true) ∧ w = w' := by
  by_cases hn : n < 1
  · have e1 : belowI h n = 0 := by simp [belowI, hn]
    have e2 : belowI g n = 0 := by simp [belowI, hn]
    have H1 := Lib.hid e1
    have H2 := Lib.hid e2
    clear e1 e2
    go_enter Try.func8, Try.ntmps8
    go_wp2_with (first | (go_at_call 14; (first | (with_reducible refine (below_c h0 h1 n1 H1.out _).mono ?_) | (with_reducible refine (below_c g0 g1 n1 H2.out _).mono ?_)); rintro e w' ⟨rfl, rfl⟩) | (go_at_call 11; refine (awake_c _).mono ?_; rintro e w' ⟨rfl, rfl⟩))
    go_ret
    exact ⟨rfl, rfl⟩
  · obtain ⟨y, e1⟩ : ∃ y, belowI h n = y := ⟨_, rfl⟩
    obtain ⟨z, e2⟩ : ∃ z, belowI g n = z := ⟨_, rfl⟩
    have a := belowI_in h0 h1 (show 1 ≤ n by omega)
    rw [e1] at a
    obtain ⟨a0, a1⟩ := a
    have c1 : h ≤ g → y ≤ z := fun hl => by rw [← e1, ← e2]; exact belowI_mono h0 hl (by omega)
    have c2 : g ≤ h → z ≤ y := fun hl => by rw [← e1, ← e2]; exact belowI_mono g0 hl (by omega)
    have H0 := Lib.hid (belowI_0 n)
    have HT := Lib.hid (belowI_top (n := n) (by omega) n1)
    have H1 := Lib.hid e1
    have H2 := Lib.hid e2
    clear e1 e2
    have hn' : 1 ≤ n := by omega
    clear hn
    rcases Int.lt_trichotomy h g with hlt | rfl | hgt
    · have k1 := c1 (by omega)
      have k2 : h ≤ g := by omega
      clear c1 c2
      go_enter Try.func8, Try.ntmps8
      go_wp2_with (first | (go_at_call 14; (first | (with_reducible refine (below_c h0 h1 n1 H1.out _).mono ?_) | (with_reducible refine (below_c g0 g1 n1 H2.out _).mono ?_) | (with_reducible refine (below_c (by decide) (by decide) n1 H0.out _).mono ?_) | (with_reducible refine (below_c (by decide) (by decide) n1 HT.out _).mono ?_)); rintro e w' ⟨rfl, rfl⟩) | (go_at_call 11; refine (awake_c _).mono ?_; rintro e w' ⟨rfl, rfl⟩))
      go_ret
      exact ⟨rfl, rfl⟩
    · have k1 := c1 (by omega)
      have k2 := c2 (by omega)
      clear c1 c2
      go_enter Try.func8, Try.ntmps8
      go_wp2_with (first | (go_at_call 14; (first | (with_reducible refine (below_c h0 h1 n1 H1.out _).mono ?_) | (with_reducible refine (below_c g0 g1 n1 H2.out _).mono ?_) | (with_reducible refine (below_c (by decide) (by decide) n1 H0.out _).mono ?_) | (with_reducible refine (below_c (by decide) (by decide) n1 HT.out _).mono ?_)); rintro e w' ⟨rfl, rfl⟩) | (go_at_call 11; refine (awake_c _).mono ?_; rintro e w' ⟨rfl, rfl⟩))
      go_ret
      exact ⟨rfl, rfl⟩
    · have k1 := c2 (by omega)
      have k2 : g ≤ h := by omega
      clear c1 c2
      go_enter Try.func8, Try.ntmps8
      go_wp2_with (first | (go_at_call 14; (first | (with_reducible refine (below_c h0 h1 n1 H1.out _).mono ?_) | (with_reducible refine (below_c g0 g1 n1 H2.out _).mono ?_) | (with_reducible refine (below_c (by decide) (by decide) n1 H0.out _).mono ?_) | (with_reducible refine (below_c (by decide) (by decide) n1 HT.out _).mono ?_)); rintro e w' ⟨rfl, rfl⟩) | (go_at_call 11; refine (awake_c _).mono ?_; rintro e w' ⟨rfl, rfl⟩))
      go_ret
      exact ⟨rfl, rfl⟩
end HashW
end Go.Proofs.Ytkbnkhhapmdjkaa
