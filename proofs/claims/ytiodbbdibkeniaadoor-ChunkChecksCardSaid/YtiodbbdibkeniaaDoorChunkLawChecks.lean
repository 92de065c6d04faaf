/-
  ChunkChecks: of every chunk whether it may be, and how many of its cells are movable.
-/
import Derived.Test.YtiodbbdibkeniaaDoorChunkOf
namespace Go.Proofs.YtiodbbdibkeniaaDoor
open Go.RowKit
set_option linter.unusedVariables false
set_option linter.unusedSimpArgs false
namespace ChunkW
open BytesW PackW
set_option maxRecDepth 100000 in
set_option maxHeartbeats 8000000 in
theorem law_checks {w : World} {A B : Option Addr} {l : List Ed} {ts : List Tick} {c d : Nat} (hT : KindW.Tab w) (hl : l.length ≤ 9223372036854775807) (hA : EditC w A l ∧ ∀ q ∈ l, EdOk q) (hd : ts.length ≤ d ∧ d ≤ 9223372036854775807) (hB : PairC tkv w B ts) :
    Calls Tryd.prog 3 #[.slice A l.length c, .slice B ts.length d] w fun e w' => e = .returned (.bool true) ∧ Below w.heap.size w w' := by
  have HT := Lib.hid hT
  obtain ⟨n, hn⟩ : ∃ n, n = l.length := ⟨_, rfl⟩
  obtain ⟨m, hm⟩ : ∃ m, m = ts.length := ⟨_, rfl⟩
  have HOF : Hid (n ≤ 1000000 → m ≤ 1000000 → ∀ W, Below w.heap.size w W → Calls Tryd.prog 10 #[.slice A n c, .slice B m d] W (OfP W (ckOf l ts))) := Lib.hid (fun h1 h2 W hW => by
    rw [hn] at h1 ⊢
    rw [hm] at h2 ⊢
    exact of_c (hA.1.below hW) hA.2 h1 (hB.below hW) h2)
  rw [← hn, ← hm]
  obtain ⟨k, hk⟩ : ∃ k, k = ckOf l ts := ⟨_, rfl⟩
  rw [← hk] at HOF
  clear hT hl hA hd hB hn hm hk
  by_cases h1 : 300 < n
  · have h1I : (300 : Int) < n := by omega
    have e1 : decide ((300 : Int) < n) = true := by simpa using h1I
    clear h1
    go_enter Tryd.func3, Tryd.ntmps3
    go_wp2_with (go_at_call 9; refine (awake_c HT.out).mono ?_; rintro e w1 ⟨rfl, hb1⟩)
    go_ret
    exact ⟨rfl, hb1⟩
  · have e1 : decide ((300 : Int) < n) = false := by simp; omega
    by_cases h2 : 300 < m
    · have e2 : decide ((300 : Int) < m) = true := by simp; omega
      clear h1 h2
      go_enter Tryd.func3, Tryd.ntmps3
      go_wp2_with (go_at_call 9; refine (awake_c HT.out).mono ?_; rintro e w1 ⟨rfl, hb1⟩)
      go_ret
      exact ⟨rfl, hb1⟩
    · have e2 : decide ((300 : Int) < m) = false := by simp; omega
      have HO := Lib.hid (HOF.out (by omega) (by omega))
      clear h1 h2 HOF
      obtain ⟨r, hr⟩ : ∃ r, checkA k = r := ⟨_, rfl⟩
      obtain ⟨u, hu⟩ : ∃ u, movN k.cs = u := ⟨_, rfl⟩
      have HR := Lib.hid hr
      have HU := Lib.hid hu
      clear hr hu
      go_enter Tryd.func3, Tryd.ntmps3
      go_wp2_with fail
      go_at_call 10
      refine (HO.out _ (Below.refl _ _)).mono ?_
      rintro e w1 ⟨p, rfl, hk1, hp1, hb1⟩
      have HK1 := Lib.hid hk1
      have HB1 := Lib.hid hb1
      clear hk1 hb1
      go_wp2_with fail
      go_at_call 10
      refine (HO.out _ HB1.out).mono ?_
      rintro e w2 ⟨q, rfl, hk2, hq2, hb2⟩
      have HP2 := Lib.hid (HK1.out.below hb2)
      have HQ2 := Lib.hid hk2
      have HB2 := Lib.hid (below_t HB1.out hb2)
      clear hk2 hb2
      go_wp2_with fail
      go_at_call 11
      refine (check_c (HT.out.below HB2.out) HP2.out HR.out).mono ?_
      rintro e w3 ⟨rfl, hb3⟩
      have HP3 := Lib.hid (HP2.out.below hb3)
      have HQ3 := Lib.hid (HQ2.out.below hb3)
      have HB3 := Lib.hid (below_t HB2.out hb3)
      clear hb3
      go_wp2_with fail
      go_at_call 12
      refine (rcheck_c HQ3.out HR.out).mono ?_
      rintro e w4 ⟨rfl, hb4⟩
      have HP4 := Lib.hid (HP3.out.below hb4)
      have HQ4 := Lib.hid (HQ3.out.below hb4)
      have HB4 := Lib.hid (below_t HB3.out hb4)
      clear hb4
      go_wp2_with fail
      go_at_call 13
      refine (mov_c (HT.out.below HB4.out) HP4.out HU.out).mono ?_
      rintro e w5 ⟨rfl, hb5⟩
      have HP5 := Lib.hid (HP4.out.below hb5)
      have HQ5 := Lib.hid (HQ4.out.below hb5)
      have HB5 := Lib.hid (below_t HB4.out hb5)
      clear hb5
      go_wp2_with fail
      go_at_call 14
      refine (rmov_c HQ5.out HU.out).mono ?_
      rintro e w6 ⟨rfl, hb6⟩
      have HP6 := Lib.hid (HP5.out.below hb6)
      have HQ6 := Lib.hid (HQ5.out.below hb6)
      have HB6 := Lib.hid (below_t HB5.out hb6)
      clear hb6
      go_wp2_with fail
      go_at_call 15
      refine (rsame7_c HP6.out HQ6.out (sameK_self k)).mono ?_
      rintro e w7 ⟨rfl, hb7⟩
      have HB7 := Lib.hid (below_t HB6.out hb7)
      clear hb7
      go_wp2_with (go_at_call 9; refine (awake_c (HT.out.below HB7.out)).mono ?_; rintro e w8 ⟨rfl, hb8⟩)
      go_ret
      exact ⟨rfl, below_t HB7.out hb8⟩
end ChunkW
end Go.Proofs.YtiodbbdibkeniaaDoor
