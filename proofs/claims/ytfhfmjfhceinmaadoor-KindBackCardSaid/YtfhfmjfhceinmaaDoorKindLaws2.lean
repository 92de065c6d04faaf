/-
  The walks of the laws KindKnown and KindBack: each returns true, and of what was there nothing has turned.
-/
import Derived.Test.YtfhfmjfhceinmaaDoorKindWalks4
namespace Go.Proofs.YtfhfmjfhceinmaaDoor
open Go.RowKit
namespace KindW
open KindP

set_option maxHeartbeats 1000000 in
theorem law_known  (w : World) (hT : Tab w) :
    Calls Tryd.prog 6 #[] w fun e w' => e = .returned (.bool true) ∧ Below w.heap.size w w' := by
  have HB : Hid (Below w.heap.size w w) := Lib.hid (Below.refl _ _)
  have HT := Lib.hid hT
  clear hT
  go_enter Tryd.func6, Tryd.ntmps6
  go_wp2_with fail
  refine (k_of_b (s := [87, 97, 116, 101, 114]) (k := 0) (b := false) (by decide) (by decide) _ HT.out).mono ?_
  rintro e w' ⟨rfl, rfl⟩
  go_wp2_with fail
  refine (k_of_b (s := []) (k := 0) (b := false) (by decide) (by decide) _ HT.out).mono ?_
  rintro e w' ⟨rfl, rfl⟩
  go_wp2_with fail
  refine (awake _ HT.out).mono ?_
  rintro e w1 ⟨rfl, hb1⟩
  have HT1 := Lib.hid (HT.out.below hb1)
  have HB1 := Lib.hid (HB.out.trans (hb1.mono HB.out.size))
  clear hb1
  go_wp2_with fail
  refine (name_b (k := 14) (s := [102, 105, 114, 101]) (by decide) _ HT1.out).mono ?_
  rintro e w' ⟨rfl, rfl⟩
  go_wp2_with fail
  refine (name_b (k := 15) (s := []) (by decide) _ HT1.out).mono ?_
  rintro e w' ⟨rfl, rfl⟩
  go_wp2_with fail
  refine (k_clear_b (k := 9) (b := true) (by decide) _ HT1.out).mono ?_
  rintro e w' ⟨rfl, rfl⟩
  go_wp2_with fail
  refine (k_movable_b (k := 9) (b := true) (by decide) _ HT1.out).mono ?_
  rintro e w' ⟨rfl, rfl⟩
  go_wp2_with fail
  refine (k_yields_b (k := 9) (b := false) (by decide) _ HT1.out).mono ?_
  rintro e w' ⟨rfl, rfl⟩
  go_wp2_with fail
  refine (k_soaks_b (k := 13) (b := false) (by decide) _ HT1.out).mono ?_
  rintro e w' ⟨rfl, rfl⟩
  go_wp2_with fail
  refine (k_yields_b (k := 13) (b := true) (by decide) _ HT1.out).mono ?_
  rintro e w' ⟨rfl, rfl⟩
  go_wp2_with fail
  refine (k_burns_b (k := 12) (b := true) (by decide) _ HT1.out).mono ?_
  rintro e w' ⟨rfl, rfl⟩
  go_wp2_with fail
  refine (k_falls_b (k := 8) (b := true) (by decide) _ HT1.out).mono ?_
  rintro e w' ⟨rfl, rfl⟩
  go_wp2_with fail
  refine (k_falls_b (k := 15) (b := false) (by decide) _ HT1.out).mono ?_
  rintro e w' ⟨rfl, rfl⟩
  go_wp2_with fail
  refine (k_levels_b (k := 11) (v := 15) (by decide) _ HT1.out).mono ?_
  rintro e w' ⟨rfl, rfl⟩
  go_wp2_with fail
  refine (k_levels_b (k := 13) (v := 7) (by decide) _ HT1.out).mono ?_
  rintro e w' ⟨rfl, rfl⟩
  go_wp2_with fail
  refine (k_levels_b (k := 2) (v := 0) (by decide) _ HT1.out).mono ?_
  rintro e w' ⟨rfl, rfl⟩
  go_wp2_with fail
  refine (k_levels_b (k := 200) (v := 0) (by decide) _ HT1.out).mono ?_
  rintro e w' ⟨rfl, rfl⟩
  go_wp2_with fail
  refine (l_may (k := 11) (l := 0) (b := false) (by decide) _ HT1.out).mono ?_
  rintro e w2 ⟨rfl, hb2⟩
  have HT2 := Lib.hid (HT1.out.below hb2)
  have HB2 := Lib.hid (HB1.out.trans (hb2.mono HB1.out.size))
  clear hb2
  go_wp2_with fail
  refine (l_may (k := 11) (l := 15) (b := true) (by decide) _ HT2.out).mono ?_
  rintro e w3 ⟨rfl, hb3⟩
  have HT3 := Lib.hid (HT2.out.below hb3)
  have HB3 := Lib.hid (HB2.out.trans (hb3.mono HB2.out.size))
  clear hb3
  go_wp2_with fail
  refine (l_may (k := 12) (l := 3) (b := true) (by decide) _ HT3.out).mono ?_
  rintro e w4 ⟨rfl, hb4⟩
  have HT4 := Lib.hid (HT3.out.below hb4)
  have HB4 := Lib.hid (HB3.out.trans (hb4.mono HB3.out.size))
  clear hb4
  go_wp2_with fail
  refine (l_may (k := 2) (l := 1) (b := false) (by decide) _ HT4.out).mono ?_
  rintro e w5 ⟨rfl, hb5⟩
  have HT5 := Lib.hid (HT4.out.below hb5)
  have HB5 := Lib.hid (HB4.out.trans (hb5.mono HB4.out.size))
  clear hb5
  go_wp2_with fail
  refine (l_may (k := 15) (l := 0) (b := false) (by decide) _ HT5.out).mono ?_
  rintro e w6 ⟨rfl, hb6⟩
  have HT6 := Lib.hid (HT5.out.below hb6)
  have HB6 := Lib.hid (HB5.out.trans (hb6.mono HB5.out.size))
  clear hb6
  go_wp2_with fail
  refine (l_lamp (k := 11) (l := 0) (v := 0) (by decide) _ HT6.out).mono ?_
  rintro e w7 ⟨rfl, hb7⟩
  have HT7 := Lib.hid (HT6.out.below hb7)
  have HB7 := Lib.hid (HB6.out.trans (hb7.mono HB6.out.size))
  clear hb7
  go_wp2_with fail
  refine (l_lamp (k := 11) (l := 16) (v := 0) (by decide) _ HT7.out).mono ?_
  rintro e w8 ⟨rfl, hb8⟩
  have HT8 := Lib.hid (HT7.out.below hb8)
  have HB8 := Lib.hid (HB7.out.trans (hb8.mono HB7.out.size))
  clear hb8
  go_wp2_with fail
  refine (l_lamp (k := 14) (l := 1) (v := 10) (by decide) _ HT8.out).mono ?_
  rintro e w9 ⟨rfl, hb9⟩
  have HT9 := Lib.hid (HT8.out.below hb9)
  have HB9 := Lib.hid (HB8.out.trans (hb9.mono HB8.out.size))
  clear hb9
  go_wp2_with fail
  refine (l_lamp (k := 14) (l := 2) (v := 0) (by decide) _ HT9.out).mono ?_
  rintro e w10 ⟨rfl, hb10⟩
  have HT10 := Lib.hid (HT9.out.below hb10)
  have HB10 := Lib.hid (HB9.out.trans (hb10.mono HB9.out.size))
  clear hb10
  go_wp2_with fail
  refine (l_lamp (k := 9) (l := 0) (v := 0) (by decide) _ HT10.out).mono ?_
  rintro e w11 ⟨rfl, hb11⟩
  have HT11 := Lib.hid (HT10.out.below hb11)
  have HB11 := Lib.hid (HB10.out.trans (hb11.mono HB10.out.size))
  clear hb11
  go_wp2
  go_ret
  exact ⟨rfl, HB11.out⟩

set_option maxHeartbeats 1000000 in
theorem law_back_11 (k : Nat) (s : List UInt8) (w : World) (hT : Tab w) (h : k < 15) (hs : ofB s = true) :
    Calls Tryd.prog 7 #[.int .u8 k, .string ⟨s.toArray⟩] w fun e w' => e = .returned (.bool true) ∧ Below w.heap.size w w' := by
  have HB : Hid (Below w.heap.size w w) := Lib.hid (Below.refl _ _)
  have HT := Lib.hid hT
  clear hT
  have H1 := Lib.hid (of_nm k h)
  have H2 := Lib.hid (And.intro hs (nm_ofN hs).2)
  clear hs
  have hle : decide ((k : Int) ≤ 14) = true := by simp; omega
  go_enter Tryd.func7, Tryd.ntmps7
  go_wp2_with fail
  refine (name_any k _ HT.out).mono ?_
  rintro e w' ⟨rfl, rfl⟩
  go_wp2_with fail
  refine (k_of_b H1.out.1 H1.out.2 _ HT.out).mono ?_
  rintro e w' ⟨rfl, rfl⟩
  go_wp2_with fail
  refine (k_of_b (k := ofN s) rfl H2.out.1 _ HT.out).mono ?_
  rintro e w' ⟨rfl, rfl⟩
  go_wp2_with fail
  refine (name_b H2.out.2 _ HT.out).mono ?_
  rintro e w' ⟨rfl, rfl⟩
  go_wp2_with fail
  refine (awake _ HT.out).mono ?_
  rintro e w1 ⟨rfl, hb1⟩
  have HT1 := Lib.hid (HT.out.below hb1)
  have HB1 := Lib.hid (HB.out.trans (hb1.mono HB.out.size))
  clear hb1
  go_wp2
  go_ret
  exact ⟨rfl, HB1.out⟩

set_option maxHeartbeats 1000000 in
theorem law_back_10 (k : Nat) (s : List UInt8) (w : World) (hT : Tab w) (h : k < 15) (hs : ofB s = false) :
    Calls Tryd.prog 7 #[.int .u8 k, .string ⟨s.toArray⟩] w fun e w' => e = .returned (.bool true) ∧ Below w.heap.size w w' := by
  have HB : Hid (Below w.heap.size w w) := Lib.hid (Below.refl _ _)
  have HT := Lib.hid hT
  clear hT
  have H1 := Lib.hid (of_nm k h)
  have H2 := Lib.hid hs
  clear hs
  have hle : decide ((k : Int) ≤ 14) = true := by simp; omega
  go_enter Tryd.func7, Tryd.ntmps7
  go_wp2_with fail
  refine (name_any k _ HT.out).mono ?_
  rintro e w' ⟨rfl, rfl⟩
  go_wp2_with fail
  refine (k_of_b H1.out.1 H1.out.2 _ HT.out).mono ?_
  rintro e w' ⟨rfl, rfl⟩
  go_wp2_with fail
  refine (k_of_b (k := ofN s) rfl H2.out _ HT.out).mono ?_
  rintro e w' ⟨rfl, rfl⟩
  go_wp2_with fail
  refine (awake _ HT.out).mono ?_
  rintro e w1 ⟨rfl, hb1⟩
  have HT1 := Lib.hid (HT.out.below hb1)
  have HB1 := Lib.hid (HB.out.trans (hb1.mono HB.out.size))
  clear hb1
  go_wp2
  go_ret
  exact ⟨rfl, HB1.out⟩

set_option maxHeartbeats 1000000 in
theorem law_back_01 (k : Nat) (s : List UInt8) (w : World) (hT : Tab w) (h : ¬ k < 15) (hs : ofB s = true) :
    Calls Tryd.prog 7 #[.int .u8 k, .string ⟨s.toArray⟩] w fun e w' => e = .returned (.bool true) ∧ Below w.heap.size w w' := by
  have HB : Hid (Below w.heap.size w w) := Lib.hid (Below.refl _ _)
  have HT := Lib.hid hT
  clear hT
  have H0 := Lib.hid (nm_out (k := k) (by omega))
  have H2 := Lib.hid (And.intro hs (nm_ofN hs).2)
  clear hs
  have hle : decide ((k : Int) ≤ 14) = false := by simp; omega
  have hgt : decide (14 < (k : Int)) = true := by simp; omega
  go_enter Tryd.func7, Tryd.ntmps7
  go_wp2_with fail
  refine (name_b H0.out _ HT.out).mono ?_
  rintro e w' ⟨rfl, rfl⟩
  go_wp2_with fail
  refine (k_of_b (s := []) (k := 0) (b := false) (by decide) (by decide) _ HT.out).mono ?_
  rintro e w' ⟨rfl, rfl⟩
  go_wp2_with fail
  refine (k_of_b (k := ofN s) rfl H2.out.1 _ HT.out).mono ?_
  rintro e w' ⟨rfl, rfl⟩
  go_wp2_with fail
  refine (name_b H2.out.2 _ HT.out).mono ?_
  rintro e w' ⟨rfl, rfl⟩
  go_wp2_with fail
  refine (awake _ HT.out).mono ?_
  rintro e w1 ⟨rfl, hb1⟩
  have HT1 := Lib.hid (HT.out.below hb1)
  have HB1 := Lib.hid (HB.out.trans (hb1.mono HB.out.size))
  clear hb1
  go_wp2
  go_ret
  exact ⟨rfl, HB1.out⟩

set_option maxHeartbeats 1000000 in
theorem law_back_00 (k : Nat) (s : List UInt8) (w : World) (hT : Tab w) (h : ¬ k < 15) (hs : ofB s = false) :
    Calls Tryd.prog 7 #[.int .u8 k, .string ⟨s.toArray⟩] w fun e w' => e = .returned (.bool true) ∧ Below w.heap.size w w' := by
  have HB : Hid (Below w.heap.size w w) := Lib.hid (Below.refl _ _)
  have HT := Lib.hid hT
  clear hT
  have H0 := Lib.hid (nm_out (k := k) (by omega))
  have H2 := Lib.hid hs
  clear hs
  have hle : decide ((k : Int) ≤ 14) = false := by simp; omega
  have hgt : decide (14 < (k : Int)) = true := by simp; omega
  go_enter Tryd.func7, Tryd.ntmps7
  go_wp2_with fail
  refine (name_b H0.out _ HT.out).mono ?_
  rintro e w' ⟨rfl, rfl⟩
  go_wp2_with fail
  refine (k_of_b (s := []) (k := 0) (b := false) (by decide) (by decide) _ HT.out).mono ?_
  rintro e w' ⟨rfl, rfl⟩
  go_wp2_with fail
  refine (k_of_b (k := ofN s) rfl H2.out _ HT.out).mono ?_
  rintro e w' ⟨rfl, rfl⟩
  go_wp2_with fail
  refine (awake _ HT.out).mono ?_
  rintro e w1 ⟨rfl, hb1⟩
  have HT1 := Lib.hid (HT.out.below hb1)
  have HB1 := Lib.hid (HB.out.trans (hb1.mono HB.out.size))
  clear hb1
  go_wp2
  go_ret
  exact ⟨rfl, HB1.out⟩

theorem law_back (k : Nat) (s : List UInt8) (w : World) (hT : Tab w) :
    Calls Tryd.prog 7 #[.int .u8 k, .string ⟨s.toArray⟩] w fun e w' => e = .returned (.bool true) ∧ Below w.heap.size w w' := by
  by_cases h : k < 15 <;> cases hs : ofB s
  · exact law_back_10 k s w hT h hs
  · exact law_back_11 k s w hT h hs
  · exact law_back_00 k s w hT h hs
  · exact law_back_01 k s w hT h hs
end KindW
end Go.Proofs.YtfhfmjfhceinmaaDoor
