/-
  Lamps: package kind's and the reference's.
-/
import Derived.Test.YtbkadecfmjjadaaDoorKindWalks
namespace Go.Proofs.YtbkadecfmjjadaaDoor
open Go.RowKit
namespace KindW
open KindP

theorem k_may_b {k l : Nat} {b : Bool} (h : may k l = b) (w : World) (hT : Tab w) :
    Calls Tryd.prog 33 #[.agg #[.int .u8 k, .int .u8 l]] w fun e w' => e = .returned (.bool b) ∧ Below w.heap.size w w' := by
  have := k_may k l w hT
  rw [h] at this
  exact this
theorem r_may_b {k l : Nat} {b : Bool} (h : may k l = b) (w : World) :
    Calls Tryd.prog 39 #[.agg #[.int .u8 k, .int .u8 l]] w fun e w' => e = .returned (.bool b) ∧ Below w.heap.size w w' := by
  have := r_may k l w
  rw [h] at this
  exact this

set_option maxHeartbeats 400000 in
theorem k_lamp (k l : Nat) (w : World) (hT : Tab w) :
    Calls Tryd.prog 18 #[.agg #[.int .u8 k, .int .u8 l]] w fun e w' => e = .returned (.int .u8 (KindP.lamp k l)) ∧ Below w.heap.size w w' := by
  have hT1 := hT.below ((Below.refl _ w).alloc (Nat.le_refl _) (.cells #[.int .u8 k, .int .u8 l] 32))
  have HT1 := Lib.hid hT1
  clear hT hT1
  by_cases hm : may k l = true
  · by_cases h11 : k = 11
    · subst h11
      have e : Hid (KindP.lamp 11 l = l) := Lib.hid (by simp [KindP.lamp, hm])
      have HM : Hid (may 11 l = true) := Lib.hid hm
      clear hm
      go_enter Tryd.func18, Tryd.ntmps18
      go_wp2_with fail
      refine (k_may_b HM.out _ HT1.out).mono ?_
      rintro e1 w1 ⟨rfl, hb⟩
      have hc : w1.cell? ⟨w.heap.size, 0, none⟩ = some (.int .u8 11) := by rw [hb.cell (by simp)]; simp
      have hc1 : w1.cell? ⟨w.heap.size, 1, none⟩ = some (.int .u8 l) := by rw [hb.cell (by simp)]; simp
      have HB := Lib.hid hb
      clear hb
      go_wp2
      go_ret
      exact ⟨by rw [e.out]; rfl, ((Below.refl _ _).alloc (Nat.le_refl _) _).trans (HB.out.mono (by simp))⟩
    by_cases h14 : k = 14
    · subst h14
      have e : Hid (KindP.lamp 14 l = 10) := Lib.hid (by simp [KindP.lamp, hm])
      have HM : Hid (may 14 l = true) := Lib.hid hm
      clear hm
      go_enter Tryd.func18, Tryd.ntmps18
      go_wp2_with fail
      refine (k_may_b HM.out _ HT1.out).mono ?_
      rintro e1 w1 ⟨rfl, hb⟩
      have hc : w1.cell? ⟨w.heap.size, 0, none⟩ = some (.int .u8 14) := by rw [hb.cell (by simp)]; simp
      have hc1 : w1.cell? ⟨w.heap.size, 1, none⟩ = some (.int .u8 l) := by rw [hb.cell (by simp)]; simp
      have HB := Lib.hid hb
      clear hb
      go_wp2
      go_ret
      exact ⟨by rw [e.out]; rfl, ((Below.refl _ _).alloc (Nat.le_refl _) _).trans (HB.out.mono (by simp))⟩
    have e11 : ((k : Int) == 11) = false := by simp; omega
    have e14 : ((k : Int) == 14) = false := by simp; omega
    have e : Hid (KindP.lamp k l = 0) := Lib.hid (by simp [KindP.lamp, hm, h11, h14])
    have HM : Hid (may k l = true) := Lib.hid hm
    clear hm
    go_enter Tryd.func18, Tryd.ntmps18
    go_wp2_with fail
    refine (k_may_b HM.out _ HT1.out).mono ?_
    rintro e1 w1 ⟨rfl, hb⟩
    have hc : w1.cell? ⟨w.heap.size, 0, none⟩ = some (.int .u8 k) := by rw [hb.cell (by simp)]; simp
    have hc1 : w1.cell? ⟨w.heap.size, 1, none⟩ = some (.int .u8 l) := by rw [hb.cell (by simp)]; simp
    have HB := Lib.hid hb
    clear hb
    go_wp2
    go_ret
    exact ⟨by rw [e.out]; rfl, ((Below.refl _ _).alloc (Nat.le_refl _) _).trans (HB.out.mono (by simp))⟩
  · have hm : may k l = false := by simpa using hm
    have e : Hid (KindP.lamp k l = 0) := Lib.hid (by simp [KindP.lamp, hm])
    have HM : Hid (may k l = false) := Lib.hid hm
    clear hm
    go_enter Tryd.func18, Tryd.ntmps18
    go_wp2_with fail
    refine (k_may_b HM.out _ HT1.out).mono ?_
    rintro e1 w1 ⟨rfl, hb⟩
    have hc : w1.cell? ⟨w.heap.size, 0, none⟩ = some (.int .u8 k) := by rw [hb.cell (by simp)]; simp
    have hc1 : w1.cell? ⟨w.heap.size, 1, none⟩ = some (.int .u8 l) := by rw [hb.cell (by simp)]; simp
    have HB := Lib.hid hb
    clear hb
    go_wp2
    go_ret
    exact ⟨by rw [e.out]; rfl, ((Below.refl _ _).alloc (Nat.le_refl _) _).trans (HB.out.mono (by simp))⟩

set_option maxHeartbeats 400000 in
theorem r_lamp (k l : Nat) (w : World) :
    Calls Tryd.prog 30 #[.agg #[.int .u8 k, .int .u8 l]] w fun e w' => e = .returned (.int .u8 (KindP.lamp k l)) ∧ Below w.heap.size w w' := by
  by_cases hm : may k l = true
  · by_cases h11 : k = 11
    · subst h11
      have e : Hid (KindP.lamp 11 l = l) := Lib.hid (by simp [KindP.lamp, hm])
      have HM : Hid (may 11 l = true) := Lib.hid hm
      clear hm
      go_enter Tryd.func30, Tryd.ntmps30
      go_wp2_with fail
      refine (r_may_b HM.out _).mono ?_
      rintro e1 w1 ⟨rfl, hb⟩
      have hc : w1.cell? ⟨w.heap.size, 0, none⟩ = some (.int .u8 11) := by rw [hb.cell (by simp)]; simp
      have hc1 : w1.cell? ⟨w.heap.size, 1, none⟩ = some (.int .u8 l) := by rw [hb.cell (by simp)]; simp
      have hs : w.heap.size < w1.heap.size := by have := hb.size; simp at this; omega
      have HB := Lib.hid hb
      clear hb
      go_wp2
      go_ret
      exact ⟨by rw [e.out]; rfl, ((Below.refl _ _).alloc (Nat.le_refl _) _).trans (HB.out.mono (by simp))⟩
    by_cases h14 : k = 14
    · subst h14
      have e : Hid (KindP.lamp 14 l = 10) := Lib.hid (by simp [KindP.lamp, hm])
      have HM : Hid (may 14 l = true) := Lib.hid hm
      clear hm
      go_enter Tryd.func30, Tryd.ntmps30
      go_wp2_with fail
      refine (r_may_b HM.out _).mono ?_
      rintro e1 w1 ⟨rfl, hb⟩
      have hc : w1.cell? ⟨w.heap.size, 0, none⟩ = some (.int .u8 14) := by rw [hb.cell (by simp)]; simp
      have hc1 : w1.cell? ⟨w.heap.size, 1, none⟩ = some (.int .u8 l) := by rw [hb.cell (by simp)]; simp
      have hs : w.heap.size < w1.heap.size := by have := hb.size; simp at this; omega
      have HB := Lib.hid hb
      clear hb
      go_wp2_with fail
      refine (r_may_b HM.out _).mono ?_
      rintro e2 w2 ⟨rfl, hb2⟩
      have hd : w2.cell? ⟨w.heap.size, 0, none⟩ = some (.int .u8 14) := by rw [hb2.cell hs]; exact hc
      have HB2 := Lib.hid (HB.out.trans (hb2.mono HB.out.size))
      clear hb2
      go_wp2
      go_ret
      exact ⟨by rw [e.out]; rfl, ((Below.refl _ _).alloc (Nat.le_refl _) _).trans (HB2.out.mono (by simp))⟩
    have e11 : ((k : Int) == 11) = false := by simp; omega
    have e14 : ((k : Int) == 14) = false := by simp; omega
    have e : Hid (KindP.lamp k l = 0) := Lib.hid (by simp [KindP.lamp, hm, h11, h14])
    have HM : Hid (may k l = true) := Lib.hid hm
    clear hm
    go_enter Tryd.func30, Tryd.ntmps30
    go_wp2_with fail
    refine (r_may_b HM.out _).mono ?_
    rintro e1 w1 ⟨rfl, hb⟩
    have hc : w1.cell? ⟨w.heap.size, 0, none⟩ = some (.int .u8 k) := by rw [hb.cell (by simp)]; simp
    have hc1 : w1.cell? ⟨w.heap.size, 1, none⟩ = some (.int .u8 l) := by rw [hb.cell (by simp)]; simp
    have hs : w.heap.size < w1.heap.size := by have := hb.size; simp at this; omega
    have HB := Lib.hid hb
    clear hb
    go_wp2_with fail
    refine (r_may_b HM.out _).mono ?_
    rintro e2 w2 ⟨rfl, hb2⟩
    have hd : w2.cell? ⟨w.heap.size, 0, none⟩ = some (.int .u8 k) := by rw [hb2.cell hs]; exact hc
    have HB2 := Lib.hid (HB.out.trans (hb2.mono HB.out.size))
    clear hb2
    go_wp2
    go_ret
    exact ⟨by rw [e.out]; rfl, ((Below.refl _ _).alloc (Nat.le_refl _) _).trans (HB2.out.mono (by simp))⟩
  · have hm : may k l = false := by simpa using hm
    have e : Hid (KindP.lamp k l = 0) := Lib.hid (by simp [KindP.lamp, hm])
    have HM : Hid (may k l = false) := Lib.hid hm
    clear hm
    go_enter Tryd.func30, Tryd.ntmps30
    go_wp2_with fail
    refine (r_may_b HM.out _).mono ?_
    rintro e1 w1 ⟨rfl, hb⟩
    have hc : w1.cell? ⟨w.heap.size, 0, none⟩ = some (.int .u8 k) := by rw [hb.cell (by simp)]; simp
    have hc1 : w1.cell? ⟨w.heap.size, 1, none⟩ = some (.int .u8 l) := by rw [hb.cell (by simp)]; simp
    have hs : w.heap.size < w1.heap.size := by have := hb.size; simp at this; omega
    have HB := Lib.hid hb
    clear hb
    go_wp2_with fail
    refine (r_may_b HM.out _).mono ?_
    rintro e2 w2 ⟨rfl, hb2⟩
    have hd : w2.cell? ⟨w.heap.size, 0, none⟩ = some (.int .u8 k) := by rw [hb2.cell hs]; exact hc
    have HB2 := Lib.hid (HB.out.trans (hb2.mono HB.out.size))
    clear hb2
    go_wp2
    go_ret
    exact ⟨by rw [e.out]; rfl, ((Below.refl _ _).alloc (Nat.le_refl _) _).trans (HB2.out.mono (by simp))⟩
end KindW
end Go.Proofs.YtbkadecfmjjadaaDoor
