/-
  The walks of package kind and of its reference, the last part: lamps, names looked up, and the law package's own small functions.
-/
import Derived.Test.YtfhfmjfhceinmaaDoorKindWalks3
namespace Go.Proofs.YtfhfmjfhceinmaaDoor
open Go.RowKit
namespace KindW
open KindP

theorem k_may_b {k l : Nat} {b : Bool} (h : may k l = b) (w : World) (hT : Tab w) :
    Calls Tryd.prog 28 #[.agg #[.int .u8 k, .int .u8 l]] w fun e w' => e = .returned (.bool b) ∧ Below w.heap.size w w' := by
  have := k_may k l w hT
  rw [h] at this
  exact this
theorem r_may_b {k l : Nat} {b : Bool} (h : may k l = b) (w : World) :
    Calls Tryd.prog 29 #[.agg #[.int .u8 k, .int .u8 l]] w fun e w' => e = .returned (.bool b) ∧ Below w.heap.size w w' := by
  have := r_may k l w
  rw [h] at this
  exact this

set_option maxHeartbeats 400000 in
theorem k_lamp (k l : Nat) (w : World) (hT : Tab w) :
    Calls Tryd.prog 30 #[.agg #[.int .u8 k, .int .u8 l]] w fun e w' => e = .returned (.int .u8 (KindP.lamp k l)) ∧ Below w.heap.size w w' := by
  have hT1 := hT.below ((Below.refl _ w).alloc (Nat.le_refl _) (.cells #[.int .u8 k, .int .u8 l] 30))
  have HT1 := Lib.hid hT1
  clear hT hT1
  by_cases hm : may k l = true
  · by_cases h11 : k = 11
    · subst h11
      have e : Hid (KindP.lamp 11 l = l) := Lib.hid (by simp [KindP.lamp, hm])
      have HM : Hid (may 11 l = true) := Lib.hid hm
      clear hm
      go_enter Tryd.func30, Tryd.ntmps30
      go_wp2_with fail
      refine (k_may_b HM.out _ HT1.out).mono ?_
      rintro e1 w1 ⟨rfl, hb⟩
      have hc : w1.cell? ⟨w.heap.size, 0, none⟩ = some (.int .u8 11) := by rw [hb.cell (by simp)]; simp
      have hc1 : w1.cell? ⟨w.heap.size, 1, none⟩ = some (.int .u8 l) := by rw [hb.cell (by simp)]; simp
      have HB := Lib.hid hb
      clear hb
      go_wp2
      go_ret
      exact ⟨by rw [e.out]; rfl, ((Below.refl _ _).alloc (Nat.le_refl _) _).trans (HB.out.mono (by simp))⟩
    by_cases h14 : k = 14
    · subst h14
      have e : Hid (KindP.lamp 14 l = 10) := Lib.hid (by simp [KindP.lamp, hm])
      have HM : Hid (may 14 l = true) := Lib.hid hm
      clear hm
      go_enter Tryd.func30, Tryd.ntmps30
      go_wp2_with fail
      refine (k_may_b HM.out _ HT1.out).mono ?_
      rintro e1 w1 ⟨rfl, hb⟩
      have hc : w1.cell? ⟨w.heap.size, 0, none⟩ = some (.int .u8 14) := by rw [hb.cell (by simp)]; simp
      have hc1 : w1.cell? ⟨w.heap.size, 1, none⟩ = some (.int .u8 l) := by rw [hb.cell (by simp)]; simp
      have HB := Lib.hid hb
      clear hb
      go_wp2
      go_ret
      exact ⟨by rw [e.out]; rfl, ((Below.refl _ _).alloc (Nat.le_refl _) _).trans (HB.out.mono (by simp))⟩
    have e11 : ((k : Int) == 11) = false := by simp; omega
    have e14 : ((k : Int) == 14) = false := by simp; omega
    have e : Hid (KindP.lamp k l = 0) := Lib.hid (by simp [KindP.lamp, hm, h11, h14])
    have HM : Hid (may k l = true) := Lib.hid hm
    clear hm
    go_enter Tryd.func30, Tryd.ntmps30
    go_wp2_with fail
    refine (k_may_b HM.out _ HT1.out).mono ?_
    rintro e1 w1 ⟨rfl, hb⟩
    have hc : w1.cell? ⟨w.heap.size, 0, none⟩ = some (.int .u8 k) := by rw [hb.cell (by simp)]; simp
    have hc1 : w1.cell? ⟨w.heap.size, 1, none⟩ = some (.int .u8 l) := by rw [hb.cell (by simp)]; simp
    have HB := Lib.hid hb
    clear hb
    go_wp2
    go_ret
    exact ⟨by rw [e.out]; rfl, ((Below.refl _ _).alloc (Nat.le_refl _) _).trans (HB.out.mono (by simp))⟩
  · have hm : may k l = false := by simpa using hm
    have e : Hid (KindP.lamp k l = 0) := Lib.hid (by simp [KindP.lamp, hm])
    have HM : Hid (may k l = false) := Lib.hid hm
    clear hm
    go_enter Tryd.func30, Tryd.ntmps30
    go_wp2_with fail
    refine (k_may_b HM.out _ HT1.out).mono ?_
    rintro e1 w1 ⟨rfl, hb⟩
    have hc : w1.cell? ⟨w.heap.size, 0, none⟩ = some (.int .u8 k) := by rw [hb.cell (by simp)]; simp
    have hc1 : w1.cell? ⟨w.heap.size, 1, none⟩ = some (.int .u8 l) := by rw [hb.cell (by simp)]; simp
    have HB := Lib.hid hb
    clear hb
    go_wp2
    go_ret
    exact ⟨by rw [e.out]; rfl, ((Below.refl _ _).alloc (Nat.le_refl _) _).trans (HB.out.mono (by simp))⟩

set_option maxHeartbeats 400000 in
theorem r_lamp (k l : Nat) (w : World) :
    Calls Tryd.prog 31 #[.agg #[.int .u8 k, .int .u8 l]] w fun e w' => e = .returned (.int .u8 (KindP.lamp k l)) ∧ Below w.heap.size w w' := by
  by_cases hm : may k l = true
  · by_cases h11 : k = 11
    · subst h11
      have e : Hid (KindP.lamp 11 l = l) := Lib.hid (by simp [KindP.lamp, hm])
      have HM : Hid (may 11 l = true) := Lib.hid hm
      clear hm
      go_enter Tryd.func31, Tryd.ntmps31
      go_wp2_with fail
      refine (r_may_b HM.out _).mono ?_
      rintro e1 w1 ⟨rfl, hb⟩
      have hc : w1.cell? ⟨w.heap.size, 0, none⟩ = some (.int .u8 11) := by rw [hb.cell (by simp)]; simp
      have hc1 : w1.cell? ⟨w.heap.size, 1, none⟩ = some (.int .u8 l) := by rw [hb.cell (by simp)]; simp
      have hs : w.heap.size < w1.heap.size := by have := hb.size; simp at this; omega
      have HB := Lib.hid hb
      clear hb
      go_wp2
      go_ret
      exact ⟨by rw [e.out]; rfl, ((Below.refl _ _).alloc (Nat.le_refl _) _).trans (HB.out.mono (by simp))⟩
    by_cases h14 : k = 14
    · subst h14
      have e : Hid (KindP.lamp 14 l = 10) := Lib.hid (by simp [KindP.lamp, hm])
      have HM : Hid (may 14 l = true) := Lib.hid hm
      clear hm
      go_enter Tryd.func31, Tryd.ntmps31
      go_wp2_with fail
      refine (r_may_b HM.out _).mono ?_
      rintro e1 w1 ⟨rfl, hb⟩
      have hc : w1.cell? ⟨w.heap.size, 0, none⟩ = some (.int .u8 14) := by rw [hb.cell (by simp)]; simp
      have hc1 : w1.cell? ⟨w.heap.size, 1, none⟩ = some (.int .u8 l) := by rw [hb.cell (by simp)]; simp
      have hs : w.heap.size < w1.heap.size := by have := hb.size; simp at this; omega
      have HB := Lib.hid hb
      clear hb
      go_wp2_with fail
      refine (r_may_b HM.out _).mono ?_
      rintro e2 w2 ⟨rfl, hb2⟩
      have hd : w2.cell? ⟨w.heap.size, 0, none⟩ = some (.int .u8 14) := by rw [hb2.cell hs]; exact hc
      have HB2 := Lib.hid (HB.out.trans (hb2.mono HB.out.size))
      clear hb2
      go_wp2
      go_ret
      exact ⟨by rw [e.out]; rfl, ((Below.refl _ _).alloc (Nat.le_refl _) _).trans (HB2.out.mono (by simp))⟩
    have e11 : ((k : Int) == 11) = false := by simp; omega
    have e14 : ((k : Int) == 14) = false := by simp; omega
    have e : Hid (KindP.lamp k l = 0) := Lib.hid (by simp [KindP.lamp, hm, h11, h14])
    have HM : Hid (may k l = true) := Lib.hid hm
    clear hm
    go_enter Tryd.func31, Tryd.ntmps31
    go_wp2_with fail
    refine (r_may_b HM.out _).mono ?_
    rintro e1 w1 ⟨rfl, hb⟩
    have hc : w1.cell? ⟨w.heap.size, 0, none⟩ = some (.int .u8 k) := by rw [hb.cell (by simp)]; simp
    have hc1 : w1.cell? ⟨w.heap.size, 1, none⟩ = some (.int .u8 l) := by rw [hb.cell (by simp)]; simp
    have hs : w.heap.size < w1.heap.size := by have := hb.size; simp at this; omega
    have HB := Lib.hid hb
    clear hb
    go_wp2_with fail
    refine (r_may_b HM.out _).mono ?_
    rintro e2 w2 ⟨rfl, hb2⟩
    have hd : w2.cell? ⟨w.heap.size, 0, none⟩ = some (.int .u8 k) := by rw [hb2.cell hs]; exact hc
    have HB2 := Lib.hid (HB.out.trans (hb2.mono HB.out.size))
    clear hb2
    go_wp2
    go_ret
    exact ⟨by rw [e.out]; rfl, ((Below.refl _ _).alloc (Nat.le_refl _) _).trans (HB2.out.mono (by simp))⟩
  · have hm : may k l = false := by simpa using hm
    have e : Hid (KindP.lamp k l = 0) := Lib.hid (by simp [KindP.lamp, hm])
    have HM : Hid (may k l = false) := Lib.hid hm
    clear hm
    go_enter Tryd.func31, Tryd.ntmps31
    go_wp2_with fail
    refine (r_may_b HM.out _).mono ?_
    rintro e1 w1 ⟨rfl, hb⟩
    have hc : w1.cell? ⟨w.heap.size, 0, none⟩ = some (.int .u8 k) := by rw [hb.cell (by simp)]; simp
    have hc1 : w1.cell? ⟨w.heap.size, 1, none⟩ = some (.int .u8 l) := by rw [hb.cell (by simp)]; simp
    have hs : w.heap.size < w1.heap.size := by have := hb.size; simp at this; omega
    have HB := Lib.hid hb
    clear hb
    go_wp2_with fail
    refine (r_may_b HM.out _).mono ?_
    rintro e2 w2 ⟨rfl, hb2⟩
    have hd : w2.cell? ⟨w.heap.size, 0, none⟩ = some (.int .u8 k) := by rw [hb2.cell hs]; exact hc
    have HB2 := Lib.hid (HB.out.trans (hb2.mono HB.out.size))
    clear hb2
    go_wp2
    go_ret
    exact ⟨by rw [e.out]; rfl, ((Below.refl _ _).alloc (Nat.le_refl _) _).trans (HB2.out.mono (by simp))⟩

theorem bytes_ext {a b : List UInt8} : ((⟨a.toArray⟩ : ByteArray) = ⟨b.toArray⟩) ↔ a = b := by
  constructor
  · intro h
    injection h with h
    simpa using h
  · intro h; rw [h]

set_option maxHeartbeats 400000 in
theorem k_of (s : List UInt8) (w : World) (hT : Tab w) :
    Calls Tryd.prog 9 #[.string ⟨s.toArray⟩] w fun e w' => e = .returned (.tuple #[.int .u8 (ofN s), .bool (ofB s)]) ∧ w = w' := by
  have HT := Lib.hid hT
  clear hT
  go_enter Tryd.func9, Tryd.ntmps9
  go_wp2
  go_loop [4] (fun i => ∃ j : Nat, j ≤ 15 ∧ i = .int .u8 j ∧ Hid (∀ x, x < j → nm x ≠ s)) (fun i => 15 - (intOf i).toNat)
  case atStart => exact ⟨0, by omega, rfl, Lib.hid (by simp)⟩
  case round =>
    obtain ⟨j, hj, rfl, hne⟩ := hrel
    by_cases hlt : j < 15
    · have h1 := HT.out.name j hlt
      by_cases he : nm j = s
      · have ht : (nm j == s) = true := by simpa using he
        have E := Lib.hid (of_at hlt he hne.out)
        clear he
        go_wp2
        go_ret2
        exact ⟨by rw [E.out.1, E.out.2]; rfl, rfl⟩
      · have ht : (nm j == s) = false := by simpa using he
        have hne2 : Hid (∀ x, x < j + 1 → nm x ≠ s) := Lib.hid (fun x hx => by
          by_cases hxj : x = j
          · rw [hxj]; exact he
          · exact hne.out x (by omega))
        clear he
        go_wp2
        go_round
        case rel => exact ⟨j + 1, by omega, by go_num, hne2⟩
        case measure => simp [intOf]; omega
    · have E := Lib.hid (of_none fun i hi => hne.out i (by omega))
      go_wp2
      go_ret2
      exact ⟨by rw [E.out.1, E.out.2]; rfl, rfl⟩

set_option maxHeartbeats 400000 in
theorem r_of (s : List UInt8) (w : World) :
    Calls Tryd.prog 10 #[.string ⟨s.toArray⟩] w fun e w' => e = .returned (.tuple #[.int .u8 (ofN s), .bool (ofB s)]) ∧ Below w.heap.size w w' := by
  go_enter Tryd.func10, Tryd.ntmps10
  go_wp2
  go_loopw [4] (fun i wr => ∃ j : Nat, j ≤ 15 ∧ i = .int .i64 j ∧ Hid (∀ x, x < j → nm x ≠ s) ∧ Below w.heap.size w wr) (fun i _ => 15 - (intOf i).toNat)
  case atStart => exact ⟨0, by omega, rfl, Lib.hid (by simp), Below.refl _ _⟩
  case round =>
    obtain ⟨j, hj, rfl, hne, hb⟩ := hrel
    have HB := Lib.hid hb
    clear hb
    by_cases hlt : j < 15
    · by_cases he : nm j = s
      · have ht : (nm j == s) = true := by simpa using he
        have E := Lib.hid (of_at hlt he hne.out)
        clear he
        go_wp2_with fail
        refine (r_name j _).mono ?_
        rintro e1 w1 ⟨rfl, hb1⟩
        have HB1 := Lib.hid (HB.out.trans (hb1.mono HB.out.size))
        clear hb1
        go_wp2
        go_ret2
        exact ⟨by rw [E.out.1, E.out.2]; rfl, HB1.out⟩
      · have ht : (nm j == s) = false := by simpa using he
        have hne2 : Hid (∀ x, x < j + 1 → nm x ≠ s) := Lib.hid (fun x hx => by
          by_cases hxj : x = j
          · rw [hxj]; exact he
          · exact hne.out x (by omega))
        clear he
        go_wp2_with fail
        refine (r_name j _).mono ?_
        rintro e1 w1 ⟨rfl, hb1⟩
        have HB1 := Lib.hid (HB.out.trans (hb1.mono HB.out.size))
        clear hb1
        go_wp2
        go_roundw
        case rel => exact ⟨j + 1, by omega, by go_num, hne2, HB1.out⟩
        case measure => simp [intOf]; omega
    · have E := Lib.hid (of_none fun i hi => hne.out i (by omega))
      go_wp2
      go_ret2
      exact ⟨by rw [E.out.1, E.out.2]; rfl, HB.out⟩

set_option maxHeartbeats 400000 in
theorem l_may {k l : Nat} {b : Bool} (h : may k l = b) (w : World) (hT : Tab w) :
    Calls Tryd.prog 32 #[.int .u8 k, .int .u8 l] w fun e w' => e = .returned (.bool b) ∧ Below w.heap.size w w' := by
  have H := Lib.hid h
  clear h
  go_enter Tryd.func32, Tryd.ntmps32
  go_wp2_with (go_at_call 28; refine (k_may_b H.out _ hT).mono ?_; rintro e w' ⟨rfl, hb⟩)
  go_ret
  exact ⟨rfl, hb⟩

set_option maxHeartbeats 400000 in
theorem l_lamp {k l v : Nat} (h : KindP.lamp k l = v) (w : World) (hT : Tab w) :
    Calls Tryd.prog 33 #[.int .u8 k, .int .u8 l] w fun e w' => e = .returned (.int .u8 v) ∧ Below w.heap.size w w' := by
  have H := Lib.hid h
  clear h
  go_enter Tryd.func33, Tryd.ntmps33
  go_wp2_with (go_at_call 30; refine (k_lamp k l _ hT).mono ?_; rintro e w' ⟨rfl, hb⟩)
  go_ret
  exact ⟨by rw [H.out]; rfl, hb⟩

theorem name_b {k : Nat} {s : List UInt8} (h : nm k = s) (w : World) (hT : Tab w) :
    Calls Tryd.prog 11 #[.int .u8 k] w fun e w' => e = .returned (.string ⟨s.toArray⟩) ∧ w = w' := by
  have := name_any k w hT
  rw [h] at this
  exact this
theorem k_levels_b {k v : Nat} (h : KindP.most k = v) (w : World) (hT : Tab w) :
    Calls Tryd.prog 26 #[.int .u8 k] w fun e w' => e = .returned (.int .u8 v) ∧ w = w' := by
  have := k_levels k w hT
  rw [h] at this
  exact this
theorem k_lamp_b {k l v : Nat} (h : KindP.lamp k l = v) (w : World) (hT : Tab w) :
    Calls Tryd.prog 30 #[.agg #[.int .u8 k, .int .u8 l]] w fun e w' => e = .returned (.int .u8 v) ∧ Below w.heap.size w w' := by
  have := k_lamp k l w hT
  rw [h] at this
  exact this
theorem k_of_b {s : List UInt8} {k : Nat} {b : Bool} (h : ofN s = k) (h' : ofB s = b) (w : World) (hT : Tab w) :
    Calls Tryd.prog 9 #[.string ⟨s.toArray⟩] w fun e w' => e = .returned (.tuple #[.int .u8 k, .bool b]) ∧ w = w' := by
  have := k_of s w hT
  rw [h, h'] at this
  exact this
theorem k_clear_b {k : Nat} {b : Bool} (h : clear k = b) (w : World) (hT : Tab w) :
    Calls Tryd.prog 14 #[.int .u8 k] w fun e w' => e = .returned (.bool b) ∧ w = w' := by
  have := k_clear k w hT
  rw [h] at this
  exact this
theorem k_movable_b {k : Nat} {b : Bool} (h : movable k = b) (w : World) (hT : Tab w) :
    Calls Tryd.prog 16 #[.int .u8 k] w fun e w' => e = .returned (.bool b) ∧ w = w' := by
  have := k_movable k w hT
  rw [h] at this
  exact this
theorem k_yields_b {k : Nat} {b : Bool} (h : yields k = b) (w : World) (hT : Tab w) :
    Calls Tryd.prog 18 #[.int .u8 k] w fun e w' => e = .returned (.bool b) ∧ w = w' := by
  have := k_yields k w hT
  rw [h] at this
  exact this
theorem k_soaks_b {k : Nat} {b : Bool} (h : soaks k = b) (w : World) (hT : Tab w) :
    Calls Tryd.prog 20 #[.int .u8 k] w fun e w' => e = .returned (.bool b) ∧ w = w' := by
  have := k_soaks k w hT
  rw [h] at this
  exact this
theorem k_falls_b {k : Nat} {b : Bool} (h : falls k = b) (w : World) (hT : Tab w) :
    Calls Tryd.prog 22 #[.int .u8 k] w fun e w' => e = .returned (.bool b) ∧ w = w' := by
  have := k_falls k w hT
  rw [h] at this
  exact this
theorem k_burns_b {k : Nat} {b : Bool} (h : burns k = b) (w : World) (hT : Tab w) :
    Calls Tryd.prog 24 #[.int .u8 k] w fun e w' => e = .returned (.bool b) ∧ w = w' := by
  have := k_burns k w hT
  rw [h] at this
  exact this

set_option maxHeartbeats 400000 in
theorem awake (w : World) (hT : Tab w) :
    Calls Tryd.prog 13 #[] w fun e w' => e = .returned (.bool true) ∧ Below w.heap.size w w' := by
  have HT := Lib.hid hT
  clear hT
  go_enter Tryd.func13, Tryd.ntmps13
  go_wp2_with fail
  refine (k_of_b (s := [119, 97, 116, 101, 114]) (k := 13) (b := true) (by decide) (by decide) _ HT.out).mono ?_
  rintro e w' ⟨rfl, rfl⟩
  go_wp2_with fail
  refine (name_b (k := 4) (s := [115, 97, 110, 100]) (by decide) _ HT.out).mono ?_
  rintro e w' ⟨rfl, rfl⟩
  go_wp2_with fail
  refine (k_falls_b (k := 4) (b := true) (by decide) _ HT.out).mono ?_
  rintro e w' ⟨rfl, rfl⟩
  go_wp2_with fail
  refine (k_falls_b (k := 2) (b := false) (by decide) _ HT.out).mono ?_
  rintro e w' ⟨rfl, rfl⟩
  go_wp2_with fail
  refine (k_lamp_b (k := 11) (l := 7) (v := 7) (by decide) _ HT.out).mono ?_
  rintro e w1 ⟨rfl, hb1⟩
  have HT1 := Lib.hid (HT.out.below hb1)
  have HB1 := Lib.hid hb1
  clear hb1
  go_wp2_with fail
  refine (k_may_b (k := 13) (l := 7) (b := true) (by decide) _ HT1.out).mono ?_
  rintro e w2 ⟨rfl, hb2⟩
  have HT2 := Lib.hid (HT1.out.below hb2)
  have HB2 := Lib.hid hb2
  clear hb2
  go_wp2_with fail
  refine (k_may_b (k := 13) (l := 8) (b := false) (by decide) _ HT2.out).mono ?_
  rintro e w3 ⟨rfl, hb3⟩
  have HT3 := Lib.hid (HT2.out.below hb3)
  have HB3 := Lib.hid hb3
  clear hb3
  go_wp2
  go_ret
  exact ⟨rfl, HB1.out.trans ((HB2.out.mono HB1.out.size).trans (HB3.out.mono (Nat.le_trans HB1.out.size HB2.out.size)))⟩
end KindW
end Go.Proofs.YtfhfmjfhceinmaaDoor
