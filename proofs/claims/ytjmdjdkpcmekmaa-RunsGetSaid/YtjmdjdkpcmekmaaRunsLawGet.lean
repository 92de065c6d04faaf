/-
  RunsGet: the row that any bytes begin with, of any length; the bytes stay.
-/
import Derived.Test.YtjmdjdkpcmekmaaRunsLawPut
namespace Go.Proofs.Ytjmdjdkpcmekmaa
open Go.RowKit
open Go.Lib (uvarint uvarint_small uvarint_big uvarint_length64 uvarint_pos zigzag)
set_option linter.unusedVariables false
set_option linter.unusedSimpArgs false
namespace RunsW
open BytesW

theorem getA_len (b : List UInt8) (n : Int) : (getA b n).1.length ≤ 65536 := by
  unfold getA
  split
  · simp
  · rcases h : rowGet b n.toNat with _ | ⟨l, k⟩
    · simp [gOf]
    · have := (get_len h).1
      simp only [gOf]
      omega

set_option maxRecDepth 100000 in
set_option maxHeartbeats 4000000 in
theorem law_get {w : World} {A : Option Addr} {L : List UInt8} {c : Nat} {n : Int} (hc : L.length ≤ c ∧ c ≤ 9223372036854775807) (hA : AtC w A L) (hn1 : -9223372036854775808 ≤ n) (hn2 : n ≤ 9223372036854775807) :
    Calls Try.prog 4 #[.slice A L.length c, .int .i64 n] w fun e w' => e = .returned (.bool true) ∧ Below w.heap.size w w' := by
  obtain ⟨hc1, hc2⟩ := hc
  by_cases hbig : 20000 < L.length
  · have hbig2 : (20000 : Int) < L.length := by omega
    go_enter Try.func4, Try.ntmps4
    go_wp2_with (go_at_call 8; refine (awake_c _).mono ?_; rintro e w1 ⟨rfl, hb1⟩)
    go_ret
    exact ⟨rfl, hb1⟩
  · have hsm : ¬ (20000 : Int) < L.length := by omega
    have HO : Hid (∀ cs, cs = #[] → BytesW.Own (w.alloc (.cells cs 5)) w.heap.size (.slice (some ⟨w.heap.size, 0, none⟩) 0 0) []) := Lib.hid (fun cs h => by
      subst h
      exact World.ownsRow_made w #[] 0 (Nat.le_refl _) (by simp [maxLen]) rfl)
    obtain ⟨p, k, E, hR⟩ : ∃ p k E, getA L n = (p, k, E) := ⟨_, _, _, rfl⟩
    have hpl : p.length ≤ 65536 := by have := getA_len L n; rw [hR] at this; exact this
    have HG : Hid (∀ (w : World) (A : Option Addr) (c : Nat), AtC w A L → L.length ≤ c → Calls Try.prog 13 #[.slice A L.length c, .int .i64 n] w (GetP w (p, k, E))) := Lib.hid (fun w A c h hc => get_c h hc (by omega) hR)
    have HREF : Hid (∀ (w : World), AtC w A L → Calls Try.prog 14 #[.slice A L.length c, .int .i64 n] w (GetP w (p, k, E))) := Lib.hid (fun w h => r_get_c h hc1 (by omega) hR)
    clear hR
    go_enter Try.func4, Try.ntmps4
    go_wp2_with ((with_reducible refine at_slot 22 ?_); refine wp_appendC rfl (.tmp 20) (.tmp 21) rfl (l := []) (l2 := L) rfl (HO.out _ rfl) rfl (hA.below (al _ _)) (by simp; omega) (by simp) ?_; intro v1 w1 hown1 hb1)
    rw [List.nil_append] at hown1
    obtain ⟨A1, c1, rfl, hA1, hd1, hm1⟩ := hown1.sl
    have hbb1 : Below w.heap.size w w1 := (al _ _).trans hb1
    have HB1 := Lib.hid hbb1
    clear hb1 hown1 hbb1
    go_wp2_with fail
    go_at_call 13
    refine (HG.out _ _ _ hA1.c hd1).mono ?_
    rintro e w2 ⟨v2, rfl, hown2, hb2⟩
    dsimp only at hown2
    obtain ⟨A2, c2, rfl, hA2, hd2, hm2⟩ := hown2.sl
    have HB12 := Lib.hid hb2
    have hz12 := hb2.size
    clear hb2
    go_wp2_with fail
    go_at_call 13
    refine (HG.out _ _ _ (hA1.below HB12.out).c hd1).mono ?_
    rintro e w3 ⟨v3, rfl, hown3, hb3⟩
    dsimp only at hown3
    obtain ⟨A3, c3, rfl, hA3, hd3, hm3⟩ := hown3.sl
    have HB23 := Lib.hid hb3
    have HB3 := Lib.hid (below_m (below_m HB1.out HB12.out) hb3)
    have hz23 := hb3.size
    clear hb3
    go_wp2_with fail
    go_at_call 14
    refine (HREF.out _ (hA.below HB3.out)).mono ?_
    rintro e w4 ⟨v4, rfl, hown4, hb4⟩
    dsimp only at hown4
    obtain ⟨A4, c4, rfl, hA4, hd4, hm4⟩ := hown4.sl
    have HB34 := Lib.hid hb4
    have HB4 := Lib.hid (below_m HB3.out hb4)
    have HB24 := Lib.hid (below_m HB23.out hb4)
    have HB14 := Lib.hid (below_m HB12.out HB24.out)
    have hA24 := hA2.below HB24.out
    clear hb4
    go_wp2_with (first
      | ((with_reducible refine at_slot 45 ?_); refine wp_str rfl (.tmp 44) rfl rfl hA24 ?_)
      | ((with_reducible refine at_slot 47 ?_); refine wp_str rfl (.tmp 46) rfl rfl hA4 ?_))
    have HT0 := Lib.hid (Turn.start hown2 HB24.out)
    have HO3 := Lib.hid (hown3.below HB34.out)
    have HO4 := Lib.hid hown4
    have HA := Lib.hid hA
    have HA1 := Lib.hid hA1
    clear hA24 hA4 hown4 hown2 hown3 hA2 hA3 hA hA1
    go_loopw [15] (TurnRel w4 A2 p.length w1.heap.size w2.heap.size) (fun v _ => p.length - (intOf v).toNat)
    case atStart => exact ⟨0, rfl, by omega, HT0.out⟩
    case round =>
      obtain ⟨j, rfl, hj, hT⟩ := hrel
      by_cases hjl : j < p.length
      · obtain ⟨g, z, rfl, g1, g2, hT2⟩ := hT.cell hjl
        have HT2 := Lib.hid hT2
        clear hT hT2
        go_wp2_with fail
        go_roundw
        case rel => exact ⟨j + 1, by go_num, by omega, HT2.out _⟩
        case measure => simp [intOf]; omega
      · have hjl2 : ¬ (j : Int) < p.length := by omega
        have hbw := hT.below (w0 := w) HB4.out HB1.out.size
        have hA3r := own_at (hT.own HO3.out (Nat.le_refl _))
        have hA4r := own_at (hT.own HO4.out hz23)
        have r80 := run_str wr c1 (HA1.out.below (hT.below (w0 := w1) HB14.out (Nat.le_refl _)))
        have r82 := run_strC wr c (HA.out.below hbw)
        have HBW := Lib.hid hbw
        clear hT hbw
        go_wp2_with (first
          | ((with_reducible refine at_slot 74 ?_); refine wp_str rfl (.tmp 73) rfl rfl hA3r ?_)
          | ((with_reducible refine at_slot 76 ?_); refine wp_str rfl (.tmp 75) rfl rfl hA4r ?_)
          | (go_at_call 8; refine (awake_c _).mono ?_; rintro e w8 ⟨rfl, hb8⟩))
        go_ret
        exact ⟨rfl, below_m HBW.out hb8⟩
end RunsW
end Go.Proofs.Ytjmdjdkpcmekmaa
