/-
  PackGets: any bytes are a chunk's, or none, as the document says.
-/
import Derived.Test.YtdboebokjkkgkaaDoorPackLawOnce
import Derived.Test.YtdboebokjkkgkaaDoorPackRGet
import Derived.Test.YtdboebokjkkgkaaDoorPackRSame
namespace Go.Proofs.YtdboebokjkkgkaaDoor
open Go.RowKit
set_option linter.unusedVariables false
set_option linter.unusedSimpArgs false
namespace PackW
open BytesW RunsW

set_option maxRecDepth 100000 in
set_option maxHeartbeats 8000000 in
theorem law_gets {w : World} {L : List UInt8} (hT : KindW.Tab w) (hL : L.length ≤ 9223372036854775807) :
    Calls Tryd.prog 4 #[.string ⟨L.toArray⟩] w fun e w' => e = .returned (.bool true) ∧ Below w.heap.size w w' := by
  have HT := Lib.hid hT
  obtain ⟨n, hn⟩ : ∃ n, n = min L.length 70000 := ⟨_, rfl⟩
  have hn1 : n ≤ L.length := by omega
  have hn2 : n ≤ 70000 := by omega
  have HMIN : Hid ((if (70000 : Int) < (L.length : Int) then (70000 : Int) else (L.length : Int)) = (n : Int)) := Lib.hid (by split <;> omega)
  obtain ⟨t, ht⟩ : ∃ t, t = L.take n := ⟨_, rfl⟩
  have htl : t.length ≤ 70000 := by rw [ht, List.length_take]; omega
  have HTE := Lib.hid ht
  have HS : (⟨L.toArray⟩ : ByteArray).size = L.length := by simp [ByteArray.size]
  have HS2 := Lib.hid HS
  clear hT hn ht HS
  obtain ⟨r, hr⟩ : ∃ r, getC t = r := ⟨_, rfl⟩
  have HG := Lib.hid hr
  have HF : Hid (refC t = r) := Lib.hid (by rw [refC_is, hr])
  clear hr
  go_enter Tryd.func4, Tryd.ntmps4
  go_wp2_with (first
    | ((with_reducible refine at_slot 11 ?_); refine wp_min rfl (.tmp 10) (.const (.int .i64 70000)) rfl (X := L.length) (by rw [← HS2.out]; rfl) rfl HMIN.out ?_)
    | ((with_reducible refine at_slot 12 ?_); refine wp_strTo rfl (.tmp 8) (.tmp 11) rfl rfl rfl hn1 ?_; rw [← HTE.out])
    | ((with_reducible refine at_slot 14 ?_); refine wp_bytes rfl (.tmp 13) rfl (l := t) rfl ?_ (by simp only [maxLen]; omega); intro c1 w1 cs1 hcs1 k1 k2 k3 k4 hb1 hz1))
  have HA1 := Lib.hid (at_bytes hcs1 k4)
  have HB1 := Lib.hid hb1
  clear hcs1 k4 hb1
  go_at_call 16
  refine (get6_c (HT.out.below HB1.out) HA1.out.c k1 (by omega) HG.out).mono ?_
  rintro e w2 ⟨hb2, hno, hso⟩
  have HB2 := Lib.hid (below_m HB1.out hb2)
  have HA2 := Lib.hid (HA1.out.below hb2)
  clear hb2
  rcases r with _ | k
  · obtain rfl := hno rfl
    clear hno hso
    go_wp2_with ((with_reducible refine at_slot 22 ?_); refine wp_bytes rfl (.tmp 21) rfl (l := t) rfl ?_ (by simp only [maxLen]; omega); intro c3 w3 cs3 hcs3 m1 m2 m3 m4 hb3 hz3)
    have HA3 := Lib.hid (at_bytes hcs3 m4)
    have HB3 := Lib.hid (below_m HB2.out hb3)
    have HA23 := Lib.hid (HA2.out.below hb3)
    clear hcs3 m4 hb3
    go_at_call 17
    refine (rget_c HA3.out m1 m2 (by omega) HF.out).mono ?_
    rintro e w4 ⟨hb4, hno, _⟩
    obtain rfl := hno rfl
    have HB4 := Lib.hid (below_m HB3.out hb4)
    have r31 := run_str w4 c1 (HA23.out.below hb4)
    clear hb4 hno
    go_wp2_with (go_at_call 15; refine (works_c (HT.out.below HB4.out)).mono ?_; rintro e w5 ⟨rfl, hb5⟩)
    go_ret
    exact ⟨rfl, below_m HB4.out hb5⟩
  · obtain ⟨p, rfl, hk2, hp2⟩ := hso k rfl
    have HK2 := Lib.hid hk2
    clear hno hso hk2
    go_wp2_with ((with_reducible refine at_slot 22 ?_); refine wp_bytes rfl (.tmp 21) rfl (l := t) rfl ?_ (by simp only [maxLen]; omega); intro c3 w3 cs3 hcs3 m1 m2 m3 m4 hb3 hz3)
    have HA3 := Lib.hid (at_bytes hcs3 m4)
    have HB3 := Lib.hid (below_m HB2.out hb3)
    have HA23 := Lib.hid (HA2.out.below hb3)
    have HK3 := Lib.hid (HK2.out.below hb3)
    clear hcs3 m4 hb3
    go_at_call 17
    refine (rget_c HA3.out m1 m2 (by omega) HF.out).mono ?_
    rintro e w4 ⟨hb4, _, hso⟩
    obtain ⟨q, rfl, hk4, hq4⟩ := hso k rfl
    have HB4 := Lib.hid (below_m HB3.out hb4)
    have HK34 := Lib.hid (HK3.out.below hb4)
    have HK4 := Lib.hid hk4
    have r31 := run_str w4 c1 (HA23.out.below hb4)
    clear hb4 hso hk4
    go_wp2_with (first
      | (go_at_call 14; refine (rsame_c HK34.out HK4.out).mono ?_; rintro e w5 ⟨rfl, hb5⟩; have HB5 := Lib.hid (below_m HB4.out hb5); clear hb5)
      | (go_at_call 15; refine (works_c (HT.out.below HB5.out)).mono ?_; rintro e w6 ⟨rfl, hb6⟩))
    go_ret
    exact ⟨rfl, below_m HB5.out hb6⟩
end PackW
end Go.Proofs.YtdboebokjkkgkaaDoor
