/-
  PackPuts: a chunk is laid as bytes, or refused, as the document says, and stays as it is.
-/
import Derived.Test.YtjllgdlmeoakpaaDoorPackRPut
import Derived.Test.YtjllgdlmeoakpaaDoorPackRSame
namespace Go.Proofs.YtjllgdlmeoakpaaDoor
open Go.RowKit
set_option linter.unusedVariables false
set_option linter.unusedSimpArgs false
namespace PackW
open BytesW RunsW

set_option maxRecDepth 100000 in
set_option maxHeartbeats 8000000 in
theorem law_puts {w : World} {A B : Option Addr} {l : List Pt} {ts : List Tick} {c d : Nat} (hT : KindW.Tab w) (hl : l.length ≤ 9223372036854775807) (hA : PartC w A l ∧ ∀ q ∈ l, PtOk q) (hd : ts.length ≤ d ∧ d ≤ 9223372036854775807) (hB : PairC tkv w B ts) :
    Calls Tryd.prog 3 #[.slice A l.length c, .slice B ts.length d] w fun e w' => e = .returned (.bool true) ∧ Below w.heap.size w w' := by
  obtain ⟨tn, htn⟩ : ∃ tn, tn = ts.length := ⟨_, rfl⟩
  obtain ⟨tm, htm⟩ : ∃ tm, tm = min tn 5000 := ⟨_, rfl⟩
  obtain ⟨tt, htt⟩ : ∃ tt, tt = ts.take 5000 := ⟨_, rfl⟩
  have htl : tt.length = tm := by rw [htt, htm, htn, List.length_take]; omega
  have htm1 : tm ≤ tn := by omega
  have htm2 : tm ≤ 5000 := by omega
  have HMIN : Hid ((if (5000 : Int) < (tn : Int) then (5000 : Int) else (tn : Int)) = (tm : Int)) := Lib.hid (by split <;> omega)
  have hdd : tn ≤ d := by rw [htn]; exact hd.1
  have hsl := run_uptoT (A := B) w htm1 hdd
  obtain ⟨k, hk⟩ : ∃ k : Ck, k = ⟨(madeP 1000 l).1, (madeP 1000 l).2, tt⟩ := ⟨_, rfl⟩
  have HMADE : Hid (∀ W, Below w.heap.size w W → Calls Tryd.prog 11 #[.slice A l.length c, .slice B tm d] W (makeRP W k)) := Lib.hid (fun W hW => by
    have h := makeR_c (c := c) (d := d) (hA.1.below hW) hA.2 hl (ts := tt) (by rw [htt]; exact (hB.take 5000).below hW) (by omega) hd.2 (by omega)
    rw [htl, ← hk] at h
    exact h)
  obtain ⟨⟨bs, er⟩, hR⟩ : ∃ R, putA k = R := ⟨_, rfl⟩
  have HR := Lib.hid hR
  have HT := Lib.hid hT
  rw [← htn]
  clear hT hl hA hd hB htn htm htt htl hk hR hdd
  go_enter Tryd.func3, Tryd.ntmps3
  go_wp2_with ((with_reducible refine at_slot 14 ?_); refine wp_min rfl (.tmp 13) (.const (.int .i64 5000)) rfl (X := tn) rfl rfl HMIN.out ?_)
  go_at_call 11
  refine (HMADE.out _ (Below.refl _ _)).mono ?_
  rintro e w1 ⟨p, rfl, hk1, hp1, hb1⟩
  have HK1 := Lib.hid hk1
  have HB1 := Lib.hid hb1
  clear hk1 hb1 hsl
  go_wp2_with fail
  go_at_call 11
  refine (HMADE.out _ HB1.out).mono ?_
  rintro e w2 ⟨q, rfl, hk2, hq1, hb2⟩
  have HK12 := Lib.hid (HK1.out.below hb2)
  have HK2 := Lib.hid hk2
  have HB2 := Lib.hid (below_m HB1.out hb2)
  clear hk2 hb2
  go_wp2_with fail
  go_at_call 12
  refine (put6_c (HT.out.below HB2.out) HK12.out HR.out).mono ?_
  rintro e w3 ⟨v3, rfl, hown3, hb3⟩
  dsimp only at hown3
  obtain ⟨A3, c3, rfl, hA3, hc3, hm3⟩ := hown3.sl
  have HA3 := Lib.hid hA3
  have HK13 := Lib.hid (HK12.out.below hb3)
  have HK23 := Lib.hid (HK2.out.below hb3)
  have HB3 := Lib.hid (below_m HB2.out hb3)
  clear hb3 hown3 hA3
  go_wp2_with fail
  go_at_call 13
  refine (rput_c HK23.out HR.out).mono ?_
  rintro e w4 ⟨v4, rfl, hown4, hb4⟩
  dsimp only at hown4
  obtain ⟨A4, c4, rfl, hA4, hc4, hm4⟩ := hown4.sl
  have HK14 := Lib.hid (HK13.out.below hb4)
  have HK24 := Lib.hid (HK23.out.below hb4)
  have HB4 := Lib.hid (below_m HB3.out hb4)
  have r33 := run_str w4 c3 (HA3.out.below hb4)
  have r35 := run_str w4 c4 hA4
  clear hb4 hown4 hA4
  go_wp2_with (first
    | (go_at_call 14; refine (rsame_c HK14.out HK24.out).mono ?_; rintro e w5 ⟨rfl, hb5⟩; have HB5 := Lib.hid (below_m HB4.out hb5); clear hb5)
    | (go_at_call 15; refine (works_c (HT.out.below HB5.out)).mono ?_; rintro e w6 ⟨rfl, hb6⟩))
  go_ret
  exact ⟨rfl, below_m HB5.out hb6⟩
end PackW
end Go.Proofs.YtjllgdlmeoakpaaDoor
