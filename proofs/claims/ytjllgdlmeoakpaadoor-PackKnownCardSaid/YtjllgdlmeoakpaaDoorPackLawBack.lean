/-
  PackBack: a chunk that is laid as bytes is read back as it was.
-/
import Derived.Test.YtjllgdlmeoakpaaDoorPackMakeL
import Derived.Test.YtjllgdlmeoakpaaDoorPackSame
namespace Go.Proofs.YtjllgdlmeoakpaaDoor
open Go.RowKit
set_option linter.unusedVariables false
set_option linter.unusedSimpArgs false
namespace PackW
open BytesW RunsW

theorem madeP_len (n : Nat) (l : List Pt) : (madeP n l).1.length = 4096 ∧ (madeP n l).2.length = 4096 := by
  have h : ∀ (r : List Pt) (k : List Cell × List Cell), k.1.length = 4096 ∧ k.2.length = 4096 → (r.foldl layP k).1.length = 4096 ∧ (r.foldl layP k).2.length = 4096 := by
    intro r
    induction r with
    | nil => exact fun k h => h
    | cons q r ih =>
      intro k hk
      have := lenOf_le q
      exact ih _ ⟨by rw [layP]; simp only; rw [lay_len (by omega)]; exact hk.1, by rw [layP]; simp only; rw [lay_len (by omega)]; exact hk.2⟩
  exact h _ _ ⟨zeros_len, zeros_len⟩

set_option maxRecDepth 100000 in
set_option maxHeartbeats 8000000 in
theorem law_back {w : World} {A B : Option Addr} {l : List Pt} {ts : List Tick} {c d : Nat} (hT : KindW.Tab w) (hl : l.length ≤ 9223372036854775807) (hA : PartC w A l ∧ ∀ q ∈ l, PtOk q) (hd : ts.length ≤ d ∧ d ≤ 9223372036854775807) (hB : PairC tkv w B ts) :
    Calls Tryd.prog 5 #[.slice A l.length c, .slice B ts.length d] w fun e w' => e = .returned (.bool true) ∧ Below w.heap.size w w' := by
  obtain ⟨k, hk⟩ : ∃ k : Ck, k = ⟨(madeP 300 l).1, (madeP 300 l).2, ts.take 5000⟩ := ⟨_, rfl⟩
  have hful : full k := by
    obtain ⟨h1, h2⟩ := madeP_len 300 l
    rw [hk]
    exact ⟨h1, h2⟩
  have HT := Lib.hid hT
  have HFUL := Lib.hid hful
  have HMADE : Hid (Calls Tryd.prog 18 #[.slice A l.length c, .slice B ts.length d] w (makeLP w k)) := Lib.hid (by rw [hk]; exact makeL_c hA.1 hA.2 hl hB hd.1 hd.2)
  clear hT hk hful hA hl hd hB
  rcases hcan : can k with _ | _
  · have HPA : Hid (putA k = ([], 2)) := Lib.hid (by rw [putA, hcan]; rfl)
    clear hcan
    go_enter Tryd.func5, Tryd.ntmps5
    go_wp2_with fail
    go_at_call 18
    refine (HMADE.out).mono ?_
    rintro e w1 ⟨p, rfl, hk1, hp1, hb1⟩
    have HK1 := Lib.hid hk1
    have HB1 := Lib.hid hb1
    clear hk1 hb1
    go_wp2_with fail
    go_at_call 12
    refine (put6_c (HT.out.below HB1.out) HK1.out HPA.out).mono ?_
    rintro e w2 ⟨v2, rfl, hown2, hb2⟩
    dsimp only at hown2
    obtain ⟨A2, c2, rfl, hA2, hc2, hm2⟩ := hown2.sl
    have HB2 := Lib.hid (below_m HB1.out hb2)
    clear hb2 hown2
    go_wp2_with (go_at_call 15; refine (works_c (HT.out.below HB2.out)).mono ?_; rintro e w3 ⟨rfl, hb3⟩)
    go_ret
    exact ⟨rfl, below_m HB2.out hb3⟩
  · obtain ⟨bs, hbs⟩ : ∃ bs, bs = putC k := ⟨_, rfl⟩
    have HPA : Hid (putA k = (bs, 0)) := Lib.hid (by rw [putA, hcan, hbs]; rfl)
    have hlen : bs.length ≤ 65536 := by rw [hbs]; exact putC_len hcan HFUL.out.1 HFUL.out.2
    have HG : Hid (getC bs = some k) := Lib.hid (by rw [hbs]; exact getC_full hcan HFUL.out)
    have hlI : (bs.length : Int) ≤ 65536 := by omega
    clear hcan hbs
    go_enter Tryd.func5, Tryd.ntmps5
    go_wp2_with fail
    go_at_call 18
    refine (HMADE.out).mono ?_
    rintro e w1 ⟨p, rfl, hk1, hp1, hb1⟩
    have HK1 := Lib.hid hk1
    have HB1 := Lib.hid hb1
    clear hk1 hb1
    go_wp2_with fail
    go_at_call 12
    refine (put6_c (HT.out.below HB1.out) HK1.out HPA.out).mono ?_
    rintro e w2 ⟨v2, rfl, hown2, hb2⟩
    dsimp only at hown2
    obtain ⟨A2, c2, rfl, hA2, hc2, hm2⟩ := hown2.sl
    have HB2 := Lib.hid (below_m HB1.out hb2)
    have HK2 := Lib.hid (HK1.out.below hb2)
    clear hb2 hown2
    go_wp2_with fail
    go_at_call 16
    refine (get6_c (HT.out.below HB2.out) hA2.c hc2 (by omega) HG.out).mono ?_
    rintro e w3 ⟨hb3, _, hs3⟩
    obtain ⟨q, rfl, hk3, hq3⟩ := hs3 k rfl
    have HB3 := Lib.hid (below_m HB2.out hb3)
    have HK3 := Lib.hid (HK2.out.below hb3)
    have HQ3 := Lib.hid hk3
    clear hb3 hs3 hk3
    go_wp2_with (first
      | (go_at_call 19; refine (same6_c HK3.out HQ3.out).mono ?_; rintro e w4 ⟨rfl, hb4⟩; have HB4 := Lib.hid (below_m HB3.out hb4); clear hb4)
      | (go_at_call 15; refine (works_c (HT.out.below HB4.out)).mono ?_; rintro e w5 ⟨rfl, hb5⟩))
    go_ret
    exact ⟨rfl, below_m HB4.out hb5⟩
end PackW
end Go.Proofs.YtjllgdlmeoakpaaDoor
