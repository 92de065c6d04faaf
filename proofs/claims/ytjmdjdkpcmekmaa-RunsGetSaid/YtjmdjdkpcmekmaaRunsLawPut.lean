/-
  RunsPut: every row's bytes, and how many runs it has; the row stays.
-/
import Derived.Test.YtjmdjdkpcmekmaaRunsEx
import Derived.Test.YtjmdjdkpcmekmaaRunsRefs
namespace Go.Proofs.Ytjmdjdkpcmekmaa
open Go.RowKit
open Go.Lib (uvarint uvarint_small uvarint_big uvarint_length64 uvarint_pos zigzag)
set_option linter.unusedVariables false
set_option linter.unusedSimpArgs false
namespace RunsW
open BytesW

/-- A row of the call's own whose bytes are turned, one by one: the world is as it was but for that row's block. -/
def Turn (w6 : World) (A : Option Addr) (n B1 B2 : Nat) (wr : World) : Prop :=
  (n = 0 ∧ wr = w6) ∨ ∃ g cs, A = some ⟨g, 0, none⟩ ∧ B1 ≤ g ∧ g < B2 ∧ wr.heap[g]? = some (.cells cs 5 (0, 0)) ∧ (∀ i, i < n → ∃ z : Int, cs[i]? = some (.int .u8 z)) ∧ w6.grownBy wr (some g)
theorem Turn.start {w2 w6 : World} {A : Option Addr} {B1 : Nat} {l : List UInt8} {c : Nat} (h2 : BytesW.Own w2 B1 (.slice A l.length c) l) (hb : Below w2.heap.size w2 w6) : Turn w6 A l.length B1 w2.heap.size w6 := by
  have hlt := World.ownsRow.lt h2
  have h := h2.below hb
  rcases h.2 with ⟨h1, h2⟩ | ⟨g, cap, cur, h1, hB, hg, hn, hc, hs, ht⟩
  · exact .inl ⟨h2, rfl⟩
  · injection h1 with h1 h2 h3
    subst h1
    refine .inr ⟨g, cur, rfl, hB, (hlt g rfl).2, hg, fun i hi => ?_, World.grownBy.refl _ _⟩
    have h4 : (l.map bv)[i]? = some (bv l[i]) := by rw [List.getElem?_map, List.getElem?_eq_getElem hi]; rfl
    rw [← ht, List.getElem?_take] at h4
    split at h4
    · exact ⟨_, by rw [← Array.getElem?_toList]; exact h4⟩
    · cases h4
theorem Turn.cell {w6 wr : World} {A : Option Addr} {n B1 B2 i : Nat} (h : Turn w6 A n B1 B2 wr) (hi : i < n) : ∃ g z, A = some ⟨g, 0, none⟩ ∧ wr.cell? ⟨g, i, none⟩ = some (.int .u8 z) ∧ wr.frozen? ⟨g, i, none⟩ = false ∧ ∀ y, Turn w6 A n B1 B2 (wr.setCell ⟨g, i, none⟩ (.int .u8 y)) := by
  rcases h with ⟨h0, _⟩ | ⟨g, cs, rfl, h1, h2, hg, hc, hgr⟩
  · omega
  · obtain ⟨z, hz⟩ := hc i hi
    refine ⟨g, z, rfl, by rw [cell_of_row wr g i _ _ _ hg]; exact hz, by simp [World.frozen?, hg], fun y => .inr ⟨g, _, rfl, h1, h2, heap_set hg i _, fun k hk => ?_, hgr.trans (grown_set _ _ _ _)⟩⟩
    by_cases e : k = i
    · subst e
      have : k < cs.size := (Array.getElem?_eq_some_iff.1 hz).1
      exact ⟨y, by simp [this]⟩
    · obtain ⟨x, hx⟩ := hc k hk
      exact ⟨x, by rw [Array.getElem?_setIfInBounds_ne (fun h => e h.symm)]; exact hx⟩
/-- What lay below lies as it was. -/
theorem Turn.below {w0 w6 wr : World} {A : Option Addr} {n B1 B2 : Nat} (h : Turn w6 A n B1 B2 wr) (hb : Below w0.heap.size w0 w6) (hB : w0.heap.size ≤ B1) : Below w0.heap.size w0 wr := by
  rcases h with ⟨_, rfl⟩ | ⟨g, cs, rfl, h1, h2, hg, hc, hgr⟩
  · exact hb
  · exact hb.grown hgr hb.size (fun k hk => by injection hk with hk; omega)
/-- Another row of the call's own, laid behind it, lies as it was. -/
theorem Turn.own {w6 wr : World} {A : Option Addr} {n B1 B2 B : Nat} {v : Value} {l : List UInt8} (h : Turn w6 A n B1 B2 wr) (ho : BytesW.Own w6 B v l) (hB : B2 ≤ B) : BytesW.Own wr B v l := by
  rcases h with ⟨_, rfl⟩ | ⟨g, cs, rfl, h1, h2, hg, hc, hgr⟩
  · exact ho
  · unfold BytesW.Own at ho ⊢
    refine ho.kept hgr ?_
    rcases ho.2 with ⟨rfl, _⟩ | ⟨g', cap, cur, rfl, hb, _⟩
    · exact .inl rfl
    · refine .inr fun e => ?_
      have : g' = g := by simpa [Value.ownBlock] using e
      omega

def TurnRel (w6 : World) (A : Option Addr) (n B1 B2 : Nat) (v : Value) (wr : World) : Prop := ∃ j : Nat, v = .int .i64 j ∧ j ≤ n ∧ Turn w6 A n B1 B2 wr

set_option maxRecDepth 100000 in
set_option maxHeartbeats 4000000 in
theorem law_put {w : World} {A : Option Addr} {L : List UInt8} {c : Nat} (hc : L.length ≤ c ∧ c ≤ 9223372036854775807) (hA : AtC w A L) :
    Calls Try.prog 3 #[.slice A L.length c] w fun e w' => e = .returned (.bool true) ∧ Below w.heap.size w w' := by
  obtain ⟨hc1, hc2⟩ := hc
  by_cases hbig : 20000 < L.length
  · have hbig2 : (20000 : Int) < L.length := by omega
    go_enter Try.func3, Try.ntmps3
    go_wp2_with (go_at_call 8; refine (awake_c _).mono ?_; rintro e w1 ⟨rfl, hb1⟩)
    go_ret
    exact ⟨rfl, hb1⟩
  · have hsm : ¬ (20000 : Int) < L.length := by omega
    have HO : Hid (∀ cs, cs = #[] → BytesW.Own (w.alloc (.cells cs 5)) w.heap.size (.slice (some ⟨w.heap.size, 0, none⟩) 0 0) []) := Lib.hid (fun cs h => by
      subst h
      exact World.ownsRow_made w #[] 0 (Nat.le_refl _) (by simp [maxLen]) rfl)
    obtain ⟨k, hk⟩ : ∃ k, (runs L).length = k := ⟨_, rfl⟩
    have HK := Lib.hid hk
    obtain ⟨p, hp⟩ : ∃ p, p = putR L := ⟨_, rfl⟩
    have hpl : p.length ≤ 40000 := by have := putR_len L; rw [hp]; omega
    have HP := Lib.hid hp
    have HPUT : Hid (∀ (w : World) (A : Option Addr) (c : Nat), AtC w A L → L.length ≤ c → Calls Try.prog 9 #[.slice A L.length c] w (Gives w p)) := Lib.hid (fun w A c h hc => by rw [hp]; exact put5_c h hc (by omega))
    have HREF : Hid (∀ (w : World), AtC w A L → Calls Try.prog 10 #[.slice A L.length c] w (Gives w p)) := Lib.hid (fun w h => by rw [hp]; exact r_put_c h (by omega))
    clear hk hp
    go_enter Try.func3, Try.ntmps3
    go_wp2_with ((with_reducible refine at_slot 14 ?_); refine wp_appendC rfl (.tmp 12) (.tmp 13) rfl (l := []) (l2 := L) rfl (HO.out _ rfl) rfl (hA.below (al _ _)) (by simp; omega) (by simp) ?_; intro v1 w1 hown1 hb1)
    rw [List.nil_append] at hown1
    obtain ⟨A1, c1, rfl, hA1, hd1, hm1⟩ := hown1.sl
    have hbb1 : Below w.heap.size w w1 := (al _ _).trans hb1
    have HB1 := Lib.hid hbb1
    clear hb1 hown1 hbb1
    go_wp2_with fail
    go_at_call 9
    refine (HPUT.out _ _ _ hA1.c hd1).mono ?_
    rintro e w2 ⟨v2, rfl, hown2, hb2⟩
    obtain ⟨A2, c2, rfl, hA2, hd2, hm2⟩ := hown2.sl
    have HB12 := Lib.hid hb2
    have hz12 := hb2.size
    clear hb2
    go_wp2_with fail
    go_at_call 9
    refine (HPUT.out _ _ _ (hA1.below HB12.out).c hd1).mono ?_
    rintro e w3 ⟨v3, rfl, hown3, hb3⟩
    obtain ⟨A3, c3, rfl, hA3, hd3, hm3⟩ := hown3.sl
    have HB23 := Lib.hid hb3
    have HB3 := Lib.hid (below_m (below_m HB1.out HB12.out) hb3)
    have hz23 := hb3.size
    clear hb3
    go_wp2_with (first
      | (go_at_call 10; refine (HREF.out _ (hA.below HB3.out)).mono ?_; rintro e w4 ⟨v4, rfl, hown4, hb4⟩; obtain ⟨A4, c4, rfl, hA4, hd4, hm4⟩ := hown4.sl; have HB34 := Lib.hid hb4; have HB4 := Lib.hid (below_m HB3.out hb4); have hA24 := (hA2.below HB23.out).below hb4; have hA14 := ((hA1.below HB12.out).below HB23.out).below hb4; clear hb4)
      | ((with_reducible refine at_slot 21 ?_); refine wp_str rfl (.tmp 20) rfl rfl hA4 ?_)
      | ((with_reducible refine at_slot 23 ?_); refine wp_str rfl (.tmp 22) rfl rfl hA24 ?_)
      | (go_at_call 11; refine (count_c hA14.c hd1 (by omega) HK.out).mono ?_; rintro e w5 ⟨rfl, hb5⟩; have HB45 := Lib.hid hb5; have HB5 := Lib.hid (below_m HB4.out hb5); have hA15 := hA14.below hb5; clear hb5)
      | (go_at_call 12; refine (r_count_c (hA.below HB5.out) (by omega) HK.out).mono ?_; rintro e w6 ⟨rfl, hb6⟩; have HB56 := Lib.hid hb6; have HB6 := Lib.hid (below_m HB5.out hb6); have r35 := run_str w6 c1 (hA15.below hb6); have r37 := run_strC w6 c (hA.below HB6.out); clear hb6))
    have HB46 := Lib.hid (below_m HB45.out HB56.out)
    have HB36 := Lib.hid (below_m HB34.out HB46.out)
    have HB26 := Lib.hid (below_m HB23.out HB36.out)
    have HB16 := Lib.hid (below_m HB12.out HB26.out)
    have HT0 := Lib.hid (Turn.start hown2 HB26.out)
    have HO36 := Lib.hid (hown3.below HB36.out)
    have HA := Lib.hid hA
    have HA1 := Lib.hid hA1
    clear r35 r37 hA14 hA15 hA24 hA4 hown4 hown2 hown3 hA2 hA3 hA hA1
    go_loopw [7] (TurnRel w6 A2 p.length w1.heap.size w2.heap.size) (fun v _ => p.length - (intOf v).toNat)
    case atStart => exact ⟨0, rfl, by omega, HT0.out⟩
    case round =>
      obtain ⟨j, rfl, hj, hT⟩ := hrel
      by_cases hjl : j < p.length
      · obtain ⟨g, z, rfl, g1, g2, hT2⟩ := hT.cell hjl
        have HT2 := Lib.hid hT2
        clear hT hT2
        go_wp2_with fail
        go_roundw
        case rel => exact ⟨j + 1, by go_num, by omega, HT2.out _⟩
        case measure => simp [intOf]; omega
      · have hjl2 : ¬ (j : Int) < p.length := by omega
        have hbw := hT.below (w0 := w) HB6.out HB1.out.size
        have hA3r := own_at (hT.own HO36.out (Nat.le_refl _))
        have r60 := run_str wr c1 (HA1.out.below (hT.below (w0 := w1) HB16.out (Nat.le_refl _)))
        have r62 := run_strC wr c (HA.out.below hbw)
        have HBW := Lib.hid hbw
        clear hT hbw
        go_wp2_with (first
          | ((with_reducible refine at_slot 55 ?_); refine wp_str rfl (.tmp 54) rfl rfl hA3r ?_)
          | (go_at_call 8; refine (awake_c _).mono ?_; rintro e w8 ⟨rfl, hb8⟩))
        go_ret
        exact ⟨rfl, below_m HBW.out hb8⟩
end RunsW
end Go.Proofs.Ytjmdjdkpcmekmaa
