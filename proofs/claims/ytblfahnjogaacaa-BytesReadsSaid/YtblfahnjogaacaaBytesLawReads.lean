/-
  BytesReads: whatever is asked of a reader of any bytes is answered as the document says.
-/
import Derived.Test.YtblfahnjogaacaaBytesAsk
namespace Go.Proofs.Ytblfahnjogaacaa
open Go.RowKit
open Go.Lib (uvarint uvarint_small uvarint_big uvarint_length64 uvarint_pos zigzag)
set_option linter.unusedVariables false
set_option linter.unusedSimpArgs false
namespace BytesW

theorem Own.sl2 {w : World} {B : Nat} {v : Value} {l : List UInt8} (h : Own w B v l) : ∃ A c, v = .slice A l.length c ∧ l.length ≤ c ∧ c ≤ maxLen ∧ ∀ w' : World, (∀ k, B ≤ k → k < w.heap.size → w'.heap[k]? = w.heap[k]?) → At w' A l := by
  have h0 := h
  unfold Own at h
  rcases h.2 with ⟨rfl, hn⟩ | ⟨g, cap, cur, rfl, hB, hg, hn, hc, hs, ht⟩
  · have : l = [] := List.eq_nil_of_length_eq_zero hn
    subst this
    exact ⟨none, 0, rfl, by simp, by simp [maxLen], fun _ _ => At.nil⟩
  · refine ⟨_, cap, rfl, hn, hc, fun w' hk _ => ⟨g, 0, cur, (0, 0), rfl, (hk g hB (lt_of_heap hg)).trans hg, fun i x hx => ?_⟩⟩
    have h1 : (l.map bv)[i]? = some (bv x) := by rw [List.getElem?_map, hx]; rfl
    rw [← ht, List.getElem?_take] at h1
    split at h1
    · rw [Nat.zero_add, ← Array.getElem?_toList]
      exact h1
    · cases h1
/-- All of a reader lies in blocks from B on. -/
def From (B : Nat) (w : World) (p : Nat) (s : St) : Prop := ∀ w' : World, (∀ k, B ≤ k → k < w.heap.size → w'.heap[k]? = w.heap[k]?) → RS w' p s
def Made2 (w : World) (l : List UInt8) (e : Ending) (w' : World) : Prop := ∃ p, e = .returned (.pointer (some ⟨p, 0, none⟩)) ∧ From w.heap.size w' p (l, false) ∧ w.heap.size ≤ p ∧ p < w'.heap.size ∧ Below w.heap.size w w'
theorem newReader2_c {w : World} {A : Option Addr} {l : List UInt8} {c : Nat} (hA : At w A l) (hl : l.length ≤ 1000000) :
    Calls Try.prog 20 #[.slice A l.length c] w (Made2 w l) := by
  go_enter Try.func20, Try.ntmps20
  go_wp2_with fail
  go_at_call 37
  refine (clone_c hA hl).mono ?_
  rintro e w1 ⟨v1, rfl, hown1, hb1⟩
  obtain ⟨A1, c1, rfl, hc1, hc2, hA1⟩ := hown1.sl2
  have hz := hb1.size
  have HA1 := Lib.hid hA1
  clear hA1
  go_wp2_with fail
  go_ret
  refine ⟨w1.heap.size, rfl, fun w' hk => ⟨A1, c1, ?_, HA1.out w' (fun k h1 h2 => ?_), hc1, hc2, hl⟩, hz, by simp, hb1.trans ((Below.refl _ w1).alloc (Nat.le_refl _) _ |>.mono hz)⟩
  · exact (hk w1.heap.size hz (by simp)).trans (heap_alloc_new w1 _)
  · exact (hk k h1 (by simp; omega)).trans (Below.heap_alloc w1 _ k h2)

def Flip (w2 : World) (g n : Nat) (wr : World) : Prop := w2.grownBy wr (some g) ∧ ∃ cs, wr.heap[g]? = some (.cells cs 5 (cs.size, cs.size + 1)) ∧ n ≤ cs.size ∧ ∀ i, i < n → ∃ x : Int, 0 ≤ x ∧ x < 256 ∧ cs[i]? = some (.int .u8 x)
theorem Flip.at_ {w2 wr : World} {g n j : Nat} (h : Flip w2 g n wr) (hj : j < n) : ∃ x : Int, 0 ≤ x ∧ x < 256 ∧ wr.cell? ⟨g, j, none⟩ = some (.int .u8 x) ∧ wr.frozen? ⟨g, j, none⟩ = false ∧ ∀ y : Int, 0 ≤ y → y < 256 → Flip w2 g n (wr.setCell ⟨g, j, none⟩ (.int .u8 y)) := by
  obtain ⟨hg, cs, hcs, hn, hc⟩ := h
  obtain ⟨x, h0, h1, hx⟩ := hc j hj
  refine ⟨x, h0, h1, (cell_of_row wr g j _ _ _ hcs).trans hx, ?_, fun y hy0 hy1 => ⟨?_, cs.setIfInBounds j (.int .u8 y), ?_, by simpa using hn, fun i hi => ?_⟩⟩
  · simp [World.frozen?, hcs]
    omega
  · exact hg.trans (grown_set _ _ _ _)
  · rw [heap_set hcs]
    simp
  · by_cases e : j = i
    · subst e
      exact ⟨y, hy0, hy1, by rw [Array.getElem?_setIfInBounds_self_of_lt (by omega)]⟩
    · obtain ⟨z, hz0, hz1, hz⟩ := hc i hi
      exact ⟨z, hz0, hz1, by rw [Array.getElem?_setIfInBounds_ne e]; exact hz⟩
def FlipRel (w2 : World) (g n : Nat) (i : Value) (wr : World) : Prop := ∃ j : Nat, i = .int .i64 j ∧ j ≤ n ∧ Flip w2 g n wr
def ReadsRel (w : World) (p q n : Nat) (i : Value) (wr : World) : Prop := ∃ (j : Nat) (st : St), i = .int .i64 j ∧ j ≤ n ∧ RS wr p st ∧ RF wr q st ∧ Below w.heap.size w wr
set_option maxRecDepth 100000 in
set_option maxHeartbeats 1000000 in
theorem law_reads {s : List UInt8} {A : Option Addr} {c : Nat} {xs : List (Int × Int)} (hs : s.length ≤ 9223372036854775807) (hx : xs.length ≤ 9223372036854775807) (w : World) (hA : AskAt w A xs) :
    Calls Try.prog 4 #[.string ⟨s.toArray⟩, .slice A xs.length c] w fun e w' => e = .returned (.bool true) ∧ Below w.heap.size w w' := by
  obtain ⟨l, hl⟩ : ∃ l, l = s.take 3000 := ⟨_, rfl⟩
  have hll : l.length ≤ 3000 := by rw [hl]; simp; omega
  have HL := Lib.hid hl
  have HA := Lib.hid hA
  have es : (⟨l.toArray⟩ : ByteArray).size = l.length := by simp [ByteArray.size]
  clear hl hA
  go_enter Try.func4, Try.ntmps4
  go_wp2_with fail
  go_at_call 10
  refine (cut_c (n := 3000) hs (by omega) _).mono ?_
  rintro e w' ⟨rfl, rfl⟩
  rw [← HL.out]
  go_wp2_with ((with_reducible refine at_slot 13 ?_); refine wp_bytes rfl (.tmp 12) rfl (l := l) rfl ?_ (by simp only [maxLen]; omega); intro c1 w1 cs1 hcs1 k1 k2 k3 k4 hb1 hz1)
  have hA1 := at_bytes hcs1 k4
  have HCS := Lib.hid hcs1
  have HK4 := Lib.hid k4
  have HB1 := Lib.hid hb1
  have hzz1 := hb1.size
  clear hb1 k4 hcs1
  go_wp2_with fail
  go_at_call 20
  refine (newReader2_c hA1 (by omega)).mono ?_
  rintro e w2 ⟨p, rfl, hfr, hp2, hp3, hb2⟩
  have HB2 := Lib.hid (below_more HB1.out hb2)
  have HFR := Lib.hid hfr
  have hp : w.heap.size ≤ p := by omega
  have hF0 : Flip w2 w.heap.size l.length w2 := ⟨World.grownBy.refl _ _, cs1, (hb2.block _ (by omega)).trans HCS.out, k3, fun i hi => by
    have h1 := HK4.out i (l[i]) (List.getElem?_eq_getElem hi)
    have h2 := (l[i]).toNat_lt
    exact ⟨_, by omega, by omega, h1⟩⟩
  clear hb2 hfr
  go_wp2_with fail
  go_loopw [7] (FlipRel w2 w.heap.size l.length) (fun i _ => l.length - (intOf i).toNat)
  case atStart => exact ⟨0, rfl, by omega, hF0⟩
  case round =>
    obtain ⟨j, rfl, hj, hF⟩ := hrel
    by_cases hjl : j < l.length
    · obtain ⟨x, hx0, hx1, g1, g2, hset⟩ := hF.at_ hjl
      have HSET := Lib.hid hset
      clear hset
      go_wp2_with fail
      go_roundw
      case rel => exact ⟨j + 1, by go_num, by omega, HSET.out _ (by omega) (by omega)⟩
      case measure => simp [intOf]; omega
    · have hg := hF.1
      have hzr := hg.size
      have hs3 : RS wr p (l, false) := HFR.out wr (fun k h1 h2 => hg.block k h2 (fun e => by injection e with e; omega))
      have HB3 := Lib.hid (HB2.out.grown hg (by omega) (fun k hk => by injection hk with hk; omega))
      have hz3 := HB3.out.size
      clear hg hF hF0
      go_wp2_with ((with_reducible refine at_slot 31 ?_); refine wp_bytes rfl (.tmp 30) rfl (l := l) rfl ?_ (by simp only [maxLen]; omega); intro c4 w4 cs4 hcs4 m1 m2 m3 m4 hb4 hz4)
      have hA4 := at_bytes hcs4 m4
      have hs4 := hs3.below hb4
      have HB4 := Lib.hid (below_more HB3.out hb4)
      clear hb4 m4 hcs4
      have hz44 := HB4.out.size
      have hb5 : Below w4.heap.size w4 (w4.alloc (.cells #[.slice (some ⟨wr.heap.size, 0, none⟩) l.length c4, .bool false] 42)) := (Below.refl _ _).alloc (Nat.le_refl _) _
      have hq5 : RF (w4.alloc (.cells #[.slice (some ⟨wr.heap.size, 0, none⟩) l.length c4, .bool false] 42)) w4.heap.size (l, false) := ⟨_, c4, heap_alloc_new _ _, hA4.below hb5, m1, m2, by show l.length ≤ 1000000; omega⟩
      have hs5 := hs4.below hb5
      have HB5 := Lib.hid (below_more HB4.out hb5)
      clear hb5
      go_wp2_with fail
      go_loopw [9] (ReadsRel w p w4.heap.size xs.length) (fun i _ => xs.length - (intOf i).toNat)
      case atStart => exact ⟨0, (l, false), rfl, by omega, hs5, hq5, HB5.out⟩
      case round =>
        obtain ⟨j2, st, rfl, hj2, hsr, hqr, hbr⟩ := hrel
        have HB6 := Lib.hid hbr
        have hzr6 := hbr.size
        clear hbr
        by_cases hgo : j2 < xs.length ∧ j2 < 60
        · obtain ⟨hj3, hj4⟩ := hgo
          obtain ⟨b, o, W, N, hAe, hN0, hN1, hW0, hW1, g1, g2, g3⟩ := (HA.out.below HB6.out).at_ hj3
          subst hAe
          obtain ⟨r, hr⟩ : ∃ r, rErr (ask st W N) = r := ⟨_, rfl⟩
          have HR := Lib.hid hr
          clear hr
          go_wp2_with (first
            | (go_at_call 21; refine (ask_c hsr hqr hN0 hN1).mono ?_; rintro e w7 ⟨rfl, hs7, hq7, hz7, hb7⟩)
            | (go_at_call 22; refine (left_c hs7).mono ?_; rintro e w' ⟨rfl, rfl⟩)
            | (go_at_call 23; refine (r_left_c hq7).mono ?_; rintro e w' ⟨rfl, rfl⟩)
            | (go_at_call 24; refine (err_c hs7 HR.out).mono ?_; rintro e w' ⟨rfl, rfl⟩)
            | (go_at_call 25; refine (r_err_c hq7 HR.out).mono ?_; rintro e w' ⟨rfl, rfl⟩))
          go_roundw
          case rel => exact ⟨j2 + 1, _, by go_num, by omega, hs7, hq7, HB6.out.trans (hb7 _ hp (by omega) (by omega))⟩
          case measure => simp [intOf]; omega
        · have hor : xs.length ≤ j2 ∨ 60 ≤ j2 := by omega
          clear hgo
          rcases hor with hor | hor
          · go_wp2_with (go_at_call 19; refine (works_c _).mono ?_; rintro e w8 ⟨rfl, hb8⟩)
            go_ret
            exact ⟨rfl, below_more HB6.out hb8⟩
          · by_cases hj5 : j2 < xs.length
            all_goals
              go_wp2_with (go_at_call 19; refine (works_c _).mono ?_; rintro e w8 ⟨rfl, hb8⟩)
              go_ret
              exact ⟨rfl, below_more HB6.out hb8⟩
end BytesW
end Go.Proofs.Ytblfahnjogaacaa
