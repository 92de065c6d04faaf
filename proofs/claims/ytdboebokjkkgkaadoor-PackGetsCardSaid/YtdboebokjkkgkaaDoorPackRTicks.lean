/-
  The reference reads ticks.
-/
import Derived.Test.YtdboebokjkkgkaaDoorPackRows
import Derived.Test.YtdboebokjkkgkaaDoorBytesKeepR
import Derived.BigQuiet
namespace Go.Proofs.YtdboebokjkkgkaaDoor
open Go.RowKit
set_option linter.unusedVariables false
set_option linter.unusedSimpArgs false
namespace PackW
open BytesW RunsW

theorem calls_namedT {P : Program} {f : Nat} {args : Array Value} {Q : Ending → World → Prop} {W : World} (S : World → Prop) (h : S W) (k : ∀ W', S W' → Calls P f args W' Q) : Calls P f args W Q := k W h
theorem OwnP.overF {α : Type} {f : α → Value × Value} {E : TypeId} {w w' : World} {B p : Nat} {v : Value} {l : List α} {s : St} (hE : E ≠ 107) (h : OwnP f E w B v l) (hp : RF w p s) (hg : w.grownBy w' (some p)) : OwnP f E w' B v l := by
  obtain ⟨A, c, hp⟩ := hp
  unfold OwnP at h ⊢
  refine h.kept hg (.inr fun e => ?_)
  rcases h.2 with ⟨rfl, _⟩ | ⟨g, cap, cur, rfl, _, hgb, _⟩
  · simp [Value.ownBlock] at e
  · obtain rfl : g = p := by simpa [Value.ownBlock] using e
    rw [hp.1] at hgb
    injection hgb with hgb
    injection hgb with _ h2
    exact absurd h2.symm hE
theorem RFK.drewN {w0 w : World} {p : Nat} {s : St} (h : RFK w0 w p s) : ∃ v0, w.cell? ⟨p, 0, none⟩ = some v0 ∧ w.cell? ⟨p, 1, none⟩ = some (.bool s.2) := by
  obtain ⟨A, c, h, _⟩ := h
  obtain ⟨c0, c1, f0, f1⟩ := h.cell
  exact ⟨_, c0, c1⟩
theorem getTR_bad {d m1 m2 : Nat} {n : Int} {s s1 s2 : St} (h1 : rNum s = (m1, s1)) (h2 : rNum s1 = (m2, s2)) (h : 4096 < m1 ∨ 2199023255552 < m2) : getTR (d + 1) n s = none := by
  rw [getTR, h1]
  simp only [h2]
  rw [if_pos h]
theorem getTR_ok {d m1 m2 : Nat} {n : Int} {s s1 s2 : St} (h1 : rNum s = (m1, s1)) (h2 : rNum s1 = (m2, s2)) (h : ¬ (4096 < m1 ∨ 2199023255552 < m2)) : getTR (d + 1) n s = (getTR d (n + 1 + m1) s2).map fun x => ((n + 1 + m1, (m2 : Int)) :: x.1, x.2) := by
  rw [getTR, h1]
  simp only [h2]
  rw [if_neg h]
/-- What the reference's ticks answers. -/
def RTksP (w : World) (R : List Tick × Bool) (e : Ending) (w' : World) : Prop := ∃ v, e = .returned (.tuple #[v, .bool R.2]) ∧ OwnP tkv 55 w' w.heap.size v R.1 ∧ R.1.length ≤ 4096 ∧ Below w.heap.size w w'
def TickRelR (w2 : World) (p C : Nat) (s0 : St) (v a i : Value) (wr : World) : Prop :=
  ∃ (k : Nat) (n : Int) (lt : List Tick) (s : St), OwnP tkv 55 wr w2.heap.size v lt ∧ a = .int .i64 n ∧ i = .int .u64 k ∧ k ≤ C ∧ lt.length = k ∧ -1 ≤ n ∧ n ≤ 5000 * (k : Int) ∧ RFK w2 wr p s ∧ w2.grownBy wr (some p) ∧ getTR C (-1) s0 = (getTR (C - k) n s).map fun x => (lt ++ x.1, x.2)

set_option maxRecDepth 100000 in
set_option maxHeartbeats 4000000 in
theorem rticks_c {w : World} {A : Option Addr} {b : List UInt8} {c : Nat} {R : List Tick × Bool} (hA : At w A b) (hc : b.length ≤ c) (hm : c ≤ maxLen) (hl : b.length ≤ 1000000) (hR : tkRef b = R) :
    Calls Tryd.prog 39 #[.slice A b.length c] w (RTksP w R) := by
  have HR := Lib.hid hR
  obtain ⟨⟨C, s0⟩, hq0⟩ : ∃ q, rNum (b, false) = q := ⟨_, rfl⟩
  have HQ0 := Lib.hid hq0
  have hC64 : C < 18446744073709551616 := by
    have h := rNum_lt (b, false)
    rw [hq0] at h
    exact h
  obtain ⟨CI, hCI⟩ : ∃ CI : Int, CI = (C : Int) := ⟨_, rfl⟩
  have HN0 : Hid (∀ w0 w : World, ∀ p, RFK w0 w p (b, false) → Calls Tryd.prog 50 #[.pointer (some ⟨p, 0, none⟩)] w (RNumK .u64 w0 w p CI s0)) := Lib.hid (fun w0 w p h => by rw [hCI]; exact rnum_k h hq0)
  obtain ⟨p, hp⟩ : ∃ p, p = w.heap.size := ⟨_, rfl⟩
  have HP := Lib.hid hp
  have HS0 : Hid (RF (w.alloc (.cells #[.slice A b.length c, .bool false] 107)) w.heap.size (b, false)) := Lib.hid ⟨A, c, heap_alloc_new _ _, hA.below ((Below.refl _ _).alloc (Nat.le_refl _) _), hc, hm, hl⟩
  have HB0 : Hid (Below w.heap.size w (w.alloc (.cells #[.slice A b.length c, .bool false] 107))) := Lib.hid ((Below.refl _ _).alloc (Nat.le_refl _) _)
  have HCI := Lib.hid hCI
  have hCI0 : 0 ≤ CI := by omega
  have hCI1 : CI < 18446744073709551616 := by omega
  clear hR hq0 hCI hA hp
  go_enter Tryd.func39, Tryd.ntmps39
  go_wp2_with fail
  go_at_call 50
  refine calls_namedT (fun W => RF W w.heap.size (b, false) ∧ Below w.heap.size w W) ⟨HS0.out, HB0.out⟩ ?_
  rintro w2 ⟨hs2, hb2⟩
  refine (HN0.out _ _ _ hs2.rfk).mono ?_
  rintro e w3 ⟨rfl, hg3, hs3⟩
  have hz2 := hb2.size
  have hp1 : w.heap.size ≤ p := by have := HP.out; omega
  simp only [← HP.out] at hs2 hg3 hs3 ⊢
  have HS2 := Lib.hid hs2
  have HB2 := Lib.hid hb2
  have HG3 := Lib.hid hg3
  have HS3 := Lib.hid hs3
  clear hs2 hb2 hg3 hs3
  by_cases hbig : 4096 < CI
  · have HRR : Hid (R = ([], false)) := Lib.hid (by
      rw [← HR.out, tkRef, HQ0.out]
      simp only
      rw [if_pos (by have := HCI.out; omega)])
    go_wp2_with fail
    go_ret2
    rw [HRR.out]
    exact ⟨_, rfl, OwnP.nil _ _ _, by simp, below_n2 HB2.out HG3.out hp1⟩
  · have hC40 : C ≤ 4096 := by have := HCI.out; omega
    have HRR : Hid (R = match getTR C (-1) s0 with | none => ([], false) | some (l, s) => (l, !s.2)) := Lib.hid (by
      rw [← HR.out, tkRef, HQ0.out]
      simp only
      rw [if_neg (by omega)]
      cases getTR C (-1) s0 <;> rfl)
    have HCI2 := Lib.hid (show CI = (C : Int) from HCI.out)
    go_wp2_with fail
    go_loopw [6, 7, 8] (TickRelR w2 p C s0) (fun _ _ v _ => C - cnt v)
    case atStart => exact ⟨0, -1, [], s0, OwnP.nil _ _ _, rfl, rfl, by omega, rfl, by omega, by omega, HS3.out, HG3.out, by simp⟩
    case round =>
      obtain ⟨k, n, lt, s, hown, rfl, rfl, hk, hlt, hn0, hn, hs, hgr, hget⟩ := hrel
      have HBW : Hid (Below w.heap.size w wr) := Lib.hid (below_n2 HB2.out hgr hp1)
      have HO := Lib.hid hown
      have HS := Lib.hid hs
      have HGR := Lib.hid hgr
      have HGET := Lib.hid hget
      have HLT := Lib.hid hlt
      clear hown hs hgr hget hlt
      by_cases hkC : k < C
      · have hkI : (k : Int) < CI := by have := HCI2.out; omega
        obtain ⟨⟨m1, s1⟩, h1⟩ : ∃ q, rNum s = q := ⟨_, rfl⟩
        obtain ⟨⟨m2, s2⟩, h2⟩ : ∃ q, rNum s1 = q := ⟨_, rfl⟩
        have l1 : m1 < 18446744073709551616 := by have h := rNum_lt s; rw [h1] at h; exact h
        have l2 : m2 < 18446744073709551616 := by have h := rNum_lt s1; rw [h2] at h; exact h
        obtain ⟨M1, e1⟩ : ∃ M : Int, M = (m1 : Int) := ⟨_, rfl⟩
        obtain ⟨M2, e2⟩ : ∃ M : Int, M = (m2 : Int) := ⟨_, rfl⟩
        have HN1 : Hid (∀ w : World, RFK w2 w p s → Calls Tryd.prog 50 #[.pointer (some ⟨p, 0, none⟩)] w (RNumK .u64 w2 w p M1 s1)) := Lib.hid (fun w h => by rw [e1]; exact rnum_k h h1)
        have HN2 : Hid (∀ w : World, RFK w2 w p s1 → Calls Tryd.prog 50 #[.pointer (some ⟨p, 0, none⟩)] w (RNumK .u64 w2 w p M2 s2)) := Lib.hid (fun w h => by rw [e2]; exact rnum_k h h2)
        have H1 := Lib.hid h1
        have H2 := Lib.hid h2
        have a1 : 0 ≤ M1 := by omega
        have a2 : 0 ≤ M2 := by omega
        have b1 : M1 < 18446744073709551616 := by omega
        have b2 : M2 < 18446744073709551616 := by omega
        have E1 := Lib.hid e1
        have E2 := Lib.hid e2
        obtain ⟨d, hd⟩ : ∃ d, C - k = d + 1 := ⟨C - k - 1, by omega⟩
        have HD := Lib.hid hd
        clear h1 h2 l1 l2 e1 e2 hd
        go_wp2_with fail
        go_at_call 50
        refine (HN1.out _ HS.out).mono ?_
        rintro e w4 ⟨rfl, hg4, hs4⟩
        go_wp2_with fail
        go_at_call 50
        refine (HN2.out _ hs4).mono ?_
        rintro e w5 ⟨rfl, hg5, hs5⟩
        by_cases hbad : 4096 < M1 ∨ 2199023255552 < M2
        · have HNO : Hid (R = ([], false)) := Lib.hid (by
            rw [HRR.out, HGET.out, HD.out, getTR_bad H1.out H2.out (by have := E1.out; have := E2.out; omega)]
            rfl)
          by_cases c1 : 4096 < M1
          · clear hbad
            have c1' : decide (4096 < M1) = true := by simpa using c1
            go_wp2_with fail
            go_ret2
            rw [HNO.out]
            exact ⟨_, rfl, OwnP.nil _ _ _, by simp, below_n (below_n (HBW.out) hp1 hg4) hp1 hg5⟩
          · have c1' : decide (4096 < M1) = false := by simpa using c1
            have c3 : 2199023255552 < M2 := by omega
            clear hbad
            go_wp2_with fail
            go_ret2
            rw [HNO.out]
            exact ⟨_, rfl, OwnP.nil _ _ _, by simp, below_n (below_n (HBW.out) hp1 hg4) hp1 hg5⟩
        · have c1' : decide (4096 < M1) = false := by simp; omega
          have c3' : decide (2199023255552 < M2) = false := by simp; omega
          have hM1 : M1 ≤ 4096 := by omega
          have hM2 : M2 ≤ 2199023255552 := by omega
          have HG1 : Hid (getTR C (-1) s0 = (getTR (C - (k + 1)) (n + 1 + M1) s2).map fun x => ((lt ++ [(n + 1 + M1, M2)]) ++ x.1, x.2)) := Lib.hid (by
            rw [HGET.out, HD.out, getTR_ok H1.out H2.out (by have := E1.out; have := E2.out; omega), E1.out, E2.out, show C - (k + 1) = d by have := HD.out; omega]
            simp [Option.map_map, Function.comp_def])
          have HO5 := Lib.hid ((HO.out.overF (by decide) HS.out.rf hg4).overF (by decide) hs4.rf hg5)
          have hz5 := (HGR.out.trans (hg4.trans hg5)).size
          have hw1 : IntKind.i64.wrap (n + 1) = n + 1 := by rw [IntKind.wrap_i64]; omega
          have hw2 : IntKind.i64.wrap M1 = M1 := by rw [IntKind.wrap_i64]; omega
          have hw3 : IntKind.i64.wrap (n + 1 + M1) = n + 1 + M1 := by rw [IntKind.wrap_i64]; omega
          have hw4 : IntKind.i64.wrap M2 = M2 := by rw [IntKind.wrap_i64]; omega
          clear hbad
          go_wp2_with ((with_reducible refine at_slot 44 ?_); refine wp_pushP rfl (.tmp 38) (.tmp 43) rfl underTicks infoTick rfl (by omega) one_tk w5 _ _ rfl rfl HO5.out (n + 1 + M1, M2) rfl rfl rfl (by have := HLT.out; omega) hz5 ?_; intro v6 w6 hown6 hb6)
          have hs6 := (RFK.over hs5 HS2.out (HGR.out.trans (hg4.trans hg5)) hb6)
          go_roundw
          case rel => exact ⟨k + 1, _, _, s2, hown6, rfl, by go_num, by omega, by simp [HLT.out], by omega, by omega, hs6.1, hs6.2, HG1.out⟩
          case measure => simp [cnt]; omega
      · have hkI : ¬ (k : Int) < CI := by have := HCI2.out; omega
        obtain ⟨tA, tc, rfl, _⟩ := HO.out.pairs
        have HG0 : Hid (getTR C (-1) s0 = some (lt, s)) := Lib.hid (by rw [HGET.out, show C - k = 0 by omega, getTR]; simp)
        have HY : Hid (R = (lt, !s.2)) := Lib.hid (by rw [HRR.out, HG0.out])
        obtain ⟨v0, c0, c1⟩ := RFK.drewN HS.out
        obtain ⟨sb, hsb⟩ : ∃ sb, sb = s.2 := ⟨_, rfl⟩
        rw [← hsb] at c1
        have HSB := Lib.hid hsb
        clear hsb
        go_wp2_with fail
        go_quiet (fail)
        go_wp2
        go_ret2
        rw [HY.out]
        exact ⟨_, by first | rfl | (rw [HSB.out]; rfl), (HO.out.below (BaseP.below_drewN (Below.refl _ _) _)).mono hz2, by have := HLT.out; simp only; omega, BaseP.below_drewN HBW.out _⟩
end PackW
end Go.Proofs.YtdboebokjkkgkaaDoor
