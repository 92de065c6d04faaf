/-
  Readers of the reference, once more: of what is left is known, too, that it lies where it lay in an earlier world.
-/
import Derived.Test.YtdboebokjkkgkaaDoorBytesKeep
namespace Go.Proofs.YtdboebokjkkgkaaDoor
open Go.RowKit
open Go.Lib (uvarint uvarint_small uvarint_big uvarint_length64 uvarint_pos zigzag)
set_option linter.unusedVariables false
set_option linter.unusedSimpArgs false
namespace BytesW

/-- A reader of the reference whose bytes lie where they lay in w0. -/
def RFK (w0 w : World) (p : Nat) (s : St) : Prop := ∃ A c, Rfr w p A s.1 c s.2 ∧ At w0 A s.1
theorem RFK.rf {w0 w : World} {p : Nat} {s : St} (h : RFK w0 w p s) : RF w p s := by
  obtain ⟨A, c, h, _⟩ := h
  exact ⟨A, c, h⟩
theorem RF.rfk {w : World} {p : Nat} {s : St} (h : RF w p s) : RFK w w p s := by
  obtain ⟨A, c, h⟩ := h
  exact ⟨A, c, h, h.2.1⟩
theorem RFK.below {w0 w w' : World} {p : Nat} {s : St} (h : RFK w0 w p s) (hb : Below w.heap.size w w') : RFK w0 w' p s := by
  obtain ⟨A, c, h, hA⟩ := h
  exact ⟨A, c, h.below hb, hA⟩
theorem RFK.over {w0 w w' : World} {p : Nat} {s s0 : St} (h : RFK w0 w p s) (hp : RF w0 p s0) (h0 : w0.grownBy w (some p)) (hb : Below w0.heap.size w w') : RFK w0 w' p s ∧ w0.grownBy w' (some p) := by
  obtain ⟨A, c, h, hA⟩ := h
  have hlt := hp.lt
  obtain ⟨A0, c0, hp⟩ := hp
  have hg : w0.grownBy w' (some p) := ⟨hb.os.trans h0.os, hb.tape.trans h0.tape, hb.output.trans h0.output, Nat.le_trans h0.size hb.size, fun k hk hne => (hb.block k hk).trans (h0.block k hk hne)⟩
  exact ⟨⟨A, c, ⟨(hb.block p hlt).trans h.1, hA.grown hp.1 (by decide) hg, h.2.2⟩, hA⟩, hg⟩
def RNextK (w0 w : World) (p : Nat) (r : List UInt8 × St) (e : Ending) (w' : World) : Prop :=
  ∃ A c, e = .returned (.slice A r.1.length c) ∧ At w' A r.1 ∧ r.1.length ≤ c ∧ c ≤ maxLen ∧ w.grownBy w' (some p) ∧ RFK w0 w' p r.2
def RNumK (k : IntKind) (w0 w : World) (p : Nat) (a : Int) (s : St) (e : Ending) (w' : World) : Prop := e = .returned (.int k a) ∧ w.grownBy w' (some p) ∧ RFK w0 w' p s

theorem step_k {w0 w : World} {p : Nat} {l : List UInt8} {n : Int} {r : List UInt8 × St} (h : RFK w0 w p (l, false)) (hr : rStep (l, false) n = r) :
    Calls Tryd.prog 66 #[.pointer (some ⟨p, 0, none⟩), .int .i64 n] w (RNextK w0 w p r) := by
  subst hr
  obtain ⟨A, c, h, h0A⟩ := h
  obtain ⟨c0, c1, f0, f1⟩ := h.cell
  dsimp only at c0 c1 h0A
  have H := Lib.hid h
  have H0 := Lib.hid h0A
  have hl1 := h.2.2.1
  have hl2 := h.2.2.2.1
  have hl3 := h.2.2.2.2
  simp only at hl1 hl2 hl3
  unfold maxLen at hl2
  have HA := Lib.hid h.2.1
  clear h h0A
  by_cases hn : 0 ≤ n ∧ n ≤ (l.length : Int)
  · have HR := Lib.hid (show rStep (l, false) n = (l.take n.toNat, (l.drop n.toNat, false)) by simp [rStep, hn])
    obtain ⟨hn0, hn1⟩ := hn
    obtain ⟨k, rfl⟩ := Int.eq_ofNat_of_zero_le hn0
    have hk : k ≤ l.length := by omega
    have e1 : (l.take k).length = k := by simp; omega
    have E1 := Lib.hid e1
    have hkl : ([] : List UInt8).length + (l.take k).length ≤ 4000000 := by rw [e1]; simp; omega
    clear hn0 e1
    rw [HR.out]
    go_enter Tryd.func66, Tryd.ntmps66
    go_wp2_with (first
      | ((with_reducible refine at_slot 26 ?_); refine wp_upto rfl (.tmp 24) (.tmp 25) rfl rfl rfl (by omega) (by omega) hl1 ?_)
      | (at_builtin; refine wp_append rfl (.tmp 20) (.tmp 26) rfl (l := []) (l2 := l.take k) (c := c) rfl (Own.nil _ w.heap.size) ?_ (HA.out.take k) hkl (Nat.le_refl _) ?_; (rw [E1.out]; rfl); intro v2 w2 hown2 hb2; have hc := Rfr.cell (H.out.below hb2); obtain ⟨d0, d1, g0, g1⟩ := hc)
      | ((with_reducible refine at_slot 34 ?_); refine wp_from2 rfl (.tmp 32) (.tmp 33) rfl (k := k) rfl rfl (HA.out.below hb2) H0.out hk hl1 ?_; intro A2 hA2 hA20))
    obtain ⟨A3, c3, rfl, hA3, hc3, hc33⟩ := hown2.sl
    go_ret
    have e2 : (l.drop k).length = l.length - k := by simp
    have hs := (H.out.below hb2).set0 (A' := A2) (l' := l.drop k) (c' := c - k) hA2 (by omega) (by unfold maxLen; omega) (by omega)
    rw [e2] at hs
    exact ⟨A3, c3, rfl, hA3.grown (H.out.below hb2).1 (by decide) (grown_set _ _ _ _), hc3, hc33, below_grown hb2 (grown_set _ _ _ _), ⟨_, _, hs, hA20⟩⟩
  · have HR := Lib.hid (show rStep (l, false) n = ([], (l, true)) by simp only [rStep]; rw [if_neg (by simp), if_neg hn])
    rw [HR.out]
    by_cases h0 : n < 0
    · clear hn
      go_enter Tryd.func66, Tryd.ntmps66
      go_wp2_with fail
      go_ret
      exact ⟨none, 0, rfl, At.nil, by simp, by simp [maxLen], grown_set _ _ _ _, ⟨_, _, H.out.set1 true, H0.out⟩⟩
    · have h1 : (l.length : Int) < n := by omega
      clear hn
      go_enter Tryd.func66, Tryd.ntmps66
      go_wp2_with fail
      go_ret
      exact ⟨none, 0, rfl, At.nil, by simp, by simp [maxLen], grown_set _ _ _ _, ⟨_, _, H.out.set1 true, H0.out⟩⟩

theorem rnum_k {w0 w : World} {p : Nat} {s : St} {r : Nat × St} (h : RFK w0 w p s) (hr : rNum s = r) :
    Calls Tryd.prog 50 #[.pointer (some ⟨p, 0, none⟩)] w (RNumK .u64 w0 w p r.1 r.2) := by
  subst hr
  obtain ⟨l, b⟩ := s
  have HS := Lib.hid h
  obtain ⟨A, c, h, h0A⟩ := h
  have H := Lib.hid h
  obtain ⟨c0, c1, f0, f1⟩ := h.cell
  dsimp only at c0 c1
  have hl := h.2.2.2.2
  dsimp only at hl
  clear h h0A
  cases b
  · have HA := Lib.hid H.out.2.1
    obtain ⟨q, hq⟩ : ∃ q, pn l 0 0 = q := ⟨_, rfl⟩
    have HQ := Lib.hid hq
    rcases q with _ | ⟨m, k⟩
    · have HST := Lib.hid (show rStep (l, false) (-1) = ([], (l, true)) by simp [rStep])
      rw [rNum_none hq]
      clear hq
      go_enter Tryd.func50, Tryd.ntmps50
      go_wp2_with (first
        | (go_at_call 49; refine (first_no HA.out hl HQ.out).mono ?_; rintro e w1 ⟨rfl, hb1⟩)
        | (go_at_call 66; refine (step_k (HS.out.below hb1) HST.out).mono ?_; rintro e w2 ⟨A1, d1, rfl, hA1, h1, h2, hg1, hs1⟩))
      go_ret
      exact ⟨rfl, below_grown hb1 hg1, hs1⟩
    · obtain ⟨hk1, hk2, hk3⟩ := pn_le hq
      have e := rNum_some hq
      rw [e]
      clear e
      have HST := Lib.hid (show rStep (l, false) (k : Int) = (l.take k, (l.drop k, false)) by simp [rStep]; omega)
      have hne : ((k : Int) == 0) = false := by simp; omega
      clear hq
      go_enter Tryd.func50, Tryd.ntmps50
      go_wp2_with (first
        | (go_at_call 49; refine (first_yes HA.out hl HQ.out).mono ?_; rintro e w1 ⟨rfl, hb1⟩)
        | (go_at_call 66; refine (step_k (HS.out.below hb1) HST.out).mono ?_; rintro e w2 ⟨A1, d1, rfl, hA1, h1, h2, hg1, hs1⟩))
      go_ret
      exact ⟨rfl, below_grown hb1 hg1, hs1⟩
  · have HR := Lib.hid (show rNum (l, true) = (0, (l, true)) by simp [rNum])
    rw [HR.out]
    go_enter Tryd.func50, Tryd.ntmps50
    go_wp2_with fail
    go_ret
    exact ⟨rfl, World.grownBy.refl _ _, HS.out⟩
end BytesW
end Go.Proofs.YtdboebokjkkgkaaDoor
