/-
  What is asked of a reader of the reference.
-/
import Derived.Test.YtblfahnjogaacaaBytesNext
import Derived.Test.YtblfahnjogaacaaBytesFirst
namespace Go.Proofs.Ytblfahnjogaacaa
open Go.RowKit
open Go.Lib (uvarint uvarint_small uvarint_big uvarint_length64 uvarint_pos zigzag)
set_option linter.unusedVariables false
set_option linter.unusedSimpArgs false
namespace BytesW

def RNextP (w : World) (p : Nat) (r : List UInt8 × St) (e : Ending) (w' : World) : Prop :=
  ∃ A c, e = .returned (.slice A r.1.length c) ∧ At w' A r.1 ∧ r.1.length ≤ c ∧ c ≤ maxLen ∧ w.grownBy w' (some p) ∧ RF w' p r.2
theorem step_c {w : World} {p : Nat} {l : List UInt8} {n : Int} {r : List UInt8 × St} (h : RF w p (l, false)) (hr : rStep (l, false) n = r) :
    Calls Try.prog 49 #[.pointer (some ⟨p, 0, none⟩), .int .i64 n] w (RNextP w p r) := by
  subst hr
  obtain ⟨A, c, h⟩ := h
  obtain ⟨c0, c1, f0, f1⟩ := h.cell
  dsimp only at c0 c1
  have H := Lib.hid h
  have hl1 := h.2.2.1
  have hl2 := h.2.2.2.1
  have hl3 := h.2.2.2.2
  simp only at hl1 hl2 hl3
  unfold maxLen at hl2
  have HA := Lib.hid h.2.1
  clear h
  by_cases hn : 0 ≤ n ∧ n ≤ (l.length : Int)
  · have HR := Lib.hid (show rStep (l, false) n = (l.take n.toNat, (l.drop n.toNat, false)) by simp [rStep, hn])
    obtain ⟨hn0, hn1⟩ := hn
    obtain ⟨k, rfl⟩ := Int.eq_ofNat_of_zero_le hn0
    have hk : k ≤ l.length := by omega
    have e1 : (l.take k).length = k := by simp; omega
    have E1 := Lib.hid e1
    have hkl : ([] : List UInt8).length + (l.take k).length ≤ 4000000 := by rw [e1]; simp; omega
    clear hn0 e1
    rw [HR.out]
    go_enter Try.func49, Try.ntmps49
    go_wp2_with (first
      | ((with_reducible refine at_slot 26 ?_); refine wp_upto rfl (.tmp 24) (.tmp 25) rfl rfl rfl (by omega) (by omega) hl1 ?_)
      | (at_builtin; refine wp_append rfl (.tmp 20) (.tmp 26) rfl (l := []) (l2 := l.take k) (c := c) rfl (Own.nil _ w.heap.size) ?_ (HA.out.take k) hkl (Nat.le_refl _) ?_; (rw [E1.out]; rfl); intro v2 w2 hown2 hb2; have hc := Rfr.cell (H.out.below hb2); obtain ⟨d0, d1, g0, g1⟩ := hc)
      | ((with_reducible refine at_slot 34 ?_); refine wp_from rfl (.tmp 32) (.tmp 33) rfl (k := k) rfl rfl (HA.out.below hb2) hk hl1 ?_; intro A2 hA2))
    obtain ⟨A3, c3, rfl, hA3, hc3, hc33⟩ := hown2.sl
    go_ret
    have e2 : (l.drop k).length = l.length - k := by simp
    have hs := (H.out.below hb2).set0 (A' := A2) (l' := l.drop k) (c' := c - k) hA2 (by omega) (by unfold maxLen; omega) (by omega)
    rw [e2] at hs
    exact ⟨A3, c3, rfl, hA3.grown (H.out.below hb2).1 (by decide) (grown_set _ _ _ _), hc3, hc33, below_grown hb2 (grown_set _ _ _ _), ⟨_, _, hs⟩⟩
  · have HR := Lib.hid (show rStep (l, false) n = ([], (l, true)) by simp only [rStep]; rw [if_neg (by simp), if_neg hn])
    rw [HR.out]
    by_cases h0 : n < 0
    · clear hn
      go_enter Try.func49, Try.ntmps49
      go_wp2_with fail
      go_ret
      exact ⟨none, 0, rfl, At.nil, by simp, by simp [maxLen], grown_set _ _ _ _, ⟨_, _, H.out.set1 true⟩⟩
    · have h1 : (l.length : Int) < n := by omega
      clear hn
      go_enter Try.func49, Try.ntmps49
      go_wp2_with fail
      go_ret
      exact ⟨none, 0, rfl, At.nil, by simp, by simp [maxLen], grown_set _ _ _ _, ⟨_, _, H.out.set1 true⟩⟩

theorem r_take_c {w : World} {p : Nat} {s : St} {n : Int} {r : List UInt8 × St} (h : RF w p s) (hr : rStep s n = r) :
    Calls Try.prog 41 #[.pointer (some ⟨p, 0, none⟩), .int .i64 n] w (RNextP w p r) := by
  obtain ⟨l, b⟩ := s
  have HR := Lib.hid hr
  clear hr
  have HS := Lib.hid h
  obtain ⟨A, c, h⟩ := h
  obtain ⟨c0, c1, f0, f1⟩ := h.cell
  dsimp only at c0 c1
  clear h
  cases b
  · go_enter Try.func41, Try.ntmps41
    go_wp2_with fail
    go_at_call 49
    refine (step_c HS.out HR.out).mono ?_
    rintro e w1 ⟨A1, d1, rfl, hA1, h1, h2, hg1, hs1⟩
    go_wp2_with fail
    go_ret
    exact ⟨A1, d1, rfl, hA1, h1, h2, hg1, hs1⟩
  · have hr : r = ([], (l, true)) := by rw [← HR.out]; simp [rStep]
    subst hr
    go_enter Try.func41, Try.ntmps41
    go_wp2_with fail
    go_ret
    exact ⟨none, 0, rfl, At.nil, by simp, by simp [maxLen], World.grownBy.refl _ _, HS.out⟩

def RNumP (k : IntKind) (w : World) (p : Nat) (a : Int) (s : St) (e : Ending) (w' : World) : Prop := e = .returned (.int k a) ∧ w.grownBy w' (some p) ∧ RF w' p s
theorem r_rnum_c {w : World} {p : Nat} {s : St} {r : Nat × St} (h : RF w p s) (hr : rNum s = r) :
    Calls Try.prog 38 #[.pointer (some ⟨p, 0, none⟩)] w (RNumP .u64 w p r.1 r.2) := by
  subst hr
  obtain ⟨l, b⟩ := s
  have HS := Lib.hid h
  obtain ⟨A, c, h⟩ := h
  have H := Lib.hid h
  obtain ⟨c0, c1, f0, f1⟩ := h.cell
  dsimp only at c0 c1
  have hl := h.2.2.2.2
  dsimp only at hl
  clear h
  cases b
  · have HA := Lib.hid H.out.2.1
    obtain ⟨q, hq⟩ : ∃ q, pn l 0 0 = q := ⟨_, rfl⟩
    have HQ := Lib.hid hq
    rcases q with _ | ⟨m, k⟩
    · have HST := Lib.hid (show rStep (l, false) (-1) = ([], (l, true)) by simp [rStep])
      rw [rNum_none hq]
      clear hq
      go_enter Try.func38, Try.ntmps38
      go_wp2_with (first
        | (go_at_call 48; refine (first_no HA.out hl HQ.out).mono ?_; rintro e w1 ⟨rfl, hb1⟩)
        | (go_at_call 49; refine (step_c (HS.out.below hb1) HST.out).mono ?_; rintro e w2 ⟨A1, d1, rfl, hA1, h1, h2, hg1, hs1⟩))
      go_ret
      exact ⟨rfl, below_grown hb1 hg1, hs1⟩
    · obtain ⟨hk1, hk2, hk3⟩ := pn_le hq
      have e := rNum_some hq
      rw [e]
      clear e
      have HST := Lib.hid (show rStep (l, false) (k : Int) = (l.take k, (l.drop k, false)) by simp [rStep]; omega)
      have hne : ((k : Int) == 0) = false := by simp; omega
      clear hq
      go_enter Try.func38, Try.ntmps38
      go_wp2_with (first
        | (go_at_call 48; refine (first_yes HA.out hl HQ.out).mono ?_; rintro e w1 ⟨rfl, hb1⟩)
        | (go_at_call 49; refine (step_c (HS.out.below hb1) HST.out).mono ?_; rintro e w2 ⟨A1, d1, rfl, hA1, h1, h2, hg1, hs1⟩))
      go_ret
      exact ⟨rfl, below_grown hb1 hg1, hs1⟩
  · have HR := Lib.hid (show rNum (l, true) = (0, (l, true)) by simp [rNum])
    rw [HR.out]
    go_enter Try.func38, Try.ntmps38
    go_wp2_with fail
    go_ret
    exact ⟨rfl, World.grownBy.refl _ _, HS.out⟩

theorem back_c {m : Nat} (hm : m < 18446744073709551616) (w : World) :
    Calls Try.prog 50 #[.int .u64 m] w fun e w' => e = .returned (.int .i64 (zag m)) ∧ w = w' := by
  obtain ⟨x, hx⟩ : ∃ x : Int, x = (m : Int) := ⟨_, rfl⟩
  rw [← hx]
  have hx0 : 0 ≤ x := by omega
  have hx1 : x < 18446744073709551616 := by omega
  have HX := Lib.hid hx
  clear hx hm
  by_cases h : x % 2 = 0
  · have h2 : (x % 2 == 0) = true := by simpa using h
    have HZ : Hid (x / 2 = zag m) := Lib.hid (by have := HX.out; unfold zag; rw [if_pos (by omega)]; omega)
    go_enter Try.func50, Try.ntmps50
    go_wp2_with fail
    go_ret
    exact ⟨ret_u HZ.out, rfl⟩
  · have h2 : (x % 2 == 0) = false := by simpa using h
    have HZ : Hid (-(x / 2) - 1 = zag m) := Lib.hid (by have := HX.out; unfold zag; rw [if_neg (by omega)]; omega)
    go_enter Try.func50, Try.ntmps50
    go_wp2_with fail
    go_ret
    exact ⟨ret_u HZ.out, rfl⟩

theorem r_rint_c {w : World} {p : Nat} {s : St} {r : Int × St} (h : RF w p s) (hr : rInt s = r) (hlt : (rNum s).1 < 18446744073709551616) :
    Calls Try.prog 39 #[.pointer (some ⟨p, 0, none⟩)] w (RNumP .i64 w p r.1 r.2) := by
  subst hr
  have HLT := Lib.hid hlt
  clear hlt
  go_enter Try.func39, Try.ntmps39
  go_wp2_with fail
  go_at_call 38
  refine (r_rnum_c h rfl).mono ?_
  rintro e w1 ⟨rfl, hg1, hs1⟩
  go_wp2_with fail
  go_at_call 50
  refine (back_c HLT.out _).mono ?_
  rintro e w' ⟨rfl, rfl⟩
  go_wp2_with fail
  go_ret
  exact ⟨rfl, hg1, hs1⟩

theorem r_end_c {w : World} {p : Nat} {s : St} {r : Int} (h : RF w p s) (hr : rErr (rEnd s) = r) :
    Calls Try.prog 43 #[.pointer (some ⟨p, 0, none⟩)] w (RNumP .i64 w p r (rEnd s)) := by
  obtain ⟨l, b⟩ := s
  have HS := Lib.hid h
  obtain ⟨A, c, h⟩ := h
  have H := Lib.hid h
  obtain ⟨c0, c1, f0, f1⟩ := h.cell
  dsimp only at c0 c1
  clear h
  have HR := Lib.hid hr
  clear hr
  by_cases h0 : 0 < l.length
  · have HE := Lib.hid (show rEnd (l, b) = (l, true) by cases l <;> simp_all [rEnd])
    rw [HE.out] at HR ⊢
    go_enter Try.func43, Try.ntmps43
    go_wp2_with (go_at_call 25; refine (r_err_c (s := (l, true)) ⟨_, _, H.out.set1 true⟩ HR.out).mono ?_; rintro e w' ⟨rfl, rfl⟩)
    go_ret
    exact ⟨rfl, grown_set _ _ _ _, ⟨_, _, H.out.set1 true⟩⟩
  · have HE := Lib.hid (show rEnd (l, b) = (l, b) by cases l <;> simp_all [rEnd])
    rw [HE.out] at HR ⊢
    go_enter Try.func43, Try.ntmps43
    go_wp2_with (go_at_call 25; refine (r_err_c HS.out HR.out).mono ?_; rintro e w' ⟨rfl, rfl⟩)
    go_ret
    exact ⟨rfl, World.grownBy.refl _ _, HS.out⟩
end BytesW
end Go.Proofs.Ytblfahnjogaacaa
