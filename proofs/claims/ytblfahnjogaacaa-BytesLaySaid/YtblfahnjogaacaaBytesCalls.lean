/-
  What is asked of a reader of the program.
-/
import Derived.Test.YtblfahnjogaacaaBytesNext
namespace Go.Proofs.Ytblfahnjogaacaa
open Go.RowKit
open Go.Lib (uvarint uvarint_small uvarint_big uvarint_length64 uvarint_pos zigzag)
set_option linter.unusedVariables false
set_option linter.unusedSimpArgs false
namespace BytesW

theorem rStep_le {s : St} {n : Int} : (rStep s n).1.length ≤ s.1.length := by
  unfold rStep
  split
  · simp
  · split
    · simp; omega
    · simp
theorem take_c {w : World} {p : Nat} {s : St} {n : Int} {r : List UInt8 × St} (h : RS w p s) (hr : rStep s n = r) :
    Calls Try.prog 28 #[.pointer (some ⟨p, 0, none⟩), .int .i64 n] w (NextP w p r) := by
  have hl : r.1.length ≤ 1000000 := by
    have h1 := h.len
    have h2 := rStep_le (s := s) (n := n)
    rw [hr] at h2
    omega
  have HR := Lib.hid hr
  clear hr
  go_enter Try.func28, Try.ntmps28
  go_wp2_with fail
  go_at_call 44
  refine (next_c h HR.out).mono ?_
  rintro e w1 ⟨A1, c1, rfl, hA1, h1, h2, hg1, hs1⟩
  go_wp2_with fail
  go_at_call 37
  refine (clone_c hA1 hl).mono ?_
  rintro e w2 ⟨v2, rfl, hown2, hb2⟩
  obtain ⟨A2, c2, rfl, hA2, hc2, hc22⟩ := hown2.sl
  go_wp2_with fail
  go_ret
  exact ⟨A2, c2, rfl, hA2, hc2, hc22, grown_below hg1 hb2, hs1.below hb2⟩

/-- A number is answered; the reader behind it. -/
def NumP (k : IntKind) (w : World) (p : Nat) (a : Int) (s : St) (e : Ending) (w' : World) : Prop := e = .returned (.int k a) ∧ w.grownBy w' (some p) ∧ RS w' p s
theorem num_c {w : World} {p : Nat} {s : St} {r : Nat × St} (h : RS w p s) (hr : rNum s = r) :
    Calls Try.prog 30 #[.pointer (some ⟨p, 0, none⟩)] w (NumP .u64 w p r.1 r.2) := by
  subst hr
  obtain ⟨l, b⟩ := s
  have HS := Lib.hid h
  obtain ⟨A, c, h⟩ := h
  have H := Lib.hid h
  obtain ⟨c0, c1, f0, f1⟩ := h.cell
  dsimp only at c0 c1
  have hl := h.2.2.2.2
  dsimp only at hl
  clear h
  cases b
  · have c1 : w.cell? ⟨p, 1, none⟩ = some (.int .u8 1) := c1
    have HA := Lib.hid H.out.2.1
    obtain ⟨q, hq⟩ : ∃ q, pn l 0 0 = q := ⟨_, rfl⟩
    have HQ := Lib.hid hq
    rcases q with _ | ⟨m, k⟩
    · have HST := Lib.hid (show rStep (l, false) (-1) = ([], (l, true)) by simp [rStep])
      rw [rNum_none hq]
      clear hq
      go_enter Try.func30, Try.ntmps30
      go_wp2_with (first
        | (go_at_call 45; refine (isSound_c H.out rfl).mono ?_; rintro e w' ⟨rfl, rfl⟩)
        | (go_at_call 46; refine (number_c HA.out hl HQ.out).mono ?_; rintro e w' ⟨rfl, rfl⟩)
        | (go_at_call 44; refine (next_c HS.out HST.out).mono ?_; rintro e w1 ⟨A1, d1, rfl, hA1, h1, h2, hg1, hs1⟩))
      go_ret
      exact ⟨rfl, hg1, hs1⟩
    · obtain ⟨hk1, hk2, hk3⟩ := pn_le hq
      have e := rNum_some hq
      rw [e]
      clear e
      have HST := Lib.hid (show rStep (l, false) (k : Int) = (l.take k, (l.drop k, false)) by simp [rStep]; omega)
      clear hq
      go_enter Try.func30, Try.ntmps30
      go_wp2_with (first
        | (go_at_call 45; refine (isSound_c H.out rfl).mono ?_; rintro e w' ⟨rfl, rfl⟩)
        | (go_at_call 46; refine (number_c HA.out hl HQ.out).mono ?_; rintro e w' ⟨rfl, rfl⟩)
        | (go_at_call 44; refine (next_c HS.out HST.out).mono ?_; rintro e w1 ⟨A1, d1, rfl, hA1, h1, h2, hg1, hs1⟩))
      go_ret
      exact ⟨rfl, hg1, hs1⟩
  · have HR := Lib.hid (show rNum (l, true) = (0, (l, true)) by simp [rNum])
    rw [HR.out]
    go_enter Try.func30, Try.ntmps30
    go_wp2_with (go_at_call 45; refine (isSound_c H.out rfl).mono ?_; rintro e w' ⟨rfl, rfl⟩)
    go_ret
    exact ⟨rfl, World.grownBy.refl _ _, HS.out⟩

theorem whole_c {w : World} {p : Nat} {s : St} {r : Int × St} (h : RS w p s) (hr : rInt s = r) :
    Calls Try.prog 47 #[.func (.func 30) #[.pointer (some ⟨p, 0, none⟩)] #[]] w (NumP .i64 w p r.1 r.2) := by
  subst hr
  obtain ⟨m, s', hm⟩ : ∃ m s', rNum s = (m, s') := ⟨_, _, rfl⟩
  have HM := Lib.hid hm
  have HI := Lib.hid (show rInt s = (zag m, s') by simp [rInt, hm])
  have hlt := rNum_lt s
  rw [hm] at hlt
  simp only at hlt
  obtain ⟨x, hx⟩ : ∃ x : Int, x = (m : Int) := ⟨_, rfl⟩
  have hx0 : 0 ≤ x := by omega
  have hx1 : x < 18446744073709551616 := by omega
  have HX := Lib.hid hx
  have HLT := Lib.hid hlt
  clear hx hm hlt
  rw [HI.out]
  by_cases hodd : x % 2 = 1
  · have HZ : Hid (bits .xor .i64 (-1) (x / 2) = zag m) := Lib.hid (by
      have h1 := HX.out
      have h2 := HLT.out
      unfold zag
      rw [if_neg (by omega), show x / 2 = ((m / 2 : Nat) : Int) by omega, Lib.i64_not _ (by omega)])
    have hodd2 : (x % 2 == 1) = true := by simpa using hodd
    go_enter Try.func47, Try.ntmps47
    go_wp2_with (go_at_call 30; refine (num_c h HM.out).mono ?_; rintro e w1 ⟨rfl, hg1, hs1⟩; simp only [← HX.out])
    go_ret
    exact ⟨ret_u HZ.out, hg1, hs1⟩
  · have HZ : Hid (x / 2 = zag m) := Lib.hid (by
      have h1 := HX.out
      unfold zag
      rw [if_pos (by omega)]
      omega)
    have hodd2 : (x % 2 == 1) = false := by simpa using hodd
    go_enter Try.func47, Try.ntmps47
    go_wp2_with (go_at_call 30; refine (num_c h HM.out).mono ?_; rintro e w1 ⟨rfl, hg1, hs1⟩; simp only [← HX.out])
    go_ret
    exact ⟨ret_u HZ.out, hg1, hs1⟩
theorem int_c {w : World} {p : Nat} {s : St} {r : Int × St} (h : RS w p s) (hr : rInt s = r) :
    Calls Try.prog 31 #[.pointer (some ⟨p, 0, none⟩)] w (NumP .i64 w p r.1 r.2) := by
  have HR := Lib.hid hr
  clear hr
  go_enter Try.func31, Try.ntmps31
  go_wp2_with (go_at_call 47; refine (whole_c h HR.out).mono ?_; rintro e w1 ⟨rfl, hg1, hs1⟩)
  go_ret
  exact ⟨rfl, hg1, hs1⟩

theorem end_c {w : World} {p : Nat} {s : St} {r : Int} (h : RS w p s) (hr : rErr (rEnd s) = r) :
    Calls Try.prog 29 #[.pointer (some ⟨p, 0, none⟩)] w (NumP .i64 w p r (rEnd s)) := by
  obtain ⟨l, b⟩ := s
  have HS := Lib.hid h
  obtain ⟨A, c, h⟩ := h
  have H := Lib.hid h
  obtain ⟨c0, c1, f0, f1⟩ := h.cell
  dsimp only at c0 c1
  clear h
  have HR := Lib.hid hr
  clear hr
  cases b
  · have c1 : w.cell? ⟨p, 1, none⟩ = some (.int .u8 1) := c1
    by_cases h0 : 0 < l.length
    · have HE := Lib.hid (show rEnd (l, false) = (l, true) by cases l <;> simp_all [rEnd])
      rw [HE.out] at HR ⊢
      go_enter Try.func29, Try.ntmps29
      go_wp2_with (first
        | (go_at_call 45; refine (isSound_c H.out rfl).mono ?_; rintro e w' ⟨rfl, rfl⟩)
        | (go_at_call 24; refine (err_c (s := (l, true)) ⟨_, _, H.out.set1 true⟩ HR.out).mono ?_; rintro e w' ⟨rfl, rfl⟩))
      go_ret
      exact ⟨rfl, grown_set _ _ _ _, ⟨_, _, H.out.set1 true⟩⟩
    · have HE := Lib.hid (show rEnd (l, false) = (l, false) by cases l <;> simp_all [rEnd])
      rw [HE.out] at HR ⊢
      go_enter Try.func29, Try.ntmps29
      go_wp2_with (first
        | (go_at_call 45; refine (isSound_c H.out rfl).mono ?_; rintro e w' ⟨rfl, rfl⟩)
        | (go_at_call 24; refine (err_c HS.out HR.out).mono ?_; rintro e w' ⟨rfl, rfl⟩))
      go_ret
      exact ⟨rfl, World.grownBy.refl _ _, HS.out⟩
  · have c1 : w.cell? ⟨p, 1, none⟩ = some (.int .u8 2) := c1
    have HE := Lib.hid (show rEnd (l, true) = (l, true) by simp [rEnd])
    rw [HE.out] at HR ⊢
    go_enter Try.func29, Try.ntmps29
    go_wp2_with (first
      | (go_at_call 45; refine (isSound_c H.out rfl).mono ?_; rintro e w' ⟨rfl, rfl⟩)
      | (go_at_call 24; refine (err_c HS.out HR.out).mono ?_; rintro e w' ⟨rfl, rfl⟩))
    go_ret
    exact ⟨rfl, World.grownBy.refl _ _, HS.out⟩
end BytesW
end Go.Proofs.Ytblfahnjogaacaa
