/-
  Texts of a reader of the reference.
-/
import Derived.Test.YtblfahnjogaacaaBytesText
import Derived.Test.YtblfahnjogaacaaBytesRCalls
namespace Go.Proofs.Ytblfahnjogaacaa
open Go.RowKit
open Go.Lib (uvarint uvarint_small uvarint_big uvarint_length64 uvarint_pos zigzag)
set_option linter.unusedVariables false
set_option linter.unusedSimpArgs false
namespace BytesW

theorem ret_s {a b : ByteArray} (h : a = b) : Ending.returned (.string a) = .returned (.string b) := by rw [h]
def RTextP (w : World) (p : Nat) (r : List UInt8 × St) (e : Ending) (w' : World) : Prop := e = .returned (.string ⟨r.1.toArray⟩) ∧ w.grownBy w' (some p) ∧ RF w' p r.2
theorem r_rtext_c {w : World} {p : Nat} {s : St} {most : Int} {r : List UInt8 × St} (h : RF w p s) (hr : rText s most = r) (hm0 : -9223372036854775808 ≤ most) (hm1 : most ≤ 9223372036854775807) :
    Calls Try.prog 40 #[.pointer (some ⟨p, 0, none⟩), .int .i64 most] w (RTextP w p r) := by
  subst hr
  obtain ⟨l, b⟩ := s
  have HS := Lib.hid h
  obtain ⟨A, c, h⟩ := h
  have H := Lib.hid h
  obtain ⟨c0, c1, f0, f1⟩ := h.cell
  dsimp only at c0 c1
  have hl := h.2.2.2.2
  dsimp only at hl
  clear h
  cases b
  · have HA := Lib.hid H.out.2.1
    have HST := Lib.hid (show rStep (l, false) (-1) = ([], (l, true)) by simp [rStep])
    obtain ⟨q, hq⟩ : ∃ q, pn l 0 0 = q := ⟨_, rfl⟩
    have HQ := Lib.hid hq
    rcases q with _ | ⟨m, k⟩
    · rw [rText_none hq]
      clear hq
      go_enter Try.func40, Try.ntmps40
      go_wp2_with (first
        | (go_at_call 48; refine (first_no HA.out hl HQ.out).mono ?_; rintro e w1 ⟨rfl, hb1⟩)
        | (go_at_call 49; refine (step_c (HS.out.below hb1) HST.out).mono ?_; rintro e w2 ⟨A1, e1, rfl, hA1, h1, h2, hg1, hs1⟩))
      go_ret
      exact ⟨rfl, below_grown hb1 hg1, hs1⟩
    · obtain ⟨hk1, hk2, hk3⟩ := pn_le hq
      have hmlt := (pn_some hq).1
      have hne : ((k : Int) == 0) = false := by first | (simp; done) | (simp; omega)
      obtain ⟨x, hx⟩ : ∃ x : Int, x = (m : Int) := ⟨_, rfl⟩
      have hx0 : 0 ≤ x := by omega
      have hx1 : x < 18446744073709551616 := by omega
      have HX := Lib.hid hx
      by_cases h0 : most < 0
      · rw [rText_bad hq (by omega)]
        clear hq hx hmlt
        go_enter Try.func40, Try.ntmps40
        go_wp2_with (first
          | (go_at_call 48; refine (first_yes HA.out hl HQ.out).mono ?_; rintro e w1 ⟨rfl, hb1⟩; simp only [← HX.out]; have hcc := (H.out.below hb1).cell; obtain ⟨d0, d1, g0, g1⟩ := hcc; dsimp only at d0)
          | (go_at_call 49; refine (step_c (HS.out.below hb1) HST.out).mono ?_; rintro e w2 ⟨A1, e1, rfl, hA1, h1, h2, hg1, hs1⟩))
        go_ret
        exact ⟨rfl, below_grown hb1 hg1, hs1⟩

      · by_cases hlow1 : most < x
        · rw [rText_bad hq (by omega)]
          clear hq hx hmlt
          go_enter Try.func40, Try.ntmps40
          go_wp2_with (first
            | (go_at_call 48; refine (first_yes HA.out hl HQ.out).mono ?_; rintro e w1 ⟨rfl, hb1⟩; simp only [← HX.out]; have hcc := (H.out.below hb1).cell; obtain ⟨d0, d1, g0, g1⟩ := hcc; dsimp only at d0)
            | (go_at_call 49; refine (step_c (HS.out.below hb1) HST.out).mono ?_; rintro e w2 ⟨A1, e1, rfl, hA1, h1, h2, hg1, hs1⟩))
          go_ret
          exact ⟨rfl, below_grown hb1 hg1, hs1⟩

        · by_cases hlow2 : (l.length : Int) - k < x
          · rw [rText_bad hq (by omega)]
            clear hq hx hmlt
            go_enter Try.func40, Try.ntmps40
            go_wp2_with (first
              | (go_at_call 48; refine (first_yes HA.out hl HQ.out).mono ?_; rintro e w1 ⟨rfl, hb1⟩; simp only [← HX.out]; have hcc := (H.out.below hb1).cell; obtain ⟨d0, d1, g0, g1⟩ := hcc; dsimp only at d0)
              | (go_at_call 49; refine (step_c (HS.out.below hb1) HST.out).mono ?_; rintro e w2 ⟨A1, e1, rfl, hA1, h1, h2, hg1, hs1⟩))
            go_ret
            exact ⟨rfl, below_grown hb1 hg1, hs1⟩

          · rw [rText_good hq ⟨by omega, by omega, by omega⟩]
            have hx2 : x ≤ 1000000 := by omega
            have HST1 := Lib.hid (show rStep (l, false) (k : Int) = (l.take k, (l.drop k, false)) by simp [rStep]; omega)
            obtain ⟨l2, hl2⟩ : ∃ l2, l2 = (l.drop k).take m := ⟨_, rfl⟩
            have HL2 := Lib.hid hl2
            have HST2 : Hid (rStep (l.drop k, false) x = (l2, (l.drop (k + m), false))) := Lib.hid (by
              have e1 : x.toNat = m := by omega
              simp only [rStep]
              rw [if_neg (by simp), if_pos ⟨by omega, by simp; omega⟩, e1, hl2, List.drop_drop])
            clear hq hx hmlt hl2
            go_enter Try.func40, Try.ntmps40
            go_wp2_with (first
              | (go_at_call 48; refine (first_yes HA.out hl HQ.out).mono ?_; rintro e w1 ⟨rfl, hb1⟩; simp only [← HX.out]; have hcc := (H.out.below hb1).cell; obtain ⟨d0, d1, g0, g1⟩ := hcc; dsimp only at d0)
              | (go_at_call 49; (first
                  | ((with_reducible refine (step_c (HS.out.below hb1) HST1.out).mono ?_); rintro e w2 ⟨A1, e1, rfl, hA1, h1, h2, hg1, hs1⟩)
                  | ((with_reducible refine (step_c hs1 HST2.out).mono ?_); rintro e w3 ⟨A2, e2, rfl, hA2, h3, h4, hg2, hs2⟩; dsimp only at hA2 h3 hs2 ⊢)))
              | ((with_reducible refine at_slot 54 ?_); refine wp_str rfl (.tmp 53) rfl (A := A2) (l := l2) (c := e2) rfl hA2 ?_))
            go_ret
            exact ⟨ret_s (by rw [HL2.out]), (below_grown hb1 hg1).trans hg2, hs2⟩

  · have HR := Lib.hid (show rText (l, true) most = ([], (l, true)) by simp [rText])
    rw [HR.out]
    go_enter Try.func40, Try.ntmps40
    go_wp2_with fail
    go_ret
    exact ⟨rfl, World.grownBy.refl _ _, HS.out⟩
end BytesW
end Go.Proofs.Ytblfahnjogaacaa
