/-
  Texts of a reader of the program.
-/
import Derived.Test.YtblfahnjogaacaaBytesCalls
namespace Go.Proofs.Ytblfahnjogaacaa
open Go.RowKit
open Go.Lib (uvarint uvarint_small uvarint_big uvarint_length64 uvarint_pos zigzag)
set_option linter.unusedVariables false
set_option linter.unusedSimpArgs false
namespace BytesW

/-- A text is answered; the reader behind it. -/
def TextP (w : World) (p : Nat) (r : List UInt8 × St) (e : Ending) (w' : World) : Prop := e = .returned (.string ⟨r.1.toArray⟩) ∧ w.grownBy w' (some p) ∧ RS w' p r.2
theorem rText_none {l : List UInt8} {most : Int} (h : pn l 0 0 = none) : rText (l, false) most = ([], (l, true)) := by simp [rText, h]
theorem rText_bad {l : List UInt8} {most : Int} {m k : Nat} (h : pn l 0 0 = some (m, k)) (hb : ¬ (0 ≤ most ∧ (m : Int) ≤ most ∧ m ≤ l.length - k)) : rText (l, false) most = ([], (l, true)) := by
  simp only [rText, h]
  rw [if_neg (by simp), if_neg hb]
theorem rText_good {l : List UInt8} {most : Int} {m k : Nat} (h : pn l 0 0 = some (m, k)) (hb : 0 ≤ most ∧ (m : Int) ≤ most ∧ m ≤ l.length - k) : rText (l, false) most = ((l.drop k).take m, (l.drop (k + m), false)) := by
  simp only [rText, h]
  rw [if_neg (by simp), if_pos hb]
theorem text_c {w : World} {p : Nat} {s : St} {most : Int} {r : List UInt8 × St} (h : RS w p s) (hr : rText s most = r) (hm0 : -9223372036854775808 ≤ most) (hm1 : most ≤ 9223372036854775807) :
    Calls Try.prog 32 #[.pointer (some ⟨p, 0, none⟩), .int .i64 most] w (TextP w p r) := by
  subst hr
  obtain ⟨l, b⟩ := s
  have HS := Lib.hid h
  obtain ⟨A, c, h⟩ := h
  have H := Lib.hid h
  obtain ⟨c0, c1, f0, f1⟩ := h.cell
  dsimp only at c0 c1
  have hl := h.2.2.2.2
  dsimp only at hl
  clear h
  cases b
  · have c1 : w.cell? ⟨p, 1, none⟩ = some (.int .u8 1) := c1
    have HA := Lib.hid H.out.2.1
    have HST := Lib.hid (show rStep (l, false) (-1) = ([], (l, true)) by simp [rStep])
    obtain ⟨q, hq⟩ : ∃ q, pn l 0 0 = q := ⟨_, rfl⟩
    have HQ := Lib.hid hq
    rcases q with _ | ⟨m, k⟩
    · rw [rText_none hq]
      clear hq
      go_enter Try.func32, Try.ntmps32
      go_wp2_with (first
            | (go_at_call 45; refine (isSound_c H.out rfl).mono ?_; rintro e w' ⟨rfl, rfl⟩)
            | (go_at_call 46; refine (number_c HA.out hl HQ.out).mono ?_; rintro e w' ⟨rfl, rfl⟩)
            | (go_at_call 44; refine (next_c HS.out HST.out).mono ?_; rintro e w1 ⟨A1, d1, rfl, hA1, h1, h2, hg1, hs1⟩))
      go_ret
      exact ⟨rfl, hg1, hs1⟩
      
    · obtain ⟨hk1, hk2, hk3⟩ := pn_le hq
      have hmlt := (pn_some hq).1
      have hne : ((k : Int) == -1) = false := by first | (simp; done) | (simp; omega)
      obtain ⟨x, hx⟩ : ∃ x : Int, x = (m : Int) := ⟨_, rfl⟩
      have hx0 : 0 ≤ x := by omega
      have hx1 : x < 18446744073709551616 := by omega
      have HX := Lib.hid hx
      have HQ2 : Hid (pn l 0 0 = some (x.toNat, k)) := Lib.hid (by rw [hx]; exact hq)
      by_cases h0 : most < 0
      · rw [rText_bad hq (by omega)]
        clear hq hx hmlt
        go_enter Try.func32, Try.ntmps32
        go_wp2_with (first
              | (go_at_call 45; refine (isSound_c H.out rfl).mono ?_; rintro e w' ⟨rfl, rfl⟩)
              | (go_at_call 46; refine (number_c HA.out hl HQ.out).mono ?_; rintro e w' ⟨rfl, rfl⟩)
              | (go_at_call 44; refine (next_c HS.out HST.out).mono ?_; rintro e w1 ⟨A1, d1, rfl, hA1, h1, h2, hg1, hs1⟩))
        go_ret
        exact ⟨rfl, hg1, hs1⟩
        
      · by_cases hcmp : (l.length : Int) - k < most
        · by_cases hb : (l.length : Int) - k < x
          · rw [rText_bad hq (by omega)]
            clear hq hx hmlt
            go_enter Try.func32, Try.ntmps32
            go_wp2_with (first
                        | (go_at_call 45; refine (isSound_c H.out rfl).mono ?_; rintro e w' ⟨rfl, rfl⟩)
                        | (go_at_call 46; refine (number_c HA.out hl HQ.out).mono ?_; rintro e w' ⟨rfl, rfl⟩; simp only [ansN, ansK, ← HX.out])
                        | (go_at_call 44; refine (next_c HS.out HST.out).mono ?_; rintro e w1 ⟨A1, d1, rfl, hA1, h1, h2, hg1, hs1⟩))
            go_ret
            exact ⟨rfl, hg1, hs1⟩
          · rw [rText_good hq ⟨by omega, by omega, by omega⟩]
            obtain ⟨l1, hl1⟩ : ∃ l1, l1 = l.take (k + m) := ⟨_, rfl⟩
            have HL1 := Lib.hid hl1
            have HLL : Hid (l1.length = k + x.toNat) := Lib.hid (by rw [hl1, List.length_take, Nat.min_eq_left (by omega)]; omega)
            have HSG : Hid (rStep (l, false) ((k : Int) + x) = (l1, (l.drop (k + m), false))) := Lib.hid (by
              rw [show (k : Int) + x = ((k + m : Nat) : Int) by omega, hl1]
              simp only [rStep]
              rw [if_neg (by simp), if_pos ⟨by omega, by omega⟩]
              rfl)
            have hx2 : x ≤ 1000000 := by omega
            clear hq hx hmlt hl1
            go_enter Try.func32, Try.ntmps32
            go_wp2_with (first
                        | (go_at_call 45; refine (isSound_c H.out rfl).mono ?_; rintro e w' ⟨rfl, rfl⟩)
                        | (go_at_call 46; refine (number_c HA.out hl HQ.out).mono ?_; rintro e w' ⟨rfl, rfl⟩; simp only [ansN, ansK, ← HX.out])
                        | (go_at_call 44; refine (next_c HS.out HSG.out).mono ?_; rintro e w1 ⟨A1, d1, rfl, hA1, h1, h2, hg1, hs1⟩; simp only [HLL.out]; dsimp only at hA1 h1 hs1)
                        | ((with_reducible refine at_slot 47 ?_); refine wp_from rfl (.tmp 45) (.tmp 46) rfl (k := k) (l := l1) (c := d1) (A := A1) (by rw [HLL.out]; rfl) rfl hA1 (by rw [HLL.out]; omega) h1 ?_; intro A2 hA2; rw [HLL.out, Nat.add_sub_cancel_left])
                        | ((with_reducible refine at_slot 48 ?_); refine wp_str rfl (.tmp 47) rfl (A := A2) (l := l1.drop k) (c := d1 - k) (by rw [List.length_drop, HLL.out, Nat.add_sub_cancel_left]; rfl) hA2 ?_))
            go_ret
            refine ⟨?_, hg1, hs1⟩
            rw [HL1.out, List.drop_take]
            simp
        · by_cases hb : most < x
          · rw [rText_bad hq (by omega)]
            clear hq hx hmlt
            go_enter Try.func32, Try.ntmps32
            go_wp2_with (first
                        | (go_at_call 45; refine (isSound_c H.out rfl).mono ?_; rintro e w' ⟨rfl, rfl⟩)
                        | (go_at_call 46; refine (number_c HA.out hl HQ.out).mono ?_; rintro e w' ⟨rfl, rfl⟩; simp only [ansN, ansK, ← HX.out])
                        | (go_at_call 44; refine (next_c HS.out HST.out).mono ?_; rintro e w1 ⟨A1, d1, rfl, hA1, h1, h2, hg1, hs1⟩))
            go_ret
            exact ⟨rfl, hg1, hs1⟩
          · rw [rText_good hq ⟨by omega, by omega, by omega⟩]
            obtain ⟨l1, hl1⟩ : ∃ l1, l1 = l.take (k + m) := ⟨_, rfl⟩
            have HL1 := Lib.hid hl1
            have HLL : Hid (l1.length = k + x.toNat) := Lib.hid (by rw [hl1, List.length_take, Nat.min_eq_left (by omega)]; omega)
            have HSG : Hid (rStep (l, false) ((k : Int) + x) = (l1, (l.drop (k + m), false))) := Lib.hid (by
              rw [show (k : Int) + x = ((k + m : Nat) : Int) by omega, hl1]
              simp only [rStep]
              rw [if_neg (by simp), if_pos ⟨by omega, by omega⟩]
              rfl)
            have hx2 : x ≤ 1000000 := by omega
            clear hq hx hmlt hl1
            go_enter Try.func32, Try.ntmps32
            go_wp2_with (first
                        | (go_at_call 45; refine (isSound_c H.out rfl).mono ?_; rintro e w' ⟨rfl, rfl⟩)
                        | (go_at_call 46; refine (number_c HA.out hl HQ.out).mono ?_; rintro e w' ⟨rfl, rfl⟩; simp only [ansN, ansK, ← HX.out])
                        | (go_at_call 44; refine (next_c HS.out HSG.out).mono ?_; rintro e w1 ⟨A1, d1, rfl, hA1, h1, h2, hg1, hs1⟩; simp only [HLL.out]; dsimp only at hA1 h1 hs1)
                        | ((with_reducible refine at_slot 47 ?_); refine wp_from rfl (.tmp 45) (.tmp 46) rfl (k := k) (l := l1) (c := d1) (A := A1) (by rw [HLL.out]; rfl) rfl hA1 (by rw [HLL.out]; omega) h1 ?_; intro A2 hA2; rw [HLL.out, Nat.add_sub_cancel_left])
                        | ((with_reducible refine at_slot 48 ?_); refine wp_str rfl (.tmp 47) rfl (A := A2) (l := l1.drop k) (c := d1 - k) (by rw [List.length_drop, HLL.out, Nat.add_sub_cancel_left]; rfl) hA2 ?_))
            go_ret
            refine ⟨?_, hg1, hs1⟩
            rw [HL1.out, List.drop_take]
            simp
  · have c1 : w.cell? ⟨p, 1, none⟩ = some (.int .u8 2) := c1
    have HR := Lib.hid (show rText (l, true) most = ([], (l, true)) by simp [rText])
    rw [HR.out]
    go_enter Try.func32, Try.ntmps32
    go_wp2_with (go_at_call 45; refine (isSound_c H.out rfl).mono ?_; rintro e w' ⟨rfl, rfl⟩)
    go_ret
    exact ⟨rfl, World.grownBy.refl _ _, HS.out⟩
end BytesW
end Go.Proofs.Ytblfahnjogaacaa
