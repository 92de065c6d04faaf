/-
  What is asked of a reader of the program.
-/
import Derived.Test.YtjmdjdkpcmekmaaBytesNext
namespace Go.Proofs.Ytjmdjdkpcmekmaa
open Go.RowKit
open Go.Lib (uvarint uvarint_small uvarint_big uvarint_length64 uvarint_pos zigzag)
set_option linter.unusedVariables false
set_option linter.unusedSimpArgs false
namespace BytesW

theorem rStep_le {s : St} {n : Int} : (rStep s n).1.length ≤ s.1.length := by
  unfold rStep
  split
  · simp
  · split
    · simp; omega
    · simp
/-- A number is answered; the reader behind it. -/
def NumP (k : IntKind) (w : World) (p : Nat) (a : Int) (s : St) (e : Ending) (w' : World) : Prop := e = .returned (.int k a) ∧ w.grownBy w' (some p) ∧ RS w' p s
theorem num_c {w : World} {p : Nat} {s : St} {r : Nat × St} (h : RS w p s) (hr : rNum s = r) :
    Calls Try.prog 21 #[.pointer (some ⟨p, 0, none⟩)] w (NumP .u64 w p r.1 r.2) := by
  subst hr
  obtain ⟨l, b⟩ := s
  have HS := Lib.hid h
  obtain ⟨A, c, h⟩ := h
  have H := Lib.hid h
  obtain ⟨c0, c1, f0, f1⟩ := h.cell
  dsimp only at c0 c1
  have hl := h.2.2.2.2
  dsimp only at hl
  clear h
  cases b
  · have c1 : w.cell? ⟨p, 1, none⟩ = some (.int .u8 1) := c1
    have HA := Lib.hid H.out.2.1
    obtain ⟨q, hq⟩ : ∃ q, pn l 0 0 = q := ⟨_, rfl⟩
    have HQ := Lib.hid hq
    rcases q with _ | ⟨m, k⟩
    · have HST := Lib.hid (show rStep (l, false) (-1) = ([], (l, true)) by simp [rStep])
      rw [rNum_none hq]
      clear hq
      go_enter Try.func21, Try.ntmps21
      go_wp2_with (first
        | (go_at_call 32; refine (isSound_c H.out rfl).mono ?_; rintro e w' ⟨rfl, rfl⟩)
        | (go_at_call 33; refine (number_c HA.out hl HQ.out).mono ?_; rintro e w' ⟨rfl, rfl⟩)
        | (go_at_call 34; refine (next_c HS.out HST.out).mono ?_; rintro e w1 ⟨A1, d1, rfl, hA1, h1, h2, hg1, hs1⟩))
      go_ret
      exact ⟨rfl, hg1, hs1⟩
    · obtain ⟨hk1, hk2, hk3⟩ := pn_le hq
      have e := rNum_some hq
      rw [e]
      clear e
      have HST := Lib.hid (show rStep (l, false) (k : Int) = (l.take k, (l.drop k, false)) by simp [rStep]; omega)
      clear hq
      go_enter Try.func21, Try.ntmps21
      go_wp2_with (first
        | (go_at_call 32; refine (isSound_c H.out rfl).mono ?_; rintro e w' ⟨rfl, rfl⟩)
        | (go_at_call 33; refine (number_c HA.out hl HQ.out).mono ?_; rintro e w' ⟨rfl, rfl⟩)
        | (go_at_call 34; refine (next_c HS.out HST.out).mono ?_; rintro e w1 ⟨A1, d1, rfl, hA1, h1, h2, hg1, hs1⟩))
      go_ret
      exact ⟨rfl, hg1, hs1⟩
  · have HR := Lib.hid (show rNum (l, true) = (0, (l, true)) by simp [rNum])
    rw [HR.out]
    go_enter Try.func21, Try.ntmps21
    go_wp2_with (go_at_call 32; refine (isSound_c H.out rfl).mono ?_; rintro e w' ⟨rfl, rfl⟩)
    go_ret
    exact ⟨rfl, World.grownBy.refl _ _, HS.out⟩

end BytesW
end Go.Proofs.Ytjmdjdkpcmekmaa
