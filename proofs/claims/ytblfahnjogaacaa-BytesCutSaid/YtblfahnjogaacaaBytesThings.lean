/-
  Lists of things: in memory, and what they are laid as; what is cut short breaks the reader.
-/
import Derived.Test.YtblfahnjogaacaaBytesBackB
import Derived.Test.YtblfahnjogaacaaBytesAsk
namespace Go.Proofs.Ytblfahnjogaacaa
open Go.RowKit
open Go.Lib (uvarint uvarint_small uvarint_big uvarint_length64 uvarint_pos zigzag)
set_option linter.unusedVariables false
set_option linter.unusedSimpArgs false
namespace BytesW

/-- A slice of things, as it came in. -/
def ThgAt (w : World) (A : Option Addr) (xs : List Thg) : Prop :=
  xs ≠ [] → ∃ b o, A = some ⟨b, o, none⟩ ∧ b < w.heap.size ∧ ∀ (i : Nat) (x : Thg), xs[i]? = some x → x.n < 18446744073709551616 ∧ x.s.length ≤ 9223372036854775807 ∧ (-9223372036854775808 ≤ x.what ∧ x.what ≤ 9223372036854775807) ∧ w.cell? ⟨b, o + i * 3, none⟩ = some (.int .i64 x.what) ∧ w.cell? ⟨b, o + (i * 3 + 1), none⟩ = some (.int .u64 x.n) ∧ w.cell? ⟨b, o + (i * 3 + 2), none⟩ = some (.string ⟨x.s.toArray⟩)
theorem ThgAt.below {w w' : World} {A : Option Addr} {xs : List Thg} (h : ThgAt w A xs) (hb : Below w.heap.size w w') : ThgAt w' A xs := fun hx => by
  obtain ⟨b, o, hA, hlt, hc⟩ := h hx
  refine ⟨b, o, hA, Nat.lt_of_lt_of_le hlt hb.size, fun i x hi => ?_⟩
  obtain ⟨h1, h2, h0, h3, h4, h5⟩ := hc i x hi
  exact ⟨h1, h2, h0, (hb.cell (p := ⟨b, o + i * 3, none⟩) hlt).trans h3, (hb.cell (p := ⟨b, o + (i * 3 + 1), none⟩) hlt).trans h4, (hb.cell (p := ⟨b, o + (i * 3 + 2), none⟩) hlt).trans h5⟩
theorem ThgAt.at_ {w : World} {A : Option Addr} {xs : List Thg} (h : ThgAt w A xs) {i : Nat} (hi : i < xs.length) :
    ∃ b o x, A = some ⟨b, o, none⟩ ∧ xs[i]? = some x ∧ x.n < 18446744073709551616 ∧ x.s.length ≤ 9223372036854775807 ∧ -9223372036854775808 ≤ x.what ∧ x.what ≤ 9223372036854775807 ∧ w.cell? ⟨b, o + i * 3, none⟩ = some (.int .i64 x.what) ∧
      w.cell? ⟨b, o + (i * 3 + 1), none⟩ = some (.int .u64 x.n) ∧ w.cell? ⟨b, o + i * 3 + 1, none⟩ = some (.int .u64 x.n) ∧ w.cell? ⟨b, o + (i * 3 + 2), none⟩ = some (.string ⟨x.s.toArray⟩) ∧ w.cell? ⟨b, o + i * 3 + 2, none⟩ = some (.string ⟨x.s.toArray⟩) := by
  obtain ⟨b, o, hA, _, hc⟩ := h (fun e => by rw [e] at hi; simp at hi)
  obtain ⟨h1, h2, h0, h3, h4, h5⟩ := hc i xs[i] (List.getElem?_eq_getElem hi)
  exact ⟨b, o, _, hA, List.getElem?_eq_getElem hi, h1, h2, h0.1, h0.2, h3, h4, by rw [Nat.add_assoc]; exact h4, h5, by rw [Nat.add_assoc]; exact h5⟩
theorem ThgAt.bd {w : World} {A : Option Addr} {xs : List Thg} (h : ThgAt w A xs) : ∀ x ∈ xs, x.n < 18446744073709551616 := fun x hx => by
  obtain ⟨i, hi, e⟩ := List.mem_iff_getElem.1 hx
  obtain ⟨b, o, _, _, hc⟩ := h (fun e => by rw [e] at hx; simp at hx)
  exact (hc i x (by rw [List.getElem?_eq_getElem hi, e])).1

/-- One behind the other. -/
def fl : List Thg → List UInt8
  | [] => []
  | x :: r => layB x ++ fl r
theorem fl_append (a b : List Thg) : fl (a ++ b) = fl a ++ fl b := by
  induction a with
  | nil => rfl
  | cons x a ih => simp [fl, ih]
theorem fl_len (xs : List Thg) (h : ∀ x ∈ xs, x.n < 18446744073709551616) : (fl xs).length ≤ 210 * xs.length := by
  induction xs with
  | nil => simp [fl]
  | cons x r ih =>
    have h1 := layB_len x (h x (by simp))
    have h2 := ih (fun y hy => h y (by simp [hy]))
    simp only [fl, List.length_append, List.length_cons]
    omega
theorem fl_take {xs : List Thg} {j : Nat} {x : Thg} (h : xs[j]? = some x) : fl (xs.take (j + 1)) = fl (xs.take j) ++ layB x := by
  obtain ⟨hj, e⟩ := List.getElem?_eq_some_iff.1 h
  rw [List.take_succ_eq_append_getElem hj, fl_append, e]
  simp [fl]
theorem fl_drop {xs : List Thg} {j : Nat} {x : Thg} (h : xs[j]? = some x) : fl (xs.drop j) = layB x ++ fl (xs.drop (j + 1)) := by
  obtain ⟨hj, e⟩ := List.getElem?_eq_some_iff.1 h
  rw [List.drop_eq_getElem_cons hj, e]
  rfl
theorem fl_pos {xs : List Thg} (h : xs ≠ []) : 1 ≤ (fl xs).length := by
  cases xs with
  | nil => exact absurd rfl h
  | cons x r =>
    have := layB_pos x
    simp only [fl, List.length_append]
    omega

theorem pn_cut {n m : Nat} (hn : n < 18446744073709551616) (hm : m < (uvarint n).length) : pn ((uvarint n).take m) 0 0 = none := by
  rcases h : pn ((uvarint n).take m) 0 0 with _ | ⟨a, k⟩
  · rfl
  · obtain ⟨h1, h2, h3⟩ := pn_some h
    have h4 : uvarint a <+: uvarint n := h2.trans (List.take_prefix _ _)
    have e1 := pn_yes h1 h4
    have e2 := pn_yes hn (List.prefix_refl (uvarint n))
    rw [e1] at e2
    simp only [Option.some.injEq, Prod.mk.injEq] at e2
    have h5 := h2.length_le
    rw [e2.2, List.length_take] at h5
    omega
/-- What is cut short breaks the reader. -/
theorem backB_cut (x : Thg) (hn : x.n < 18446744073709551616) {m : Nat} (hm : m < (layB x).length) : (backB ((layB x).take m, false) x).2.2 = true := by
  unfold backB
  unfold layB at hm ⊢
  by_cases h0 : x.what.tmod 4 = 0
  · rw [if_pos h0] at hm ⊢
    rw [if_pos h0, rNum_none (pn_cut hn hm)]
  rw [if_neg h0] at hm ⊢
  rw [if_neg h0]
  by_cases h1 : x.what.tmod 4 = 1
  · rw [if_pos h1] at hm ⊢
    rw [if_pos h1]
    simp only [rInt]
    rw [rNum_none (pn_cut (Lib.zigzag_lt (i64n_in x.n).1 (i64n_in x.n).2) hm)]
  rw [if_neg h1] at hm ⊢
  rw [if_neg h1]
  by_cases h2 : x.what.tmod 4 = 2
  · rw [if_pos h2] at hm ⊢
    rw [if_pos h2]
    obtain ⟨t, ht⟩ : ∃ t, t = x.s.take 200 := ⟨_, rfl⟩
    rw [← ht] at hm ⊢
    have htl : t.length ≤ 200 := by rw [ht]; simp; omega
    by_cases hlt : m < (uvarint t.length).length
    · have e : (uvarint t.length ++ t).take m = (uvarint t.length).take m := List.take_append_of_le_length (by omega)
      rw [e, rText_none (pn_cut (by omega) hlt)]
    · have hp : pn ((uvarint t.length ++ t).take m) 0 0 = some (t.length, (uvarint t.length).length) := pn_yes (by omega) (by
        have e : (uvarint t.length ++ t).take m = uvarint t.length ++ t.take (m - (uvarint t.length).length) := by
          rw [List.take_append]
          rw [List.take_of_length_le (by omega)]
        rw [e]
        exact List.prefix_append _ _)
      rw [rText_bad hp (fun h => by
        have h3 := h.2.2
        rw [List.length_take] at h3
        rw [List.length_append] at hm h3
        omega)]
  · rw [if_neg h2] at hm ⊢
    rw [if_neg h2]
    have e : fxI x.n 4 = fx x.n 4 := by unfold fxI; rw [if_pos (by decide)]; rfl
    rw [e, fx_length] at hm
    have e2 : rFixed ((fxI x.n 4).take m, false) 4 = (0, ((fxI x.n 4).take m, true)) := by
      unfold rFixed
      rw [if_neg (by simp), if_neg (fun h => by
        have h3 := h.2.2
        simp only [List.length_take] at h3
        omega)]
    rw [e2]
end BytesW
end Go.Proofs.Ytblfahnjogaacaa
