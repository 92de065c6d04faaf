/-
  Lists of asks in memory; one ask of both readers, whatever it is; words for the laws.
-/
import Derived.Test.YtblfahnjogaacaaBytesStep
namespace Go.Proofs.Ytblfahnjogaacaa
open Go.RowKit
open Go.Lib (uvarint uvarint_small uvarint_big uvarint_length64 uvarint_pos zigzag)
set_option linter.unusedVariables false
set_option linter.unusedSimpArgs false
namespace BytesW

/-- A slice of asks, as it came in. -/
def AskAt (w : World) (A : Option Addr) (xs : List (Int × Int)) : Prop :=
  xs ≠ [] → ∃ b o, A = some ⟨b, o, none⟩ ∧ b < w.heap.size ∧ ∀ (i : Nat) (W N : Int), xs[i]? = some (W, N) → (-9223372036854775808 ≤ N ∧ N ≤ 9223372036854775807) ∧ (-9223372036854775808 ≤ W ∧ W ≤ 9223372036854775807) ∧ w.cell? ⟨b, o + i * 2, none⟩ = some (.int .i64 W) ∧ w.cell? ⟨b, o + (i * 2 + 1), none⟩ = some (.int .i64 N)
theorem AskAt.below {w w' : World} {A : Option Addr} {xs : List (Int × Int)} (h : AskAt w A xs) (hb : Below w.heap.size w w') : AskAt w' A xs := fun hx => by
  obtain ⟨b, o, hA, hlt, hc⟩ := h hx
  refine ⟨b, o, hA, Nat.lt_of_lt_of_le hlt hb.size, fun i W N hi => ?_⟩
  obtain ⟨h1, h2, h3, h4⟩ := hc i W N hi
  exact ⟨h1, h2, (hb.cell (p := ⟨b, o + i * 2, none⟩) hlt).trans h3, (hb.cell (p := ⟨b, o + (i * 2 + 1), none⟩) hlt).trans h4⟩
theorem AskAt.at_ {w : World} {A : Option Addr} {xs : List (Int × Int)} (h : AskAt w A xs) {i : Nat} (hi : i < xs.length) :
    ∃ b o W N, A = some ⟨b, o, none⟩ ∧ -9223372036854775808 ≤ N ∧ N ≤ 9223372036854775807 ∧ -9223372036854775808 ≤ W ∧ W ≤ 9223372036854775807 ∧ w.cell? ⟨b, o + i * 2, none⟩ = some (.int .i64 W) ∧ w.cell? ⟨b, o + (i * 2 + 1), none⟩ = some (.int .i64 N) ∧ w.cell? ⟨b, o + i * 2 + 1, none⟩ = some (.int .i64 N) := by
  obtain ⟨b, o, hA, _, hc⟩ := h (fun e => by rw [e] at hi; simp at hi)
  obtain ⟨h1, h2, h3, h4⟩ := hc i (xs[i]).1 (xs[i]).2 (by rw [List.getElem?_eq_getElem hi])
  exact ⟨b, o, _, _, hA, h1.1, h1.2, h2.1, h2.2, h3, h4, by rw [Nat.add_assoc]; exact h4⟩
theorem ask_c {w : World} {p q : Nat} {s : St} {W N : Int} (hp : RS w p s) (hq : RF w q s) (hN0 : -9223372036854775808 ≤ N) (hN1 : N ≤ 9223372036854775807) :
    Calls Try.prog 21 #[.pointer (some ⟨p, 0, none⟩), .pointer (some ⟨q, 0, none⟩), .agg #[.int .i64 W, .int .i64 N]] w (StepP w p q (ask s W N)) := by
  by_cases h0 : W.tmod 6 = 0
  · exact step_Num hp hq h0 hN0 hN1
  by_cases h1 : W.tmod 6 = 1
  · exact step_Int hp hq h0 h1 hN0 hN1
  by_cases h2 : W.tmod 6 = 2
  · exact step_Text hp hq h0 h1 h2 hN0 hN1
  by_cases h3 : W.tmod 6 = 3
  · exact step_Take hp hq h0 h1 h2 h3 hN0 hN1
  by_cases h4 : W.tmod 6 = 4
  · exact step_Fixed hp hq h0 h1 h2 h3 h4 hN0 hN1
  · exact step_End hp hq h0 h1 h2 h3 h4 hN0 hN1

theorem at_bytes {w : World} {g : Nat} {cs : Array Value} {fr : Nat × Nat} {l : List UInt8} (h : w.heap[g]? = some (.cells cs 5 fr)) (hc : ∀ (i : Nat) (x : UInt8), l[i]? = some x → cs[i]? = some (bv x)) : At w (some ⟨g, 0, none⟩) l :=
  fun _ => ⟨g, 0, cs, fr, rfl, h, fun i x hx => by rw [Nat.zero_add]; exact hc i x hx⟩
theorem below_next {w0 w w' : World} {p : Nat} {s : St} (hb : Below w0.heap.size w0 w) (hp : w0.heap.size ≤ p) (hg : w.grownBy w' (some p)) : Below w0.heap.size w0 w' :=
  hb.grown hg hb.size (fun k hk => by injection hk with hk; omega)
theorem below_more {w0 w w' : World} (hb : Below w0.heap.size w0 w) (h : Below w.heap.size w w') : Below w0.heap.size w0 w' := hb.trans (h.mono hb.size)
end BytesW
end Go.Proofs.Ytblfahnjogaacaa
