/-
  The chapter's examples of chunks, in plain words.
-/
import Derived.Test.YtjllgdlmeoakpaaDoorPackShortP
namespace Go.Proofs.YtjllgdlmeoakpaaDoor
open Go.RowKit
open Go.Lib (uvarint uvarint_small uvarint_big uvarint_length64 uvarint_pos)
set_option linter.unusedVariables false
set_option linter.unusedSimpArgs false
namespace PackW
open BytesW RunsW

def exK : Ck := ⟨(List.replicate 4096 (0, 0)).set 0 (2, 0), (List.replicate 4096 (15, 0)).set 0 (0, 0), [(0, 1), (2, 300)]⟩
def exB : List UInt8 := [2, 2, 0, 0, 0, 1, 0, 255, 31, 1, 1, 0, 255, 31, 240, 2, 0, 1, 1, 172, 2]
theorem uv4095 : uvarint 4095 = [255, 31] := by
  rw [uvarint_big (by omega), uvarint_small (by omega)]
  rfl
theorem pal_same2 : ∀ (n : Nat) (c d : Cell), pal [d, c] (List.replicate n c) = [d, c]
  | 0, c, d => rfl
  | n + 1, c, d => by
    rw [List.replicate_succ, pal, if_pos (by simp), pal_same2 n c d]
theorem row_two {x y : UInt8} (h : y ≠ x) : putR (y :: List.replicate 4095 x) = [1, y, 255, 31, x] := by
  have h1 := putR_rep (x := y) (r := List.replicate 4095 x) (n := 1) (by omega) (by
    rw [List.head?_replicate, if_neg (by omega)]
    simpa using fun e => h e.symm)
  rw [putR_one (by omega), uv4095, uvarint_small (by omega)] at h1
  exact h1
theorem ex_full : full exK := ⟨by rw [exK, List.length_set, List.length_replicate], by rw [exK, List.length_set, List.length_replicate]⟩
theorem ex_can : can exK = true := by
  have h1 : ((List.replicate 4096 ((0, 0) : Cell)).set 0 (2, 0)).all mayC = mayC (2, 0) := all_set (List.all_eq_true.2 fun x hx => by rw [(List.mem_replicate.1 hx).2]; decide) (by rw [List.length_replicate]; omega)
  have h2 : ((List.replicate 4096 ((15, 0) : Cell)).set 0 (0, 0)).all mayL = mayL (0, 0) := all_set (List.all_eq_true.2 fun x hx => by rw [(List.mem_replicate.1 hx).2]; decide) (by rw [List.length_replicate]; omega)
  simp only [can, exK, h1, h2]
  decide
theorem ex_put : putC exK = exB := by
  have hs : ∀ (x y : Cell), (List.replicate 4096 x).set 0 y = y :: List.replicate 4095 x := fun x y => set_rep 0 x y (by omega)
  have hp : pal [] ((2, 0) :: List.replicate 4095 ((0, 0) : Cell)) = [(2, 0), (0, 0)] := by
    rw [pal, if_neg (by simp), show (4095 : Nat) = 4094 + 1 from rfl, List.replicate_succ, pal, if_neg (by decide)]
    exact pal_same2 4094 (0, 0) (2, 0)
  have hq : places ((2, 0) :: List.replicate 4095 ((0, 0) : Cell)) = 0 :: List.replicate 4095 1 := by
    rw [places, hp, List.map_cons, List.map_replicate]
    rfl
  have hl : ((0, 0) :: List.replicate 4095 ((15, 0) : Cell)).map lnum = 0 :: List.replicate 4095 240 := by
    rw [List.map_cons, List.map_replicate]
    rfl
  have ht : tksB [(0, 1), (2, 300)] = [2, 0, 1, 1, 172, 2] := by
    have e0 : uvarint 0 = [0] := by rw [uvarint_small (by omega)]; rfl
    have e1 : uvarint 1 = [1] := by rw [uvarint_small (by omega)]; rfl
    have e2 : uvarint 2 = [2] := by rw [uvarint_small (by omega)]; rfl
    have e3 : uvarint 300 = [172, 2] := by rw [uvarint_big (by omega), uvarint_small (by omega)]; rfl
    show uvarint 2 ++ (uvarint 0 ++ uvarint 1 ++ (uvarint 1 ++ uvarint 300 ++ [])) = _
    rw [e0, e1, e2, e3]
    rfl
  simp only [putC, exK, hs, hp, hq, hl, ht]
  rw [row_two (by decide), row_two (by decide)]
  rfl
theorem ex_putA : putA exK = (exB, 0) := by rw [putA, if_pos ex_can, ex_put]
theorem ex_get : getC exB = some exK := by rw [← ex_put]; exact getC_full ex_can ex_full

theorem row_rep (x : UInt8) (t : List UInt8) : cutRow (128 :: 32 :: x :: t) = some (List.replicate 4096 x, t) := by
  have h := cutRow_full (r := List.replicate 4096 x) (t := t) List.length_replicate
  rw [putR_one (by omega), uv4096] at h
  exact h
theorem none_of {b b1 : List UInt8} {P : List Cell} (h : cutPal b = some (P, b1)) (h2 : cutRow b1 = none ∨ ∃ r b2, cutRow b1 = some (r, b2) ∧ (setC P 0 r = none ∨ ∃ r2 b3, cutRow b2 = some (r2, b3) ∧ cutT b3 = none)) : getC b = none := by
  unfold getC
  split
  · rfl
  · simp only [h]
    rcases h2 with h2 | ⟨r, b2, h2, h3⟩
    · simp only [h2]
    · simp only [h2]
      rcases h3 with h3 | ⟨r2, b3, h3, h4⟩
      · simp only [h3]
      · cases setC P 0 r with
        | none => rfl
        | some l => simp only [h3, h4]
theorem bad_base {t : List UInt8} (ht : cutT t = none) : getC (1 :: 0 :: 0 :: 128 :: 32 :: 0 :: 128 :: 32 :: 0 :: t) = none := by
  have e1 : cutPal (1 :: 0 :: 0 :: 128 :: 32 :: 0 :: 128 :: 32 :: 0 :: t) = some ([(0, 0)], 128 :: 32 :: 0 :: 128 :: 32 :: 0 :: t) := by
    rw [cutPal, if_neg (by simp), show (1 : UInt8).toNat = 1 from rfl, getPal, if_pos ⟨by decide, by simp⟩]
    rfl
  exact none_of e1 (.inr ⟨_, _, row_rep 0 _, .inr ⟨_, _, row_rep 0 t, ht⟩⟩)
theorem bad_pal {b : List UInt8} (h : cutPal b = none) : getC b = none := by
  unfold getC
  split
  · rfl
  · simp only [h]
theorem set_stuck : ∀ n, setC [(0, 0), (2, 0)] 1 (List.replicate n 0) = none
  | 0 => rfl
  | n + 1 => by
    rw [List.replicate_succ, setC, if_neg (by decide)]
    show (setC [(0, 0), (2, 0)] 1 (List.replicate n 0)).map _ = none
    rw [set_stuck n]
    rfl
theorem bad_two {t : List UInt8} : getC (2 :: 0 :: 0 :: 2 :: 0 :: 128 :: 32 :: 0 :: t) = none := by
  have e1 : cutPal (2 :: 0 :: 0 :: 2 :: 0 :: 128 :: 32 :: 0 :: t) = some ([(0, 0), (2, 0)], 128 :: 32 :: 0 :: t) := by
    rw [cutPal, if_neg (by simp), show (2 : UInt8).toNat = 2 from rfl, getPal, if_pos ⟨by decide, by simp⟩, getPal, if_pos ⟨by decide, by decide⟩]
    rfl
  have e2 : setC [(0, 0), (2, 0)] 0 (List.replicate 4096 0) = none := by
    rw [show (4096 : Nat) = 4095 + 1 from rfl, List.replicate_succ, setC, if_neg (by decide)]
    show (setC [(0, 0), (2, 0)] 1 (List.replicate 4095 0)).map _ = none
    rw [set_stuck]
    rfl
  exact none_of e1 (.inr ⟨_, _, row_rep 0 t, .inl e2⟩)
def bads : List (List UInt8) := [[], [0], [1, 0, 0, 128, 32, 0, 128, 32, 0, 1], [1, 0, 0, 128, 32, 0, 128, 32, 0, 0, 0], [1, 0, 0, 128, 32, 0, 128, 32, 0], [1, 15, 0, 128, 32, 0, 128, 32, 0, 0], [2, 0, 0, 0, 0, 128, 32, 0, 128, 32, 0, 0], [2, 0, 0, 2, 0, 128, 32, 0, 128, 32, 0, 0], [1, 0, 0, 128, 32, 0, 128, 32, 0, 1, 0, 0], [1, 0, 0, 128, 32, 0, 128, 32, 0, 1, 128, 32, 1]]
theorem bads_none : ∀ (j : Nat) (l : List UInt8), bads[j]? = some l → getC l = none ∧ l.length ≤ 13 := fun j l h => by
  have hm : l ∈ bads := List.mem_of_getElem? h
  simp only [bads, List.mem_cons, List.not_mem_nil, or_false] at hm
  rcases hm with rfl | rfl | rfl | rfl | rfl | rfl | rfl | rfl | rfl | rfl
  · exact ⟨bad_pal rfl, by simp⟩
  · have e : cutPal [0] = some ([], []) := by decide
    refine ⟨?_, by simp⟩
    have e2 : cutRow [] = none := by
      unfold cutRow rowGet
      rw [getR_none (by simp) rfl]
      rfl
    exact none_of e (.inl e2)
  · exact ⟨bad_base (by decide +kernel), by simp⟩
  · exact ⟨bad_base (by decide +kernel), by simp⟩
  · exact ⟨bad_base (by decide +kernel), by simp⟩
  · exact ⟨bad_pal (by decide +kernel), by simp⟩
  · exact ⟨bad_pal (by decide +kernel), by simp⟩
  · exact ⟨bad_two, by simp⟩
  · exact ⟨bad_base (by decide +kernel), by simp⟩
  · exact ⟨bad_base (by decide +kernel), by simp⟩
end PackW
end Go.Proofs.YtjllgdlmeoakpaaDoor
