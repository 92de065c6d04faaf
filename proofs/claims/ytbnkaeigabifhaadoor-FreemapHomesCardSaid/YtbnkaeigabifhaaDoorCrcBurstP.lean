/-
  CRC-32C, plainly: one bit of a byte turned; rows that are filled.
-/
import Derived.Test.YtbnkaeigabifhaaDoorCrcPlain
namespace Go.Proofs.YtbnkaeigabifhaaDoor
set_option linter.unusedVariables false
set_option linter.unusedSimpArgs false
namespace CrcP
theorem bitAt_set : ∀ (l : List UInt8) (p k : Nat) (y : UInt8), p < l.length → bitAt (l.set p y) k = if 8 * p ≤ k ∧ k < 8 * p + 8 then y.toBitVec.getLsbD (k - 8 * p) else bitAt l k
  | [], p, k, y, h => by simp at h
  | x :: r, 0, k, y, h => by
    simp only [List.set_cons_zero, bitAt]
    by_cases hk : k < 8
    · rw [if_pos hk, if_pos (by omega)]
      simp
    · rw [if_neg hk, if_neg (by omega), if_neg hk]
  | x :: r, p + 1, k, y, h => by
    simp only [List.set_cons_succ, bitAt]
    rw [bitAt_set r p (k - 8) y (by simpa using h)]
    by_cases hk : k < 8
    · rw [if_pos hk, if_pos hk, if_neg (by omega)]
    · rw [if_neg hk, if_neg hk]
      by_cases h2 : 8 * p ≤ k - 8 ∧ k - 8 < 8 * p + 8
      · rw [if_pos h2, if_pos (by omega), show k - 8 - 8 * p = k - 8 * (p + 1) by omega]
      · rw [if_neg h2, if_neg (by omega)]
theorem bitAt_at : ∀ (l : List UInt8) (p k : Nat) (x : UInt8), l[p]? = some x → 8 * p ≤ k → k < 8 * p + 8 → bitAt l k = x.toBitVec.getLsbD (k - 8 * p)
  | [], p, k, y, h, _, _ => by simp at h
  | z :: r, 0, k, y, h, h1, h2 => by
    have : z = y := by simpa using h
    subst this
    simp only [bitAt]
    rw [if_pos (by omega)]
    simp
  | z :: r, p + 1, k, y, h, h1, h2 => by
    simp only [bitAt]
    rw [if_neg (by omega), bitAt_at r p (k - 8) y (by simpa using h) (by omega) (by omega), show k - 8 - 8 * p = k - 8 * (p + 1) by omega]
/-- One bit, or none. -/
def pw (b : Bool) (q : Nat) : UInt8 := if b then (2 ^ q).toUInt8 else 0
theorem pw_bit {b : Bool} {q j : Nat} (hq : q < 8) (hj : j ≠ q) : (pw b q).toBitVec.getLsbD j = false := by
  by_cases h8 : j < 8
  · have : ∀ q, q < 8 → ∀ j, j < 8 → j ≠ q → ∀ b, (pw b q).toBitVec.getLsbD j = false := by decide
    exact this q hq j h8 hj b
  · exact BitVec.getLsbD_of_ge _ _ (by omega)
theorem turn_one {l : List UInt8} {p q : Nat} {x : UInt8} {b : Bool} (hx : l[p]? = some x) (hq : q < 8) {k : Nat} (hk : k ≠ 8 * p + q) : bitAt (l.set p (x ^^^ pw b q)) k = bitAt l k := by
  rw [bitAt_set _ _ _ _ (List.getElem?_eq_some_iff.1 hx).1]
  split
  · rename_i h
    rw [show (x ^^^ pw b q).toBitVec = x.toBitVec ^^^ (pw b q).toBitVec from rfl, BitVec.getLsbD_xor, pw_bit hq (by omega), Bool.xor_false, bitAt_at l p k x hx h.1 h.2]
  · rfl
/-- m is a, but for bits from p on, fewer than n. -/
def Near (a m : List UInt8) (p n : Nat) : Prop := m.length = a.length ∧ ∀ k, bitAt a k ≠ bitAt m k → p ≤ k ∧ k < p + n
theorem Near.refl (a : List UInt8) (p : Nat) : Near a a p 0 := ⟨rfl, fun k h => absurd rfl h⟩
theorem Near.step {a m : List UInt8} {P n : Nat} (h : Near a m P n) {x : UInt8} {b : Bool} (hx : m[(P + n) / 8]? = some x) : Near a (m.set ((P + n) / 8) (x ^^^ pw b ((P + n) % 8))) P (n + 1) := by
  refine ⟨by rw [List.length_set, h.1], fun k hk => ?_⟩
  by_cases e : k = P + n
  · omega
  · rw [turn_one hx (Nat.mod_lt _ (by omega)) (by omega)] at hk
    have := h.2 k hk
    omega
theorem near_sum {a m : List UInt8} {P' n : Nat} (h : Near a m P' n) (hn : n ≤ 32) : decide (sum a = sum m) = decide (a = m) := by
  have := burst_sum h.1.symm P' (fun k hk => by have := h.2 k hk; omega)
  by_cases e : a = m
  · simp [e]
  · have e2 : ¬ sum a = sum m := fun q => e (this.1 q)
    simp [e, e2]
/-- n bytes, each one the first and so many times the step. -/
def fil (n : Nat) (first step : UInt8) : List UInt8 := (List.range n).map fun i => first + step * i.toUInt8
theorem fil_succ (n : Nat) (first step : UInt8) : fil (n + 1) first step = fil n first step ++ [first + step * n.toUInt8] := by simp [fil, List.range_succ]
theorem fil_len (n : Nat) (first step : UInt8) : (fil n first step).length = n := by simp [fil]
/-- Three rows, as far as they go, bit by bit one. -/
def xor3 (a b c : List UInt8) (n : Nat) : List UInt8 := List.zipWith (· ^^^ ·) (List.zipWith (· ^^^ ·) (a.take n) (b.take n)) (c.take n)
theorem xor3_sum {a b c : List UInt8} {n : Nat} (ha : n ≤ a.length) (hb : n ≤ b.length) (hc : n ≤ c.length) : sum (xor3 a b c n) = sum (a.take n) ^^^ sum (b.take n) ^^^ sum (c.take n) :=
  three _ _ _ (by simp; omega) (by simp; omega)
theorem xor3_len {a b c : List UInt8} {n : Nat} (ha : n ≤ a.length) (hb : n ≤ b.length) (hc : n ≤ c.length) : (xor3 a b c n).length = n := by
  simp [xor3]
  omega
theorem take_succ_at {l : List UInt8} {n : Nat} {x : UInt8} (h : l[n]? = some x) : l.take (n + 1) = l.take n ++ [x] := by
  rw [List.take_add_one, h]
  rfl
theorem xor3_succ {a b c : List UInt8} {n : Nat} {x y z : UInt8} (ha : a[n]? = some x) (hb : b[n]? = some y) (hc : c[n]? = some z) : xor3 a b c (n + 1) = xor3 a b c n ++ [x ^^^ y ^^^ z] := by
  have h1 := (List.getElem?_eq_some_iff.1 ha).1
  have h2 := (List.getElem?_eq_some_iff.1 hb).1
  have h3 := (List.getElem?_eq_some_iff.1 hc).1
  unfold xor3
  rw [take_succ_at ha, take_succ_at hb, take_succ_at hc, List.zipWith_append (by simp; omega), List.zipWith_append (by simp; omega)]
  rfl
/-! Step by step: what a loop over the bytes knows. -/
theorem run_take {s : BitVec 32} {l : List UInt8} {n : Nat} {x : UInt8} (h : l[n]? = some x) : run s (l.take (n + 1)) = over (run s (l.take n)) x := by
  rw [take_succ_at h, run_app]
  rfl
theorem steps_succ (n : Nat) (s : BitVec 32) : steps (n + 1) s = step (steps n s) := by
  rw [steps_add n 1]
  rfl
end CrcP
end Go.Proofs.YtbnkaeigabifhaaDoor
