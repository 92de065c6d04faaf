/-
  Plain mathematics of layer 4: a number's bytes read back, numbers of a width, a reader as a plain machine.
-/
import Derived.Lib.Varint
import Derived.Lib.Zigzag
import Derived.Laws.Bits64b
namespace Go.Proofs.YtbnkaeigabifhaaDoor
open Go.Lib (uvarint uvarint_small uvarint_big uvarint_length64 uvarint_pos zigzag)
set_option linter.unusedVariables false
namespace BytesW

/-- What stands at a row's beginning, from place i on; acc: what was gathered ahead of it. The number, and how many bytes it took. -/
def pn : List UInt8 → Nat → Nat → Option (Nat × Nat)
  | [], _, _ => none
  | x :: r, i, acc =>
    if i = 9 ∧ 1 < x.toNat then none
    else if 128 ≤ x.toNat then pn r (i + 1) (acc + x.toNat % 128 * 2 ^ (7 * i))
    else if x.toNat = 0 ∧ 0 < i then none
    else some (acc + x.toNat % 128 * 2 ^ (7 * i), i + 1)

theorem small_nat {m : Nat} (h : m < 128) : m.toUInt8.toNat = m := by
  show m % 256 = m
  omega
theorem big_nat (m : Nat) : (m % 128 + 128).toUInt8.toNat = m % 128 + 128 := by
  show (m % 128 + 128) % 256 = _
  omega
theorem byte_back (x : UInt8) : x.toNat.toUInt8 = x := by simp
theorem pow_step (i : Nat) : 2 ^ (7 * (i + 1)) = 128 * 2 ^ (7 * i) := by
  rw [show 7 * (i + 1) = 7 + 7 * i by omega, Nat.pow_add]
theorem pow_left {i : Nat} (hi : i < 9) : 2 ^ (64 - 7 * i) = 128 * 2 ^ (64 - 7 * (i + 1)) := by
  rw [show 64 - 7 * i = 7 + (64 - 7 * (i + 1)) by omega, Nat.pow_add]

/-- Whose bytes stand there is read. -/
theorem pn_full : ∀ (l : List UInt8) (i acc m : Nat), i ≤ 9 → uvarint m <+: l → m < 2 ^ (64 - 7 * i) → (0 < i → 0 < m) → pn l i acc = some (acc + m * 2 ^ (7 * i), i + (uvarint m).length)
  | [], i, acc, m, hi, hp, hm, h0 => by
    have := uvarint_pos m
    have e := List.prefix_nil.1 hp
    rw [e] at this
    simp at this
  | x :: r, i, acc, m, hi, hp, hm, h0 => by
    unfold pn
    by_cases hs : m < 128
    · rw [uvarint_small hs] at hp ⊢
      have hx : m.toUInt8 = x := by simpa using hp
      have hx' : x.toNat = m := by rw [← hx]; exact small_nat hs
      rw [hx']
      by_cases h9 : i = 9
      · subst h9
        have hm2 : m < 2 := by simpa using hm
        have := h0 (by omega)
        rw [if_neg (by omega), if_neg (by omega), if_neg (by omega), Nat.mod_eq_of_lt hs]
        simp
      · rw [if_neg (by omega), if_neg (by omega), if_neg (fun ⟨a, b⟩ => by have := h0 b; omega), Nat.mod_eq_of_lt hs]
        simp
    · rw [uvarint_big (by omega)] at hp ⊢
      obtain ⟨hx, hr⟩ : (m % 128 + 128).toUInt8 = x ∧ uvarint (m / 128) <+: r := by simpa [List.cons_prefix_cons] using hp
      have hx' : x.toNat = m % 128 + 128 := by rw [← hx]; exact big_nat m
      have h9 : i < 9 := by
        rcases Nat.lt_or_ge i 9 with h | h
        · exact h
        · have : i = 9 := by omega
          subst this
          have hm2 : m < 2 := by simpa using hm
          omega
      rw [if_neg (by omega), if_pos (by omega), hx']
      have hm' : m / 128 < 2 ^ (64 - 7 * (i + 1)) := by
        rw [pow_left h9] at hm
        exact Nat.div_lt_of_lt_mul hm
      rw [pn_full r (i + 1) _ (m / 128) (by omega) hr hm' (fun _ => by omega)]
      simp only [List.length_cons, Option.some.injEq, Prod.mk.injEq]
      refine ⟨?_, by omega⟩
      rw [pow_step]
      have e : m / 128 * (128 * 2 ^ (7 * i)) = (m / 128 * 128) * 2 ^ (7 * i) := by rw [Nat.mul_assoc]
      have e2 : (m % 128 + 128) % 128 = m % 128 := by omega
      rw [e, e2, Nat.add_assoc, ← Nat.add_mul]
      congr 2
      omega

/-- What is read stands there. -/
theorem pn_sound : ∀ (l : List UInt8) (i acc n k : Nat), i ≤ 9 → pn l i acc = some (n, k) → ∃ m, uvarint m <+: l ∧ m < 2 ^ (64 - 7 * i) ∧ (0 < i → 0 < m) ∧ n = acc + m * 2 ^ (7 * i) ∧ k = i + (uvarint m).length
  | [], i, acc, n, k, hi, h => by simp [pn] at h
  | x :: r, i, acc, n, k, hi, h => by
    have hx := x.toNat_lt
    unfold pn at h
    by_cases h1 : i = 9 ∧ 1 < x.toNat
    · rw [if_pos h1] at h
      cases h
    · rw [if_neg h1] at h
      by_cases h2 : 128 ≤ x.toNat
      · rw [if_pos h2] at h
        have h9 : i < 9 := by omega
        obtain ⟨m, hp, hm, h0, hn, hk⟩ := pn_sound r (i + 1) _ n k (by omega) h
        have h0' := h0 (by omega)
        have hb : 128 ≤ x.toNat % 128 + 128 * m := by omega
        have hd : (x.toNat % 128 + 128 * m) / 128 = m := by omega
        have hmod : (x.toNat % 128 + 128 * m) % 128 + 128 = x.toNat := by omega
        refine ⟨x.toNat % 128 + 128 * m, ?_, ?_, fun _ => by omega, ?_, ?_⟩
        · rw [uvarint_big hb, hmod, hd, byte_back]
          simpa [List.cons_prefix_cons] using hp
        · rw [pow_left h9]
          omega
        · rw [hn, pow_step, Nat.add_mul, Nat.add_assoc]
          congr 2
          rw [Nat.mul_comm 128 m, Nat.mul_assoc]
        · rw [uvarint_big hb, hd, hk, List.length_cons]
          omega
      · rw [if_neg h2] at h
        by_cases h3 : x.toNat = 0 ∧ 0 < i
        · rw [if_pos h3] at h
          cases h
        · rw [if_neg h3] at h
          simp only [Option.some.injEq, Prod.mk.injEq] at h
          obtain ⟨rfl, rfl⟩ := h
          refine ⟨x.toNat, ?_, ?_, fun _ => by omega, ?_, ?_⟩
          · rw [uvarint_small (by omega), byte_back]
            simp
          · by_cases h9 : i = 9
            · subst h9
              have : (2 : Nat) ^ (64 - 7 * 9) = 2 := by decide
              omega
            · have : 128 * 2 ^ (64 - 7 * (i + 1)) ≥ 128 := by
                have := Nat.pow_pos (n := 64 - 7 * (i + 1)) (show 0 < 2 by omega)
                omega
              rw [pow_left (by omega)]
              omega
          · rw [Nat.mod_eq_of_lt (by omega)]
          · rw [uvarint_small (by omega)]
            rfl

theorem pow64 : (2 : Nat) ^ (64 - 7 * 0) = 18446744073709551616 := by decide
/-- The number whose bytes stand ahead. -/
theorem pn_yes {l : List UInt8} {m : Nat} (hm : m < 18446744073709551616) (hp : uvarint m <+: l) : pn l 0 0 = some (m, (uvarint m).length) := by
  rw [pn_full l 0 0 m (by omega) hp (by rw [pow64]; exact hm) (fun h => absurd h (by omega))]
  simp
theorem pn_some {l : List UInt8} {n k : Nat} (h : pn l 0 0 = some (n, k)) : n < 18446744073709551616 ∧ uvarint n <+: l ∧ k = (uvarint n).length := by
  obtain ⟨m, hp, hm, _, rfl, rfl⟩ := pn_sound l 0 0 n k (by omega) h
  rw [pow64] at hm
  simpa using ⟨hm, hp⟩
theorem pn_none {l : List UInt8} (h : pn l 0 0 = none) : ∀ m, m < 18446744073709551616 → ¬ uvarint m <+: l := fun m hm hp => by
  rw [pn_yes hm hp] at h
  cases h
theorem pn_le {l : List UInt8} {n k : Nat} (h : pn l 0 0 = some (n, k)) : k ≤ l.length ∧ 1 ≤ k ∧ k ≤ 10 := by
  obtain ⟨hn, hp, rfl⟩ := pn_some h
  exact ⟨hp.length_le, uvarint_pos n, uvarint_length64 hn⟩

/-- Of a number's bytes all but the last are 128 or more, the last is less. -/
theorem uv_head : ∀ (m j : Nat) (h : j + 1 < (uvarint m).length), 128 ≤ ((uvarint m)[j]'(by omega)).toNat := by
  intro m
  induction m using Nat.strongRecOn with
  | _ m ih =>
    intro j h
    by_cases hs : m < 128
    · rw [uvarint_small hs] at h
      simp at h
    · have e := uvarint_big (x := m) (by omega)
      cases j with
      | zero =>
        simp only [e, List.getElem_cons_zero]
        rw [big_nat]
        omega
      | succ j =>
        simp only [e, List.getElem_cons_succ]
        refine ih (m / 128) (by omega) j ?_
        rw [e, List.length_cons] at h
        omega
theorem uv_last : ∀ (m j : Nat) (h : j + 1 = (uvarint m).length), ((uvarint m)[j]'(by omega)).toNat < 128 := by
  intro m
  induction m using Nat.strongRecOn with
  | _ m ih =>
    intro j h
    by_cases hs : m < 128
    · have e := uvarint_small hs
      have hj : j = 0 := by rw [e] at h; simpa using h
      subst hj
      simp only [e, List.getElem_cons_zero]
      rw [small_nat hs]
      exact hs
    · have e := uvarint_big (x := m) (by omega)
      have hp := uvarint_pos (m / 128)
      cases j with
      | zero =>
        rw [e, List.length_cons] at h
        omega
      | succ j =>
        simp only [e, List.getElem_cons_succ]
        refine ih (m / 128) (by omega) j ?_
        rw [e, List.length_cons] at h
        omega

/-- What groups of seven bits make, the lowest first, within 64 bits. -/
def vm : List UInt8 → Nat
  | [] => 0
  | x :: r => (128 * vm r + x.toNat % 128) % 18446744073709551616
theorem vm_lt (l : List UInt8) : vm l < 18446744073709551616 := by
  cases l with
  | nil => decide
  | cons x r => exact Nat.mod_lt _ (by decide)
theorem vm_uvarint : ∀ m, m < 18446744073709551616 → vm (uvarint m) = m := by
  intro m
  induction m using Nat.strongRecOn with
  | _ m ih =>
    intro hm
    by_cases hs : m < 128
    · rw [uvarint_small hs]
      simp only [vm, small_nat hs]
      omega
    · rw [uvarint_big (by omega)]
      simp only [vm, big_nat]
      rw [ih (m / 128) (by omega) (by omega)]
      omega

/-- What bytes make, the lowest first. -/
def vf : List UInt8 → Nat
  | [] => 0
  | x :: r => x.toNat + 256 * vf r
theorem vf_lt (l : List UInt8) : vf l < 256 ^ l.length := by
  induction l with
  | nil => decide
  | cons x r ih =>
    have hx := x.toNat_lt
    simp only [vf, List.length_cons, Nat.pow_succ]
    omega
theorem vf_snoc (l : List UInt8) (x : UInt8) : vf (l ++ [x]) = vf l + x.toNat * 256 ^ l.length := by
  induction l with
  | nil => simp [vf]
  | cons y r ih =>
    simp only [List.cons_append, vf, ih, List.length_cons, Nat.pow_succ]
    rw [Nat.mul_add, ← Nat.add_assoc]
    congr 1
    rw [Nat.mul_comm (256 ^ r.length) 256, ← Nat.mul_assoc, ← Nat.mul_assoc, Nat.mul_comm 256 x.toNat]

/-- A number of a width. -/
def fx (n : Nat) : Nat → List UInt8
  | 0 => []
  | k + 1 => fx n k ++ [(n / 256 ^ k % 256).toUInt8]
theorem fx_length (n k : Nat) : (fx n k).length = k := by
  induction k with
  | zero => rfl
  | succ k ih => simp [fx, ih]
theorem fx_byte (n : Nat) : (n % 256).toUInt8.toNat = n % 256 := by
  show n % 256 % 256 = _
  omega
theorem vf_fx (n k : Nat) : vf (fx n k) = n % 256 ^ k := by
  induction k with
  | zero => simp [fx, vf]; omega
  | succ k ih =>
    rw [fx, vf_snoc, ih, fx_length, fx_byte, Nat.pow_succ, Nat.mod_mul, Nat.mul_comm]

/-- The whole number that is laid as a number. -/
def zag (m : Nat) : Int := if m % 2 = 0 then ((m / 2 : Nat) : Int) else -((m / 2 : Nat) : Int) - 1
theorem zag_zig (n : Int) (h0 : -9223372036854775808 ≤ n) (h1 : n ≤ 9223372036854775807) : zag (zigzag n) = n := by
  unfold zag zigzag
  by_cases h : 0 ≤ n
  · rw [if_pos h, if_pos (by omega)]
    omega
  · rw [if_neg h, if_neg (by omega)]
    omega
theorem zig_zag (m : Nat) (h : m < 18446744073709551616) : zigzag (zag m) = m := by
  unfold zag
  by_cases e : m % 2 = 0
  · rw [if_pos e]
    unfold zigzag
    rw [if_pos (by omega)]
    omega
  · rw [if_neg e]
    unfold zigzag
    rw [if_neg (by omega)]
    omega
theorem zag_in (m : Nat) (h : m < 18446744073709551616) : -9223372036854775808 ≤ zag m ∧ zag m ≤ 9223372036854775807 := by
  unfold zag
  split <;> omega

/-! ### A reader, plain: what is left, and whether it is broken. -/
abbrev St := List UInt8 × Bool
def rStep (s : St) (n : Int) : List UInt8 × St :=
  if s.2 = true then ([], s) else if 0 ≤ n ∧ n ≤ (s.1.length : Int) then (s.1.take n.toNat, (s.1.drop n.toNat, false)) else ([], (s.1, true))
def rNum (s : St) : Nat × St :=
  if s.2 = true then (0, s) else match pn s.1 0 0 with | some (m, k) => (m, (s.1.drop k, false)) | none => (0, (s.1, true))
def rInt (s : St) : Int × St := (zag (rNum s).1, (rNum s).2)
def rText (s : St) (most : Int) : List UInt8 × St :=
  if s.2 = true then ([], s) else match pn s.1 0 0 with
    | none => ([], (s.1, true))
    | some (m, k) => if 0 ≤ most ∧ (m : Int) ≤ most ∧ m ≤ s.1.length - k then ((s.1.drop k).take m, (s.1.drop (k + m), false)) else ([], (s.1, true))
def rFixed (s : St) (w : Int) : Nat × St :=
  if s.2 = true then (0, s) else if 1 ≤ w ∧ w ≤ 8 ∧ w ≤ (s.1.length : Int) then (vf (s.1.take w.toNat), (s.1.drop w.toNat, false)) else (0, (s.1, true))
def rErr (s : St) : Int := if s.2 = true then 4 else 0
def rEnd (s : St) : St := (s.1, s.2 || !s.1.isEmpty)
end BytesW
end Go.Proofs.YtbnkaeigabifhaaDoor
