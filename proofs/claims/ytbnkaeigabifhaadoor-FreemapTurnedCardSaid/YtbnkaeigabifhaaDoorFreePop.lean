/-
  How many bits of a word are 1, plainly: by digits that are added pair by pair (math/bits.OnesCount64); the lowest 1 of a word, and the word without it.
-/
import Derived.Lib.TrailingZeros
namespace Go.Proofs.YtbnkaeigabifhaaDoor
set_option linter.unusedVariables false
set_option linter.unusedSimpArgs false
namespace FreP
/-- A number by its digits, of k bits each. -/
def val (k : Nat) : List Nat → Nat
  | [] => 0
  | c :: r => c + 2 ^ k * val k r
/-- Digits added pair by pair; the even ones; the odd ones. -/
def pairs : List Nat → List Nat
  | a :: b :: r => (a + b) :: pairs r
  | _ => []
def evens : List Nat → List Nat
  | a :: _ :: r => a :: evens r
  | _ => []
def odds : List Nat → List Nat
  | _ :: b :: r => b :: odds r
  | _ => []
/-- A mask of n even digits. -/
def mask (k : Nat) : Nat → Nat
  | 0 => 0
  | n + 1 => (2 ^ k - 1) + 2 ^ (2 * k) * mask k n
theorem and_split (k a b x y : Nat) (ha : a < 2 ^ k) (hb : b < 2 ^ k) : (a + 2 ^ k * x) &&& (b + 2 ^ k * y) = (a &&& b) + 2 ^ k * (x &&& y) := by
  have h1 : ((a + 2 ^ k * x) &&& (b + 2 ^ k * y)) % 2 ^ k = a &&& b := by
    rw [Nat.and_mod_two_pow, Nat.add_mul_mod_self_left, Nat.add_mul_mod_self_left, Nat.mod_eq_of_lt ha, Nat.mod_eq_of_lt hb]
  have h2 : ((a + 2 ^ k * x) &&& (b + 2 ^ k * y)) / 2 ^ k = x &&& y := by
    rw [Nat.and_div_two_pow, Nat.add_mul_div_left _ _ (Nat.two_pow_pos k), Nat.add_mul_div_left _ _ (Nat.two_pow_pos k), Nat.div_eq_of_lt ha, Nat.div_eq_of_lt hb, Nat.zero_add, Nat.zero_add]
  have := Nat.mod_add_div ((a + 2 ^ k * x) &&& (b + 2 ^ k * y)) (2 ^ k)
  rw [h1, h2] at this
  exact this.symm
theorem and_full (k a : Nat) (ha : a < 2 ^ k) : a &&& (2 ^ k - 1) = a := by rw [Nat.and_two_pow_sub_one_eq_mod, Nat.mod_eq_of_lt ha]
theorem pow_two (k : Nat) : 2 ^ (2 * k) = 2 ^ k * 2 ^ k := by rw [show 2 * k = k + k by omega, Nat.pow_add]
/-- The mask takes the even digits. -/
theorem val_mask (k : Nat) : ∀ (n : Nat) (l : List Nat), l.length = 2 * n → (∀ c ∈ l, c < 2 ^ k) → val k l &&& mask k n = val (2 * k) (evens l)
  | 0, [], _, _ => by simp [val, mask, evens]
  | 0, _ :: _, h, _ => by simp at h
  | n + 1, [], h, _ => by simp at h
  | n + 1, [_], h, _ => by simp at h; omega
  | n + 1, a :: b :: r, h, hc => by
    have ih := val_mask k n r (by simp at h; omega) (fun c q => hc c (by simp [q]))
    have ha := hc a (by simp)
    have hb := hc b (by simp)
    have hp := Nat.two_pow_pos k
    simp only [val, mask, evens]
    rw [pow_two k, show a + 2 ^ k * (b + 2 ^ k * val k r) = a + 2 ^ k * (b + 2 ^ k * val k r) from rfl, Nat.mul_assoc]
    rw [and_split k a (2 ^ k - 1) _ _ ha (by omega), and_full k a ha]
    have e : b + 2 ^ k * val k r &&& 2 ^ k * mask k n = 2 ^ k * (val k r &&& mask k n) := by
      have := and_split k b 0 (val k r) (mask k n) hb hp
      rw [Nat.zero_add, Nat.and_zero, Nat.zero_add] at this
      exact this
    rw [e, ih, Nat.mul_assoc]
/-- The first digit away. -/
theorem val_tail (k a : Nat) (r : List Nat) (ha : a < 2 ^ k) : val k (a :: r) / 2 ^ k = val k r := by
  simp only [val]
  rw [Nat.add_mul_div_left _ _ (Nat.two_pow_pos k), Nat.div_eq_of_lt ha, Nat.zero_add]
theorem evens_tail : ∀ (l : List Nat) (a : Nat) (n : Nat), l.length = 2 * n → evens (l ++ [0]).tail = odds l
  | [], _, 0, _ => rfl
  | [x], _, n, h => by simp at h; omega
  | x :: y :: [], _, n, h => rfl
  | x :: y :: z :: r, a, n, h => by
    have ih := evens_tail (z :: r) a (n - 1) (by simp at h ⊢; omega)
    simp only [List.cons_append, List.tail_cons] at ih ⊢
    cases r with
    | nil => simp at h; omega
    | cons t r =>
      simp only [List.cons_append, evens, odds] at ih ⊢
      rw [ih]
theorem val_app0 (k : Nat) : ∀ l : List Nat, val k (l ++ [0]) = val k l
  | [] => by simp [val]
  | a :: r => by simp only [List.cons_append, val]; rw [val_app0 k r]
theorem val_odd (k : Nat) (n : Nat) (l : List Nat) (h : l.length = 2 * n) (hc : ∀ c ∈ l, c < 2 ^ k) : (val k l / 2 ^ k) &&& mask k n = val (2 * k) (odds l) := by
  cases l with
  | nil =>
    have : n = 0 := by simp at h; omega
    subst this
    simp [val, mask, odds]
  | cons a r =>
    rw [val_tail k a r (hc a (by simp)), ← val_app0 k r, val_mask k n (r ++ [0]) (by simp at h ⊢; omega) (fun c q => by
      rcases List.mem_append.1 q with q | q
      · exact hc c (by simp [q])
      · have : c = 0 := by simpa using q
        subst this
        exact Nat.two_pow_pos k)]
    congr 1
    exact evens_tail (a :: r) 0 n h
theorem val_add (k : Nat) : ∀ l : List Nat, val k (evens l) + val k (odds l) = val k (pairs l)
  | [] => rfl
  | [_] => rfl
  | a :: b :: r => by
    simp only [evens, odds, pairs, val]
    rw [← val_add k r, Nat.mul_add]
    omega
theorem pairs_step (k n : Nat) (l : List Nat) (h : l.length = 2 * n) (hc : ∀ c ∈ l, c < 2 ^ k) : ((val k l / 2 ^ k) &&& mask k n) + (val k l &&& mask k n) = val (2 * k) (pairs l) := by
  rw [val_odd k n l h hc, val_mask k n l h hc, Nat.add_comm, val_add]
theorem pairs_sum : ∀ (l : List Nat) (n : Nat), l.length = 2 * n → (pairs l).sum = l.sum
  | [], _, _ => rfl
  | [_], n, h => by simp at h; omega
  | a :: b :: r, n, h => by
    simp only [pairs, List.sum_cons]
    rw [pairs_sum r (n - 1) (by simp at h; omega)]
    omega
theorem pairs_len : ∀ (l : List Nat) (n : Nat), l.length = 2 * n → (pairs l).length = n
  | [], 0, _ => rfl
  | [], n + 1, h => by simp at h
  | [_], n, h => by simp at h; omega
  | a :: b :: r, 0, h => by simp at h
  | a :: b :: r, n + 1, h => by
    simp only [pairs, List.length_cons]
    rw [pairs_len r n (by simp at h; omega)]
theorem pairs_le (m : Nat) : ∀ (l : List Nat), (∀ c ∈ l, c ≤ m) → ∀ c ∈ pairs l, c ≤ 2 * m
  | [], _, c, h => by simp [pairs] at h
  | [_], _, c, h => by simp [pairs] at h
  | a :: b :: r, hc, c, h => by
    simp only [pairs, List.mem_cons] at h
    rcases h with rfl | h
    · have := hc a (by simp)
      have := hc b (by simp)
      omega
    · exact pairs_le m r (fun c q => hc c (by simp [q])) c h
/-- Each digit and the one behind it. -/
def adj : List Nat → List Nat
  | a :: b :: r => (a + b) :: adj (b :: r)
  | [a] => [a]
  | [] => []
theorem adj_len : ∀ l : List Nat, (adj l).length = l.length
  | [] => rfl
  | [_] => rfl
  | a :: b :: r => by
    simp only [adj, List.length_cons]
    rw [adj_len (b :: r)]
    rfl
theorem val_adj (k : Nat) : ∀ l : List Nat, val k (adj l) = val k l.tail + val k l
  | [] => rfl
  | [a] => by simp [adj, val]
  | a :: b :: r => by
    have ih := val_adj k (b :: r)
    simp only [adj, val, List.tail_cons] at ih ⊢
    rw [ih, Nat.mul_add]
    omega
theorem adj_lt (m : Nat) : ∀ l : List Nat, (∀ c ∈ l, 2 * c < m) → ∀ c ∈ adj l, c < m
  | [], _, c, h => by simp [adj] at h
  | [a], hc, c, h => by
    have : c = a := by simpa [adj] using h
    subst this
    have := hc c (by simp)
    omega
  | a :: b :: r, hc, c, h => by
    simp only [adj, List.mem_cons] at h
    rcases h with rfl | h
    · have := hc a (by simp)
      have := hc b (by simp)
      omega
    · exact adj_lt m (b :: r) (fun c q => hc c (by simp only [List.mem_cons] at q ⊢; rcases q with q | q <;> simp [q])) c h
theorem evens_adj : ∀ (n : Nat) (l : List Nat), l.length = 2 * n → evens (adj l) = pairs l
  | 0, [], _ => rfl
  | 0, _ :: _, h => by simp at h
  | n + 1, [], h => by simp at h
  | n + 1, [_], h => by simp at h; omega
  | n + 1, [a, b], _ => rfl
  | n + 1, [a, b, c], h => by simp at h; omega
  | n + 1, a :: b :: c :: d :: r, h => by
    have ih := evens_adj n (c :: d :: r) (by simp at h ⊢; omega)
    simp only [adj, evens, pairs] at ih ⊢
    rw [ih]
/-- The step that adds first and masks then: digits small enough for their sum. -/
theorem sums_step (k n : Nat) (l : List Nat) (h : l.length = 2 * n) (hc : ∀ c ∈ l, 2 * c < 2 ^ k) : (val k l / 2 ^ k + val k l) &&& mask k n = val (2 * k) (pairs l) := by
  have e : val k l / 2 ^ k + val k l = val k (adj l) := by
    rw [val_adj]
    cases l with
    | nil => simp [val]
    | cons a r =>
      rw [val_tail k a r (by have := hc a (by simp); omega)]
      rfl
  rw [e, val_mask k n _ (by rw [adj_len, h]) (adj_lt _ l hc), evens_adj n l h]
/-- A number's bits. -/
def bitsN : Nat → Nat → List Nat
  | 0, _ => []
  | n + 1, x => x % 2 :: bitsN n (x / 2)
theorem bitsN_len : ∀ (n x : Nat), (bitsN n x).length = n
  | 0, _ => rfl
  | n + 1, x => by simp only [bitsN, List.length_cons]; rw [bitsN_len n]
theorem bitsN_le : ∀ (n x : Nat), ∀ c ∈ bitsN n x, c ≤ 1
  | 0, _, c, h => by simp [bitsN] at h
  | n + 1, x, c, h => by
    simp only [bitsN, List.mem_cons] at h
    rcases h with rfl | h
    · omega
    · exact bitsN_le n _ c h
theorem val_bits : ∀ (n x : Nat), x < 2 ^ n → val 1 (bitsN n x) = x
  | 0, x, h => by simp at h; subst h; rfl
  | n + 1, x, h => by
    simp only [bitsN, val]
    rw [val_bits n (x / 2) (by rw [Nat.pow_succ] at h; omega)]
    omega
/-- How many of a number's n lowest bits are 1. -/
def pop (n x : Nat) : Nat := (bitsN n x).sum
theorem len8 : ∀ l : List Nat, l.length = 8 → ∃ a b c d e f g h, l = [a, b, c, d, e, f, g, h]
  | [a, b, c, d, e, f, g, h], _ => ⟨a, b, c, d, e, f, g, h, rfl⟩
  | [], h | [_], h | [_, _], h | [_, _, _], h | [_, _, _, _], h | [_, _, _, _, _], h | [_, _, _, _, _, _], h | [_, _, _, _, _, _, _], h => by simp at h
  | _ :: _ :: _ :: _ :: _ :: _ :: _ :: _ :: _ :: _, h => by simp at h
theorem div_rest (r k q : Nat) (h : r < k) : (r + k * q) / k = q := by rw [Nat.add_mul_div_left _ _ (by omega), Nat.div_eq_of_lt h, Nat.zero_add]
/-- Eight digits of at most 8. -/
theorem last_sum (l : List Nat) (hl : l.length = 8) (hc : ∀ c ∈ l, c ≤ 8) : ∃ y z t, val 8 l + val 8 l / 256 = y ∧ y + y / 65536 = z ∧ z + z / 4294967296 = t ∧ t % 128 = l.sum ∧ t < 9223372036854775808 ∧ l.sum ≤ 64 := by
  obtain ⟨a, b, c, d, e, f, g, h, rfl⟩ := len8 l hl
  have ha := hc a (by simp)
  have hb := hc b (by simp)
  have hc' := hc c (by simp)
  have hd := hc d (by simp)
  have he := hc e (by simp)
  have hf := hc f (by simp)
  have hg := hc g (by simp)
  have hh := hc h (by simp)
  have e0 : val 8 [a, b, c, d, e, f, g, h] = a + 256 * (b + 256 * c + 65536 * d + 16777216 * e + 4294967296 * f + 1099511627776 * g + 281474976710656 * h) := by
    clear ha hb hc' hd he hf hg hh hc hl
    simp only [val]
    omega
  have es : [a, b, c, d, e, f, g, h].sum = a + b + c + d + e + f + g + h := by
    clear ha hb hc' hd he hf hg hh hc hl
    simp only [List.sum_cons, List.sum_nil]
    omega
  have e1 : a + 256 * (b + 256 * c + 65536 * d + 16777216 * e + 4294967296 * f + 1099511627776 * g + 281474976710656 * h) + (b + 256 * c + 65536 * d + 16777216 * e + 4294967296 * f + 1099511627776 * g + 281474976710656 * h) = a + 257 * b + 256 * c + 65536 * (c + 257 * d + 65792 * e + 16842752 * f + 4311744512 * g + 1103806595072 * h) := by
    clear ha hb hc' hd he hf hg hh hc hl e0 es
    omega
  have e2 : a + 257 * b + 256 * c + 65536 * (c + 257 * d + 65792 * e + 16842752 * f + 4311744512 * g + 1103806595072 * h) + (c + 257 * d + 65792 * e + 16842752 * f + 4311744512 * g + 1103806595072 * h) = a + 257 * b + 65793 * c + 16843009 * d + 16843008 * e + 16842752 * f + 16777216 * g + 4294967296 * (e + 257 * f + 65793 * g + 16843009 * h) := by
    clear ha hb hc' hd he hf hg hh hc hl e0 es e1
    omega
  have e3 : a + 257 * b + 65793 * c + 16843009 * d + 16843008 * e + 16842752 * f + 16777216 * g + 4294967296 * (e + 257 * f + 65793 * g + 16843009 * h) + (e + 257 * f + 65793 * g + 16843009 * h) = a + b + c + d + e + f + g + h + 128 * (2 * b + 514 * c + 131586 * d + 33686018 * e + 8623620610 * f + 2207646876162 * g + 565157600297474 * h) := by
    clear ha hb hc' hd he hf hg hh hc hl e0 es e1 e2
    omega
  have b1 : a < 256 := by omega
  have b2 : a + 257 * b + 256 * c < 65536 := by clear e0 es e1 e2 e3; omega
  have b3 : a + 257 * b + 65793 * c + 16843009 * d + 16843008 * e + 16842752 * f + 16777216 * g < 4294967296 := by clear e0 es e1 e2 e3; omega
  have b4 : a + b + c + d + e + f + g + h ≤ 64 := by clear e0 es e1 e2 e3; omega
  have b5 : a + b + c + d + e + f + g + h + 128 * (2 * b + 514 * c + 131586 * d + 33686018 * e + 8623620610 * f + 2207646876162 * g + 565157600297474 * h) < 9223372036854775808 := by clear e0 es e1 e2 e3; omega
  refine ⟨_, _, _, rfl, rfl, rfl, ?_⟩
  rw [e0, es, div_rest _ _ _ b1, e1, div_rest _ _ _ b2, e2, div_rest _ _ _ b3, e3]
  refine ⟨?_, b5, b4⟩
  rw [Nat.add_mul_mod_self_left, Nat.mod_eq_of_lt (Nat.lt_of_le_of_lt b4 (by decide))]
def m0 : Nat := 6148914691236517205
def m1 : Nat := 3689348814741910323
def m2 : Nat := 1085102592571150095
theorem m0_is : mask 1 32 = m0 := by decide +kernel
theorem m1_is : mask 2 16 = m1 := by decide +kernel
theorem m2_is : mask 4 8 = m2 := by decide +kernel
/-- How OnesCount64 goes: three steps that mask, three that add. -/
theorem pop_steps (x : Nat) (hx : x < 18446744073709551616) : ∃ x1 x2 x3 y z t, (x / 2 &&& m0) + (x &&& m0) = x1 ∧ (x1 / 4 &&& m1) + (x1 &&& m1) = x2 ∧ x2 / 16 + x2 &&& m2 = x3 ∧
    x3 + x3 / 256 = y ∧ y + y / 65536 = z ∧ z + z / 4294967296 = t ∧ t % 128 = pop 64 x ∧ x1 < 18446744073709551616 ∧ x2 / 16 + x2 < 18446744073709551616 ∧ t < 9223372036854775808 ∧ pop 64 x ≤ 64 := by
  have h0 := bitsN_len 64 x
  have l0 := bitsN_le 64 x
  have v0 := val_bits 64 x hx
  have s1 := pairs_step 1 32 _ h0 (fun c q => by have := l0 c q; omega)
  have h1 := pairs_len _ 32 h0
  have l1 := pairs_le 1 _ l0
  have s2 := pairs_step 2 16 _ h1 (fun c q => by have := l1 c q; omega)
  have h2 := pairs_len _ 16 h1
  have l2 := pairs_le 2 _ l1
  have s3 := sums_step 4 8 _ h2 (fun c q => by have := l2 c q; omega)
  have h3 := pairs_len _ 8 h2
  have l3 := pairs_le 4 _ l2
  obtain ⟨y, z, t, e1, e2, e3, e4, e5, e6⟩ := last_sum _ h3 l3
  have es : (pairs (pairs (pairs (bitsN 64 x)))).sum = pop 64 x := by
    rw [pairs_sum _ 8 h2, pairs_sum _ 16 h1, pairs_sum _ 32 h0]
    rfl
  rw [m0_is, v0] at s1
  rw [m1_is] at s2
  rw [m2_is] at s3
  rw [es] at e4 e6
  have b0 : val 2 (pairs (bitsN 64 x)) < 18446744073709551616 := by
    have a : x / 2 &&& m0 ≤ m0 := Nat.and_le_right
    have b : x &&& m0 ≤ m0 := Nat.and_le_right
    have : m0 = 6148914691236517205 := rfl
    have s1' : (x / 2 &&& m0) + (x &&& m0) = val 2 (pairs (bitsN 64 x)) := s1
    omega
  have b1 : val 4 (pairs (pairs (bitsN 64 x))) ≤ 7378697629483820646 := by
    have s2' : (val 2 (pairs (bitsN 64 x)) / 4 &&& m1) + (val 2 (pairs (bitsN 64 x)) &&& m1) = val 4 (pairs (pairs (bitsN 64 x))) := s2
    have a : val 2 (pairs (bitsN 64 x)) / 4 &&& m1 ≤ m1 := Nat.and_le_right
    have b : val 2 (pairs (bitsN 64 x)) &&& m1 ≤ m1 := Nat.and_le_right
    have : m1 = 3689348814741910323 := rfl
    omega
  have b2 : val (2 * 2) (pairs (pairs (bitsN 64 x))) ≤ 7378697629483820646 := b1
  exact ⟨_, _, _, y, z, t, s1, s2, s3, e1, e2, e3, e4, b0, by clear e1 e2 e3 e4 e5 e6 s1 s2 s3 h0 h1 h2 h3 b0; omega, e5, e6⟩
/-- A sum over the first n numbers. -/
theorem pop_succ (n x : Nat) : pop (n + 1) x = x % 2 + pop n (x / 2) := rfl
theorem pop_bits : ∀ (n x : Nat) , pop n x = ((List.range n).map fun t => (x.testBit t).toNat).sum
  | 0, x => rfl
  | n + 1, x => by
    rw [pop_succ, pop_bits n, List.range_succ_eq_map, List.map_cons, List.sum_cons, List.map_map]
    congr 1
    · rw [Nat.testBit_zero]
      rcases Nat.mod_two_eq_zero_or_one x with h | h <;> simp [h]
    · congr 1
      apply List.map_congr_left
      intro t _
      simp only [Function.comp_apply]
      rw [Nat.testBit_succ]
end FreP
end Go.Proofs.YtbnkaeigabifhaaDoor
