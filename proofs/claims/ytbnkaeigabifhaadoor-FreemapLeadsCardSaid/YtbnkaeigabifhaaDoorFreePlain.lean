/-
  A map of free sectors, plainly: a bool a sector; its words, its homes, what is taken and turned.
-/
import Derived.Test.YtbnkaeigabifhaaDoorFreePop
import Derived.Test.YtbnkaeigabifhaaDoorCrcBurstP
import Derived.Test.YtbnkaeigabifhaaDoorBytesPlain
namespace Go.Proofs.YtbnkaeigabifhaaDoor
set_option linter.unusedVariables false
set_option linter.unusedSimpArgs false
namespace FreP
/-! ### Words -/
/-- The n bits from p on, the lowest first. -/
def wordN (f : Nat → Bool) : Nat → Nat → Nat
  | 0, _ => 0
  | n + 1, p => (f p).toNat + 2 * wordN f n (p + 1)
theorem bool_lt (b : Bool) : b.toNat < 2 := by cases b <;> decide
theorem wordN_lt (f : Nat → Bool) : ∀ n p, wordN f n p < 2 ^ n
  | 0, _ => by simp [wordN]
  | n + 1, p => by
    have := wordN_lt f n (p + 1)
    have := bool_lt (f p)
    simp only [wordN]
    rw [Nat.pow_succ]
    omega
theorem testBit_add2 (b : Bool) (r t : Nat) : (b.toNat + 2 * r).testBit t = if t = 0 then b else r.testBit (t - 1) := by
  cases t with
  | zero => cases b <;> simp [Nat.testBit_zero, Nat.add_mod, Nat.mul_mod]
  | succ t =>
    rw [Nat.testBit_succ, show (b.toNat + 2 * r) / 2 = r by have := bool_lt b; omega]
    simp
theorem wordN_bit (f : Nat → Bool) : ∀ n p t, (wordN f n p).testBit t = (decide (t < n) && f (p + t))
  | 0, p, t => by simp [wordN]
  | n + 1, p, t => by
    simp only [wordN]
    rw [testBit_add2]
    cases t with
    | zero => simp
    | succ t =>
      rw [if_neg (by omega), wordN_bit f n (p + 1) (t + 1 - 1), show p + 1 + (t + 1 - 1) = p + (t + 1) by omega]
      congr 1
      simp
theorem wordN_congr {f g : Nat → Bool} {n p q : Nat} (h : ∀ t, t < n → f (p + t) = g (q + t)) : wordN f n p = wordN g n q := by
  apply Nat.eq_of_testBit_eq
  intro t
  rw [wordN_bit, wordN_bit]
  by_cases ht : t < n
  · rw [h t ht]
  · simp [ht]
theorem wordN_zero {f : Nat → Bool} {n p : Nat} (h : ∀ t, t < n → f (p + t) = false) : wordN f n p = 0 := by
  apply Nat.eq_of_testBit_eq
  intro t
  rw [wordN_bit, Nat.zero_testBit]
  by_cases ht : t < n
  · rw [h t ht, Bool.and_false]
  · simp [ht]
/-- One bit more. -/
theorem wordN_succ (f : Nat → Bool) (t p : Nat) : wordN f (t + 1) p = wordN f t p + (f (p + t)).toNat * 2 ^ t := by
  induction t generalizing p with
  | zero => simp [wordN]
  | succ t ih =>
    have h := ih (p + 1)
    rw [show wordN f (t + 1 + 1) p = (f p).toNat + 2 * wordN f (t + 1) (p + 1) from rfl, h, show wordN f (t + 1) p = (f p).toNat + 2 * wordN f t (p + 1) from rfl, Nat.pow_succ, show p + 1 + t = p + (t + 1) by omega, Nat.mul_add]
    have e : ∀ x y : Nat, 2 * (x * y) = x * (y * 2) := fun x y => by rw [Nat.mul_left_comm, Nat.mul_comm 2 y]
    rw [e]
    omega
/-- Eight bits out of a word. -/
theorem word_shift (f : Nat → Bool) (p s : Nat) (h : s + 8 ≤ 64) : wordN f 64 p / 2 ^ s % 256 = wordN f 8 (p + s) := by
  apply Nat.eq_of_testBit_eq
  intro t
  rw [show (256 : Nat) = 2 ^ 8 from rfl, Nat.testBit_mod_two_pow, Nat.testBit_div_two_pow, wordN_bit, wordN_bit]
  by_cases ht : t < 8
  · simp [ht, show s + t < 64 by omega, show t + s < 64 by omega, Nat.add_assoc, Nat.add_comm s t]
  · simp [ht]
/-- A bit turned, a bit set, a bit asked. -/
theorem word_xor {f g : Nat → Bool} {p t : Nat} (ht : t < 64) (h1 : g (p + t) = !f (p + t)) (h2 : ∀ x, x ≠ p + t → g x = f x) : wordN f 64 p ^^^ 2 ^ t = wordN g 64 p := by
  apply Nat.eq_of_testBit_eq
  intro j
  rw [Nat.testBit_xor, Nat.testBit_two_pow, wordN_bit, wordN_bit]
  by_cases e : t = j
  · subst e
    simp [ht, h1]
  · rw [h2 (p + j) (by omega)]
    simp [e]
theorem word_or {f g : Nat → Bool} {p t : Nat} (ht : t < 64) (h1 : g (p + t) = true) (h2 : ∀ x, x ≠ p + t → g x = f x) : wordN f 64 p ||| 2 ^ t = wordN g 64 p := by
  apply Nat.eq_of_testBit_eq
  intro j
  rw [Nat.testBit_or, Nat.testBit_two_pow, wordN_bit, wordN_bit]
  by_cases e : t = j
  · subst e
    simp [ht, h1]
  · rw [h2 (p + j) (by omega)]
    simp [e]
theorem word_and {f : Nat → Bool} {p t : Nat} (ht : t < 64) : wordN f 64 p &&& 2 ^ t = if f (p + t) then 2 ^ t else 0 := by
  apply Nat.eq_of_testBit_eq
  intro j
  rw [Nat.testBit_and, Nat.testBit_two_pow, wordN_bit]
  by_cases e : t = j
  · subst e
    cases h : f (p + t) <;> simp [ht, Nat.testBit_two_pow]
  · cases h : f (p + t) <;> simp [e, Nat.testBit_two_pow]
/-! ### How many -/
/-- How many of the n from a on. -/
def cnt (f : Nat → Bool) : Nat → Nat → Nat
  | _, 0 => 0
  | a, n + 1 => (f a).toNat + cnt f (a + 1) n
theorem cnt_add (f : Nat → Bool) : ∀ n a m, cnt f a (n + m) = cnt f a n + cnt f (a + n) m
  | 0, a, m => by simp [cnt]
  | n + 1, a, m => by
    rw [show n + 1 + m = (n + m) + 1 by omega]
    simp only [cnt]
    rw [cnt_add f n (a + 1) m, show a + 1 + n = a + (n + 1) by omega]
    omega
theorem cnt_succ (f : Nat → Bool) (a n : Nat) : cnt f a (n + 1) = cnt f a n + (f (a + n)).toNat := by
  rw [cnt_add]
  simp [cnt]
theorem cnt_le (f : Nat → Bool) : ∀ n a, cnt f a n ≤ n
  | 0, _ => Nat.le_refl _
  | n + 1, a => by
    have := cnt_le f n (a + 1)
    have := bool_lt (f a)
    simp only [cnt]
    omega
theorem cnt_none {f : Nat → Bool} : ∀ {n a : Nat}, (∀ t, t < n → f (a + t) = false) → cnt f a n = 0
  | 0, _, _ => rfl
  | n + 1, a, h => by
    simp only [cnt]
    rw [show f a = false from h 0 (by omega), cnt_none (fun t ht => by rw [show a + 1 + t = a + (t + 1) by omega]; exact h (t + 1) (by omega))]
    rfl
theorem cnt_congr {f g : Nat → Bool} : ∀ {n a : Nat}, (∀ t, t < n → f (a + t) = g (a + t)) → cnt f a n = cnt g a n
  | 0, _, _ => rfl
  | n + 1, a, h => by
    simp only [cnt]
    rw [show f a = g a from h 0 (by omega), cnt_congr (f := f) (g := g) (n := n) (a := a + 1) (fun t ht => by have := h (t + 1) (by omega); rwa [show a + (t + 1) = a + 1 + t by omega] at this)]
theorem pop_word (f : Nat → Bool) : ∀ n p, pop n (wordN f n p) = cnt f p n
  | 0, _ => rfl
  | n + 1, p => by
    have hb := bool_lt (f p)
    rw [pop_succ]
    simp only [wordN, cnt]
    rw [show ((f p).toNat + 2 * wordN f n (p + 1)) % 2 = (f p).toNat by omega, show ((f p).toNat + 2 * wordN f n (p + 1)) / 2 = wordN f n (p + 1) by omega, pop_word f n (p + 1)]
/-! ### Which -/
/-- Those of the n from a on, rising. -/
def frees (f : Nat → Bool) : Nat → Nat → List Int
  | _, 0 => []
  | a, n + 1 => if f a then (a : Int) :: frees f (a + 1) n else frees f (a + 1) n
theorem frees_add (f : Nat → Bool) : ∀ n a m, frees f a (n + m) = frees f a n ++ frees f (a + n) m
  | 0, a, m => by simp [frees]
  | n + 1, a, m => by
    rw [show n + 1 + m = (n + m) + 1 by omega]
    simp only [frees]
    rw [frees_add f n (a + 1) m, show a + 1 + n = a + (n + 1) by omega]
    split <;> simp
theorem frees_succ (f : Nat → Bool) (a n : Nat) : frees f a (n + 1) = frees f a n ++ (if f (a + n) then [((a + n : Nat) : Int)] else []) := by
  rw [frees_add]
  simp only [frees]
theorem frees_len (f : Nat → Bool) : ∀ n a, (frees f a n).length = cnt f a n
  | 0, _ => rfl
  | n + 1, a => by
    simp only [frees, cnt]
    cases h : f a
    · rw [if_neg (by simp), frees_len f n (a + 1)]
      simp
    · rw [if_pos rfl, List.length_cons, frees_len f n (a + 1)]
      simp
      omega
theorem frees_none {f : Nat → Bool} {n a : Nat} (h : ∀ t, t < n → f (a + t) = false) : frees f a n = [] := by
  apply List.eq_nil_of_length_eq_zero
  rw [frees_len, cnt_none h]
theorem frees_mem (f : Nat → Bool) : ∀ n a (x : Int), x ∈ frees f a n ↔ (a : Int) ≤ x ∧ x < ((a + n : Nat) : Int) ∧ f x.toNat = true
  | 0, a, x => by
    simp [frees]
    omega
  | n + 1, a, x => by
    have ih := frees_mem f n (a + 1) x
    simp only [frees]
    by_cases e : x = (a : Int)
    · subst e
      cases h : f a
      · rw [if_neg (by simp), ih]
        simp [h]
      · rw [if_pos rfl]
        simp [h]
        omega
    · cases h : f a
      · rw [if_neg (by simp), ih]
        constructor
        · rintro ⟨h1, h2, h3⟩
          exact ⟨by omega, by omega, h3⟩
        · rintro ⟨h1, h2, h3⟩
          exact ⟨by omega, by omega, h3⟩
      · rw [if_pos rfl, List.mem_cons, ih]
        constructor
        · rintro (h1 | ⟨h1, h2, h3⟩)
          · exact absurd h1 e
          · exact ⟨by omega, by omega, h3⟩
        · rintro ⟨h1, h2, h3⟩
          exact .inr ⟨by omega, by omega, h3⟩
theorem frees_congr {f g : Nat → Bool} : ∀ {n a : Nat}, (∀ t, t < n → f (a + t) = g (a + t)) → frees f a n = frees g a n
  | 0, _, _ => rfl
  | n + 1, a, h => by
    simp only [frees]
    rw [show f a = g a from h 0 (by omega), frees_congr (f := f) (g := g) (n := n) (a := a + 1) (fun t ht => by have := h (t + 1) (by omega); rwa [show a + (t + 1) = a + 1 + t by omega] at this)]
/-! ### The lowest bit -/
def bitF (x : Nat) (t : Nat) : Bool := x.testBit t
/-- A word's bits that are 1, each with so much added. -/
def lows (x : Nat) (b : Nat) : List Int := frees (fun i => x.testBit (i - b)) b 64
theorem lows_word (f : Nat → Bool) (p : Nat) : lows (wordN f 64 p) p = frees f p 64 := by
  unfold lows
  refine frees_congr fun t ht => ?_
  rw [wordN_bit, show p + t - p = t by omega]
  simp [ht]
theorem lows_zero (b : Nat) : lows 0 b = [] := frees_none fun t _ => by simp
theorem low_form {x : Nat} (h0 : x ≠ 0) (hx : x < 18446744073709551616) : ∃ m, x = 2 ^ Lib.ctz 64 x * (2 * m + 1) ∧ Lib.ctz 64 x < 64 := by
  have := Lib.ctzFrom_spec 64 x (by omega) hx
  have e : Lib.ctz 64 x = Lib.ctzFrom 64 x := by simp [Lib.ctz, h0]
  rw [e]
  exact this
theorem odd_bit (k m t : Nat) : (2 ^ k * (2 * m + 1)).testBit t = (decide (t = k) || (decide (k < t) && m.testBit (t - k - 1))) := by
  rw [Nat.mul_comm, Nat.testBit_mul_two_pow]
  by_cases h : k ≤ t
  · obtain ⟨d, rfl⟩ : ∃ d, t = k + d := ⟨t - k, by omega⟩
    rw [show k + d - k = d by omega]
    cases d with
    | zero => simp
    | succ d =>
      rw [Nat.testBit_succ, show (2 * m + 1) / 2 = m by omega]
      simp
  · simp [h, show ¬ t = k by omega, show ¬ k < t by omega]
theorem clear_low {x : Nat} (h0 : x ≠ 0) (hx : x < 18446744073709551616) (t : Nat) : (x &&& (x - 1)).testBit t = (decide (t ≠ Lib.ctz 64 x) && x.testBit t) := by
  obtain ⟨m, hm, hk⟩ := low_form h0 hx
  generalize Lib.ctz 64 x = k at hm hk ⊢
  have e1 : x - 1 = 2 ^ k * (2 * m) + (2 ^ k - 1) := by
    rw [hm, Nat.mul_add, Nat.mul_one]
    have := Nat.two_pow_pos k
    omega
  rw [Nat.testBit_and, e1, hm, odd_bit]
  by_cases h : t < k
  · simp [show ¬ t = k by omega, show ¬ k < t by omega]
  · by_cases e : t = k
    · subst e
      have : (2 ^ t * (2 * m) + (2 ^ t - 1)).testBit t = false := by
        rw [Nat.testBit_two_pow_mul_add _ (by have := Nat.two_pow_pos t; omega)]
        simp
      rw [this]
      simp
    · have : (2 ^ k * (2 * m) + (2 ^ k - 1)).testBit t = m.testBit (t - k - 1) := by
        rw [Nat.testBit_two_pow_mul_add _ (by have := Nat.two_pow_pos k; omega), if_neg (by omega)]
        obtain ⟨d, hd⟩ : ∃ d, t - k = d + 1 := ⟨t - k - 1, by omega⟩
        rw [hd, Nat.testBit_succ, show 2 * m / 2 = m by omega]
        rfl
      rw [this]
      simp [e]
theorem low_is {x : Nat} (h0 : x ≠ 0) (hx : x < 18446744073709551616) : x.testBit (Lib.ctz 64 x) = true ∧ ∀ t, t < Lib.ctz 64 x → x.testBit t = false := by
  obtain ⟨m, hm, hk⟩ := low_form h0 hx
  generalize Lib.ctz 64 x = k at hm hk ⊢
  subst hm
  refine ⟨by rw [odd_bit]; simp, fun t ht => ?_⟩
  rw [odd_bit]
  simp [show ¬ t = k by omega, show ¬ k < t by omega]
/-- The lowest one ahead of all others. -/
theorem lows_cons {x : Nat} (h0 : x ≠ 0) (hx : x < 18446744073709551616) (b : Nat) : lows x b = ((b + Lib.ctz 64 x : Nat) : Int) :: lows (x &&& (x - 1)) b := by
  obtain ⟨h1, h2⟩ := low_is h0 hx
  obtain ⟨_, _, hk⟩ := low_form h0 hx
  have hc := clear_low h0 hx
  generalize Lib.ctz 64 x = k at h1 h2 hk hc ⊢
  unfold lows
  obtain ⟨d, hd⟩ : ∃ d, 64 = k + (1 + d) := ⟨63 - k, by omega⟩
  rw [hd, frees_add, frees_add _ k, frees_add _ 1, frees_add _ 1]
  rw [frees_none (n := k) (a := b) (fun t ht => by rw [show b + t - b = t by omega]; exact h2 t ht), frees_none (n := k) (a := b) (fun t ht => by rw [show b + t - b = t by omega, hc, h2 t ht, Bool.and_false])]
  have e1 : frees (fun i => x.testBit (i - b)) (b + k) 1 = [((b + k : Nat) : Int)] := by
    simp only [frees]
    have : x.testBit (b + k - b) = true := by rw [show b + k - b = k by omega]; exact h1
    rw [if_pos this]
  have e2 : frees (fun i => (x &&& (x - 1)).testBit (i - b)) (b + k) 1 = [] := by
    simp only [frees]
    have : (x &&& (x - 1)).testBit (b + k - b) = false := by rw [show b + k - b = k by omega, hc]; simp
    rw [if_neg (by rw [this]; simp)]
  rw [e1, e2, List.nil_append, List.nil_append, List.nil_append, List.singleton_append]
  congr 1
  refine frees_congr fun t ht => ?_
  rw [show b + k + 1 + t - b = k + 1 + t by omega, hc]
  simp
  omega
theorem clear_lt {x : Nat} (hx : x < 18446744073709551616) : x &&& (x - 1) < 18446744073709551616 := Nat.lt_of_le_of_lt Nat.and_le_left hx
/-! ### Sectors -/
/-- Is sector i free? -/
def has (L : List Bool) (i : Nat) : Bool := L.getD i false
theorem has_lt {L : List Bool} {i : Nat} (h : i < L.length) : L[i]? = some (has L i) := by
  unfold has
  rw [List.getD_eq_getElem?_getD, List.getElem?_eq_getElem h]
  rfl
theorem has_ge {L : List Bool} {i : Nat} (h : L.length ≤ i) : has L i = false := by
  unfold has
  rw [List.getD_eq_getElem?_getD, List.getElem?_eq_none h]
  rfl
theorem has_true {L : List Bool} {i : Nat} (h : has L i = true) : i < L.length := by
  rcases Nat.lt_or_ge i L.length with q | q
  · exact q
  · rw [has_ge q] at h
    cases h
theorem has_ext {L M : List Bool} (hl : L.length = M.length) (h : ∀ i, i < L.length → has L i = has M i) : L = M := by
  apply List.ext_getElem? 
  intro i
  rcases Nat.lt_or_ge i L.length with q | q
  · rw [has_lt q, has_lt (by omega), h i q]
  · rw [List.getElem?_eq_none q, List.getElem?_eq_none (by omega)]
theorem has_set (L : List Bool) (i j : Nat) (b : Bool) : has (L.set i b) j = if i = j ∧ i < L.length then b else has L j := by
  unfold has
  simp only [List.getD_eq_getElem?_getD, List.getElem?_set]
  by_cases e : i = j
  · subst e
    by_cases h : i < L.length
    · simp [h]
    · simp [h]
  · simp [e]
/-- A sector that is turned. -/
def flip (L : List Bool) (x : Int) : List Bool := L.set x.toNat (!has L x.toNat)
def flips (L : List Bool) (l : List Int) : List Bool := l.foldl flip L
theorem flip_len (L : List Bool) (x : Int) : (flip L x).length = L.length := by simp [flip]
theorem flips_len : ∀ (l : List Int) (L : List Bool), (flips L l).length = L.length
  | [], _ => rfl
  | x :: r, L => by
    show (flips (flip L x) r).length = _
    rw [flips_len r, flip_len]
theorem has_flip (L : List Bool) (x : Int) (j : Nat) : has (flip L x) j = if x.toNat = j ∧ j < L.length then !has L j else has L j := by
  unfold flip
  rw [has_set]
  by_cases e : x.toNat = j
  · subst e
    rfl
  · simp [e]
theorem flip_flip (L : List Bool) (x : Int) : flip (flip L x) x = L := by
  refine has_ext (by simp [flip_len]) fun i hi => ?_
  rw [has_flip, has_flip, flip_len]
  split <;> simp_all
theorem flip_comm (L : List Bool) (x y : Int) : flip (flip L x) y = flip (flip L y) x := by
  refine has_ext (by simp [flip_len]) fun i hi => ?_
  rw [has_flip, has_flip, has_flip, has_flip, flip_len, flip_len]
  split <;> split <;> simp_all
theorem flips_flip : ∀ (l : List Int) (L : List Bool) (x : Int), flips (flip L x) l = flip (flips L l) x
  | [], _, _ => rfl
  | y :: r, L, x => by
    show flips (flip (flip L x) y) r = flip (flips (flip L y) r) x
    rw [flip_comm, flips_flip r]
theorem flips_back : ∀ (l : List Int) (L : List Bool), flips (flips L l) l = L
  | [], _ => rfl
  | x :: r, L => by
    show flips (flip (flips (flip L x) r) x) r = L
    rw [flips_flip, flips_back r, flip_flip]
theorem flips_app (L : List Bool) (a b : List Int) : flips L (a ++ b) = flips (flips L a) b := List.foldl_append ..
theorem flips_take {l : List Int} {i : Nat} {x : Int} (h : l[i]? = some x) (L : List Bool) : flips L (l.take (i + 1)) = flip (flips L (l.take i)) x := by
  rw [List.take_add_one, h, flips_app]
  rfl
/-- Those of a list that rises are turned just once. -/
theorem has_flips_not : ∀ (l : List Int) (L : List Bool) (j : Nat), (∀ x ∈ l, x.toNat ≠ j) → has (flips L l) j = has L j
  | [], _, _, _ => rfl
  | x :: r, L, j, h => by
    show has (flips (flip L x) r) j = _
    rw [has_flips_not r _ j (fun y hy => h y (by simp [hy])), has_flip, if_neg (fun q => h x (by simp) q.1)]
/-! ### Give and Keep -/
def inL (L : List Bool) (x : Int) : Bool := decide (0 ≤ x) && decide (x < L.length)
theorem inL_iff {L : List Bool} {x : Int} : inL L x = true ↔ 0 ≤ x ∧ x < L.length := by simp [inL]
def okL (so : Bool) (L : List Bool) (x : Int) : Bool := inL L x && (has L x.toNat == so)
/-- All of the list, each so, are turned. -/
def turn (so : Bool) : List Int → List Bool → Option (List Bool)
  | [], L => some L
  | x :: r, L => if okL so L x then turn so r (flip L x) else none
theorem turn_len {so : Bool} : ∀ {l : List Int} {L M : List Bool}, turn so l L = some M → M.length = L.length
  | [], L, M, h => by
    have : L = M := by simpa [turn] using h
    rw [this]
  | x :: r, L, M, h => by
    unfold turn at h
    split at h
    · rw [turn_len h, flip_len]
    · cases h
theorem turn_flips {so : Bool} : ∀ {l : List Int} {L M : List Bool}, turn so l L = some M → M = flips L l
  | [], L, M, h => by
    have : L = M := by simpa [turn] using h
    exact this.symm
  | x :: r, L, M, h => by
    unfold turn at h
    split at h
    · exact turn_flips (l := r) h
    · cases h
theorem turn_drop {so : Bool} {l : List Int} {i : Nat} {x : Int} (h : l[i]? = some x) (M : List Bool) : turn so (l.drop i) M = if okL so M x then turn so (l.drop (i + 1)) (flip M x) else none := by
  have hl := (List.getElem?_eq_some_iff.1 h).1
  have e : l.drop i = x :: l.drop (i + 1) := by
    rw [List.drop_eq_getElem_cons hl]
    congr 1
    exact (List.getElem?_eq_some_iff.1 h).2
  rw [e]
  rfl
/-- What Give and Keep leave, and what they answer. -/
def turnL (so : Bool) (l : List Int) (L : List Bool) : List Bool := (turn so l L).getD L
def turnE (so : Bool) (l : List Int) (L : List Bool) : Int := if (turn so l L).isSome then 0 else 2
theorem turnL_len (so : Bool) (l : List Int) (L : List Bool) : (turnL so l L).length = L.length := by
  unfold turnL
  cases h : turn so l L with
  | none => rfl
  | some M => exact turn_len h
/-! ### Take -/
def free (L : List Bool) : Nat := cnt (has L) 0 L.length
def all (L : List Bool) : List Int := frees (has L) 0 L.length
theorem free_le (L : List Bool) : free L ≤ L.length := cnt_le _ _ _
theorem all_len (L : List Bool) : (all L).length = free L := frees_len _ _ _
theorem free_more (L : List Bool) {m : Nat} (h : L.length ≤ m) : cnt (has L) 0 m = free L := by
  obtain ⟨d, rfl⟩ : ∃ d, m = L.length + d := ⟨m - L.length, by omega⟩
  rw [cnt_add, cnt_none (n := d) (fun t _ => has_ge (by omega))]
  rfl
theorem all_more (L : List Bool) {m : Nat} (h : L.length ≤ m) : frees (has L) 0 m = all L := by
  obtain ⟨d, rfl⟩ : ∃ d, m = L.length + d := ⟨m - L.length, by omega⟩
  rw [frees_add, frees_none (n := d) (fun t _ => has_ge (by omega)), List.append_nil]
  rfl
def canT (L : List Bool) (k : Int) : Bool := decide (0 ≤ k) && decide (k ≤ free L)
def takeO (L : List Bool) (k : Int) : List Int := if canT L k then (all L).take k.toNat else []
def takeL (L : List Bool) (k : Int) : List Bool := flips L (takeO L k)
theorem takeL_len (L : List Bool) (k : Int) : (takeL L k).length = L.length := flips_len _ _
theorem mem_all (L : List Bool) (x : Int) : x ∈ all L ↔ 0 ≤ x ∧ has L x.toNat = true := by
  unfold all
  rw [frees_mem]
  constructor
  · rintro ⟨h1, h2, h3⟩
    exact ⟨by omega, h3⟩
  · rintro ⟨h1, h2⟩
    have := has_true h2
    exact ⟨by omega, by omega, h2⟩
/-! ### Words -/
def nw (n : Nat) : Nat := (n + 63) / 64
def wd (L : List Bool) (j : Nat) : Nat := wordN (has L) 64 (64 * j)
set_option maxRecDepth 10000
def words (L : List Bool) : List Nat := (List.range (nw L.length)).map (wd L)
theorem words_len (L : List Bool) : (words L).length = nw L.length := by simp [words]
theorem words_at {L : List Bool} {j : Nat} (h : j < nw L.length) : (words L)[j]? = some (wd L j) := by simp [words, h]
theorem wd_lt (L : List Bool) (j : Nat) : wd L j < 18446744073709551616 := wordN_lt _ 64 _
theorem nw_lt {n i : Nat} (h : i < n) : i / 64 < nw n := by
  unfold nw
  omega
theorem words_set {L M : List Bool} {i : Nat} {v : Nat} (hl : M.length = L.length) (hi : i < L.length) (hv : v = wd M (i / 64)) (h : ∀ x, x ≠ i → has M x = has L x) : (words L).set (i / 64) v = words M := by
  apply List.ext_getElem?
  intro j
  rw [List.getElem?_set, words_len]
  by_cases e : i / 64 = j
  · subst e
    rw [if_pos rfl, if_pos (nw_lt hi), words_at (by rw [hl]; exact nw_lt hi), hv]
  · rw [if_neg e]
    by_cases hj : j < nw L.length
    · rw [words_at hj, words_at (by rw [hl]; exact hj)]
      have e2 : wd L j = wd M j := wordN_congr fun t ht => (h _ (by omega)).symm
      rw [e2]
    · rw [List.getElem?_eq_none (by rw [words_len]; omega), List.getElem?_eq_none (by rw [words_len, hl]; omega)]
theorem wd_xor {L : List Bool} {x : Int} (h : inL L x = true) : wd L (x.toNat / 64) ^^^ 2 ^ (x.toNat % 64) = wd (flip L x) (x.toNat / 64) := by
  have hx := inL_iff.1 h
  have e : 64 * (x.toNat / 64) + x.toNat % 64 = x.toNat := Nat.div_add_mod _ _
  refine word_xor (Nat.mod_lt _ (by omega)) ?_ fun y hy => ?_
  · rw [e, has_flip, if_pos ⟨rfl, by omega⟩]
  · rw [e] at hy
    rw [has_flip, if_neg (fun q => hy q.1.symm)]
theorem words_flip {L : List Bool} {x : Int} (h : inL L x = true) : (words L).set (x.toNat / 64) (wd L (x.toNat / 64) ^^^ 2 ^ (x.toNat % 64)) = words (flip L x) :=
  words_set (flip_len L x) (by have := inL_iff.1 h; omega) (wd_xor h) (fun y hy => by rw [has_flip, if_neg (fun q => hy q.1.symm)])
theorem wd_or {L : List Bool} {i : Nat} (h : i < L.length) : wd L (i / 64) ||| 2 ^ (i % 64) = wd (L.set i true) (i / 64) := by
  have e : 64 * (i / 64) + i % 64 = i := Nat.div_add_mod _ _
  refine word_or (Nat.mod_lt _ (by omega)) ?_ fun y hy => ?_
  · rw [e, has_set, if_pos ⟨rfl, h⟩]
  · rw [e] at hy
    rw [has_set, if_neg (fun q => hy q.1.symm)]
theorem words_or {L : List Bool} {i : Nat} (h : i < L.length) : (words L).set (i / 64) (wd L (i / 64) ||| 2 ^ (i % 64)) = words (L.set i true) :=
  words_set (by simp) h (wd_or h) (fun y hy => by rw [has_set, if_neg (fun q => hy q.1.symm)])
theorem wd_and (L : List Bool) (i : Nat) : wd L (i / 64) &&& 2 ^ (i % 64) = if has L i then 2 ^ (i % 64) else 0 := by
  have h := word_and (f := has L) (p := 64 * (i / 64)) (t := i % 64) (Nat.mod_lt _ (by omega))
  have e : 64 * (i / 64) + i % 64 = i := Nat.div_add_mod _ _
  rw [e] at h
  exact h
theorem wd_octet (L : List Bool) (i : Nat) (h : i % 8 = 0) : wd L (i / 64) / 2 ^ (i % 64) % 256 = wordN (has L) 8 i := by
  have := word_shift (has L) (64 * (i / 64)) (i % 64) (by omega)
  rw [Nat.div_add_mod] at this
  exact this
theorem octet_none {L : List Bool} {i : Nat} (h : L.length ≤ i) : wordN (has L) 8 i = 0 := wordN_zero fun t _ => has_ge (by omega)
theorem words_free (L : List Bool) : cnt (has L) 0 (64 * nw L.length) = free L := free_more L (by unfold nw; omega)
theorem words_all (L : List Bool) : frees (has L) 0 (64 * nw L.length) = all L := all_more L (by unfold nw; omega)
theorem words_none (n : Nat) : words (List.replicate n false) = List.replicate (nw n) 0 := by
  apply List.ext_getElem?
  intro j
  rcases Nat.lt_or_ge j (nw n) with h | h
  · rw [words_at (by simpa using h), List.getElem?_replicate, if_pos h]
    have e2 : wd (List.replicate n false) j = 0 := wordN_zero fun t _ => by
      unfold has
      rw [List.getD_eq_getElem?_getD, List.getElem?_replicate]
      split <;> rfl
    rw [e2]
  · rw [List.getElem?_eq_none (by rw [words_len]; simpa using h), List.getElem?_eq_none (by simpa using h)]
/-- The first i as told, all others taken. -/
def upto (f : Nat → Bool) (n i : Nat) : List Bool := (List.range n).map fun j => decide (j < i) && f j
theorem upto_len (f : Nat → Bool) (n i : Nat) : (upto f n i).length = n := by simp [upto]
theorem upto_zero (f : Nat → Bool) (n : Nat) : upto f n 0 = List.replicate n false := by
  apply List.ext_getElem?
  intro j
  simp only [upto, List.getElem?_map, List.getElem?_replicate]
  rcases Nat.lt_or_ge j n with h | h
  · simp [h]
  · simp [h]
theorem upto_succ (f : Nat → Bool) {n i : Nat} (h : i < n) : upto f n (i + 1) = if f i then (upto f n i).set i true else upto f n i := by
  apply List.ext_getElem?
  intro j
  cases hf : f i
  · rw [if_neg (by simp)]
    simp only [upto, List.getElem?_map]
    rcases Nat.lt_or_ge j n with q | q
    · rw [List.getElem?_range q]
      simp only [Option.map_some]
      congr 1
      by_cases e : j = i
      · subst e
        simp [hf]
      · have : (j < i + 1) = (j < i) := by simp only [eq_iff_iff]; omega
        simp [this]
    · simp [q]
  · rw [if_pos rfl, List.getElem?_set, upto_len]
    by_cases e : i = j
    · subst e
      rw [if_pos rfl, if_pos h]
      simp [upto, h, hf]
    · rw [if_neg e]
      simp only [upto, List.getElem?_map]
      rcases Nat.lt_or_ge j n with q | q
      · rw [List.getElem?_range q]
        simp only [Option.map_some]
        congr 1
        have : (j < i + 1) = (j < i) := by simp only [eq_iff_iff]; omega
        simp [this]
      · simp [q]
def bitsL (f : Nat → Bool) (n : Nat) : List Bool := (List.range n).map f
theorem bitsL_len (f : Nat → Bool) (n : Nat) : (bitsL f n).length = n := by simp [bitsL]
theorem upto_all (f : Nat → Bool) (n : Nat) : upto f n n = bitsL f n := by
  apply List.map_congr_left
  intro j hj
  simp [List.mem_range.1 hj]
theorem has_bits (f : Nat → Bool) {n i : Nat} (h : i < n) : has (bitsL f n) i = f i := by
  unfold has bitsL
  rw [List.getD_eq_getElem?_getD, List.getElem?_map, List.getElem?_range h]
  rfl
end FreP
end Go.Proofs.YtbnkaeigabifhaaDoor
