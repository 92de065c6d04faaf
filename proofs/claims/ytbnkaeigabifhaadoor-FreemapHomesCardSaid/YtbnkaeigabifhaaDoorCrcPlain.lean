/-
  CRC-32C, plainly: the state goes on bit by bit; it is linear, and loses nothing; a burst of at most 32 bits is told.
-/
namespace Go.Proofs.YtbnkaeigabifhaaDoor
set_option linter.unusedVariables false
set_option linter.unusedSimpArgs false
namespace CrcP
def P : BitVec 32 := 0x82f63b78#32
def F : BitVec 32 := 0xffffffff#32
/-- One step: halved, and turned if it was odd. -/
def step (s : BitVec 32) : BitVec 32 := (s >>> 1) ^^^ (if s.getLsbD 0 then P else 0#32)
theorem step_zero : step 0#32 = 0#32 := by decide
theorem xor4 (a b c d : BitVec 32) : (a ^^^ b) ^^^ (c ^^^ d) = (a ^^^ c) ^^^ (b ^^^ d) := by
  apply BitVec.eq_of_getLsbD_eq
  intro i _
  simp only [BitVec.getLsbD_xor]
  cases a.getLsbD i <;> cases b.getLsbD i <;> cases c.getLsbD i <;> cases d.getLsbD i <;> rfl
theorem step_xor (a b : BitVec 32) : step (a ^^^ b) = step a ^^^ step b := by
  unfold step
  rw [← xor4, BitVec.ushiftRight_xor_distrib, BitVec.getLsbD_xor]
  congr 1
  cases a.getLsbD 0 <;> cases b.getLsbD 0 <;> simp
theorem P_top : P.getLsbD 31 = true := by decide
theorem step_top (s : BitVec 32) : (step s).getLsbD 31 = s.getLsbD 0 := by
  unfold step
  rw [BitVec.getLsbD_xor, BitVec.getLsbD_ushiftRight, show s.getLsbD (1 + 31) = false from BitVec.getLsbD_of_ge _ _ (by omega)]
  cases h : s.getLsbD 0 <;> simp [P_top]
theorem step_even {s : BitVec 32} (h : s.getLsbD 0 = false) : step s = s >>> 1 := by
  unfold step
  rw [h]
  simp
/-- Nothing is lost. -/
theorem step_none {s : BitVec 32} (h : step s = 0#32) : s = 0#32 := by
  have h0 : s.getLsbD 0 = false := by
    rw [← step_top, h]
    simp
  rw [step_even h0] at h
  apply BitVec.eq_of_getLsbD_eq
  intro i hi
  cases i with
  | zero => rw [h0]; simp
  | succ i =>
    have := congrArg (fun v : BitVec 32 => v.getLsbD i) h
    simp only [BitVec.getLsbD_ushiftRight] at this
    rw [Nat.add_comm] at this
    rw [this]
    simp
def steps : Nat → BitVec 32 → BitVec 32
  | 0, s => s
  | n + 1, s => steps n (step s)
theorem steps_xor : ∀ (n : Nat) (a b : BitVec 32), steps n (a ^^^ b) = steps n a ^^^ steps n b
  | 0, _, _ => rfl
  | n + 1, a, b => by simp only [steps]; rw [step_xor, steps_xor n]
theorem steps_zero : ∀ n, steps n 0#32 = 0#32
  | 0 => rfl
  | n + 1 => by simp only [steps]; rw [step_zero, steps_zero n]
theorem steps_none : ∀ {n : Nat} {s : BitVec 32}, steps n s = 0#32 → s = 0#32
  | 0, _, h => h
  | n + 1, s, h => step_none (steps_none (n := n) h)
/-- Over a byte, over bytes. -/
def over (s : BitVec 32) (b : UInt8) : BitVec 32 := steps 8 (s ^^^ b.toBitVec.setWidth 32)
def run (s : BitVec 32) (l : List UInt8) : BitVec 32 := l.foldl over s
def more (s : BitVec 32) (l : List UInt8) : BitVec 32 := run (s ^^^ F) l ^^^ F
def sum (l : List UInt8) : BitVec 32 := more 0#32 l
theorem xor_FF (s : BitVec 32) : s ^^^ F ^^^ F = s := by rw [BitVec.xor_assoc, BitVec.xor_self, BitVec.xor_zero]
theorem run_app (s : BitVec 32) (a b : List UInt8) : run s (a ++ b) = run (run s a) b := List.foldl_append ..
/-- P19.3. -/
theorem parts (a b : List UInt8) : more (sum a) b = sum (a ++ b) := by
  unfold sum more
  rw [run_app, xor_FF]
theorem more_nil (s : BitVec 32) : more s [] = s := xor_FF s
theorem over_xor (s t : BitVec 32) (a b : UInt8) : over (s ^^^ t) (a ^^^ b) = over s a ^^^ over t b := by
  unfold over
  rw [← steps_xor, ← xor4, show (a ^^^ b).toBitVec = a.toBitVec ^^^ b.toBitVec from rfl, BitVec.setWidth_xor]
theorem run_xor : ∀ (a b : List UInt8) (s t : BitVec 32), a.length = b.length → run (s ^^^ t) (List.zipWith (· ^^^ ·) a b) = run s a ^^^ run t b
  | [], [], s, t, _ => rfl
  | x :: a, y :: b, s, t, h => by
    have ih := run_xor a b (over s x) (over t y) (by simpa using h)
    simp only [List.zipWith_cons_cons, run, List.foldl_cons] at ih ⊢
    rw [over_xor]
    exact ih
/-- P19.5. -/
theorem three (a b c : List UInt8) (h1 : a.length = b.length) (h2 : a.length = c.length) : sum (List.zipWith (· ^^^ ·) (List.zipWith (· ^^^ ·) a b) c) = sum a ^^^ sum b ^^^ sum c := by
  have hl : (List.zipWith (· ^^^ ·) a b).length = c.length := by simp; omega
  have e1 := run_xor (List.zipWith (· ^^^ ·) a b) c (0#32) F hl
  have e2 := run_xor a b F F h1
  rw [BitVec.xor_self] at e2
  rw [BitVec.zero_xor] at e1
  unfold sum more
  rw [BitVec.zero_xor, e1, e2]
  apply BitVec.eq_of_getLsbD_eq
  intro i _
  simp only [BitVec.getLsbD_xor]
  cases (run F a).getLsbD i <;> cases (run F b).getLsbD i <;> cases (run F c).getLsbD i <;> cases F.getLsbD i <;> rfl
/-! By halves of a byte. -/
theorem steps_add : ∀ (n m : Nat) (s : BitVec 32), steps (n + m) s = steps m (steps n s)
  | 0, m, s => by simp [steps]
  | n + 1, m, s => by
    rw [show n + 1 + m = (n + m) + 1 by omega]
    simp only [steps]
    exact steps_add n m _
/-- What shifts out nothing. -/
theorem steps_shl : ∀ (n : Nat) (v : BitVec 32), (∀ k, k < n → v.getLsbD k = false) → steps n v = v >>> n
  | 0, v, _ => by simp [steps]
  | n + 1, v, h => by
    simp only [steps]
    rw [step_even (h 0 (by omega)), steps_shl n _ (fun k hk => by
      rw [BitVec.getLsbD_ushiftRight]
      exact h (1 + k) (by omega))]
    apply BitVec.eq_of_getLsbD_eq
    intro i _
    simp only [BitVec.getLsbD_ushiftRight]
    congr 1
    omega
theorem nib (s : BitVec 32) : steps 4 s = (s >>> 4) ^^^ steps 4 (s &&& 15#32) := by
  have hs : s = ((s >>> 4) <<< 4) ^^^ (s &&& 15#32) := by
    apply BitVec.eq_of_getLsbD_eq
    intro i hi
    rw [BitVec.getLsbD_xor, BitVec.getLsbD_shiftLeft, BitVec.getLsbD_ushiftRight, BitVec.getLsbD_and]
    by_cases h4 : i < 4
    · have : (15#32 : BitVec 32).getLsbD i = true := by
        have : ∀ i, i < 4 → (15#32 : BitVec 32).getLsbD i = true := by decide
        exact this i h4
      rw [this, Bool.and_true]
      simp [h4]
    · have : (15#32 : BitVec 32).getLsbD i = false := by
        have : ∀ i, i < 32 → 4 ≤ i → (15#32 : BitVec 32).getLsbD i = false := by decide
        exact this i hi (by omega)
      rw [this, Bool.and_false]
      simp [h4, hi, show 4 + (i - 4) = i by omega]
  have e : steps 4 ((s >>> 4) <<< 4) = s >>> 4 := by
    rw [steps_shl 4 _ (fun k hk => by rw [BitVec.getLsbD_shiftLeft]; simp [hk])]
    apply BitVec.eq_of_getLsbD_eq
    intro i hi
    rw [BitVec.getLsbD_ushiftRight, BitVec.getLsbD_shiftLeft]
    by_cases h : 4 + i < 32
    · simp [h]
    · have e9 : (s >>> 4).getLsbD i = false := by
        rw [BitVec.getLsbD_ushiftRight]
        exact BitVec.getLsbD_of_ge _ _ (by omega)
      rw [e9]
      simp [h]
  calc steps 4 s = steps 4 (((s >>> 4) <<< 4) ^^^ (s &&& 15#32)) := by rw [← hs]
    _ = steps 4 ((s >>> 4) <<< 4) ^^^ steps 4 (s &&& 15#32) := steps_xor _ _ _
    _ = _ := by rw [e]
theorem over_nibs (s : BitVec 32) (b : UInt8) : over s b = steps 4 (steps 4 (s ^^^ b.toBitVec.setWidth 32)) := steps_add 4 4 _
theorem not_F (s : BitVec 32) : (s ^^^ F).toNat = 4294967295 - s.toNat := by
  have : s ^^^ F = ~~~s := by
    have : F = BitVec.allOnes 32 := by decide
    rw [this, BitVec.xor_allOnes]
  rw [this, BitVec.toNat_not]
/-! Bit by bit. -/
def one (b : Bool) : BitVec 32 := if b then 1#32 else 0#32
def bitRun (s : BitVec 32) (E : Nat → Bool) (i : Nat) : Nat → BitVec 32
  | 0 => s
  | n + 1 => bitRun (step (s ^^^ one (E i))) E (i + 1) n
theorem bitRun_add (E : Nat → Bool) : ∀ (n m i : Nat) (s : BitVec 32), bitRun s E i (n + m) = bitRun (bitRun s E i n) E (i + n) m
  | 0, m, i, s => by simp [bitRun]
  | n + 1, m, i, s => by
    rw [show n + 1 + m = (n + m) + 1 by omega]
    simp only [bitRun]
    rw [bitRun_add E n m (i + 1), show i + 1 + n = i + (n + 1) by omega]
theorem bitRun_off (E : Nat → Bool) : ∀ (n i : Nat) (s : BitVec 32), (∀ k, i ≤ k → k < i + n → E k = false) → bitRun s E i n = steps n s
  | 0, i, s, _ => rfl
  | n + 1, i, s, h => by
    simp only [bitRun, steps]
    rw [h i (by omega) (by omega), show one false = 0#32 from rfl, BitVec.xor_zero]
    exact bitRun_off E n (i + 1) _ (fun k h1 h2 => h k (by omega) (by omega))
theorem bitRun_congr {E G : Nat → Bool} : ∀ (n i j : Nat) (s : BitVec 32), (∀ k, k < n → E (i + k) = G (j + k)) → bitRun s E i n = bitRun s G j n
  | 0, _, _, _, _ => rfl
  | n + 1, i, j, s, h => by
    simp only [bitRun]
    rw [show E i = G j from h 0 (by omega)]
    exact bitRun_congr n (i + 1) (j + 1) _ (fun k hk => by
      have := h (k + 1) (by omega)
      rw [show i + 1 + k = i + (k + 1) by omega, show j + 1 + k = j + (k + 1) by omega]
      exact this)
/-- A word's bits, one by one, are the word at once. -/
theorem bitRun_word : ∀ (n i : Nat) (E : Nat → Bool) (s v : BitVec 32), (∀ k, k < n → E (i + k) = v.getLsbD k) → (∀ k, n ≤ k → v.getLsbD k = false) → bitRun s E i n = steps n (s ^^^ v)
  | 0, i, E, s, v, _, h2 => by
    have : v = 0#32 := by
      apply BitVec.eq_of_getLsbD_eq
      intro k _
      rw [h2 k (by omega)]
      simp
    rw [this, BitVec.xor_zero]
    rfl
  | n + 1, i, E, s, v, h1, h2 => by
    have hv : v = one (v.getLsbD 0) ^^^ ((v >>> 1) <<< 1) := by
      apply BitVec.eq_of_getLsbD_eq
      intro k hk
      rw [BitVec.getLsbD_xor, BitVec.getLsbD_shiftLeft, BitVec.getLsbD_ushiftRight]
      cases k with
      | zero =>
        unfold one
        cases v.getLsbD 0 <;> simp
      | succ k =>
        have e : (one (v.getLsbD 0)).getLsbD (k + 1) = false := by
          unfold one
          split
          · simp [BitVec.getLsbD_one]
          · simp
        rw [e, show 1 + (k + 1 - 1) = k + 1 by omega]
        simp [hk]
    have hs : step (s ^^^ v) = step (s ^^^ one (E i)) ^^^ (v >>> 1) := by
      have e0 : E i = v.getLsbD 0 := h1 0 (by omega)
      rw [e0]
      have : s ^^^ v = (s ^^^ one (v.getLsbD 0)) ^^^ ((v >>> 1) <<< 1) := by
        rw [BitVec.xor_assoc, ← hv]
      rw [this, step_xor]
      congr 1
      have hev : (((v >>> 1) <<< 1) : BitVec 32).getLsbD 0 = false := by simp
      rw [step_even hev]
      apply BitVec.eq_of_getLsbD_eq
      intro k hk
      rw [BitVec.getLsbD_ushiftRight, BitVec.getLsbD_shiftLeft, BitVec.getLsbD_ushiftRight]
      by_cases h31 : 1 + k < 32
      · simp [h31]
      · have e9 : (v >>> 1).getLsbD k = false := by
          rw [BitVec.getLsbD_ushiftRight]
          exact BitVec.getLsbD_of_ge _ _ (by omega)
        rw [e9]
        simp [h31]
    simp only [bitRun, steps]
    rw [hs]
    exact bitRun_word n (i + 1) E _ (v >>> 1) (fun k hk => by
      rw [BitVec.getLsbD_ushiftRight, Nat.add_comm 1 k, show i + 1 + k = i + (k + 1) by omega]
      exact h1 (k + 1) (by omega)) (fun k hk => by
      rw [BitVec.getLsbD_ushiftRight]
      exact h2 (1 + k) (by omega))
/-- Bit k of bytes. -/
def bitAt : List UInt8 → Nat → Bool
  | [], _ => false
  | x :: r, k => if k < 8 then x.toBitVec.getLsbD k else bitAt r (k - 8)
theorem over_bits (s : BitVec 32) (b : UInt8) (r : List UInt8) : over s b = bitRun s (bitAt (b :: r)) 0 8 := by
  symm
  refine bitRun_word 8 0 _ s _ (fun k hk => ?_) (fun k hk => ?_)
  · rw [BitVec.getLsbD_setWidth]
    simp only [bitAt, Nat.zero_add, hk, if_true]
    simp [show k < 32 by omega]
  · rw [BitVec.getLsbD_setWidth, show b.toBitVec.getLsbD k = false from BitVec.getLsbD_of_ge _ _ hk, Bool.and_false]
theorem run_bits : ∀ (l : List UInt8) (s : BitVec 32), run s l = bitRun s (bitAt l) 0 (8 * l.length)
  | [], s => rfl
  | x :: r, s => by
    have ih := run_bits r (over s x)
    simp only [run, List.foldl_cons, List.length_cons] at ih ⊢
    rw [ih, show 8 * (r.length + 1) = 8 + 8 * r.length by omega, bitRun_add, ← over_bits s x r]
    exact bitRun_congr _ _ _ _ (fun k hk => by
      simp only [bitAt]
      rw [if_neg (by omega), show 0 + 8 + k - 8 = 0 + k by omega])
theorem bitAt_beyond : ∀ (l : List UInt8) {k : Nat}, 8 * l.length ≤ k → bitAt l k = false
  | [], _, _ => rfl
  | x :: r, k, h => by
    simp only [List.length_cons] at h
    simp only [bitAt]
    rw [if_neg (by omega)]
    exact bitAt_beyond r (by omega)
theorem bitAt_xor : ∀ {a b : List UInt8} (k : Nat), a.length = b.length → bitAt (List.zipWith (· ^^^ ·) a b) k = Bool.xor (bitAt a k) (bitAt b k)
  | [], [], k, _ => rfl
  | x :: a, y :: b, k, h => by
    simp only [List.zipWith_cons_cons, bitAt]
    split
    · rw [show (x ^^^ y).toBitVec = x.toBitVec ^^^ y.toBitVec from rfl, BitVec.getLsbD_xor]
    · exact bitAt_xor (k - 8) (by simpa using h)
theorem bits_eq : ∀ {a b : List UInt8}, a.length = b.length → (∀ k, bitAt a k = bitAt b k) → a = b
  | [], [], _, _ => rfl
  | x :: a, y :: b, h, hk => by
    have e1 : x = y := by
      have : x.toBitVec = y.toBitVec := by
        apply BitVec.eq_of_getLsbD_eq
        intro i hi
        have := hk i
        simp only [bitAt, hi, if_true] at this
        exact this
      exact UInt8.eq_of_toBitVec_eq this
    have e2 : a = b := bits_eq (by simpa using h) (fun k => by
      have := hk (k + 8)
      simp only [bitAt] at this
      rw [if_neg (by omega), if_neg (by omega), Nat.add_sub_cancel] at this
      exact this)
    rw [e1, e2]
/-- The bits of a burst, as a word. -/
def word (E : Nat → Bool) (i : Nat) : Nat → BitVec 32
  | 0 => 0#32
  | n + 1 => one (E i) ^^^ (word E (i + 1) n <<< 1)
theorem one_at (b : Bool) (k : Nat) : (one b).getLsbD k = (decide (k = 0) && b) := by
  unfold one
  cases b with
  | true => simp [BitVec.getLsbD_one]
  | false => simp
theorem word_at (E : Nat → Bool) : ∀ (n i : Nat) {k : Nat}, k < 32 → (word E i n).getLsbD k = (decide (k < n) && E (i + k))
  | 0, i, k, hk => by simp [word]
  | n + 1, i, k, hk => by
    simp only [word]
    rw [BitVec.getLsbD_xor, one_at, BitVec.getLsbD_shiftLeft]
    cases k with
    | zero => simp
    | succ k =>
      rw [show k + 1 - 1 = k by omega, word_at E n (i + 1) (by omega), show i + 1 + k = i + (k + 1) by omega]
      simp [hk]
/-- P19.4: two rows that differ within 32 bits have unlike sums. -/
theorem burst {a b : List UInt8} (hl : a.length = b.length) (p : Nat) (hd : ∀ k, bitAt a k ≠ bitAt b k → p ≤ k ∧ k < p + 32) (s : BitVec 32) (h : run s a = run s b) : a = b := by
  have h0 : run 0#32 (List.zipWith (· ^^^ ·) a b) = 0#32 := by
    have e := run_xor a b s s hl
    rw [BitVec.xor_self] at e
    rw [e, h, BitVec.xor_self]
  have hlen : (List.zipWith (· ^^^ ·) a b).length = a.length := by simp; omega
  rw [run_bits, hlen] at h0
  have hE : ∀ k, bitAt (List.zipWith (· ^^^ ·) a b) k = Bool.xor (bitAt a k) (bitAt b k) := fun k => bitAt_xor k hl
  have hoff : ∀ k, (k < p ∨ p + 32 ≤ k) → bitAt (List.zipWith (· ^^^ ·) a b) k = false := fun k hk => by
    rw [hE]
    have : bitAt a k = bitAt b k := Classical.byContradiction fun q => by
      have := hd k q
      omega
    rw [this, Bool.xor_self]
  have hall : ∀ k, bitAt (List.zipWith (· ^^^ ·) a b) k = false := by
    by_cases hp : p ≤ 8 * a.length
    · by_cases hq : p + 32 ≤ 8 * a.length
      · rw [show 8 * a.length = p + (32 + (8 * a.length - p - 32)) by omega, bitRun_add, bitRun_off _ p 0 _ (fun k _ hk => hoff k (.inl (by omega))), steps_zero, bitRun_add, bitRun_off _ (8 * a.length - p - 32) _ _ (fun k hk _ => hoff k (.inr (by omega)))] at h0
        have h1 := steps_none h0
        rw [bitRun_word 32 (0 + p) _ _ (word (bitAt (List.zipWith (· ^^^ ·) a b)) p 32) (fun k hk => by rw [word_at _ _ _ hk]; simp [hk]) (fun k hk => BitVec.getLsbD_of_ge _ _ hk), BitVec.zero_xor] at h1
        have h2 := steps_none h1
        intro k
        by_cases hk : p ≤ k ∧ k < p + 32
        · have := word_at (bitAt (List.zipWith (· ^^^ ·) a b)) 32 p (k := k - p) (by omega)
          rw [h2, show p + (k - p) = k by omega] at this
          simpa [show k - p < 32 by omega] using this.symm
        · exact hoff k (by omega)
      · rw [show 8 * a.length = p + (8 * a.length - p) by omega, bitRun_add, bitRun_off _ p 0 _ (fun k _ hk => hoff k (.inl (by omega))), steps_zero] at h0
        rw [bitRun_word (8 * a.length - p) (0 + p) _ _ (word (bitAt (List.zipWith (· ^^^ ·) a b)) p (8 * a.length - p)) (fun k hk => by rw [word_at _ _ _ (by omega)]; simp [hk]) (fun k hk => by
          by_cases h32 : k < 32
          · rw [word_at _ _ _ h32]
            simp
            intro q
            omega
          · exact BitVec.getLsbD_of_ge _ _ (by omega)), BitVec.zero_xor] at h0
        have h2 := steps_none h0
        intro k
        by_cases hk : p ≤ k ∧ k < 8 * a.length
        · have := word_at (bitAt (List.zipWith (· ^^^ ·) a b)) (8 * a.length - p) p (k := k - p) (by omega)
          rw [h2, show p + (k - p) = k by omega] at this
          simpa [show k - p < 8 * a.length - p by omega] using this.symm
        · by_cases hkp : k < p
          · exact hoff k (.inl hkp)
          · exact bitAt_beyond _ (by rw [hlen]; omega)
    · intro k
      by_cases hk : k < p
      · exact hoff k (.inl hk)
      · exact bitAt_beyond _ (by rw [hlen]; omega)
  refine bits_eq hl (fun k => ?_)
  have := hall k
  rw [hE] at this
  cases h1 : bitAt a k <;> cases h2 : bitAt b k <;> simp_all
theorem burst_sum {a b : List UInt8} (hl : a.length = b.length) (p : Nat) (hd : ∀ k, bitAt a k ≠ bitAt b k → p ≤ k ∧ k < p + 32) : sum a = sum b ↔ a = b := by
  constructor
  · intro h
    unfold sum more at h
    have := congrArg (· ^^^ F) h
    simp only [xor_FF] at this
    exact burst hl p hd _ this
  · intro h
    rw [h]
end CrcP
end Go.Proofs.YtbnkaeigabifhaaDoor
