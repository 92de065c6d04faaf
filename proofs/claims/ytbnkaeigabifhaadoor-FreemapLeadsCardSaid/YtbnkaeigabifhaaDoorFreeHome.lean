/-
  A map's homes, plainly: there and back; one bit turned.
-/
import Derived.Test.YtbnkaeigabifhaaDoorFreePlain
-- mine: whole_c same_c awake_c take_c step_c back_c Made number_c next_c fixed_c clone_c int_c end_c put_c
namespace Go.Proofs.YtbnkaeigabifhaaDoor
set_option linter.unusedVariables false
set_option linter.unusedSimpArgs false
set_option maxRecDepth 10000
namespace FreP
open BytesW (fx fx_length vf vf_fx)
def hs (n : Nat) : Nat := (n + 3999) / 4000
theorem hs_at {n i : Nat} (h : i < n) : i / 4000 < hs n := by
  unfold hs
  omega
theorem hs_le {n : Nat} (h : n ≤ 131072) : hs n ≤ 33 := by
  unfold hs
  omega
theorem hs_pos {n : Nat} (h : 256 ≤ n) : 0 < hs n := by
  unfold hs
  omega
def oct (f : Nat → Bool) (p : Nat) : UInt8 := (wordN f 8 p).toUInt8
theorem oct_nat (f : Nat → Bool) (p : Nat) : (oct f p).toNat = wordN f 8 p := by
  have h : wordN f 8 p < 2 ^ 8 := wordN_lt f 8 p
  show wordN f 8 p % 256 = _
  exact Nat.mod_eq_of_lt h
/-- The first m bytes of bits of home k. -/
def octs (f : Nat → Bool) (k m : Nat) : List UInt8 := (List.range m).map fun j => oct f (4000 * k + 8 * j)
theorem octs_len (f : Nat → Bool) (k m : Nat) : (octs f k m).length = m := by simp [octs]
theorem octs_succ (f : Nat → Bool) (k m : Nat) : octs f k (m + 1) = octs f k m ++ [oct f (4000 * k + 8 * m)] := by simp [octs, List.range_succ]
def body (f : Nat → Bool) (k : Nat) : List UInt8 := octs f k 500 ++ fx k 4
def sumB (f : Nat → Bool) (k : Nat) : Nat := (CrcP.sum (body f k)).toNat
def home (f : Nat → Bool) (k : Nat) : List UInt8 := body f k ++ fx (sumB f k) 4 ++ [0, 0, 0, 0]
theorem body_len (f : Nat → Bool) (k : Nat) : (body f k).length = 504 := by
  unfold body
  rw [List.length_append, octs_len, fx_length]
theorem home_len (f : Nat → Bool) (k : Nat) : (home f k).length = 512 := by
  unfold home
  rw [List.length_append, List.length_append, body_len, fx_length]
  rfl
def homes (L : List Bool) : List (List UInt8) := (List.range (hs L.length)).map (home (has L))
theorem homes_len (L : List Bool) : (homes L).length = hs L.length := by simp [homes]
theorem homes_at {L : List Bool} {k : Nat} (h : k < hs L.length) : (homes L)[k]? = some (home (has L) k) := by simp [homes, h]
theorem homes_all {L : List Bool} : ∀ s ∈ homes L, s.length = 512 := fun s h => by
  unfold homes at h
  obtain ⟨k, _, rfl⟩ := List.mem_map.1 h
  exact home_len _ _
theorem home_oct {f : Nat → Bool} {k j : Nat} (h : j < 500) : (home f k)[j]? = some (oct f (4000 * k + 8 * j)) := by
  unfold home body
  rw [List.append_assoc, List.append_assoc, List.getElem?_append_left (by rw [octs_len]; exact h)]
  simp [octs, h]
/-- What homes say of sector i. -/
def bitH (l : List (List UInt8)) (i : Nat) : Bool := ((l.getD (i / 4000) []).getD (i % 4000 / 8) 0).toNat.testBit (i % 4000 % 8)
theorem bit_homes {L : List Bool} {i : Nat} (h : i < L.length) : bitH (homes L) i = has L i := by
  have h1 : (homes L).getD (i / 4000) [] = home (has L) (i / 4000) := by
    rw [List.getD_eq_getElem?_getD, homes_at (hs_at h)]
    rfl
  have h2 : (home (has L) (i / 4000)).getD (i % 4000 / 8) 0 = oct (has L) (4000 * (i / 4000) + 8 * (i % 4000 / 8)) := by
    rw [List.getD_eq_getElem?_getD, home_oct (by omega)]
    rfl
  unfold bitH
  rw [h1, h2, oct_nat, wordN_bit]
  have h3 : i % 4000 % 8 < 8 := Nat.mod_lt _ (by omega)
  rw [show 4000 * (i / 4000) + 8 * (i % 4000 / 8) + i % 4000 % 8 = i by omega]
  rw [decide_eq_true h3, Bool.true_and]
/-- Of. -/
def lensH (n : Nat) (l : List (List UInt8)) : Bool := decide (l.length = hs n) && l.all fun s => decide (s.length = 512)
def ofM (n : Nat) (l : List (List UInt8)) : Option (List Bool) := if lensH n l ∧ homes (bitsL (bitH l) n) = l then some (bitsL (bitH l) n) else none
theorem lens_homes (L : List Bool) : lensH L.length (homes L) = true := by
  unfold lensH
  rw [homes_len]
  simp only [decide_true, Bool.true_and, List.all_eq_true, decide_eq_true_eq]
  exact homes_all
theorem of_homes (L : List Bool) : ofM L.length (homes L) = some L := by
  have e : bitsL (bitH (homes L)) L.length = L := has_ext (bitsL_len _ _) fun i hi => by
    rw [bitsL_len] at hi
    rw [has_bits _ hi, bit_homes hi]
  unfold ofM
  rw [e, if_pos ⟨lens_homes L, rfl⟩]
theorem ofM_len {n : Nat} {l : List (List UInt8)} {L : List Bool} (h : ofM n l = some L) : L.length = n ∧ homes L = l := by
  unfold ofM at h
  split at h
  · rename_i q
    injection h with h
    rw [← h]
    exact ⟨bitsL_len _ _, q.2⟩
  · cases h
/-! ### One bit turned -/
theorem sum_lt (l : List UInt8) : (CrcP.sum l).toNat < 256 ^ 4 := (CrcP.sum l).isLt
theorem fx_inj {a b : Nat} (ha : a < 256 ^ 4) (hb : b < 256 ^ 4) (h : fx a 4 = fx b 4) : a = b := by
  have h1 := vf_fx a 4
  have h2 := vf_fx b 4
  rw [h, h2, Nat.mod_eq_of_lt ha, Nat.mod_eq_of_lt hb] at h1
  exact h1.symm
theorem pw_ne : ∀ q, q < 8 → CrcP.pw true q ≠ 0 := by decide
theorem turn_ne (x : UInt8) {q : Nat} (hq : q < 8) : x ^^^ CrcP.pw true q ≠ x := fun h => by
  have h2 := congrArg (fun z => x ^^^ z) h
  simp only [← UInt8.xor_assoc, UInt8.xor_self, UInt8.zero_xor] at h2
  exact pw_ne q hq h2
theorem set_ne {l : List UInt8} {p : Nat} {x y : UInt8} (hx : l[p]? = some x) (hy : y ≠ x) : l.set p y ≠ l := fun h => by
  have := congrArg (fun m => m[p]?) h
  simp only [List.getElem?_set, if_true] at this
  rw [if_pos (List.getElem?_eq_some_iff.1 hx).1, hx] at this
  injection this with this
  exact hy this
theorem home_turned {f g : Nat → Bool} {k at_ : Nat} {x : UInt8} (hx : (home f k)[at_ / 8]? = some x) : (home f k).set (at_ / 8) (x ^^^ CrcP.pw true (at_ % 8)) ≠ home g k := fun h => by
  have hq : at_ % 8 < 8 := Nat.mod_lt _ (by omega)
  have hy := turn_ne x hq
  by_cases hp : at_ / 8 < 504
  · have ef : (home f k).set (at_ / 8) (x ^^^ CrcP.pw true (at_ % 8)) = (body f k).set (at_ / 8) (x ^^^ CrcP.pw true (at_ % 8)) ++ (fx (sumB f k) 4 ++ [0, 0, 0, 0]) := by
      unfold home
      rw [List.append_assoc, List.set_append_left _ _ (by rw [body_len]; exact hp)]
    have eg : home g k = body g k ++ (fx (sumB g k) 4 ++ [0, 0, 0, 0]) := by
      unfold home
      rw [List.append_assoc]
    rw [ef, eg] at h
    obtain ⟨h1, h2⟩ := List.append_inj h (by rw [List.length_set, body_len, body_len])
    have h3 := (List.append_inj h2 (by rw [fx_length, fx_length])).1
    have h4 : sumB f k = sumB g k := fx_inj (sum_lt _) (sum_lt _) h3
    have hx2 : (body f k)[at_ / 8]? = some x := by
      have e : home f k = body f k ++ (fx (sumB f k) 4 ++ [0, 0, 0, 0]) := by
        unfold home
        rw [List.append_assoc]
      rw [e, List.getElem?_append_left (by rw [body_len]; exact hp)] at hx
      exact hx
    have hn := (CrcP.Near.refl (body f k) at_).step (b := true) (n := 0) hx2
    have h5 := CrcP.near_sum hn (by omega)
    rw [Nat.add_zero, h1] at h5
    have h6 : CrcP.sum (body f k) = CrcP.sum (body g k) := BitVec.eq_of_toNat_eq h4
    have h7 : body f k = body g k := by simpa [h6] using h5
    rw [← h7] at h1
    exact set_ne hx2 hy h1
  · have eb : body f k = body g k := by
      have e : ∀ u, (home u k).take 504 = body u k := fun u => by
        unfold home
        rw [List.append_assoc, List.take_left' (body_len u k)]
      have := congrArg (fun l => l.take 504) h
      simp only [List.take_set] at this
      rw [e, e, List.set_eq_of_length_le (by rw [body_len]; omega)] at this
      exact this
    have es : home f k = home g k := by
      unfold home sumB
      rw [eb]
    rw [← es] at h
    exact set_ne hx hy h
theorem of_turned {L : List Bool} {k at_ : Nat} {x : UInt8} (hk : k < hs L.length) (hx : (home (has L) k)[at_ / 8]? = some x) : ofM L.length ((homes L).set k ((home (has L) k).set (at_ / 8) (x ^^^ CrcP.pw true (at_ % 8)))) = none := by
  cases h : ofM L.length ((homes L).set k ((home (has L) k).set (at_ / 8) (x ^^^ CrcP.pw true (at_ % 8)))) with
  | none => rfl
  | some M =>
    obtain ⟨h1, h2⟩ := ofM_len h
    have h3 := congrArg (fun l => l[k]?) h2
    simp only [List.getElem?_set, if_true] at h3
    rw [homes_at (by rw [h1]; exact hk), homes_len, if_pos hk] at h3
    injection h3 with h3
    exact absurd h3.symm (home_turned hx)
/-! ### Bit by bit -/
/-- What byte j of home k is behind the first i bits. -/
def octN (f : Nat → Bool) (k i j : Nat) : UInt8 := (wordN f (min 8 (i - 8 * j)) (4000 * k + 8 * j)).toUInt8
def octsN (f : Nat → Bool) (k i : Nat) : List UInt8 := (List.range 500).map (octN f k i)
theorem octsN_len (f : Nat → Bool) (k i : Nat) : (octsN f k i).length = 500 := by simp [octsN]
theorem octsN_zero (f : Nat → Bool) (k : Nat) : octsN f k 0 = List.replicate 500 0 := by
  apply List.ext_getElem?
  intro j
  simp only [octsN, List.getElem?_map, List.getElem?_replicate]
  rcases Nat.lt_or_ge j 500 with h | h
  · rw [List.getElem?_range h, if_pos h]
    simp [octN, wordN]
  · rw [List.getElem?_eq_none (by simpa using h), if_neg (by omega)]
    rfl
theorem octsN_all (f : Nat → Bool) (k : Nat) : octsN f k 4000 = octs f k 500 := by
  apply List.map_congr_left
  intro j hj
  have := List.mem_range.1 hj
  unfold octN oct
  rw [show min 8 (4000 - 8 * j) = 8 by omega]
theorem octN_nat (f : Nat → Bool) (k i j : Nat) : (octN f k i j).toNat = wordN f (min 8 (i - 8 * j)) (4000 * k + 8 * j) := by
  have h : wordN f (min 8 (i - 8 * j)) (4000 * k + 8 * j) < 2 ^ 8 := Nat.lt_of_lt_of_le (wordN_lt _ _ _) (Nat.pow_le_pow_right (by decide) (by omega))
  show _ % 256 = _
  exact Nat.mod_eq_of_lt h
theorem octsN_at {f : Nat → Bool} {k i j : Nat} (h : j < 500) : (octsN f k i)[j]? = some (octN f k i j) := by simp [octsN, h]
/-- One bit more. -/
theorem octN_step (f : Nat → Bool) (k i : Nat) : (octN f k (i + 1) (i / 8)).toNat = (octN f k i (i / 8)).toNat + (f (4000 * k + i)).toNat * 2 ^ (i % 8) := by
  rw [octN_nat, octN_nat, show min 8 (i + 1 - 8 * (i / 8)) = i % 8 + 1 by omega, show min 8 (i - 8 * (i / 8)) = i % 8 by omega, wordN_succ, show 4000 * k + 8 * (i / 8) + i % 8 = 4000 * k + i by omega]
theorem octN_lt (f : Nat → Bool) (k i : Nat) : (octN f k i (i / 8)).toNat < 2 ^ (i % 8) := by
  rw [octN_nat, show min 8 (i - 8 * (i / 8)) = i % 8 by omega]
  exact wordN_lt _ _ _
theorem octsN_succ {f : Nat → Bool} {k i : Nat} (h : i < 4000) : octsN f k (i + 1) = (octsN f k i).set (i / 8) (octN f k (i + 1) (i / 8)) := by
  apply List.ext_getElem?
  intro j
  rw [List.getElem?_set, octsN_len]
  by_cases e : i / 8 = j
  · subst e
    rw [if_pos rfl, if_pos (by omega), octsN_at (by omega)]
  · rw [if_neg e]
    rcases Nat.lt_or_ge j 500 with q | q
    · rw [octsN_at q, octsN_at q]
      unfold octN
      rw [show min 8 (i + 1 - 8 * j) = min 8 (i - 8 * j) by omega]
    · rw [List.getElem?_eq_none (by rw [octsN_len]; exact q), List.getElem?_eq_none (by rw [octsN_len]; exact q)]
theorem octsN_same {f : Nat → Bool} {k i : Nat} (h : i < 4000) (hf : f (4000 * k + i) = false) : octsN f k (i + 1) = octsN f k i := by
  rw [octsN_succ h]
  have e : octN f k (i + 1) (i / 8) = octN f k i (i / 8) := by
    apply UInt8.toNat_inj.1
    rw [octN_step, hf]
    simp
  rw [e]
  have := octsN_at (f := f) (k := k) (i := i) (j := i / 8) (by omega)
  obtain ⟨h1, h2⟩ := List.getElem?_eq_some_iff.1 this
  rw [← h2, List.set_getElem_self]
end FreP
end Go.Proofs.YtbnkaeigabifhaaDoor
