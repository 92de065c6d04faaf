/-
  Numbers as digits, words with one blank between each two, plainly: told by what is written, and by nothing else.
-/
namespace Go.Proofs.YtcfkdddflbdfaaaDoor
set_option linter.unusedVariables false
set_option linter.unusedSimpArgs false
namespace DigP
def ch (d : Nat) : UInt8 := UInt8.ofNat (48 + d)
theorem ch_nat {d : Nat} (h : d < 10) : (ch d).toNat = 48 + d := by
  unfold ch
  rw [UInt8.toNat_ofNat']
  omega
/-- A number's digits, the greatest first. -/
def dig (n : Nat) : List UInt8 := if h : n < 10 then [ch n] else dig (n / 10) ++ [ch (n % 10)]
termination_by n
decreasing_by omega
theorem dig_small {n : Nat} (h : n < 10) : dig n = [ch n] := by
  rw [dig, dif_pos h]
theorem dig_big {n : Nat} (h : 10 ≤ n) : dig n = dig (n / 10) ++ [ch (n % 10)] := by
  rw [dig, dif_neg (by omega)]
theorem dig_ne (n : Nat) : dig n ≠ [] := by
  by_cases h : n < 10
  · rw [dig_small h]
    simp
  · rw [dig_big (by omega)]
    simp
theorem dig_all (n : Nat) : ∀ x ∈ dig n, 48 ≤ x.toNat ∧ x.toNat ≤ 57 := by
  induction n using Nat.strongRecOn with
  | ind n ih =>
    intro x hx
    by_cases h : n < 10
    · rw [dig_small h] at hx
      obtain rfl : x = ch n := by simpa using hx
      rw [ch_nat h]
      omega
    · rw [dig_big (by omega)] at hx
      rcases List.mem_append.1 hx with hx | hx
      · exact ih (n / 10) (by omega) x hx
      · obtain rfl : x = ch (n % 10) := by simpa using hx
        rw [ch_nat (by omega)]
        omega
/-- What digits mean. -/
def val (l : List UInt8) : Nat := l.foldl (fun a x => 10 * a + (x.toNat - 48)) 0
theorem val_app (l : List UInt8) (x : UInt8) : val (l ++ [x]) = 10 * val l + (x.toNat - 48) := by
  unfold val
  rw [List.foldl_append]
  rfl
theorem val_dig (n : Nat) : val (dig n) = n := by
  induction n using Nat.strongRecOn with
  | ind n ih =>
    by_cases h : n < 10
    · rw [dig_small h]
      show 10 * 0 + ((ch n).toNat - 48) = n
      rw [ch_nat h]
      omega
    · rw [dig_big (by omega), val_app, ih (n / 10) (by omega), ch_nat (by omega)]
      omega
theorem dig_inj {n m : Nat} (h : dig n = dig m) : n = m := by
  rw [← val_dig n, ← val_dig m, h]
/-- No nought ahead. -/
theorem dig_first (n : Nat) : n = 0 ∨ ∃ d r, 1 ≤ d ∧ d < 10 ∧ dig n = ch d :: r := by
  induction n using Nat.strongRecOn with
  | ind n ih =>
    by_cases h0 : n = 0
    · exact .inl h0
    · right
      by_cases h : n < 10
      · exact ⟨n, [], by omega, h, dig_small h⟩
      · rcases ih (n / 10) (by omega) with q | ⟨d, r, h1, h2, h3⟩
        · omega
        · exact ⟨d, r ++ [ch (n % 10)], h1, h2, by rw [dig_big (by omega), h3]; rfl⟩
theorem dig_len {n : Nat} : ∀ {k : Nat}, n < 10 ^ (k + 1) → (dig n).length ≤ k + 1 := by
  induction n using Nat.strongRecOn with
  | ind n ih =>
    intro k hk
    by_cases h : n < 10
    · rw [dig_small h]
      simp
    · cases k with
      | zero => simp at hk; omega
      | succ k =>
        rw [dig_big (by omega), List.length_append]
        have : n / 10 < 10 ^ (k + 1) := by
          rw [Nat.pow_succ] at hk
          omega
        have := ih (n / 10) (by omega) this
        simp
        omega
/-- A whole number's digits: 45 is the sign. -/
def num (n : Int) : List UInt8 := if n < 0 then 45 :: dig n.natAbs else dig n.natAbs
theorem num_ne (n : Int) : num n ≠ [] := by
  unfold num
  split
  · simp
  · exact dig_ne _
theorem num_inj {n m : Int} (h : num n = num m) : n = m := by
  have sign : ∀ a b : Nat, dig a ≠ 45 :: dig b := fun a b e => by
    have := dig_all a 45 (by rw [e]; simp)
    have h45 : (45 : UInt8).toNat = 45 := rfl
    omega
  unfold num at h
  split at h
  · split at h
    · have := dig_inj (List.cons.inj h).2
      omega
    · exact absurd h.symm (sign _ _)
  · split at h
    · exact absurd h (sign _ _)
    · have := dig_inj h
      omega
theorem num_len {n : Int} (h1 : -9223372036854775808 ≤ n) (h2 : n ≤ 9223372036854775807) : (num n).length ≤ 20 := by
  have : (dig n.natAbs).length ≤ 19 := dig_len (k := 18) (by omega)
  unfold num
  split
  · simp
    omega
  · omega
/-- A word without blanks. -/
def Plain (w : List UInt8) : Prop := ∀ x ∈ w, x ≠ 32
theorem num_plain (n : Int) : Plain (num n) := by
  intro x hx e
  subst e
  have h32 : (32 : UInt8).toNat = 32 := rfl
  unfold num at hx
  split at hx
  · rcases List.mem_cons.1 hx with hx | hx
    · exact absurd hx (by decide)
    · have := dig_all _ _ hx
      omega
  · have := dig_all _ _ hx
    omega
/-- What stands between blanks. -/
def splits : List UInt8 → List (List UInt8)
  | [] => [[]]
  | x :: r => if x = 32 then [] :: splits r else match splits r with
    | [] => [[x]]
    | w :: ws => (x :: w) :: ws
def join : List (List UInt8) → List UInt8
  | [] => []
  | [w] => w
  | w :: v :: r => w ++ 32 :: join (v :: r)
theorem splits_ne (l : List UInt8) : splits l ≠ [] := by
  cases l with
  | nil => simp [splits]
  | cons x r =>
    simp only [splits]
    split
    · simp
    · split <;> simp
theorem join_splits : ∀ l : List UInt8, join (splits l) = l
  | [] => rfl
  | x :: r => by
    have ih := join_splits r
    simp only [splits]
    split
    · rename_i h
      subst h
      cases hs : splits r with
      | nil => exact absurd hs (splits_ne r)
      | cons w ws =>
        rw [hs] at ih
        show [] ++ 32 :: join (w :: ws) = _
        rw [ih]
        rfl
    · cases hs : splits r with
      | nil => exact absurd hs (splits_ne r)
      | cons w ws =>
        rw [hs] at ih
        simp only
        cases ws with
        | nil =>
          show x :: w = x :: r
          have : w = r := ih
          rw [this]
        | cons v vs =>
          show (x :: w) ++ 32 :: join (v :: vs) = x :: r
          have : w ++ 32 :: join (v :: vs) = r := ih
          rw [← this]
          rfl
theorem splits_word : ∀ {w : List UInt8}, Plain w → splits w = [w]
  | [], _ => rfl
  | x :: r, h => by
    have hx : x ≠ 32 := h x (by simp)
    simp only [splits]
    rw [if_neg hx, splits_word (fun y hy => h y (by simp [hy]))]
theorem splits_app : ∀ {w : List UInt8} (l : List UInt8), Plain w → splits (w ++ 32 :: l) = w :: splits l
  | [], l, _ => by simp [splits]
  | x :: r, l, h => by
    have hx : x ≠ 32 := h x (by simp)
    simp only [List.cons_append, splits]
    rw [if_neg hx, splits_app l (fun y hy => h y (by simp [hy]))]
theorem splits_join : ∀ {ws : List (List UInt8)}, ws ≠ [] → (∀ w ∈ ws, Plain w) → splits (join ws) = ws
  | [w], _, h => splits_word (h w (by simp))
  | w :: v :: r, _, h => by
    show splits (w ++ 32 :: join (v :: r)) = _
    rw [splits_app _ (h w (by simp)), splits_join (by simp) (fun y hy => h y (by simp only [List.mem_cons] at hy ⊢; exact .inr hy))]
theorem join_inj {a b : List (List UInt8)} (ha : a ≠ []) (hb : b ≠ []) (pa : ∀ w ∈ a, Plain w) (pb : ∀ w ∈ b, Plain w) (h : join a = join b) : a = b := by
  rw [← splits_join ha pa, ← splits_join hb pb, h]
/-- A blank more parts a word, or puts an empty one there: one word more, and the first one is no other than it was, or is a beginning of it. -/
theorem splits_blank : ∀ (a b : List UInt8), (splits (a ++ 32 :: b)).length = (splits (a ++ b)).length + 1
  | [], b => by simp [splits]
  | x :: r, b => by
    have ih := splits_blank r b
    simp only [List.cons_append, splits]
    by_cases hx : x = 32
    · rw [if_pos hx, if_pos hx]
      simp only [List.length_cons]
      omega
    · rw [if_neg hx, if_neg hx]
      cases h1 : splits (r ++ 32 :: b) with
      | nil => exact absurd h1 (splits_ne _)
      | cons w ws =>
        cases h2 : splits (r ++ b) with
        | nil => exact absurd h2 (splits_ne _)
        | cons v vs =>
          rw [h1, h2] at ih
          simpa using ih
theorem splits_first (a b : List UInt8) : ∃ w ws v vs t, splits (a ++ 32 :: b) = w :: ws ∧ splits (a ++ b) = v :: vs ∧ v = w ++ t := by
  induction a with
  | nil =>
    cases h : splits b with
    | nil => exact absurd h (splits_ne _)
    | cons v vs => exact ⟨[], v :: vs, v, vs, v, by simp [splits, h], by simpa using h, by simp⟩
  | cons x r ih =>
    obtain ⟨w, ws, v, vs, t, h1, h2, h3⟩ := ih
    simp only [List.cons_append, splits]
    by_cases hx : x = 32
    · rw [if_pos hx, if_pos hx]
      exact ⟨[], _, [], _, [], rfl, rfl, rfl⟩
    · rw [if_neg hx, if_neg hx, h1, h2]
      exact ⟨x :: w, ws, x :: v, vs, t, rfl, rfl, by rw [h3]; rfl⟩
/-- What stands behind, a blank between: its words behind. -/
theorem splits_behind : ∀ (a b : List UInt8), splits (a ++ 32 :: b) = splits a ++ splits b
  | [], b => by simp [splits]
  | x :: r, b => by
    have ih := splits_behind r b
    simp only [List.cons_append, splits]
    by_cases hx : x = 32
    · rw [if_pos hx, if_pos hx, ih]
      rfl
    · rw [if_neg hx, if_neg hx, ih]
      cases h : splits r with
      | nil => exact absurd h (splits_ne _)
      | cons w ws => rfl
end DigP
end Go.Proofs.YtcfkdddflbdfaaaDoor
