/-
  Plain mathematics of layer 5: a row's runs, their bytes, and a row that is read.
-/
import Derived.Test.YtlhanbjendbhfaaBytesPlain
namespace Go.Proofs.Ytlhanbjendbhfaa
open Go.Lib (uvarint uvarint_small uvarint_big uvarint_length64 uvarint_pos zigzag)
set_option linter.unusedVariables false
set_option linter.unusedSimpArgs false
namespace RunsW
open BytesW

/-- A row's runs: how many, and of which number. -/
def runs : List UInt8 → List (Nat × UInt8)
  | [] => []
  | x :: r => match runs r with
    | [] => [(1, x)]
    | (n, y) :: t => if y = x then (n + 1, x) :: t else (1, x) :: (n, y) :: t
def runBytes (q : Nat × UInt8) : List UInt8 := uvarint q.1 ++ [q.2]
/-- A row's bytes. -/
def putR (l : List UInt8) : List UInt8 := (runs l).flatMap runBytes

theorem runs_head (x : UInt8) (r : List UInt8) : ∃ k t, runs (x :: r) = (k, x) :: t ∧ 1 ≤ k := by
  simp only [runs]
  split
  · exact ⟨1, [], rfl, by omega⟩
  · split
    · exact ⟨_, _, rfl, by omega⟩
    · exact ⟨_, _, rfl, by omega⟩
theorem runs_ne {x : UInt8} {r : List UInt8} (h : r.head? ≠ some x) : runs (x :: r) = (1, x) :: runs r := by
  cases r with
  | nil => rfl
  | cons y t =>
    obtain ⟨k, t', e, _⟩ := runs_head y t
    have hne : y ≠ x := fun e => h (by rw [e]; rfl)
    rw [runs, e]
    simp only
    rw [if_neg hne]
theorem runs_eq {x : UInt8} {r : List UInt8} {n : Nat} {t : List (Nat × UInt8)} (h : runs r = (n, x) :: t) : runs (x :: r) = (n + 1, x) :: t := by
  rw [runs, h]
  simp
theorem runs_rep {x : UInt8} {r : List UInt8} (h : r.head? ≠ some x) : ∀ n, runs (List.replicate (n + 1) x ++ r) = (n + 1, x) :: runs r
  | 0 => by simpa using runs_ne h
  | n + 1 => by
    rw [List.replicate_succ, List.cons_append]
    exact runs_eq (runs_rep h n)
theorem putR_nil : putR [] = [] := rfl
theorem putR_rep {x : UInt8} {r : List UInt8} {n : Nat} (hn : 1 ≤ n) (h : r.head? ≠ some x) : putR (List.replicate n x ++ r) = uvarint n ++ x :: putR r := by
  obtain ⟨k, rfl⟩ : ∃ k, n = k + 1 := ⟨n - 1, by omega⟩
  rw [putR, runs_rep h]
  simp [runBytes, putR]
theorem runs_append : ∀ (l r : List UInt8), (∀ x, l.getLast? = some x → r.head? ≠ some x) → runs (l ++ r) = runs l ++ runs r
  | [], r, _ => by simp [runs]
  | [x], r, h => by
    rw [List.singleton_append, runs_ne (h x rfl)]
    rfl
  | x :: y :: l, r, h => by
    have ih := runs_append (y :: l) r (fun z hz => h z (by simpa using hz))
    obtain ⟨k, t, e, _⟩ := runs_head y l
    rw [List.cons_append, runs, ih, runs.eq_2 x (y :: l), e]
    simp only [List.cons_append]
    split <;> rfl
theorem putR_append {l r : List UInt8} (h : ∀ x, l.getLast? = some x → r.head? ≠ some x) : putR (l ++ r) = putR l ++ putR r := by
  rw [putR, runs_append l r h, List.flatMap_append]
  rfl
theorem putR_snoc {l : List UInt8} {m : Nat} {x : UInt8} (hm : 1 ≤ m) (h : l.getLast? ≠ some x) : putR (l ++ List.replicate m x) = putR l ++ (uvarint m ++ [x]) := by
  have e : (List.replicate m x).head? = some x := by
    obtain ⟨k, rfl⟩ : ∃ k, m = k + 1 := ⟨m - 1, by omega⟩
    rfl
  rw [putR_append (fun y hy e2 => by rw [e] at e2; injection e2 with e2; subst e2; exact h hy)]
  have h2 := putR_rep (x := x) (r := []) hm (by simp)
  rw [List.append_nil] at h2
  rw [h2]
  rfl

/-- How many at the beginning are x. -/
def lead (x : UInt8) : List UInt8 → Nat
  | [] => 0
  | y :: r => if y = x then lead x r + 1 else 0
theorem lead_le (x : UInt8) : ∀ l, lead x l ≤ l.length
  | [] => by simp [lead]
  | y :: r => by
    have := lead_le x r
    simp only [lead, List.length_cons]
    split <;> omega
theorem lead_split (x : UInt8) : ∀ l, l = List.replicate (lead x l) x ++ l.drop (lead x l) ∧ (l.drop (lead x l)).head? ≠ some x
  | [] => by simp [lead]
  | y :: r => by
    obtain ⟨h1, h2⟩ := lead_split x r
    simp only [lead]
    by_cases e : y = x
    · rw [if_pos e]
      subst e
      refine ⟨?_, by simpa using h2⟩
      rw [List.replicate_succ, List.cons_append, List.drop_succ_cons, ← h1]
    · rw [if_neg e]
      simpa using e
theorem lead_pos (x : UInt8) (r : List UInt8) : 1 ≤ lead x (x :: r) := by
  simp [lead]
theorem lead_getElem {x : UInt8} : ∀ {l : List UInt8} {i : Nat} (h : i < lead x l), l[i]? = some x
  | [], i, h => by simp [lead] at h
  | y :: r, i, h => by
    simp only [lead] at h
    split at h
    · rename_i e
      subst e
      cases i with
      | zero => rfl
      | succ i => simpa using lead_getElem (show i < lead y r by omega)
    · omega
theorem lead_stop {x : UInt8} {l : List UInt8} : l[lead x l]? ≠ some x := by
  have h := (lead_split x l).2
  rwa [List.head?_drop] at h
/-- The first number's run, and what stands behind it. -/
theorem runs_first {x : UInt8} {r : List UInt8} : runs (x :: r) = (lead x (x :: r), x) :: runs ((x :: r).drop (lead x (x :: r))) := by
  obtain ⟨h1, h2⟩ := lead_split x (x :: r)
  obtain ⟨k, hk⟩ : ∃ k, lead x (x :: r) = k + 1 := ⟨lead x (x :: r) - 1, by have := lead_pos x r; omega⟩
  have h3 := runs_rep h2 k
  rw [← hk, ← h1] at h3
  exact h3
theorem putR_first {x : UInt8} {r : List UInt8} : putR (x :: r) = (uvarint (lead x (x :: r)) ++ [x]) ++ putR ((x :: r).drop (lead x (x :: r))) := by
  rw [putR, runs_first]
  simp [runBytes, putR]

theorem uv_le : ∀ m, 1 ≤ m → (uvarint m).length ≤ m := by
  intro m
  induction m using Nat.strongRecOn with
  | _ m ih =>
    intro hm
    by_cases hs : m < 128
    · rw [uvarint_small hs]
      simpa using hm
    · rw [uvarint_big (by omega), List.length_cons]
      have := ih (m / 128) (by omega) (by omega)
      omega
theorem putR_le : ∀ (k : Nat) (l : List UInt8), l.length = k → (putR l).length ≤ 2 * k := by
  intro k
  induction k using Nat.strongRecOn with
  | _ k ih =>
    intro l hl
    cases l with
    | nil => simp [putR_nil]
    | cons x r =>
      have h1 := lead_pos x r
      have h2 := lead_le x (x :: r)
      have h3 := uv_le _ h1
      have h4 := ih (k - lead x (x :: r)) (by omega) ((x :: r).drop (lead x (x :: r))) (by rw [List.length_drop]; omega)
      rw [putR_first]
      simp only [List.length_append, List.length_cons, List.length_nil]
      omega
theorem putR_len (l : List UInt8) : (putR l).length ≤ 2 * l.length := putR_le _ l rfl

/-- Where a row's runs begin, p being what stands ahead. -/
def starts (p : Option UInt8) : List UInt8 → Nat
  | [] => 0
  | x :: r => (if p = some x then 0 else 1) + starts (some x) r
theorem starts_some : ∀ (l : List UInt8) (y : UInt8), starts (some y) l + 1 = (runs (y :: l)).length
  | [], y => by simp [starts, runs]
  | x :: r, y => by
    have ih := starts_some r x
    simp only [starts]
    by_cases e : y = x
    · subst e
      obtain ⟨k, t, e1, _⟩ := runs_head y r
      rw [if_pos rfl, runs_eq e1]
      rw [e1] at ih
      simp only [List.length_cons] at ih ⊢
      omega
    · rw [if_neg (fun h => e (by injection h)), runs_ne (by simpa using fun h => e h.symm), List.length_cons, ← ih]
      omega
theorem starts_none (l : List UInt8) : starts none l = (runs l).length := by
  cases l with
  | nil => rfl
  | cons x r =>
    rw [← starts_some r x]
    simp only [starts]
    rw [if_neg (by simp)]
    omega

/-- A row of n numbers is read: l and c: what was read ahead, and how many bytes that took. -/
def getR (n c : Nat) (l s : List UInt8) : Option (List UInt8 × Nat) :=
  if hn : n ≤ l.length then some (l, c)
  else match pn s 0 0 with
    | none => none
    | some (m, k) => match s.drop k with
      | [] => none
      | x :: r => if hm : m = 0 ∨ n - l.length < m ∨ l.getLast? = some x then none else getR n (c + k + 1) (l ++ List.replicate m x) r
termination_by n - l.length
decreasing_by
  simp only [List.length_append, List.length_replicate]
  omega
def rowGet (b : List UInt8) (n : Nat) : Option (List UInt8 × Nat) := getR n 0 [] b

theorem getR_done {n c : Nat} {l s : List UInt8} (h : n ≤ l.length) : getR n c l s = some (l, c) := by
  rw [getR, dif_pos h]
theorem getR_none {n c : Nat} {l s : List UInt8} (h : l.length < n) (hp : pn s 0 0 = none) : getR n c l s = none := by
  rw [getR, dif_neg (by omega)]
  simp [hp]
theorem getR_end {n c m k : Nat} {l s : List UInt8} (h : l.length < n) (hp : pn s 0 0 = some (m, k)) (hd : s.drop k = []) : getR n c l s = none := by
  rw [getR, dif_neg (by omega)]
  simp [hp, hd]
theorem getR_bad {n c m k : Nat} {l s : List UInt8} {x : UInt8} {r : List UInt8} (h : l.length < n) (hp : pn s 0 0 = some (m, k)) (hd : s.drop k = x :: r) (hm : m = 0 ∨ n - l.length < m ∨ l.getLast? = some x) : getR n c l s = none := by
  rw [getR, dif_neg (by omega)]
  simp [hp, hd, hm]
theorem getR_next {n c m k : Nat} {l s : List UInt8} {x : UInt8} {r : List UInt8} (h : l.length < n) (hp : pn s 0 0 = some (m, k)) (hd : s.drop k = x :: r) (hm : ¬ (m = 0 ∨ n - l.length < m ∨ l.getLast? = some x)) : getR n c l s = getR n (c + k + 1) (l ++ List.replicate m x) r := by
  rw [getR, dif_neg (by omega)]
  simp [hp, hd, hm]
theorem drop_cons_take {s r : List UInt8} {x : UInt8} {k : Nat} (h : s.drop k = x :: r) : s = s.take k ++ x :: r ∧ k + 1 + r.length = s.length := by
  refine ⟨by rw [← h, List.take_append_drop], ?_⟩
  have := congrArg List.length h
  simp at this
  omega

/-- What is taken is just the row's bytes. -/
theorem getR_sound : ∀ (d n c : Nat) (l s row : List UInt8) (c' : Nat), n - l.length = d → l.length ≤ n → getR n c l s = some (row, c') → row.length = n ∧ c ≤ c' ∧ c' - c ≤ s.length ∧ putR row = putR l ++ s.take (c' - c) := by
  intro d
  induction d using Nat.strongRecOn with
  | _ d ih =>
    intro n c l s row c' hd hl h
    by_cases hn : n ≤ l.length
    · rw [getR_done hn] at h
      injection h with h
      injection h with h1 h2
      subst h1 h2
      exact ⟨by omega, by omega, by omega, by simp⟩
    · rcases hp : pn s 0 0 with _ | ⟨m, k⟩
      · rw [getR_none (by omega) hp] at h
        cases h
      · rcases hdr : s.drop k with _ | ⟨x, r⟩
        · rw [getR_end (by omega) hp hdr] at h
          cases h
        · by_cases hm : m = 0 ∨ n - l.length < m ∨ l.getLast? = some x
          · rw [getR_bad (by omega) hp hdr hm] at h
            cases h
          · rw [getR_next (by omega) hp hdr hm] at h
            have hm1 : 1 ≤ m := by omega
            have hm2 : m ≤ n - l.length := by omega
            have hm3 : l.getLast? ≠ some x := fun e => hm (.inr (.inr e))
            obtain ⟨i1, i2, i3, i4⟩ := ih (n - (l ++ List.replicate m x).length) (by simp; omega) n (c + k + 1) (l ++ List.replicate m x) r row c' rfl (by simp; omega) h
            obtain ⟨hs, hlen⟩ := drop_cons_take hdr
            obtain ⟨hp1, hp2, hp3⟩ := pn_some hp
            refine ⟨i1, by omega, by omega, ?_⟩
            have ht : s.take k = uvarint m := by rw [hp3]; exact (List.prefix_iff_eq_take.1 hp2).symm
            rw [i4, putR_snoc hm1 hm3, List.append_assoc]
            congr 1
            have e1 : s = uvarint m ++ x :: r := by rw [← ht]; exact hs
            have e2 : c' - c = (uvarint m).length + (1 + (c' - (c + k + 1))) := by omega
            rw [e2, e1, List.take_length_add_append, Nat.add_comm 1]
            simp

/-- A row's bytes are read, whatever stands behind. -/
theorem getR_full : ∀ (d : Nat) (r l more : List UInt8) (c : Nat), r.length = d → d < 18446744073709551616 → (∀ x, l.getLast? = some x → r.head? ≠ some x) → getR (l.length + d) c l (putR r ++ more) = some (l ++ r, c + (putR r).length) := by
  intro d
  induction d using Nat.strongRecOn with
  | _ d ih =>
    intro r l more c hd h64 hb
    cases r with
    | nil =>
      rw [getR_done (by simp at hd; omega)]
      simp [putR_nil]
    | cons x t =>
      obtain ⟨q, hq⟩ : ∃ q, lead x (x :: t) = q := ⟨_, rfl⟩
      have h1 := lead_pos x t
      have h2 := lead_le x (x :: t)
      have h3 := lead_split x (x :: t)
      have h4 := putR_first (x := x) (r := t)
      rw [hq] at h1 h2 h3 h4
      obtain ⟨r', hr'⟩ : ∃ r', (x :: t).drop q = r' := ⟨_, rfl⟩
      rw [hr'] at h3 h4
      have hlr : r'.length = d - q := by rw [← hr', List.length_drop, hd]
      have hp : pn (putR (x :: t) ++ more) 0 0 = some (q, (uvarint q).length) := pn_yes (by omega) (by rw [h4]; simp)
      have hdr : (putR (x :: t) ++ more).drop (uvarint q).length = x :: (putR r' ++ more) := by rw [h4]; simp
      rw [getR_next (by simp at hd; omega) hp hdr (by
        intro hc
        rcases hc with hc | hc | hc
        · omega
        · omega
        · exact hb x hc rfl)]
      have e : l.length + d = (l ++ List.replicate q x).length + (d - q) := by simp; omega
      rw [e, ih (d - q) (by omega) r' (l ++ List.replicate q x) more _ hlr (by omega) (fun y hy => by
        have : (l ++ List.replicate q x).getLast? = some x := by
          obtain ⟨j, rfl⟩ : ∃ j, q = j + 1 := ⟨q - 1, by omega⟩
          rw [List.replicate_succ', ← List.append_assoc, List.getLast?_concat]
        rw [this] at hy
        injection hy with hy
        subst hy
        exact h3.2)]
      rw [List.append_assoc, ← h3.1, h4]
      simp
      omega

/-- No row of n numbers has more than 2 n bytes. -/
theorem getR_take : ∀ (d n c : Nat) (l s : List UInt8) (M : Nat), n - l.length = d → 2 * d ≤ M → getR n c l (s.take M) = getR n c l s := by
  intro d
  induction d using Nat.strongRecOn with
  | _ d ih =>
    intro n c l s M hd hM
    by_cases hn : n ≤ l.length
    · rw [getR_done hn, getR_done hn]
    · have hn' : l.length < n := by omega
      rcases hp : pn s 0 0 with _ | ⟨m, k⟩
      · have hp2 : pn (s.take M) 0 0 = none := by
          rcases h : pn (s.take M) 0 0 with _ | ⟨m, k⟩
          · rfl
          · obtain ⟨a1, a2, _⟩ := pn_some h
            exact absurd (a2.trans (List.take_prefix M s)) (pn_none hp m a1)
        rw [getR_none hn' hp, getR_none hn' hp2]
      · obtain ⟨a1, a2, a3⟩ := pn_some hp
        by_cases hbig : m = 0 ∨ n - l.length < m
        · have hs : getR n c l s = none := by
            rcases hdr : s.drop k with _ | ⟨x, r⟩
            · exact getR_end hn' hp hdr
            · exact getR_bad hn' hp hdr (by rcases hbig with h | h <;> simp [h])
          rw [hs]
          rcases hp2 : pn (s.take M) 0 0 with _ | ⟨m2, k2⟩
          · exact getR_none hn' hp2
          · obtain ⟨b1, b2, b3⟩ := pn_some hp2
            have := pn_yes b1 (b2.trans (List.take_prefix M s))
            rw [hp] at this
            injection this with this
            injection this with e1 e2
            subst e1
            rcases hdr : (s.take M).drop k2 with _ | ⟨x, r⟩
            · exact getR_end hn' hp2 hdr
            · exact getR_bad hn' hp2 hdr (by rcases hbig with h | h <;> simp [h])
        · have hm1 : 1 ≤ m := by omega
          have hm2 : m ≤ n - l.length := by omega
          have hk := uv_le m hm1
          have hp2 : pn (s.take M) 0 0 = some (m, k) := by
            rw [a3]
            refine pn_yes a1 ?_
            rw [List.prefix_take_iff]
            exact ⟨a2, by omega⟩
          rcases hdr : s.drop k with _ | ⟨x, r⟩
          · rw [getR_end hn' hp hdr, getR_end hn' hp2 (by rw [List.drop_take, hdr]; simp)]
          · have hdr2 : (s.take M).drop k = x :: r.take (M - k - 1) := by
              rw [List.drop_take, hdr]
              obtain ⟨j, hj⟩ : ∃ j, M - k = j + 1 := ⟨M - k - 1, by omega⟩
              rw [hj]
              simp
            by_cases hm : m = 0 ∨ n - l.length < m ∨ l.getLast? = some x
            · rw [getR_bad hn' hp hdr hm, getR_bad hn' hp2 hdr2 hm]
            · rw [getR_next hn' hp hdr hm, getR_next hn' hp2 hdr2 hm]
              exact ih (n - (l ++ List.replicate m x).length) (by simp; omega) n _ _ r _ rfl (by simp; omega)

theorem get_put {l more : List UInt8} (h : l.length < 18446744073709551616) : rowGet (putR l ++ more) l.length = some (l, (putR l).length) := by
  have := getR_full l.length l [] more 0 rfl h (fun x hx => by simp at hx)
  simpa [rowGet] using this
theorem get_one {b l : List UInt8} {n k : Nat} (h : rowGet b n = some (l, k)) : l.length = n ∧ k ≤ b.length ∧ putR l = b.take k := by
  obtain ⟨h1, h2, h3, h4⟩ := getR_sound (n - 0) n 0 [] b l k (by simp) (by simp) h
  refine ⟨h1, by omega, ?_⟩
  simpa [putR_nil] using h4
theorem get_cut {l : List UInt8} {cut : Nat} (h : l.length < 18446744073709551616) (hc : cut < (putR l).length) : rowGet ((putR l).take cut) l.length = none := by
  rcases hg : rowGet ((putR l).take cut) l.length with _ | ⟨l', k⟩
  · rfl
  · obtain ⟨h1, h2, h3⟩ := get_one hg
    rw [List.length_take] at h2
    rw [List.take_take] at h3
    have e : putR l = putR l' ++ (putR l).drop (min k cut) := by rw [h3, List.take_append_drop]
    have g1 := get_put (more := (putR l).drop (min k cut)) (show l'.length < _ by omega)
    have g2 := get_put (more := []) h
    rw [List.append_nil] at g2
    rw [← e, h1, g2] at g1
    injection g1 with g1
    injection g1 with e1 e2
    subst e1
    have := congrArg List.length h3
    rw [List.length_take] at this
    omega
theorem get_take (b : List UInt8) (n : Nat) : rowGet (b.take (2 * n)) n = rowGet b n := getR_take n n 0 [] b (2 * n) (by simp) (by omega)
theorem get_len {b l : List UInt8} {n k : Nat} (h : rowGet b n = some (l, k)) : l.length = n ∧ k ≤ b.length := ⟨(get_one h).1, (get_one h).2.1⟩
end RunsW
end Go.Proofs.Ytlhanbjendbhfaa
