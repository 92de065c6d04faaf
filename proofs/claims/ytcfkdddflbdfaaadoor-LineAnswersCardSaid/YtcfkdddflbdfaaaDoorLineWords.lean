/-
  Words of lines, plainly: the sorts of words, which cell each stands for, what a text's word means; which operations can be written, and the one that a text is.
-/
import Derived.Test.YtcfkdddflbdfaaaDoorLinePlain
import Derived.Lib.ItoaNum
import Derived.Lib.AtoiAll
namespace Go.Proofs.YtcfkdddflbdfaaaDoor
set_option linter.unusedVariables false
set_option linter.unusedSimpArgs false
namespace LineP
open DigP
/-- The library's numeral is this one. -/
theorem ch_eq (d : Nat) (h : d < 10) : UInt8.ofNat (d + 48) = ch d := by unfold ch; rw [Nat.add_comm]
theorem parse_app : ∀ (l : List UInt8) (x : UInt8) (a u : Nat), Lib.parseUint10 a l = .ok u → 48 ≤ x.toNat → x.toNat ≤ 57 → u * 10 + (x.toNat - 48) < 18446744073709551616 → Lib.parseUint10 a (l ++ [x]) = .ok (u * 10 + (x.toNat - 48))
  | [], x, a, u, h, h1, h2, h3 => by
    simp only [Lib.parseUint10] at h
    injection h with h
    subst h
    show Lib.parseUint10 a [x] = _
    simp only [Lib.parseUint10]
    rw [if_pos ⟨h1, h2⟩, if_neg (by omega), if_neg (by omega)]
  | c :: r, x, a, u, h, h1, h2, h3 => by
    show Lib.parseUint10 a (c :: (r ++ [x])) = _
    simp only [Lib.parseUint10] at h ⊢
    by_cases hc : 48 ≤ c.toNat ∧ c.toNat ≤ 57
    · rw [if_pos hc] at h ⊢
      by_cases ha : 1844674407370955162 ≤ a
      · rw [if_pos ha] at h
        cases h
      · rw [if_neg ha] at h ⊢
        by_cases hb : 18446744073709551616 ≤ a * 10 + (c.toNat - 48)
        · rw [if_pos hb] at h
          cases h
        · rw [if_neg hb] at h ⊢
          exact parse_app r x _ u h h1 h2 h3
    · rw [if_neg hc] at h
      cases h
theorem parse_dig (n : Nat) : n < 18446744073709551616 → Lib.parseUint10 0 (dig n) = .ok n := by
  induction n using Nat.strongRecOn with
  | ind n ih =>
    intro hn
    by_cases h : n < 10
    · rw [dig_small h]
      have e := ch_nat h
      simp only [Lib.parseUint10]
      rw [if_pos (by omega), if_neg (by omega), if_neg (by omega), e]
      congr 1
      omega
    · rw [dig_big (by omega)]
      have e := ch_nat (d := n % 10) (by omega)
      have := parse_app (dig (n / 10)) (ch (n % 10)) 0 (n / 10) (ih (n / 10) (by omega) (by omega)) (by omega) (by omega) (by omega)
      rw [this, e]
      congr 1
      omega
theorem mag_dig {n : Nat} (h : n < 18446744073709551616) : Lib.parseMag (dig n) = .ok n := by
  unfold Lib.parseMag
  rw [if_neg (dig_ne n), parse_dig n h]
/-- What is written as a number is read as that number. -/
theorem atoi_num {n : Int} (h1 : -9223372036854775808 ≤ n) (h2 : n < 9223372036854775808) : Lib.atoiAll (num n) = .ok n := by
  unfold num
  split
  · rename_i hn
    have h45 : (45 : UInt8).toNat = 45 := rfl
    simp only [Lib.atoiAll]
    rw [if_pos (by omega), mag_dig (by omega)]
    simp only
    rw [if_neg (by omega), if_neg (by omega), if_pos h45]
    congr 1
    omega
  · rename_i hn
    cases hd : dig n.natAbs with
    | nil => exact absurd hd (dig_ne _)
    | cons c r =>
      have hc := dig_all n.natAbs c (by rw [hd]; simp)
      simp only [Lib.atoiAll]
      rw [if_neg (by omega), ← hd, mag_dig (by omega)]
      simp only
      rw [if_neg (by omega), if_neg (by omega), if_neg (by omega)]
      congr 1
      omega
def upd (f : Nat → Int) (i : Nat) (v : Int) : Nat → Int := fun j => if j = i then v else f j
theorem upd_same {f : Nat → Int} {i : Nat} {v : Int} : upd f i v i = v := by simp [upd]
theorem upd_other {f : Nat → Int} {i j : Nat} {v : Int} (h : j ≠ i) : upd f i v j = f j := by simp [upd, h]
/-- The sorts of words. -/
inductive Srt where
  | num
  | dir
  | nam
  | lev
  deriving DecidableEq
abbrev Wd := Srt × Nat
def dirT (n : Int) : List UInt8 := if 0 ≤ n ∧ n ≤ 5 then dir n else []
/-- What a word tells, of a number. -/
def tel : Srt → Int → List UInt8
  | .num, n => num n
  | .dir, n => dirT n
  | .nam, n => KindP.nm n.toNat
  | .lev, n => num n
/-- The numbers that a word may stand for. -/
def okS : Srt → Int → Prop
  | .num, n => -9223372036854775808 ≤ n ∧ n < 9223372036854775808
  | .dir, n => 0 ≤ n ∧ n ≤ 5
  | .nam, n => 0 ≤ n ∧ n < 15
  | .lev, n => 0 ≤ n ∧ n < 256
/-- A text is this number's word. -/
def Tk (s : Srt) (x : List UInt8) (v : Int) : Prop := okS s v ∧ tel s v = x
theorem dirT_ok {n : Int} (h : 0 ≤ n ∧ n ≤ 5) : dirT n = dir n := by simp [dirT, h]
theorem tk_inj {s : Srt} {x : List UInt8} {n m : Int} (hn : Tk s x n) (hm : Tk s x m) : n = m := by
  obtain ⟨h1, h2⟩ := hn
  obtain ⟨h3, h4⟩ := hm
  have h := h2.trans h4.symm
  cases s with
  | num => exact num_inj h
  | dir =>
    have h1 : 0 ≤ n ∧ n ≤ 5 := h1
    have h3 : 0 ≤ m ∧ m ≤ 5 := h3
    have h : dirT n = dirT m := h
    rw [dirT_ok h1, dirT_ok h3] at h
    exact dir_inj h1.1 h1.2 h3.1 h3.2 h
  | nam =>
    have h1 : 0 ≤ n ∧ n < 15 := h1
    have h3 : 0 ≤ m ∧ m < 15 := h3
    have := nm_inj (KindP.nm_ne_nil _ (by omega)) (KindP.nm_ne_nil _ (by omega)) (show KindP.nm n.toNat = KindP.nm m.toNat from h)
    omega
  | lev => exact num_inj h
theorem tel_len {s : Srt} {n : Int} (h1 : -9223372036854775808 ≤ n) (h2 : n < 9223372036854775808) : (tel s n).length ≤ 20 := by
  cases s with
  | num => exact num_len h1 (by omega)
  | dir =>
    show (dirT n).length ≤ 20
    unfold dirT
    split
    · rename_i h
      have : n = 0 ∨ n = 1 ∨ n = 2 ∨ n = 3 ∨ n = 4 ∨ n = 5 := by omega
      rcases this with rfl | rfl | rfl | rfl | rfl | rfl <;> decide
    · simp
  | nam =>
    show (KindP.nm n.toNat).length ≤ 20
    by_cases h : n.toNat < 15
    · have key : ∀ k : Fin 15, (KindP.nm k.val).length ≤ 20 := by decide
      exact key ⟨n.toNat, h⟩
    · rw [KindP.nm_out (by omega)]
      simp
  | lev => exact num_len h1 (by omega)
/-- The words behind the first one, each with the cell that it stands for. -/
def rowW : Nat → List Wd
  | 1 => [(.num, 1), (.num, 2), (.num, 3), (.nam, 7), (.lev, 8)]
  | 2 => [(.num, 1), (.num, 2), (.num, 3), (.num, 4), (.num, 5), (.num, 6), (.nam, 7), (.lev, 8)]
  | 3 => [(.num, 1), (.num, 2), (.num, 3), (.dir, 9)]
  | 4 => [(.num, 9), (.num, 1), (.num, 2), (.num, 3)]
  | 5 => [(.num, 9)]
  | 6 => [(.num, 9)]
  | 7 => [(.num, 1), (.num, 2), (.num, 3)]
  | 8 => [(.num, 1), (.num, 2), (.num, 3), (.num, 4), (.num, 5), (.num, 6), (.num, 9)]
  | 11 => [(.num, 9)]
  | _ => []
/-- An operation, by its ten cells; and its cells. -/
def opF (f : Nat → Int) : Op := ⟨f 0, (f 1, f 2, f 3), (f 4, f 5, f 6), ((f 7).toNat, (f 8).toNat), f 9⟩
def fOf (o : Op) : Nat → Int
  | 0 => o.kind
  | 1 => o.a.1
  | 2 => o.a.2.1
  | 3 => o.a.2.2
  | 4 => o.b.1
  | 5 => o.b.2.1
  | 6 => o.b.2.2
  | 7 => (o.c.1 : Int)
  | 8 => (o.c.2 : Int)
  | 9 => o.n
  | _ => 0
theorem opF_fOf (o : Op) : opF (fOf o) = o := rfl
/-- The words that are told of an operation of a kind. -/
def told (f : Nat → Int) (k : Nat) : List (List UInt8) := kw k :: (rowW k).map fun w => tel w.1 (f w.2)
theorem told_words {f : Nat → Int} {k : Nat} (h1 : 1 ≤ k) (h2 : k ≤ 11) (h8 : 0 ≤ f 8) (hd : k = 3 → 0 ≤ f 9 ∧ f 9 ≤ 5) : told f k = words (opF f) k := by
  have e8 : (((f 8).toNat : Nat) : Int) = f 8 := by omega
  rcases kinds h1 h2 with rfl | rfl | rfl | rfl | rfl | rfl | rfl | rfl | rfl | rfl | rfl
  · simp [told, rowW, tel, words, tail, opF, three, cellw, e8]
  · simp [told, rowW, tel, words, tail, opF, three, cellw, e8]
  · simp [told, rowW, tel, words, tail, opF, three, dirT_ok (hd rfl)]
  all_goals simp [told, rowW, tel, words, tail, opF, three]
/-- It can be written. -/
def CanW (o : Op) : Prop := ∃ k, Can o k
noncomputable def canB (o : Op) : Bool := open Classical in decide (CanW o)
theorem canB_iff {o : Op} : canB o = true ↔ CanW o := by simp [canB]
theorem canB_no {o : Op} : canB o = false ↔ ¬ CanW o := by simp [canB]
theorem can_kind {o : Op} {k : Nat} (h : Can o k) : k = o.kind.toNat := by
  have := h.kind
  omega
/-- Its line; the empty text of one that can't be written. -/
noncomputable def lineOf (o : Op) : List UInt8 := if canB o then line o o.kind.toNat else []
theorem lineOf_can {o : Op} {k : Nat} (h : Can o k) : lineOf o = line o k := by
  rw [lineOf, canB_iff.2 ⟨k, h⟩, can_kind h]
  rfl
theorem lineOf_no {o : Op} (h : ¬ CanW o) : lineOf o = [] := by
  rw [lineOf, canB_no.2 h]
  rfl
/-- Its fields are what they may be. -/
structure InB (o : Op) : Prop where
  f64 : ∀ i, i < 10 → -9223372036854775808 ≤ fOf o i ∧ fOf o i < 9223372036854775808
  c1 : o.c.1 < 256
  c2 : o.c.2 < 256
/-- A text is this operation's line. -/
def IsL (s : List UInt8) (o : Op) : Prop := InB o ∧ CanW o ∧ lineOf o = s
theorem isL_inj {s : List UInt8} {o p : Op} (h : IsL s o) (g : IsL s p) : o = p := by
  obtain ⟨_, ⟨k, hk⟩, h1⟩ := h
  obtain ⟨_, ⟨m, hm⟩, h2⟩ := g
  rw [lineOf_can hk] at h1
  rw [lineOf_can hm] at h2
  exact line_inj hk hm (h1.trans h2.symm)
/-- Told words of a kind, each of them one that may be, is a line. -/
theorem rowW_off {k : Nat} : ∀ w ∈ rowW k, w.2 < 10 ∧ 0 < w.2 := by
  unfold rowW
  split <;> decide
theorem rowW_ne {k : Nat} : (rowW k).Pairwise (fun a b => a.2 ≠ b.2) := by
  unfold rowW
  split <;> decide

/-- Told words of a kind, each of them one that may be, are an operation's line. -/
theorem isL_told {s : List UInt8} {f : Nat → Int} {k : Nat} (h1 : 1 ≤ k) (h2 : k ≤ 11) (h0 : f 0 = (k : Int)) (hz : ∀ j, j ≠ 0 → (∀ w ∈ rowW k, w.2 ≠ j) → f j = 0) (hok : ∀ w ∈ rowW k, okS w.1 (f w.2)) (hs : told f k = splits s) : IsL s (opF f) := by
  have h8 : 0 ≤ f 8 := by
    by_cases hm : (Srt.lev, 8) ∈ rowW k
    · exact (hok _ hm).1
    · rw [hz 8 (by decide) (fun w hw e => by
        rcases kinds h1 h2 with rfl | rfl | rfl | rfl | rfl | rfl | rfl | rfl | rfl | rfl | rfl <;> (revert e; revert w; revert hm; decide))]
      omega
  have h7 : 0 ≤ f 7 := by
    by_cases hm : (Srt.nam, 7) ∈ rowW k
    · exact (hok _ hm).1
    · rw [hz 7 (by decide) (fun w hw e => by
        rcases kinds h1 h2 with rfl | rfl | rfl | rfl | rfl | rfl | rfl | rfl | rfl | rfl | rfl <;> (revert e; revert w; revert hm; decide))]
      omega
  have hd : k = 3 → 0 ≤ f 9 ∧ f 9 ≤ 5 := fun e => by
    subst e
    exact hok (.dir, 9) (by decide)
  have hw := told_words h1 h2 h8 hd
  have hcan : Can (opF f) k := by
    refine ⟨h1, h2, h0, ?_, fun hk => ?_, hd⟩
    · have z : ∀ j, j ≠ 0 → (∀ w ∈ rowW k, w.2 ≠ j) → f j = 0 := hz
      rcases kinds h1 h2 with rfl | rfl | rfl | rfl | rfl | rfl | rfl | rfl | rfl | rfl | rfl
      · simp [uses, opF, z3, z 4 (by decide) (by decide), z 5 (by decide) (by decide), z 6 (by decide) (by decide), z 9 (by decide) (by decide)]
      · simp [uses, opF, z3, z 9 (by decide) (by decide)]
      · simp [uses, opF, z3, z 4 (by decide) (by decide), z 5 (by decide) (by decide), z 6 (by decide) (by decide), z 7 (by decide) (by decide), z 8 (by decide) (by decide)]
      · simp [uses, opF, z3, z 4 (by decide) (by decide), z 5 (by decide) (by decide), z 6 (by decide) (by decide), z 7 (by decide) (by decide), z 8 (by decide) (by decide)]
      · simp [uses, opF, z3, z 1 (by decide) (by decide), z 2 (by decide) (by decide), z 3 (by decide) (by decide), z 4 (by decide) (by decide), z 5 (by decide) (by decide), z 6 (by decide) (by decide), z 7 (by decide) (by decide), z 8 (by decide) (by decide)]
      · simp [uses, opF, z3, z 1 (by decide) (by decide), z 2 (by decide) (by decide), z 3 (by decide) (by decide), z 4 (by decide) (by decide), z 5 (by decide) (by decide), z 6 (by decide) (by decide), z 7 (by decide) (by decide), z 8 (by decide) (by decide)]
      · simp [uses, opF, z3, z 9 (by decide) (by decide), z 4 (by decide) (by decide), z 5 (by decide) (by decide), z 6 (by decide) (by decide), z 7 (by decide) (by decide), z 8 (by decide) (by decide)]
      · simp [uses, opF, z3, z 7 (by decide) (by decide), z 8 (by decide) (by decide)]
      · simp [uses, opF, z3, z 1 (by decide) (by decide), z 2 (by decide) (by decide), z 3 (by decide) (by decide), z 4 (by decide) (by decide), z 5 (by decide) (by decide), z 6 (by decide) (by decide), z 7 (by decide) (by decide), z 8 (by decide) (by decide), z 9 (by decide) (by decide)]
      · simp [uses, opF, z3, z 1 (by decide) (by decide), z 2 (by decide) (by decide), z 3 (by decide) (by decide), z 4 (by decide) (by decide), z 5 (by decide) (by decide), z 6 (by decide) (by decide), z 7 (by decide) (by decide), z 8 (by decide) (by decide), z 9 (by decide) (by decide)]
      · simp [uses, opF, z3, z 1 (by decide) (by decide), z 2 (by decide) (by decide), z 3 (by decide) (by decide), z 4 (by decide) (by decide), z 5 (by decide) (by decide), z 6 (by decide) (by decide), z 7 (by decide) (by decide), z 8 (by decide) (by decide)]
    · have hm : (Srt.nam, 7) ∈ rowW k := by rcases hk with rfl | rfl <;> decide
      have := hok _ hm
      exact KindP.nm_ne_nil _ (show (f 7).toNat < 15 by have h := this; simp only [okS] at h; omega)
  have hin : ∀ j, j < 10 → -9223372036854775808 ≤ f j ∧ f j < 9223372036854775808 := by
    intro j hj
    by_cases h0' : j = 0
    · subst h0'
      rw [h0]
      omega
    · by_cases hm : ∃ w ∈ rowW k, w.2 = j
      · obtain ⟨⟨s', j'⟩, hw', rfl⟩ := hm
        have := hok _ hw'
        cases s' with
        | num => exact this
        | dir => have : 0 ≤ f j' ∧ f j' ≤ 5 := this; simp only; omega
        | nam => have : 0 ≤ f j' ∧ f j' < 15 := this; simp only; omega
        | lev => have : 0 ≤ f j' ∧ f j' < 256 := this; simp only; omega
      · rw [hz j h0' (fun w hw' e => hm ⟨w, hw', e⟩)]
        omega
  have hlev : f 8 < 256 := by
    by_cases hm : (Srt.lev, 8) ∈ rowW k
    · exact (hok _ hm).2
    · rw [hz 8 (by decide) (fun w hw e => by
        rcases kinds h1 h2 with rfl | rfl | rfl | rfl | rfl | rfl | rfl | rfl | rfl | rfl | rfl <;> (revert e; revert w; revert hm; decide))]
      omega
  have hnam : f 7 < 256 := by
    by_cases hm : (Srt.nam, 7) ∈ rowW k
    · have : 0 ≤ f 7 ∧ f 7 < 15 := hok _ hm
      omega
    · rw [hz 7 (by decide) (fun w hw e => by
        rcases kinds h1 h2 with rfl | rfl | rfl | rfl | rfl | rfl | rfl | rfl | rfl | rfl | rfl <;> (revert e; revert w; revert hm; decide))]
      omega
  refine ⟨⟨fun i hi => ?_, by show (f 7).toNat < 256; omega, by show (f 8).toNat < 256; omega⟩, ⟨k, hcan⟩, ?_⟩
  · have : fOf (opF f) i = f i := by
      have : i = 0 ∨ i = 1 ∨ i = 2 ∨ i = 3 ∨ i = 4 ∨ i = 5 ∨ i = 6 ∨ i = 7 ∨ i = 8 ∨ i = 9 := by omega
      rcases this with rfl | rfl | rfl | rfl | rfl | rfl | rfl | rfl | rfl | rfl <;> first | rfl | (show (((f _).toNat : Nat) : Int) = _; omega)
    rw [this]
    exact hin i hi
  · rw [lineOf_can hcan, line, ← hw, hs, join_splits]
/-- A line's words. -/
theorem isL_splits {s : List UInt8} {o : Op} (h : IsL s o) : ∃ k, 1 ≤ k ∧ k ≤ 11 ∧ splits s = told (fOf o) k ∧ ∀ w ∈ rowW k, okS w.1 (fOf o w.2) := by
  obtain ⟨hb, ⟨k, hk⟩, hl⟩ := h
  have hd : k = 3 → 0 ≤ fOf o 9 ∧ fOf o 9 ≤ 5 := hk.dir
  refine ⟨k, hk.lo, hk.hi, ?_, fun w hw => ?_⟩
  · rw [told_words hk.lo hk.hi (show (0 : Int) ≤ (o.c.2 : Int) by omega) hd, opF_fOf, ← hl, lineOf_can hk, line_splits hk]
  · have num : ∀ j, j < 10 → okS .num (fOf o j) := fun j hj => hb.f64 j hj
    have nam : (k = 1 ∨ k = 2) → okS .nam (fOf o 7) := fun q => by
      have := nm_in (hk.cell q)
      show 0 ≤ (o.c.1 : Int) ∧ (o.c.1 : Int) < 15
      omega
    have lev : okS .lev (fOf o 8) := by
      have := hb.c2
      show 0 ≤ (o.c.2 : Int) ∧ (o.c.2 : Int) < 256
      omega
    obtain ⟨s', j⟩ := w
    rcases kinds hk.lo hk.hi with rfl | rfl | rfl | rfl | rfl | rfl | rfl | rfl | rfl | rfl | rfl <;>
      simp only [rowW, List.mem_cons, List.not_mem_nil, or_false, Prod.mk.injEq] at hw
    · rcases hw with ⟨rfl, rfl⟩ | ⟨rfl, rfl⟩ | ⟨rfl, rfl⟩ | ⟨rfl, rfl⟩ | ⟨rfl, rfl⟩
      · exact num 1 (by decide)
      · exact num 2 (by decide)
      · exact num 3 (by decide)
      · exact nam (.inl rfl)
      · exact lev
    · rcases hw with ⟨rfl, rfl⟩ | ⟨rfl, rfl⟩ | ⟨rfl, rfl⟩ | ⟨rfl, rfl⟩ | ⟨rfl, rfl⟩ | ⟨rfl, rfl⟩ | ⟨rfl, rfl⟩ | ⟨rfl, rfl⟩
      · exact num 1 (by decide)
      · exact num 2 (by decide)
      · exact num 3 (by decide)
      · exact num 4 (by decide)
      · exact num 5 (by decide)
      · exact num 6 (by decide)
      · exact nam (.inr rfl)
      · exact lev
    · rcases hw with ⟨rfl, rfl⟩ | ⟨rfl, rfl⟩ | ⟨rfl, rfl⟩ | ⟨rfl, rfl⟩
      · exact num 1 (by decide)
      · exact num 2 (by decide)
      · exact num 3 (by decide)
      · exact hd rfl
    · rcases hw with ⟨rfl, rfl⟩ | ⟨rfl, rfl⟩ | ⟨rfl, rfl⟩ | ⟨rfl, rfl⟩
      · exact num 9 (by decide)
      · exact num 1 (by decide)
      · exact num 2 (by decide)
      · exact num 3 (by decide)
    · obtain ⟨rfl, rfl⟩ := hw
      exact num 9 (by decide)
    · obtain ⟨rfl, rfl⟩ := hw
      exact num 9 (by decide)
    · rcases hw with ⟨rfl, rfl⟩ | ⟨rfl, rfl⟩ | ⟨rfl, rfl⟩
      · exact num 1 (by decide)
      · exact num 2 (by decide)
      · exact num 3 (by decide)
    · rcases hw with ⟨rfl, rfl⟩ | ⟨rfl, rfl⟩ | ⟨rfl, rfl⟩ | ⟨rfl, rfl⟩ | ⟨rfl, rfl⟩ | ⟨rfl, rfl⟩ | ⟨rfl, rfl⟩
      · exact num 1 (by decide)
      · exact num 2 (by decide)
      · exact num 3 (by decide)
      · exact num 4 (by decide)
      · exact num 5 (by decide)
      · exact num 6 (by decide)
      · exact num 9 (by decide)
    · obtain ⟨rfl, rfl⟩ := hw
      exact num 9 (by decide)
/-- The first word is none: no line. -/
theorem no_kind {s x : List UInt8} {r : List (List UInt8)} (hs : splits s = x :: r) (h : ∀ k, 1 ≤ k → k ≤ 11 → kw k ≠ x) (o : Op) : ¬ IsL s o := fun q => by
  obtain ⟨k, h1, h2, h3, _⟩ := isL_splits q
  rw [hs] at h3
  exact h k h1 h2 (List.cons.inj h3).1.symm
theorem the_kind {s : List UInt8} {r : List (List UInt8)} {k : Nat} {o : Op} (h1 : 1 ≤ k) (h2 : k ≤ 11) (hs : splits s = kw k :: r) (q : IsL s o) : r = (rowW k).map (fun w => tel w.1 (fOf o w.2)) ∧ ∀ w ∈ rowW k, okS w.1 (fOf o w.2) := by
  obtain ⟨m, g1, g2, g3, g4⟩ := isL_splits q
  rw [hs] at g3
  have : k = m := kw_inj h1 h2 g1 g2 (List.cons.inj g3).1
  subst this
  exact ⟨(List.cons.inj g3).2, g4⟩
/-- So many words are none of this kind's. -/
theorem no_len {s : List UInt8} {r : List (List UInt8)} {k : Nat} (h1 : 1 ≤ k) (h2 : k ≤ 11) (hs : splits s = kw k :: r) (h : (rowW k).length ≠ r.length) (o : Op) : ¬ IsL s o := fun q => by
  have := (the_kind h1 h2 hs q).1
  rw [this] at h
  simp at h
/-- A word is none of this sort's. -/
theorem no_word {s : List UInt8} {r : List (List UInt8)} {k i : Nat} {w : Wd} {x : List UInt8} (h1 : 1 ≤ k) (h2 : k ≤ 11) (hs : splits s = kw k :: r) (hw : (rowW k)[i]? = some w) (hx : r[i]? = some x) (h : ∀ v, ¬ Tk w.1 x v) (o : Op) : ¬ IsL s o := fun q => by
  obtain ⟨e, hok⟩ := the_kind h1 h2 hs q
  rw [e, List.getElem?_map, hw] at hx
  exact h (fOf o w.2) ⟨hok w (List.mem_of_getElem? hw), by simpa using hx⟩
end LineP
end Go.Proofs.YtcfkdddflbdfaaaDoor
