/-
  Water, plainly: what is near, what a place wants, where water goes, and what follows of it: no Go in sight.
-/
import Derived.Test.YtlahkmkipciiiaaDoorKindPlain
namespace Go.Proofs.YtlahkmkipciiiaaDoor
set_option linter.unusedVariables false
namespace FlowP
abbrev Cl := Nat × Nat
/-- What is near: the cell, its sides by directions, the cells below its level sides; light and draw. -/
structure Nr where
  s : Cl
  sd : Nat → Cl
  un : Nat → Cl
  lt : Nat
  dr : Int
def sure (c : Cl) : Cl := if KindP.may c.1 c.2 then c else (1, 0)
def wet (c : Cl) : Bool := c.1 == 13
def soak (c : Cl) : Bool := KindP.soaks c.1
def holds (c : Cl) : Bool := !soak c && !wet c
def upd (f : Nat → Cl) (d : Nat) (c : Cl) : Nat → Cl := fun i => if i = d then c else f i
def snd (n : Nr) : Nr := {n with s := sure n.s, sd := fun i => sure (n.sd i), un := fun i => sure (n.un i)}
/-- Of what may be: does the level side feed? (Not, if it is of the greatest level.) -/
def gives (n : Nr) (d : Nat) : Bool := wet (n.sd d) && holds (n.un d) && decide ((n.sd d).2 < 7)
def lv (n : Nr) (d : Nat) : Nat := if gives n d then (n.sd d).2 else 7
/-- The least level of the first so many level sides that feed. -/
def least (n : Nr) : Nat → Nat
  | 0 => 7
  | d + 1 => min (least n d) (lv n d)
def wantS (n : Nr) : Nat × Bool := if wet (n.sd 4) then (1, true) else if least n 4 = 7 then (0, false) else (least n 4 + 1, true)
def want (n : Nr) : Nat × Bool := wantS (snd n)
/-- The level sides that soak, of the first so many: each gets this. -/
def goes (n : Nr) : Nat → List (Nat × Cl)
  | 0 => []
  | d + 1 => goes n d ++ (if soak (n.sd d) then [(1 + d, (13, n.s.2 + 1))] else [])
def spreadS (n : Nr) : List (Nat × Cl) := if soak (n.sd 5) then [(6, (13, 1))] else if wet (n.sd 5) || decide (7 ≤ n.s.2) then [] else goes n 4
def deedS (n : Nr) : List (Nat × Cl) :=
  if wet n.s then
    if 0 < n.s.2 ∧ (wantS n).2 = false then [(0, (0, 0))]
    else if 0 < n.s.2 ∧ n.s.2 ≠ (wantS n).1 then [(0, (13, (wantS n).1))]
    else spreadS n
  else []
def deed (n : Nr) : List (Nat × Cl) := deedS (snd n)

theorem sure_may (c : Cl) : KindP.may (sure c).1 (sure c).2 = true := by
  unfold sure
  split
  · assumption
  · decide
theorem sure_of {c : Cl} (h : KindP.may c.1 c.2 = true) : sure c = c := by simp [sure, h]
theorem sure_sure (c : Cl) : sure (sure c) = sure c := sure_of (sure_may c)
theorem wet_lev {c : Cl} (h : wet (sure c) = true) : (sure c).2 ≤ 7 ∧ sure c = c ∧ c.1 = 13 := by
  have hm := sure_may c
  have h1 : (sure c).1 = 13 := by simpa [wet] using h
  have e : sure c = c := by
    unfold sure at h1 ⊢
    split
    · rfl
    · rename_i hn
      rw [if_neg hn] at h1
      cases h1
  rw [h1] at hm
  refine ⟨?_, e, by rw [← e]; exact h1⟩
  simp [KindP.may, KindP.most, KindP.mosts] at hm
  omega
theorem lv_le (n : Nr) (d : Nat) : lv n d ≤ 7 := by
  unfold lv
  split
  · rename_i h
    simp [gives] at h
    omega
  · omega
theorem least_le (n : Nr) (d : Nat) : least n d ≤ 7 := by
  cases d with
  | zero => simp [least]
  | succ d =>
    have := lv_le n d
    simp only [least]
    omega
theorem least_le_lv (n : Nr) : ∀ k d, d < k → least n k ≤ lv n d
  | k + 1, d, h => by
    simp only [least]
    by_cases e : d = k
    · subst e
      omega
    · have := least_le_lv n k d (by omega)
      omega
theorem least_is (n : Nr) : ∀ k, least n k = 7 ∨ ∃ d, d < k ∧ lv n d = least n k
  | 0 => .inl rfl
  | k + 1 => by
    rcases least_is n k with h | ⟨d, hd, h⟩
    · by_cases e : lv n k ≤ least n k
      · exact .inr ⟨k, by omega, by simp only [least]; omega⟩
      · exact .inl (by simp only [least]; omega)
    · by_cases e : lv n k ≤ least n k
      · exact .inr ⟨k, by omega, by simp only [least]; omega⟩
      · exact .inr ⟨d, by omega, by simp only [least]; omega⟩
/-- None of the first level sides gives a lesser one: then it is at least so much. -/
theorem le_least (n : Nr) (m : Nat) (hm : m ≤ 7) : ∀ k, (∀ d, d < k → m ≤ lv n d) → m ≤ least n k
  | 0, _ => hm
  | k + 1, h => by
    have := le_least n m hm k fun d hd => h d (by omega)
    have := h k (by omega)
    simp only [least]
    omega
theorem want_blind (n : Nr) (l : Nat) (d : Int) : want {n with lt := l, dr := d} = want n := rfl
theorem lv_congr {n m : Nr} (h1 : m.sd = n.sd) (h2 : m.un = n.un) (d : Nat) : lv m d = lv n d := by
  unfold lv gives
  rw [h1, h2]
theorem least_congr {n m : Nr} (h1 : m.sd = n.sd) (h2 : m.un = n.un) : ∀ k, least m k = least n k
  | 0 => rfl
  | k + 1 => by simp only [least, least_congr h1 h2 k, lv_congr h1 h2 k]
theorem want_congr {n m : Nr} (h1 : m.sd = n.sd) (h2 : m.un = n.un) : wantS m = wantS n := by
  simp only [wantS, least_congr h1 h2, h1]
theorem goes_congr {n m : Nr} (h0 : m.s = n.s) (h1 : m.sd = n.sd) : ∀ k, goes m k = goes n k
  | 0 => rfl
  | k + 1 => by simp only [goes, goes_congr h0 h1 k, h0, h1]
theorem deed_congr {n m : Nr} (h0 : m.s = n.s) (h1 : m.sd = n.sd) (h2 : m.un = n.un) : deedS m = deedS n := by
  simp only [deedS, spreadS, want_congr h1 h2, goes_congr h0 h1, h0, h1]
theorem want_bl (n : Nr) (l : Nat) (d : Int) : want {n with lt := l, dr := d} = want n := want_congr rfl rfl
theorem deed_bl (n : Nr) (l : Nat) (d : Int) : deed {n with lt := l, dr := d} = deed n := deed_congr rfl rfl rfl

theorem want_le (n : Nr) : (wantS n).1 ≤ 7 := by
  have := least_le n 4
  unfold wantS
  split
  · decide
  · split
    · decide
    · simp only
      omega
theorem want_pos (n : Nr) : (wantS n).2 = decide (0 < (wantS n).1) := by
  unfold wantS
  split
  · rfl
  · split
    · rfl
    · simp

/-- The four level sides, one by one. -/
theorem goes_mem {n : Nr} {x : Nat × Cl} : ∀ k, x ∈ goes n k → ∃ d, d < k ∧ x = (1 + d, (13, n.s.2 + 1)) ∧ soak (n.sd d) = true
  | 0, h => by cases h
  | k + 1, h => by
    rw [goes, List.mem_append] at h
    rcases h with h | h
    · obtain ⟨d, hd, h1, h2⟩ := goes_mem k h
      exact ⟨d, by omega, h1, h2⟩
    · split at h
      · rename_i hs
        exact ⟨k, by omega, by simpa using h, hs⟩
      · cases h
theorem goes_len (n : Nr) : ∀ k, (goes n k).length ≤ k
  | 0 => Nat.le_refl _
  | k + 1 => by
    have := goes_len n k
    rw [goes, List.length_append]
    split
    · simp; omega
    · simp; omega
theorem goes_up (n : Nr) : ∀ k, (goes n k).Pairwise (fun a b => a.1 < b.1)
  | 0 => List.Pairwise.nil
  | k + 1 => by
    rw [goes, List.pairwise_append]
    refine ⟨goes_up n k, ?_, fun a ha b hb => ?_⟩
    · split
      · simp
      · simp
    · obtain ⟨d, hd, rfl, _⟩ := goes_mem k ha
      split at hb
      · obtain rfl : b = _ := by simpa using hb
        simp only
        omega
      · cases hb
/-- What is in a deed. -/
theorem deed_mem {n : Nr} {x : Nat × Cl} (h : x ∈ deedS n) : wet n.s = true ∧
    ((0 < n.s.2 ∧ (wantS n).2 = false ∧ deedS n = [(0, (0, 0))] ∧ x = (0, (0, 0))) ∨
     (0 < n.s.2 ∧ (wantS n).2 = true ∧ n.s.2 ≠ (wantS n).1 ∧ deedS n = [(0, (13, (wantS n).1))] ∧ x = (0, (13, (wantS n).1))) ∨
     (soak (n.sd 5) = true ∧ deedS n = [(6, (13, 1))] ∧ x = (6, (13, 1))) ∨
     (soak (n.sd 5) = false ∧ wet (n.sd 5) = false ∧ n.s.2 < 7 ∧ deedS n = goes n 4 ∧ ∃ d, d < 4 ∧ x = (1 + d, (13, n.s.2 + 1)) ∧ soak (n.sd d) = true)) := by
  by_cases hw : wet n.s = true
  · refine ⟨hw, ?_⟩
    by_cases h1 : 0 < n.s.2 ∧ (wantS n).2 = false
    · have e : deedS n = [(0, (0, 0))] := by simp only [deedS, hw, if_pos h1, if_true]
      rw [e] at h
      exact .inl ⟨h1.1, h1.2, e, by simpa using h⟩
    · by_cases h2 : 0 < n.s.2 ∧ n.s.2 ≠ (wantS n).1
      · have e : deedS n = [(0, (13, (wantS n).1))] := by simp only [deedS, hw, if_neg h1, if_pos h2, if_true]
        rw [e] at h
        refine .inr (.inl ⟨h2.1, ?_, h2.2, e, by simpa using h⟩)
        cases hb : (wantS n).2 with
        | true => rfl
        | false => exact absurd ⟨h2.1, hb⟩ h1
      · have e : deedS n = spreadS n := by simp only [deedS, hw, if_neg h1, if_neg h2, if_true]
        rw [e] at h ⊢
        by_cases h3 : soak (n.sd 5) = true
        · have e3 : spreadS n = [(6, (13, 1))] := by simp [spreadS, h3]
          rw [e3] at h ⊢
          exact .inr (.inr (.inl ⟨h3, rfl, by simpa using h⟩))
        · by_cases h4 : (wet (n.sd 5) || decide (7 ≤ n.s.2)) = true
          · have e4 : spreadS n = [] := by
              unfold spreadS
              rw [if_neg h3, if_pos h4]
            rw [e4] at h
            cases h
          · have e4 : spreadS n = goes n 4 := by
              unfold spreadS
              rw [if_neg h3, if_neg h4]
            rw [e4] at h ⊢
            simp at h4
            exact .inr (.inr (.inr ⟨by simpa using h3, h4.1, by omega, rfl, goes_mem 4 h⟩))
  · simp [deedS, hw] at h
theorem deed_len (n : Nr) : (deedS n).length ≤ 4 := by
  unfold deedS
  have hg := goes_len n 4
  split
  · split
    · simp
    · split
      · simp
      · unfold spreadS
        split
        · simp
        · split
          · simp
          · exact hg
  · simp
theorem deed_up (n : Nr) : (deedS n).Pairwise (fun a b => a.1 < b.1) := by
  unfold deedS
  have hg := goes_up n 4
  split
  · split
    · simp
    · split
      · simp
      · unfold spreadS
        split
        · simp
        · split
          · simp
          · exact hg
  · simp
/-- Each change's cell is one of bytes. -/
theorem deed_lt {n : Nr} {x : Nat × Cl} (h : x ∈ deedS n) : x.1 ≤ 6 ∧ x.2.1 ≤ 13 ∧ x.2.2 ≤ 7 := by
  have hw := want_le n
  obtain ⟨_, ⟨_, _, _, rfl⟩ | ⟨_, _, _, _, rfl⟩ | ⟨_, _, rfl⟩ | ⟨_, _, h7, _, d, hd, rfl, _⟩⟩ := deed_mem h
  · simp
  · simp only; omega
  · simp
  · simp only; omega

/-! What holds of them together. -/
theorem upd_at (f : Nat → Cl) (d : Nat) (c : Cl) : upd f d c d = c := by simp [upd]
/-- P12.3: what goes down is wanted there. -/
theorem feeds_down {n m : Nr} {x : Nat × Cl} (h : x ∈ deed n) (h6 : x.1 = 6) : want {m with sd := upd m.sd 4 n.s} = (1, true) ∧ x.2.2 = 1 := by
  obtain ⟨hw, h⟩ := deed_mem h
  have hw' : wet (sure n.s) = true := hw
  have hx : x.2.2 = 1 := by
    rcases h with ⟨_, _, _, rfl⟩ | ⟨_, _, _, _, rfl⟩ | ⟨_, _, rfl⟩ | ⟨_, _, h7, _, d, hd, rfl, _⟩
    · simp at h6
    · simp at h6
    · rfl
    · simp at h6; omega
  refine ⟨?_, hx⟩
  unfold want wantS
  rw [if_pos]
  show wet (sure (upd m.sd 4 n.s 4)) = true
  rw [upd_at]
  exact hw'
/-- P12.3: what goes to a level side is wanted there, or a lesser level. -/
theorem feeds_side {n m : Nr} {x : Nat × Cl} (h : x ∈ deed n) {d back : Nat} (hb : back < 4) (hd : x.1 = 1 + d) (h5 : d < 4) :
    (want {m with sd := upd m.sd back n.s, un := upd m.un back (n.sd 5)}).2 = true ∧ (want {m with sd := upd m.sd back n.s, un := upd m.un back (n.sd 5)}).1 ≤ x.2.2 := by
  obtain ⟨hw, h⟩ := deed_mem h
  have hw' : wet (sure n.s) = true := hw
  obtain ⟨hs5, hw5, h7, hx⟩ : soak (sure (n.sd 5)) = false ∧ wet (sure (n.sd 5)) = false ∧ (sure n.s).2 < 7 ∧ x.2.2 = (sure n.s).2 + 1 := by
    rcases h with ⟨_, _, _, rfl⟩ | ⟨_, _, _, _, rfl⟩ | ⟨_, _, rfl⟩ | ⟨h1, h2, h7, _, d, hd, rfl, _⟩
    · simp at hd; omega
    · simp at hd; omega
    · simp at hd; omega
    · exact ⟨h1, h2, h7, rfl⟩
  generalize hm : ({m with sd := upd m.sd back n.s, un := upd m.un back (n.sd 5)} : Nr) = m'
  have e1 : (snd m').sd back = sure n.s := by
    rw [← hm]
    show sure (upd m.sd back n.s back) = _
    rw [upd_at]
  have e2 : (snd m').un back = sure (n.sd 5) := by
    rw [← hm]
    show sure (upd m.un back (n.sd 5) back) = _
    rw [upd_at]
  have hl : lv (snd m') back = (sure n.s).2 := by
    have hg : gives (snd m') back = true := by
      unfold gives holds
      rw [e1, e2, hw', hs5, hw5, decide_eq_true h7]
      rfl
    unfold lv
    rw [if_pos hg, e1]
  have hle := least_le_lv (snd m') 4 back hb
  rw [hl] at hle
  rw [hx]
  show (wantS (snd m')).2 = true ∧ (wantS (snd m')).1 ≤ _
  unfold wantS
  by_cases h4 : wet ((snd m').sd 4) = true
  · rw [if_pos h4]
    exact ⟨rfl, by simp⟩
  · rw [if_neg h4, if_neg (by omega)]
    exact ⟨rfl, by simp only; omega⟩

/-- The sides are the sides' back. -/
def back (d : Nat) : Nat := if d % 2 = 0 then d + 1 else d - 1
theorem back_lt {d : Nat} (h : d < 4) : back d < 4 := by
  unfold back
  split <;> omega

/-! The row that dries. -/
/-- What becomes of a level (0: Air) between two others, over Stone. -/
def dl (a c b : Nat) : Nat := if c = 0 then 0 else
  let m := min (if a = 0 then 7 else a) (if b = 0 then 7 else b)
  if 7 ≤ m then 0 else m + 1
def ld (l : List Nat) (i : Nat) : Nat := l.getD i 0
def lf (l : List Nat) (i : Nat) : Nat := if i = 0 then 0 else l.getD (i - 1) 0
def dry (l : List Nat) : List Nat := (List.range l.length).map fun i => dl (lf l i) (ld l i) (ld l (i + 1))
def dries : Nat → List Nat → List Nat
  | 0, l => l
  | t + 1, l => dry (dries t l)
theorem dry_len (l : List Nat) : (dry l).length = l.length := by simp [dry]
theorem dries_len (l : List Nat) : ∀ t, (dries t l).length = l.length
  | 0 => rfl
  | t + 1 => by rw [dries, dry_len, dries_len l t]
theorem getD_all {l : List Nat} {P : Nat → Prop} (h : ∀ c ∈ l, P c) (h0 : P 0) (i : Nat) : P (l.getD i 0) := by
  by_cases hi : i < l.length
  · rw [List.getD, List.getElem?_eq_getElem hi]
    exact h _ (List.getElem_mem hi)
  · rw [List.getD, List.getElem?_eq_none (by omega)]
    exact h0
theorem dry_all {l : List Nat} {t : Nat} (h : ∀ c ∈ l, c = 0 ∨ t < c ∧ c ≤ 7) : ∀ c ∈ dry l, c = 0 ∨ t + 1 < c ∧ c ≤ 7 := by
  intro c hc
  unfold dry at hc
  obtain ⟨i, _, rfl⟩ := List.mem_map.1 hc
  have h1 := getD_all h (.inl rfl) (i + 1)
  have h2 := getD_all h (.inl rfl) (i - 1)
  have h3 : lf l i = 0 ∨ t < lf l i ∧ lf l i ≤ 7 := by
    unfold lf
    split
    · exact .inl rfl
    · exact h2
  generalize lf l i = a at h3 ⊢
  have h4 : ld l (i + 1) = 0 ∨ t < ld l (i + 1) ∧ ld l (i + 1) ≤ 7 := h1
  have h5 : ld l i = 0 ∨ t < ld l i ∧ ld l i ≤ 7 := getD_all h (.inl rfl) i
  have ha : t < (if a = 0 then 7 else a) ∨ 7 ≤ t := by
    split <;> omega
  have hb : t < (if ld l (i + 1) = 0 then 7 else ld l (i + 1)) ∨ 7 ≤ t := by
    split <;> omega
  unfold dl
  generalize (if a = 0 then 7 else a) = a' at ha ⊢
  generalize ld l (i + 1) = b at h4 hb ⊢
  generalize (if b = 0 then 7 else b) = b' at hb ⊢
  by_cases hc : ld l i = 0
  · rw [if_pos hc]
    exact .inl rfl
  · rw [if_neg hc]
    simp only
    by_cases h7 : 7 ≤ min a' b'
    · rw [if_pos h7]
      exact .inl rfl
    · rw [if_neg h7]
      omega
theorem dries_all {l : List Nat} (h : ∀ c ∈ l, c ≤ 7) : ∀ t, ∀ c ∈ dries t l, c = 0 ∨ t < c ∧ c ≤ 7
  | 0, c, hc => by
    have := h c hc
    omega
  | t + 1, c, hc => dry_all (dries_all h t) c hc
theorem dries_gone {l : List Nat} (h : ∀ c ∈ l, c ≤ 7) : ∀ c ∈ dries 7 l, c = 0 := by
  intro c hc
  have := dries_all h 7 c hc
  omega
end FlowP
end Go.Proofs.YtlahkmkipciiiaaDoor
