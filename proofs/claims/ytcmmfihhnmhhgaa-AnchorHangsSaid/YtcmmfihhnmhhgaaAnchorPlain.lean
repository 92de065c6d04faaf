/-
  Anchors, plainly: what ticks is the one list that rises strictly and has just the spots near an anchor that is on; it stands in fours, 72 at most; how the program finds it, and how the reference does.
-/
import Derived.RowKit
namespace Go.Proofs.Ytcmmfihhnmhhgaa
open Go.RowKit
set_option linter.unusedVariables false
set_option linter.unusedSimpArgs false
namespace AncP
abbrev V := Int × Int × Int
/-- An anchor: its spot's three numbers, and whether it is on. -/
abbrev An := V × Bool
def may (s : V) : Bool := (decide (-65536 ≤ s.1) && decide (s.1 < 65536)) && ((decide (0 ≤ s.2.1) && decide (s.2.1 < 4)) && (decide (-65536 ≤ s.2.2) && decide (s.2.2 < 65536)))
theorem may_iff {s : V} : may s = true ↔ -65536 ≤ s.1 ∧ s.1 < 65536 ∧ 0 ≤ s.2.1 ∧ s.2.1 < 4 ∧ -65536 ≤ s.2.2 ∧ s.2.2 < 65536 := by
  simp [may]
  omega
def by1 (a b : Int) : Bool := decide (a - 1 ≤ b) && decide (b ≤ a + 1)
theorem by1_iff {a b : Int} : by1 a b = true ↔ a - 1 ≤ b ∧ b ≤ a + 1 := by simp [by1]
/-- Is the spot's column near the anchor's? -/
def besides (a : An) (s : V) : Bool := a.2 && by1 a.1.1 s.1 && by1 a.1.2.2 s.2.2
theorem besides_iff {a : An} {s : V} : besides a s = true ↔ a.2 = true ∧ (a.1.1 - 1 ≤ s.1 ∧ s.1 ≤ a.1.1 + 1) ∧ (a.1.2.2 - 1 ≤ s.2.2 ∧ s.2.2 ≤ a.1.2.2 + 1) := by
  simp only [besides, Bool.and_eq_true, by1_iff, and_assoc]
def inL (a b : An) (s : V) : Bool := may s && (besides a s || besides b s)
theorem inL_swap (a b : An) (s : V) : inL b a s = inL a b s := by simp only [inL, Bool.or_comm]
/-! ### The order -/
def ltS (a b : V) : Prop := a.1 < b.1 ∨ (a.1 = b.1 ∧ (a.2.2 < b.2.2 ∨ (a.2.2 = b.2.2 ∧ a.2.1 < b.2.1)))
instance (a b : V) : Decidable (ltS a b) := by
  unfold ltS
  infer_instance
theorem lt_irr (a : V) : ¬ ltS a a := by unfold ltS; omega
theorem lt_trans {a b c : V} (h1 : ltS a b) (h2 : ltS b c) : ltS a c := by unfold ltS at *; omega
theorem lt_tot {a b : V} (h1 : ¬ ltS a b) (h2 : ¬ ltS b a) : a = b := by
  unfold ltS at h1 h2
  exact Prod.ext (by omega) (Prod.ext (by omega) (by omega))
def Ups (l : List V) : Prop := l.Pairwise ltS
theorem ups_nodup {l : List V} (h : Ups l) : l.Nodup := List.Pairwise.imp (fun {a b} (hab : ltS a b) (e : a = b) => lt_irr b (e ▸ hab)) h
theorem ups_is {l m : List V} (hl : Ups l) (hm : Ups m) (h : ∀ s, s ∈ l ↔ s ∈ m) : l = m :=
  List.Perm.eq_of_pairwise (le := ltS) (fun a b _ _ h1 h2 => absurd (lt_trans h1 h2) (lt_irr a)) hl hm ((List.perm_ext_iff_of_nodup (ups_nodup hl) (ups_nodup hm)).2 h)
/-- What ticks. -/
def Ticks (a b : An) (l : List V) : Prop := Ups l ∧ ∀ s, s ∈ l ↔ inL a b s = true
theorem ticks_is {a b : An} {l m : List V} (hl : Ticks a b l) (hm : Ticks a b m) : l = m := ups_is hl.1 hm.1 (fun s => (hl.2 s).trans (hm.2 s).symm)
theorem ticks_swap {a b : An} {l : List V} (h : Ticks a b l) : Ticks b a l := ⟨h.1, fun s => by rw [inL_swap]; exact h.2 s⟩
/-! ### An element is laid at its place -/
def insS (s : V) : List V → List V
  | [] => [s]
  | t :: r => if t = s then t :: r else if ltS t s then t :: insS s r else s :: t :: r
theorem ins_mem (s : V) : ∀ (l : List V) (q : V), q ∈ insS s l ↔ q = s ∨ q ∈ l
  | [], q => by simp [insS]
  | t :: r, q => by
    rw [insS]
    split
    · rename_i e
      subst e
      simp
    · split
      · rw [List.mem_cons, ins_mem s r q, List.mem_cons]
        constructor
        · rintro (h | h | h)
          · exact .inr (.inl h)
          · exact .inl h
          · exact .inr (.inr h)
        · rintro (h | h | h)
          · exact .inr (.inl h)
          · exact .inl h
          · exact .inr (.inr h)
      · simp
theorem ins_ups (s : V) : ∀ {l : List V}, Ups l → Ups (insS s l)
  | [], _ => by simp [insS, Ups]
  | t :: r, h => by
    have h' := List.pairwise_cons.1 h
    rw [insS]
    split
    · exact h
    · rename_i hne
      split
      · rename_i hlt
        refine List.pairwise_cons.2 ⟨fun q hq => ?_, ins_ups s h'.2⟩
        rcases (ins_mem s r q).1 hq with rfl | hq
        · exact hlt
        · exact h'.1 q hq
      · rename_i hlt
        have hs : ltS s t := by
          apply Classical.byContradiction
          intro q
          exact hne (lt_tot hlt q)
        refine List.pairwise_cons.2 ⟨fun q hq => ?_, h⟩
        rcases List.mem_cons.1 hq with rfl | hq
        · exact hs
        · exact lt_trans hs (h'.1 q hq)
theorem ins_len (s : V) : ∀ l : List V, (insS s l).length ≤ l.length + 1
  | [] => by simp [insS]
  | t :: r => by
    rw [insS]
    have := ins_len s r
    split
    · simp
    · split
      · simp only [List.length_cons]
        omega
      · simp
/-- Where it stands: all ahead of it are less, the next is not. -/
theorem ins_there (s : V) : ∀ {l : List V} {i : Nat}, i ≤ l.length → (∀ j t, j < i → l[j]? = some t → ltS t s) → l[i]? = some s → insS s l = l
  | [], i, h, _, h2 => by simp at h2
  | t :: r, 0, h, _, h2 => by
    have e : t = s := by simpa using h2
    rw [insS, if_pos e]
  | t :: r, i + 1, h, h1, h2 => by
    have hlt := h1 0 t (by omega) rfl
    have hne : ¬ t = s := fun e => lt_irr _ (e ▸ hlt)
    rw [insS, if_neg hne, if_pos hlt, ins_there s (i := i) (by simpa using h) (fun j u hj hu => h1 (j + 1) u (by omega) (by simpa using hu)) (by simpa using h2)]
theorem ins_new (s : V) : ∀ {l : List V} {i : Nat}, i ≤ l.length → (∀ j t, j < i → l[j]? = some t → ltS t s) → (∀ t, l[i]? = some t → ¬ ltS t s ∧ t ≠ s) → insS s l = l.take i ++ s :: l.drop i
  | [], i, h, _, h2 => by simp [insS]
  | t :: r, 0, h, _, h2 => by
    obtain ⟨h3, h4⟩ := h2 t rfl
    rw [insS, if_neg h4, if_neg h3]
    simp
  | t :: r, i + 1, h, h1, h2 => by
    have hlt := h1 0 t (by omega) rfl
    have hne : ¬ t = s := fun e => lt_irr _ (e ▸ hlt)
    rw [insS, if_neg hne, if_pos hlt, ins_new s (i := i) (by simpa using h) (fun j u hj hu => h1 (j + 1) u (by omega) (by simpa using hu)) (fun u hu => h2 u (by simpa using hu))]
    simp
/-! ### The reference: one after the other, each at its place -/
/-- The nth that may be near the spot. -/
def rcand (a : V) (n : Nat) : V := (wrap64 (wrap64 (a.1 + (n / 12 : Nat)) - 1), ((n % 4 : Nat) : Int), wrap64 (wrap64 (a.2.2 + (n / 4 % 3 : Nat)) - 1))
def rstep (a b : An) (s : V) (l : List V) : List V := if inL a b s = true then insS s l else l
def racc (a b : An) (v : V) (l : List V) : Nat → List V
  | 0 => l
  | n + 1 => rstep a b (rcand v n) (racc a b v l n)
def rone (a b c : An) (l : List V) : List V := if c.2 = true then racc a b c.1 l 36 else l
def rspots (a b : An) : List V := rone a b b (rone a b a [])
theorem rstep_ups {a b : An} {s : V} {l : List V} (h : Ups l) : Ups (rstep a b s l) := by
  unfold rstep
  split
  · exact ins_ups s h
  · exact h
theorem rstep_mem {a b : An} {s : V} {l : List V} (q : V) : q ∈ rstep a b s l ↔ (q = s ∧ inL a b s = true) ∨ q ∈ l := by
  unfold rstep
  split
  · rename_i h
    rw [ins_mem]
    simp [h]
  · rename_i h
    simp [h]
theorem racc_ups {a b : An} {v : V} {l : List V} (h : Ups l) : ∀ n, Ups (racc a b v l n)
  | 0 => h
  | n + 1 => rstep_ups (racc_ups h n)
theorem racc_mem {a b : An} {v : V} {l : List V} (q : V) : ∀ n, q ∈ racc a b v l n ↔ (∃ m, m < n ∧ q = rcand v m ∧ inL a b q = true) ∨ q ∈ l
  | 0 => by simp [racc]
  | n + 1 => by
    rw [racc, rstep_mem, racc_mem q n]
    constructor
    · rintro (⟨h1, h2⟩ | ⟨m, h1, h2⟩ | h)
      · exact .inl ⟨n, by omega, h1, h1 ▸ h2⟩
      · exact .inl ⟨m, by omega, h2⟩
      · exact .inr h
    · rintro (⟨m, h1, h2, h3⟩ | h)
      · by_cases e : m = n
        · subst e
          exact .inl ⟨h2, h2 ▸ h3⟩
        · exact .inr (.inl ⟨m, by omega, h2, h3⟩)
      · exact .inr (.inr h)
theorem racc_len {a b : An} {v : V} {l : List V} : ∀ n, (racc a b v l n).length ≤ l.length + n
  | 0 => Nat.le_refl _
  | n + 1 => by
    have := racc_len (a := a) (b := b) (v := v) (l := l) n
    rw [racc]
    unfold rstep
    split
    · have := ins_len (rcand v n) (racc a b v l n)
      omega
    · omega
theorem rone_len {a b c : An} {l : List V} : (rone a b c l).length ≤ l.length + 36 := by
  unfold rone
  split
  · exact racc_len 36
  · omega
theorem wr_eq {a k s : Int} (h1 : -9223372036854775808 ≤ a) (h2 : a < 9223372036854775808) (k1 : 0 ≤ k) (k2 : k ≤ 2) (s1 : -65536 ≤ s) (s2 : s < 65536) : s = wrap64 (wrap64 (a + k) - 1) ↔ s = a + k - 1 := by
  unfold wrap64
  omega
theorem pr_eq {a k s : Int} (h1 : -9223372036854775808 ≤ a) (h2 : a < 9223372036854775808) (k1 : 0 ≤ k) (k2 : k ≤ 2) (s1 : -65536 ≤ s) (s2 : s < 65536) : s = wrap64 (wrap64 (a - 1) + k) ↔ s = a - 1 + k := by
  unfold wrap64
  omega
/-- A number of the language's. -/
def Is64 (v : V) : Prop := (-9223372036854775808 ≤ v.1 ∧ v.1 < 9223372036854775808) ∧ (-9223372036854775808 ≤ v.2.2 ∧ v.2.2 < 9223372036854775808)
theorem cand_iff {v q : V} (hv : Is64 v) (hq : may q = true) : (∃ m, m < 36 ∧ q = rcand v m) ↔ besides (v, true) q = true := by
  obtain ⟨m1, m2, m3, m4, m5, m6⟩ := may_iff.1 hq
  obtain ⟨⟨v1, v2⟩, v3, v4⟩ := hv
  rw [besides_iff]
  constructor
  · rintro ⟨m, hm, e⟩
    have e1 : q.1 = wrap64 (wrap64 (v.1 + (m / 12 : Nat)) - 1) := congrArg (·.1) e
    have e3 : q.2.2 = wrap64 (wrap64 (v.2.2 + (m / 4 % 3 : Nat)) - 1) := congrArg (·.2.2) e
    rw [wr_eq v1 v2 (by omega) (by omega) m1 m2] at e1
    rw [wr_eq v3 v4 (by omega) (by omega) m5 m6] at e3
    refine ⟨rfl, ⟨?_, ?_⟩, ?_, ?_⟩ <;> simp only <;> omega
  · rintro ⟨-, ⟨h1, h2⟩, h3, h4⟩
    simp only at h1 h2 h3 h4
    obtain ⟨i, hi⟩ : ∃ i : Nat, q.1 - v.1 + 1 = i := ⟨(q.1 - v.1 + 1).toNat, by omega⟩
    obtain ⟨j, hj⟩ : ∃ j : Nat, q.2.2 - v.2.2 + 1 = j := ⟨(q.2.2 - v.2.2 + 1).toNat, by omega⟩
    obtain ⟨k, hk⟩ : ∃ k : Nat, q.2.1 = k := ⟨(q.2.1).toNat, by omega⟩
    have n1 : (12 * i + 4 * j + k) / 12 = i := by omega
    have n2 : (12 * i + 4 * j + k) % 4 = k := by omega
    have n3 : (12 * i + 4 * j + k) / 4 % 3 = j := by omega
    refine ⟨12 * i + 4 * j + k, by omega, ?_⟩
    unfold rcand
    rw [n1, n2, n3]
    refine Prod.ext ?_ (Prod.ext ?_ ?_)
    · exact (wr_eq v1 v2 (by omega) (by omega) m1 m2).2 (by omega)
    · exact hk
    · exact (wr_eq v3 v4 (by omega) (by omega) m5 m6).2 (by omega)
theorem rone_mem {a b c : An} {l : List V} (hc : Is64 c.1) (hcab : ∀ q, besides c q = true → may q = true → inL a b q = true) (q : V) : q ∈ rone a b c l ↔ (may q = true ∧ besides c q = true) ∨ q ∈ l := by
  unfold rone
  split
  · rename_i h
    have hc1 : c = (c.1, true) := Prod.ext rfl h
    rw [racc_mem]
    constructor
    · rintro (⟨m, h1, h2, h3⟩ | h)
      · have hm : may q = true := by
          rw [inL, Bool.and_eq_true] at h3
          exact h3.1
        refine .inl ⟨hm, ?_⟩
        rw [hc1]
        exact (cand_iff hc hm).1 ⟨m, h1, h2⟩
      · exact .inr h
    · rintro (⟨h1, h2⟩ | h)
      · have h3 := h2
        rw [hc1] at h3
        obtain ⟨m, m1, m2⟩ := (cand_iff hc h1).2 h3
        exact .inl ⟨m, m1, m2, hcab q h2 h1⟩
      · exact .inr h
  · rename_i h
    constructor
    · exact .inr
    · rintro (⟨h1, h2⟩ | h)
      · exact absurd (besides_iff.1 h2).1 h
      · exact h
theorem rone_ups {a b c : An} {l : List V} (h : Ups l) : Ups (rone a b c l) := by
  unfold rone
  split
  · exact racc_ups h 36
  · exact h
theorem rspots_ticks {a b : An} (ha : Is64 a.1) (hb : Is64 b.1) : Ticks a b (rspots a b) := by
  refine ⟨rone_ups (rone_ups List.Pairwise.nil), fun s => ?_⟩
  unfold rspots
  rw [rone_mem hb (fun q h1 h2 => by simp [inL, h1, h2]), rone_mem ha (fun q h1 h2 => by simp [inL, h1, h2])]
  simp only [List.not_mem_nil, or_false, inL, Bool.and_eq_true, Bool.or_eq_true]
  constructor
  · rintro (⟨h1, h2⟩ | ⟨h1, h2⟩)
    · exact ⟨h1, .inr h2⟩
    · exact ⟨h1, .inl h2⟩
  · rintro ⟨h1, h2 | h2⟩
    · exact .inr ⟨h1, h2⟩
    · exact .inl ⟨h1, h2⟩
/-! ### The program: what is near an anchor, one list behind the other, each once; then put in order -/
def pcand (a : V) (n : Nat) : V := (wrap64 (wrap64 (a.1 - 1) + (n / 12 : Nat)), ((n % 4 : Nat) : Int), wrap64 (wrap64 (a.2.2 - 1) + (n / 4 % 3 : Nat)))
def pacc (a : V) : Nat → List V
  | 0 => []
  | n + 1 => if may (pcand a n) = true then pacc a n ++ [pcand a n] else pacc a n
def pnear (a : An) : List V := if a.2 = true then pacc a.1 36 else []
theorem pacc_mem {a : V} (q : V) : ∀ n, q ∈ pacc a n ↔ ∃ m, m < n ∧ q = pcand a m ∧ may q = true
  | 0 => by simp [pacc]
  | n + 1 => by
    rw [pacc]
    split
    · rename_i h
      rw [List.mem_append, pacc_mem q n, List.mem_singleton]
      constructor
      · rintro (⟨m, h1, h2⟩ | h1)
        · exact ⟨m, by omega, h2⟩
        · exact ⟨n, by omega, h1, h1 ▸ h⟩
      · rintro ⟨m, h1, h2, h3⟩
        by_cases e : m = n
        · subst e
          exact .inr h2
        · exact .inl ⟨m, by omega, h2, h3⟩
    · rename_i h
      rw [pacc_mem q n]
      constructor
      · rintro ⟨m, h1, h2⟩
        exact ⟨m, by omega, h2⟩
      · rintro ⟨m, h1, h2, h3⟩
        by_cases e : m = n
        · subst e
          exact absurd (h2 ▸ h3) h
        · exact ⟨m, by omega, h2, h3⟩
theorem pacc_len (a : V) : ∀ n, (pacc a n).length ≤ n
  | 0 => Nat.le_refl _
  | n + 1 => by
    have := pacc_len a n
    rw [pacc]
    split
    · rw [List.length_append, List.length_singleton]
      omega
    · omega
theorem pnear_len (a : An) : (pnear a).length ≤ 36 := by
  unfold pnear
  split
  · exact pacc_len _ 36
  · simp
theorem pcand_iff {v q : V} (hv : Is64 v) (hq : may q = true) : (∃ m, m < 36 ∧ q = pcand v m) ↔ besides (v, true) q = true := by
  obtain ⟨m1, m2, m3, m4, m5, m6⟩ := may_iff.1 hq
  obtain ⟨⟨v1, v2⟩, v3, v4⟩ := hv
  rw [besides_iff]
  constructor
  · rintro ⟨m, hm, e⟩
    have e1 : q.1 = wrap64 (wrap64 (v.1 - 1) + (m / 12 : Nat)) := congrArg (·.1) e
    have e3 : q.2.2 = wrap64 (wrap64 (v.2.2 - 1) + (m / 4 % 3 : Nat)) := congrArg (·.2.2) e
    rw [pr_eq v1 v2 (by omega) (by omega) m1 m2] at e1
    rw [pr_eq v3 v4 (by omega) (by omega) m5 m6] at e3
    refine ⟨rfl, ⟨?_, ?_⟩, ?_, ?_⟩ <;> simp only <;> omega
  · rintro ⟨-, ⟨h1, h2⟩, h3, h4⟩
    simp only at h1 h2 h3 h4
    obtain ⟨i, hi⟩ : ∃ i : Nat, q.1 - v.1 + 1 = i := ⟨(q.1 - v.1 + 1).toNat, by omega⟩
    obtain ⟨j, hj⟩ : ∃ j : Nat, q.2.2 - v.2.2 + 1 = j := ⟨(q.2.2 - v.2.2 + 1).toNat, by omega⟩
    obtain ⟨k, hk⟩ : ∃ k : Nat, q.2.1 = k := ⟨(q.2.1).toNat, by omega⟩
    have n1 : (12 * i + 4 * j + k) / 12 = i := by omega
    have n2 : (12 * i + 4 * j + k) % 4 = k := by omega
    have n3 : (12 * i + 4 * j + k) / 4 % 3 = j := by omega
    refine ⟨12 * i + 4 * j + k, by omega, ?_⟩
    unfold pcand
    rw [n1, n2, n3]
    refine Prod.ext ?_ (Prod.ext ?_ ?_)
    · exact (pr_eq v1 v2 (by omega) (by omega) m1 m2).2 (by omega)
    · exact hk
    · exact (pr_eq v3 v4 (by omega) (by omega) m5 m6).2 (by omega)
theorem pnear_mem {a : An} (ha : Is64 a.1) (q : V) : q ∈ pnear a ↔ may q = true ∧ besides a q = true := by
  unfold pnear
  split
  · rename_i h
    have ha1 : a = (a.1, true) := Prod.ext rfl h
    rw [pacc_mem]
    constructor
    · rintro ⟨m, h1, h2, h3⟩
      refine ⟨h3, ?_⟩
      rw [ha1]
      exact (pcand_iff ha h3).1 ⟨m, h1, h2⟩
    · rintro ⟨h1, h2⟩
      rw [ha1] at h2
      obtain ⟨m, m1, m2⟩ := (pcand_iff ha h1).2 h2
      exact ⟨m, m1, m2, h1⟩
  · rename_i h
    constructor
    · intro q
      simp at q
    · rintro ⟨h1, h2⟩
      exact absurd (besides_iff.1 h2).1 h
/-- One that is not there yet joins. -/
def add1 (l : List V) (s : V) : List V := if s ∈ l then l else l ++ [s]
def adds (l m : List V) : List V := m.foldl add1 l
theorem adds_snoc (l m : List V) (s : V) : adds l (m ++ [s]) = add1 (adds l m) s := by simp [adds]
theorem adds_take {l m : List V} {i : Nat} {s : V} (h : m[i]? = some s) : adds l (m.take (i + 1)) = add1 (adds l (m.take i)) s := by
  obtain ⟨hi, e⟩ := List.getElem?_eq_some_iff.1 h
  rw [List.take_add_one, h, Option.toList_some, adds_snoc]
theorem add1_mem (l : List V) (s q : V) : q ∈ add1 l s ↔ q ∈ l ∨ q = s := by
  unfold add1
  split
  · rename_i h
    constructor
    · exact .inl
    · rintro (h1 | rfl)
      · exact h1
      · exact h
  · simp
theorem add1_nodup {l : List V} (s : V) (h : l.Nodup) : (add1 l s).Nodup := by
  unfold add1
  split
  · exact h
  · rename_i hn
    rw [List.nodup_append]
    refine ⟨h, by simp, fun a ha b hb e => hn ?_⟩
    rw [List.mem_singleton] at hb
    rw [← hb, ← e]
    exact ha
theorem adds_mem : ∀ (m l : List V) (q : V), q ∈ adds l m ↔ q ∈ l ∨ q ∈ m
  | [], l, q => by simp [adds]
  | s :: r, l, q => by
    show q ∈ adds (add1 l s) r ↔ _
    rw [adds_mem r, add1_mem, List.mem_cons, or_assoc]
theorem adds_nodup : ∀ (m : List V) {l : List V}, l.Nodup → (adds l m).Nodup
  | [], l, h => h
  | s :: r, l, h => adds_nodup r (add1_nodup s h)
theorem adds_len : ∀ (m l : List V), (adds l m).length ≤ l.length + m.length
  | [], l => Nat.le_refl _
  | s :: r, l => by
    have h := adds_len r (add1 l s)
    have h2 : (add1 l s).length ≤ l.length + 1 := by
      unfold add1
      split <;> simp
    show (adds (add1 l s) r).length ≤ _
    rw [List.length_cons]
    omega
def pmet (a b : An) : List V := adds (adds [] (pnear a)) (pnear b)
theorem pmet_nodup (a b : An) : (pmet a b).Nodup := adds_nodup _ (adds_nodup _ List.nodup_nil)
theorem pmet_len (a b : An) : (pmet a b).length ≤ 72 := by
  have h1 := adds_len (pnear b) (adds [] (pnear a))
  have h2 := adds_len (pnear a) []
  have h3 := pnear_len a
  have h4 := pnear_len b
  unfold pmet
  simp only [List.length_nil] at h2
  omega
theorem pmet_mem {a b : An} (ha : Is64 a.1) (hb : Is64 b.1) (q : V) : q ∈ pmet a b ↔ inL a b q = true := by
  unfold pmet
  rw [adds_mem, adds_mem, pnear_mem ha, pnear_mem hb]
  simp only [List.not_mem_nil, false_or, inL, Bool.and_eq_true, Bool.or_eq_true]
  constructor
  · rintro (⟨h1, h2⟩ | ⟨h1, h2⟩)
    · exact ⟨h1, .inl h2⟩
    · exact ⟨h1, .inr h2⟩
  · rintro ⟨h1, h2 | h2⟩
    · exact .inl ⟨h1, h2⟩
    · exact .inr ⟨h1, h2⟩
/-! ### In fours -/
def four (x z : Int) : List V := [(x, 0, z), (x, 1, z), (x, 2, z), (x, 3, z)]
theorem four_of (l : List V) : ∀ (_ : Ups l) (_ : ∀ x y z, (x, y, z) ∈ l → 0 ≤ y ∧ y < 4) (_ : ∀ x y z, (x, y, z) ∈ l → ∀ k, 0 ≤ k → k < 4 → (x, k, z) ∈ l), l.length % 4 = 0 ∧ ∀ i s, l[i]? = some s → s.2.1 = ((i % 4 : Nat) : Int) := by
  induction h : l.length using Nat.strongRecOn generalizing l with
  | ind n ih =>
    intro hu hy hk
    subst h
    match l, hu, hy, hk, ih with
    | [], _, _, _, _ => exact ⟨rfl, fun i s h => by simp at h⟩
    | (x, y, z) :: r, hu, hy, hk, ih =>
      obtain ⟨u1, u2⟩ := List.pairwise_cons.1 hu
      have y0 := hy x y z (by simp)
      have m := fun k h1 h2 => hk x y z (by simp) k h1 h2
      have hy0 : y = 0 := by
        rcases List.mem_cons.1 (m 0 (by omega) (by omega)) with e | e
        · have : (0 : Int) = y := congrArg (fun v : V => v.2.1) e
          omega
        · have := u1 _ e
          unfold ltS at this
          simp only at this
          omega
      subst hy0
      have next : ∀ (r' : List V) (j : Int), 0 ≤ j → j < 3 → Ups ((x, j, z) :: r') → (∀ k, j < k → k < 4 → (x, k, z) ∈ r') → (∀ q ∈ r', 0 ≤ q.2.1 ∧ q.2.1 < 4) → ∃ r2, r' = (x, j + 1, z) :: r2 := by
        intro r' j j0 j1 hu2 hm hq
        obtain ⟨v1, v2⟩ := List.pairwise_cons.1 hu2
        rcases r' with _ | ⟨⟨a, b, c⟩, r2⟩
        · have := hm (j + 1) (by omega) (by omega)
          simp at this
        · refine ⟨r2, ?_⟩
          have w1 := v1 (a, b, c) (by simp)
          have w2 := List.pairwise_cons.1 v2
          rcases List.mem_cons.1 (hm (j + 1) (by omega) (by omega)) with e | e
          · rw [← e]
          · have w3 := w2.1 _ e
            unfold ltS at w1 w3
            simp only at w1 w3
            omega
      have hq : ∀ q ∈ r, 0 ≤ q.2.1 ∧ q.2.1 < 4 := fun q hq => hy q.1 q.2.1 q.2.2 (List.mem_cons_of_mem _ hq)
      have hm0 : ∀ k, 0 < k → k < 4 → (x, k, z) ∈ r := fun k h1 h2 => by
        rcases List.mem_cons.1 (m k (by omega) h2) with e | e
        · have : k = 0 := congrArg (fun v : V => v.2.1) e
          omega
        · exact e
      obtain ⟨r1, rfl⟩ := next r 0 (by omega) (by omega) hu (fun k h1 h2 => hm0 k h1 h2) hq
      have hm1 : ∀ k, 0 + 1 < k → k < 4 → (x, k, z) ∈ r1 := fun k h1 h2 => by
        rcases List.mem_cons.1 (hm0 k (by omega) h2) with e | e
        · have : k = 0 + 1 := congrArg (fun v : V => v.2.1) e
          omega
        · exact e
      obtain ⟨v1, v2⟩ := List.pairwise_cons.1 u2
      obtain ⟨r2, rfl⟩ := next r1 (0 + 1) (by omega) (by omega) u2 hm1 (fun q h => hq q (List.mem_cons_of_mem _ h))
      have hm2 : ∀ k, 0 + 1 + 1 < k → k < 4 → (x, k, z) ∈ r2 := fun k h1 h2 => by
        rcases List.mem_cons.1 (hm1 k (by omega) h2) with e | e
        · have : k = 0 + 1 + 1 := congrArg (fun v : V => v.2.1) e
          omega
        · exact e
      obtain ⟨w1, w2⟩ := List.pairwise_cons.1 v2
      obtain ⟨r3, rfl⟩ := next r2 (0 + 1 + 1) (by omega) (by omega) v2 hm2 (fun q h => hq q (List.mem_cons_of_mem _ (List.mem_cons_of_mem _ h)))
      obtain ⟨t1, t2⟩ := List.pairwise_cons.1 w2
      have hlast : ∀ q ∈ r3, ltS (x, 3, z) q := fun q h => t1 q h
      obtain ⟨i1, i2⟩ := ih r3.length (by simp only [List.length_cons]; omega) r3 rfl t2 (fun a b c h => hy a b c (by simp [h])) (fun a b c h k k0 k1 => by
        have h1 := hk a b c (by simp [h]) k k0 k1
        have h2 := hlast _ h
        have h3 := hy a b c (by simp [h])
        have hne : ¬ (a = x ∧ c = z) := by
          unfold ltS at h2
          simp only at h2
          omega
        simp only [List.mem_cons] at h1
        rcases h1 with e | e | e | e | e
        all_goals first | exact e | exact absurd ⟨congrArg (fun v : V => v.1) e, congrArg (fun v : V => v.2.2) e⟩ hne)
      constructor
      · simp only [List.length_cons]
        omega
      · intro i s hs
        match i, hs with
        | 0, hs => simp at hs; subst hs; rfl
        | 1, hs => simp at hs; subst hs; rfl
        | 2, hs => simp at hs; subst hs; rfl
        | 3, hs => simp at hs; subst hs; rfl
        | i + 4, hs =>
          have := i2 i s (by simpa using hs)
          rw [this]
          omega
theorem ticks_four {a b : An} {l : List V} (h : Ticks a b l) : l.length % 4 = 0 ∧ ∀ i s, l[i]? = some s → s.2.1 = ((i % 4 : Nat) : Int) :=
  four_of l h.1 (fun x y z hm => by
    have := (h.2 _).1 hm
    rw [inL, Bool.and_eq_true] at this
    have := may_iff.1 this.1
    simp only at this
    omega) (fun x y z hm k k0 k1 => by
    have h1 := (h.2 _).1 hm
    rw [inL, Bool.and_eq_true] at h1
    have h2 := may_iff.1 h1.1
    refine (h.2 _).2 ?_
    rw [inL, Bool.and_eq_true]
    refine ⟨may_iff.2 ?_, h1.2⟩
    simp only at h2 ⊢
    omega)
theorem ticks_len {a b : An} {l : List V} (ha : Is64 a.1) (hb : Is64 b.1) (h : Ticks a b l) : l.length ≤ 72 := by
  have hp : l.Perm (pmet a b) := (List.perm_ext_iff_of_nodup (ups_nodup h.1) (pmet_nodup a b)).2 (fun q => (h.2 q).trans (pmet_mem ha hb q).symm)
  rw [hp.length_eq]
  exact pmet_len a b
end AncP
end Go.Proofs.Ytcmmfihhnmhhgaa
