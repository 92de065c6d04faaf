/-
  The program's spreading of light, plainly: what one side, one cell, one list, all lists come to; and that it makes the light.
-/
import Derived.Test.YtbkadecfmjjadaaDoorGlowPlain3
namespace Go.Proofs.YtbkadecfmjjadaaDoor
set_option linter.unusedVariables false
set_option linter.unusedSimpArgs false
namespace GlowP

/-- Lights, and the lists by brightness. -/
abbrev St := List Nat × (Nat → List Nat)
def push (kn : Nat → List Nat) (k y : Nat) : Nat → List Nat := fun j => if j = k then kn k ++ [y] else kn j
def stepS (O : List Bool) (less : Nat) (st : St) (s : Nat) : St := if O.getD s false = true ∧ st.1.getD s 0 < less then (st.1.set s less, push st.2 less s) else st
def cellS (O : List Bool) (side : Nat → List Nat) (less : Nat) (st : St) (c : Nat) : St := (side c).foldl (stepS O less) st
def turnS (O : List Bool) (side : Nat → List Nat) (b : Nat) (st : St) : St := (st.2 b).foldl (cellS O side (b - 1)) st
def downS (O : List Bool) (side : Nat → List Nat) : Nat → St → St
  | 0, st => st
  | b + 1, st => if b + 1 ≤ 1 then st else downS O side b (turnS O side (b + 1) st)
theorem downS_one (O : List Bool) (side : Nat → List Nat) (st : St) : downS O side 1 st = st := rfl
theorem downS_more (O : List Bool) (side : Nat → List Nat) {b : Nat} (hb : 1 < b) (st : St) : downS O side b st = downS O side (b - 1) (turnS O side b st) := by
  obtain ⟨c, rfl⟩ : ∃ c, b = c + 1 := ⟨b - 1, by omega⟩
  rw [downS, if_neg (by omega)]
  rfl
/-- The lists at first. -/
def knS (L : List Nat) : Nat → Nat → List Nat
  | 0 => fun _ => []
  | j + 1 => if 0 < L.getD j 0 then push (knS L j) (L.getD j 0) j else knS L j

theorem getD_set {l : List Nat} {i j v : Nat} (h : i < l.length) : (l.set i v).getD j 0 = if j = i then v else l.getD j 0 := by
  by_cases e : j = i
  · subst e
    simp [List.getD, h]
  · rw [if_neg e]
    simp only [List.getD, List.getElem?_set_ne (fun q => e q.symm)]
theorem knS_mem {L : List Nat} : ∀ {j k s : Nat}, s ∈ knS L j k ↔ s < j ∧ L.getD s 0 = k ∧ 0 < k
  | 0, k, s => by simp [knS]
  | j + 1, k, s => by
    have ih := knS_mem (L := L) (j := j) (k := k) (s := s)
    unfold knS
    by_cases h : 0 < L.getD j 0
    · rw [if_pos h]
      unfold push
      by_cases e : k = L.getD j 0
      · rw [if_pos e, ← e, List.mem_append, ih, List.mem_singleton]
        constructor
        · rintro (⟨h1, h2, h3⟩ | rfl)
          · exact ⟨by omega, h2, h3⟩
          · exact ⟨by omega, e.symm, by omega⟩
        · rintro ⟨h1, h2, h3⟩
          by_cases es : s = j
          · exact .inr es
          · exact .inl ⟨by omega, h2, h3⟩
      · rw [if_neg e, ih]
        constructor
        · rintro ⟨h1, h2, h3⟩
          exact ⟨by omega, h2, h3⟩
        · rintro ⟨h1, h2, h3⟩
          refine ⟨?_, h2, h3⟩
          by_cases es : s = j
          · subst es
            exact absurd h2.symm e
          · omega
    · rw [if_neg h, ih]
      constructor
      · rintro ⟨h1, h2, h3⟩
        exact ⟨by omega, h2, h3⟩
      · rintro ⟨h1, h2, h3⟩
        refine ⟨?_, h2, h3⟩
        by_cases es : s = j
        · subst es
          omega
        · omega

/-- The cells at least so bright. -/
def atLeast (L : List Nat) (k : Nat) : Nat := L.countP (fun x => decide (k ≤ x))
/-- No list is longer than there are cells. -/
structure Good (n : Nat) (st : St) : Prop where
  len : st.1.length = n
  few : ∀ k, (st.2 k).length ≤ atLeast st.1 k
  mem : ∀ k s, s ∈ st.2 k → s < n
theorem Good.le {n : Nat} {st : St} (h : Good n st) (k : Nat) : (st.2 k).length ≤ n := Nat.le_trans (h.few k) (by rw [← h.len]; exact List.countP_le_length)
theorem atLeast_set {L : List Nat} {s v k : Nat} (h : s < L.length) (hv : L.getD s 0 < v) : atLeast L k + (if L.getD s 0 < k ∧ k ≤ v then 1 else 0) = atLeast (L.set s v) k := by
  unfold atLeast
  have hg : L.getD s 0 = L[s] := by simp [List.getD, h]
  rw [hg] at hv ⊢
  rw [List.countP_set h]
  have hpos : k ≤ L[s] → 0 < L.countP (fun x => decide (k ≤ x)) := fun q => List.countP_pos_iff.2 ⟨L[s], List.getElem_mem h, by simpa using q⟩
  by_cases h1 : k ≤ L[s]
  · have := hpos h1
    simp only [decide_eq_true_eq, if_pos h1, if_pos (show k ≤ v by omega), if_neg (show ¬ (L[s] < k ∧ k ≤ v) by omega)]
    omega
  · by_cases h2 : k ≤ v
    · simp only [decide_eq_true_eq, if_neg h1, if_pos h2, if_pos (show L[s] < k ∧ k ≤ v by omega)]
      omega
    · simp only [decide_eq_true_eq, if_neg h1, if_neg h2, if_neg (show ¬ (L[s] < k ∧ k ≤ v) by omega)]
      omega
theorem Good.step {n : Nat} {O : List Bool} {less : Nat} {st : St} (h : Good n st) {s : Nat} (hs : s < n) : Good n (stepS O less st s) := by
  unfold stepS
  split
  · rename_i hc
    have hsl : s < st.1.length := by rw [h.len]; exact hs
    refine ⟨by simp [h.len], fun k => ?_, fun k x hx => ?_⟩
    rotate_left
    · have hx' : x ∈ push st.2 less s k := hx
      unfold push at hx'
      split at hx'
      · rcases List.mem_append.1 hx' with q | q
        · exact h.mem _ _ q
        · have : x = s := by simpa using q
          subst this
          exact hs
      · exact h.mem _ _ hx'
    have e := atLeast_set (k := k) hsl hc.2
    have hf := h.few k
    show (push st.2 less s k).length ≤ atLeast (st.1.set s less) k
    unfold push
    by_cases ek : k = less
    · subst ek
      rw [if_pos rfl, List.length_append]
      rw [if_pos ⟨hc.2, Nat.le_refl _⟩] at e
      simp only [List.length_cons, List.length_nil]
      omega
    · rw [if_neg ek]
      omega
  · exact h
theorem stepS_other {O : List Bool} {less k : Nat} {st : St} {s : Nat} (hk : k ≠ less) : (stepS O less st s).2 k = st.2 k := by
  unfold stepS
  split
  · show push st.2 less s k = st.2 k
    unfold push
    rw [if_neg hk]
  · rfl
theorem fold_other {O : List Bool} {less k : Nat} (hk : k ≠ less) : ∀ (l : List Nat) (st : St), (l.foldl (stepS O less) st).2 k = st.2 k
  | [], st => rfl
  | s :: r, st => by rw [List.foldl_cons, fold_other hk r, stepS_other hk]
theorem Good.fold {n : Nat} {O : List Bool} {less : Nat} : ∀ {l : List Nat} {st : St}, Good n st → (∀ s ∈ l, s < n) → Good n (l.foldl (stepS O less) st)
  | [], st, h, _ => h
  | s :: r, st, h, hl => Good.fold (l := r) (h.step (hl s (by simp))) (fun x hx => hl x (by simp [hx]))
theorem Good.cells {n : Nat} {O : List Bool} {side : Nat → List Nat} {less : Nat} (hside : ∀ c, c < n → ∀ s ∈ side c, s < n) : ∀ {l : List Nat} {st : St}, Good n st → (∀ c ∈ l, c < n) → Good n (l.foldl (cellS O side less) st)
  | [], st, h, _ => h
  | c :: r, st, h, hl => Good.cells hside (l := r) (h.fold (hside c (hl c (by simp)))) (fun x hx => hl x (by simp [hx]))
theorem Good.first {L : List Nat} : ∀ j, j ≤ L.length → ∀ k, 0 < k → (knS L j k).length ≤ (L.take j).countP (fun x => decide (k ≤ x))
  | 0, _, k, _ => by simp [knS]
  | j + 1, h, k, hk => by
    have ih := Good.first (L := L) j (by omega) k hk
    have hg : L.getD j 0 = L[j] := by simp [List.getD, show j < L.length by omega]
    rw [List.take_succ_eq_append_getElem (by omega), List.countP_append]
    unfold knS
    by_cases h0 : 0 < L.getD j 0
    · rw [if_pos h0]
      unfold push
      by_cases e : k = L.getD j 0
      · rw [if_pos e, ← e, List.length_append]
        have : [L[j]'(by omega)].countP (fun x => decide (k ≤ x)) = 1 := by rw [List.countP_cons, List.countP_nil, if_pos (by have e2 := e.trans hg; simp only [decide_eq_true_eq]; omega)]
        rw [this]
        simp only [List.length_cons, List.length_nil]
        omega
      · rw [if_neg e]
        omega
    · rw [if_neg h0]
      omega
theorem knS_zero {L : List Nat} : ∀ j, knS L j 0 = []
  | 0 => rfl
  | j + 1 => by
    unfold knS
    split
    · unfold push
      rw [if_neg (by omega)]
      exact knS_zero j
    · exact knS_zero j
theorem Good.start {L : List Nat} {n : Nat} (h : L.length = n) : Good n (L, knS L n) := ⟨h, fun k => by
  by_cases hk : k = 0
  · subst hk
    show (knS L n 0).length ≤ _
    rw [knS_zero]
    simp
  · have := Good.first (L := L) n (by omega) k (by omega)
    rw [List.take_of_length_le (by omega)] at this
    exact this, fun k s hs => (knS_mem.1 hs).1⟩

/-! ### It makes the light -/
section
variable {n : Nat} {O : List Bool} {side : Nat → List Nat} {own : Nat → Nat}
def lt (st : St) (i : Nat) : Nat := st.1.getD i 0
def clO (O : List Bool) (i : Nat) : Bool := O.getD i false
structure Base (n : Nat) (O : List Bool) (side : Nat → List Nat) (own : Nat → Nat) (b : Nat) (st : St) : Prop where
  len : st.1.length = n
  own_le : ∀ i, own i ≤ lt st i
  top : ∀ i, lt st i ≤ 15
  dark : ∀ i, clO O i = false → lt st i = 0
  just : ∀ i, lt st i ≤ max (own i) (inL side (lt st) i)
  mem : ∀ k s, s ∈ st.2 k → s < n ∧ k ≤ lt st s
  all : ∀ i, 0 < lt st i → i ∈ st.2 (lt st i)
  done : ∀ i, b < lt st i → ∀ s ∈ side i, clO O s = true → lt st i ≤ lt st s + 1
theorem Base.step {b : Nat} {st : St} (h : Base n O side own b st) (hb : 2 ≤ b) (hb15 : b ≤ 15) {c s : Nat} (hc : b ≤ lt st c) (hs : s < n) (hcs : c ∈ side s) :
    Base n O side own b (stepS O (b - 1) st s) ∧ (∀ i, lt st i ≤ lt (stepS O (b - 1) st s) i) ∧ (clO O s = true → b - 1 ≤ lt (stepS O (b - 1) st s) s) := by
  unfold stepS
  by_cases hq : O.getD s false = true ∧ st.1.getD s 0 < b - 1
  · rw [if_pos hq]
    have hsl : s < st.1.length := by rw [h.len]; exact hs
    have hl : ∀ i, lt (st.1.set s (b - 1), push st.2 (b - 1) s) i = if i = s then b - 1 else lt st i := fun i => getD_set hsl
    have hlt : lt st s < b - 1 := hq.2
    have up : ∀ i, lt st i ≤ lt (st.1.set s (b - 1), push st.2 (b - 1) s) i := fun i => by
      rw [hl]
      split
      · rename_i e
        subst e
        omega
      · exact Nat.le_refl _
    have pm : ∀ k x, x ∈ st.2 k → x ∈ push st.2 (b - 1) s k := fun k x hx => by
      unfold push
      split
      · rename_i e
        subst e
        exact List.mem_append_left _ hx
      · exact hx
    refine ⟨⟨by simp [h.len], fun i => Nat.le_trans (h.own_le i) (up i), fun i => ?_, fun i hi => ?_, fun i => ?_, fun k x hx => ?_, fun i hi => ?_, fun i hi x hx hcx => ?_⟩, up, fun _ => by rw [hl, if_pos rfl]; exact Nat.le_refl _⟩
    · rw [hl]
      have := h.top i
      split <;> omega
    · rw [hl]
      split
      · rename_i e
        subst e
        have : clO O i = true := hq.1
        rw [hi] at this
        cases this
      · exact h.dark i hi
    · have hm := in_mono (side := side) up i
      rw [hl]
      split
      · rename_i e
        subst e
        have h1 := in_ge (side := side) (L := lt (st.1.set i (b - 1), push st.2 (b - 1) i)) hcs
        have h2 := up c
        omega
      · have := h.just i
        omega
    · have hx' : x ∈ push st.2 (b - 1) s k := hx
      unfold push at hx'
      split at hx'
      · rename_i e
        subst e
        rcases List.mem_append.1 hx' with q | q
        · have := h.mem _ _ q
          exact ⟨this.1, Nat.le_trans this.2 (up x)⟩
        · have : x = s := by simpa using q
          subst this
          exact ⟨hs, by rw [hl, if_pos rfl]; exact Nat.le_refl _⟩
      · have := h.mem _ _ hx'
        exact ⟨this.1, Nat.le_trans this.2 (up x)⟩
    · rw [hl] at hi ⊢
      show i ∈ push st.2 (b - 1) s _
      by_cases e : i = s
      · rw [if_pos e]
        unfold push
        rw [if_pos rfl, e]
        simp
      · rw [if_neg e] at hi ⊢
        exact pm _ _ (h.all i hi)
    · rw [hl] at hi
      by_cases e : i = s
      · rw [if_pos e] at hi
        omega
      · rw [if_neg e] at hi
        have h1 := h.done i hi x hx hcx
        have h2 := up x
        rw [hl i, if_neg e]
        omega
  · rw [if_neg hq]
    refine ⟨h, fun _ => Nat.le_refl _, fun hcl => ?_⟩
    apply Classical.byContradiction
    intro hn
    exact hq ⟨hcl, by unfold lt at hn; omega⟩
theorem Base.fold {b : Nat} (hb : 2 ≤ b) (hb15 : b ≤ 15) {c : Nat} : ∀ (l : List Nat) {st : St}, Base n O side own b st → b ≤ lt st c → (∀ s ∈ l, s < n ∧ c ∈ side s) →
    Base n O side own b (l.foldl (stepS O (b - 1)) st) ∧ (∀ i, lt st i ≤ lt (l.foldl (stepS O (b - 1)) st) i) ∧ ∀ s ∈ l, clO O s = true → b - 1 ≤ lt (l.foldl (stepS O (b - 1)) st) s
  | [], st, h, _, _ => ⟨h, fun _ => Nat.le_refl _, fun s hs => by cases hs⟩
  | x :: r, st, h, hc, hl => by
    obtain ⟨h1, u1, p1⟩ := h.step hb hb15 hc (hl x (by simp)).1 (hl x (by simp)).2
    obtain ⟨h2, u2, p2⟩ := Base.fold hb hb15 (c := c) r h1 (Nat.le_trans hc (u1 c)) (fun s hs => hl s (by simp [hs]))
    refine ⟨h2, fun i => Nat.le_trans (u1 i) (u2 i), fun s hs hcl => ?_⟩
    rcases List.mem_cons.1 hs with rfl | hs
    · exact Nat.le_trans (p1 hcl) (u2 s)
    · exact p2 s hs hcl
theorem Base.cells {b : Nat} (hb : 2 ≤ b) (hb15 : b ≤ 15) (hsym : ∀ c s, c < n → s ∈ side c → s < n ∧ c ∈ side s) : ∀ (l : List Nat) {st : St}, Base n O side own b st → (∀ c ∈ l, c < n ∧ b ≤ lt st c) →
    Base n O side own b (l.foldl (cellS O side (b - 1)) st) ∧ (∀ i, lt st i ≤ lt (l.foldl (cellS O side (b - 1)) st) i) ∧ ∀ c ∈ l, ∀ s ∈ side c, clO O s = true → b - 1 ≤ lt (l.foldl (cellS O side (b - 1)) st) s
  | [], st, h, _ => ⟨h, fun _ => Nat.le_refl _, fun s hs => by cases hs⟩
  | x :: r, st, h, hl => by
    obtain ⟨h1, u1, p1⟩ := h.fold hb hb15 (c := x) (side x) (hl x (by simp)).2 (fun s hs => hsym x s (hl x (by simp)).1 hs)
    obtain ⟨h2, u2, p2⟩ := Base.cells hb hb15 hsym r h1 (fun c hc => ⟨(hl c (by simp [hc])).1, Nat.le_trans (hl c (by simp [hc])).2 (u1 c)⟩)
    refine ⟨h2, fun i => Nat.le_trans (u1 i) (u2 i), fun c hc s hs hcl => ?_⟩
    rcases List.mem_cons.1 hc with rfl | hc
    · exact Nat.le_trans (p1 s hs hcl) (u2 s)
    · exact p2 c hc s hs hcl
theorem cells_other {side : Nat → List Nat} {less k : Nat} (hk : k ≠ less) : ∀ (l : List Nat) (st : St), (l.foldl (cellS O side less) st).2 k = st.2 k
  | [], st => rfl
  | c :: r, st => by rw [List.foldl_cons, cells_other hk r, cellS, fold_other hk]
theorem Base.turn {b : Nat} {st : St} (h : Base n O side own b st) (hb : 2 ≤ b) (hb15 : b ≤ 15) (hsym : ∀ c s, c < n → s ∈ side c → s < n ∧ c ∈ side s) : Base n O side own (b - 1) (turnS O side b st) := by
  obtain ⟨h1, u1, p1⟩ := h.cells hb hb15 hsym (st.2 b) (fun c hc => h.mem b c hc)
  refine ⟨h1.len, h1.own_le, h1.top, h1.dark, h1.just, h1.mem, h1.all, fun i hi s hs hcl => ?_⟩
  by_cases e : b < lt (turnS O side b st) i
  · exact h1.done i e s hs hcl
  · have eb : lt (turnS O side b st) i = b := by omega
    have hm := h1.all i (by show 0 < lt (turnS O side b st) i; omega)
    rw [show lt (List.foldl (cellS O side (b - 1)) st (st.2 b)) i = b from eb, cells_other (by omega)] at hm
    have hp : b - 1 ≤ lt (turnS O side b st) s := p1 i hm s hs hcl
    omega
theorem Base.down (hsym : ∀ c s, c < n → s ∈ side c → s < n ∧ c ∈ side s) : ∀ {b : Nat} {st : St}, 1 ≤ b → b ≤ 15 → Base n O side own b st → Base n O side own 1 (downS O side b st)
  | 0, st, h, _, _ => by omega
  | b + 1, st, _, hb15, h => by
    unfold downS
    by_cases e : b + 1 ≤ 1
    · rw [if_pos e]
      have : b = 0 := by omega
      subst this
      exact h
    · rw [if_neg e]
      exact Base.down hsym (by omega) (by omega) (h.turn (by omega) hb15 hsym)
theorem Base.sol {st : St} (h : Base n O side own 1 st) (hsym : ∀ c s, s ∈ side c → c ∈ side s) (h0 : ∀ i, clO O i = false → own i = 0) : Sol side (clO O) own (lt st) := fun i => by
  cases hc : clO O i with
  | false =>
    rw [if_neg (by simp)]
    exact h.dark i hc
  | true =>
    rw [if_pos rfl]
    refine Nat.le_antisymm (h.just i) ?_
    have : inL side (lt st) i ≤ lt st i := in_le.2 fun t ht => by
      by_cases h1 : 1 < lt st t
      · have := h.done t h1 i (hsym _ _ ht) hc
        omega
      · omega
    have := h.own_le i
    omega
theorem Base.start {L : List Nat} (hn : L.length = n) (h15 : ∀ i, L.getD i 0 ≤ 15) (h0 : ∀ i, clO O i = false → L.getD i 0 = 0) : Base n O side (fun i => L.getD i 0) 15 (L, knS L n) :=
  ⟨hn, fun _ => Nat.le_refl _, h15, h0, fun i => by show L.getD i 0 ≤ _; omega, fun k s hs => by
    have := knS_mem.1 hs
    exact ⟨this.1, Nat.le_of_eq this.2.1.symm⟩, fun i hi => knS_mem.2 ⟨by
      apply Classical.byContradiction
      intro hn'
      have : L.getD i 0 = 0 := by simp [List.getD, show L.length ≤ i by omega]
      have hi' : 0 < L.getD i 0 := hi
      omega, rfl, hi⟩, fun i hi => by
    have := h15 i
    have hi' : 15 < L.getD i 0 := hi
    omega⟩
/-- What the lists make of the sources is the light. -/
theorem spread_sol {L : List Nat} (hn : L.length = n) (h15 : ∀ i, L.getD i 0 ≤ 15) (h0 : ∀ i, clO O i = false → L.getD i 0 = 0) (hlt : ∀ c, c < n → ∀ s ∈ side c, s < n) (hsym : ∀ c s, s ∈ side c → c ∈ side s) :
    Sol side (clO O) (fun i => L.getD i 0) (lt (downS O side 15 (L, knS L n))) ∧ (∀ i, lt (downS O side 15 (L, knS L n)) i ≤ 15) ∧ (downS O side 15 (L, knS L n)).1.length = n := by
  have h := Base.down (own := fun i => L.getD i 0) (fun c s hc hs => ⟨hlt c hc s hs, hsym c s hs⟩) (by omega) (by omega) (Base.start hn h15 h0)
  exact ⟨h.sol hsym h0, h.top, h.len⟩
end
/-- The sides of a box, none beyond it. -/
def sideX (X Y Z i : Nat) : List Nat := if i < X * Y * Z then sides X Y Z i else []
theorem sideX_lt {X Y Z i s : Nat} (hs : s ∈ sideX X Y Z i) : i < X * Y * Z ∧ s < X * Y * Z := by
  unfold sideX at hs
  split at hs
  · rename_i h
    exact ⟨h, sides_lt h hs⟩
  · cases hs
theorem sideX_sym {X Y Z c s : Nat} (hs : s ∈ sideX X Y Z c) : c ∈ sideX X Y Z s := by
  obtain ⟨h1, h2⟩ := sideX_lt hs
  unfold sideX at hs ⊢
  rw [if_pos h1] at hs
  rw [if_pos h2]
  obtain ⟨hx, hz, hy⟩ := at_box h1
  have ec := at_self (X := X) (Z := Z) (i := c)
  generalize c % X = x at *
  generalize c / X % Z = z at *
  generalize c / X / Z = y at *
  subst ec
  rcases (mem_sides hx hz hy).1 hs with ⟨h, rfl⟩ | ⟨h, rfl⟩ | ⟨h, rfl⟩ | ⟨h, rfl⟩ | ⟨h, rfl⟩ | ⟨h, rfl⟩
  · exact (mem_sides (by omega) hz hy).2 (.inr (.inl ⟨by omega, by rw [Nat.sub_add_cancel h]⟩))
  · exact (mem_sides h hz hy).2 (.inl ⟨by omega, by simp⟩)
  · exact (mem_sides hx (by omega) hy).2 (.inr (.inr (.inr (.inl ⟨by omega, by rw [Nat.sub_add_cancel h]⟩))))
  · exact (mem_sides hx h hy).2 (.inr (.inr (.inl ⟨by omega, by simp⟩)))
  · exact (mem_sides hx hz (by omega)).2 (.inr (.inr (.inr (.inr (.inr ⟨by omega, by rw [Nat.sub_add_cancel h]⟩)))))
  · exact (mem_sides hx hz h).2 (.inr (.inr (.inr (.inr (.inl ⟨by omega, by simp⟩)))))
end GlowP
end Go.Proofs.YtbkadecfmjjadaaDoor
