/-
  Layer 16, plainly: a heap of ticks and where each index's tick stands, held against ticks by rising index; what is put, taken out, first.
-/
import Derived.Test.YtlhanbjendbhfaaHeapPlain
import Derived.Test.YtlhanbjendbhfaaChunkPlain
namespace Go.Proofs.Ytlhanbjendbhfaa
set_option linter.unusedVariables false
set_option linter.unusedSimpArgs false
namespace QueW
open HeapP ChunkW
def mayB (t : Tick) : Bool := decide (0 ≤ t.1) && decide (t.1 < 4096) && decide (1 ≤ t.2) && decide (t.2 ≤ 2199023255552)
theorem mayB_iff {t : Tick} : mayB t = true ↔ 0 ≤ t.1 ∧ t.1 < 4096 ∧ 1 ≤ t.2 ∧ t.2 ≤ 2199023255552 := by
  simp only [mayB, Bool.and_eq_true, decide_eq_true_eq]
  omega
theorem mayB_not {t : Tick} : mayB t = false ↔ ¬ (0 ≤ t.1 ∧ t.1 < 4096 ∧ 1 ≤ t.2 ∧ t.2 ≤ 2199023255552) := by
  rw [← mayB_iff, Bool.not_eq_true]
/-! ### Ticks by rising index -/
def Good (L : List Tick) : Prop := ChunkW.up 0 L ∧ ∀ t ∈ L, t.2 ≤ 2199023255552
theorem good_nil : Good [] := ⟨trivial, fun t h => by simp at h⟩
theorem Good.mem {L : List Tick} (h : Good L) {t : Tick} (ht : t ∈ L) : mayB t = true := by
  have h1 := up_mem h.1 t ht
  have h2 := h.2 t ht
  exact mayB_iff.2 ⟨h1.1, h1.2.1, h1.2.2, h2⟩
theorem due_mem {L : List Tick} {n : Int} (h : ChunkW.up n L) {i d : Int} : (i, d) ∈ L ↔ dueL i L = d ∧ d ≠ 0 := by
  induction L generalizing n with
  | nil => simp [dueL]; omega
  | cons t r ih =>
    obtain ⟨h1, h2, h3, h4⟩ := h
    rw [List.mem_cons, ih h4, dueL]
    by_cases e : t.1 = i
    · rw [if_pos e]
      have h0 : dueL i r = 0 := due_up h4 (by omega)
      rw [h0]
      constructor
      · rintro (q | q)
        · subst q
          exact ⟨rfl, by omega⟩
        · omega
      · rintro ⟨q, _⟩
        exact .inl (Prod.ext e.symm q.symm)
    · rw [if_neg e]
      constructor
      · rintro (q | q)
        · subst q
          exact absurd rfl e
        · exact q
      · exact .inr
theorem up_ext : ∀ {L M : List Tick} {n m : Int}, ChunkW.up n L → ChunkW.up m M → (∀ i, dueL i L = dueL i M) → L = M
  | [], [], _, _, _, _, _ => rfl
  | [], t :: r, n, m, h, k, e => by
    have := e t.1
    simp only [dueL, if_true] at this
    have := k.2.2.1
    omega
  | t :: r, [], n, m, h, k, e => by
    have := e t.1
    simp only [dueL, if_true] at this
    have := h.2.2.1
    omega
  | t :: r, u :: s, n, m, h, k, e => by
    have e1 := e t.1
    have e2 := e u.1
    have h3 := h.2.2.1
    have k3 := k.2.2.1
    simp only [dueL, if_true] at e1 e2
    have e0 : t.1 = u.1 := by
      by_cases h1 : t.1 < u.1
      · rw [if_neg (by omega), due_up k.2.2.2 (by omega)] at e1
        omega
      · by_cases h2 : u.1 < t.1
        · rw [if_neg (by omega), due_up h.2.2.2 (by omega)] at e2
          omega
        · omega
    rw [if_pos e0.symm] at e1
    have et : t = u := Prod.ext e0 e1
    subst et
    rw [up_ext h.2.2.2 k.2.2.2 (fun i => ?_)]
    have := e i
    simp only [dueL] at this
    by_cases hi : t.1 = i
    · rw [due_up h.2.2.2 (by omega), due_up k.2.2.2 (by omega)]
    · rw [if_neg hi, if_neg hi] at this
      exact this
theorem mem_ext {L M : List Tick} (h : Good L) (k : Good M) (e : ∀ t, t ∈ L ↔ t ∈ M) : L = M := up_ext h.1 k.1 (fun i => by
  by_cases h1 : dueL i L = 0
  · by_cases h2 : dueL i M = 0
    · rw [h1, h2]
    · have := (e (i, dueL i M)).2 ((due_mem k.1).2 ⟨rfl, h2⟩)
      exact ((due_mem h.1).1 this).1
  · have := (e (i, dueL i L)).1 ((due_mem h.1).2 ⟨rfl, h1⟩)
    exact ((due_mem k.1).1 this).1.symm)
/-- The queue with one more put in. -/
def putT (L : List Tick) (t : Tick) : List Tick := if mayB t then putL t.1 t.2 L else L
/-- Is it put in? -/
def putsB (L : List Tick) (t : Tick) : Bool := decide (dueL t.1 L = 0 ∨ t.2 < dueL t.1 L)
theorem put_same {i d : Int} (hd : d ≠ 0) : ∀ {L : List Tick} {n : Int}, ChunkW.up n L → dueL i L ≠ 0 → ¬ d < dueL i L → putL i d L = L
  | [], _, _, h, _ => absurd rfl h
  | t :: r, n, hu, h, hd2 => by
    rw [dueL] at h hd2
    by_cases e : t.1 = i
    · rw [if_pos e] at h hd2
      rw [putL, if_pos e, if_neg hd2]
    · rw [if_neg e] at h hd2
      have hlt : ¬ i < t.1 := fun hlt => h (due_up hu.2.2.2 (by omega))
      rw [putL, if_neg e, if_neg hlt, put_same hd hu.2.2.2 h hd2]
theorem del_same {i : Int} : ∀ {L : List Tick} {n : Int}, ChunkW.up n L → dueL i L = 0 → delL i L = L
  | [], _, _, _ => rfl
  | t :: r, n, hu, h => by
    rw [dueL] at h
    by_cases e : t.1 = i
    · rw [if_pos e] at h
      have := hu.2.2.1
      omega
    · rw [if_neg e] at h
      rw [delL, if_neg e, del_same hu.2.2.2 h]
theorem good_put {L : List Tick} {t : Tick} (h : Good L) (ht : mayB t = true) : Good (putL t.1 t.2 L) := by
  obtain ⟨h1, h2, h3, h4⟩ := mayB_iff.1 ht
  have hu := up_put (i := t.1) (d := t.2) h3 h2 h1 h.1
  refine ⟨hu, fun x hx => ?_⟩
  have hx2 := ((due_mem (i := x.1) (d := x.2) hu).1 hx)
  rw [due_put h3 h.1] at hx2
  by_cases e : x.1 = t.1
  · rw [if_pos e] at hx2
    split at hx2
    · omega
    · have := h.2 _ ((due_mem (i := t.1) (d := dueL t.1 L) h.1).2 ⟨rfl, by omega⟩)
      omega
  · rw [if_neg e] at hx2
    exact h.2 x ((due_mem h.1).2 hx2)
theorem good_putT {L : List Tick} {t : Tick} (h : Good L) : Good (putT L t) := by
  unfold putT
  split
  · exact good_put h (by assumption)
  · exact h
theorem good_del {L : List Tick} {i : Int} (h : Good L) : Good (delL i L) := by
  have hu := up_del (i := i) h.1
  refine ⟨hu, fun x hx => ?_⟩
  have hx2 := ((due_mem (i := x.1) (d := x.2) hu).1 hx)
  rw [due_del h.1] at hx2
  by_cases e : x.1 = i
  · rw [if_pos e] at hx2
    omega
  · rw [if_neg e] at hx2
    exact h.2 x ((due_mem h.1).2 hx2)
theorem put_mem_new {L : List Tick} {t : Tick} (h : Good L) (ht : mayB t = true) (h0 : dueL t.1 L = 0) (x : Tick) : x ∈ putL t.1 t.2 L ↔ x = t ∨ x ∈ L := by
  obtain ⟨h1, h2, h3, h4⟩ := mayB_iff.1 ht
  have hu := (good_put h ht).1
  have e1 : x ∈ putL t.1 t.2 L ↔ _ := due_mem (i := x.1) (d := x.2) hu
  have e2 : x ∈ L ↔ _ := due_mem (i := x.1) (d := x.2) h.1
  rw [e1, e2, due_put h3 h.1]
  by_cases e : x.1 = t.1
  · rw [if_pos e, if_pos (.inl h0), e, h0]
    constructor
    · rintro ⟨q, _⟩
      exact .inl (Prod.ext e q.symm)
    · rintro (q | q)
      · subst q
        exact ⟨rfl, by omega⟩
      · omega
  · rw [if_neg e]
    constructor
    · exact .inr
    · rintro (q | q)
      · subst q
        exact absurd rfl e
      · exact q
theorem put_mem_old {L : List Tick} {t : Tick} (h : Good L) (ht : mayB t = true) (h0 : t.2 < dueL t.1 L) (x : Tick) : x ∈ putL t.1 t.2 L ↔ x = t ∨ (x ∈ L ∧ x.1 ≠ t.1) := by
  obtain ⟨h1, h2, h3, h4⟩ := mayB_iff.1 ht
  have hu := (good_put h ht).1
  have e1 : x ∈ putL t.1 t.2 L ↔ _ := due_mem (i := x.1) (d := x.2) hu
  have e2 : x ∈ L ↔ _ := due_mem (i := x.1) (d := x.2) h.1
  rw [e1, e2, due_put h3 h.1]
  by_cases e : x.1 = t.1
  · rw [if_pos e, if_pos (.inr h0)]
    constructor
    · rintro ⟨q, _⟩
      exact .inl (Prod.ext e q.symm)
    · rintro (q | q)
      · subst q
        exact ⟨rfl, by omega⟩
      · exact absurd e q.2
  · rw [if_neg e]
    constructor
    · exact fun q => .inr ⟨q, e⟩
    · rintro (q | q)
      · subst q
        exact absurd rfl e
      · exact q.1
theorem del_mem {L : List Tick} {i : Int} (h : Good L) (x : Tick) : x ∈ delL i L ↔ x ∈ L ∧ x.1 ≠ i := by
  have e1 : x ∈ delL i L ↔ _ := due_mem (i := x.1) (d := x.2) (good_del h).1
  have e2 : x ∈ L ↔ _ := due_mem (i := x.1) (d := x.2) h.1
  rw [e1, e2, due_del h.1]
  by_cases e : x.1 = i
  · rw [if_pos e]
    constructor
    · rintro ⟨q, q2⟩
      omega
    · rintro ⟨_, q⟩
      exact absurd e q
  · rw [if_neg e]
    exact ⟨fun q => ⟨q, e⟩, fun q => q.1⟩
/-! ### The first tick -/
def bestL (b : Tick) : List Tick → Tick
  | [] => b
  | t :: r => bestL (if t.2 < b.2 then t else b) r
def firstL : List Tick → Tick
  | [] => (0, 0)
  | t :: r => bestL t r
theorem best_is : ∀ {r : List Tick} {b : Tick}, (∀ x ∈ r, b.1 < x.1) → r.Pairwise (fun a b => a.1 < b.1) → (bestL b r = b ∨ bestL b r ∈ r) ∧ ¬ tl b (bestL b r) ∧ ∀ x ∈ r, ¬ tl x (bestL b r)
  | [], b, _, _ => ⟨.inl rfl, tl_irr b, fun x hx => by simp at hx⟩
  | t :: r, b, h, hp => by
    obtain ⟨p1, p2⟩ := List.pairwise_cons.1 hp
    have hb := h t (by simp)
    rw [bestL]
    by_cases e : t.2 < b.2
    · rw [if_pos e]
      obtain ⟨a1, a2, a3⟩ := best_is (b := t) p1 p2
      refine ⟨.inr ?_, ?_, fun x hx => ?_⟩
      · rcases a1 with a1 | a1
        · rw [a1]; simp
        · simp [a1]
      · intro q
        unfold tl at a2 q
        omega
      · rcases List.mem_cons.1 hx with rfl | hx
        · exact a2
        · exact a3 x hx
    · rw [if_neg e]
      obtain ⟨a1, a2, a3⟩ := best_is (b := b) (fun x hx => h x (by simp [hx])) p2
      refine ⟨?_, a2, fun x hx => ?_⟩
      · rcases a1 with a1 | a1
        · exact .inl a1
        · exact .inr (by simp [a1])
      · rcases List.mem_cons.1 hx with rfl | hx
        · intro q
          unfold tl at a2 q
          omega
        · exact a3 x hx
theorem first_is {L : List Tick} {n : Int} (h : ChunkW.up n L) (hne : L ≠ []) : firstL L ∈ L ∧ ∀ x ∈ L, ¬ tl x (firstL L) := by
  cases L with
  | nil => exact absurd rfl hne
  | cons t r =>
    obtain ⟨p1, p2⟩ := List.pairwise_cons.1 (up_nodup h)
    obtain ⟨a1, a2, a3⟩ := best_is p1 p2
    refine ⟨?_, fun x hx => ?_⟩
    · show bestL t r ∈ _
      rcases a1 with a1 | a1
      · rw [a1]; simp
      · simp [a1]
    · show ¬ tl x (bestL t r)
      rcases List.mem_cons.1 hx with rfl | hx
      · exact a2
      · exact a3 x hx
theorem first_one {L : List Tick} (h : Good L) {t : Tick} (ht : t ∈ L) (hl : ∀ x ∈ L, ¬ tl x t) : firstL L = t := by
  obtain ⟨a1, a2⟩ := first_is h.1 (fun e => by rw [e] at ht; simp at ht)
  have b1 := hl _ a1
  have b2 := a2 _ ht
  unfold tl at b1 b2
  exact Prod.ext (by omega) (by omega)
/-! ### A heap's list -/
def gt (l : List Tick) : Nat → Tick := fun k => l.getD k (0, 0)
theorem gt_at {l : List Tick} {k : Nat} {t : Tick} (h : l[k]? = some t) : gt l k = t := by simp [gt, List.getD, h]
theorem gt_some {l : List Tick} {k : Nat} (h : k < l.length) : l[k]? = some (gt l k) := by
  rw [List.getElem?_eq_getElem h]
  simp [gt, List.getD, h]
def swp (l : List Tick) (i j : Nat) : List Tick := (l.set i (gt l j)).set j (gt l i)
theorem swp_len (l : List Tick) (i j : Nat) : (swp l i j).length = l.length := by simp [swp]
theorem swp_gt {l : List Tick} {i j : Nat} (hi : i < l.length) (hj : j < l.length) : gt (swp l i j) = sw (gt l) i j := by
  funext k
  unfold sw
  by_cases h1 : k = i
  · subst h1
    rw [if_pos rfl]
    by_cases h2 : k = j
    · subst h2
      exact gt_at (by simp [swp, hi])
    · exact gt_at (by simp [swp, hi, List.getElem?_set, Ne.symm h2])
  · rw [if_neg h1]
    by_cases h2 : k = j
    · subst h2
      rw [if_pos rfl]
      exact gt_at (by simp [swp, hj])
    · rw [if_neg h2]
      unfold gt swp
      simp [List.getD, List.getElem?_set, Ne.symm h1, Ne.symm h2]
theorem swp_at {l : List Tick} {i j : Nat} (hi : i < l.length) (hj : j < l.length) (k : Nat) : (swp l i j)[k]? = if k = i then some (gt l j) else if k = j then some (gt l i) else l[k]? := by
  unfold swp
  by_cases h2 : k = j
  · subst h2
    by_cases h1 : k = i
    · subst h1
      simp [hi]
    · simp [h1, hj]
  · by_cases h1 : k = i
    · subst h1
      simp [hi, List.getElem?_set, Ne.symm h2]
    · simp [h1, h2, List.getElem?_set, Ne.symm h1, Ne.symm h2]
def upd (W : Nat → Nat) (a k : Nat) : Nat → Nat := fun x => if x = a then k else W x
/-- Where each index's tick stands, counted from 1. -/
structure Whr (l : List Tick) (W : Nat → Nat) : Prop where
  at_ : ∀ k t, l[k]? = some t → W t.1.toNat = k + 1
  of : ∀ a, a < 4096 → W a ≠ 0 → ∃ t, l[W a - 1]? = some t ∧ t.1 = (a : Int)
structure Ws (l : List Tick) (W : Nat → Nat) (L : List Tick) : Prop where
  wh : Whr l W
  mem : ∀ t, t ∈ l ↔ t ∈ L
  good : Good L
section
variable {l L : List Tick} {W : Nat → Nat}
theorem Ws.nil : Ws [] (fun _ => 0) [] := ⟨⟨fun k t h => by simp at h, fun a _ h => absurd rfl h⟩, fun t => Iff.rfl, good_nil⟩
theorem Ws.may (h : Ws l W L) {k : Nat} {t : Tick} (ht : l[k]? = some t) : mayB t = true := h.good.mem ((h.mem t).1 (List.mem_of_getElem? ht))
theorem Ws.ix (h : Ws l W L) {k : Nat} (hk : k < l.length) : 0 ≤ (gt l k).1 ∧ (gt l k).1 < 4096 := by
  have := mayB_iff.1 (h.may (gt_some hk))
  omega
theorem Ws.one (h : Ws l W L) {i j : Nat} {s t : Tick} (hi : l[i]? = some s) (hj : l[j]? = some t) (e : s.1 = t.1) : i = j := by
  have h1 := h.wh.at_ i s hi
  have h2 := h.wh.at_ j t hj
  rw [e] at h1
  omega
theorem Ws.swap (h : Ws l W L) {i j : Nat} (hi : i < l.length) (hj : j < l.length) : Ws (swp l i j) (upd (upd W (gt l j).1.toNat (i + 1)) (gt l i).1.toNat (j + 1)) L := by
  have xi := h.ix hi
  have xj := h.ix hj
  have gi := gt_some hi
  have gj := gt_some hj
  refine ⟨⟨fun k t ht => ?_, fun a ha hne => ?_⟩, fun t => ?_, h.good⟩
  · rw [swp_at hi hj] at ht
    unfold upd
    by_cases h1 : k = i
    · subst h1
      rw [if_pos rfl] at ht
      have e : gt l j = t := by simpa using ht
      subst e
      by_cases h2 : (gt l j).1.toNat = (gt l k).1.toNat
      · rw [if_pos h2]
        have := h.one gj gi (by omega)
        omega
      · rw [if_neg h2, if_pos rfl]
    · rw [if_neg h1] at ht
      by_cases h2 : k = j
      · subst h2
        rw [if_pos rfl] at ht
        have e : gt l i = t := by simpa using ht
        subst e
        rw [if_pos rfl]
      · rw [if_neg h2] at ht
        have xk := mayB_iff.1 (h.may ht)
        rw [if_neg (fun e => h1 (h.one ht gi (by omega))), if_neg (fun e => h2 (h.one ht gj (by omega)))]
        exact h.wh.at_ k t ht
  · unfold upd at hne ⊢
    by_cases h1 : a = (gt l i).1.toNat
    · rw [if_pos h1] at hne ⊢
      refine ⟨gt l i, ?_, by omega⟩
      rw [swp_at hi hj, Nat.add_sub_cancel]
      by_cases e : j = i
      · subst e
        rw [if_pos rfl]
      · rw [if_neg e, if_pos rfl]
    · rw [if_neg h1] at hne ⊢
      by_cases h2 : a = (gt l j).1.toNat
      · rw [if_pos h2] at hne ⊢
        refine ⟨gt l j, ?_, by omega⟩
        rw [swp_at hi hj, Nat.add_sub_cancel, if_pos rfl]
      · rw [if_neg h2] at hne ⊢
        obtain ⟨t, ht, e⟩ := h.wh.of a ha hne
        refine ⟨t, ?_, e⟩
        rw [swp_at hi hj]
        by_cases e1 : W a - 1 = i
        · rw [e1, gi] at ht
          have : gt l i = t := by simpa using ht
          rw [this] at h1
          omega
        · by_cases e2 : W a - 1 = j
          · rw [e2, gj] at ht
            have : gt l j = t := by simpa using ht
            rw [this] at h2
            omega
          · rw [if_neg e1, if_neg e2]
            exact ht
  · rw [← h.mem t, List.mem_iff_getElem?, List.mem_iff_getElem?]
    constructor
    · rintro ⟨k, hk⟩
      rw [swp_at hi hj] at hk
      by_cases h1 : k = i
      · rw [if_pos h1] at hk
        exact ⟨j, by rw [gj]; exact hk⟩
      · rw [if_neg h1] at hk
        by_cases h2 : k = j
        · rw [if_pos h2] at hk
          exact ⟨i, by rw [gi]; exact hk⟩
        · rw [if_neg h2] at hk
          exact ⟨k, hk⟩
    · rintro ⟨k, hk⟩
      by_cases h1 : k = i
      · subst h1
        refine ⟨j, ?_⟩
        rw [swp_at hi hj]
        by_cases e : j = k
        · subst e
          rw [if_pos rfl, ← hk, gi]
        · rw [if_neg e, if_pos rfl, ← hk, gi]
      · by_cases h2 : k = j
        · subst h2
          refine ⟨i, ?_⟩
          rw [swp_at hi hj, if_pos rfl, ← hk, gj]
        · refine ⟨k, ?_⟩
          rw [swp_at hi hj, if_neg h1, if_neg h2]
          exact hk
theorem Ws.where_ (h : Ws l W L) {a : Int} (h0 : 0 ≤ a) (h1 : a < 4096) : (dueL a L = 0 → W a.toNat = 0) ∧ (dueL a L ≠ 0 → ∃ i, W a.toNat = i + 1 ∧ i < l.length ∧ l[i]? = some (a, dueL a L)) := by
  constructor
  · intro hd
    apply Classical.byContradiction
    intro hne
    obtain ⟨t, ht, e⟩ := h.wh.of a.toNat (by omega) hne
    have hm := (h.mem t).1 (List.mem_of_getElem? ht)
    have := (due_mem (i := t.1) (d := t.2) h.good.1).1 hm
    have ea : t.1 = a := by omega
    rw [ea] at this
    omega
  · intro hd
    have hm := (h.mem _).2 ((due_mem (i := a) h.good.1).2 ⟨rfl, hd⟩)
    obtain ⟨i, hi⟩ := List.mem_iff_getElem?.1 hm
    exact ⟨i, h.wh.at_ i _ hi, (List.getElem?_eq_some_iff.1 hi).1, hi⟩
theorem Ws.push (h : Ws l W L) {t : Tick} (ht : mayB t = true) (h0 : dueL t.1 L = 0) : Ws (l ++ [t]) (upd W t.1.toNat (l.length + 1)) (putL t.1 t.2 L) := by
  obtain ⟨x1, x2, x3, x4⟩ := mayB_iff.1 ht
  have hw := (h.where_ x1 x2).1 h0
  refine ⟨⟨fun k x hx => ?_, fun a ha hne => ?_⟩, fun x => ?_, good_put h.good ht⟩
  · unfold upd
    rw [List.getElem?_append] at hx
    split at hx
    · have y := mayB_iff.1 (h.may hx)
      have hk := h.wh.at_ k x hx
      rw [if_neg (fun e => by rw [e, hw] at hk; omega)]
      exact hk
    · rename_i hk
      have hk0 : k - l.length = 0 := by
        rcases Nat.eq_zero_or_pos (k - l.length) with q | q
        · exact q
        · rw [List.getElem?_eq_none (by simp; omega)] at hx
          cases hx
      rw [hk0] at hx
      have e : t = x := by simpa using hx
      subst e
      rw [if_pos rfl]
      omega
  · unfold upd at hne ⊢
    by_cases e : a = t.1.toNat
    · rw [if_pos e] at hne ⊢
      refine ⟨t, ?_, by omega⟩
      simp
    · rw [if_neg e] at hne ⊢
      obtain ⟨x, hx, e2⟩ := h.wh.of a ha hne
      refine ⟨x, ?_, e2⟩
      rw [List.getElem?_append_left (List.getElem?_eq_some_iff.1 hx).1]
      exact hx
  · rw [put_mem_new h.good ht h0, List.mem_append, List.mem_singleton, h.mem x]
    exact ⟨fun q => q.elim .inr .inl, fun q => q.elim .inr .inl⟩
theorem Ws.pop (h : Ws l W L) {m : Nat} (hm : l.length = m + 1) : Ws (l.take m) (upd W (gt l m).1.toNat 0) (delL (gt l m).1 L) := by
  have gm := gt_some (l := l) (k := m) (by omega)
  have xm := h.ix (k := m) (by omega)
  have tk : ∀ k, (l.take m)[k]? = if k < m then l[k]? else none := fun k => by rw [List.getElem?_take]
  refine ⟨⟨fun k x hx => ?_, fun a ha hne => ?_⟩, fun x => ?_, good_del h.good⟩
  · rw [tk] at hx
    split at hx
    · have y := mayB_iff.1 (h.may hx)
      unfold upd
      rw [if_neg (fun e => by have := h.one hx gm (by omega); omega)]
      exact h.wh.at_ k x hx
    · cases hx
  · unfold upd at hne ⊢
    by_cases e : a = (gt l m).1.toNat
    · rw [if_pos e] at hne
      exact absurd rfl hne
    · rw [if_neg e] at hne ⊢
      obtain ⟨x, hx, e2⟩ := h.wh.of a ha hne
      have hlt := (List.getElem?_eq_some_iff.1 hx).1
      refine ⟨x, ?_, e2⟩
      rw [tk, if_pos ?_]
      · exact hx
      · rcases Nat.lt_or_ge (W a - 1) m with q | q
        · exact q
        · have : W a - 1 = m := by omega
          rw [this, gm] at hx
          have : gt l m = x := by simpa using hx
          rw [this] at e
          omega
  · rw [del_mem h.good, ← h.mem x, List.mem_iff_getElem?, List.mem_iff_getElem?]
    constructor
    · rintro ⟨k, hk⟩
      rw [tk] at hk
      split at hk
      · refine ⟨⟨k, hk⟩, fun e => ?_⟩
        have := h.one hk gm e
        omega
      · cases hk
    · rintro ⟨⟨k, hk⟩, hne⟩
      have hlt := (List.getElem?_eq_some_iff.1 hk).1
      refine ⟨k, ?_⟩
      rw [tk, if_pos ?_]
      · exact hk
      · rcases Nat.lt_or_ge k m with q | q
        · exact q
        · have : k = m := by omega
          rw [this, gm] at hk
          have : gt l m = x := by simpa using hk
          exact absurd (by rw [this]) hne
theorem Ws.set (h : Ws l W L) {i : Nat} {t : Tick} {d : Int} (hi : l[i]? = some (t.1, d)) (ht : mayB t = true) (hd : t.2 < d) : Ws (l.set i t) W (putL t.1 t.2 L) := by
  have hlt := (List.getElem?_eq_some_iff.1 hi).1
  have hdue : dueL t.1 L = d := ((due_mem h.good.1).1 ((h.mem _).1 (List.mem_of_getElem? hi))).1
  have st : ∀ k, (l.set i t)[k]? = if k = i then some t else l[k]? := fun k => by
    by_cases e : k = i
    · subst e
      simp [hlt]
    · simp [e, List.getElem?_set, Ne.symm e]
  refine ⟨⟨fun k x hx => ?_, fun a ha hne => ?_⟩, fun x => ?_, good_put h.good ht⟩
  · rw [st] at hx
    split at hx
    · rename_i e
      have e2 : t = x := by simpa using hx
      subst e2
      rw [e]
      exact h.wh.at_ i (t.1, d) hi
    · exact h.wh.at_ k x hx
  · obtain ⟨x, hx, e⟩ := h.wh.of a ha hne
    rw [st]
    by_cases e2 : W a - 1 = i
    · rw [if_pos e2]
      rw [e2, hi] at hx
      have : (t.1, d) = x := by simpa using hx
      refine ⟨t, rfl, ?_⟩
      rw [← e, ← this]
    · rw [if_neg e2]
      exact ⟨x, hx, e⟩
  · rw [put_mem_old h.good ht (by omega), ← h.mem x, List.mem_iff_getElem?, List.mem_iff_getElem?]
    constructor
    · rintro ⟨k, hk⟩
      rw [st] at hk
      split at hk
      · exact .inl (by simpa using hk.symm)
      · rename_i e
        exact .inr ⟨⟨k, hk⟩, fun e2 => e (h.one hk hi e2)⟩
    · rintro (rfl | ⟨⟨k, hk⟩, hne⟩)
      · exact ⟨i, by rw [st, if_pos rfl]⟩
      · refine ⟨k, ?_⟩
        rw [st, if_neg (fun e => ?_)]
        · exact hk
        · subst e
          rw [hi] at hk
          have : (t.1, d) = x := by simpa using hk
          exact hne (by rw [← this])
theorem Ws.nodup (h : Ws l W L) : l.Nodup := List.pairwise_iff_getElem.2 (fun i j hi hj hij e => by
  have := h.one (List.getElem?_eq_getElem hi) (List.getElem?_eq_getElem hj) (by rw [e])
  omega)
theorem up_nd {n : Int} (h : ChunkW.up n L) : L.Nodup := (up_nodup h).imp (fun hab e => by rw [e] at hab; omega)
theorem nd_len : ∀ {l m : List Tick}, l.Nodup → (∀ q, q ∈ l → q ∈ m) → l.length ≤ m.length
  | [], m, _, _ => by simp
  | x :: r, m, h, hs => by
    have hx := hs x (by simp)
    have hr := List.nodup_cons.1 h
    have := nd_len (l := r) (m := m.erase x) hr.2 (fun q hq => by
      have hne : q ≠ x := fun e => hr.1 (e ▸ hq)
      exact (List.mem_erase_of_ne hne).2 (hs q (by simp [hq])))
    rw [List.length_erase_of_mem hx] at this
    have hpos := List.length_pos_of_mem hx
    simp only [List.length_cons]
    omega
theorem Ws.len (h : Ws l W L) : l.length = L.length := Nat.le_antisymm (nd_len h.nodup (fun q hq => (h.mem q).1 hq)) (nd_len (up_nd h.good.1) (fun q hq => (h.mem q).2 hq))
theorem up_len : ∀ {L : List Tick} {n : Int}, 0 ≤ n → n ≤ 4096 → ChunkW.up n L → (L.length : Int) ≤ 4096 - n
  | [], n, _, _, _ => by simp; omega
  | t :: r, n, h, h', hu => by
    obtain ⟨h1, h2, h3, h4⟩ := hu
    have := up_len (by omega) (by omega) h4
    simp only [List.length_cons]
    omega
theorem Good.len (h : Good L) : L.length ≤ 4096 := by
  have := up_len (by omega) (by omega) h.1
  omega
theorem Ws.few (h : Ws l W L) : l.length ≤ 4096 := by
  rw [h.len]
  exact h.good.len
theorem Ws.first (h : Ws l W L) (hh : Heap tl (gt l) l.length) (h0 : 0 < l.length) : gt l 0 = firstL L ∧ l[0]? = some (firstL L) := by
  have g0 := gt_some h0
  have e : firstL L = gt l 0 := first_one h.good ((h.mem _).1 (List.mem_of_getElem? g0)) (fun x hx => by
    obtain ⟨k, hk⟩ := List.mem_iff_getElem?.1 ((h.mem x).2 hx)
    have hlt := (List.getElem?_eq_some_iff.1 hk).1
    have := heap_first tl_ord tl_irr hh k hlt
    rw [gt_at hk] at this
    exact this)
  exact ⟨e.symm, by rw [e]; exact g0⟩
end
/-! ### What one does -/
/-- Take: the tick, is there one, what is left. -/
def takeB (L : List Tick) (now : Int) : Bool := decide (L ≠ []) && decide ((firstL L).2 ≤ now)
def takeT (L : List Tick) (now : Int) : List Tick := if takeB L now then delL (firstL L).1 L else L
def takeV (L : List Tick) (now : Int) : Tick := if takeB L now then firstL L else (0, 0)
theorem good_take {L : List Tick} {now : Int} (h : Good L) : Good (takeT L now) := by
  unfold takeT
  split
  · exact good_del h
  · exact h
/-- New: the error's number, and the ticks so far. -/
def makeL : List Tick → List Tick → Int × List Tick
  | L, [] => (0, L)
  | L, t :: r => if mayB t = false then (2, []) else if dueL t.1 L ≠ 0 then (6, []) else makeL (putL t.1 t.2 L) r
theorem good_make : ∀ {l L : List Tick}, Good L → Good (makeL L l).2
  | [], L, h => h
  | t :: r, L, h => by
    rw [makeL]
    split
    · exact good_nil
    · rename_i h1
      split
      · exact good_nil
      · exact good_make (good_put h (by simpa using h1))
def newL (l : List Tick) : Int × List Tick := if 4096 < l.length then (3, []) else makeL [] l
theorem good_new {l : List Tick} : Good (newL l).2 := by
  unfold newL
  split
  · exact good_nil
  · exact good_make good_nil
def putsT (l : List Tick) : List Tick := l.foldl putT []
theorem good_putsT : ∀ {l L : List Tick}, Good L → Good (l.foldl putT L)
  | [], L, h => h
  | t :: r, L, h => good_putsT (l := r) (good_putT h)
theorem good_puts (l : List Tick) : Good (putsT l) := good_putsT good_nil
end QueW
end Go.Proofs.Ytlhanbjendbhfaa
