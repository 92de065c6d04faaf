/-
  Ways through cells, plainly: which axis is crossed next, how far a way has come, where it leads; that the straight way touches each place; that a longer way begins with a shorter one; that a direction three times as long has the same.
-/
import Derived.Test.YtcmndfjoaoinjaaDoorPlaceWalks
namespace Go.Proofs.YtcmndfjoaoinjaaDoor
set_option linter.unusedVariables false
set_option linter.unusedSimpArgs false
namespace RayP
open PlaceW

/-- The sign and the size of a number of the direction. -/
def sgn (d : Int) : Int := if d < 0 then -1 else if d = 0 then 0 else 1
def sz (d : Int) : Int := if d < 0 then -d else d
/-- Three numbers, by axes in the order in which crossings that come together are told: X, Z, Y. -/
structure T3 where
  x : Int
  z : Int
  y : Int
/-- Does a crossing (2m + 1 over size s) come ahead of another one, which comes behind it in the order of axes? -/
def leA (m s m' s' : Int) : Bool := decide (s ≠ 0) && (decide (s' = 0) || decide ((2 * m + 1) * s' ≤ (2 * m' + 1) * s))
def ltA (m s m' s' : Int) : Bool := decide (s ≠ 0) && (decide (s' = 0) || decide ((2 * m + 1) * s' < (2 * m' + 1) * s))
/-- Which axis is crossed next (0 X, 1 Z, 2 Y), when m of each have been: of sizes s. -/
def nextA (s m : T3) : Nat :=
  if leA m.x s.x m.z s.z && leA m.x s.x m.y s.y then 0 else if ltA m.z s.z m.x s.x && leA m.z s.z m.y s.y then 1 else 2
def bump (m : T3) (a : Nat) : T3 := if a = 0 then ⟨m.x + 1, m.z, m.y⟩ else if a = 1 then ⟨m.x, m.z + 1, m.y⟩ else ⟨m.x, m.z, m.y + 1⟩
def szT (d : T3) : T3 := ⟨sz d.x, sz d.z, sz d.y⟩
def posA (p d m : T3) : T3 := ⟨p.x + sgn d.x * m.x, p.z + sgn d.z * m.z, p.y + sgn d.y * m.y⟩
def mayT (p : T3) : Bool := mayB p.x p.y p.z
def stepM (d m : T3) : T3 := bump m (nextA (szT d) m)
/-- The places that are told from m on, at most n. -/
def wayFrom (p d : T3) : Nat → T3 → List T3
  | 0, _ => []
  | n + 1, m => if mayT (posA p d (stepM d m)) = true then posA p d (stepM d m) :: wayFrom p d n (stepM d m) else []
def wayA (p d : T3) (n : Nat) : List T3 := wayFrom p d n ⟨0, 0, 0⟩

theorem sz_nonneg (d : Int) : 0 ≤ sz d := by
  unfold sz
  split <;> omega
theorem sz_zero {d : Int} : sz d = 0 ↔ d = 0 := by
  unfold sz
  split <;> omega
/-- Some number is not 0. -/
def Some3 (s : T3) : Prop := s.x ≠ 0 ∨ s.z ≠ 0 ∨ s.y ≠ 0
theorem mul_chain {A B C a b c : Int} (hA : 0 < A) (ha : 0 < a) (hC : 0 ≤ C) (hb : 0 ≤ b) (hB : 0 ≤ B) (hc : 0 ≤ c) (h1 : C * a ≤ A * c) (h2 : A * b ≤ B * a) : C * b ≤ B * c := by
  have h3 : (C * a) * (A * b) ≤ (A * c) * (B * a) := Int.mul_le_mul h1 h2 (Int.mul_nonneg (by omega) hb) (Int.mul_nonneg (by omega) hc)
  have e1 : (C * a) * (A * b) = (A * a) * (C * b) := by ac_rfl
  have e2 : (A * c) * (B * a) = (A * a) * (B * c) := by ac_rfl
  rw [e1, e2] at h3
  exact Int.le_of_mul_le_mul_left h3 (Int.mul_pos hA ha)
/-- Of the axis that is crossed next: it is one, and none comes ahead of it. -/
theorem next_spec {s m : T3} (hs : 0 ≤ s.x ∧ 0 ≤ s.z ∧ 0 ≤ s.y) (hm : 0 ≤ m.x ∧ 0 ≤ m.z ∧ 0 ≤ m.y) (h3 : Some3 s) :
    (nextA s m = 0 ∧ s.x ≠ 0 ∧ (2 * m.x + 1) * s.z ≤ (2 * m.z + 1) * s.x ∧ (2 * m.x + 1) * s.y ≤ (2 * m.y + 1) * s.x) ∨
    (nextA s m = 1 ∧ s.z ≠ 0 ∧ (2 * m.z + 1) * s.x ≤ (2 * m.x + 1) * s.z ∧ (2 * m.z + 1) * s.y ≤ (2 * m.y + 1) * s.z) ∨
    (nextA s m = 2 ∧ s.y ≠ 0 ∧ (2 * m.y + 1) * s.x ≤ (2 * m.x + 1) * s.y ∧ (2 * m.y + 1) * s.z ≤ (2 * m.z + 1) * s.y) := by
  obtain ⟨a, b, c⟩ := s
  obtain ⟨x, z, y⟩ := m
  obtain ⟨ha, hb, hc⟩ := hs
  obtain ⟨hx, hz, hy⟩ := hm
  simp only at ha hb hc hx hz hy ⊢
  have p1 : 0 ≤ (2 * x + 1) * a := Int.mul_nonneg (by omega) ha
  have p2 : 0 ≤ (2 * x + 1) * b := Int.mul_nonneg (by omega) hb
  have p3 : 0 ≤ (2 * x + 1) * c := Int.mul_nonneg (by omega) hc
  have p4 : 0 ≤ (2 * z + 1) * a := Int.mul_nonneg (by omega) ha
  have p5 : 0 ≤ (2 * z + 1) * b := Int.mul_nonneg (by omega) hb
  have p6 : 0 ≤ (2 * z + 1) * c := Int.mul_nonneg (by omega) hc
  have p7 : 0 ≤ (2 * y + 1) * a := Int.mul_nonneg (by omega) ha
  have p8 : 0 ≤ (2 * y + 1) * b := Int.mul_nonneg (by omega) hb
  have p9 : 0 ≤ (2 * y + 1) * c := Int.mul_nonneg (by omega) hc
  by_cases za : a = 0
  · subst za
    by_cases zb : b = 0
    · subst zb
      have hc0 : c ≠ 0 := by rcases h3 with h | h | h <;> first | exact absurd rfl h | exact h
      refine .inr (.inr ⟨?_, hc0, by (first | simpa using p1 | simpa using p2 | simpa using p3 | simpa using p4 | simpa using p5 | simpa using p6 | simpa using p7 | simpa using p8 | simpa using p9), by (first | simpa using p1 | simpa using p2 | simpa using p3 | simpa using p4 | simpa using p5 | simpa using p6 | simpa using p7 | simpa using p8 | simpa using p9)⟩)
      simp [nextA, leA, ltA]
    · by_cases zc : c = 0
      · subst zc
        refine .inr (.inl ⟨?_, zb, by (first | simpa using p1 | simpa using p2 | simpa using p3 | simpa using p4 | simpa using p5 | simpa using p6 | simpa using p7 | simpa using p8 | simpa using p9), by (first | simpa using p1 | simpa using p2 | simpa using p3 | simpa using p4 | simpa using p5 | simpa using p6 | simpa using p7 | simpa using p8 | simpa using p9)⟩)
        simp [nextA, leA, ltA, zb]
      · by_cases h : (2 * z + 1) * c ≤ (2 * y + 1) * b
        · refine .inr (.inl ⟨?_, zb, by (first | simpa using p1 | simpa using p2 | simpa using p3 | simpa using p4 | simpa using p5 | simpa using p6 | simpa using p7 | simpa using p8 | simpa using p9), h⟩)
          simp [nextA, leA, ltA, zb, h]
        · refine .inr (.inr ⟨?_, zc, by (first | simpa using p1 | simpa using p2 | simpa using p3 | simpa using p4 | simpa using p5 | simpa using p6 | simpa using p7 | simpa using p8 | simpa using p9), by omega⟩)
          simp [nextA, leA, ltA, zb, zc, h]
  · by_cases zb : b = 0
    · subst zb
      by_cases zc : c = 0
      · subst zc
        refine .inl ⟨?_, za, by (first | simpa using p1 | simpa using p2 | simpa using p3 | simpa using p4 | simpa using p5 | simpa using p6 | simpa using p7 | simpa using p8 | simpa using p9), by (first | simpa using p1 | simpa using p2 | simpa using p3 | simpa using p4 | simpa using p5 | simpa using p6 | simpa using p7 | simpa using p8 | simpa using p9)⟩
        simp [nextA, leA, ltA, za]
      · by_cases h : (2 * x + 1) * c ≤ (2 * y + 1) * a
        · refine .inl ⟨?_, za, by (first | simpa using p1 | simpa using p2 | simpa using p3 | simpa using p4 | simpa using p5 | simpa using p6 | simpa using p7 | simpa using p8 | simpa using p9), h⟩
          simp [nextA, leA, ltA, za, h]
        · refine .inr (.inr ⟨?_, zc, by omega, by (first | simpa using p1 | simpa using p2 | simpa using p3 | simpa using p4 | simpa using p5 | simpa using p6 | simpa using p7 | simpa using p8 | simpa using p9)⟩)
          simp [nextA, leA, ltA, za, zc, h]
    · by_cases zc : c = 0
      · subst zc
        by_cases h : (2 * x + 1) * b ≤ (2 * z + 1) * a
        · refine .inl ⟨?_, za, h, by (first | simpa using p1 | simpa using p2 | simpa using p3 | simpa using p4 | simpa using p5 | simpa using p6 | simpa using p7 | simpa using p8 | simpa using p9)⟩
          simp [nextA, leA, ltA, za, h]
        · refine .inr (.inl ⟨?_, zb, by omega, by (first | simpa using p1 | simpa using p2 | simpa using p3 | simpa using p4 | simpa using p5 | simpa using p6 | simpa using p7 | simpa using p8 | simpa using p9)⟩)
          have h' : (2 * z + 1) * a < (2 * x + 1) * b := by omega
          simp [nextA, leA, ltA, za, zb, h, h']
      · by_cases h : (2 * x + 1) * b ≤ (2 * z + 1) * a
        · by_cases h2 : (2 * x + 1) * c ≤ (2 * y + 1) * a
          · refine .inl ⟨?_, za, h, h2⟩
            simp [nextA, leA, ltA, za, h, h2]
          · have h' : ¬ (2 * z + 1) * a < (2 * x + 1) * b := by omega
            refine .inr (.inr ⟨?_, zc, by omega, ?_⟩)
            · simp [nextA, leA, ltA, za, zb, zc, h, h2, h']
            · have e1 : (2 * y + 1) * a ≤ (2 * x + 1) * c := by omega
              exact mul_chain (A := 2 * x + 1) (a := a) (by omega) (by omega) (by omega) hb (by omega) hc e1 h
        · have h' : (2 * z + 1) * a < (2 * x + 1) * b := by omega
          by_cases h2 : (2 * z + 1) * c ≤ (2 * y + 1) * b
          · refine .inr (.inl ⟨?_, zb, by omega, h2⟩)
            simp [nextA, leA, ltA, za, zb, zc, h, h2, h']
          · refine .inr (.inr ⟨?_, zc, ?_, by omega⟩)
            · simp [nextA, leA, ltA, za, zb, zc, h, h2, h']
            · have e1 : (2 * y + 1) * b ≤ (2 * z + 1) * c := by omega
              exact mul_chain (A := 2 * z + 1) (a := b) (by omega) (by omega) (by omega) ha (by omega) hc e1 (by omega)
/-- A way that has crossed m times touches the place where it is, and has come nowhere along an axis of 0. -/
structure Touch (s m : T3) : Prop where
  pos : 0 ≤ m.x ∧ 0 ≤ m.z ∧ 0 ≤ m.y
  none : (s.x = 0 → m.x = 0) ∧ (s.z = 0 → m.z = 0) ∧ (s.y = 0 → m.y = 0)
  xz : (2 * m.x - 1) * s.z ≤ (2 * m.z + 1) * s.x
  xy : (2 * m.x - 1) * s.y ≤ (2 * m.y + 1) * s.x
  zx : (2 * m.z - 1) * s.x ≤ (2 * m.x + 1) * s.z
  zy : (2 * m.z - 1) * s.y ≤ (2 * m.y + 1) * s.z
  yx : (2 * m.y - 1) * s.x ≤ (2 * m.x + 1) * s.y
  yz : (2 * m.y - 1) * s.z ≤ (2 * m.z + 1) * s.y
theorem touch_zero {s : T3} (hs : 0 ≤ s.x ∧ 0 ≤ s.z ∧ 0 ≤ s.y) : Touch s ⟨0, 0, 0⟩ := by
  obtain ⟨ha, hb, hc⟩ := hs
  exact ⟨⟨by simp, by simp, by simp⟩, ⟨fun _ => rfl, fun _ => rfl, fun _ => rfl⟩, by simp; omega, by simp; omega, by simp; omega, by simp; omega, by simp; omega, by simp; omega⟩
/-- More of the other one keeps it. -/
theorem more {k a b s : Int} (hs : 0 ≤ s) (h : a ≤ (2 * k + 1) * s) : a ≤ (2 * (k + 1) + 1) * s := by
  have e : (2 * (k + 1) + 1) * s = (2 * k + 1) * s + 2 * s := by
    rw [show 2 * (k + 1) + 1 = (2 * k + 1) + 2 by omega, Int.add_mul]
  omega
theorem one_more {k s b : Int} (h : (2 * k + 1) * s ≤ b) : (2 * (k + 1) - 1) * s ≤ b := by
  rwa [show 2 * (k + 1) - 1 = 2 * k + 1 by omega]
theorem touch_bump {s m : T3} (hs : 0 ≤ s.x ∧ 0 ≤ s.z ∧ 0 ≤ s.y) (h3 : Some3 s) (h : Touch s m) : Touch s (bump m (nextA s m)) := by
  obtain ⟨hp, hn, t1, t2, t3, t4, t5, t6⟩ := h
  obtain ⟨ha, hb, hc⟩ := hs
  rcases next_spec ⟨ha, hb, hc⟩ hp h3 with ⟨e, h0, g1, g2⟩ | ⟨e, h0, g1, g2⟩ | ⟨e, h0, g1, g2⟩
  · rw [e]
    exact ⟨⟨by show 0 ≤ m.x + 1; omega, hp.2.1, hp.2.2⟩, ⟨fun q => absurd q h0, hn.2.1, hn.2.2⟩, one_more g1, one_more g2, more (b := 0) hb t3, t4, more (b := 0) hc t5, t6⟩
  · rw [e]
    exact ⟨⟨hp.1, by show 0 ≤ m.z + 1; omega, hp.2.2⟩, ⟨hn.1, fun q => absurd q h0, hn.2.2⟩, more (b := 0) ha t1, t2, one_more g1, one_more g2, t5, more (b := 0) hc t6⟩
  · rw [e]
    exact ⟨⟨hp.1, hp.2.1, by show 0 ≤ m.y + 1; omega⟩, ⟨hn.1, hn.2.1, fun q => absurd q h0⟩, t1, more (b := 0) ha t2, t3, more (b := 0) hb t4, one_more g1, one_more g2⟩
/-- How often each axis is crossed behind i crossings. -/
def mAt (d : T3) : Nat → T3
  | 0 => ⟨0, 0, 0⟩
  | i + 1 => stepM d (mAt d i)
theorem szT_nonneg (d : T3) : 0 ≤ (szT d).x ∧ 0 ≤ (szT d).z ∧ 0 ≤ (szT d).y := ⟨sz_nonneg _, sz_nonneg _, sz_nonneg _⟩
theorem touch_at {d : T3} (h3 : Some3 (szT d)) : ∀ i, Touch (szT d) (mAt d i)
  | 0 => touch_zero (szT_nonneg d)
  | i + 1 => touch_bump (szT_nonneg d) h3 (touch_at h3 i)
theorem stepM_at (d : T3) (i : Nat) : mAt d (i + 1) = stepM d (mAt d i) := rfl
theorem way_step (p d : T3) (n i : Nat) : wayFrom p d (n + 1) (mAt d i) = if mayT (posA p d (mAt d (i + 1))) = true then posA p d (mAt d (i + 1)) :: wayFrom p d n (mAt d (i + 1)) else [] := rfl
theorem way_get {p d : T3} : ∀ {n k i : Nat} {q : T3}, (wayFrom p d n (mAt d k))[i]? = some q → q = posA p d (mAt d (k + i + 1)) ∧ mayT q = true
  | 0, k, i, q, h => by simp [wayFrom] at h
  | n + 1, k, i, q, h => by
    rw [way_step] at h
    split at h
    · rename_i hm
      cases i with
      | zero =>
        have : posA p d (mAt d (k + 1)) = q := by simpa using h
        subst this
        exact ⟨rfl, hm⟩
      | succ i =>
        have := way_get (n := n) (k := k + 1) (i := i) (q := q) (by simpa using h)
        rw [show k + 1 + i + 1 = k + (i + 1) + 1 by omega] at this
        exact this
    · simp at h
theorem way_len {p d : T3} : ∀ (n : Nat) (m : T3), (wayFrom p d n m).length ≤ n
  | 0, m => by simp [wayFrom]
  | n + 1, m => by
    rw [wayFrom]
    split
    · have := way_len (p := p) (d := d) n (stepM d m)
      simp
      omega
    · simp
/-- A longer way begins with a shorter one. -/
theorem way_take {p d : T3} : ∀ {n N : Nat} (m : T3), n ≤ N → wayFrom p d n m = (wayFrom p d N m).take n
  | 0, N, m, _ => by simp [wayFrom]
  | n + 1, 0, m, h => by omega
  | n + 1, N + 1, m, h => by
    rw [wayFrom, wayFrom]
    split
    · rw [List.take_succ_cons, way_take (n := n) (N := N) _ (by omega)]
    · simp
/-- What ends at the world's edge ends there however long it is. -/
theorem way_end {p d : T3} : ∀ {n N : Nat} (m : T3), n ≤ N → (wayFrom p d n m).length < n → wayFrom p d N m = wayFrom p d n m
  | 0, N, m, _, h => by omega
  | n + 1, 0, m, h, _ => by omega
  | n + 1, N + 1, m, h, hl => by
    rw [wayFrom] at hl ⊢
    rw [wayFrom]
    split at hl
    · rename_i hm
      rw [if_pos hm, if_pos hm, way_end (n := n) (N := N) _ (by omega) (by simpa using hl)]
    · rename_i hm
      rw [if_neg hm, if_neg hm]
theorem le3 (a b : Int) : decide (3 * a ≤ 3 * b) = decide (a ≤ b) := by
  rw [decide_eq_decide]
  omega
theorem lt3 (a b : Int) : decide (3 * a < 3 * b) = decide (a < b) := by
  rw [decide_eq_decide]
  omega
def tri (d : T3) : T3 := ⟨3 * d.x, 3 * d.z, 3 * d.y⟩
theorem ne3 (s : Int) : decide (3 * s ≠ 0) = decide (s ≠ 0) := by
  rw [decide_eq_decide]
  omega
theorem eq3 (s : Int) : decide (3 * s = 0) = decide (s = 0) := by
  rw [decide_eq_decide]
  omega
theorem mul3 (k s : Int) : k * (3 * s) = 3 * (k * s) := by ac_rfl
theorem leA3 (m s m' s' : Int) : leA m (3 * s) m' (3 * s') = leA m s m' s' := by
  unfold leA
  rw [mul3, mul3, le3, ne3, eq3]
theorem ltA3 (m s m' s' : Int) : ltA m (3 * s) m' (3 * s') = ltA m s m' s' := by
  unfold ltA
  rw [mul3, mul3, lt3, ne3, eq3]
theorem next3 (s m : T3) : nextA (tri s) m = nextA s m := by
  unfold nextA tri
  simp only [leA3, ltA3]
theorem sz3 (d : Int) : sz (3 * d) = 3 * sz d := by
  unfold sz
  split <;> split <;> omega
theorem sgn3 (d : Int) : sgn (3 * d) = sgn d := by
  unfold sgn
  split <;> split <;> (try split) <;> (try split) <;> first | rfl | omega
theorem szT3 (d : T3) : szT (tri d) = tri (szT d) := by
  unfold szT tri
  simp only [sz3]
theorem step3 (d m : T3) : stepM (tri d) m = stepM d m := by
  unfold stepM
  rw [szT3, next3]
theorem pos3 (p d m : T3) : posA p (tri d) m = posA p d m := by
  unfold posA tri
  simp only [sgn3]
/-- A direction three times as long has the same way. -/
theorem way3 (p d : T3) : ∀ (n : Nat) (m : T3), wayFrom p (tri d) n m = wayFrom p d n m
  | 0, _ => rfl
  | n + 1, m => by rw [wayFrom, wayFrom, step3, pos3, way3 p d n]
theorem pos_zero (p d : T3) : posA p d ⟨0, 0, 0⟩ = p := by simp [posA]
/-- A step goes along one axis, by its sign, which is not 0. -/
theorem step_one {p d m : T3} (hm : 0 ≤ m.x ∧ 0 ≤ m.z ∧ 0 ≤ m.y) (h3 : Some3 (szT d)) :
    (d.x ≠ 0 ∧ posA p d (stepM d m) = ⟨(posA p d m).x + sgn d.x, (posA p d m).z, (posA p d m).y⟩) ∨ (d.z ≠ 0 ∧ posA p d (stepM d m) = ⟨(posA p d m).x, (posA p d m).z + sgn d.z, (posA p d m).y⟩) ∨ (d.y ≠ 0 ∧ posA p d (stepM d m) = ⟨(posA p d m).x, (posA p d m).z, (posA p d m).y + sgn d.y⟩) := by
  have key : ∀ a b c : Int, a + b * (c + 1) = a + b * c + b := fun a b c => by rw [Int.mul_add, Int.mul_one]; omega
  rcases next_spec (szT_nonneg d) hm h3 with ⟨e, h0, _⟩ | ⟨e, h0, _⟩ | ⟨e, h0, _⟩
  · refine .inl ⟨fun q => h0 (sz_zero.2 q), ?_⟩
    rw [stepM, e]
    simp only [bump, posA, if_true, key]
  · refine .inr (.inl ⟨fun q => h0 (sz_zero.2 q), ?_⟩)
    rw [stepM, e]
    simp only [bump, posA, key, Nat.one_ne_zero, if_false, if_true]
  · refine .inr (.inr ⟨fun q => h0 (sz_zero.2 q), ?_⟩)
    rw [stepM, e]
    simp [bump, posA, key]
/-- The numbers of axis a. -/
def nA (s : T3) (a : Nat) : Int := if a = 0 then s.x else if a = 1 then s.z else s.y
/-- The best of the first k axes, by going over them: -1, if none is crossed. -/
def scan (s m : T3) : Nat → Int
  | 0 => -1
  | k + 1 => if nA s k ≠ 0 ∧ (scan s m k < 0 ∨ (2 * nA m k + 1) * nA s (scan s m k).toNat < (2 * nA m (scan s m k).toNat + 1) * nA s k) then (k : Int) else scan s m k
theorem scan_next {s m : T3} (hs : 0 ≤ s.x ∧ 0 ≤ s.z ∧ 0 ≤ s.y) (hm : 0 ≤ m.x ∧ 0 ≤ m.z ∧ 0 ≤ m.y) (h3 : Some3 s) : scan s m 3 = (nextA s m : Int) := by
  obtain ⟨a, b, c⟩ := s
  obtain ⟨x, z, y⟩ := m
  obtain ⟨ha, hb, hc⟩ := hs
  obtain ⟨hx, hz, hy⟩ := hm
  simp only at ha hb hc hx hz hy
  have s1 : scan ⟨a, b, c⟩ ⟨x, z, y⟩ 1 = if a ≠ 0 then 0 else -1 := by simp [scan, nA]
  have s2 : scan ⟨a, b, c⟩ ⟨x, z, y⟩ 2 = if b ≠ 0 ∧ (a = 0 ∨ (2 * z + 1) * a < (2 * x + 1) * b) then 1 else if a ≠ 0 then 0 else -1 := by
    rw [show (2 : Nat) = 1 + 1 from rfl, scan, s1]
    by_cases za : a = 0 <;> simp [nA, za]
  have s3 : scan ⟨a, b, c⟩ ⟨x, z, y⟩ 3 = if b ≠ 0 ∧ (a = 0 ∨ (2 * z + 1) * a < (2 * x + 1) * b) then (if c ≠ 0 ∧ (2 * y + 1) * b < (2 * z + 1) * c then 2 else 1) else if a ≠ 0 then (if c ≠ 0 ∧ (2 * y + 1) * a < (2 * x + 1) * c then 2 else 0) else if c ≠ 0 then 2 else -1 := by
    rw [show (3 : Nat) = 2 + 1 from rfl, scan, s2]
    by_cases h : b ≠ 0 ∧ (a = 0 ∨ (2 * z + 1) * a < (2 * x + 1) * b)
    · rw [if_pos h, if_pos h]
      simp [nA]
    · rw [if_neg h, if_neg h]
      by_cases za : a = 0 <;> simp [nA, za]
  rw [s3]
  have p1 : 0 ≤ (2 * x + 1) * a := Int.mul_nonneg (by omega) ha
  have p2 : 0 ≤ (2 * x + 1) * b := Int.mul_nonneg (by omega) hb
  have p3 : 0 ≤ (2 * x + 1) * c := Int.mul_nonneg (by omega) hc
  have p4 : 0 ≤ (2 * z + 1) * a := Int.mul_nonneg (by omega) ha
  have p6 : 0 ≤ (2 * z + 1) * c := Int.mul_nonneg (by omega) hc
  have p7 : 0 ≤ (2 * y + 1) * a := Int.mul_nonneg (by omega) ha
  have p8 : 0 ≤ (2 * y + 1) * b := Int.mul_nonneg (by omega) hb
  by_cases za : a = 0
  · by_cases zb : b = 0
    · have hc0 : c ≠ 0 := by rcases h3 with h | h | h <;> first | exact absurd za h | exact absurd zb h | exact h
      simp [za, zb, hc0, nextA, leA, ltA]
    · by_cases zc : c = 0
      · simp [za, zb, zc, nextA, leA, ltA]
      · by_cases h : (2 * y + 1) * b < (2 * z + 1) * c
        · have h' : ¬ (2 * z + 1) * c ≤ (2 * y + 1) * b := by omega
          simp [za, zb, zc, nextA, leA, ltA, h, h']
        · have h' : (2 * z + 1) * c ≤ (2 * y + 1) * b := by omega
          simp [za, zb, zc, nextA, leA, ltA, h, h']
  · by_cases hb1 : b ≠ 0 ∧ (2 * z + 1) * a < (2 * x + 1) * b
    · obtain ⟨zb, hzx⟩ := hb1
      have e0 : ¬ (2 * x + 1) * b ≤ (2 * z + 1) * a := by omega
      by_cases zc : c = 0
      · have q : ¬ (2 * y + 1) * b < 0 := by omega
        simp [za, zb, zc, nextA, leA, ltA, hzx, e0]
      · by_cases h : (2 * y + 1) * b < (2 * z + 1) * c
        · have h' : ¬ (2 * z + 1) * c ≤ (2 * y + 1) * b := by omega
          simp [za, zb, zc, nextA, leA, ltA, hzx, e0, h, h']
        · have h' : (2 * z + 1) * c ≤ (2 * y + 1) * b := by omega
          simp [za, zb, zc, nextA, leA, ltA, hzx, e0, h, h']
    · have hxz : b = 0 ∨ (2 * x + 1) * b ≤ (2 * z + 1) * a := by
        by_cases zb : b = 0
        · exact .inl zb
        · exact .inr (by have : ¬ (2 * z + 1) * a < (2 * x + 1) * b := fun q => hb1 ⟨zb, q⟩; omega)
      have hno : ¬ (b ≠ 0 ∧ (a = 0 ∨ (2 * z + 1) * a < (2 * x + 1) * b)) := fun q => hb1 ⟨q.1, q.2.resolve_left za⟩
      have l1 : leA x a z b = true := by rcases hxz with h | h <;> simp [leA, za, h]
      have l2 : ltA z b x a = false := by
        rcases hxz with h | h
        · simp [ltA, h]
        · have : ¬ (2 * z + 1) * a < (2 * x + 1) * b := by omega
          simp [ltA, za, this]
      rw [if_neg hno, if_pos za, nextA]
      simp only [l1, l2, Bool.true_and, Bool.false_and]
      by_cases zc : c = 0
      · simp [zc, leA, za]
      · by_cases h : (2 * y + 1) * a < (2 * x + 1) * c
        · have h' : ¬ (2 * x + 1) * c ≤ (2 * y + 1) * a := by omega
          simp [zc, leA, za, h, h']
        · have h' : (2 * x + 1) * c ≤ (2 * y + 1) * a := by omega
          simp [zc, leA, za, h, h']
end RayP
end Go.Proofs.YtcmndfjoaoinjaaDoor
