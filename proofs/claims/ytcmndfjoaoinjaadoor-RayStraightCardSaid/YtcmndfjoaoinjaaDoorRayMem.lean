/-
  Rows of places; what a way's call holds in memory.
-/
import Derived.Test.YtcmndfjoaoinjaaDoorRayFirst
import Derived.Maps.AppendAt
import Derived.OwnWalk
namespace Go.Proofs.YtcmndfjoaoinjaaDoor
open Go.RowKit
set_option linter.unusedVariables false
set_option linter.unusedSimpArgs false
namespace RayP
open PlaceW BlkP
/-- A place's cells. -/
def cellsT (p : T3) : List Value := [.int .i64 p.x, .int .i64 p.y, .int .i64 p.z]
def cellsL (xs : List T3) : List Value := xs.flatMap cellsT
theorem cellsL_snoc (xs : List T3) (p : T3) : cellsL (xs ++ [p]) = cellsL xs ++ cellsT p := by simp [cellsL]
theorem cellsL_length (xs : List T3) : (cellsL xs).length = xs.length * 3 := by
  induction xs with
  | nil => rfl
  | cons x xs ih =>
    have : cellsL (x :: xs) = cellsT x ++ cellsL xs := rfl
    rw [this, List.length_append, ih]
    simp [cellsT]
    omega
theorem cellsL_get : ∀ {xs : List T3} {i : Nat} {p : T3}, xs[i]? = some p → (cellsL xs)[i * 3]? = some (.int .i64 p.x) ∧ (cellsL xs)[i * 3 + 1]? = some (.int .i64 p.y) ∧ (cellsL xs)[i * 3 + 2]? = some (.int .i64 p.z)
  | x :: r, 0, p, h => by
    have : x = p := by simpa using h
    subst this
    exact ⟨rfl, rfl, rfl⟩
  | x :: r, i + 1, p, h => by
    have := cellsL_get (xs := r) (i := i) (p := p) (by simpa using h)
    have e : cellsL (x :: r) = .int .i64 x.x :: .int .i64 x.y :: .int .i64 x.z :: cellsL r := rfl
    rw [e, show (i + 1) * 3 = i * 3 + 3 by omega, show i * 3 + 3 + 1 = (i * 3 + 1) + 3 by omega, show i * 3 + 3 + 2 = (i * 3 + 2) + 3 by omega]
    simpa using this
theorem infoPlace : (Tryd.prog.info? 23).map (fun i => (i.zero, i.size, i.bytes)) = some (some (.agg #[.int .i64 0, .int .i64 0, .int .i64 0]), 3, 24) := by kernel_rfl
/-- A row of places of the call's own. -/
def OwnL (w : World) (B : Nat) (v : Value) (l : List T3) : Prop := w.ownsRow B 23 3 v l.length (cellsL l)
theorem OwnL.below {w w' : World} {B : Nat} {v : Value} {l : List T3} (h : OwnL w B v l) (hb : Below w.heap.size w w') : OwnL w' B v l := by
  unfold OwnL at h ⊢
  exact h.kept (row := none) ⟨hb.os, hb.tape, hb.output, hb.size, fun k hk _ => hb.block k hk⟩ (by cases h' : v.ownBlock <;> simp)
theorem OwnL.grown {w w' : World} {B : Nat} {v : Value} {l : List T3} {r : Nat} (h : OwnL w B v l) (hg : w.grownBy w' (some r)) (hne : v.ownBlock ≠ some r) : OwnL w' B v l := by
  unfold OwnL at h ⊢
  exact h.kept hg (.inr hne)
theorem OwnL.alloc {w : World} {B : Nat} {v : Value} {l : List T3} (h : OwnL w B v l) (o : Obj) : OwnL (w.alloc o) B v l := World.ownsRow.alloc h o
theorem OwnL.drew {w : World} {B : Nat} {v : Value} {l : List T3} (h : OwnL w B v l) : OwnL w.drew B v l := h
theorem OwnL.set {w : World} {B : Nat} {v x : Value} {l : List T3} {a : Addr} (h : OwnL w B v l) (hlt : a.block < B) : OwnL (w.setCell a x) B v l := by
  unfold OwnL at h ⊢
  refine ⟨h.1, ?_⟩
  rcases h.2 with h1 | ⟨g, cap, cur, h2, h3, h4, h5⟩
  · exact .inl h1
  · exact .inr ⟨g, cap, cur, h2, h3, (heap_setCell_other w a g x (by omega)).trans h4, h5⟩
theorem OwnL.mono {w : World} {B B' : Nat} {v : Value} {l : List T3} (h : OwnL w B v l) (hB : B' ≤ B) : OwnL w B' v l := by
  unfold OwnL at h ⊢
  refine ⟨h.1, ?_⟩
  rcases h.2 with h1 | ⟨g, cap, cur, h2, h3, h4⟩
  · exact .inl h1
  · exact .inr ⟨g, cap, cur, h2, Nat.le_trans hB h3, h4⟩
theorem OwnL.form {w : World} {B : Nat} {v : Value} {l : List T3} (h : OwnL w B v l) : ∃ A c, v = .slice A l.length c ∧ l.length ≤ c := by
  unfold OwnL at h
  rcases h.2 with ⟨rfl, hn⟩ | ⟨g, cap, cur, rfl, _, hg, hn, hc, hs, ht⟩
  · exact ⟨none, 0, by rw [hn], by omega⟩
  · exact ⟨_, cap, rfl, hn⟩
/-- Its cells. -/
theorem OwnL.cells {w : World} {B : Nat} {v : Value} {l : List T3} (h : OwnL w B v l) : ∃ A c, v = .slice A l.length c ∧ l.length ≤ c ∧ c ≤ maxLen ∧ (l ≠ [] → ∃ g, A = some ⟨g, 0, none⟩ ∧ B ≤ g ∧ g < w.heap.size ∧
    ∀ i p, l[i]? = some p → (w.cell? ⟨g, i * 3, none⟩ = some (.int .i64 p.x) ∧ w.cell? ⟨g, i * 3 + 1, none⟩ = some (.int .i64 p.y) ∧ w.cell? ⟨g, i * 3 + 2, none⟩ = some (.int .i64 p.z)) ∧ ∀ o, w.frozen? ⟨g, o, none⟩ = false) := by
  unfold OwnL at h
  have hlt := World.ownsRow.lt h
  rcases h.2 with ⟨rfl, hn⟩ | ⟨g, cap, cur, rfl, hB, hg, hn, hc, hs, ht⟩
  · exact ⟨none, 0, by rw [hn], by omega, by simp [maxLen], fun hne => absurd (List.eq_nil_of_length_eq_zero hn) hne⟩
  · refine ⟨_, cap, rfl, hn, hc, fun _ => ⟨g, rfl, hB, (hlt g rfl).2, fun i p hp => ⟨?_, fun o => frozen_of_row w g o _ _ hg⟩⟩⟩
    have hi := (List.getElem?_eq_some_iff.1 hp).1
    obtain ⟨h1, h2, h3⟩ := cellsL_get hp
    rw [← ht, List.getElem?_take] at h1 h2 h3
    rw [cell_of_row w g _ _ _ _ hg, cell_of_row w g _ _ _ _ hg, cell_of_row w g _ _ _ _ hg, ← Array.getElem?_toList, ← Array.getElem?_toList, ← Array.getElem?_toList]
    refine ⟨?_, ?_, ?_⟩
    · split at h1
      · exact h1
      · cases h1
    · split at h2
      · exact h2
      · cases h2
    · split at h3
      · exact h3
      · cases h3
theorem ownBlock_ge {W : World} {base n size : Nat} {t : TypeId} {v : Value} {xs : List Value} (h : W.ownsRow base t size v n xs) : ∀ g, v.ownBlock = some g → base ≤ g := fun g hg => (World.ownsRow.lt h g hg).1
/-- The three crossings, as they lie in memory. -/
def crAll (d m : T3) : List Value := [.int .i64 (od m 0), .int .i64 (nA (szT d) 0), .int .i64 (dirA d 0), .int .i64 (od m 1), .int .i64 (nA (szT d) 1), .int .i64 (dirA d 1), .int .i64 (od m 2), .int .i64 (nA (szT d) 2), .int .i64 (dirA d 2)]
theorem crAll_bump (d m : T3) {k : Nat} (hk : k < 3) : (crAll d m).set (k * 3) (.int .i64 (od m k + 2)) = crAll d (bump m k) := by
  have e : ∀ j, j < 3 → od (bump m k) j = if j = k then od m j + 2 else od m j := fun j hj => by
    unfold od
    rw [nA_bump m k j hk hj]
    split <;> omega
  have e0 := e 0 (by omega)
  have e1 := e 1 (by omega)
  have e2 := e 2 (by omega)
  match k, hk with
  | 0, _ => simp [crAll, e0, e1, e2]
  | 1, _ => simp [crAll, e0, e1, e2]
  | 2, _ => simp [crAll, e0, e1, e2]
theorem crAll_get (d m : T3) {k : Nat} (hk : k < 3) : (crAll d m)[k * 3]? = some (.int .i64 (od m k)) := by
  match k, hk with
  | 0, _ => rfl
  | 1, _ => rfl
  | 2, _ => rfl
/-- What holds at the head of a round: i crossings have been told. -/
structure WayR (p d : T3) (n : Nat) (w0 : World) (B bA bN i : Nat) (v : Value) (wr : World) : Prop where
  le : i ≤ n
  all : AllM p d i
  own : OwnL wr B v (lst p d i)
  at_ : Blk wr bA 23 (cellsT (posA p d (mAt d i)))
  next : Blk wr bN 43 (crAll d (mAt d i))
  below : Below w0.heap.size w0 wr
  big : B ≤ wr.heap.size
/-- What Way leaves: a row of its own. -/
def WayP (l : List T3) (w0 : World) (e : Ending) (w' : World) : Prop := ∃ v, e = .returned (.tuple #[v, .int .i64 0]) ∧ OwnL w' w0.heap.size v l ∧ Below w0.heap.size w0 w'
theorem OwnL.form' {w : World} {B n : Nat} {v : Value} {l : List T3} (h : OwnL w B v l) (hl : l.length = n) : ∃ A c, v = .slice A n c ∧ n ≤ c := by
  subst hl
  exact h.form
theorem OwnL.nil (w : World) (B : Nat) : OwnL w B (.slice none 0 0) [] := World.ownsRow_nil w B _ 3
theorem OwnL.old {w : World} {B : Nat} {v : Value} {l : List T3} (h : OwnL w B v l) : v.ownBlock ≠ some w.heap.size := fun e => by
  have := (World.ownsRow.lt h _ e).2
  omega
theorem may_at {p d : T3} {i : Nat} (hp : mayT p = true) (ha : AllM p d i) : mayT (posA p d (mAt d i)) = true := by
  cases i with
  | zero =>
    rw [show mAt d 0 = ⟨0, 0, 0⟩ from rfl, pos_zero]
    exact hp
  | succ i => exact ha i (by omega)
/-- An axis that comes together is what is crossed next. -/
theorem bump_at {d : T3} (h3 : Some3 (szT d)) {i k ii : Nat} (hk : k < 3) (ht : tog (szT d) (mAt d i) k = true) (hii : i + cntK (szT d) (mAt d i) k = ii) : bump (mAt d ii) k = mAt d (ii + 1) := by
  subst hii
  have e := stepK_at h3 i (k := k) (by omega)
  have hn := next_tog (szT_nonneg d) (pos_at d i) h3 hk ht
  rw [stepM_at, stepM, ← e, hn]
theorem cnt_yes {s m : T3} {k : Nat} (h : tog s m k = true) : cntK s m (k + 1) = cntK s m k + 1 := by
  show (if tog s m k = true then cntK s m k + 1 else cntK s m k) = _
  rw [if_pos h]
theorem cnt_no {s m : T3} {k : Nat} (h : tog s m k = false) : cntK s m (k + 1) = cntK s m k := by
  show (if tog s m k = true then cntK s m k + 1 else cntK s m k) = _
  rw [if_neg (by rw [h]; simp)]
theorem WayR.keep {p d : T3} {n : Nat} {w0 w w' : World} {B bA bN i : Nat} {v : Value} (h : WayR p d n w0 B bA bN i v w) (hb : Below w.heap.size w w') : WayR p d n w0 B bA bN i v w' :=
  ⟨h.le, h.all, h.own.below hb, h.at_.below hb, h.next.below hb, h.below.trans (hb.mono h.below.size), Nat.le_trans h.big hb.size⟩
/-- What a way ends with. -/
theorem WayR.done {p d : T3} {n : Nat} {w0 w w' : World} {B bA bN i : Nat} {v : Value} (h : WayR p d n w0 B bA bN i v w) (hb : Below w.heap.size w w') (hB : w0.heap.size ≤ B) (he : i = n ∨ mayT (posA p d (mAt d (i + 1))) = false) : WayP (wayA p d n) w0 (.returned (.tuple #[v, .int .i64 0])) w' := by
  rw [way_is h.le h.all he]
  exact ⟨v, rfl, (h.own.below hb).mono hB, h.below.trans (hb.mono h.below.size)⟩
theorem prod_le {a b : Int} (ha : 0 ≤ a) (ha2 : a ≤ 700) (hb : 0 ≤ b) (hb2 : b ≤ 1000) : 0 ≤ a * b ∧ a * b ≤ 100000000 :=
  ⟨Int.mul_nonneg ha hb, Int.le_trans (Int.mul_le_mul ha2 hb2 hb (by omega)) (by omega)⟩
theorem sz_cases (d : Int) : (0 ≤ d ∧ sz d = d) ∨ (d < 0 ∧ sz d = -d) := by
  unfold sz
  by_cases h : d < 0
  · exact .inr ⟨h, if_pos h⟩
  · exact .inl ⟨by omega, if_neg h⟩
theorem dir_some {d : T3} (hd : dirB d.x d.y d.z = true) : Some3 (szT d) := by
  unfold Some3 szT
  simp only [ne_eq, sz_zero]
  by_cases h : d.x = 0
  · by_cases h2 : d.z = 0
    · refine .inr (.inr fun h3 => ?_)
      simp [dirB, h, h2, h3] at hd
    · exact .inr (.inl h2)
  · exact .inl h
theorem dir_size {d : T3} (hd : dirB d.x d.y d.z = true) (k : Nat) : nA (szT d) k ≤ 1000 := by
  have hx : inD d.x = true := by cases h : inD d.x <;> simp [dirB, h] at hd ⊢
  have hy : inD d.y = true := by cases h : inD d.y <;> simp [dirB, h] at hd ⊢
  have hz : inD d.z = true := by cases h : inD d.z <;> simp [dirB, h] at hd ⊢
  have a := inD_true hx
  have b := inD_true hy
  have c := inD_true hz
  rw [nA_sz]
  have key : ∀ e : Int, -1000 ≤ e → e ≤ 1000 → sz e ≤ 1000 := fun e h1 h2 => by rcases sz_cases e with ⟨_, h⟩ | ⟨_, h⟩ <;> omega
  unfold nA
  split
  · exact key _ a.1 a.2
  · split
    · exact key _ c.1 c.2
    · exact key _ b.1 b.2
/-- Behind i crossings no axis has been crossed more often. -/
theorem at_le (d : T3) : ∀ (i k : Nat), nA (mAt d i) k ≤ i
  | 0, k => by
    unfold nA mAt
    split
    · simp
    · split <;> simp
  | i + 1, k => by
    have h0 := at_le d i 0
    have h1 := at_le d i 1
    have h2 := at_le d i 2
    simp [nA] at h0 h1 h2
    rw [stepM_at, stepM]
    unfold bump nA
    repeat' split
    all_goals simp
    all_goals omega
end RayP
end Go.Proofs.YtcmndfjoaoinjaaDoor
