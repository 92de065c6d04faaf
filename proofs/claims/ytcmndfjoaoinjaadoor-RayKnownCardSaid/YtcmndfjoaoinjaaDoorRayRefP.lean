/-
  The reference's rows of crossings: what they hold, and what is left of them.
-/
import Derived.Test.YtcmndfjoaoinjaaDoorRayAlong
namespace Go.Proofs.YtcmndfjoaoinjaaDoor
open Go.RowKit
set_option linter.unusedVariables false
set_option linter.unusedSimpArgs false
namespace RayP
open PlaceW BlkP
/-- A slice of crossings: its first one is that of the axis behind m of them. -/
def RowK (w : World) (bR : Nat) (A : Option Addr) (N : Nat) (k b s m : Int) : Prop :=
  0 < N → ∃ g o, A = some ⟨g, o, none⟩ ∧ g < bR ∧ ∀ i : Nat, i < N → w.cell? ⟨g, o + i * 4, none⟩ = some (.int .i64 k) ∧ w.cell? ⟨g, o + i * 4 + 1, none⟩ = some (.int .i64 b) ∧ w.cell? ⟨g, o + i * 4 + 2, none⟩ = some (.int .i64 (2 * (m + (i : Int)) + 1)) ∧ w.cell? ⟨g, o + i * 4 + 3, none⟩ = some (.int .i64 (2 * s))
theorem RowK.of {w w' : World} {bR N : Nat} {A : Option Addr} {k b s m : Int} (h : RowK w bR A N k b s m) (hc : ∀ g o, g < bR → w'.cell? ⟨g, o, none⟩ = w.cell? ⟨g, o, none⟩) : RowK w' bR A N k b s m := fun h0 => by
  obtain ⟨g, o, hA, hg, hcs⟩ := h h0
  refine ⟨g, o, hA, hg, fun i hi => ?_⟩
  rw [hc g _ hg, hc g _ hg, hc g _ hg, hc g _ hg]
  exact hcs i hi
theorem RowK.mono {w : World} {bR bR' N : Nat} {A : Option Addr} {k b s m : Int} (h : RowK w bR A N k b s m) (hb : bR ≤ bR') : RowK w bR' A N k b s m := fun h0 => by
  obtain ⟨g, o, hA, hg, hcs⟩ := h h0
  exact ⟨g, o, hA, by omega, hcs⟩
/-- The first one. -/
theorem RowK.first {w : World} {bR N : Nat} {A : Option Addr} {k b s m : Int} (h : RowK w bR A N k b s m) (h0 : 0 < N) : ∃ g o, A = some ⟨g, o, none⟩ ∧ g < bR ∧ w.cell? ⟨g, o, none⟩ = some (.int .i64 k) ∧ w.cell? ⟨g, o + 1, none⟩ = some (.int .i64 b) ∧ w.cell? ⟨g, o + 2, none⟩ = some (.int .i64 (2 * m + 1)) ∧ w.cell? ⟨g, o + 3, none⟩ = some (.int .i64 (2 * s)) := by
  obtain ⟨g, o, hA, hg, hcs⟩ := h h0
  have := hcs 0 h0
  simp at this
  exact ⟨g, o, hA, hg, this.1, this.2.1, this.2.2.1, this.2.2.2⟩
/-- What is left behind the first one. -/
theorem RowK.rest {w : World} {bR N c : Nat} {A : Option Addr} {k b s m : Int} (h : RowK w bR A (N + 1) k b s m) (hc : N + 1 ≤ c) : RowK w bR (if c = 1 then A else A.map (·.add 4)) N k b s (m + 1) := fun h0 => by
  obtain ⟨g, o, rfl, hg, hcs⟩ := h (by omega)
  refine ⟨g, o + 4, ?_, hg, fun i hi => ?_⟩
  · rw [if_neg (by omega)]
    rfl
  · have := hcs (i + 1) (by omega)
    rw [show o + (i + 1) * 4 = o + 4 + i * 4 by omega] at this
    rw [show m + 1 + (i : Int) = m + ((i + 1 : Nat) : Int) by omega]
    exact this
theorem own_below {w w' : World} {B size n : Nat} {T : TypeId} {v : Value} {xs : List Value} (h : w.ownsRow B T size v n xs) (hb : Below w.heap.size w w') : w'.ownsRow B T size v n xs :=
  h.kept (row := none) ⟨hb.os, hb.tape, hb.output, hb.size, fun k hk _ => hb.block k hk⟩ (by cases h' : v.ownBlock <;> simp)
theorem own_row {w : World} {B N : Nat} {v : Value} {a b s : Int} (h : w.ownsRow B 54 4 v N (cellsR a b s N)) : ∃ A c, v = .slice A N c ∧ N ≤ c ∧ c ≤ maxLen ∧ RowK w w.heap.size A N a b s 0 := by
  have hlt := World.ownsRow.lt h
  rcases h.2 with ⟨rfl, rfl⟩ | ⟨g, cap, cur, rfl, hB, hg, hn, hc, hs, ht⟩
  · exact ⟨none, 0, rfl, Nat.le_refl _, by simp [maxLen], fun h0 => absurd h0 (by omega)⟩
  · refine ⟨_, cap, rfl, hn, hc, fun _ => ⟨g, 0, rfl, (hlt g rfl).2, fun i hi => ?_⟩⟩
    have key : ∀ c, c < 4 → w.cell? ⟨g, i * 4 + c, none⟩ = (cellsC a b s i)[c]? := fun c hc4 => by
      have h1 := cellsR_get a b s hi hc4
      rw [← ht, List.getElem?_take] at h1
      rw [cell_of_row w g _ _ _ _ hg, ← Array.getElem?_toList]
      split at h1
      · exact h1
      · rename_i q
        omega
    have k0 := key 0 (by omega)
    have k1 := key 1 (by omega)
    have k2 := key 2 (by omega)
    have k3 := key 3 (by omega)
    simp only [cellsC, Nat.add_zero] at k0 k1 k2 k3
    rw [Nat.zero_add, show (0 : Int) + (i : Int) = (i : Int) by omega]
    exact ⟨k0, k1, k2, k3⟩
/-- How many crossings of axis k are left. -/
def leftN (d m : T3) (n k : Nat) : Nat := if nA d k = 0 then 0 else n - (nA m k).toNat
/-- The three rows, as they lie in memory. -/
structure RowsR (w : World) (bR : Nat) (d m : T3) (n : Nat) (RA : Nat → Option Addr) (RC : Nat → Nat) : Prop where
  blk : Blk w bR 49 [.slice (RA 0) (leftN d m n 0) (RC 0), .slice (RA 1) (leftN d m n 1) (RC 1), .slice (RA 2) (leftN d m n 2) (RC 2)]
  cap : ∀ k, k < 3 → leftN d m n k ≤ RC k ∧ RC k ≤ maxLen
  row : ∀ k, k < 3 → RowK w bR (RA k) (leftN d m n k) (k : Int) (byA (nA d k)) (nA (szT d) k) (nA m k)
theorem RowsR.get {w : World} {bR : Nat} {d m : T3} {n : Nat} {RA : Nat → Option Addr} {RC : Nat → Nat} (h : RowsR w bR d m n RA RC) {k : Nat} (hk : k < 3) : w.cell? ⟨bR, k, none⟩ = some (.slice (RA k) (leftN d m n k) (RC k)) := by
  match k, hk with
  | 0, _ => exact h.blk.cell rfl
  | 1, _ => exact h.blk.cell rfl
  | 2, _ => exact h.blk.cell rfl
theorem RowsR.of {w w' : World} {bR : Nat} {d m : T3} {n : Nat} {RA : Nat → Option Addr} {RC : Nat → Nat} (h : RowsR w bR d m n RA RC) (hblk : w'.heap[bR]? = w.heap[bR]?) (hc : ∀ g o, g < bR → w'.cell? ⟨g, o, none⟩ = w.cell? ⟨g, o, none⟩) : RowsR w' bR d m n RA RC :=
  ⟨hblk.trans h.blk, h.cap, fun k hk => (h.row k hk).of hc⟩
theorem RowsR.below {w w' : World} {bR : Nat} {d m : T3} {n : Nat} {RA : Nat → Option Addr} {RC : Nat → Nat} (h : RowsR w bR d m n RA RC) (hb : Below w.heap.size w w') : RowsR w' bR d m n RA RC :=
  h.of (hb.block bR h.blk.lt) (fun g o hg => hb.cell (p := ⟨g, o, none⟩) (Nat.lt_trans hg h.blk.lt))
theorem RowsR.set {w : World} {bR : Nat} {d m : T3} {n : Nat} {RA : Nat → Option Addr} {RC : Nat → Nat} (h : RowsR w bR d m n RA RC) {a : Addr} (ha : bR < a.block) (v : Value) : RowsR (w.setCell a v) bR d m n RA RC :=
  h.of (heap_setCell_other w a bR v (by omega)) (fun g o hg => World.cell?_setCell_other _ _ _ _ (fun e => by
    subst e
    simp at ha
    omega))
theorem RowsR.alloc {w : World} {bR : Nat} {d m : T3} {n : Nat} {RA : Nat → Option Addr} {RC : Nat → Nat} (h : RowsR w bR d m n RA RC) (o : Obj) : RowsR (w.alloc o) bR d m n RA RC :=
  h.below ((Below.refl _ _).alloc (Nat.le_refl _) o)
theorem RowsR.grown {w w' : World} {bR : Nat} {d m : T3} {n : Nat} {RA : Nat → Option Addr} {RC : Nat → Nat} (h : RowsR w bR d m n RA RC) {r : Option Nat} (hg : w.grownBy w' r) (hr : ∀ g, r = some g → bR < g) : RowsR w' bR d m n RA RC :=
  h.of (hg.block bR h.blk.lt (fun e => by have := hr bR e.symm; omega)) (fun g o hgl => World.cell?_of_block (hg.block g (Nat.lt_trans hgl h.blk.lt) (fun e => by have := hr g e.symm; omega)))
theorem left_bump {d m : T3} {n a k : Nat} (hm : Pos3 m) (ha : a < 3) (hk : k < 3) (hlt : nA m a < n) (hd : nA d a ≠ 0) : leftN d (bump m a) n k = if k = a then leftN d m n a - 1 else leftN d m n k := by
  unfold leftN
  rw [nA_bump m a k ha hk]
  by_cases e : k = a
  · subst e
    rw [if_pos rfl, if_pos rfl, if_neg hd, if_neg hd]
    have := nA_pos hm k
    omega
  · rw [if_neg e, if_neg e]
theorem left_pos {d m : T3} {n a : Nat} (hm : Pos3 m) (hlt : nA m a < n) (hd : nA d a ≠ 0) : ∃ N, leftN d m n a = N + 1 := by
  have := nA_pos hm a
  refine ⟨n - (nA m a).toNat - 1, ?_⟩
  rw [leftN, if_neg hd]
  omega
/-- Of axis a the first crossing is struck. -/
theorem RowsR.next {w : World} {bR : Nat} {d m : T3} {n : Nat} {RA : Nat → Option Addr} {RC : Nat → Nat} (h : RowsR w bR d m n RA RC) {a N : Nat} (hm : Pos3 m) (ha : a < 3) (hlt : nA m a < n) (hd : nA d a ≠ 0) (hN : leftN d m n a = N + 1) :
    RowsR (w.setCell ⟨bR, a, none⟩ (.slice (if RC a = 1 then RA a else (RA a).map (·.add 4)) N (RC a - 1))) bR d (bump m a) n (fun k => if k = a then (if RC a = 1 then RA a else (RA a).map (·.add 4)) else RA k) (fun k => if k = a then RC a - 1 else RC k) := by
  have hl := fun k hk => left_bump (d := d) (k := k) hm ha hk hlt hd
  have l0 := hl 0 (by omega)
  have l1 := hl 1 (by omega)
  have l2 := hl 2 (by omega)
  refine ⟨?_, fun k hk => ?_, fun k hk => ?_⟩
  · have hb := h.blk.set a (.slice (if RC a = 1 then RA a else (RA a).map (·.add 4)) N (RC a - 1))
    match a, ha with
    | 0, _ =>
      simp [l0, l1, l2, hN] at hb ⊢
      exact hb
    | 1, _ =>
      simp [l0, l1, l2, hN] at hb ⊢
      exact hb
    | 2, _ =>
      simp [l0, l1, l2, hN] at hb ⊢
      exact hb
  · rw [hl k hk]
    have := h.cap k hk
    by_cases e : k = a
    · subst e
      simp
      omega
    · simp [e]
      exact this
  · rw [hl k hk]
    have hr := h.row k hk
    have hcells : ∀ g o, g < bR → (w.setCell ⟨bR, a, none⟩ (.slice (if RC a = 1 then RA a else (RA a).map (·.add 4)) N (RC a - 1))).cell? ⟨g, o, none⟩ = w.cell? ⟨g, o, none⟩ := fun g o hg => World.cell?_setCell_other _ _ _ _ (fun e => by
      have := congrArg Addr.block e
      simp at this
      omega)
    rw [nA_bump m a k ha hk]
    by_cases e : k = a
    · subst e
      rw [if_pos rfl, if_pos rfl, hN]
      rw [hN] at hr
      have hc := (h.cap k hk).1
      rw [hN] at hc
      simp only [if_true]
      exact (hr.rest hc).of hcells
    · rw [if_neg e, if_neg e]
      simp only [if_neg e]
      exact hr.of hcells
/-- s[1:] of crossings. -/
theorem underCr : Tryd.prog.underlying 49 = some (.slice 54) := Tryd.underlying49
theorem run_rest (w : World) {A : Option Addr} {N c : Nat} (h : N + 1 ≤ c) : (Instr.sliceAt 49 (.slice A (N + 1) c) (some (.int .i64 1)) none none).run Tryd.prog w = .ok (.slice (if c = 1 then A else A.map (·.add 4)) N (c - 1)) w := by
  obtain ⟨i, hi, _, hs, _⟩ := info_parts infoCr
  have h2 : 1 ≤ N + 1 := by omega
  have h3 : 1 ≤ c := by omega
  have e : (if c - 1 = 0 then A else A.map (·.add (1 * 4))) = (if c = 1 then A else A.map (·.add 4)) := by
    by_cases q : c = 1
    · rw [if_pos q, if_pos (by omega)]
    · rw [if_neg q, if_neg (by omega)]
  have hb : (Instr.sliceBound (.int .i64 1) (N + 1) BoundsCode.sliceB).run Tryd.prog w = .ok 1 w := by
    have q : (1 : Int) ≤ (N : Int) + 1 := by omega
    simp [Instr.sliceBound, asIntOf, q, go_sem]
  have e' : (if c = 1 then A else A.map (fun x => x.add (1 * 4))) = (if c = 1 then A else A.map (·.add 4)) := rfl
  simp [Instr.sliceAt, Instr.slice, run_underlying underCr, Instr.sliceBounds, hb, h, h2, h3, e, e', Result.andThen, sizeOf, typeInfo, hi, hs]
theorem left_zero (d : T3) (n k : Nat) : leftN d ⟨0, 0, 0⟩ n k = howM (nA d k) n := by
  have : nA (⟨0, 0, 0⟩ : T3) k = 0 := by
    unfold nA
    split
    · rfl
    · split <;> rfl
  unfold leftN howM
  rw [this]
  simp
def pick3 {α : Type} (a b c : α) (k : Nat) : α := if k = 0 then a else if k = 1 then b else c
/-- The three rows at the start. -/
theorem rows_start {w : World} {bR : Nat} {d : T3} {n : Nat} {A0 A1 A2 : Option Addr} {c0 c1 c2 : Nat} (hb : Blk w bR 49 [.slice A0 (howM d.x n) c0, .slice A1 (howM d.z n) c1, .slice A2 (howM d.y n) c2])
    (h0 : howM d.x n ≤ c0 ∧ c0 ≤ maxLen) (h1 : howM d.z n ≤ c1 ∧ c1 ≤ maxLen) (h2 : howM d.y n ≤ c2 ∧ c2 ≤ maxLen)
    (r0 : RowK w bR A0 (howM d.x n) 0 (byA d.x) (sz d.x) 0) (r1 : RowK w bR A1 (howM d.z n) 1 (byA d.z) (sz d.z) 0) (r2 : RowK w bR A2 (howM d.y n) 2 (byA d.y) (sz d.y) 0) :
    RowsR w bR d ⟨0, 0, 0⟩ n (pick3 A0 A1 A2) (pick3 c0 c1 c2) := by
  refine ⟨?_, fun k hk => ?_, fun k hk => ?_⟩
  · rw [left_zero, left_zero, left_zero]
    exact hb
  · rw [left_zero]
    match k, hk with
    | 0, _ => exact h0
    | 1, _ => exact h1
    | 2, _ => exact h2
  · rw [left_zero, nA_sz]
    match k, hk with
    | 0, _ => exact r0
    | 1, _ => exact r1
    | 2, _ => exact r2
theorem RowK.below {w w' : World} {bR N : Nat} {A : Option Addr} {k b s m : Int} (h : RowK w bR A N k b s m) (hl : bR ≤ w.heap.size) (hb : Below w.heap.size w w') : RowK w' bR A N k b s m :=
  h.of fun g o hg => hb.cell (p := ⟨g, o, none⟩) (Nat.lt_of_lt_of_le hg hl)
/-- What holds at the head of a round: i crossings have been told. -/
structure WayQ (p d : T3) (n : Nat) (w0 : World) (B bP bR : Nat) (RA : Nat → Option Addr) (RC : Nat → Nat) (i : Nat) (v : Value) (wr : World) : Prop where
  le : i ≤ n
  all : AllM p d i
  own : OwnL wr B v (lst p d i)
  at_ : Blk wr bP 23 (cellsT (posA p d (mAt d i)))
  rows : RowsR wr bR d (mAt d i) n RA RC
  below : Below w0.heap.size w0 wr
  big : B ≤ wr.heap.size
theorem WayQ.keep {p d : T3} {n : Nat} {w0 w w' : World} {B bP bR i : Nat} {RA : Nat → Option Addr} {RC : Nat → Nat} {v : Value} (h : WayQ p d n w0 B bP bR RA RC i v w) (hb : Below w.heap.size w w') : WayQ p d n w0 B bP bR RA RC i v w' :=
  ⟨h.le, h.all, h.own.below hb, h.at_.below hb, h.rows.below hb, h.below.trans (hb.mono h.below.size), Nat.le_trans h.big hb.size⟩
theorem WayQ.done {p d : T3} {n : Nat} {w0 w w' : World} {B bP bR i : Nat} {RA : Nat → Option Addr} {RC : Nat → Nat} {v : Value} (h : WayQ p d n w0 B bP bR RA RC i v w) (hb : Below w.heap.size w w') (hB : w0.heap.size ≤ B) (he : i = n ∨ mayT (posA p d (mAt d (i + 1))) = false) : WayP (wayA p d n) w0 (.returned (.tuple #[v, .int .i64 0])) w' := by
  rw [way_is h.le h.all he]
  exact ⟨v, rfl, (h.own.below hb).mono hB, h.below.trans (hb.mono h.below.size)⟩
theorem scan_range (s m : T3) : ∀ k : Nat, -1 ≤ scan s m k ∧ scan s m k < (k : Int)
  | 0 => by simp [scan]
  | k + 1 => by
    have := scan_range s m k
    rw [scan]
    split <;> omega
theorem scan_no {s m : T3} {k : Nat} (h : nA s k = 0) : scan s m (k + 1) = scan s m k := by
  rw [scan, if_neg (by simp [h])]
theorem scan_first {s m : T3} {k : Nat} (h : nA s k ≠ 0) (hs : scan s m k = -1) : scan s m (k + 1) = (k : Int) := by
  rw [scan, if_pos ⟨h, .inl (by omega)⟩]
theorem scan_more {s m : T3} {k b : Nat} (h : nA s k ≠ 0) (hs : scan s m k = (b : Int)) : scan s m (k + 1) = if (2 * nA m k + 1) * nA s b < (2 * nA m b + 1) * nA s k then (k : Int) else (b : Int) := by
  rw [scan, hs]
  by_cases q : (2 * nA m k + 1) * nA s b < (2 * nA m b + 1) * nA s k
  · rw [if_pos q, if_pos ⟨h, .inr (by simpa using q)⟩]
  · rw [if_neg q, if_neg (fun e => by
      rcases e.2 with e2 | e2
      · omega
      · exact q (by simpa using e2))]
/-- The best one so far is one that is crossed. -/
theorem scan_is {s m : T3} : ∀ {k b : Nat}, scan s m k = (b : Int) → nA s b ≠ 0
  | 0, b, h => by
    simp [scan] at h
  | k + 1, b, h => by
    rw [scan] at h
    split at h
    · rename_i q
      obtain rfl : k = b := by omega
      exact q.1
    · exact scan_is h
/-- The reference's 'ahead', of two crossings of unlike axes. -/
theorem ahead_is {k b : Nat} {s m : T3} (hk : b < k) (hm : Pos3 m) : aheadB (k : Int) (2 * nA m k + 1) (2 * nA s k) (b : Int) (2 * nA m b + 1) (2 * nA s b) = decide ((2 * nA m k + 1) * nA s b < (2 * nA m b + 1) * nA s k) := by
  unfold aheadB
  have e1 : (2 * nA m k + 1) * (2 * nA s b) = 2 * ((2 * nA m k + 1) * nA s b) := by ac_rfl
  have e2 : (2 * nA m b + 1) * (2 * nA s k) = 2 * ((2 * nA m b + 1) * nA s k) := by ac_rfl
  rw [e1, e2]
  split
  · rename_i q
    rw [decide_eq_decide]
    omega
  · rw [decide_eq_decide]
    omega
theorem byA_sgn {d : Int} (h : d ≠ 0) : byA d = sgn d := by
  unfold byA sgn
  by_cases h1 : d < 0
  · rw [if_pos h1, if_pos h1]
  · rw [if_neg h1, if_neg h1, if_neg h]
theorem pos_next_0 {p d m : T3} (h : nA d 0 ≠ 0) : posA p d (bump m 0) = ⟨(posA p d m).x + byA (nA d 0), (posA p d m).z, (posA p d m).y⟩ := by
  rw [byA_sgn h]
  simp only [bump, posA, if_true, mul_succ']
  rfl
theorem pos_next_1 {p d m : T3} (h : nA d 1 ≠ 0) : posA p d (bump m 1) = ⟨(posA p d m).x, (posA p d m).z + byA (nA d 1), (posA p d m).y⟩ := by
  rw [byA_sgn h]
  simp only [bump, posA, Nat.one_ne_zero, if_false, if_true, mul_succ']
  rfl
theorem pos_next_2 {p d m : T3} (h : nA d 2 ≠ 0) : posA p d (bump m 2) = ⟨(posA p d m).x, (posA p d m).z, (posA p d m).y + byA (nA d 2)⟩ := by
  rw [byA_sgn h]
  simp [bump, posA, mul_succ', nA]
end RayP
end Go.Proofs.YtcmndfjoaoinjaaDoor
