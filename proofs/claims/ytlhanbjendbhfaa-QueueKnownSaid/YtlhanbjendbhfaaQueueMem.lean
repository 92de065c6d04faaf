/-
  A queue's memory: a heap's ticks and where each index stands; Len, Less, find, note, isIndex, may.
-/
import Derived.Test.YtlhanbjendbhfaaFrS
import Derived.Test.YtlhanbjendbhfaaPushG
import Derived.Test.YtlhanbjendbhfaaQueuePlain
import Derived.Test.YtlhanbjendbhfaaBitsP
import Derived.BigRegion
import Derived.Lib.Hide
namespace Go.Proofs.Ytlhanbjendbhfaa
open Go.RowKit
set_option linter.unusedVariables false
set_option linter.unusedSimpArgs false
namespace QueW
open BlkP RowG FrS PushG HeapP ChunkW

def encT : Enc Tick := ⟨fun t => [.int .i64 t.1, .int .i64 t.2], 2, fun _ => rfl, fun x v h => by
  simp only [List.mem_cons, List.not_mem_nil, or_false] at h
  rcases h with rfl | rfl <;> rfl⟩
abbrev TT : TypeId := 31
abbrev TPd : TypeId := 63
abbrev TLs : TypeId := 59
abbrev TQ : TypeId := 57
def cellsW (W : Nat → Nat) : List Value := (List.range 4096).map fun a => Value.int .u16 (W a : Int)
def pvals (v : Value) (W : Nat → Nat) : List Value := v :: cellsW W
theorem pv_0 (v : Value) (W : Nat → Nat) : (pvals v W)[0]? = some v := rfl
theorem pv_at (v : Value) (W : Nat → Nat) {a : Nat} (h : a < 4096) : (pvals v W)[a + 1]? = some (.int .u16 (W a : Int)) := by
  unfold pvals cellsW
  rw [List.getElem?_cons_succ, List.getElem?_map, List.getElem?_range h, Option.map_some]
theorem pv_at' (v : Value) (W : Nat → Nat) {a : Nat} (h : a < 4096) : (pvals v W)[1 + a]? = some (.int .u16 (W a : Int)) := by
  rw [Nat.add_comm]
  exact pv_at v W h
theorem pv_set0 (v u : Value) (W : Nat → Nat) : (pvals v W).set 0 u = pvals u W := rfl
theorem pv_set (v : Value) (W : Nat → Nat) {a k : Nat} (h : a < 4096) : (pvals v W).set (a + 1) (.int .u16 (k : Int)) = pvals v (upd W a k) := by
  unfold pvals cellsW
  rw [List.set_cons_succ]
  refine congrArg (fun r => v :: r) ?_
  apply List.ext_getElem?
  intro i
  by_cases hi : i < 4096
  · rw [List.getElem?_map, List.getElem?_range hi]
    by_cases e : i = a
    · subst e
      rw [List.getElem?_set_self (by simpa using h)]
      simp [upd]
    · rw [List.getElem?_set_ne (Ne.symm e), List.getElem?_map, List.getElem?_range hi]
      simp [upd, e]
  · rw [List.getElem?_eq_none (by simp; omega), List.getElem?_eq_none (by simp; omega)]
theorem pv_set' (v : Value) (W : Nat → Nat) {a k : Nat} (h : a < 4096) : (pvals v W).set (1 + a) (.int .u16 (k : Int)) = pvals v (upd W a k) := by
  rw [Nat.add_comm]
  exact pv_set v W h
def tlB (a b : Tick) : Bool := if a.2 = b.2 then decide (a.1 < b.1) else decide (a.2 < b.2)
theorem tlB_iff {a b : Tick} : tlB a b = true ↔ tl a b := by
  unfold tlB tl
  split <;> rw [decide_eq_true_eq] <;> omega
theorem tlB_not {a b : Tick} : tlB a b = false ↔ ¬ tl a b := by rw [← tlB_iff, Bool.not_eq_true]
/-- A heap at pb, whose row is v. -/
structure Pd (w : World) (B pb : Nat) (v : Value) (l : List Tick) (W : Nat → Nat) : Prop where
  blk : Blk w pb TPd (pvals v W)
  row : RowG.Own encT TT w B v l
  ne : v.ownBlock ≠ some pb
/-- The blocks of a heap. -/
def Sp (pb : Nat) (v : Value) : Nat → Prop := fun k => k = pb ∨ v.ownBlock = some k
section
variable {w w' : World} {B pb : Nat} {v : Value} {l : List Tick} {W : Nat → Nat}
theorem Pd.below (h : Pd w B pb v l W) (hb : Below w.heap.size w w') : Pd w' B pb v l W := ⟨h.blk.below hb, h.row.below hb, h.ne⟩
theorem Pd.fr {S : Nat → Prop} (h : Pd w B pb v l W) (hf : Fr S w w') (h1 : ¬ S pb) (h2 : ∀ g, v.ownBlock = some g → ¬ S g) : Pd w' B pb v l W := ⟨hf.blk h.blk h1, hf.own h.row h2, h.ne⟩
theorem Pd.mono {B' : Nat} (h : Pd w B pb v l W) (hB : B' ≤ B) : Pd w B' pb v l W := ⟨h.blk, h.row.mono hB, h.ne⟩
theorem Pd.cell0 (h : Pd w B pb v l W) : w.cell? ⟨pb, 0, none⟩ = some v := h.blk.cell (pv_0 v W)
theorem Pd.lt (h : Pd w B pb v l W) : pb < w.heap.size := h.blk.lt
end
theorem underT : Try.prog.underlying TLs = some (.slice TT) := Try.underlying59
theorem infoT : (Try.prog.info? TT).map (fun i => (i.zero, i.size, i.bytes)) = some (some (.agg #[.int .i64 0, .int .i64 0]), encT.k, 16) := by kernel_rfl
section
variable {w : World}
set_option maxRecDepth 100000 in
set_option maxHeartbeats 16000000 in
theorem len_c {A : Option Addr} {n c : Nat} : Calls Try.prog 42 #[.slice A n c] w fun e w' => e = .returned (.int .i64 (n : Int)) ∧ w' = w := by
  go_enter Try.func42, Try.ntmps42
  go_wp2_with fail
  go_ret
  exact ⟨rfl, rfl⟩
set_option maxRecDepth 100000 in
set_option maxHeartbeats 16000000 in
theorem isIndex_c {a : Int} {b : Bool} (h : isIx a = b) : Calls Try.prog 47 #[.int .i64 a] w fun e w' => e = .returned (.bool b) ∧ w' = w := by
  by_cases h0 : 0 ≤ a
  · by_cases h1 : a < 4096
    · obtain rfl : true = b := by rw [← h]; simp [isIx, h0, h1]
      go_enter Try.func47, Try.ntmps47
      go_wp2_with fail
      go_ret
      exact ⟨rfl, rfl⟩
    · obtain rfl : false = b := by rw [← h]; simp [isIx, h0, h1]
      go_enter Try.func47, Try.ntmps47
      go_wp2_with fail
      go_ret
      exact ⟨rfl, rfl⟩
  · obtain rfl : false = b := by rw [← h]; simp [isIx, h0]
    go_enter Try.func47, Try.ntmps47
    go_wp2_with fail
    go_ret
    exact ⟨rfl, rfl⟩
set_option maxRecDepth 100000 in
set_option maxHeartbeats 16000000 in
theorem may_c {a d : Int} {b : Bool} (h : mayB (a, d) = b) : Calls Try.prog 28 #[.agg #[.int .i64 a, .int .i64 d]] w fun e w' => e = .returned (.bool b) ∧ Below w.heap.size w w' := by
  have hb0 : Below w.heap.size w w := Below.refl _ _
  cases hx : isIx a with
  | false =>
    obtain rfl : false = b := by
      rw [← h]
      unfold isIx at hx
      simp only [mayB, hx, Bool.false_and]
    have HX := Lib.hid hx
    clear h hx
    go_enter Try.func28, Try.ntmps28
    go_wp2_with fail
    refine (isIndex_c HX.out).mono ?_
    rintro e w1 ⟨rfl, rfl⟩
    go_wp2_with fail
    go_ret
    exact ⟨rfl, by (repeat' (first | (with_reducible exact Below.refl _ _) | (with_reducible refine Below.setCell ?_ (by (first | omega | (simp; done) | (simp; omega))) _) | (with_reducible refine Below.alloc ?_ (by (first | omega | (simp; done) | (simp; omega))) _) | (with_reducible refine Below.drew ?_) | (with_reducible refine below_drewN ?_ _)))⟩
  | true =>
    have HX := Lib.hid hx
    by_cases h1 : 1 ≤ d
    · by_cases h2 : d ≤ 2199023255552
      · obtain rfl : true = b := by
          rw [← h]
          unfold isIx at hx
          simp only [mayB, hx, Bool.true_and]
          simp [h1, h2]
        have e2 := decide_eq_true h2
        clear h hx
        go_enter Try.func28, Try.ntmps28
        go_wp2_with fail
        refine (isIndex_c HX.out).mono ?_
        rintro e w1 ⟨rfl, rfl⟩
        go_wp2_with fail
        go_ret
        exact ⟨rfl, by (repeat' (first | (with_reducible exact Below.refl _ _) | (with_reducible refine Below.setCell ?_ (by (first | omega | (simp; done) | (simp; omega))) _) | (with_reducible refine Below.alloc ?_ (by (first | omega | (simp; done) | (simp; omega))) _) | (with_reducible refine Below.drew ?_) | (with_reducible refine below_drewN ?_ _)))⟩
      · obtain rfl : false = b := by
          rw [← h]
          unfold isIx at hx
          simp only [mayB, hx, Bool.true_and]
          simp [h1, h2]
        have e2 := decide_eq_false h2
        clear h hx
        go_enter Try.func28, Try.ntmps28
        go_wp2_with fail
        refine (isIndex_c HX.out).mono ?_
        rintro e w1 ⟨rfl, rfl⟩
        go_wp2_with fail
        go_ret
        exact ⟨rfl, by (repeat' (first | (with_reducible exact Below.refl _ _) | (with_reducible refine Below.setCell ?_ (by (first | omega | (simp; done) | (simp; omega))) _) | (with_reducible refine Below.alloc ?_ (by (first | omega | (simp; done) | (simp; omega))) _) | (with_reducible refine Below.drew ?_) | (with_reducible refine below_drewN ?_ _)))⟩
    · obtain rfl : false = b := by
        rw [← h]
        unfold isIx at hx
        simp only [mayB, hx, Bool.true_and]
        simp [h1]
      clear h hx
      go_enter Try.func28, Try.ntmps28
      go_wp2_with fail
      refine (isIndex_c HX.out).mono ?_
      rintro e w1 ⟨rfl, rfl⟩
      go_wp2_with fail
      go_ret
      exact ⟨rfl, by (repeat' (first | (with_reducible exact Below.refl _ _) | (with_reducible refine Below.setCell ?_ (by (first | omega | (simp; done) | (simp; omega))) _) | (with_reducible refine Below.alloc ?_ (by (first | omega | (simp; done) | (simp; omega))) _) | (with_reducible refine Below.drew ?_) | (with_reducible refine below_drewN ?_ _)))⟩
set_option maxRecDepth 100000 in
set_option maxHeartbeats 16000000 in
theorem find_c {pb a k : Nat} {v : Value} {W : Nat → Nat} (h : Blk w pb TPd (pvals v W)) (ha : a < 4096) (hk : W a = k) (hk2 : k ≤ 5000) : Calls Try.prog 29 #[.pointer (some ⟨pb, 0, none⟩), .int .i64 (a : Int)] w fun e w' => e = .returned (.int .i64 ((k : Int) - 1)) ∧ w' = w := by
  have c0 := h.cell (pv_at' v W ha)
  rw [hk] at c0
  have l0 := h.lt
  have haI : (a : Int) < 4096 := by omega
  have hkI : (k : Int) ≤ 5000 := by omega
  clear h hk
  go_enter Try.func29, Try.ntmps29
  go_wp2_with fail
  go_ret
  exact ⟨rfl, rfl⟩
set_option maxRecDepth 100000 in
set_option maxHeartbeats 16000000 in
theorem less_c {A : Option Addr} {n c i j : Nat} {l : List Tick} {s t : Tick} (hR : Rd encT w (.slice A n c) l) (hn : l.length = n) (hn2 : n ≤ 5000) (hi : l[i]? = some s) (hj : l[j]? = some t) : Calls Try.prog 85 #[.slice A n c, .int .i64 (i : Int), .int .i64 (j : Int)] w fun e w' => e = .returned (.bool (tlB s t)) ∧ Below w.heap.size w w' := by
  obtain ⟨a, d⟩ := s
  obtain ⟨a2, d2⟩ := t
  obtain ⟨b, o, rfl, hlt, hc⟩ := hR.at hi
  obtain ⟨b', o', e, _, hc2⟩ := hR.at hj
  injection e with e
  injection e with e1 e2
  subst e1 e2
  have x0 := hc 0 _ rfl
  have x1 := hc 1 _ rfl
  have y0 := hc2 0 _ rfl
  have y1 := hc2 1 _ rfl
  have hi2 : i < n := by rw [← hn]; exact (List.getElem?_eq_some_iff.1 hi).1
  have hj2 : j < n := by rw [← hn]; exact (List.getElem?_eq_some_iff.1 hj).1
  have hiI : (i : Int) < (n : Int) := by omega
  have hjI : (j : Int) < (n : Int) := by omega
  have hnI : (n : Int) ≤ 5000 := by omega
  clear hR hc hc2 hi hj hn hi2 hj2
  simp only [show encT.k = 2 from rfl, Nat.add_zero] at x0 x1 y0 y1
  by_cases hd : d = d2
  · subst hd
    have hv : tlB (a, d) (a2, d) = decide (a < a2) := by simp [tlB]
    rw [hv]
    go_enter Try.func85, Try.ntmps85
    go_wp2_with fail
    go_region
    all_goals (go_wp2_with fail; go_ret; exact ⟨rfl, by (repeat' (first | (with_reducible exact Below.refl _ _) | (with_reducible refine Below.setCell ?_ (by (first | omega | (simp; done) | (simp; omega))) _) | (with_reducible refine Below.alloc ?_ (by (first | omega | (simp; done) | (simp; omega))) _) | (with_reducible refine Below.drew ?_) | (with_reducible refine below_drewN ?_ _)))⟩)
  · have hv : tlB (a, d) (a2, d2) = decide (d < d2) := by simp [tlB, hd]
    rw [hv]
    have hne : (d == d2) = false := by simp [hd]
    go_enter Try.func85, Try.ntmps85
    go_wp2_with fail
    go_region
    all_goals (go_wp2_with fail; go_ret; exact ⟨rfl, by (repeat' (first | (with_reducible exact Below.refl _ _) | (with_reducible refine Below.setCell ?_ (by (first | omega | (simp; done) | (simp; omega))) _) | (with_reducible refine Below.alloc ?_ (by (first | omega | (simp; done) | (simp; omega))) _) | (with_reducible refine Below.drew ?_) | (with_reducible refine below_drewN ?_ _)))⟩)
set_option maxRecDepth 100000 in
set_option maxHeartbeats 16000000 in
theorem note_c {pb i a g n c B : Nat} {d : Int} {l : List Tick} {W : Nat → Nat} (h : Blk w pb TPd (pvals (.slice (some ⟨g, 0, none⟩) n c) W)) (ho : RowG.Own encT TT w B (.slice (some ⟨g, 0, none⟩) n c) l) (hn : l.length = n) (hn2 : n ≤ 5000) (hi : l[i]? = some ((a : Int), d)) (ha : a < 4096) : Calls Try.prog 30 #[.pointer (some ⟨pb, 0, none⟩), .int .i64 (i : Int)] w fun e w' => e = .returned (.tuple #[]) ∧ Blk w' pb TPd (pvals (.slice (some ⟨g, 0, none⟩) n c) (upd W a (i + 1))) ∧ Fr (fun k => k = pb) w w' := by
  have x0 := ho.cell (j := 0) hi rfl
  simp only [show encT.k = 2 from rfl, Nat.add_zero] at x0
  have hi2 : i < n := by rw [← hn]; exact (List.getElem?_eq_some_iff.1 hi).1
  have hiI : (i : Int) < (n : Int) := by omega
  have hnI : (n : Int) ≤ 5000 := by omega
  have haI : (a : Int) < 4096 := by omega
  have hg : g < w.heap.size := (ho.ge g rfl).2
  have c0 := h.cell (pv_0 _ W)
  have c1 := h.cell (pv_at' (.slice (some ⟨g, 0, none⟩) n c) W ha)
  have f1 := h.frozen (1 + a)
  have hp := h.lt
  have HB := Lib.hid (show ∀ w', w' = (w.drew.setCell ⟨pb, 1 + a, none⟩ (.int .u16 ((i : Int) + 1))) → Blk w' pb TPd (pvals (.slice (some ⟨g, 0, none⟩) n c) (upd W a (i + 1))) ∧ Fr (fun k => k = pb) w w' from fun w' e => by
    subst e
    refine ⟨?_, (Fr.refl _ w).drew.trans (Fr.set (fun k => k = pb) w.drew ⟨pb, 1 + a, none⟩ _ rfl) (fun i hi => .inl hi)⟩
    have q := (h.drew).set (1 + a) (.int .u16 ((i : Int) + 1))
    have e2 : (i : Int) + 1 = ((i + 1 : Nat) : Int) := by omega
    rw [e2] at q ⊢
    rw [pv_set' _ W ha] at q
    exact q)
  clear h ho hn hi hi2
  go_enter Try.func30, Try.ntmps30
  go_wp2_with fail
  go_region
  show bodyPost Try.prog Try.f30 _ Exit.normal _ _
  go_end0
  exact ⟨rfl, HB.out _ rfl⟩
end
end QueW
end Go.Proofs.Ytlhanbjendbhfaa
