/-
  The walks of package ray: direction, together, soonest; and of its reference: ahead.
-/
import Derived.Test.YtcmndfjoaoinjaaDoorRayPlain2
import Derived.Test.YtcmndfjoaoinjaaDoorBlkP
import Derived.Test.YtcmndfjoaoinjaaDoorHeldP
import Derived.Test.YtcmndfjoaoinjaaDoorPlaceWalks6
import Derived.LoopTactic
import Derived.RegionTactic
import Derived.ChangeAlike
import Derived.Handy
import Derived.Outline
import Derived.ChangeKeysEq
import Derived.Laws.StructEq
namespace Go.Proofs.YtcmndfjoaoinjaaDoor
open Go.RowKit
set_option linter.unusedVariables false
set_option linter.unusedSimpArgs false
namespace RayP
open PlaceW BlkP

/-- Is a number of a direction one? -/
def inD (n : Int) : Bool := decide (-1000 ≤ n) && decide (n ≤ 1000)
theorem inD_true {n : Int} (h : inD n = true) : -1000 ≤ n ∧ n ≤ 1000 := by simpa [inD] using h
theorem inD_false {n : Int} (h : inD n = false) : n < -1000 ∨ 1000 < n := by
  simp [inD] at h
  omega
/-- Is it a direction? (X, Y, Z.) -/
def dirB (x y z : Int) : Bool := inD x && inD y && inD z && !(decide (x = 0) && decide (y = 0) && decide (z = 0))
theorem underInt : Tryd.prog.underlying 3 = some (.int .i64) := Tryd.underlying3
theorem underArr3 : Tryd.prog.underlying 24 = some (.array 3 3) := Tryd.underlying24
theorem cellsInt : Tryd.prog.cellsOf 3 = 1 := by kernel_rfl
theorem sizeInt : (Tryd.prog.info? 3).map (·.size) = some 1 := by kernel_rfl
theorem run_partI (w : World) (x y z : Value) : (part 3 #[x, y, z] 0).run Tryd.prog w = .ok x w ∧ (part 3 #[x, y, z] 1).run Tryd.prog w = .ok y w ∧ (part 3 #[x, y, z] 2).run Tryd.prog w = .ok z w := by
  have hagg : (isAgg 3).run Tryd.prog w = .ok false w := by
    unfold isAgg
    rw [Sem.run_bind, run_underlying underInt w]
    simp
  refine ⟨?_, ?_, ?_⟩ <;> simp [part, Sem.run_bind, hagg]
theorem run_eqI (w : World) (d : Nat) (x y : Int) : (Op.equalIn (d + 1) 3 (.int .i64 x) (.int .i64 y)).run Tryd.prog w = .ok (decide (x = y)) w := by
  rw [run_equalIn_int (P := Tryd.prog) w d 3 .i64 .i64 x y underInt]
  congr 1
/-- Two arrays of three numbers, compared. -/
theorem run_eq3 (w : World) (x y z u v t : Int) : (Op.equalIn 10000 24 (.agg #[.int .i64 x, .int .i64 y, .int .i64 z]) (.agg #[.int .i64 u, .int .i64 v, .int .i64 t])).run Tryd.prog w = .ok (decide (x = u) && decide (y = v) && decide (z = t)) w := by
  cases hq : Tryd.prog.info? 3 with
  | none => have hs := sizeInt; simp [hq] at hs
  | some i =>
    rw [run_equalIn_array (P := Tryd.prog) w 9999 _ _ underArr3 hq, cellsInt]
    have p := fun w => run_partI w (.int .i64 x) (.int .i64 y) (.int .i64 z)
    have q := fun w => run_partI w (.int .i64 u) (.int .i64 v) (.int .i64 t)
    have p0 := fun w => (p w).1
    have p1 := fun w => (p w).2.1
    have p2 := fun w => (p w).2.2
    have q0 := fun w => (q w).1
    have q1 := fun w => (q w).2.1
    have q2 := fun w => (q w).2.2
    clear p q
    simp only [show List.range 3 = [0, 1, 2] from rfl, Op.eqItems, Sem.run_bind, p0, p1, p2, q0, q1, q2, Result.andThen_ok, Nat.mul_one, run_eqI w 9998]
    by_cases h0 : x = u
    · subst h0
      by_cases h1 : y = v
      · subst h1
        by_cases h2 : z = t <;> simp [h2, p1, p2, q1, q2, run_eqI _ 9998]
      · simp [h1, p1, p2, q1, q2, run_eqI _ 9998]
    · simp [h0]
theorem run_ne3 (w : World) (x y z u v t : Int) : (binOp .neq 24 (.agg #[.int .i64 x, .int .i64 y, .int .i64 z]) (.agg #[.int .i64 u, .int .i64 v, .int .i64 t])).run Tryd.prog w = .ok (.bool (!(decide (x = u) && decide (y = v) && decide (z = t)))) w := by
  rw [run_neq_struct, run_eq3]
  rfl
/-- How far the numbers have been looked at. -/
def RelD (x y z : Int) (i : Value) : Prop := i = .int .i64 0 ∨ (i = .int .i64 1 ∧ inD x = true) ∨ (i = .int .i64 2 ∧ inD x = true ∧ inD y = true) ∨ (i = .int .i64 3 ∧ inD x = true ∧ inD y = true ∧ inD z = true)
set_option maxHeartbeats 1000000 in
theorem direction_c {x y z : Int} {r : Bool} (h : dirB x y z = r) (w : World) :
    Calls Tryd.prog 16 #[.agg #[.int .i64 x, .int .i64 y, .int .i64 z]] w fun e w' => e = .returned (.bool r) ∧ Below w.heap.size w w' := by
  have i0 : ∀ w, (Instr.index 24 (.agg #[.int .i64 x, .int .i64 y, .int .i64 z]) (.int .i64 0)).run Tryd.prog w = .ok (.int .i64 x) w := fun _ => by kernel_rfl
  have i1 : ∀ w, (Instr.index 24 (.agg #[.int .i64 x, .int .i64 y, .int .i64 z]) (.int .i64 1)).run Tryd.prog w = .ok (.int .i64 y) w := fun _ => by kernel_rfl
  have i2 : ∀ w, (Instr.index 24 (.agg #[.int .i64 x, .int .i64 y, .int .i64 z]) (.int .i64 2)).run Tryd.prog w = .ok (.int .i64 z) w := fun _ => by kernel_rfl
  have hne := fun w => run_ne3 w x y z 0 0 0
  go_enter Tryd.func16, Tryd.ntmps16
  go_wp2_with fail
  go_loop [6] (fun i => RelD x y z i) (fun i => (3 - intOf i).toNat)
  case atStart => exact .inl rfl
  case round =>
    rcases hrel with rfl | ⟨rfl, hx⟩ | ⟨rfl, hx, hy⟩ | ⟨rfl, hx, hy, hz⟩
    · cases hx : inD x with
      | true =>
        have ⟨b1, b2⟩ := inD_true hx
        have HX := Lib.hid (show inD x = true from hx)
        clear hx h
        go_wp2_with fail
        go_round
        case rel => exact .inr (.inl ⟨rfl, HX.out⟩)
        case measure => simp [intOf]
      | false =>
        have HR : Hid (r = false) := Lib.hid (by rw [← h]; simp [dirB, hx])
        rcases inD_false hx with b | b
        all_goals
          clear h hx
          go_wp2_with fail
          go_ret
          exact ⟨by rw [HR.out]; rfl, by (repeat' (first | (with_reducible exact Below.refl _ _) | (with_reducible refine Below.setCell ?_ (by (first | omega | (simp; done) | (simp; omega))) _) | (with_reducible refine Below.alloc ?_ (by (first | omega | (simp; done) | (simp; omega))) _) | (with_reducible refine Below.drew ?_) | (with_reducible refine below_drewN ?_ _)))⟩
    · cases hy : inD y with
      | true =>
        have ⟨b1, b2⟩ := inD_true hy
        have HX := Lib.hid (show inD y = true from hy)
        have HX' := Lib.hid hx
        clear hy h hx
        go_wp2_with fail
        go_round
        case rel => exact .inr (.inr (.inl ⟨rfl, HX'.out, HX.out⟩))
        case measure => simp [intOf]
      | false =>
        have HR : Hid (r = false) := Lib.hid (by rw [← h]; simp [dirB, hy])
        rcases inD_false hy with b | b
        all_goals
          clear h hy hx
          go_wp2_with fail
          go_ret
          exact ⟨by rw [HR.out]; rfl, by (repeat' (first | (with_reducible exact Below.refl _ _) | (with_reducible refine Below.setCell ?_ (by (first | omega | (simp; done) | (simp; omega))) _) | (with_reducible refine Below.alloc ?_ (by (first | omega | (simp; done) | (simp; omega))) _) | (with_reducible refine Below.drew ?_) | (with_reducible refine below_drewN ?_ _)))⟩
    · cases hz : inD z with
      | true =>
        have ⟨b1, b2⟩ := inD_true hz
        have HX := Lib.hid (show inD z = true from hz)
        have HX' := Lib.hid hx
        have HY' := Lib.hid hy
        clear hz h hx hy
        go_wp2_with fail
        go_round
        case rel => exact .inr (.inr (.inr ⟨rfl, HX'.out, HY'.out, HX.out⟩))
        case measure => simp [intOf]
      | false =>
        have HR : Hid (r = false) := Lib.hid (by rw [← h]; simp [dirB, hz])
        rcases inD_false hz with b | b
        all_goals
          clear h hz hx hy
          go_wp2_with fail
          go_ret
          exact ⟨by rw [HR.out]; rfl, by (repeat' (first | (with_reducible exact Below.refl _ _) | (with_reducible refine Below.setCell ?_ (by (first | omega | (simp; done) | (simp; omega))) _) | (with_reducible refine Below.alloc ?_ (by (first | omega | (simp; done) | (simp; omega))) _) | (with_reducible refine Below.drew ?_) | (with_reducible refine below_drewN ?_ _)))⟩
    · have HR : Hid (r = (!decide (x = 0) || !decide (y = 0) || !decide (z = 0))) := Lib.hid (by rw [← h]; simp [dirB, hx, hy, hz])
      clear h hx hy hz
      go_wp2_with fail
      go_ret
      exact ⟨by rw [HR.out]; rfl, by (repeat' (first | (with_reducible exact Below.refl _ _) | (with_reducible refine Below.setCell ?_ (by (first | omega | (simp; done) | (simp; omega))) _) | (with_reducible refine Below.alloc ?_ (by (first | omega | (simp; done) | (simp; omega))) _) | (with_reducible refine Below.drew ?_) | (with_reducible refine below_drewN ?_ _)))⟩
set_option maxHeartbeats 1000000 in
theorem together_c {o s q o' s' q' : Int} {r : Bool} (b1 : 0 ≤ o * s') (b2 : o * s' ≤ 100000000) (b3 : 0 ≤ o' * s) (b4 : o' * s ≤ 100000000) (h : decide (o * s' = o' * s) = r) (w : World) :
    Calls Tryd.prog 19 #[.agg #[.int .i64 o, .int .i64 s, .int .i64 q], .agg #[.int .i64 o', .int .i64 s', .int .i64 q']] w fun e w' => e = .returned (.bool r) ∧ Below w.heap.size w w' := by
  obtain ⟨A, hA⟩ : ∃ A, A = o * s' := ⟨_, rfl⟩
  have HR := Lib.hid h
  clear h hA
  go_enter Tryd.func19, Tryd.ntmps19
  go_wp2_with fail
  go_ret
  refine ⟨?_, by (repeat' (first | (with_reducible exact Below.refl _ _) | (with_reducible refine Below.setCell ?_ (by (first | omega | (simp; done) | (simp; omega))) _) | (with_reducible refine Below.alloc ?_ (by (first | omega | (simp; done) | (simp; omega))) _) | (with_reducible refine Below.drew ?_) | (with_reducible refine below_drewN ?_ _)))⟩
  rw [← HR.out]
  rfl
/-- Does a crossing come ahead of another one, told by axis, upper number and lower? -/
def aheadB (a u d a' u' d' : Int) : Bool := if u * d' = u' * d then decide (a < a') else decide (u * d' < u' * d)
set_option maxHeartbeats 1000000 in
theorem ahead_c {a b u d a' b' u' d' : Int} {r : Bool} (b1 : 0 ≤ u * d') (b2 : u * d' ≤ 100000000) (b3 : 0 ≤ u' * d) (b4 : u' * d ≤ 100000000) (h : aheadB a u d a' u' d' = r) (w : World) :
    Calls Tryd.prog 23 #[.agg #[.int .i64 a, .int .i64 b, .int .i64 u, .int .i64 d], .agg #[.int .i64 a', .int .i64 b', .int .i64 u', .int .i64 d']] w fun e w' => e = .returned (.bool r) ∧ Below w.heap.size w w' := by
  subst h
  unfold aheadB
  by_cases he : u * d' = u' * d
  · rw [if_pos he]
    have e1 : (u * d' != u' * d) = false := by simpa using he
    clear he
    go_enter Tryd.func23, Tryd.ntmps23
    go_wp2_with fail
    go_ret
    exact ⟨rfl, by (repeat' (first | (with_reducible exact Below.refl _ _) | (with_reducible refine Below.setCell ?_ (by (first | omega | (simp; done) | (simp; omega))) _) | (with_reducible refine Below.alloc ?_ (by (first | omega | (simp; done) | (simp; omega))) _) | (with_reducible refine Below.drew ?_) | (with_reducible refine below_drewN ?_ _)))⟩
  · rw [if_neg he]
    have e1 : (u * d' != u' * d) = true := by simpa using he
    clear he
    go_enter Tryd.func23, Tryd.ntmps23
    go_wp2_with fail
    go_ret
    exact ⟨rfl, by (repeat' (first | (with_reducible exact Below.refl _ _) | (with_reducible refine Below.setCell ?_ (by (first | omega | (simp; done) | (simp; omega))) _) | (with_reducible refine Below.alloc ?_ (by (first | omega | (simp; done) | (simp; omega))) _) | (with_reducible refine Below.drew ?_) | (with_reducible refine below_drewN ?_ _)))⟩
/-- What lies in the boxes of soonest's call: its result's, and the soonest one so far. -/
def SoonR (w wr : World) (v : List Value) : Prop := Blk wr (w.heap.size + 1) 42 [.int .i64 0, .int .i64 0, .int .i64 0] ∧ Blk wr (w.heap.size + 2) 42 v ∧ Below w.heap.size w wr
def cr (o s q : Int) : List Value := [.int .i64 o, .int .i64 s, .int .i64 q]
/-- Which of the rounds this is, and what is the soonest one so far. -/
def SoonL (w : World) (v0 v1 v2 : List Value) (i : Value) (wr : World) : Prop := (i = .int .i64 0 ∧ SoonR w wr v0) ∨ (i = .int .i64 1 ∧ SoonR w wr v0) ∨ (i = .int .i64 2 ∧ SoonR w wr v1) ∨ (i = .int .i64 3 ∧ SoonR w wr v2)
end RayP
end Go.Proofs.YtcmndfjoaoinjaaDoor
