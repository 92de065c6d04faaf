/-
  glow.inside, and the function that hands a cell's sides one by one.
-/
import Derived.RangeFuncNested
import Derived.RangeFuncBound
import Derived.RangeFuncCalls
import Derived.RangeFuncLeaves
import Derived.Shelf.Abstract
import Derived.Shelf.RegionOpen
import Derived.WalkKit
import Derived.OwnWalkIn
import Derived.TacticsInMore
import Derived.LoopNIn
import Derived.LoopIn
import Derived.BigQuiet
import Derived.Test.YtbkadecfmjjadaaDoorGlowWalks2
namespace Go.Proofs.YtbkadecfmjjadaaDoor
open Go.RowKit Go.Shelf
set_option linter.unusedVariables false
set_option linter.unusedSimpArgs false
attribute [local go_sem] Oper.semAt_some
namespace GlowW
open BlkP RowG

abbrev TAx : TypeId := 69
/-- The three axes of a box. -/
def stA (X Z k : Nat) : Nat := if k = 0 then 1 else if k = 1 then X else X * Z
def lnA (X Y Z k : Nat) : Nat := if k = 0 then X else if k = 1 then Z else Y
def axesV (X Y Z : Nat) : List Value := [i64v 1, i64v X, i64v X, i64v Z, i64v (X * Z), i64v Y]
def atA (X Y Z i k : Nat) : Nat := i / stA X Z k % lnA X Y Z k
def partA (X Y Z i k : Nat) : List Nat := (if 0 < atA X Y Z i k then [i - stA X Z k] else []) ++ (if atA X Y Z i k + 1 < lnA X Y Z k then [i + stA X Z k] else [])
def sidesK (X Y Z i k : Nat) : List Nat := (List.range k).flatMap (partA X Y Z i)
theorem sidesK_succ (X Y Z i k : Nat) : sidesK X Y Z i (k + 1) = sidesK X Y Z i k ++ partA X Y Z i k := by simp [sidesK, List.range_succ]
theorem sidesK_len (X Y Z i : Nat) : ∀ k, (sidesK X Y Z i k).length ≤ 2 * k
  | 0 => by simp [sidesK]
  | k + 1 => by
    have := sidesK_len X Y Z i k
    rw [sidesK_succ, List.length_append]
    unfold partA
    split <;> split <;> simp <;> omega
theorem sidesK_all {X Y Z i : Nat} (h : i < X * Y * Z) : sidesK X Y Z i 3 = GlowP.sides X Y Z i := by
  obtain ⟨_, _, hy⟩ := GlowP.at_box h
  have e : i / (X * Z) % Y = i / X / Z := by rw [← Nat.div_div_eq_div_mul, Nat.mod_eq_of_lt hy]
  simp [sidesK, List.range_succ, partA, atA, stA, lnA, GlowP.sides, e]

theorem part_lt {X Y Z i k s : Nat} (h : i < X * Y * Z) (hk : k < 3) (hs : s ∈ partA X Y Z i k) : s < X * Y * Z := by
  refine GlowP.sides_lt h (s := s) ?_
  rw [← sidesK_all h, sidesK, List.mem_flatMap]
  exact ⟨k, List.mem_range.2 hk, hs⟩
/-- What a round that goes on keeps: the cell's box; all axes. -/
def KpE (E : Nat) (W W' : World) : Prop := W.heap.size ≤ W'.heap.size ∧ (∀ vs, Blk W E 3 vs → Blk W' E 3 vs) ∧ ∀ b vs, Blk W b TAx vs → Blk W' b TAx vs
theorem KpE.refl (E : Nat) (W : World) : KpE E W W := ⟨Nat.le_refl _, fun _ h => h, fun _ _ h => h⟩
theorem KpE.trans {E : Nat} {A B C : World} (h : KpE E A B) (k : KpE E B C) : KpE E A C := ⟨Nat.le_trans h.1 k.1, fun vs q => k.2.1 vs (h.2.1 vs q), fun b vs q => k.2.2 b vs (h.2.2 b vs q)⟩
theorem KpE.grown {E : Nat} {W W' : World} {r : Option Nat} (hg : W.grownBy W' r) (hE : some E ≠ r) (hT : ∀ k vs, r = some k → ¬ Blk W k TAx vs) : KpE E W W' :=
  ⟨hg.size, fun vs h => h.grown hg hE, fun b vs h => h.grown hg (fun e => hT b vs e.symm h)⟩
theorem KpE.put {E : Nat} (W : World) (l : Nat) (o o' : Obj) (h : W.heap[l]? = some o) (ho : o.isCells = false) : KpE E W (W.putObj l o') := by
  have key : ∀ {b : Nat} {T : TypeId} {vs : List Value}, Blk W b T vs → Blk (W.putObj l o') b T vs := fun {b T vs} hb => by
    refine hb.grown (grownBy_putObj' W l o') (fun e => ?_)
    injection e with e
    subst e
    unfold Blk at hb
    rw [h] at hb
    injection hb with hb
    subst hb
    cases ho
  exact ⟨(grownBy_putObj' W l o').size, fun vs => key, fun b vs => key⟩

set_option maxHeartbeats 4000000 in
theorem inside_c {w : World} {X Y Z : Nat} {A : Option Addr} {n c : Nat} (hX : X ≤ 256) (hY : Y ≤ 256) (hZ : Z ≤ 256) :
    Calls Tryd.prog 28 #[.agg #[.int .i64 X, .int .i64 Y, .int .i64 Z, .slice A n c]] w fun e w' => ∃ ga, e = .returned (.func (.func 37) #[] #[.pointer (some ⟨ga, 0, none⟩)]) ∧ Blk w' ga 70 (axesV X Y Z) ∧ Below w.heap.size w w' := by
  have b1 := Nat.mul_le_mul hX hZ
  have e1 : (X : Int) * (Z : Int) = ((X * Z : Nat) : Int) := (Int.natCast_mul X Z).symm
  obtain ⟨q, hq⟩ : ∃ q, X * Z = q := ⟨_, rfl⟩
  rw [hq] at b1 e1
  have HQ := Lib.hid hq
  clear hq
  go_enter Tryd.func28, Tryd.ntmps28
  go_wp2_with fail
  go_ret
  refine ⟨w.heap.size + 1, rfl, ?_, by (repeat' (first | (with_reducible exact Below.refl _ _) | (with_reducible refine Below.setCell ?_ (by (first | omega | (simp; done) | (simp; omega))) _) | (with_reducible refine Below.alloc ?_ (by (first | omega | (simp; done) | (simp; omega))) _) | (with_reducible refine Below.drew ?_) | (with_reducible refine below_drewN ?_ _)))⟩
  rw [axesV, HQ.out]
  (repeat' (first | (with_reducible refine BlkP.Blk.drew ?_) | (with_reducible refine BlkP.Blk.drewN ?_ _) | (with_reducible refine BlkP.Blk.setAt (us := ?_) (by first | omega | (simp; done) | (simp; omega)) rfl ?_ ?_) | (with_reducible refine BlkP.Blk.otherAt ?_ (by first | omega | (simp; done) | (simp; omega))) | (with_reducible refine BlkP.Blk.newA' (by first | omega | (simp; done) | (simp; omega)) rfl) | (with_reducible refine BlkP.Blk.alloc ?_ _) | (exact rfl)))
theorem inside1_c {w : World} {ga i : Nat} :
    Calls Tryd.prog 37 #[.int .i64 i, .pointer (some ⟨ga, 0, none⟩)] w fun e w' => e = .returned (.func (.func 38) #[] #[.pointer (some ⟨ga, 0, none⟩), .pointer (some ⟨w.heap.size, 0, none⟩)]) ∧ w' = w.alloc (.cells #[.int .i64 i] 3) := by
  go_enter Tryd.func37, Tryd.ntmps37
  go_wp2_with fail
  go_ret
  exact ⟨rfl, rfl⟩
theorem idxA (X Y Z : Nat) {k : Nat} (hk : k < 3) : ∀ w, (Instr.index 70 (.agg #[.int .i64 1, .int .i64 X, .int .i64 X, .int .i64 Z, .int .i64 ((X * Z : Nat) : Int), .int .i64 Y]) (.int .i64 (k : Int))).run Tryd.prog w = .ok (.agg #[.int .i64 (stA X Z k : Int), .int .i64 (lnA X Y Z k : Int)]) w := by
  match k, hk with
  | 0, _ => exact fun _ => by kernel_rfl
  | 1, _ => exact fun _ => by kernel_rfl
  | 2, _ => exact fun _ => by kernel_rfl

theorem stA_le {X Z k S : Nat} (hX : 1 ≤ X ∧ X ≤ 256) (hZ : 1 ≤ Z ∧ Z ≤ 256) (h : stA X Z k = S) : 1 ≤ S ∧ S ≤ 65536 := by
  have b1 := Nat.mul_le_mul hX.2 hZ.2
  have b2 := Nat.mul_le_mul hX.1 hZ.1
  subst h
  unfold stA
  split
  · omega
  · split <;> omega
theorem lnA_le {X Y Z k N : Nat} (hX : 1 ≤ X ∧ X ≤ 256) (hY : 1 ≤ Y ∧ Y ≤ 256) (hZ : 1 ≤ Z ∧ Z ≤ 256) (h : lnA X Y Z k = N) : 1 ≤ N ∧ N ≤ 256 := by
  subst h
  unfold lnA
  split
  · omega
  · split <;> omega
theorem box_le {X Y Z i : Nat} (hX : 1 ≤ X ∧ X ≤ 256) (hY : 1 ≤ Y ∧ Y ≤ 256) (hZ : 1 ≤ Z ∧ Z ≤ 256) (h : i < X * Y * Z) : i ≤ 16777216 := by
  have b1 := Nat.mul_le_mul hX.2 hY.2
  have b2 := Nat.mul_le_mul b1 hZ.2
  omega
set_option maxRecDepth 100000 in
set_option maxHeartbeats 4000000 in
theorem each1_in (n : Nat) (hn : 2 ≤ n) (l E ga : Nat) {X Y Z i : Nat} (hX : 1 ≤ X ∧ X ≤ 256) (hY : 1 ≤ Y ∧ Y ≤ 256) (hZ : 1 ≤ Z ∧ Z ≤ 256) (hi : i < X * Y * Z)
    (J Jx : List Nat → World → Prop) (hJa : ∀ pre W W', J pre W → W.grownBy W' none → J pre W')
    (hYd : ∀ pre x W, x < X * Y * Z → J pre W → pre.length < 7 → YieldAt Fence.wide (n - 1) Tryd.prog l #[i64v x] W fun e W' =>
      (e = .returned (.bool true) ∧ J (pre ++ [x]) W' ∧ KpE E W W') ∨ (e = .returned (.bool false) ∧ Jx (pre ++ [x]) W'))
    (W : World) (cE : Blk W E 3 [i64v i]) (cA : Blk W ga 70 (axesV X Y Z)) (h0 : J [] W) :
    CallsIn Fence.wide n Tryd.prog 38 #[.func (.yield l) #[] #[], .pointer (some ⟨ga, 0, none⟩), .pointer (some ⟨E, 0, none⟩)] W fun e W' => (∃ v, e = .returned v) ∧
      ((∃ ys : List Nat, ys = GlowP.sides X Y Z i ∧ J ys W') ∨ (∃ pre : List Nat, True ∧ Jx pre W')) := by
  have a0 := cA.cell (i := 0) (v := .int .i64 (1 : Nat)) rfl
  have a1 := cA.cell (i := 1) (v := .int .i64 X) rfl
  have a2 := cA.cell (i := 2) (v := .int .i64 X) rfl
  have a3 := cA.cell (i := 3) (v := .int .i64 Z) rfl
  have a4 := cA.cell (i := 4) (v := .int .i64 ((X * Z : Nat) : Int)) rfl
  have a5 := cA.cell (i := 5) (v := .int .i64 Y) rfl
  refine callsIn_of_wp Tryd.func38 rfl trivial ?_ rfl
  simp only [Tryd.ntmps38, List.size_toArray, List.length_cons, List.length_nil, Nat.reduceAdd, Nat.reduceSub, Array.replicate_succ, Array.replicate_zero, List.push_toArray, List.append_toArray, List.nil_append, List.cons_append]
  obtain ⟨q, hq⟩ : ∃ q, X * Z = q := ⟨_, rfl⟩
  rw [hq] at a4
  have HQ := Lib.hid hq
  have HI := Lib.hid hi
  clear hq hi
  gi_wp2
  clear a0 a1 a2 a3 a4 a5
  gi_loopw [8] (fun v wr => ∃ k : Nat, v = .int .i64 k ∧ k ≤ 3 ∧ J (sidesK X Y Z i k) wr ∧ Blk wr E 3 [i64v i])
    (fun v _ => 3 - (intOf v).toNat)
  case atStart => exact ⟨0, rfl, by omega, h0, cE⟩
  case round =>
    obtain ⟨k, rfl, hk, hJ, hE⟩ := hrel
    by_cases hk3 : k < 3
    · obtain ⟨S, hS⟩ : ∃ S, stA X Z k = S := ⟨_, rfl⟩
      obtain ⟨N, hN⟩ : ∃ N, lnA X Y Z k = N := ⟨_, rfl⟩
      have hS1 : 1 ≤ S ∧ S ≤ 65536 := stA_le hX hZ hS
      have hN1 : 1 ≤ N ∧ N ≤ 256 := lnA_le hX hY hZ hN
      have hk3I : (k : Int) < 3 := by omega
      have hiM : i ≤ 16777216 := box_le hX hY hZ HI.out
      have hidx := idxA X Y Z hk3
      rw [HQ.out, hS, hN] at hidx
      obtain ⟨a, ha⟩ : ∃ a, i / S % N = a := ⟨_, rfl⟩
      have haN : a < N := by rw [← ha]; exact Nat.mod_lt _ (by omega)
      have hSi : 0 < a → S ≤ i := fun h => by
        apply Classical.byContradiction
        intro hn
        rw [Nat.div_eq_of_lt (by omega), Nat.zero_mod] at ha
        omega
      have HP := Lib.hid (show partA X Y Z i k = (if 0 < a then [i - S] else []) ++ (if a + 1 < N then [i + S] else []) by unfold partA atA; rw [hS, hN, ha])
      have HLT := Lib.hid (fun s (hs : s ∈ partA X Y Z i k) => part_lt HI.out hk3 hs)
      have e0 := hE.cell (i := 0) (v := .int .i64 i) rfl
      have hEl := hE.lt
      have HE := Lib.hid hE
      have HA := Lib.hid ha
      have HKS := Lib.hid hS
      have HKN := Lib.hid hN
      obtain ⟨d, hd⟩ : ∃ d : Nat, i / S = d := ⟨_, rfl⟩
      have hdi : d ≤ i := by rw [← hd]; exact Nat.div_le_self _ _
      have hq1 : (i : Int) / (S : Int) = (d : Int) := by rw [← hd]; rfl
      have hqw : wrap64 (d : Int) = (d : Int) := by unfold wrap64; omega
      have hq2 : (d : Int).tmod N = (a : Int) := by rw [Int.tmod_eq_emod_of_nonneg (Int.natCast_nonneg _), ← ha, hd]; rfl
      clear hd
      clear hS hN ha hE cE cA
      have hJ1 := hJa _ _ (wr.alloc (.cells #[.int .i64 S, .int .i64 N] TAx)) hJ (World.grownBy_alloc wr _ none)
      have HJ1 := Lib.hid hJ1
      have HJA := Lib.hid hJa
      clear hJ hJ1 hJa
      gi_wp2
      have HAX := Lib.hid (Blk.newA' (w := wr) (b := wr.heap.size) (T := TAx) (c := #[.int .i64 S, .int .i64 N]) rfl rfl)
      have HE1 := Lib.hid (HE.out.alloc (.cells #[.int .i64 S, .int .i64 N] TAx))
      have e1 := HE1.out.cell (i := 0) (v := .int .i64 i) rfl
      have x0 := HAX.out.cell (i := 0) (v := .int .i64 S) rfl
      have x1 := HAX.out.cell (i := 1) (v := .int .i64 N) rfl
      obtain ⟨c, hc⟩ : ∃ c, c = wr.heap.size := ⟨_, rfl⟩
      obtain ⟨w1, hw1⟩ : ∃ w1, w1 = wr.alloc (.cells #[.int .i64 S, .int .i64 N] TAx) := ⟨_, rfl⟩
      rw [← hw1] at HAX HE1 HJ1 e1 x0 x1 ⊢
      rw [← hc] at HAX x0 x1 ⊢
      have hcE : c ≠ E := by omega
      clear hw1 e0 hEl hc
      refine wpIn_wide.2 ?_
      go_quiet (fail)
      try simp only [hqw, hq2]
      obtain ⟨w3, hw3⟩ : ∃ w3, w3 = w1.drewN nq := ⟨_, rfl⟩
      have HE3 := Lib.hid (show Blk w3 E 3 [i64v i] by rw [hw3]; exact HE1.out)
      have HA3 := Lib.hid (show Blk w3 c TAx [i64v S, i64v N] by rw [hw3]; exact HAX.out)
      have HJ3 := Lib.hid (show J (sidesK X Y Z i k) w3 by rw [hw3]; exact HJA.out _ _ _ HJ1.out ⟨rfl, rfl, rfl, Nat.le_refl _, fun _ _ _ => rfl⟩)
      rw [← hw3]
      have hl3 := sidesK_len X Y Z i k
      clear hw3 HAX HE1 HJ1 e1 x0 x1 hq1 hq2 hqw
      by_cases h0 : 0 < a
      · have h0I : (0 : Int) < a := by omega
        obtain ⟨x, hx⟩ : ∃ x : Nat, (i : Int) - (S : Int) = x := ⟨i - S, by have := hSi h0; omega⟩
        have HX0 := Lib.hid (show i - S = x by omega)
        have ew3 := HE3.out.cell (i := 0) (v := .int .i64 i) rfl
        have xw3 := HA3.out.cell (i := 0) (v := .int .i64 S) rfl
        have yw3 := HA3.out.cell (i := 1) (v := .int .i64 N) rfl
        obtain ⟨fn, tmps, assign, body, hy, hR⟩ := hYd (sidesK X Y Z i k) x w3 (HLT.out _ (by rw [HP.out]; simp [h0, HX0.out])) HJ3.out (by omega)
        dsimp only [i64v] at hy
        gi_wp2
        refine ⟨fun _ => by omega, hR.mono ?_⟩
        rintro e w4 (⟨rfl, hJ4, hk4⟩ | ⟨rfl, hJx4⟩)
        · have HJ4 := Lib.hid hJ4
          have HE4 := Lib.hid (hk4.2.1 _ HE3.out)
          have HA4 := Lib.hid (hk4.2.2 _ _ HA3.out)
          clear hJ4 hk4 ew3 xw3 yw3 hy hR hx
          by_cases h1 : a + 1 < N
          · have h1I : (a : Int) < (N : Int) - 1 := by omega
            obtain ⟨y, hx⟩ : ∃ y : Nat, (i : Int) + (S : Int) = y := ⟨i + S, by omega⟩
            have HX := Lib.hid (show i + S = y by omega)
            have e5 := HE4.out.cell (i := 0) (v := .int .i64 i) rfl
            have x5 := HA4.out.cell (i := 0) (v := .int .i64 S) rfl
            have y5 := HA4.out.cell (i := 1) (v := .int .i64 N) rfl
            obtain ⟨fn, tmps, assign, body, hy, hR⟩ := hYd (sidesK X Y Z i k ++ [x]) y w4 (HLT.out _ (by rw [HP.out]; simp [h1, HX.out])) HJ4.out (by (try simp); omega)
            dsimp only [i64v] at hy
            gi_wp2
            refine ⟨fun _ => by omega, hR.mono ?_⟩
            rintro e w5 (⟨rfl, hJ5, hk5⟩ | ⟨rfl, hJx5⟩)
            · have HJ5 := Lib.hid hJ5
              have HE5 := Lib.hid (hk5.2.1 _ HE4.out)
              clear hJ5 hk5 e5 x5 y5 hy hR hx
              gi_wp2
              go_roundw
              case rel => exact ⟨k + 1, by go_num, by omega, by rw [sidesK_succ, HP.out, if_pos h0, HX0.out, if_pos h1, HX.out]; first | (simpa using HJ5.out) | exact HJ5.out, HE5.out⟩
              case measure => (simp only [intOf]; omega)
            · gi_wp2
              refine bodyPost_ret (results_none rfl _ _ _) rfl ?_
              exact ⟨⟨_, rfl⟩, .inr ⟨_, trivial, hJx5⟩⟩
          · have h1I : ¬ (a : Int) < (N : Int) - 1 := by omega
            have hd : decide ((a : Int) < (N : Int) - 1) = false := decide_eq_false h1I
            have y5 := HA4.out.cell (i := 1) (v := .int .i64 N) rfl
            gi_wp2
            try (refine ⟨fun _ h => (by cases h), ?_⟩; gi_wp2)
            go_roundw
            case rel => exact ⟨k + 1, by go_num, by omega, by rw [sidesK_succ, HP.out, if_pos h0, HX0.out, if_neg h1]; first | (simpa using HJ4.out) | exact HJ4.out, HE4.out⟩
            case measure => (simp only [intOf]; omega)
        · gi_wp2
          refine bodyPost_ret (results_none rfl _ _ _) rfl ?_
          exact ⟨⟨_, rfl⟩, .inr ⟨_, trivial, hJx4⟩⟩
      · have h0I : ¬ (0 : Int) < a := by omega
        have hd0 : decide ((0 : Int) < a) = false := decide_eq_false h0I
        gi_wp2
        refine ⟨fun _ h => (by cases h), ?_⟩
        by_cases h1 : a + 1 < N
        · have h1I : (a : Int) < (N : Int) - 1 := by omega
          obtain ⟨x, hx⟩ : ∃ x : Nat, (i : Int) + (S : Int) = x := ⟨i + S, by omega⟩
          have HX := Lib.hid (show i + S = x by omega)
          have e5 := HE3.out.cell (i := 0) (v := .int .i64 i) rfl
          have x5 := HA3.out.cell (i := 0) (v := .int .i64 S) rfl
          have y5 := HA3.out.cell (i := 1) (v := .int .i64 N) rfl
          obtain ⟨fn, tmps, assign, body, hy, hR⟩ := hYd (sidesK X Y Z i k) x w3 (HLT.out _ (by rw [HP.out]; simp [h1, HX.out])) HJ3.out (by (try simp); omega)
          dsimp only [i64v] at hy
          gi_wp2
          refine ⟨fun _ => by omega, hR.mono ?_⟩
          rintro e w5 (⟨rfl, hJ5, hk5⟩ | ⟨rfl, hJx5⟩)
          · have HJ5 := Lib.hid hJ5
            have HE5 := Lib.hid (hk5.2.1 _ HE3.out)
            clear hJ5 hk5 e5 x5 y5 hy hR hx
            gi_wp2
            go_roundw
            case rel => exact ⟨k + 1, by go_num, by omega, by rw [sidesK_succ, HP.out, if_neg h0, if_pos h1, HX.out]; first | (simpa using HJ5.out) | exact HJ5.out, HE5.out⟩
            case measure => (simp only [intOf]; omega)
          · gi_wp2
            refine bodyPost_ret (results_none rfl _ _ _) rfl ?_
            exact ⟨⟨_, rfl⟩, .inr ⟨_, trivial, hJx5⟩⟩
        · have h1I : ¬ (a : Int) < (N : Int) - 1 := by omega
          have hd : decide ((a : Int) < (N : Int) - 1) = false := decide_eq_false h1I
          have y5 := HA3.out.cell (i := 1) (v := .int .i64 N) rfl
          gi_wp2
          try (refine ⟨fun _ h => (by cases h), ?_⟩; gi_wp2)
          go_roundw
          case rel => exact ⟨k + 1, by go_num, by omega, by rw [sidesK_succ, HP.out, if_neg h0, if_neg h1]; first | (simpa using HJ3.out) | exact HJ3.out, HE3.out⟩
          case measure => (simp only [intOf]; omega)
    · obtain rfl : k = 3 := by omega
      gi_wp2
      go_end0
      exact ⟨⟨_, rfl⟩, .inl ⟨_, sidesK_all HI.out, hJ⟩⟩

/-- A cell's number in the box. -/
abbrev Num (M : Nat) := { s : Nat // s < M }
theorem each_stops (n : Nat) (hn : 2 ≤ n) (E ga : Nat) {X Y Z i : Nat} (hX : 1 ≤ X ∧ X ≤ 256) (hY : 1 ≤ Y ∧ Y ≤ 256) (hZ : 1 ≤ Z ∧ Z ≤ 256) (hi : i < X * Y * Z) {w1 : World}
    (cE : Blk w1 E 3 [i64v i]) (cA : Blk w1 ga 70 (axesV X Y Z)) :
    SeqStopsK Fence.wide n Tryd.prog 38 #[.pointer (some ⟨ga, 0, none⟩), .pointer (some ⟨E, 0, none⟩)] (fun x : Num (X * Y * Z) => #[i64v x.1]) (KpE E) (fun ys => ys.map (·.1) = GlowP.sides X Y Z i) (fun _ => True) 7 w1 := by
  intro l J Jx W hW hJ hJx hY2 h0
  refine (each1_in n hn l E ga hX hY hZ hi (fun pre W => ∃ ps : List (Num (X * Y * Z)), ps.map (·.1) = pre ∧ J ps W) (fun pre W => ∃ ps : List (Num (X * Y * Z)), ps.map (·.1) = pre ∧ Jx ps W) (fun pre A B ⟨ps, e, h⟩ hg => ⟨ps, e, hJ ps A B none h hg (fun r e => by cases e)⟩) ?_ W (cE.below hW) (cA.below hW) ⟨[], rfl, h0⟩).mono ?_
  · rintro pre x W1 hx ⟨ps, rfl, hj⟩ hl
    refine (hY2 ps ⟨x, hx⟩ W1 hj (by simpa using hl)).mono ?_
    rintro e W' (⟨rfl, h1, h2⟩ | ⟨rfl, h1⟩)
    · exact .inl ⟨rfl, ⟨ps ++ [⟨x, hx⟩], by simp, h1⟩, h2⟩
    · exact .inr ⟨rfl, ⟨ps ++ [⟨x, hx⟩], by simp, h1⟩⟩
  · rintro e W' ⟨hv, (⟨ys, rfl, ps, e1, h1⟩ | ⟨pre, _, ps, rfl, h1⟩)⟩
    · exact ⟨hv, .inl ⟨ps, e1, h1⟩⟩
    · exact ⟨hv, .inr ⟨ps, trivial, h1⟩⟩
end GlowW
end Go.Proofs.YtbkadecfmjjadaaDoor
