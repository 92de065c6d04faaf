/-
  The iterator of a box: what it hands its rounds, one by one, however they go on.
-/
import Derived.RangeFuncNested
import Derived.RangeFuncBound
import Derived.RangeFuncCalls
import Derived.RangeFuncLeaves
import Derived.Shelf.Abstract
import Derived.Shelf.RegionOpen
import Derived.WalkKit
import Derived.OwnWalkIn
import Derived.TacticsInMore
import Derived.LoopNIn
import Derived.LoopIn
import Derived.Test.YtokkomglbddgcaaPlaceBox
import Derived.Test.YtokkomglbddgcaaPlaceSeq
namespace Go

theorem stepR_scope {P : Program} {b : Frame} {a : Act} {k : List Item} {cs : List Frame} {w : World} {c : Code} : step P (lone (b.atR a (.code (.scope c) :: k)) cs w) = .next (lone (b.atR a (.code c :: .inScope c :: k)) cs w) :=
  step_lone_go (by simp [stepG, stepG.exec, Frame.atR])
theorem stepR_inScope {P : Program} {b : Frame} {a : Act} {k : List Item} {cs : List Frame} {w : World} {c : Code} : step P (lone (b.atR a (.inScope c :: k)) cs w) = .next (lone (b.atR a k) cs w) :=
  step_lone_go (by simp [stepG, stepG.exec, Frame.atR])
/-- A scope through which the run goes without a goto, inside a fence. -/
theorem wpIn_scope_straight {F : Fence} {n : Nat} {P : Program} {Q : Exit → Act → World → Prop} {a : Act} {w : World} {c : Code} (h : c.wpIn F n P (Exit.noGoto Q) a w) : (Code.scope c).wpIn F n P Q a w := by
  intro b k cs hro hb hr
  have h0 : (lone (b.atR a (.code (.scope c) :: k)) cs w).fenced P F := fenced_calm hb hr rfl
  obtain ⟨e, a₁, w₁, hq, harr⟩ := h b (.inScope c :: k) cs hro hb hr
  cases e with
  | normal => exact ⟨.normal, a₁, w₁, hq, .head h0 stepR_scope (StepsIn.trans harr (.one (fenced_calm hb hr rfl) stepR_inScope))⟩
  | exit id =>
    have hx : exitTo id (.inScope c :: k) = exitTo id k := by simp [exitTo]
    exact ⟨.exit id, a₁, w₁, hq, fun k' hk => .head h0 stepR_scope (harr.1 k' (by rw [hx]; exact hk)),
      fun hr' hk => let ⟨k₁, h1, h2⟩ := harr.2 hr' (by rw [hx]; exact hk); ⟨k₁, h1, .head h0 stepR_scope h2⟩⟩
  | goto l => exact hq.elim
  | ret => exact ⟨_, a₁, w₁, hq, .of_steps (.one h0 stepR_scope) harr⟩
  | panic ch => exact ⟨_, a₁, w₁, hq, .of_steps (.one h0 stepR_scope) harr⟩
  | outgrown => exact ⟨_, a₁, w₁, hq, .of_steps (.one h0 stepR_scope) harr⟩
end Go
namespace Go.Proofs.Ytokkomglbddgcaa
open Go.RowKit Go.Shelf
set_option linter.unusedSimpArgs false
set_option linter.unusedVariables false
attribute [local go_sem] Oper.semAt_some
namespace PlaceW

theorem noGoto_normal {Q : Exit → Act → World → Prop} {a : Act} {w : World} (h : Q .normal a w) : Exit.noGoto Q .normal a w := h
theorem noGoto_ret {Q : Exit → Act → World → Prop} {a : Act} {w : World} (h : Q .ret a w) : Exit.noGoto Q .ret a w := h
def encP (p : Int × Int × Int) : Array Value := #[.agg #[.int .i64 p.1, .int .i64 p.2.1, .int .i64 p.2.2]]

set_option maxRecDepth 100000 in
set_option maxHeartbeats 2000000 in
theorem each1_in (F : Fence) (n : Nat) (hF : F.fn 47) (hro : F.round = none) (hn : 1 ≤ n) (l E L H n₀ : Nat) (l1 l2 l3 h1 h2 h3 : Int) (nx ny nz : Nat)
    (hx : h1 = l1 + nx - 1) (hy : h2 = l2 + ny - 1) (hz : h3 = l3 + nz - 1) (b1 : -1048576 ≤ l1) (b2 : -1048576 ≤ l2) (b3 : -1048576 ≤ l3) (c1 : h1 < 1048576) (c2 : h2 < 1048576) (c3 : h3 < 1048576)
    (J Jx : List (Int × Int × Int) → World → Prop)
    (hY : ∀ pre x W, J pre W → pre.length < (boxL l1 l2 l3 nx nz ny).length → YieldAt F (n - 1) Try.prog l (encP x) W fun e W' =>
      (e = .returned (.bool true) ∧ J (pre ++ [x]) W' ∧ Below n₀ W W') ∨ (e = .returned (.bool false) ∧ Jx (pre ++ [x]) W'))
    (W : World) (hE : E < n₀) (hL : L < n₀) (hH : H < n₀) (cE : W.cell? ⟨E, 0, none⟩ = some (.int .i64 0))
    (cL0 : W.cell? ⟨L, 0, none⟩ = some (.int .i64 l1)) (cL1 : W.cell? ⟨L, 1, none⟩ = some (.int .i64 l2)) (cL2 : W.cell? ⟨L, 2, none⟩ = some (.int .i64 l3))
    (cH0 : W.cell? ⟨H, 0, none⟩ = some (.int .i64 h1)) (cH1 : W.cell? ⟨H, 1, none⟩ = some (.int .i64 h2)) (cH2 : W.cell? ⟨H, 2, none⟩ = some (.int .i64 h3)) (h0 : J [] W) :
    CallsIn F n Try.prog 47 #[.func (.yield l) #[] #[], .pointer (some ⟨E, 0, none⟩), .pointer (some ⟨L, 0, none⟩), .pointer (some ⟨H, 0, none⟩)] W fun e W' => (∃ v, e = .returned v) ∧
      ((∃ ys, ys = boxL l1 l2 l3 nx nz ny ∧ J ys W') ∨ (∃ pre, pre <+: boxL l1 l2 l3 nx nz ny ∧ Jx pre W')) := by
  have HX := Lib.hid hx
  have HY := Lib.hid hy
  have HZ := Lib.hid hz
  clear hx hy hz
  refine callsIn_of_wp Try.func47 rfl hF ?_ hro
  simp only [Try.ntmps47, List.size_toArray, List.length_cons, List.length_nil, Nat.reduceAdd, Nat.reduceSub, Array.replicate_succ, Array.replicate_zero, List.push_toArray, List.append_toArray, List.nil_append, List.cons_append]
  refine wpIn_scope_straight ?_
  have hq : ∀ w, (binOp .eql 31 (.func (.yield l) #[] #[]) Value.nilFunc).run Try.prog w = .ok (.bool false) w := fun _ => by kernel_rfl
  gi_wp2
  refine wpIn_label ?_
  clear hq
  have hB0 : Below n₀ W W := Below.refl _ _
  gi_wp2
  gi_loopw [5] (fun y wr => ∃ k : Nat, k ≤ ny ∧ y = .int .i64 (l2 + k) ∧ J (boxL l1 l2 l3 nx nz k) wr ∧ Below n₀ W wr) (fun y _ => (h2 + 1 - intOf y).toNat)
  case atStart => exact ⟨0, Nat.zero_le _, by simp, h0, hB0⟩
  case round =>
    obtain ⟨k, hk, rfl, hJ, hB⟩ := hrel
    have d0 := (hB.cell (p := ⟨L, 0, none⟩) hL).trans cL0
    have d1 := (hB.cell (p := ⟨L, 1, none⟩) hL).trans cL1
    have d2 := (hB.cell (p := ⟨L, 2, none⟩) hL).trans cL2
    have g0 := (hB.cell (p := ⟨H, 0, none⟩) hH).trans cH0
    have g1 := (hB.cell (p := ⟨H, 1, none⟩) hH).trans cH1
    have g2 := (hB.cell (p := ⟨H, 2, none⟩) hH).trans cH2
    by_cases hlt : k < ny
    · have q1 : l2 + (k : Int) ≤ h2 := by have := HY.out; omega
      have t1 : decide (l2 + (k : Int) ≤ h2) = true := decide_eq_true q1
      gi_wp2
      clear d0 d1 d2 g0 g1 g2
      obtain ⟨wo, rfl⟩ : ∃ wo : World, wo = wr := ⟨_, rfl⟩
      gi_loopw [6] (fun z wr => ∃ m : Nat, m ≤ nz ∧ z = .int .i64 (l3 + m) ∧ J (boxL l1 l2 l3 nx nz k ++ layZ l1 l3 (l2 + k) nx m) wr ∧ Below n₀ W wr) (fun z _ => (h3 + 1 - intOf z).toNat)
      case atStart => exact ⟨0, Nat.zero_le _, by simp, by simpa [layZ] using hJ, hB⟩
      case round =>
        clear hJ hB
        obtain ⟨m, hm, rfl, hJ, hB⟩ := hrel
        have d0 := (hB.cell (p := ⟨L, 0, none⟩) hL).trans cL0
        have d1 := (hB.cell (p := ⟨L, 1, none⟩) hL).trans cL1
        have d2 := (hB.cell (p := ⟨L, 2, none⟩) hL).trans cL2
        have g0 := (hB.cell (p := ⟨H, 0, none⟩) hH).trans cH0
        have g1 := (hB.cell (p := ⟨H, 1, none⟩) hH).trans cH1
        have g2 := (hB.cell (p := ⟨H, 2, none⟩) hH).trans cH2
        by_cases hlm : m < nz
        · have q2 : l3 + (m : Int) ≤ h3 := by have := HZ.out; omega
          have t2 : decide (l3 + (m : Int) ≤ h3) = true := decide_eq_true q2
          gi_wp2
          clear d0 d1 d2 g0 g1 g2
          obtain ⟨wp, rfl⟩ : ∃ wp : World, wp = wr := ⟨_, rfl⟩
          gi_loopw [7] (fun x wr => ∃ j : Nat, j ≤ nx ∧ x = .int .i64 (l1 + j) ∧ J (boxL l1 l2 l3 nx nz k ++ (layZ l1 l3 (l2 + k) nx m ++ rowX l1 (l2 + k) (l3 + m) j)) wr ∧ Below n₀ W wr) (fun x _ => (h1 + 1 - intOf x).toNat)
          case atStart => exact ⟨0, Nat.zero_le _, by simp, by simpa [rowX] using hJ, hB⟩
          case round =>
            clear hJ hB
            obtain ⟨j, hj, rfl, hJ, hB⟩ := hrel
            have d0 := (hB.cell (p := ⟨L, 0, none⟩) hL).trans cL0
            have d1 := (hB.cell (p := ⟨L, 1, none⟩) hL).trans cL1
            have d2 := (hB.cell (p := ⟨L, 2, none⟩) hL).trans cL2
            have g0 := (hB.cell (p := ⟨H, 0, none⟩) hH).trans cH0
            have g1 := (hB.cell (p := ⟨H, 1, none⟩) hH).trans cH1
            have g2 := (hB.cell (p := ⟨H, 2, none⟩) hH).trans cH2
            by_cases hlj : j < nx
            · have q3 : l1 + (j : Int) ≤ h1 := by have := HX.out; omega
              have t3 : decide (l1 + (j : Int) ≤ h1) = true := decide_eq_true q3
              have hpre := box_here l1 l2 l3 hlj hlm hlt
              obtain ⟨fn, tmps, assign, body, hy', hR⟩ := hY _ (l1 + j, l2 + k, l3 + m) wr hJ (by
                have := hpre.length_le
                simp at this ⊢
                omega)
              dsimp only [encP] at hy'
              have HP := Lib.hid hpre
              clear hpre
              gi_wp2
              refine hR.mono ?_
              rintro e W3 (⟨rfl, hJ3, hk3⟩ | ⟨rfl, hJx3⟩)
              · gi_wp2
                go_roundw
                case rel => exact ⟨j + 1, by omega, by go_num, by rw [rowX_succ]; simpa [List.append_assoc] using hJ3, hB.trans hk3⟩
                case measure => (simp only [intOf]; omega)
              · gi_wp2
                refine noGoto_normal ?_
                go_end0
                exact ⟨⟨_, rfl⟩, .inr ⟨_, HP.out, hJx3⟩⟩
            · obtain rfl : j = nx := by omega
              have q3 : h1 < l1 + (j : Int) := by have := HX.out; omega
              gi_wp2
              go_roundw
              case rel => exact ⟨m + 1, by omega, by go_num, by rw [layZ_succ]; exact hJ, hB⟩
              case measure => (simp only [intOf]; omega)
        · obtain rfl : m = nz := by omega
          have q2 : h3 < l3 + (m : Int) := by have := HZ.out; omega
          gi_wp2
          go_roundw
          case rel => exact ⟨k + 1, by omega, by go_num, by rw [boxL_succ]; exact hJ, hB⟩
          case measure => (simp only [intOf]; omega)
    · obtain rfl : k = ny := by omega
      have q1 : h2 < l2 + (k : Int) := by have := HY.out; omega
      gi_wp2
      refine noGoto_normal ?_
      go_end0
      exact ⟨⟨_, rfl⟩, .inl ⟨_, rfl, hJ⟩⟩
end PlaceW
end Go.Proofs.Ytokkomglbddgcaa
