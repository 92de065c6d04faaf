/-
  bedrocklaw10.sides, open, gap.
-/
import Derived.Test.YtbkadecfmjjadaaDoorGlowCells
import Derived.Test.YtbkadecfmjjadaaDoorGlowSpreadM
import Derived.Deep.Cut
import Derived.Deep.CutRange
import Derived.BigQuiet
namespace Go.Proofs.YtbkadecfmjjadaaDoor
open Go.RowKit
set_option linter.unusedVariables false
set_option linter.unusedSimpArgs false
namespace GlowW
open BlkP RowG KindP KindW

theorem wrap_small {d : Nat} (h : d ≤ 16777216) : IntKind.i64.wrap (d : Int) = (d : Int) := BitsP.wrapI_small (by omega) (by omega)
def SidR (W0 : World) (pre : List Nat) (v : Value) (W : World) : Prop := RowG.Own encN 3 W W0.heap.size v pre ∧ Below W0.heap.size W0 W
set_option maxRecDepth 100000 in
set_option maxHeartbeats 16000000 in
theorem sides_c {w : World} {X Y Z i n c : Nat} {A : Option Addr} (hX : 1 ≤ X ∧ X ≤ 256) (hY : 1 ≤ Y ∧ Y ≤ 256) (hZ : 1 ≤ Z ∧ Z ≤ 256) (hi : i < X * Y * Z) :
    Calls Tryd.prog 19 #[.agg #[.int .i64 X, .int .i64 Y, .int .i64 Z, .slice A n c], .int .i64 i] w fun e w' => ∃ v, e = .returned v ∧ RowG.Own encN 3 w' w.heap.size v (GlowP.sides X Y Z i) ∧ Below w.heap.size w w' := by
  have hiM := box_le hX hY hZ hi
  obtain ⟨hx, hz, hy⟩ := GlowP.at_box hi
  obtain ⟨SD, hSD⟩ : ∃ SD, GlowP.sides X Y Z i = SD := ⟨_, rfl⟩
  rw [hSD]
  unfold GlowP.sides at hSD
  obtain ⟨d, hd⟩ : ∃ d, i / X = d := ⟨_, rfl⟩
  obtain ⟨x, hx1⟩ : ∃ x, i % X = x := ⟨_, rfl⟩
  rw [hd] at hz hy hSD
  rw [hx1] at hx hSD
  obtain ⟨z, hz1⟩ : ∃ z, d % Z = z := ⟨_, rfl⟩
  obtain ⟨y, hy1⟩ : ∃ y, d / Z = y := ⟨_, rfl⟩
  rw [hz1] at hz hSD
  rw [hy1] at hy hSD
  have hdi : d ≤ i := by rw [← hd]; exact Nat.div_le_self _ _
  have hyd : y ≤ d := by rw [← hy1]; exact Nat.div_le_self _ _
  have m1 : (i : Int).tmod X = (x : Int) := by rw [Int.tmod_eq_emod_of_nonneg (Int.natCast_nonneg _), ← hx1]; rfl
  have q1 : (i : Int) / (X : Int) = (d : Int) := by rw [← hd]; rfl
  have m2 : (d : Int).tmod Z = (z : Int) := by rw [Int.tmod_eq_emod_of_nonneg (Int.natCast_nonneg _), ← hz1]; rfl
  have q2 : (d : Int) / (Z : Int) = (y : Int) := by rw [← hy1]; rfl
  have w1 : wrap64 (d : Int) = (d : Int) := by unfold wrap64; omega
  have w2 : wrap64 (y : Int) = (y : Int) := by unfold wrap64; omega
  have V1 := Lib.hid (wrap_small (Nat.le_trans hdi hiM))
  have V2 := Lib.hid (wrap_small (Nat.le_trans (Nat.le_trans hyd hdi) hiM))
  have hXN : ¬ X = 0 := by omega
  have hZN : ¬ Z = 0 := by omega
  have hXI : ¬ (X : Int) = 0 := by omega
  have hZI : ¬ (Z : Int) = 0 := by omega
  have hxi : x ≤ i := by rw [← hx1]; exact Nat.mod_le _ _
  obtain ⟨S, hS⟩ : ∃ S, X * Z = S := ⟨_, rfl⟩
  have hSM : S ≤ 65536 := by have := Nat.mul_le_mul hX.2 hZ.2; omega
  have e1 : (X : Int) * (Z : Int) = (S : Int) := by rw [← hS]; simp
  rw [hS] at hSD
  have g1 : 0 < x → 1 ≤ i := fun h => Nat.le_trans h hxi
  have g2 : 0 < z → X ≤ i := fun h => by
    apply Classical.byContradiction
    intro q
    rw [Nat.div_eq_of_lt (Nat.lt_of_not_le q)] at hd
    subst hd
    rw [Nat.zero_mod] at hz1
    exact absurd hz1 (Nat.ne_of_lt h)
  have g3 : 0 < y → S ≤ i := fun h => by
    apply Classical.byContradiction
    intro q
    have : i / X / Z = 0 := by rw [Nat.div_div_eq_div_mul]; exact Nat.div_eq_of_lt (by rw [hS]; exact Nat.lt_of_not_le q)
    rw [hd, hy1] at this
    exact absurd this (Nat.ne_of_gt h)
  have HSD := Lib.hid hSD
  have G1 := Lib.hid g1
  have G2 := Lib.hid g2
  have G3 := Lib.hid g3
  clear hSD hd hx1 hz1 hy1 hi hS g1 g2 g3
  have HQ1 := Lib.hid q1
  have HQ2 := Lib.hid q2
  have HM1 := Lib.hid m1
  have HM2 := Lib.hid m2
  have HW1' := Lib.hid w1
  have HW2' := Lib.hid w2
  have HE1 := Lib.hid e1
  have HPRE := Lib.hid (And.intro hX (And.intro hY (And.intro hZ (And.intro hiM (And.intro hx (And.intro hz (And.intro hy (And.intro hdi (And.intro hyd (And.intro hxi (And.intro hSM (And.intro hXN (And.intro hZN (And.intro hXI hZI))))))))))))))
  clear q1 q2 m1 m2 w1 w2 e1 hX hY hZ hiM hx hz hy hdi hyd hxi hSM hXN hZN hXI hZI
  go_enter Tryd.func19, Tryd.ntmps19
  go_wp2_with fail
  refine HeldP.wp_named (fun W => W.cell? ⟨w.heap.size, 0, none⟩ = some (.int .i64 X) ∧ W.cell? ⟨w.heap.size, 1, none⟩ = some (.int .i64 Y) ∧ W.cell? ⟨w.heap.size, 2, none⟩ = some (.int .i64 Z) ∧ w.heap.size < W.heap.size ∧ Below w.heap.size w W) (by (refine ⟨?_, ?_, ?_, ?_, by (repeat' (first | (with_reducible exact Below.refl _ _) | (with_reducible refine Below.setCell ?_ (by (first | omega | (simp; done) | (simp; omega))) _) | (with_reducible refine Below.alloc ?_ (by (first | omega | (simp; done) | (simp; omega))) _) | (with_reducible refine Below.drew ?_) | (with_reducible refine below_drewN ?_ _)))⟩); all_goals (repeat' (first | (with_reducible assumption) | (with_reducible refine HeldP.c_drew ?_) | (with_reducible refine HeldP.c_drewN ?_) | (with_reducible refine HeldP.c_same (by omega) ?_) | (with_reducible refine HeldP.c_other ?_ ?_) | (with_reducible refine HeldP.c_new (by first | omega | (simp; done) | (simp; omega)) ?_) | (with_reducible refine HeldP.c_alloc ?_ ?_) | (with_reducible refine HeldP.e_drew ?_) | (with_reducible refine HeldP.e_drewN ?_) | (with_reducible refine HeldP.e_set ?_) | (with_reducible refine HeldP.e_new (by first | omega | (simp; done) | (simp; omega)) ⟨_, rfl⟩) | (with_reducible refine HeldP.e_alloc ?_ ?_) | (with_reducible refine HeldP.f_drew ?_) | (with_reducible refine HeldP.f_drewN ?_) | (with_reducible refine HeldP.f_set ?_) | (with_reducible refine HeldP.f_new (by first | omega | (simp; done) | (simp; omega))) | (with_reducible refine HeldP.f_alloc ?_ ?_) | (with_reducible refine HeldP.s_drew ?_) | (with_reducible refine HeldP.s_drewN ?_) | (with_reducible refine HeldP.s_set ?_) | (with_reducible refine HeldP.s_new (by first | omega | (simp; done) | (simp; omega))) | (with_reducible refine HeldP.s_alloc ?_) | (with_reducible exact ⟨_, by assumption⟩) | omega | (intro e; simp at e; done) | (intro e; simp at e; omega) | (exact rfl) | (simp; done) | (simp; omega)))) ?_
  rintro W0 ⟨k0, k1, k2, hz0, hb0⟩
  have HB0 := Lib.hid hb0
  clear hb0
  obtain ⟨hX, hY, hZ, hiM, hx, hz, hy, hdi, hyd, hxi, hSM, hXN, hZN, hXI, hZI⟩ := HPRE.out
  have q1 := HQ1.out
  have q2 := HQ2.out
  have m1 := HM1.out
  have m2 := HM2.out
  have w1 := HW1'.out
  have w2 := HW2'.out
  have e1 := HE1.out
  refine wp_region_noPanic ?_
  refine wp_region_held_drew (S := fun W => Below W0.heap.size W0 W) (by kernel_rfl) ((Below.refl _ W0).drew) (fun hHeld => ?_)
  refine wpAnyH_take (i := 0) (oi := ⟨some 9, _, _, _, _, _⟩) (v := .int .i64 i) rfl (by kernel_rfl) (by kernel_rfl) (by kernel_rfl) (fun _ _ _ h => h) (Or.inl ⟨by rfl, fun W hSW => by go_simp⟩) hHeld ?_
  simp only [Act.put, List.setIfInBounds_toArray, List.set_cons_zero, List.set_cons_succ]
  refine wpAnyH_take (i := 1) (oi := ⟨some 10, _, _, _, _, _⟩) (v := .pointer (some ⟨w.heap.size, 0, none⟩)) rfl (by kernel_rfl) (by kernel_rfl) (by kernel_rfl) (fun _ _ _ h => h) (Or.inl ⟨by rfl, fun W hSW => by go_simp⟩) hHeld ?_
  simp only [Act.put, List.setIfInBounds_toArray, List.set_cons_zero, List.set_cons_succ]
  refine wpAnyH_take (i := 2) (oi := ⟨some 11, _, _, _, _, _⟩) (v := .int .i64 X) rfl (by kernel_rfl) (by kernel_rfl) (by kernel_rfl) (fun _ _ _ h => h) (Or.inl ⟨by rfl, fun W hSW => by have a0 := (hSW.cell (p := ⟨w.heap.size, 0, none⟩) hz0).trans k0; go_simp⟩) hHeld ?_
  simp only [Act.put, List.setIfInBounds_toArray, List.set_cons_zero, List.set_cons_succ]
  refine wpAnyH_take (i := 3) (oi := ⟨some 12, _, _, _, _, _⟩) (v := .int .i64 x) rfl (by kernel_rfl) (by kernel_rfl) (by kernel_rfl) (fun _ _ _ h => h) (Or.inl ⟨by rfl, fun W hSW => by go_simp⟩) hHeld ?_
  simp only [Act.put, List.setIfInBounds_toArray, List.set_cons_zero, List.set_cons_succ]
  refine wpAnyH_take (i := 4) (oi := ⟨some 13, _, _, _, _, _⟩) (v := .int .i64 i) rfl (by kernel_rfl) (by kernel_rfl) (by kernel_rfl) (fun _ _ _ h => h) (Or.inl ⟨by rfl, fun W hSW => by go_simp⟩) hHeld ?_
  simp only [Act.put, List.setIfInBounds_toArray, List.set_cons_zero, List.set_cons_succ]
  refine wpAnyH_take (i := 5) (oi := ⟨some 14, _, _, _, _, _⟩) (v := .pointer (some ⟨w.heap.size, 0, none⟩)) rfl (by kernel_rfl) (by kernel_rfl) (by kernel_rfl) (fun _ _ _ h => h) (Or.inl ⟨by rfl, fun W hSW => by go_simp⟩) hHeld ?_
  simp only [Act.put, List.setIfInBounds_toArray, List.set_cons_zero, List.set_cons_succ]
  refine wpAnyH_take (i := 6) (oi := ⟨some 15, _, _, _, _, _⟩) (v := .int .i64 X) rfl (by kernel_rfl) (by kernel_rfl) (by kernel_rfl) (fun _ _ _ h => h) (Or.inl ⟨by rfl, fun W hSW => by have a0 := (hSW.cell (p := ⟨w.heap.size, 0, none⟩) hz0).trans k0; go_simp⟩) hHeld ?_
  simp only [Act.put, List.setIfInBounds_toArray, List.set_cons_zero, List.set_cons_succ]
  refine wpAnyH_take (i := 7) (oi := ⟨some 16, _, _, _, _, _⟩) (v := .int .i64 d) rfl (by kernel_rfl) (by kernel_rfl) (by kernel_rfl) (fun _ _ _ h => h) (Or.inl ⟨by rfl, fun W hSW => by go_simp <;> exact V1.out⟩) hHeld ?_
  simp only [Act.put, List.setIfInBounds_toArray, List.set_cons_zero, List.set_cons_succ]
  refine wpAnyH_take (i := 8) (oi := ⟨some 17, _, _, _, _, _⟩) (v := .pointer (some ⟨w.heap.size, 2, none⟩)) rfl (by kernel_rfl) (by kernel_rfl) (by kernel_rfl) (fun _ _ _ h => h) (Or.inl ⟨by rfl, fun W hSW => by go_simp⟩) hHeld ?_
  simp only [Act.put, List.setIfInBounds_toArray, List.set_cons_zero, List.set_cons_succ]
  refine wpAnyH_take (i := 9) (oi := ⟨some 18, _, _, _, _, _⟩) (v := .int .i64 Z) rfl (by kernel_rfl) (by kernel_rfl) (by kernel_rfl) (fun _ _ _ h => h) (Or.inl ⟨by rfl, fun W hSW => by have a0 := (hSW.cell (p := ⟨w.heap.size, 2, none⟩) hz0).trans k2; go_simp⟩) hHeld ?_
  simp only [Act.put, List.setIfInBounds_toArray, List.set_cons_zero, List.set_cons_succ]
  refine wpAnyH_take (i := 10) (oi := ⟨some 19, _, _, _, _, _⟩) (v := .int .i64 z) rfl (by kernel_rfl) (by kernel_rfl) (by kernel_rfl) (fun _ _ _ h => h) (Or.inl ⟨by rfl, fun W hSW => by go_simp⟩) hHeld ?_
  simp only [Act.put, List.setIfInBounds_toArray, List.set_cons_zero, List.set_cons_succ]
  refine wpAnyH_take (i := 11) (oi := ⟨some 20, _, _, _, _, _⟩) (v := .int .i64 i) rfl (by kernel_rfl) (by kernel_rfl) (by kernel_rfl) (fun _ _ _ h => h) (Or.inl ⟨by rfl, fun W hSW => by go_simp⟩) hHeld ?_
  simp only [Act.put, List.setIfInBounds_toArray, List.set_cons_zero, List.set_cons_succ]
  refine wpAnyH_take (i := 12) (oi := ⟨some 21, _, _, _, _, _⟩) (v := .pointer (some ⟨w.heap.size, 0, none⟩)) rfl (by kernel_rfl) (by kernel_rfl) (by kernel_rfl) (fun _ _ _ h => h) (Or.inl ⟨by rfl, fun W hSW => by go_simp⟩) hHeld ?_
  simp only [Act.put, List.setIfInBounds_toArray, List.set_cons_zero, List.set_cons_succ]
  refine wpAnyH_take (i := 13) (oi := ⟨some 22, _, _, _, _, _⟩) (v := .int .i64 X) rfl (by kernel_rfl) (by kernel_rfl) (by kernel_rfl) (fun _ _ _ h => h) (Or.inl ⟨by rfl, fun W hSW => by have a0 := (hSW.cell (p := ⟨w.heap.size, 0, none⟩) hz0).trans k0; go_simp⟩) hHeld ?_
  simp only [Act.put, List.setIfInBounds_toArray, List.set_cons_zero, List.set_cons_succ]
  refine wpAnyH_take (i := 14) (oi := ⟨some 23, _, _, _, _, _⟩) (v := .int .i64 d) rfl (by kernel_rfl) (by kernel_rfl) (by kernel_rfl) (fun _ _ _ h => h) (Or.inl ⟨by rfl, fun W hSW => by go_simp <;> exact V1.out⟩) hHeld ?_
  simp only [Act.put, List.setIfInBounds_toArray, List.set_cons_zero, List.set_cons_succ]
  refine wpAnyH_take (i := 15) (oi := ⟨some 24, _, _, _, _, _⟩) (v := .pointer (some ⟨w.heap.size, 2, none⟩)) rfl (by kernel_rfl) (by kernel_rfl) (by kernel_rfl) (fun _ _ _ h => h) (Or.inl ⟨by rfl, fun W hSW => by go_simp⟩) hHeld ?_
  simp only [Act.put, List.setIfInBounds_toArray, List.set_cons_zero, List.set_cons_succ]
  refine wpAnyH_take (i := 16) (oi := ⟨some 25, _, _, _, _, _⟩) (v := .int .i64 Z) rfl (by kernel_rfl) (by kernel_rfl) (by kernel_rfl) (fun _ _ _ h => h) (Or.inl ⟨by rfl, fun W hSW => by have a0 := (hSW.cell (p := ⟨w.heap.size, 2, none⟩) hz0).trans k2; go_simp⟩) hHeld ?_
  simp only [Act.put, List.setIfInBounds_toArray, List.set_cons_zero, List.set_cons_succ]
  refine wpAnyH_take (i := 17) (oi := ⟨some 26, _, _, _, _, _⟩) (v := .int .i64 y) rfl (by kernel_rfl) (by kernel_rfl) (by kernel_rfl) (fun _ _ _ h => h) (Or.inl ⟨by rfl, fun W hSW => by go_simp <;> exact V2.out⟩) hHeld ?_
  simp only [Act.put, List.setIfInBounds_toArray, List.set_cons_zero, List.set_cons_succ]
  refine wpAnyH_ready (rs := [18]) (by kernel_rfl) (by simp) ?_
  refine AllReadyH.cons (o := ⟨some 5, _, _, _, _, _⟩) rfl (fun K hK => ?_) AllReadyH.nil
  go_simp
  refine hK.out _ _ hHeld (fun hHeld => ?_)
  clear hK K
  refine wpAnyH_ready (rs := [19]) (by kernel_rfl) (by simp) ?_
  refine AllReadyH.cons (o := ⟨some 6, _, _, _, _, _⟩) rfl (fun K hK => ?_) AllReadyH.nil
  go_simp
  refine hK.out _ _ hHeld (fun hHeld => ?_)
  clear hK K
  refine wpAnyH_ready (rs := [20]) (by kernel_rfl) (by simp) ?_
  refine AllReadyH.cons (o := ⟨some 7, _, _, _, _, _⟩) rfl (fun K hK => ?_) AllReadyH.nil
  go_simp
  refine hK.out _ _ hHeld (fun hHeld => ?_)
  clear hK K
  refine wpAnyH_done (by kernel_rfl) ?_ _
  refine NoPanic.normal ?_
  have HSR := Lib.hid (show SidR W0 [] (.slice none 0 0) (W0.drew) from ⟨Own.nil _ _ _ _, (Below.refl _ _).drew⟩)
  have hzd : (W0.drew).heap.size = W0.heap.size := rfl
  clear q1 w1 m1 m2 q2 w2 hHeld
  have j0 : (W0.drew).cell? ⟨w.heap.size, 0, none⟩ = some (.int .i64 X) := ((HSR.out).2.cell (p := ⟨w.heap.size, 0, none⟩) hz0).trans k0
  have j1 : (W0.drew).cell? ⟨w.heap.size, 1, none⟩ = some (.int .i64 Y) := ((HSR.out).2.cell (p := ⟨w.heap.size, 1, none⟩) hz0).trans k1
  have j2 : (W0.drew).cell? ⟨w.heap.size, 2, none⟩ = some (.int .i64 Z) := ((HSR.out).2.cell (p := ⟨w.heap.size, 2, none⟩) hz0).trans k2
  go_upto_if 28 with (fail)
  go_cut [8] from 27 (fun v W => SidR W0 ((if 0 < x then [i - 1] else [])) v W)
  case first =>
    by_cases hc : 0 < x
    · have hcI : (0 : Int) < x := by omega
      obtain ⟨u, hu⟩ : ∃ u : Nat, (i : Int) - 1 = u := ⟨i - 1, by have := G1.out hc; omega⟩
      have HU := Lib.hid (show i - 1 = u by omega)
      have hown := (HSR.out).1
      have HOW := Lib.hid hown
      clear hown
      go_wp2_with ((with_reducible refine at_slot 33 ?_); refine Classical.byContradiction (fun hG => ?_))
      refine hG ?_
      clear hG
      refine wp_pushN (v := .slice none 0 0) rfl _ _ rfl rfl HOW.out rfl (by simp) (by have := (HSR.out).2.size; simp) ?_
      intro g' c' w6 ho6 hg6 hb6
      have HO6 := Lib.hid ho6
      have HG6 := Lib.hid hg6
      clear ho6 hg6 hb6
      go_wp2_with fail
      go_meet
      case rel =>
        refine ⟨by rw [if_pos hc, HU.out]; exact HO6.out, (HSR.out).2.grown HG6.out (HSR.out).2.size (fun k hk => (HOW.out.ge k hk).1)⟩
    · have hcI : ¬ (0 : Int) < x := by omega
      go_wp2_with fail
      go_meet
      case rel =>
        refine ⟨by rw [if_neg hc]; exact (HSR.out).1, (HSR.out).2⟩
  case rest =>
    obtain ⟨W1, hW1⟩ : ∃ W1, W1 = wc := ⟨_, rfl⟩
    rw [← hW1] at hcut ⊢
    have hcut1 := hcut
    have HC1 := Lib.hid hcut
    clear hW1 hcut hcut1 j0 j1 j2
    have j0 : W1.cell? ⟨w.heap.size, 0, none⟩ = some (.int .i64 X) := ((HC1.out).2.cell (p := ⟨w.heap.size, 0, none⟩) hz0).trans k0
    have j1 : W1.cell? ⟨w.heap.size, 1, none⟩ = some (.int .i64 Y) := ((HC1.out).2.cell (p := ⟨w.heap.size, 1, none⟩) hz0).trans k1
    have j2 : W1.cell? ⟨w.heap.size, 2, none⟩ = some (.int .i64 Z) := ((HC1.out).2.cell (p := ⟨w.heap.size, 2, none⟩) hz0).trans k2
    go_upto_if 38 with (fail)
    go_cut [8] from 34 (fun v W => SidR W0 (((if 0 < x then [i - 1] else [])) ++ (if x + 1 < X then [i + 1] else [])) v W)
    case first =>
      by_cases hc : x + 1 < X
      · have hcI : (x : Int) + 1 < X := by omega
        obtain ⟨u, hu⟩ : ∃ u : Nat, (i : Int) + 1 = u := ⟨i + 1, by omega⟩
        have HU := Lib.hid (show i + 1 = u by omega)
        have hown := (HC1.out).1
        obtain ⟨PL, hPL⟩ : ∃ PL, ((if 0 < x then [i - 1] else [])) = PL := ⟨_, rfl⟩
        have HPL := Lib.hid hPL
        have HLQ := Lib.hid (show PL.length ≤ 10 by rw [← hPL]; (try simp only [List.length_append]); repeat' split <;> simp)
        rw [hPL] at hown
        obtain ⟨ln, hln⟩ : ∃ ln, PL.length = ln := ⟨_, rfl⟩
        obtain ⟨Av, cv, rfl, _, _, _⟩ := hown.form hln
        have HLN := Lib.hid hln
        have HOW := Lib.hid hown
        clear hln hPL hown
        go_wp2_with ((with_reducible refine at_slot 43 ?_); refine Classical.byContradiction (fun hG => ?_))
        refine hG ?_
        clear hG
        refine wp_pushN (v := .slice Av ln cv) rfl _ _ rfl rfl HOW.out rfl (by have := HLQ.out; omega) (by have := (HC1.out).2.size; omega) ?_
        rw [HLN.out]
        intro g' c' w6 ho6 hg6 hb6
        have HO6 := Lib.hid ho6
        have HG6 := Lib.hid hg6
        clear ho6 hg6 hb6
        go_wp2_with fail
        go_meet
        case rel =>
          refine ⟨by rw [if_pos hc, HU.out, HPL.out]; exact HO6.out, (HC1.out).2.grown HG6.out (HC1.out).2.size (fun k hk => (HOW.out.ge k hk).1)⟩
      · have hcI : ¬ (x : Int) + 1 < X := by omega
        go_wp2_with fail
        go_meet
        case rel =>
          refine ⟨by rw [if_neg hc]; rw [List.append_nil]; exact (HC1.out).1, (HC1.out).2⟩
    case rest =>
      obtain ⟨W2, hW2⟩ : ∃ W2, W2 = wc := ⟨_, rfl⟩
      rw [← hW2] at hcut ⊢
      have hcut2 := hcut
      have HC2 := Lib.hid hcut
      clear hW2 hcut hcut2 j0 j1 j2
      have j0 : W2.cell? ⟨w.heap.size, 0, none⟩ = some (.int .i64 X) := ((HC2.out).2.cell (p := ⟨w.heap.size, 0, none⟩) hz0).trans k0
      have j1 : W2.cell? ⟨w.heap.size, 1, none⟩ = some (.int .i64 Y) := ((HC2.out).2.cell (p := ⟨w.heap.size, 1, none⟩) hz0).trans k1
      have j2 : W2.cell? ⟨w.heap.size, 2, none⟩ = some (.int .i64 Z) := ((HC2.out).2.cell (p := ⟨w.heap.size, 2, none⟩) hz0).trans k2
      go_upto_if 45 with (fail)
      go_cut [8] from 44 (fun v W => SidR W0 ((((if 0 < x then [i - 1] else [])) ++ (if x + 1 < X then [i + 1] else [])) ++ (if 0 < z then [i - X] else [])) v W)
      case first =>
        by_cases hc : 0 < z
        · have hcI : (0 : Int) < z := by omega
          obtain ⟨u, hu⟩ : ∃ u : Nat, (i : Int) - (X : Int) = u := ⟨i - X, by have := G2.out hc; omega⟩
          have HU := Lib.hid (show i - X = u by omega)
          have hown := (HC2.out).1
          obtain ⟨PL, hPL⟩ : ∃ PL, (((if 0 < x then [i - 1] else [])) ++ (if x + 1 < X then [i + 1] else [])) = PL := ⟨_, rfl⟩
          have HPL := Lib.hid hPL
          have HLQ := Lib.hid (show PL.length ≤ 10 by rw [← hPL]; (try simp only [List.length_append]); repeat' split <;> simp)
          rw [hPL] at hown
          obtain ⟨ln, hln⟩ : ∃ ln, PL.length = ln := ⟨_, rfl⟩
          obtain ⟨Av, cv, rfl, _, _, _⟩ := hown.form hln
          have HLN := Lib.hid hln
          have HOW := Lib.hid hown
          clear hln hPL hown
          go_wp2_with ((with_reducible refine at_slot 52 ?_); refine Classical.byContradiction (fun hG => ?_))
          refine hG ?_
          clear hG
          refine wp_pushN (v := .slice Av ln cv) rfl _ _ rfl rfl HOW.out rfl (by have := HLQ.out; omega) (by have := (HC2.out).2.size; omega) ?_
          rw [HLN.out]
          intro g' c' w6 ho6 hg6 hb6
          have HO6 := Lib.hid ho6
          have HG6 := Lib.hid hg6
          clear ho6 hg6 hb6
          go_wp2_with fail
          go_meet
          case rel =>
            refine ⟨by rw [if_pos hc, HU.out, HPL.out]; exact HO6.out, (HC2.out).2.grown HG6.out (HC2.out).2.size (fun k hk => (HOW.out.ge k hk).1)⟩
        · have hcI : ¬ (0 : Int) < z := by omega
          go_wp2_with fail
          go_meet
          case rel =>
            refine ⟨by rw [if_neg hc]; rw [List.append_nil]; exact (HC2.out).1, (HC2.out).2⟩
      case rest =>
        obtain ⟨W3, hW3⟩ : ∃ W3, W3 = wc := ⟨_, rfl⟩
        rw [← hW3] at hcut ⊢
        have hcut3 := hcut
        have HC3 := Lib.hid hcut
        clear hW3 hcut hcut3 j0 j1 j2
        have j0 : W3.cell? ⟨w.heap.size, 0, none⟩ = some (.int .i64 X) := ((HC3.out).2.cell (p := ⟨w.heap.size, 0, none⟩) hz0).trans k0
        have j1 : W3.cell? ⟨w.heap.size, 1, none⟩ = some (.int .i64 Y) := ((HC3.out).2.cell (p := ⟨w.heap.size, 1, none⟩) hz0).trans k1
        have j2 : W3.cell? ⟨w.heap.size, 2, none⟩ = some (.int .i64 Z) := ((HC3.out).2.cell (p := ⟨w.heap.size, 2, none⟩) hz0).trans k2
        go_upto_if 57 with (fail)
        go_cut [8] from 53 (fun v W => SidR W0 (((((if 0 < x then [i - 1] else [])) ++ (if x + 1 < X then [i + 1] else [])) ++ (if 0 < z then [i - X] else [])) ++ (if z + 1 < Z then [i + X] else [])) v W)
        case first =>
          by_cases hc : z + 1 < Z
          · have hcI : (z : Int) + 1 < Z := by omega
            obtain ⟨u, hu⟩ : ∃ u : Nat, (i : Int) + (X : Int) = u := ⟨i + X, by omega⟩
            have HU := Lib.hid (show i + X = u by omega)
            have hown := (HC3.out).1
            obtain ⟨PL, hPL⟩ : ∃ PL, ((((if 0 < x then [i - 1] else [])) ++ (if x + 1 < X then [i + 1] else [])) ++ (if 0 < z then [i - X] else [])) = PL := ⟨_, rfl⟩
            have HPL := Lib.hid hPL
            have HLQ := Lib.hid (show PL.length ≤ 10 by rw [← hPL]; (try simp only [List.length_append]); repeat' split <;> simp)
            rw [hPL] at hown
            obtain ⟨ln, hln⟩ : ∃ ln, PL.length = ln := ⟨_, rfl⟩
            obtain ⟨Av, cv, rfl, _, _, _⟩ := hown.form hln
            have HLN := Lib.hid hln
            have HOW := Lib.hid hown
            clear hln hPL hown
            go_wp2_with ((with_reducible refine at_slot 64 ?_); refine Classical.byContradiction (fun hG => ?_))
            refine hG ?_
            clear hG
            refine wp_pushN (v := .slice Av ln cv) rfl _ _ rfl rfl HOW.out rfl (by have := HLQ.out; omega) (by have := (HC3.out).2.size; omega) ?_
            rw [HLN.out]
            intro g' c' w6 ho6 hg6 hb6
            have HO6 := Lib.hid ho6
            have HG6 := Lib.hid hg6
            clear ho6 hg6 hb6
            go_wp2_with fail
            go_meet
            case rel =>
              refine ⟨by rw [if_pos hc, HU.out, HPL.out]; exact HO6.out, (HC3.out).2.grown HG6.out (HC3.out).2.size (fun k hk => (HOW.out.ge k hk).1)⟩
          · have hcI : ¬ (z : Int) + 1 < Z := by omega
            go_wp2_with fail
            go_meet
            case rel =>
              refine ⟨by rw [if_neg hc]; rw [List.append_nil]; exact (HC3.out).1, (HC3.out).2⟩
        case rest =>
          obtain ⟨W4, hW4⟩ : ∃ W4, W4 = wc := ⟨_, rfl⟩
          rw [← hW4] at hcut ⊢
          have hcut4 := hcut
          have HC4 := Lib.hid hcut
          clear hW4 hcut hcut4 j0 j1 j2
          have j0 : W4.cell? ⟨w.heap.size, 0, none⟩ = some (.int .i64 X) := ((HC4.out).2.cell (p := ⟨w.heap.size, 0, none⟩) hz0).trans k0
          have j1 : W4.cell? ⟨w.heap.size, 1, none⟩ = some (.int .i64 Y) := ((HC4.out).2.cell (p := ⟨w.heap.size, 1, none⟩) hz0).trans k1
          have j2 : W4.cell? ⟨w.heap.size, 2, none⟩ = some (.int .i64 Z) := ((HC4.out).2.cell (p := ⟨w.heap.size, 2, none⟩) hz0).trans k2
          go_upto_if 66 with (fail)
          go_cut [8] from 65 (fun v W => SidR W0 ((((((if 0 < x then [i - 1] else [])) ++ (if x + 1 < X then [i + 1] else [])) ++ (if 0 < z then [i - X] else [])) ++ (if z + 1 < Z then [i + X] else [])) ++ (if 0 < y then [i - S] else [])) v W)
          case first =>
            by_cases hc : 0 < y
            · have hcI : (0 : Int) < y := by omega
              obtain ⟨u, hu⟩ : ∃ u : Nat, (i : Int) - (S : Int) = u := ⟨i - S, by have := G3.out hc; omega⟩
              have HU := Lib.hid (show i - S = u by omega)
              have hown := (HC4.out).1
              obtain ⟨PL, hPL⟩ : ∃ PL, (((((if 0 < x then [i - 1] else [])) ++ (if x + 1 < X then [i + 1] else [])) ++ (if 0 < z then [i - X] else [])) ++ (if z + 1 < Z then [i + X] else [])) = PL := ⟨_, rfl⟩
              have HPL := Lib.hid hPL
              have HLQ := Lib.hid (show PL.length ≤ 10 by rw [← hPL]; (try simp only [List.length_append]); repeat' split <;> simp)
              rw [hPL] at hown
              obtain ⟨ln, hln⟩ : ∃ ln, PL.length = ln := ⟨_, rfl⟩
              obtain ⟨Av, cv, rfl, _, _, _⟩ := hown.form hln
              have HLN := Lib.hid hln
              have HOW := Lib.hid hown
              clear hln hPL hown
              go_wp2_with ((with_reducible refine at_slot 76 ?_); refine Classical.byContradiction (fun hG => ?_))
              refine hG ?_
              clear hG
              refine wp_pushN (v := .slice Av ln cv) rfl _ _ rfl rfl HOW.out rfl (by have := HLQ.out; omega) (by have := (HC4.out).2.size; omega) ?_
              rw [HLN.out]
              intro g' c' w6 ho6 hg6 hb6
              have HO6 := Lib.hid ho6
              have HG6 := Lib.hid hg6
              clear ho6 hg6 hb6
              go_wp2_with fail
              go_meet
              case rel =>
                refine ⟨by rw [if_pos hc, HU.out, HPL.out]; exact HO6.out, (HC4.out).2.grown HG6.out (HC4.out).2.size (fun k hk => (HOW.out.ge k hk).1)⟩
            · have hcI : ¬ (0 : Int) < y := by omega
              go_wp2_with fail
              go_meet
              case rel =>
                refine ⟨by rw [if_neg hc]; rw [List.append_nil]; exact (HC4.out).1, (HC4.out).2⟩
          case rest =>
            obtain ⟨W5, hW5⟩ : ∃ W5, W5 = wc := ⟨_, rfl⟩
            rw [← hW5] at hcut ⊢
            have hcut5 := hcut
            have HC5 := Lib.hid hcut
            clear hW5 hcut hcut5 j0 j1 j2
            have j0 : W5.cell? ⟨w.heap.size, 0, none⟩ = some (.int .i64 X) := ((HC5.out).2.cell (p := ⟨w.heap.size, 0, none⟩) hz0).trans k0
            have j1 : W5.cell? ⟨w.heap.size, 1, none⟩ = some (.int .i64 Y) := ((HC5.out).2.cell (p := ⟨w.heap.size, 1, none⟩) hz0).trans k1
            have j2 : W5.cell? ⟨w.heap.size, 2, none⟩ = some (.int .i64 Z) := ((HC5.out).2.cell (p := ⟨w.heap.size, 2, none⟩) hz0).trans k2
            go_upto_if 81 with (fail)
            go_cut [8] from 77 (fun v W => SidR W0 (((((((if 0 < x then [i - 1] else [])) ++ (if x + 1 < X then [i + 1] else [])) ++ (if 0 < z then [i - X] else [])) ++ (if z + 1 < Z then [i + X] else [])) ++ (if 0 < y then [i - S] else [])) ++ (if y + 1 < Y then [i + S] else [])) v W)
            case first =>
              by_cases hc : y + 1 < Y
              · have hcI : (y : Int) + 1 < Y := by omega
                obtain ⟨u, hu⟩ : ∃ u : Nat, (i : Int) + (S : Int) = u := ⟨i + S, by omega⟩
                have HU := Lib.hid (show i + S = u by omega)
                have hown := (HC5.out).1
                obtain ⟨PL, hPL⟩ : ∃ PL, ((((((if 0 < x then [i - 1] else [])) ++ (if x + 1 < X then [i + 1] else [])) ++ (if 0 < z then [i - X] else [])) ++ (if z + 1 < Z then [i + X] else [])) ++ (if 0 < y then [i - S] else [])) = PL := ⟨_, rfl⟩
                have HPL := Lib.hid hPL
                have HLQ := Lib.hid (show PL.length ≤ 10 by rw [← hPL]; (try simp only [List.length_append]); repeat' split <;> simp)
                rw [hPL] at hown
                obtain ⟨ln, hln⟩ : ∃ ln, PL.length = ln := ⟨_, rfl⟩
                obtain ⟨Av, cv, rfl, _, _, _⟩ := hown.form hln
                have HLN := Lib.hid hln
                have HOW := Lib.hid hown
                clear hln hPL hown
                go_wp2_with ((with_reducible refine at_slot 91 ?_); refine Classical.byContradiction (fun hG => ?_))
                refine hG ?_
                clear hG
                refine wp_pushN (v := .slice Av ln cv) rfl _ _ rfl rfl HOW.out rfl (by have := HLQ.out; omega) (by have := (HC5.out).2.size; omega) ?_
                rw [HLN.out]
                intro g' c' w6 ho6 hg6 hb6
                have HO6 := Lib.hid ho6
                have HG6 := Lib.hid hg6
                clear ho6 hg6 hb6
                go_wp2_with fail
                go_meet
                case rel =>
                  refine ⟨by rw [if_pos hc, HU.out, HPL.out]; exact HO6.out, (HC5.out).2.grown HG6.out (HC5.out).2.size (fun k hk => (HOW.out.ge k hk).1)⟩
              · have hcI : ¬ (y : Int) + 1 < Y := by omega
                go_wp2_with fail
                go_meet
                case rel =>
                  refine ⟨by rw [if_neg hc]; rw [List.append_nil]; exact (HC5.out).1, (HC5.out).2⟩
            case rest =>
              obtain ⟨W6, hW6⟩ : ∃ W6, W6 = wc := ⟨_, rfl⟩
              rw [← hW6] at hcut ⊢
              have hcut6 := hcut
              have HC6 := Lib.hid hcut
              clear hW6 hcut hcut6 j0 j1 j2
              go_wp2_with fail
              go_ret
              exact ⟨_, rfl, by rw [← HSD.out]; have h := HC6.out.1.mono (B' := w.heap.size) (by omega); simp only [List.append_assoc] at h; exact h, HB0.out.trans (HC6.out.2.mono (by omega))⟩
set_option maxHeartbeats 4000000 in
theorem open_c {w : World} {k l : Nat} {r : Bool} (hT : Tab w) (h : openA (k, l) = r) : Calls Tryd.prog 17 #[.agg #[.int .u8 k, .int .u8 l]] w fun e w' => e = .returned (.bool r) ∧ Below w.heap.size w w' := by
  have HT1 := Lib.hid (hT.below ((Below.refl _ w).alloc (Nat.le_refl _) (.cells #[.int .u8 k, .int .u8 l] 32)))
  obtain ⟨mb, hm⟩ : ∃ mb, may k l = mb := ⟨_, rfl⟩
  obtain ⟨cb, hc⟩ : ∃ cb, clear k = cb := ⟨_, rfl⟩
  have HM := Lib.hid hm
  have HC := Lib.hid hc
  have HR := Lib.hid (show r = (mb && cb) by rw [← h, ← hm, ← hc]; rfl)
  clear hm hc h hT
  cases mb
  · go_enter Tryd.func17, Tryd.ntmps17
    go_wp2_with fail
    refine (k_may_b HM.out _ HT1.out).mono ?_
    rintro e w1 ⟨rfl, hb1⟩
    have d0 : w1.cell? ⟨w.heap.size, 0, none⟩ = some (.int .u8 k) := by (repeat' (first | (with_reducible assumption) | (with_reducible refine HeldP.c_below hb1 ?_ ?_) | (with_reducible refine HeldP.f_below hb1 ?_ ?_) | (with_reducible refine HeldP.c_drew ?_) | (with_reducible refine HeldP.c_drewN ?_) | (with_reducible refine HeldP.c_same (by omega) ?_) | (with_reducible refine HeldP.c_other ?_ ?_) | (with_reducible refine HeldP.c_new (by first | omega | (simp; done) | (simp; omega)) ?_) | (with_reducible refine HeldP.c_alloc ?_ ?_) | (with_reducible refine HeldP.e_drew ?_) | (with_reducible refine HeldP.e_drewN ?_) | (with_reducible refine HeldP.e_set ?_) | (with_reducible refine HeldP.e_new (by first | omega | (simp; done) | (simp; omega)) ⟨_, rfl⟩) | (with_reducible refine HeldP.e_alloc ?_ ?_) | (with_reducible refine HeldP.f_drew ?_) | (with_reducible refine HeldP.f_drewN ?_) | (with_reducible refine HeldP.f_set ?_) | (with_reducible refine HeldP.f_new (by first | omega | (simp; done) | (simp; omega))) | (with_reducible refine HeldP.f_alloc ?_ ?_) | (with_reducible refine HeldP.s_drew ?_) | (with_reducible refine HeldP.s_drewN ?_) | (with_reducible refine HeldP.s_set ?_) | (with_reducible refine HeldP.s_new (by first | omega | (simp; done) | (simp; omega))) | (with_reducible refine HeldP.s_alloc ?_) | (with_reducible exact ⟨_, by assumption⟩) | omega | (intro e; simp at e; done) | (intro e; simp at e; omega) | (exact rfl) | (simp; done) | (simp; omega)))
    have HK1 := Lib.hid (show Below w.heap.size w w1 by (repeat' (first | (with_reducible exact Below.refl _ _) | (with_reducible refine Below.setCell ?_ (by (first | omega | (simp; done) | (simp; omega))) _) | (with_reducible refine Below.alloc ?_ (by (first | omega | (simp; done) | (simp; omega))) _) | (with_reducible refine Below.drew ?_) | (with_reducible refine below_drewN ?_ _) | (with_reducible refine Below.trans ?_ (Below.mono hb1 (by (first | omega | (simp; done) | (simp; omega))))))))
    clear hb1
    go_wp2_with fail
    go_ret
    exact ⟨by rw [HR.out]; rfl, HK1.out⟩
  · go_enter Tryd.func17, Tryd.ntmps17
    go_wp2_with fail
    refine (k_may_b HM.out _ HT1.out).mono ?_
    rintro e w1 ⟨rfl, hb1⟩
    have d0 : w1.cell? ⟨w.heap.size, 0, none⟩ = some (.int .u8 k) := by (repeat' (first | (with_reducible assumption) | (with_reducible refine HeldP.c_below hb1 ?_ ?_) | (with_reducible refine HeldP.f_below hb1 ?_ ?_) | (with_reducible refine HeldP.c_drew ?_) | (with_reducible refine HeldP.c_drewN ?_) | (with_reducible refine HeldP.c_same (by omega) ?_) | (with_reducible refine HeldP.c_other ?_ ?_) | (with_reducible refine HeldP.c_new (by first | omega | (simp; done) | (simp; omega)) ?_) | (with_reducible refine HeldP.c_alloc ?_ ?_) | (with_reducible refine HeldP.e_drew ?_) | (with_reducible refine HeldP.e_drewN ?_) | (with_reducible refine HeldP.e_set ?_) | (with_reducible refine HeldP.e_new (by first | omega | (simp; done) | (simp; omega)) ⟨_, rfl⟩) | (with_reducible refine HeldP.e_alloc ?_ ?_) | (with_reducible refine HeldP.f_drew ?_) | (with_reducible refine HeldP.f_drewN ?_) | (with_reducible refine HeldP.f_set ?_) | (with_reducible refine HeldP.f_new (by first | omega | (simp; done) | (simp; omega))) | (with_reducible refine HeldP.f_alloc ?_ ?_) | (with_reducible refine HeldP.s_drew ?_) | (with_reducible refine HeldP.s_drewN ?_) | (with_reducible refine HeldP.s_set ?_) | (with_reducible refine HeldP.s_new (by first | omega | (simp; done) | (simp; omega))) | (with_reducible refine HeldP.s_alloc ?_) | (with_reducible exact ⟨_, by assumption⟩) | omega | (intro e; simp at e; done) | (intro e; simp at e; omega) | (exact rfl) | (simp; done) | (simp; omega)))
    have HT2 := Lib.hid (HT1.out.below hb1)
    have HK1 := Lib.hid (show Below w.heap.size w w1 by (repeat' (first | (with_reducible exact Below.refl _ _) | (with_reducible refine Below.setCell ?_ (by (first | omega | (simp; done) | (simp; omega))) _) | (with_reducible refine Below.alloc ?_ (by (first | omega | (simp; done) | (simp; omega))) _) | (with_reducible refine Below.drew ?_) | (with_reducible refine below_drewN ?_ _) | (with_reducible refine Below.trans ?_ (Below.mono hb1 (by (first | omega | (simp; done) | (simp; omega))))))))
    clear hb1
    go_wp2_with (go_at_call 34; refine (k_clear_b HC.out _ HT2.out).mono ?_; rintro e2 w2 ⟨rfl, rfl⟩)
    go_ret
    exact ⟨by rw [HR.out]; rfl, HK1.out⟩
theorem gap_c {w : World} {a b : Nat} (ha : a ≤ 100000) (hb : b ≤ 100000) : Calls Tryd.prog 20 #[.int .i64 a, .int .i64 b] w fun e w' => e = .returned (.int .i64 (GlowP.gap a b : Nat)) ∧ w = w' := by
  rcases Nat.lt_trichotomy a b with h | h | h
  · have e : GlowP.gap a b = b - a := by unfold GlowP.gap; omega
    have HE := Lib.hid (show ((GlowP.gap a b : Nat) : Int) = (b : Int) - a by rw [e]; omega)
    have hI : (a : Int) < b := by omega
    clear e
    go_enter Tryd.func20, Tryd.ntmps20
    go_wp2_with fail
    go_ret
    exact ⟨by rw [HE.out]; rfl, rfl⟩
  · subst h
    have e : GlowP.gap a a = 0 := by unfold GlowP.gap; omega
    rw [e]
    clear e
    go_enter Tryd.func20, Tryd.ntmps20
    go_wp2_with fail
    go_ret
    exact ⟨rfl, rfl⟩
  · have e : GlowP.gap a b = a - b := by unfold GlowP.gap; omega
    have HE := Lib.hid (show ((GlowP.gap a b : Nat) : Int) = (a : Int) - b by rw [e]; omega)
    have hI : (b : Int) < a := by omega
    clear e
    go_enter Tryd.func20, Tryd.ntmps20
    go_wp2_with fail
    go_ret
    exact ⟨by rw [HE.out]; rfl, rfl⟩
end GlowW
end Go.Proofs.YtbkadecfmjjadaaDoor
