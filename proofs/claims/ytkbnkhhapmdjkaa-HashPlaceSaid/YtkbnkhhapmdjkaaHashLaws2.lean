/-
  The laws of hash, second part: HashPlace, HashKnown.
-/
import Derived.Test.YtkbnkhhapmdjkaaHashLaws1
import Derived.Test.YtkbnkhhapmdjkaaBaseP
import Derived.Deep.RegionHeld3
namespace Go.Proofs.Ytkbnkhhapmdjkaa
open Go.RowKit
set_option linter.unusedSimpArgs false
set_option linter.unusedVariables false
namespace HashW
open BaseP

theorem awake_b (w : World) : Calls Try.prog 11 #[] w fun e w' => e = .returned (.bool true) ∧ Below w.heap.size w w' :=
  (awake_c w).mono fun e w' ⟨h, h'⟩ => ⟨h, h' ▸ Below.refl _ _⟩

set_option maxRecDepth 100000 in
set_option maxHeartbeats 2000000 in
theorem law_place (s x y z t : Int) (w : World) :
    Calls Try.prog 4 #[.int .u64 s, .agg #[.int .i64 x, .int .i64 y, .int .i64 z], .int .i64 t] w fun e w' => e = .returned (.bool true) ∧ Below w.heap.size w w' := by
  obtain ⟨r, h1⟩ : ∃ r, ofI s x y z t = r := ⟨_, rfl⟩
  have H1 := Lib.hid h1
  clear h1
  go_enter Try.func4, Try.ntmps4
  go_wp2_with fail
  skip
  refine HeldP.wp_named (fun w' => w'.cell? ⟨w.heap.size, 0, none⟩ = some (.int .i64 x) ∧ w'.cell? ⟨w.heap.size, 1, none⟩ = some (.int .i64 y) ∧ w'.cell? ⟨w.heap.size, 2, none⟩ = some (.int .i64 z) ∧ w.heap.size < w'.heap.size ∧ Below w.heap.size w w') (by (refine ⟨?_, ?_, ?_, ?_, by (repeat' (first | (with_reducible exact Below.refl _ _) | (with_reducible refine Below.setCell ?_ (by (first | omega | (simp; done) | (simp; omega))) _) | (with_reducible refine Below.alloc ?_ (by (first | omega | (simp; done) | (simp; omega))) _) | (with_reducible refine Below.drew ?_) | (with_reducible refine below_drewN ?_ _)))⟩); all_goals (repeat' (first | (with_reducible assumption) | (with_reducible refine HeldP.c_drew ?_) | (with_reducible refine HeldP.c_drewN ?_) | (with_reducible refine HeldP.c_same (by omega) ?_) | (with_reducible refine HeldP.c_other ?_ ?_) | (with_reducible refine HeldP.c_new (by first | omega | (simp; done) | (simp; omega)) ?_) | (with_reducible refine HeldP.c_alloc ?_ ?_) | (with_reducible refine HeldP.e_drew ?_) | (with_reducible refine HeldP.e_drewN ?_) | (with_reducible refine HeldP.e_set ?_) | (with_reducible refine HeldP.e_new (by first | omega | (simp; done) | (simp; omega)) ⟨_, rfl⟩) | (with_reducible refine HeldP.e_alloc ?_ ?_) | (with_reducible refine HeldP.f_drew ?_) | (with_reducible refine HeldP.f_drewN ?_) | (with_reducible refine HeldP.f_set ?_) | (with_reducible refine HeldP.f_new (by first | omega | (simp; done) | (simp; omega))) | (with_reducible refine HeldP.f_alloc ?_ ?_) | (with_reducible refine HeldP.s_drew ?_) | (with_reducible refine HeldP.s_drewN ?_) | (with_reducible refine HeldP.s_set ?_) | (with_reducible refine HeldP.s_new (by first | omega | (simp; done) | (simp; omega))) | (with_reducible refine HeldP.s_alloc ?_) | (with_reducible exact ⟨_, by assumption⟩) | omega | (intro e; simp at e; done) | (intro e; simp at e; omega) | (exact rfl) | (simp; done) | (simp; omega)))) ?_
  skip
  rintro w1 ⟨c1_0_0, c1_0_1, c1_0_2, l1_0, HBn⟩
  have n1_0 : w.heap.size ≠ w1.heap.size := (by omega)
  have z1 : w.heap.size ≤ w1.heap.size := (by omega)
  have HB1 := Lib.hid HBn
  clear HBn
  have HBo := HB1.out
  have hS0 : HeldP.CellsB w (w1) ([(w.heap.size, 0, .int .i64 x), (w.heap.size, 1, .int .i64 y), (w.heap.size, 2, .int .i64 z)] : List (Nat × Nat × Value)) := by
    refine HeldP.CellsB.one ?_ ?_ (HeldP.CellsB.one ?_ ?_ (HeldP.CellsB.one ?_ ?_ (HeldP.CellsB.nil (by first | omega | (simp; done) | (simp; omega)) (by (repeat' (first | (with_reducible exact Below.refl _ _) | (with_reducible refine Below.setCell ?_ (by (first | omega | (simp; done) | (simp; omega))) _) | (with_reducible refine Below.alloc ?_ (by (first | omega | (simp; done) | (simp; omega))) _) | (with_reducible refine Below.drew ?_) | (with_reducible refine below_drewN ?_ _) | (with_reducible refine Below.trans ?_ (Below.mono HBo (by (first | omega | (simp; done) | (simp; omega)))))))))))
    all_goals (repeat' (first | (with_reducible assumption) | (with_reducible refine HeldP.c_drew ?_) | (with_reducible refine HeldP.c_drewN ?_) | (with_reducible refine HeldP.c_same (by omega) ?_) | (with_reducible refine HeldP.c_other ?_ ?_) | (with_reducible refine HeldP.c_new (by first | omega | (simp; done) | (simp; omega)) ?_) | (with_reducible refine HeldP.c_alloc ?_ ?_) | (with_reducible refine HeldP.e_drew ?_) | (with_reducible refine HeldP.e_drewN ?_) | (with_reducible refine HeldP.e_set ?_) | (with_reducible refine HeldP.e_new (by first | omega | (simp; done) | (simp; omega)) ⟨_, rfl⟩) | (with_reducible refine HeldP.e_alloc ?_ ?_) | (with_reducible refine HeldP.f_drew ?_) | (with_reducible refine HeldP.f_drewN ?_) | (with_reducible refine HeldP.f_set ?_) | (with_reducible refine HeldP.f_new (by first | omega | (simp; done) | (simp; omega))) | (with_reducible refine HeldP.f_alloc ?_ ?_) | (with_reducible refine HeldP.s_drew ?_) | (with_reducible refine HeldP.s_drewN ?_) | (with_reducible refine HeldP.s_set ?_) | (with_reducible refine HeldP.s_new (by first | omega | (simp; done) | (simp; omega))) | (with_reducible refine HeldP.s_alloc ?_) | (with_reducible exact ⟨_, by assumption⟩) | omega | (intro e; simp at e; done) | (intro e; simp at e; omega) | (exact rfl) | (simp; done) | (simp; omega)))
  clear HBo
  go_region_held3 (fun w' => (w'.cell? ⟨w.heap.size, 0, none⟩ = some (.int .i64 x) ∧ w.heap.size < w'.heap.size) ∧ (w'.cell? ⟨w.heap.size, 1, none⟩ = some (.int .i64 y) ∧ w.heap.size < w'.heap.size) ∧ (w'.cell? ⟨w.heap.size, 2, none⟩ = some (.int .i64 z) ∧ w.heap.size < w'.heap.size) ∧ w.heap.size ≤ w'.heap.size ∧ Below w.heap.size w w')
    (first | assumption | (exact hS0.drew) | (exact HeldP.CellsB.keep (l := [(w.heap.size, 0, .int .i64 x), (w.heap.size, 1, .int .i64 y), (w.heap.size, 2, .int .i64 z)]) (by assumption) (by assumption)) | (exact HeldP.CellsB.drew (l := [(w.heap.size, 0, .int .i64 x), (w.heap.size, 1, .int .i64 y), (w.heap.size, 2, .int .i64 z)]) (by assumption)))
    (first | (go_at_call 12; (with_reducible refine (of_c H1.out _).mono ?_); rintro e w' ⟨rfl, hb⟩) | (go_at_call 13; (with_reducible refine (r_of_c H1.out _).mono ?_); rintro e w' ⟨rfl, hb⟩) | (go_at_call 11; (with_reducible refine (awake_b _).mono ?_); rintro e w' ⟨rfl, hb⟩))
  go_wp2
  go_ret
  refine ⟨rfl, ?_⟩
  exact HeldP.CellsB.below (l := [(w.heap.size, 0, .int .i64 x), (w.heap.size, 1, .int .i64 y), (w.heap.size, 2, .int .i64 z)]) (by assumption)
def iterI : Nat → Int
  | 0 => mixI 0
  | k + 1 => mixI (iterI k)
theorem k_of0 : ofI 0 0 0 0 0 = 8695987549771912286 := by decide +kernel
theorem k_it : iterI 4 = 8695987549771912286 := by decide +kernel
theorem k_g0 : mixI 7 = 7191089600892374487 := by decide +kernel
theorem k_g1 : mixI (bits .xor .u64 7191089600892374487 1) = 4414019431610648415 := by decide +kernel
theorem k_g2 : mixI (bits .xor .u64 4414019431610648415 2) = 1650069959653123811 := by decide +kernel
theorem k_g3 : mixI (bits .xor .u64 1650069959653123811 18446744073709551613) = 4531759490313837909 := by decide +kernel
theorem k_g4 : mixI (bits .xor .u64 4531759490313837909 4) = 7638922006626576581 := by decide +kernel
theorem k_of1 : ofI 7 1 2 (-3) 4 = 7638922006626576581 := by decide +kernel
theorem k_m1 : mixI 11400714819323198485 = 7960286522194355700 := by decide +kernel
theorem k_m2 : mixI 4354685564936845354 = 487617019471545679 := by decide +kernel
theorem k_b1 : belowI 18446744073709551615 10 = 9 := by decide +kernel
theorem k_b2 : belowI 9223372036854775808 0 = 0 := by decide +kernel
theorem k_b3 : belowI 9223372036854775808 (-1) = 0 := by decide +kernel

set_option maxRecDepth 100000 in
set_option maxHeartbeats 2000000 in
theorem law_known (w : World) : Calls Try.prog 6 #[] w fun e w' => e = .returned (.bool true) ∧ Below w.heap.size w w' := by
  have K0 := Lib.hid k_it
  go_enter Try.func6, Try.ntmps6
  go_wp2_with (first | (go_at_call 11; refine (awake_c _).mono ?_; rintro e w' ⟨rfl, rfl⟩) | (go_at_call 9; (first | (with_reducible refine (mix_c k_m1 _).mono ?_) | (with_reducible refine (mix_c k_m2 _).mono ?_) | (refine (mix_c (x := 0) rfl _).mono ?_)); rintro e w' ⟨rfl, rfl⟩))
  go_loop [1, 2] (fun h i => ∃ k : Nat, k ≤ 4 ∧ i = .int .i64 k ∧ h = .int .u64 (iterI k)) (fun _ i => 4 - (intOf i).toNat)
  case atStart => exact ⟨0, by omega, rfl, rfl⟩
  case round =>
    obtain ⟨k, hk, rfl, rfl⟩ := hrel
    by_cases hlt : k < 4
    · go_wp2_with (go_at_call 9; refine (mix_c rfl _).mono ?_; rintro e w' ⟨rfl, rfl⟩)
      go_round
      case rel => exact ⟨k + 1, by omega, by go_num, rfl⟩
      case measure => simp [intOf]; omega
    · obtain rfl : k = 4 := by omega
      clear hlt hk
      obtain ⟨h, hh⟩ : ∃ h, iterI 4 = h := ⟨_, rfl⟩
      rw [hh]
      obtain rfl : h = 8695987549771912286 := hh.symm.trans K0.out
      clear hh
      go_wp2_with (first | (go_at_call 9; (first | (with_reducible refine (mix_c k_g0 _).mono ?_) | (with_reducible refine (mix_c k_g1 _).mono ?_) | (with_reducible refine (mix_c k_g2 _).mono ?_) | (with_reducible refine (mix_c k_g3 _).mono ?_) | (with_reducible refine (mix_c k_g4 _).mono ?_)); rintro e w' ⟨rfl, rfl⟩) | (go_at_call 12; (first | (with_reducible refine (of_c k_of0 _).mono ?_; rintro e w1 ⟨rfl, hb1⟩) | (with_reducible refine (of_c k_of1 _).mono ?_; rintro e w2 ⟨rfl, hb2⟩))) | (go_at_call 14; (first | (with_reducible refine (below_c (by decide) (by decide) (by decide) k_b1 _).mono ?_) | (with_reducible refine (below_c (by decide) (by decide) (by decide) k_b2 _).mono ?_) | (with_reducible refine (below_c (by decide) (by decide) (by decide) k_b3 _).mono ?_)); rintro e w' ⟨rfl, rfl⟩))
      go_ret
      exact ⟨rfl, hb1.trans (hb2.mono hb1.size)⟩
end HashW
end Go.Proofs.Ytkbnkhhapmdjkaa
