/-
  The laws of place, eighth part: PlaceKnown.
-/
import Derived.Test.YtokkomglbddgcaaPlaceLaws1
import Derived.Test.YtokkomglbddgcaaPlaceBox
import Derived.Deep.RegionHeld3
import Derived.KernelRfl
namespace Go.Proofs.Ytokkomglbddgcaa
open Go.RowKit
set_option linter.unusedSimpArgs false
set_option linter.unusedVariables false
namespace PlaceW
open BitsP

theorem at_c (a b c : Int) (w : World) :
    Calls Try.prog 36 #[.int .i64 a, .int .i64 b, .int .i64 c] w fun e w' => e = .returned (.agg #[.int .i64 a, .int .i64 b, .int .i64 c]) ∧ Below w.heap.size w w' := by
  go_enter Try.func36, Try.ntmps36
  go_wp2
  refine bodyPost_ret (v := .agg #[.int .i64 a, .int .i64 b, .int .i64 c]) (by simp [results, Try.results36, go_sem]) rfl ?_
  refine ⟨rfl, ?_⟩
  (repeat' (first | (with_reducible exact Below.refl _ _) | (with_reducible refine Below.setCell ?_ (by (first | omega | (simp; done) | (simp; omega))) _) | (with_reducible refine Below.alloc ?_ (by (first | omega | (simp; done) | (simp; omega))) _) | (with_reducible refine Below.drew ?_) | (with_reducible refine below_drewN ?_ _)))

set_option maxRecDepth 100000 in
set_option maxHeartbeats 20000000 in
theorem law_known (w : World) :
    Calls Try.prog 12 #[] w fun e w' => e = .returned (.bool true) ∧ Below w.heap.size w w' := by
  go_enter Try.func12, Try.ntmps12
  go_wp2_with fail
  go_at_call 36
  refine (at_c 0 0 0 _).mono ?_
  rintro e w1 ⟨rfl, hb1⟩
  have hs1 := hb1.size
  try simp at hs1
  have z1 : w.heap.size ≤ w1.heap.size := (by omega)
  have HB1 := Lib.hid (show Below w.heap.size w w1 by (repeat' (first | (with_reducible exact Below.refl _ _) | (with_reducible refine Below.setCell ?_ (by (first | omega | (simp; done) | (simp; omega))) _) | (with_reducible refine Below.alloc ?_ (by (first | omega | (simp; done) | (simp; omega))) _) | (with_reducible refine Below.drew ?_) | (with_reducible refine below_drewN ?_ _) | (with_reducible refine Below.trans ?_ (Below.mono hb1 (by (first | omega | (simp; done) | (simp; omega))))))))
  clear hb1 hs1
  go_wp2_with fail
  go_at_call 19
  refine (may_b (x := 0) (y := 0) (z := 0) (r := true) (by decide) _).mono ?_
  rintro e w2 ⟨rfl, hb2⟩
  have HBo := HB1.out
  have hs2 := hb2.size
  try simp at hs2
  have z2 : w.heap.size ≤ w2.heap.size := (by omega)
  have HB2 := Lib.hid (show Below w.heap.size w w2 by (repeat' (first | (with_reducible exact Below.refl _ _) | (with_reducible refine Below.setCell ?_ (by (first | omega | (simp; done) | (simp; omega))) _) | (with_reducible refine Below.alloc ?_ (by (first | omega | (simp; done) | (simp; omega))) _) | (with_reducible refine Below.drew ?_) | (with_reducible refine below_drewN ?_ _) | (with_reducible refine Below.trans ?_ (Below.mono HBo (by (first | omega | (simp; done) | (simp; omega))))) | (with_reducible refine Below.trans ?_ (Below.mono hb2 (by (first | omega | (simp; done) | (simp; omega))))))))
  clear HBo hb2 hs2 z1 HB1
  go_wp2_with fail
  go_at_call 36
  refine (at_c (-1048576) 63 1048575 _).mono ?_
  rintro e w3 ⟨rfl, hb3⟩
  have HBo := HB2.out
  have hs3 := hb3.size
  try simp at hs3
  have z3 : w.heap.size ≤ w3.heap.size := (by omega)
  have HB3 := Lib.hid (show Below w.heap.size w w3 by (repeat' (first | (with_reducible exact Below.refl _ _) | (with_reducible refine Below.setCell ?_ (by (first | omega | (simp; done) | (simp; omega))) _) | (with_reducible refine Below.alloc ?_ (by (first | omega | (simp; done) | (simp; omega))) _) | (with_reducible refine Below.drew ?_) | (with_reducible refine below_drewN ?_ _) | (with_reducible refine Below.trans ?_ (Below.mono HBo (by (first | omega | (simp; done) | (simp; omega))))) | (with_reducible refine Below.trans ?_ (Below.mono hb3 (by (first | omega | (simp; done) | (simp; omega))))))))
  clear HBo hb3 hs3 z2 HB2
  go_wp2_with fail
  go_at_call 19
  refine (may_b (x := -1048576) (y := 63) (z := 1048575) (r := true) (by decide) _).mono ?_
  rintro e w4 ⟨rfl, hb4⟩
  have HBo := HB3.out
  have hs4 := hb4.size
  try simp at hs4
  have z4 : w.heap.size ≤ w4.heap.size := (by omega)
  have HB4 := Lib.hid (show Below w.heap.size w w4 by (repeat' (first | (with_reducible exact Below.refl _ _) | (with_reducible refine Below.setCell ?_ (by (first | omega | (simp; done) | (simp; omega))) _) | (with_reducible refine Below.alloc ?_ (by (first | omega | (simp; done) | (simp; omega))) _) | (with_reducible refine Below.drew ?_) | (with_reducible refine below_drewN ?_ _) | (with_reducible refine Below.trans ?_ (Below.mono HBo (by (first | omega | (simp; done) | (simp; omega))))) | (with_reducible refine Below.trans ?_ (Below.mono hb4 (by (first | omega | (simp; done) | (simp; omega))))))))
  clear HBo hb4 hs4 z3 HB3
  go_wp2_with fail
  go_at_call 36
  refine (at_c 0 64 0 _).mono ?_
  rintro e w5 ⟨rfl, hb5⟩
  have HBo := HB4.out
  have hs5 := hb5.size
  try simp at hs5
  have z5 : w.heap.size ≤ w5.heap.size := (by omega)
  have HB5 := Lib.hid (show Below w.heap.size w w5 by (repeat' (first | (with_reducible exact Below.refl _ _) | (with_reducible refine Below.setCell ?_ (by (first | omega | (simp; done) | (simp; omega))) _) | (with_reducible refine Below.alloc ?_ (by (first | omega | (simp; done) | (simp; omega))) _) | (with_reducible refine Below.drew ?_) | (with_reducible refine below_drewN ?_ _) | (with_reducible refine Below.trans ?_ (Below.mono HBo (by (first | omega | (simp; done) | (simp; omega))))) | (with_reducible refine Below.trans ?_ (Below.mono hb5 (by (first | omega | (simp; done) | (simp; omega))))))))
  clear HBo hb5 hs5 z4 HB4
  go_wp2_with fail
  go_at_call 19
  refine (may_b (x := 0) (y := 64) (z := 0) (r := false) (by decide) _).mono ?_
  rintro e w6 ⟨rfl, hb6⟩
  have HBo := HB5.out
  have hs6 := hb6.size
  try simp at hs6
  have z6 : w.heap.size ≤ w6.heap.size := (by omega)
  have HB6 := Lib.hid (show Below w.heap.size w w6 by (repeat' (first | (with_reducible exact Below.refl _ _) | (with_reducible refine Below.setCell ?_ (by (first | omega | (simp; done) | (simp; omega))) _) | (with_reducible refine Below.alloc ?_ (by (first | omega | (simp; done) | (simp; omega))) _) | (with_reducible refine Below.drew ?_) | (with_reducible refine below_drewN ?_ _) | (with_reducible refine Below.trans ?_ (Below.mono HBo (by (first | omega | (simp; done) | (simp; omega))))) | (with_reducible refine Below.trans ?_ (Below.mono hb6 (by (first | omega | (simp; done) | (simp; omega))))))))
  clear HBo hb6 hs6 z5 HB5
  go_wp2_with fail
  go_at_call 36
  refine (at_c 0 (-1) 0 _).mono ?_
  rintro e w7 ⟨rfl, hb7⟩
  have HBo := HB6.out
  have hs7 := hb7.size
  try simp at hs7
  have z7 : w.heap.size ≤ w7.heap.size := (by omega)
  have HB7 := Lib.hid (show Below w.heap.size w w7 by (repeat' (first | (with_reducible exact Below.refl _ _) | (with_reducible refine Below.setCell ?_ (by (first | omega | (simp; done) | (simp; omega))) _) | (with_reducible refine Below.alloc ?_ (by (first | omega | (simp; done) | (simp; omega))) _) | (with_reducible refine Below.drew ?_) | (with_reducible refine below_drewN ?_ _) | (with_reducible refine Below.trans ?_ (Below.mono HBo (by (first | omega | (simp; done) | (simp; omega))))) | (with_reducible refine Below.trans ?_ (Below.mono hb7 (by (first | omega | (simp; done) | (simp; omega))))))))
  clear HBo hb7 hs7 z6 HB6
  go_wp2_with fail
  go_at_call 19
  refine (may_b (x := 0) (y := -1) (z := 0) (r := false) (by decide) _).mono ?_
  rintro e w8 ⟨rfl, hb8⟩
  have HBo := HB7.out
  have hs8 := hb8.size
  try simp at hs8
  have z8 : w.heap.size ≤ w8.heap.size := (by omega)
  have HB8 := Lib.hid (show Below w.heap.size w w8 by (repeat' (first | (with_reducible exact Below.refl _ _) | (with_reducible refine Below.setCell ?_ (by (first | omega | (simp; done) | (simp; omega))) _) | (with_reducible refine Below.alloc ?_ (by (first | omega | (simp; done) | (simp; omega))) _) | (with_reducible refine Below.drew ?_) | (with_reducible refine below_drewN ?_ _) | (with_reducible refine Below.trans ?_ (Below.mono HBo (by (first | omega | (simp; done) | (simp; omega))))) | (with_reducible refine Below.trans ?_ (Below.mono hb8 (by (first | omega | (simp; done) | (simp; omega))))))))
  clear HBo hb8 hs8 z7 HB7
  go_wp2_with fail
  go_at_call 36
  refine (at_c 1048576 0 0 _).mono ?_
  rintro e w9 ⟨rfl, hb9⟩
  have HBo := HB8.out
  have hs9 := hb9.size
  try simp at hs9
  have z9 : w.heap.size ≤ w9.heap.size := (by omega)
  have HB9 := Lib.hid (show Below w.heap.size w w9 by (repeat' (first | (with_reducible exact Below.refl _ _) | (with_reducible refine Below.setCell ?_ (by (first | omega | (simp; done) | (simp; omega))) _) | (with_reducible refine Below.alloc ?_ (by (first | omega | (simp; done) | (simp; omega))) _) | (with_reducible refine Below.drew ?_) | (with_reducible refine below_drewN ?_ _) | (with_reducible refine Below.trans ?_ (Below.mono HBo (by (first | omega | (simp; done) | (simp; omega))))) | (with_reducible refine Below.trans ?_ (Below.mono hb9 (by (first | omega | (simp; done) | (simp; omega))))))))
  clear HBo hb9 hs9 z8 HB8
  go_wp2_with fail
  go_at_call 19
  refine (may_b (x := 1048576) (y := 0) (z := 0) (r := false) (by decide) _).mono ?_
  rintro e w10 ⟨rfl, hb10⟩
  have HBo := HB9.out
  have hs10 := hb10.size
  try simp at hs10
  have z10 : w.heap.size ≤ w10.heap.size := (by omega)
  have HB10 := Lib.hid (show Below w.heap.size w w10 by (repeat' (first | (with_reducible exact Below.refl _ _) | (with_reducible refine Below.setCell ?_ (by (first | omega | (simp; done) | (simp; omega))) _) | (with_reducible refine Below.alloc ?_ (by (first | omega | (simp; done) | (simp; omega))) _) | (with_reducible refine Below.drew ?_) | (with_reducible refine below_drewN ?_ _) | (with_reducible refine Below.trans ?_ (Below.mono HBo (by (first | omega | (simp; done) | (simp; omega))))) | (with_reducible refine Below.trans ?_ (Below.mono hb10 (by (first | omega | (simp; done) | (simp; omega))))))))
  clear HBo hb10 hs10 z9 HB9
  go_wp2_with fail
  go_at_call 21
  refine (maySpot_b (x := 0) (y := 4) (z := 0) (r := false) (by decide) _).mono ?_
  rintro e w11 ⟨rfl, hb11⟩
  have HBo := HB10.out
  have hs11 := hb11.size
  try simp at hs11
  have z11 : w.heap.size ≤ w11.heap.size := (by omega)
  have HB11 := Lib.hid (show Below w.heap.size w w11 by (repeat' (first | (with_reducible exact Below.refl _ _) | (with_reducible refine Below.setCell ?_ (by (first | omega | (simp; done) | (simp; omega))) _) | (with_reducible refine Below.alloc ?_ (by (first | omega | (simp; done) | (simp; omega))) _) | (with_reducible refine Below.drew ?_) | (with_reducible refine below_drewN ?_ _) | (with_reducible refine Below.trans ?_ (Below.mono HBo (by (first | omega | (simp; done) | (simp; omega))))) | (with_reducible refine Below.trans ?_ (Below.mono hb11 (by (first | omega | (simp; done) | (simp; omega))))))))
  clear HBo hb11 hs11 z10 HB10
  go_wp2_with fail
  go_at_call 21
  refine (maySpot_b (x := 65536) (y := 0) (z := 0) (r := false) (by decide) _).mono ?_
  rintro e w12 ⟨rfl, hb12⟩
  have HBo := HB11.out
  have hs12 := hb12.size
  try simp at hs12
  have z12 : w.heap.size ≤ w12.heap.size := (by omega)
  have HB12 := Lib.hid (show Below w.heap.size w w12 by (repeat' (first | (with_reducible exact Below.refl _ _) | (with_reducible refine Below.setCell ?_ (by (first | omega | (simp; done) | (simp; omega))) _) | (with_reducible refine Below.alloc ?_ (by (first | omega | (simp; done) | (simp; omega))) _) | (with_reducible refine Below.drew ?_) | (with_reducible refine below_drewN ?_ _) | (with_reducible refine Below.trans ?_ (Below.mono HBo (by (first | omega | (simp; done) | (simp; omega))))) | (with_reducible refine Below.trans ?_ (Below.mono hb12 (by (first | omega | (simp; done) | (simp; omega))))))))
  clear HBo hb12 hs12 z11 HB11
  go_wp2_with fail
  go_at_call 21
  refine (maySpot_b (x := -65536) (y := 3) (z := 65535) (r := true) (by decide) _).mono ?_
  rintro e w13 ⟨rfl, hb13⟩
  have HBo := HB12.out
  have hs13 := hb13.size
  try simp at hs13
  have z13 : w.heap.size ≤ w13.heap.size := (by omega)
  have HB13 := Lib.hid (show Below w.heap.size w w13 by (repeat' (first | (with_reducible exact Below.refl _ _) | (with_reducible refine Below.setCell ?_ (by (first | omega | (simp; done) | (simp; omega))) _) | (with_reducible refine Below.alloc ?_ (by (first | omega | (simp; done) | (simp; omega))) _) | (with_reducible refine Below.drew ?_) | (with_reducible refine below_drewN ?_ _) | (with_reducible refine Below.trans ?_ (Below.mono HBo (by (first | omega | (simp; done) | (simp; omega))))) | (with_reducible refine Below.trans ?_ (Below.mono hb13 (by (first | omega | (simp; done) | (simp; omega))))))))
  clear HBo hb13 hs13 z12 HB12
  go_wp2_with fail
  go_at_call 17
  refine (of_c (x := -1) (y := 1) (z := 1) (i := 271) (X := -1) (Y := 17) (Z := 16) (r := true) (by decide) _).mono ?_
  rintro e w14 ⟨rfl, hb14⟩
  have HBo := HB13.out
  have hs14 := hb14.size
  try simp at hs14
  have z14 : w.heap.size ≤ w14.heap.size := (by omega)
  have HB14 := Lib.hid (show Below w.heap.size w w14 by (repeat' (first | (with_reducible exact Below.refl _ _) | (with_reducible refine Below.setCell ?_ (by (first | omega | (simp; done) | (simp; omega))) _) | (with_reducible refine Below.alloc ?_ (by (first | omega | (simp; done) | (simp; omega))) _) | (with_reducible refine Below.drew ?_) | (with_reducible refine below_drewN ?_ _) | (with_reducible refine Below.trans ?_ (Below.mono HBo (by (first | omega | (simp; done) | (simp; omega))))) | (with_reducible refine Below.trans ?_ (Below.mono hb14 (by (first | omega | (simp; done) | (simp; omega))))))))
  clear HBo hb14 hs14 z13 HB13
  go_wp2_with fail
  go_at_call 17
  refine (of_c (x := -1) (y := 1) (z := 1) (i := 4096) (X := 0) (Y := 0) (Z := 0) (r := false) (by decide) _).mono ?_
  rintro e w15 ⟨rfl, hb15⟩
  have HBo := HB14.out
  have hs15 := hb15.size
  try simp at hs15
  obtain ⟨c15_0_0, c15_0_1, c15_0_2, l15_0⟩ : w15.cell? ⟨w14.heap.size, 0, none⟩ = some (.int .i64 (-1)) ∧ w15.cell? ⟨w14.heap.size, 1, none⟩ = some (.int .i64 17) ∧ w15.cell? ⟨w14.heap.size, 2, none⟩ = some (.int .i64 16) ∧ w14.heap.size < w15.heap.size := by
    refine ⟨?_, ?_, ?_, ?_⟩
    all_goals (repeat' (first | (with_reducible assumption) | (with_reducible refine HeldP.c_below hb15 ?_ ?_) | (with_reducible refine HeldP.f_below hb15 ?_ ?_) | (with_reducible refine HeldP.c_drew ?_) | (with_reducible refine HeldP.c_drewN ?_) | (with_reducible refine HeldP.c_same (by omega) ?_) | (with_reducible refine HeldP.c_other ?_ ?_) | (with_reducible refine HeldP.c_new (by first | omega | (simp; done) | (simp; omega)) ?_) | (with_reducible refine HeldP.c_alloc ?_ ?_) | (with_reducible refine HeldP.e_drew ?_) | (with_reducible refine HeldP.e_drewN ?_) | (with_reducible refine HeldP.e_set ?_) | (with_reducible refine HeldP.e_new (by first | omega | (simp; done) | (simp; omega)) ⟨_, rfl⟩) | (with_reducible refine HeldP.e_alloc ?_ ?_) | (with_reducible refine HeldP.f_drew ?_) | (with_reducible refine HeldP.f_drewN ?_) | (with_reducible refine HeldP.f_set ?_) | (with_reducible refine HeldP.f_new (by first | omega | (simp; done) | (simp; omega))) | (with_reducible refine HeldP.f_alloc ?_ ?_) | (with_reducible refine HeldP.s_drew ?_) | (with_reducible refine HeldP.s_drewN ?_) | (with_reducible refine HeldP.s_set ?_) | (with_reducible refine HeldP.s_new (by first | omega | (simp; done) | (simp; omega))) | (with_reducible refine HeldP.s_alloc ?_) | (with_reducible exact ⟨_, by assumption⟩) | omega | (intro e; simp at e; done) | (intro e; simp at e; omega) | (exact rfl) | (simp; done) | (simp; omega)))
  have n15_0 : w14.heap.size ≠ w15.heap.size := (by omega)
  have z15 : w.heap.size ≤ w15.heap.size := (by omega)
  have HB15 := Lib.hid (show Below w.heap.size w w15 by (repeat' (first | (with_reducible exact Below.refl _ _) | (with_reducible refine Below.setCell ?_ (by (first | omega | (simp; done) | (simp; omega))) _) | (with_reducible refine Below.alloc ?_ (by (first | omega | (simp; done) | (simp; omega))) _) | (with_reducible refine Below.drew ?_) | (with_reducible refine below_drewN ?_ _) | (with_reducible refine Below.trans ?_ (Below.mono HBo (by (first | omega | (simp; done) | (simp; omega))))) | (with_reducible refine Below.trans ?_ (Below.mono hb15 (by (first | omega | (simp; done) | (simp; omega))))))))
  clear HBo hb15 hs15 z14 HB14
  go_wp2_with fail
  go_at_call 36
  refine (at_c 0 0 0 _).mono ?_
  rintro e w16 ⟨rfl, hb16⟩
  have HBo := HB15.out
  have hs16 := hb16.size
  try simp at hs16
  obtain ⟨c16_0_0, c16_0_1, c16_0_2, l16_0⟩ : w16.cell? ⟨w14.heap.size, 0, none⟩ = some (.int .i64 (-1)) ∧ w16.cell? ⟨w14.heap.size, 1, none⟩ = some (.int .i64 17) ∧ w16.cell? ⟨w14.heap.size, 2, none⟩ = some (.int .i64 16) ∧ w14.heap.size < w16.heap.size := by
    refine ⟨?_, ?_, ?_, ?_⟩
    all_goals (repeat' (first | (with_reducible assumption) | (with_reducible refine HeldP.c_below hb16 ?_ ?_) | (with_reducible refine HeldP.f_below hb16 ?_ ?_) | (with_reducible refine HeldP.c_drew ?_) | (with_reducible refine HeldP.c_drewN ?_) | (with_reducible refine HeldP.c_same (by omega) ?_) | (with_reducible refine HeldP.c_other ?_ ?_) | (with_reducible refine HeldP.c_new (by first | omega | (simp; done) | (simp; omega)) ?_) | (with_reducible refine HeldP.c_alloc ?_ ?_) | (with_reducible refine HeldP.e_drew ?_) | (with_reducible refine HeldP.e_drewN ?_) | (with_reducible refine HeldP.e_set ?_) | (with_reducible refine HeldP.e_new (by first | omega | (simp; done) | (simp; omega)) ⟨_, rfl⟩) | (with_reducible refine HeldP.e_alloc ?_ ?_) | (with_reducible refine HeldP.f_drew ?_) | (with_reducible refine HeldP.f_drewN ?_) | (with_reducible refine HeldP.f_set ?_) | (with_reducible refine HeldP.f_new (by first | omega | (simp; done) | (simp; omega))) | (with_reducible refine HeldP.f_alloc ?_ ?_) | (with_reducible refine HeldP.s_drew ?_) | (with_reducible refine HeldP.s_drewN ?_) | (with_reducible refine HeldP.s_set ?_) | (with_reducible refine HeldP.s_new (by first | omega | (simp; done) | (simp; omega))) | (with_reducible refine HeldP.s_alloc ?_) | (with_reducible exact ⟨_, by assumption⟩) | omega | (intro e; simp at e; done) | (intro e; simp at e; omega) | (exact rfl) | (simp; done) | (simp; omega)))
  have n16_0 : w14.heap.size ≠ w16.heap.size := (by omega)
  have z16 : w.heap.size ≤ w16.heap.size := (by omega)
  have HB16 := Lib.hid (show Below w.heap.size w w16 by (repeat' (first | (with_reducible exact Below.refl _ _) | (with_reducible refine Below.setCell ?_ (by (first | omega | (simp; done) | (simp; omega))) _) | (with_reducible refine Below.alloc ?_ (by (first | omega | (simp; done) | (simp; omega))) _) | (with_reducible refine Below.drew ?_) | (with_reducible refine below_drewN ?_ _) | (with_reducible refine Below.trans ?_ (Below.mono HBo (by (first | omega | (simp; done) | (simp; omega))))) | (with_reducible refine Below.trans ?_ (Below.mono hb16 (by (first | omega | (simp; done) | (simp; omega))))))))
  clear HBo hb16 hs16 c15_0_0 c15_0_1 c15_0_2 l15_0 n15_0 z15 HB15
  go_wp2_with fail
  go_at_call 24
  refine (step_c (x := 0) (y := 0) (z := 0) (d := 4) (X := 0) (Y := 1) (Z := 0) (r := true) (by kernel_rfl) _).mono ?_
  rintro e w17 ⟨rfl, hb17⟩
  have HBo := HB16.out
  have hs17 := hb17.size
  try simp at hs17
  obtain ⟨c17_0_0, c17_0_1, c17_0_2, l17_0⟩ : w17.cell? ⟨w14.heap.size, 0, none⟩ = some (.int .i64 (-1)) ∧ w17.cell? ⟨w14.heap.size, 1, none⟩ = some (.int .i64 17) ∧ w17.cell? ⟨w14.heap.size, 2, none⟩ = some (.int .i64 16) ∧ w14.heap.size < w17.heap.size := by
    refine ⟨?_, ?_, ?_, ?_⟩
    all_goals (repeat' (first | (with_reducible assumption) | (with_reducible refine HeldP.c_below hb17 ?_ ?_) | (with_reducible refine HeldP.f_below hb17 ?_ ?_) | (with_reducible refine HeldP.c_drew ?_) | (with_reducible refine HeldP.c_drewN ?_) | (with_reducible refine HeldP.c_same (by omega) ?_) | (with_reducible refine HeldP.c_other ?_ ?_) | (with_reducible refine HeldP.c_new (by first | omega | (simp; done) | (simp; omega)) ?_) | (with_reducible refine HeldP.c_alloc ?_ ?_) | (with_reducible refine HeldP.e_drew ?_) | (with_reducible refine HeldP.e_drewN ?_) | (with_reducible refine HeldP.e_set ?_) | (with_reducible refine HeldP.e_new (by first | omega | (simp; done) | (simp; omega)) ⟨_, rfl⟩) | (with_reducible refine HeldP.e_alloc ?_ ?_) | (with_reducible refine HeldP.f_drew ?_) | (with_reducible refine HeldP.f_drewN ?_) | (with_reducible refine HeldP.f_set ?_) | (with_reducible refine HeldP.f_new (by first | omega | (simp; done) | (simp; omega))) | (with_reducible refine HeldP.f_alloc ?_ ?_) | (with_reducible refine HeldP.s_drew ?_) | (with_reducible refine HeldP.s_drewN ?_) | (with_reducible refine HeldP.s_set ?_) | (with_reducible refine HeldP.s_new (by first | omega | (simp; done) | (simp; omega))) | (with_reducible refine HeldP.s_alloc ?_) | (with_reducible exact ⟨_, by assumption⟩) | omega | (intro e; simp at e; done) | (intro e; simp at e; omega) | (exact rfl) | (simp; done) | (simp; omega)))
  have n17_0 : w14.heap.size ≠ w17.heap.size := (by omega)
  have z17 : w.heap.size ≤ w17.heap.size := (by omega)
  have HB17 := Lib.hid (show Below w.heap.size w w17 by (repeat' (first | (with_reducible exact Below.refl _ _) | (with_reducible refine Below.setCell ?_ (by (first | omega | (simp; done) | (simp; omega))) _) | (with_reducible refine Below.alloc ?_ (by (first | omega | (simp; done) | (simp; omega))) _) | (with_reducible refine Below.drew ?_) | (with_reducible refine below_drewN ?_ _) | (with_reducible refine Below.trans ?_ (Below.mono HBo (by (first | omega | (simp; done) | (simp; omega))))) | (with_reducible refine Below.trans ?_ (Below.mono hb17 (by (first | omega | (simp; done) | (simp; omega))))))))
  clear HBo hb17 hs17 c16_0_0 c16_0_1 c16_0_2 l16_0 n16_0 z16 HB16
  go_wp2_with fail
  go_at_call 36
  refine (at_c 0 0 0 _).mono ?_
  rintro e w18 ⟨rfl, hb18⟩
  have HBo := HB17.out
  have hs18 := hb18.size
  try simp at hs18
  obtain ⟨c18_0_0, c18_0_1, c18_0_2, l18_0, c18_1_0, c18_1_1, c18_1_2, l18_1⟩ : w18.cell? ⟨w14.heap.size, 0, none⟩ = some (.int .i64 (-1)) ∧ w18.cell? ⟨w14.heap.size, 1, none⟩ = some (.int .i64 17) ∧ w18.cell? ⟨w14.heap.size, 2, none⟩ = some (.int .i64 16) ∧ w14.heap.size < w18.heap.size ∧ w18.cell? ⟨w17.heap.size, 0, none⟩ = some (.int .i64 0) ∧ w18.cell? ⟨w17.heap.size, 1, none⟩ = some (.int .i64 1) ∧ w18.cell? ⟨w17.heap.size, 2, none⟩ = some (.int .i64 0) ∧ w17.heap.size < w18.heap.size := by
    refine ⟨?_, ?_, ?_, ?_, ?_, ?_, ?_, ?_⟩
    all_goals (repeat' (first | (with_reducible assumption) | (with_reducible refine HeldP.c_below hb18 ?_ ?_) | (with_reducible refine HeldP.f_below hb18 ?_ ?_) | (with_reducible refine HeldP.c_drew ?_) | (with_reducible refine HeldP.c_drewN ?_) | (with_reducible refine HeldP.c_same (by omega) ?_) | (with_reducible refine HeldP.c_other ?_ ?_) | (with_reducible refine HeldP.c_new (by first | omega | (simp; done) | (simp; omega)) ?_) | (with_reducible refine HeldP.c_alloc ?_ ?_) | (with_reducible refine HeldP.e_drew ?_) | (with_reducible refine HeldP.e_drewN ?_) | (with_reducible refine HeldP.e_set ?_) | (with_reducible refine HeldP.e_new (by first | omega | (simp; done) | (simp; omega)) ⟨_, rfl⟩) | (with_reducible refine HeldP.e_alloc ?_ ?_) | (with_reducible refine HeldP.f_drew ?_) | (with_reducible refine HeldP.f_drewN ?_) | (with_reducible refine HeldP.f_set ?_) | (with_reducible refine HeldP.f_new (by first | omega | (simp; done) | (simp; omega))) | (with_reducible refine HeldP.f_alloc ?_ ?_) | (with_reducible refine HeldP.s_drew ?_) | (with_reducible refine HeldP.s_drewN ?_) | (with_reducible refine HeldP.s_set ?_) | (with_reducible refine HeldP.s_new (by first | omega | (simp; done) | (simp; omega))) | (with_reducible refine HeldP.s_alloc ?_) | (with_reducible exact ⟨_, by assumption⟩) | omega | (intro e; simp at e; done) | (intro e; simp at e; omega) | (exact rfl) | (simp; done) | (simp; omega)))
  have n18_0 : w14.heap.size ≠ w18.heap.size := (by omega)
  have n18_1 : w17.heap.size ≠ w18.heap.size := (by omega)
  have z18 : w.heap.size ≤ w18.heap.size := (by omega)
  have HB18 := Lib.hid (show Below w.heap.size w w18 by (repeat' (first | (with_reducible exact Below.refl _ _) | (with_reducible refine Below.setCell ?_ (by (first | omega | (simp; done) | (simp; omega))) _) | (with_reducible refine Below.alloc ?_ (by (first | omega | (simp; done) | (simp; omega))) _) | (with_reducible refine Below.drew ?_) | (with_reducible refine below_drewN ?_ _) | (with_reducible refine Below.trans ?_ (Below.mono HBo (by (first | omega | (simp; done) | (simp; omega))))) | (with_reducible refine Below.trans ?_ (Below.mono hb18 (by (first | omega | (simp; done) | (simp; omega))))))))
  clear HBo hb18 hs18 c17_0_0 c17_0_1 c17_0_2 l17_0 n17_0 z17 HB17
  go_wp2_with fail
  go_at_call 24
  refine (step_c (x := 0) (y := 0) (z := 0) (d := 5) (X := 0) (Y := 0) (Z := 0) (r := false) (by kernel_rfl) _).mono ?_
  rintro e w19 ⟨rfl, hb19⟩
  have HBo := HB18.out
  have hs19 := hb19.size
  try simp at hs19
  obtain ⟨c19_0_0, c19_0_1, c19_0_2, l19_0, c19_1_0, c19_1_1, c19_1_2, l19_1⟩ : w19.cell? ⟨w14.heap.size, 0, none⟩ = some (.int .i64 (-1)) ∧ w19.cell? ⟨w14.heap.size, 1, none⟩ = some (.int .i64 17) ∧ w19.cell? ⟨w14.heap.size, 2, none⟩ = some (.int .i64 16) ∧ w14.heap.size < w19.heap.size ∧ w19.cell? ⟨w17.heap.size, 0, none⟩ = some (.int .i64 0) ∧ w19.cell? ⟨w17.heap.size, 1, none⟩ = some (.int .i64 1) ∧ w19.cell? ⟨w17.heap.size, 2, none⟩ = some (.int .i64 0) ∧ w17.heap.size < w19.heap.size := by
    refine ⟨?_, ?_, ?_, ?_, ?_, ?_, ?_, ?_⟩
    all_goals (repeat' (first | (with_reducible assumption) | (with_reducible refine HeldP.c_below hb19 ?_ ?_) | (with_reducible refine HeldP.f_below hb19 ?_ ?_) | (with_reducible refine HeldP.c_drew ?_) | (with_reducible refine HeldP.c_drewN ?_) | (with_reducible refine HeldP.c_same (by omega) ?_) | (with_reducible refine HeldP.c_other ?_ ?_) | (with_reducible refine HeldP.c_new (by first | omega | (simp; done) | (simp; omega)) ?_) | (with_reducible refine HeldP.c_alloc ?_ ?_) | (with_reducible refine HeldP.e_drew ?_) | (with_reducible refine HeldP.e_drewN ?_) | (with_reducible refine HeldP.e_set ?_) | (with_reducible refine HeldP.e_new (by first | omega | (simp; done) | (simp; omega)) ⟨_, rfl⟩) | (with_reducible refine HeldP.e_alloc ?_ ?_) | (with_reducible refine HeldP.f_drew ?_) | (with_reducible refine HeldP.f_drewN ?_) | (with_reducible refine HeldP.f_set ?_) | (with_reducible refine HeldP.f_new (by first | omega | (simp; done) | (simp; omega))) | (with_reducible refine HeldP.f_alloc ?_ ?_) | (with_reducible refine HeldP.s_drew ?_) | (with_reducible refine HeldP.s_drewN ?_) | (with_reducible refine HeldP.s_set ?_) | (with_reducible refine HeldP.s_new (by first | omega | (simp; done) | (simp; omega))) | (with_reducible refine HeldP.s_alloc ?_) | (with_reducible exact ⟨_, by assumption⟩) | omega | (intro e; simp at e; done) | (intro e; simp at e; omega) | (exact rfl) | (simp; done) | (simp; omega)))
  have n19_0 : w14.heap.size ≠ w19.heap.size := (by omega)
  have n19_1 : w17.heap.size ≠ w19.heap.size := (by omega)
  have z19 : w.heap.size ≤ w19.heap.size := (by omega)
  have HB19 := Lib.hid (show Below w.heap.size w w19 by (repeat' (first | (with_reducible exact Below.refl _ _) | (with_reducible refine Below.setCell ?_ (by (first | omega | (simp; done) | (simp; omega))) _) | (with_reducible refine Below.alloc ?_ (by (first | omega | (simp; done) | (simp; omega))) _) | (with_reducible refine Below.drew ?_) | (with_reducible refine below_drewN ?_ _) | (with_reducible refine Below.trans ?_ (Below.mono HBo (by (first | omega | (simp; done) | (simp; omega))))) | (with_reducible refine Below.trans ?_ (Below.mono hb19 (by (first | omega | (simp; done) | (simp; omega))))))))
  clear HBo hb19 hs19 c18_0_0 c18_0_1 c18_0_2 l18_0 c18_1_0 c18_1_1 c18_1_2 l18_1 n18_0 n18_1 z18 HB18
  go_wp2_with fail
  go_at_call 36
  refine (at_c 0 0 0 _).mono ?_
  rintro e w20 ⟨rfl, hb20⟩
  have HBo := HB19.out
  have hs20 := hb20.size
  try simp at hs20
  obtain ⟨c20_0_0, c20_0_1, c20_0_2, l20_0, c20_1_0, c20_1_1, c20_1_2, l20_1⟩ : w20.cell? ⟨w14.heap.size, 0, none⟩ = some (.int .i64 (-1)) ∧ w20.cell? ⟨w14.heap.size, 1, none⟩ = some (.int .i64 17) ∧ w20.cell? ⟨w14.heap.size, 2, none⟩ = some (.int .i64 16) ∧ w14.heap.size < w20.heap.size ∧ w20.cell? ⟨w17.heap.size, 0, none⟩ = some (.int .i64 0) ∧ w20.cell? ⟨w17.heap.size, 1, none⟩ = some (.int .i64 1) ∧ w20.cell? ⟨w17.heap.size, 2, none⟩ = some (.int .i64 0) ∧ w17.heap.size < w20.heap.size := by
    refine ⟨?_, ?_, ?_, ?_, ?_, ?_, ?_, ?_⟩
    all_goals (repeat' (first | (with_reducible assumption) | (with_reducible refine HeldP.c_below hb20 ?_ ?_) | (with_reducible refine HeldP.f_below hb20 ?_ ?_) | (with_reducible refine HeldP.c_drew ?_) | (with_reducible refine HeldP.c_drewN ?_) | (with_reducible refine HeldP.c_same (by omega) ?_) | (with_reducible refine HeldP.c_other ?_ ?_) | (with_reducible refine HeldP.c_new (by first | omega | (simp; done) | (simp; omega)) ?_) | (with_reducible refine HeldP.c_alloc ?_ ?_) | (with_reducible refine HeldP.e_drew ?_) | (with_reducible refine HeldP.e_drewN ?_) | (with_reducible refine HeldP.e_set ?_) | (with_reducible refine HeldP.e_new (by first | omega | (simp; done) | (simp; omega)) ⟨_, rfl⟩) | (with_reducible refine HeldP.e_alloc ?_ ?_) | (with_reducible refine HeldP.f_drew ?_) | (with_reducible refine HeldP.f_drewN ?_) | (with_reducible refine HeldP.f_set ?_) | (with_reducible refine HeldP.f_new (by first | omega | (simp; done) | (simp; omega))) | (with_reducible refine HeldP.f_alloc ?_ ?_) | (with_reducible refine HeldP.s_drew ?_) | (with_reducible refine HeldP.s_drewN ?_) | (with_reducible refine HeldP.s_set ?_) | (with_reducible refine HeldP.s_new (by first | omega | (simp; done) | (simp; omega))) | (with_reducible refine HeldP.s_alloc ?_) | (with_reducible exact ⟨_, by assumption⟩) | omega | (intro e; simp at e; done) | (intro e; simp at e; omega) | (exact rfl) | (simp; done) | (simp; omega)))
  have n20_0 : w14.heap.size ≠ w20.heap.size := (by omega)
  have n20_1 : w17.heap.size ≠ w20.heap.size := (by omega)
  have z20 : w.heap.size ≤ w20.heap.size := (by omega)
  have HB20 := Lib.hid (show Below w.heap.size w w20 by (repeat' (first | (with_reducible exact Below.refl _ _) | (with_reducible refine Below.setCell ?_ (by (first | omega | (simp; done) | (simp; omega))) _) | (with_reducible refine Below.alloc ?_ (by (first | omega | (simp; done) | (simp; omega))) _) | (with_reducible refine Below.drew ?_) | (with_reducible refine below_drewN ?_ _) | (with_reducible refine Below.trans ?_ (Below.mono HBo (by (first | omega | (simp; done) | (simp; omega))))) | (with_reducible refine Below.trans ?_ (Below.mono hb20 (by (first | omega | (simp; done) | (simp; omega))))))))
  clear HBo hb20 hs20 c19_0_0 c19_0_1 c19_0_2 l19_0 c19_1_0 c19_1_1 c19_1_2 l19_1 n19_0 n19_1 z19 HB19
  go_wp2_with fail
  go_at_call 24
  refine (step_c (x := 0) (y := 0) (z := 0) (d := 6) (X := 0) (Y := 0) (Z := 0) (r := false) (by kernel_rfl) _).mono ?_
  rintro e w21 ⟨rfl, hb21⟩
  have HBo := HB20.out
  have hs21 := hb21.size
  try simp at hs21
  obtain ⟨c21_0_0, c21_0_1, c21_0_2, l21_0, c21_1_0, c21_1_1, c21_1_2, l21_1⟩ : w21.cell? ⟨w14.heap.size, 0, none⟩ = some (.int .i64 (-1)) ∧ w21.cell? ⟨w14.heap.size, 1, none⟩ = some (.int .i64 17) ∧ w21.cell? ⟨w14.heap.size, 2, none⟩ = some (.int .i64 16) ∧ w14.heap.size < w21.heap.size ∧ w21.cell? ⟨w17.heap.size, 0, none⟩ = some (.int .i64 0) ∧ w21.cell? ⟨w17.heap.size, 1, none⟩ = some (.int .i64 1) ∧ w21.cell? ⟨w17.heap.size, 2, none⟩ = some (.int .i64 0) ∧ w17.heap.size < w21.heap.size := by
    refine ⟨?_, ?_, ?_, ?_, ?_, ?_, ?_, ?_⟩
    all_goals (repeat' (first | (with_reducible assumption) | (with_reducible refine HeldP.c_below hb21 ?_ ?_) | (with_reducible refine HeldP.f_below hb21 ?_ ?_) | (with_reducible refine HeldP.c_drew ?_) | (with_reducible refine HeldP.c_drewN ?_) | (with_reducible refine HeldP.c_same (by omega) ?_) | (with_reducible refine HeldP.c_other ?_ ?_) | (with_reducible refine HeldP.c_new (by first | omega | (simp; done) | (simp; omega)) ?_) | (with_reducible refine HeldP.c_alloc ?_ ?_) | (with_reducible refine HeldP.e_drew ?_) | (with_reducible refine HeldP.e_drewN ?_) | (with_reducible refine HeldP.e_set ?_) | (with_reducible refine HeldP.e_new (by first | omega | (simp; done) | (simp; omega)) ⟨_, rfl⟩) | (with_reducible refine HeldP.e_alloc ?_ ?_) | (with_reducible refine HeldP.f_drew ?_) | (with_reducible refine HeldP.f_drewN ?_) | (with_reducible refine HeldP.f_set ?_) | (with_reducible refine HeldP.f_new (by first | omega | (simp; done) | (simp; omega))) | (with_reducible refine HeldP.f_alloc ?_ ?_) | (with_reducible refine HeldP.s_drew ?_) | (with_reducible refine HeldP.s_drewN ?_) | (with_reducible refine HeldP.s_set ?_) | (with_reducible refine HeldP.s_new (by first | omega | (simp; done) | (simp; omega))) | (with_reducible refine HeldP.s_alloc ?_) | (with_reducible exact ⟨_, by assumption⟩) | omega | (intro e; simp at e; done) | (intro e; simp at e; omega) | (exact rfl) | (simp; done) | (simp; omega)))
  have n21_0 : w14.heap.size ≠ w21.heap.size := (by omega)
  have n21_1 : w17.heap.size ≠ w21.heap.size := (by omega)
  have z21 : w.heap.size ≤ w21.heap.size := (by omega)
  have HB21 := Lib.hid (show Below w.heap.size w w21 by (repeat' (first | (with_reducible exact Below.refl _ _) | (with_reducible refine Below.setCell ?_ (by (first | omega | (simp; done) | (simp; omega))) _) | (with_reducible refine Below.alloc ?_ (by (first | omega | (simp; done) | (simp; omega))) _) | (with_reducible refine Below.drew ?_) | (with_reducible refine below_drewN ?_ _) | (with_reducible refine Below.trans ?_ (Below.mono HBo (by (first | omega | (simp; done) | (simp; omega))))) | (with_reducible refine Below.trans ?_ (Below.mono hb21 (by (first | omega | (simp; done) | (simp; omega))))))))
  clear HBo hb21 hs21 c20_0_0 c20_0_1 c20_0_2 l20_0 c20_1_0 c20_1_1 c20_1_2 l20_1 n20_0 n20_1 z20 HB20
  go_wp2_with fail
  go_at_call 36
  refine (at_c (-1048576) 5 5 _).mono ?_
  rintro e w22 ⟨rfl, hb22⟩
  have HBo := HB21.out
  have hs22 := hb22.size
  try simp at hs22
  obtain ⟨c22_0_0, c22_0_1, c22_0_2, l22_0, c22_1_0, c22_1_1, c22_1_2, l22_1⟩ : w22.cell? ⟨w14.heap.size, 0, none⟩ = some (.int .i64 (-1)) ∧ w22.cell? ⟨w14.heap.size, 1, none⟩ = some (.int .i64 17) ∧ w22.cell? ⟨w14.heap.size, 2, none⟩ = some (.int .i64 16) ∧ w14.heap.size < w22.heap.size ∧ w22.cell? ⟨w17.heap.size, 0, none⟩ = some (.int .i64 0) ∧ w22.cell? ⟨w17.heap.size, 1, none⟩ = some (.int .i64 1) ∧ w22.cell? ⟨w17.heap.size, 2, none⟩ = some (.int .i64 0) ∧ w17.heap.size < w22.heap.size := by
    refine ⟨?_, ?_, ?_, ?_, ?_, ?_, ?_, ?_⟩
    all_goals (repeat' (first | (with_reducible assumption) | (with_reducible refine HeldP.c_below hb22 ?_ ?_) | (with_reducible refine HeldP.f_below hb22 ?_ ?_) | (with_reducible refine HeldP.c_drew ?_) | (with_reducible refine HeldP.c_drewN ?_) | (with_reducible refine HeldP.c_same (by omega) ?_) | (with_reducible refine HeldP.c_other ?_ ?_) | (with_reducible refine HeldP.c_new (by first | omega | (simp; done) | (simp; omega)) ?_) | (with_reducible refine HeldP.c_alloc ?_ ?_) | (with_reducible refine HeldP.e_drew ?_) | (with_reducible refine HeldP.e_drewN ?_) | (with_reducible refine HeldP.e_set ?_) | (with_reducible refine HeldP.e_new (by first | omega | (simp; done) | (simp; omega)) ⟨_, rfl⟩) | (with_reducible refine HeldP.e_alloc ?_ ?_) | (with_reducible refine HeldP.f_drew ?_) | (with_reducible refine HeldP.f_drewN ?_) | (with_reducible refine HeldP.f_set ?_) | (with_reducible refine HeldP.f_new (by first | omega | (simp; done) | (simp; omega))) | (with_reducible refine HeldP.f_alloc ?_ ?_) | (with_reducible refine HeldP.s_drew ?_) | (with_reducible refine HeldP.s_drewN ?_) | (with_reducible refine HeldP.s_set ?_) | (with_reducible refine HeldP.s_new (by first | omega | (simp; done) | (simp; omega))) | (with_reducible refine HeldP.s_alloc ?_) | (with_reducible exact ⟨_, by assumption⟩) | omega | (intro e; simp at e; done) | (intro e; simp at e; omega) | (exact rfl) | (simp; done) | (simp; omega)))
  have n22_0 : w14.heap.size ≠ w22.heap.size := (by omega)
  have n22_1 : w17.heap.size ≠ w22.heap.size := (by omega)
  have z22 : w.heap.size ≤ w22.heap.size := (by omega)
  have HB22 := Lib.hid (show Below w.heap.size w w22 by (repeat' (first | (with_reducible exact Below.refl _ _) | (with_reducible refine Below.setCell ?_ (by (first | omega | (simp; done) | (simp; omega))) _) | (with_reducible refine Below.alloc ?_ (by (first | omega | (simp; done) | (simp; omega))) _) | (with_reducible refine Below.drew ?_) | (with_reducible refine below_drewN ?_ _) | (with_reducible refine Below.trans ?_ (Below.mono HBo (by (first | omega | (simp; done) | (simp; omega))))) | (with_reducible refine Below.trans ?_ (Below.mono hb22 (by (first | omega | (simp; done) | (simp; omega))))))))
  clear HBo hb22 hs22 c21_0_0 c21_0_1 c21_0_2 l21_0 c21_1_0 c21_1_1 c21_1_2 l21_1 n21_0 n21_1 z21 HB21
  go_wp2_with fail
  go_at_call 24
  refine (step_c (x := -1048576) (y := 5) (z := 5) (d := 1) (X := 0) (Y := 0) (Z := 0) (r := false) (by kernel_rfl) _).mono ?_
  rintro e w23 ⟨rfl, hb23⟩
  have HBo := HB22.out
  have hs23 := hb23.size
  try simp at hs23
  obtain ⟨c23_0_0, c23_0_1, c23_0_2, l23_0, c23_1_0, c23_1_1, c23_1_2, l23_1⟩ : w23.cell? ⟨w14.heap.size, 0, none⟩ = some (.int .i64 (-1)) ∧ w23.cell? ⟨w14.heap.size, 1, none⟩ = some (.int .i64 17) ∧ w23.cell? ⟨w14.heap.size, 2, none⟩ = some (.int .i64 16) ∧ w14.heap.size < w23.heap.size ∧ w23.cell? ⟨w17.heap.size, 0, none⟩ = some (.int .i64 0) ∧ w23.cell? ⟨w17.heap.size, 1, none⟩ = some (.int .i64 1) ∧ w23.cell? ⟨w17.heap.size, 2, none⟩ = some (.int .i64 0) ∧ w17.heap.size < w23.heap.size := by
    refine ⟨?_, ?_, ?_, ?_, ?_, ?_, ?_, ?_⟩
    all_goals (repeat' (first | (with_reducible assumption) | (with_reducible refine HeldP.c_below hb23 ?_ ?_) | (with_reducible refine HeldP.f_below hb23 ?_ ?_) | (with_reducible refine HeldP.c_drew ?_) | (with_reducible refine HeldP.c_drewN ?_) | (with_reducible refine HeldP.c_same (by omega) ?_) | (with_reducible refine HeldP.c_other ?_ ?_) | (with_reducible refine HeldP.c_new (by first | omega | (simp; done) | (simp; omega)) ?_) | (with_reducible refine HeldP.c_alloc ?_ ?_) | (with_reducible refine HeldP.e_drew ?_) | (with_reducible refine HeldP.e_drewN ?_) | (with_reducible refine HeldP.e_set ?_) | (with_reducible refine HeldP.e_new (by first | omega | (simp; done) | (simp; omega)) ⟨_, rfl⟩) | (with_reducible refine HeldP.e_alloc ?_ ?_) | (with_reducible refine HeldP.f_drew ?_) | (with_reducible refine HeldP.f_drewN ?_) | (with_reducible refine HeldP.f_set ?_) | (with_reducible refine HeldP.f_new (by first | omega | (simp; done) | (simp; omega))) | (with_reducible refine HeldP.f_alloc ?_ ?_) | (with_reducible refine HeldP.s_drew ?_) | (with_reducible refine HeldP.s_drewN ?_) | (with_reducible refine HeldP.s_set ?_) | (with_reducible refine HeldP.s_new (by first | omega | (simp; done) | (simp; omega))) | (with_reducible refine HeldP.s_alloc ?_) | (with_reducible exact ⟨_, by assumption⟩) | omega | (intro e; simp at e; done) | (intro e; simp at e; omega) | (exact rfl) | (simp; done) | (simp; omega)))
  have n23_0 : w14.heap.size ≠ w23.heap.size := (by omega)
  have n23_1 : w17.heap.size ≠ w23.heap.size := (by omega)
  have z23 : w.heap.size ≤ w23.heap.size := (by omega)
  have HB23 := Lib.hid (show Below w.heap.size w w23 by (repeat' (first | (with_reducible exact Below.refl _ _) | (with_reducible refine Below.setCell ?_ (by (first | omega | (simp; done) | (simp; omega))) _) | (with_reducible refine Below.alloc ?_ (by (first | omega | (simp; done) | (simp; omega))) _) | (with_reducible refine Below.drew ?_) | (with_reducible refine below_drewN ?_ _) | (with_reducible refine Below.trans ?_ (Below.mono HBo (by (first | omega | (simp; done) | (simp; omega))))) | (with_reducible refine Below.trans ?_ (Below.mono hb23 (by (first | omega | (simp; done) | (simp; omega))))))))
  clear HBo hb23 hs23 c22_0_0 c22_0_1 c22_0_2 l22_0 c22_1_0 c22_1_1 c22_1_2 l22_1 n22_0 n22_1 z22 HB22
  go_wp2_with fail
  have HBo := HB23.out
  have hS0 : HeldP.CellsB w (w23.alloc (.cells #[.int .i64 0, .int .i64 0, .int .i64 0] 23)) ([(w14.heap.size, 0, .int .i64 (-1)), (w14.heap.size, 1, .int .i64 17), (w14.heap.size, 2, .int .i64 16), (w17.heap.size, 0, .int .i64 0), (w17.heap.size, 1, .int .i64 1), (w17.heap.size, 2, .int .i64 0)] : List (Nat × Nat × Value)) := by
    refine HeldP.CellsB.one (by first | assumption | (simp; done) | (simp [go_sem, *]; done)) (by first | omega | (simp; done) | (simp; omega)) ?_
    refine HeldP.CellsB.one (by first | assumption | (simp; done) | (simp [go_sem, *]; done)) (by first | omega | (simp; done) | (simp; omega)) ?_
    refine HeldP.CellsB.one (by first | assumption | (simp; done) | (simp [go_sem, *]; done)) (by first | omega | (simp; done) | (simp; omega)) ?_
    refine HeldP.CellsB.one (by first | assumption | (simp; done) | (simp [go_sem, *]; done)) (by first | omega | (simp; done) | (simp; omega)) ?_
    refine HeldP.CellsB.one (by first | assumption | (simp; done) | (simp [go_sem, *]; done)) (by first | omega | (simp; done) | (simp; omega)) ?_
    refine HeldP.CellsB.one (by first | assumption | (simp; done) | (simp [go_sem, *]; done)) (by first | omega | (simp; done) | (simp; omega)) ?_
    exact HeldP.CellsB.nil (by first | omega | (simp; done) | (simp; omega)) (by (repeat' (first | (with_reducible exact Below.refl _ _) | (with_reducible refine Below.setCell ?_ (by (first | omega | (simp; done) | (simp; omega))) _) | (with_reducible refine Below.alloc ?_ (by (first | omega | (simp; done) | (simp; omega))) _) | (with_reducible refine Below.drew ?_) | (with_reducible refine below_drewN ?_ _) | (with_reducible refine Below.trans ?_ (Below.mono HBo (by (first | omega | (simp; done) | (simp; omega))))))))
  clear HBo
  go_region_held3 (fun w' => (w'.cell? ⟨w14.heap.size, 0, none⟩ = some (.int .i64 (-1)) ∧ w14.heap.size < w'.heap.size) ∧ (w'.cell? ⟨w14.heap.size, 1, none⟩ = some (.int .i64 17) ∧ w14.heap.size < w'.heap.size) ∧ (w'.cell? ⟨w14.heap.size, 2, none⟩ = some (.int .i64 16) ∧ w14.heap.size < w'.heap.size) ∧ (w'.cell? ⟨w17.heap.size, 0, none⟩ = some (.int .i64 0) ∧ w17.heap.size < w'.heap.size) ∧ (w'.cell? ⟨w17.heap.size, 1, none⟩ = some (.int .i64 1) ∧ w17.heap.size < w'.heap.size) ∧ (w'.cell? ⟨w17.heap.size, 2, none⟩ = some (.int .i64 0) ∧ w17.heap.size < w'.heap.size) ∧ w.heap.size ≤ w'.heap.size ∧ Below w.heap.size w w')
    (first | assumption | (exact hS0.drew) | (exact HeldP.CellsB.keep (l := [(w14.heap.size, 0, .int .i64 (-1)), (w14.heap.size, 1, .int .i64 17), (w14.heap.size, 2, .int .i64 16), (w17.heap.size, 0, .int .i64 0), (w17.heap.size, 1, .int .i64 1), (w17.heap.size, 2, .int .i64 0)]) (by assumption) (by assumption)) | (exact HeldP.CellsB.drew (l := [(w14.heap.size, 0, .int .i64 (-1)), (w14.heap.size, 1, .int .i64 17), (w14.heap.size, 2, .int .i64 16), (w17.heap.size, 0, .int .i64 0), (w17.heap.size, 1, .int .i64 1), (w17.heap.size, 2, .int .i64 0)]) (by assumption)))
    (first | (go_at_call 36; (with_reducible refine (at_c (-1) 17 16 _).mono ?_); rintro e w' ⟨rfl, hb⟩) | (go_at_call 36; (with_reducible refine (at_c 0 1 0 _).mono ?_); rintro e w' ⟨rfl, hb⟩))
  go_wp2_with fail
  go_at_call 36
  refine (at_c 1 0 0 _).mono ?_
  rintro e w24 ⟨rfl, hb24⟩
  have hS24 : HeldP.CellsB w w24 [(w14.heap.size, 0, .int .i64 (-1)), (w14.heap.size, 1, .int .i64 17), (w14.heap.size, 2, .int .i64 16), (w17.heap.size, 0, .int .i64 0), (w17.heap.size, 1, .int .i64 1), (w17.heap.size, 2, .int .i64 0)] := HeldP.CellsB.keep hb24 (by assumption)
  simp only [HeldP.CellsB] at hS24
  obtain ⟨⟨c24_0_0, l24_0⟩, ⟨c24_0_1, l24_0x1⟩, ⟨c24_0_2, l24_0x2⟩, ⟨c24_1_0, l24_1⟩, ⟨c24_1_1, l24_1x1⟩, ⟨c24_1_2, l24_1x2⟩, z24, HBn⟩ := hS24
  clear hb24
  have n24_0 : w14.heap.size ≠ w24.heap.size := (by omega)
  have n24_1 : w17.heap.size ≠ w24.heap.size := (by omega)
  have HB24 := Lib.hid HBn
  clear HBn
  go_wp2_with fail
  go_at_call 36
  refine (at_c 0 9 9 _).mono ?_
  rintro e w25 ⟨rfl, hb25⟩
  have HBo := HB24.out
  have hs25 := hb25.size
  try simp at hs25
  obtain ⟨c25_0_0, c25_0_1, c25_0_2, l25_0, c25_1_0, c25_1_1, c25_1_2, l25_1⟩ : w25.cell? ⟨w14.heap.size, 0, none⟩ = some (.int .i64 (-1)) ∧ w25.cell? ⟨w14.heap.size, 1, none⟩ = some (.int .i64 17) ∧ w25.cell? ⟨w14.heap.size, 2, none⟩ = some (.int .i64 16) ∧ w14.heap.size < w25.heap.size ∧ w25.cell? ⟨w17.heap.size, 0, none⟩ = some (.int .i64 0) ∧ w25.cell? ⟨w17.heap.size, 1, none⟩ = some (.int .i64 1) ∧ w25.cell? ⟨w17.heap.size, 2, none⟩ = some (.int .i64 0) ∧ w17.heap.size < w25.heap.size := by
    refine ⟨?_, ?_, ?_, ?_, ?_, ?_, ?_, ?_⟩
    all_goals (repeat' (first | (with_reducible assumption) | (with_reducible refine HeldP.c_below hb25 ?_ ?_) | (with_reducible refine HeldP.f_below hb25 ?_ ?_) | (with_reducible refine HeldP.c_drew ?_) | (with_reducible refine HeldP.c_drewN ?_) | (with_reducible refine HeldP.c_same (by omega) ?_) | (with_reducible refine HeldP.c_other ?_ ?_) | (with_reducible refine HeldP.c_new (by first | omega | (simp; done) | (simp; omega)) ?_) | (with_reducible refine HeldP.c_alloc ?_ ?_) | (with_reducible refine HeldP.e_drew ?_) | (with_reducible refine HeldP.e_drewN ?_) | (with_reducible refine HeldP.e_set ?_) | (with_reducible refine HeldP.e_new (by first | omega | (simp; done) | (simp; omega)) ⟨_, rfl⟩) | (with_reducible refine HeldP.e_alloc ?_ ?_) | (with_reducible refine HeldP.f_drew ?_) | (with_reducible refine HeldP.f_drewN ?_) | (with_reducible refine HeldP.f_set ?_) | (with_reducible refine HeldP.f_new (by first | omega | (simp; done) | (simp; omega))) | (with_reducible refine HeldP.f_alloc ?_ ?_) | (with_reducible refine HeldP.s_drew ?_) | (with_reducible refine HeldP.s_drewN ?_) | (with_reducible refine HeldP.s_set ?_) | (with_reducible refine HeldP.s_new (by first | omega | (simp; done) | (simp; omega))) | (with_reducible refine HeldP.s_alloc ?_) | (with_reducible exact ⟨_, by assumption⟩) | omega | (intro e; simp at e; done) | (intro e; simp at e; omega) | (exact rfl) | (simp; done) | (simp; omega)))
  have n25_0 : w14.heap.size ≠ w25.heap.size := (by omega)
  have n25_1 : w17.heap.size ≠ w25.heap.size := (by omega)
  have z25 : w.heap.size ≤ w25.heap.size := (by omega)
  have HB25 := Lib.hid (show Below w.heap.size w w25 by (repeat' (first | (with_reducible exact Below.refl _ _) | (with_reducible refine Below.setCell ?_ (by (first | omega | (simp; done) | (simp; omega))) _) | (with_reducible refine Below.alloc ?_ (by (first | omega | (simp; done) | (simp; omega))) _) | (with_reducible refine Below.drew ?_) | (with_reducible refine below_drewN ?_ _) | (with_reducible refine Below.trans ?_ (Below.mono HBo (by (first | omega | (simp; done) | (simp; omega))))) | (with_reducible refine Below.trans ?_ (Below.mono hb25 (by (first | omega | (simp; done) | (simp; omega))))))))
  clear HBo hb25 hs25 c24_0_0 l24_0 c24_0_1 l24_0x1 c24_0_2 l24_0x2 c24_1_0 l24_1 c24_1_1 l24_1x1 c24_1_2 l24_1x2 n24_0 n24_1 z24 HB24
  go_wp2_with fail
  go_at_call 28
  refine (cmp_c (x := 1) (y := 0) (z := 0) (u := 0) (v := 9) (t := 9) (n := 1) (by kernel_rfl) _).mono ?_
  rintro e w26 ⟨rfl, hb26⟩
  have HBo := HB25.out
  have hs26 := hb26.size
  try simp at hs26
  obtain ⟨c26_0_0, c26_0_1, c26_0_2, l26_0, c26_1_0, c26_1_1, c26_1_2, l26_1⟩ : w26.cell? ⟨w14.heap.size, 0, none⟩ = some (.int .i64 (-1)) ∧ w26.cell? ⟨w14.heap.size, 1, none⟩ = some (.int .i64 17) ∧ w26.cell? ⟨w14.heap.size, 2, none⟩ = some (.int .i64 16) ∧ w14.heap.size < w26.heap.size ∧ w26.cell? ⟨w17.heap.size, 0, none⟩ = some (.int .i64 0) ∧ w26.cell? ⟨w17.heap.size, 1, none⟩ = some (.int .i64 1) ∧ w26.cell? ⟨w17.heap.size, 2, none⟩ = some (.int .i64 0) ∧ w17.heap.size < w26.heap.size := by
    refine ⟨?_, ?_, ?_, ?_, ?_, ?_, ?_, ?_⟩
    all_goals (repeat' (first | (with_reducible assumption) | (with_reducible refine HeldP.c_below hb26 ?_ ?_) | (with_reducible refine HeldP.f_below hb26 ?_ ?_) | (with_reducible refine HeldP.c_drew ?_) | (with_reducible refine HeldP.c_drewN ?_) | (with_reducible refine HeldP.c_same (by omega) ?_) | (with_reducible refine HeldP.c_other ?_ ?_) | (with_reducible refine HeldP.c_new (by first | omega | (simp; done) | (simp; omega)) ?_) | (with_reducible refine HeldP.c_alloc ?_ ?_) | (with_reducible refine HeldP.e_drew ?_) | (with_reducible refine HeldP.e_drewN ?_) | (with_reducible refine HeldP.e_set ?_) | (with_reducible refine HeldP.e_new (by first | omega | (simp; done) | (simp; omega)) ⟨_, rfl⟩) | (with_reducible refine HeldP.e_alloc ?_ ?_) | (with_reducible refine HeldP.f_drew ?_) | (with_reducible refine HeldP.f_drewN ?_) | (with_reducible refine HeldP.f_set ?_) | (with_reducible refine HeldP.f_new (by first | omega | (simp; done) | (simp; omega))) | (with_reducible refine HeldP.f_alloc ?_ ?_) | (with_reducible refine HeldP.s_drew ?_) | (with_reducible refine HeldP.s_drewN ?_) | (with_reducible refine HeldP.s_set ?_) | (with_reducible refine HeldP.s_new (by first | omega | (simp; done) | (simp; omega))) | (with_reducible refine HeldP.s_alloc ?_) | (with_reducible exact ⟨_, by assumption⟩) | omega | (intro e; simp at e; done) | (intro e; simp at e; omega) | (exact rfl) | (simp; done) | (simp; omega)))
  have n26_0 : w14.heap.size ≠ w26.heap.size := (by omega)
  have n26_1 : w17.heap.size ≠ w26.heap.size := (by omega)
  have z26 : w.heap.size ≤ w26.heap.size := (by omega)
  have HB26 := Lib.hid (show Below w.heap.size w w26 by (repeat' (first | (with_reducible exact Below.refl _ _) | (with_reducible refine Below.setCell ?_ (by (first | omega | (simp; done) | (simp; omega))) _) | (with_reducible refine Below.alloc ?_ (by (first | omega | (simp; done) | (simp; omega))) _) | (with_reducible refine Below.drew ?_) | (with_reducible refine below_drewN ?_ _) | (with_reducible refine Below.trans ?_ (Below.mono HBo (by (first | omega | (simp; done) | (simp; omega))))) | (with_reducible refine Below.trans ?_ (Below.mono hb26 (by (first | omega | (simp; done) | (simp; omega))))))))
  clear HBo hb26 hs26 c25_0_0 c25_0_1 c25_0_2 l25_0 c25_1_0 c25_1_1 c25_1_2 l25_1 n25_0 n25_1 z25 HB25
  go_wp2_with fail
  go_at_call 36
  refine (at_c 0 9 0 _).mono ?_
  rintro e w27 ⟨rfl, hb27⟩
  have HBo := HB26.out
  have hs27 := hb27.size
  try simp at hs27
  obtain ⟨c27_0_0, c27_0_1, c27_0_2, l27_0, c27_1_0, c27_1_1, c27_1_2, l27_1⟩ : w27.cell? ⟨w14.heap.size, 0, none⟩ = some (.int .i64 (-1)) ∧ w27.cell? ⟨w14.heap.size, 1, none⟩ = some (.int .i64 17) ∧ w27.cell? ⟨w14.heap.size, 2, none⟩ = some (.int .i64 16) ∧ w14.heap.size < w27.heap.size ∧ w27.cell? ⟨w17.heap.size, 0, none⟩ = some (.int .i64 0) ∧ w27.cell? ⟨w17.heap.size, 1, none⟩ = some (.int .i64 1) ∧ w27.cell? ⟨w17.heap.size, 2, none⟩ = some (.int .i64 0) ∧ w17.heap.size < w27.heap.size := by
    refine ⟨?_, ?_, ?_, ?_, ?_, ?_, ?_, ?_⟩
    all_goals (repeat' (first | (with_reducible assumption) | (with_reducible refine HeldP.c_below hb27 ?_ ?_) | (with_reducible refine HeldP.f_below hb27 ?_ ?_) | (with_reducible refine HeldP.c_drew ?_) | (with_reducible refine HeldP.c_drewN ?_) | (with_reducible refine HeldP.c_same (by omega) ?_) | (with_reducible refine HeldP.c_other ?_ ?_) | (with_reducible refine HeldP.c_new (by first | omega | (simp; done) | (simp; omega)) ?_) | (with_reducible refine HeldP.c_alloc ?_ ?_) | (with_reducible refine HeldP.e_drew ?_) | (with_reducible refine HeldP.e_drewN ?_) | (with_reducible refine HeldP.e_set ?_) | (with_reducible refine HeldP.e_new (by first | omega | (simp; done) | (simp; omega)) ⟨_, rfl⟩) | (with_reducible refine HeldP.e_alloc ?_ ?_) | (with_reducible refine HeldP.f_drew ?_) | (with_reducible refine HeldP.f_drewN ?_) | (with_reducible refine HeldP.f_set ?_) | (with_reducible refine HeldP.f_new (by first | omega | (simp; done) | (simp; omega))) | (with_reducible refine HeldP.f_alloc ?_ ?_) | (with_reducible refine HeldP.s_drew ?_) | (with_reducible refine HeldP.s_drewN ?_) | (with_reducible refine HeldP.s_set ?_) | (with_reducible refine HeldP.s_new (by first | omega | (simp; done) | (simp; omega))) | (with_reducible refine HeldP.s_alloc ?_) | (with_reducible exact ⟨_, by assumption⟩) | omega | (intro e; simp at e; done) | (intro e; simp at e; omega) | (exact rfl) | (simp; done) | (simp; omega)))
  have n27_0 : w14.heap.size ≠ w27.heap.size := (by omega)
  have n27_1 : w17.heap.size ≠ w27.heap.size := (by omega)
  have z27 : w.heap.size ≤ w27.heap.size := (by omega)
  have HB27 := Lib.hid (show Below w.heap.size w w27 by (repeat' (first | (with_reducible exact Below.refl _ _) | (with_reducible refine Below.setCell ?_ (by (first | omega | (simp; done) | (simp; omega))) _) | (with_reducible refine Below.alloc ?_ (by (first | omega | (simp; done) | (simp; omega))) _) | (with_reducible refine Below.drew ?_) | (with_reducible refine below_drewN ?_ _) | (with_reducible refine Below.trans ?_ (Below.mono HBo (by (first | omega | (simp; done) | (simp; omega))))) | (with_reducible refine Below.trans ?_ (Below.mono hb27 (by (first | omega | (simp; done) | (simp; omega))))))))
  clear HBo hb27 hs27 c26_0_0 c26_0_1 c26_0_2 l26_0 c26_1_0 c26_1_1 c26_1_2 l26_1 n26_0 n26_1 z26 HB26
  go_wp2_with fail
  go_at_call 36
  refine (at_c 0 0 1 _).mono ?_
  rintro e w28 ⟨rfl, hb28⟩
  have HBo := HB27.out
  have hs28 := hb28.size
  try simp at hs28
  obtain ⟨c28_0_0, c28_0_1, c28_0_2, l28_0, c28_1_0, c28_1_1, c28_1_2, l28_1⟩ : w28.cell? ⟨w14.heap.size, 0, none⟩ = some (.int .i64 (-1)) ∧ w28.cell? ⟨w14.heap.size, 1, none⟩ = some (.int .i64 17) ∧ w28.cell? ⟨w14.heap.size, 2, none⟩ = some (.int .i64 16) ∧ w14.heap.size < w28.heap.size ∧ w28.cell? ⟨w17.heap.size, 0, none⟩ = some (.int .i64 0) ∧ w28.cell? ⟨w17.heap.size, 1, none⟩ = some (.int .i64 1) ∧ w28.cell? ⟨w17.heap.size, 2, none⟩ = some (.int .i64 0) ∧ w17.heap.size < w28.heap.size := by
    refine ⟨?_, ?_, ?_, ?_, ?_, ?_, ?_, ?_⟩
    all_goals (repeat' (first | (with_reducible assumption) | (with_reducible refine HeldP.c_below hb28 ?_ ?_) | (with_reducible refine HeldP.f_below hb28 ?_ ?_) | (with_reducible refine HeldP.c_drew ?_) | (with_reducible refine HeldP.c_drewN ?_) | (with_reducible refine HeldP.c_same (by omega) ?_) | (with_reducible refine HeldP.c_other ?_ ?_) | (with_reducible refine HeldP.c_new (by first | omega | (simp; done) | (simp; omega)) ?_) | (with_reducible refine HeldP.c_alloc ?_ ?_) | (with_reducible refine HeldP.e_drew ?_) | (with_reducible refine HeldP.e_drewN ?_) | (with_reducible refine HeldP.e_set ?_) | (with_reducible refine HeldP.e_new (by first | omega | (simp; done) | (simp; omega)) ⟨_, rfl⟩) | (with_reducible refine HeldP.e_alloc ?_ ?_) | (with_reducible refine HeldP.f_drew ?_) | (with_reducible refine HeldP.f_drewN ?_) | (with_reducible refine HeldP.f_set ?_) | (with_reducible refine HeldP.f_new (by first | omega | (simp; done) | (simp; omega))) | (with_reducible refine HeldP.f_alloc ?_ ?_) | (with_reducible refine HeldP.s_drew ?_) | (with_reducible refine HeldP.s_drewN ?_) | (with_reducible refine HeldP.s_set ?_) | (with_reducible refine HeldP.s_new (by first | omega | (simp; done) | (simp; omega))) | (with_reducible refine HeldP.s_alloc ?_) | (with_reducible exact ⟨_, by assumption⟩) | omega | (intro e; simp at e; done) | (intro e; simp at e; omega) | (exact rfl) | (simp; done) | (simp; omega)))
  have n28_0 : w14.heap.size ≠ w28.heap.size := (by omega)
  have n28_1 : w17.heap.size ≠ w28.heap.size := (by omega)
  have z28 : w.heap.size ≤ w28.heap.size := (by omega)
  have HB28 := Lib.hid (show Below w.heap.size w w28 by (repeat' (first | (with_reducible exact Below.refl _ _) | (with_reducible refine Below.setCell ?_ (by (first | omega | (simp; done) | (simp; omega))) _) | (with_reducible refine Below.alloc ?_ (by (first | omega | (simp; done) | (simp; omega))) _) | (with_reducible refine Below.drew ?_) | (with_reducible refine below_drewN ?_ _) | (with_reducible refine Below.trans ?_ (Below.mono HBo (by (first | omega | (simp; done) | (simp; omega))))) | (with_reducible refine Below.trans ?_ (Below.mono hb28 (by (first | omega | (simp; done) | (simp; omega))))))))
  clear HBo hb28 hs28 c27_0_0 c27_0_1 c27_0_2 l27_0 c27_1_0 c27_1_1 c27_1_2 l27_1 n27_0 n27_1 z27 HB27
  go_wp2_with fail
  go_at_call 28
  refine (cmp_c (x := 0) (y := 9) (z := 0) (u := 0) (v := 0) (t := 1) (n := -1) (by kernel_rfl) _).mono ?_
  rintro e w29 ⟨rfl, hb29⟩
  have HBo := HB28.out
  have hs29 := hb29.size
  try simp at hs29
  obtain ⟨c29_0_0, c29_0_1, c29_0_2, l29_0, c29_1_0, c29_1_1, c29_1_2, l29_1⟩ : w29.cell? ⟨w14.heap.size, 0, none⟩ = some (.int .i64 (-1)) ∧ w29.cell? ⟨w14.heap.size, 1, none⟩ = some (.int .i64 17) ∧ w29.cell? ⟨w14.heap.size, 2, none⟩ = some (.int .i64 16) ∧ w14.heap.size < w29.heap.size ∧ w29.cell? ⟨w17.heap.size, 0, none⟩ = some (.int .i64 0) ∧ w29.cell? ⟨w17.heap.size, 1, none⟩ = some (.int .i64 1) ∧ w29.cell? ⟨w17.heap.size, 2, none⟩ = some (.int .i64 0) ∧ w17.heap.size < w29.heap.size := by
    refine ⟨?_, ?_, ?_, ?_, ?_, ?_, ?_, ?_⟩
    all_goals (repeat' (first | (with_reducible assumption) | (with_reducible refine HeldP.c_below hb29 ?_ ?_) | (with_reducible refine HeldP.f_below hb29 ?_ ?_) | (with_reducible refine HeldP.c_drew ?_) | (with_reducible refine HeldP.c_drewN ?_) | (with_reducible refine HeldP.c_same (by omega) ?_) | (with_reducible refine HeldP.c_other ?_ ?_) | (with_reducible refine HeldP.c_new (by first | omega | (simp; done) | (simp; omega)) ?_) | (with_reducible refine HeldP.c_alloc ?_ ?_) | (with_reducible refine HeldP.e_drew ?_) | (with_reducible refine HeldP.e_drewN ?_) | (with_reducible refine HeldP.e_set ?_) | (with_reducible refine HeldP.e_new (by first | omega | (simp; done) | (simp; omega)) ⟨_, rfl⟩) | (with_reducible refine HeldP.e_alloc ?_ ?_) | (with_reducible refine HeldP.f_drew ?_) | (with_reducible refine HeldP.f_drewN ?_) | (with_reducible refine HeldP.f_set ?_) | (with_reducible refine HeldP.f_new (by first | omega | (simp; done) | (simp; omega))) | (with_reducible refine HeldP.f_alloc ?_ ?_) | (with_reducible refine HeldP.s_drew ?_) | (with_reducible refine HeldP.s_drewN ?_) | (with_reducible refine HeldP.s_set ?_) | (with_reducible refine HeldP.s_new (by first | omega | (simp; done) | (simp; omega))) | (with_reducible refine HeldP.s_alloc ?_) | (with_reducible exact ⟨_, by assumption⟩) | omega | (intro e; simp at e; done) | (intro e; simp at e; omega) | (exact rfl) | (simp; done) | (simp; omega)))
  have n29_0 : w14.heap.size ≠ w29.heap.size := (by omega)
  have n29_1 : w17.heap.size ≠ w29.heap.size := (by omega)
  have z29 : w.heap.size ≤ w29.heap.size := (by omega)
  have HB29 := Lib.hid (show Below w.heap.size w w29 by (repeat' (first | (with_reducible exact Below.refl _ _) | (with_reducible refine Below.setCell ?_ (by (first | omega | (simp; done) | (simp; omega))) _) | (with_reducible refine Below.alloc ?_ (by (first | omega | (simp; done) | (simp; omega))) _) | (with_reducible refine Below.drew ?_) | (with_reducible refine below_drewN ?_ _) | (with_reducible refine Below.trans ?_ (Below.mono HBo (by (first | omega | (simp; done) | (simp; omega))))) | (with_reducible refine Below.trans ?_ (Below.mono hb29 (by (first | omega | (simp; done) | (simp; omega))))))))
  clear HBo hb29 hs29 c28_0_0 c28_0_1 c28_0_2 l28_0 c28_1_0 c28_1_1 c28_1_2 l28_1 n28_0 n28_1 z28 HB28
  go_wp2_with fail
  go_at_call 36
  refine (at_c 0 1 0 _).mono ?_
  rintro e w30 ⟨rfl, hb30⟩
  have HBo := HB29.out
  have hs30 := hb30.size
  try simp at hs30
  obtain ⟨c30_0_0, c30_0_1, c30_0_2, l30_0, c30_1_0, c30_1_1, c30_1_2, l30_1⟩ : w30.cell? ⟨w14.heap.size, 0, none⟩ = some (.int .i64 (-1)) ∧ w30.cell? ⟨w14.heap.size, 1, none⟩ = some (.int .i64 17) ∧ w30.cell? ⟨w14.heap.size, 2, none⟩ = some (.int .i64 16) ∧ w14.heap.size < w30.heap.size ∧ w30.cell? ⟨w17.heap.size, 0, none⟩ = some (.int .i64 0) ∧ w30.cell? ⟨w17.heap.size, 1, none⟩ = some (.int .i64 1) ∧ w30.cell? ⟨w17.heap.size, 2, none⟩ = some (.int .i64 0) ∧ w17.heap.size < w30.heap.size := by
    refine ⟨?_, ?_, ?_, ?_, ?_, ?_, ?_, ?_⟩
    all_goals (repeat' (first | (with_reducible assumption) | (with_reducible refine HeldP.c_below hb30 ?_ ?_) | (with_reducible refine HeldP.f_below hb30 ?_ ?_) | (with_reducible refine HeldP.c_drew ?_) | (with_reducible refine HeldP.c_drewN ?_) | (with_reducible refine HeldP.c_same (by omega) ?_) | (with_reducible refine HeldP.c_other ?_ ?_) | (with_reducible refine HeldP.c_new (by first | omega | (simp; done) | (simp; omega)) ?_) | (with_reducible refine HeldP.c_alloc ?_ ?_) | (with_reducible refine HeldP.e_drew ?_) | (with_reducible refine HeldP.e_drewN ?_) | (with_reducible refine HeldP.e_set ?_) | (with_reducible refine HeldP.e_new (by first | omega | (simp; done) | (simp; omega)) ⟨_, rfl⟩) | (with_reducible refine HeldP.e_alloc ?_ ?_) | (with_reducible refine HeldP.f_drew ?_) | (with_reducible refine HeldP.f_drewN ?_) | (with_reducible refine HeldP.f_set ?_) | (with_reducible refine HeldP.f_new (by first | omega | (simp; done) | (simp; omega))) | (with_reducible refine HeldP.f_alloc ?_ ?_) | (with_reducible refine HeldP.s_drew ?_) | (with_reducible refine HeldP.s_drewN ?_) | (with_reducible refine HeldP.s_set ?_) | (with_reducible refine HeldP.s_new (by first | omega | (simp; done) | (simp; omega))) | (with_reducible refine HeldP.s_alloc ?_) | (with_reducible exact ⟨_, by assumption⟩) | omega | (intro e; simp at e; done) | (intro e; simp at e; omega) | (exact rfl) | (simp; done) | (simp; omega)))
  have n30_0 : w14.heap.size ≠ w30.heap.size := (by omega)
  have n30_1 : w17.heap.size ≠ w30.heap.size := (by omega)
  have z30 : w.heap.size ≤ w30.heap.size := (by omega)
  have HB30 := Lib.hid (show Below w.heap.size w w30 by (repeat' (first | (with_reducible exact Below.refl _ _) | (with_reducible refine Below.setCell ?_ (by (first | omega | (simp; done) | (simp; omega))) _) | (with_reducible refine Below.alloc ?_ (by (first | omega | (simp; done) | (simp; omega))) _) | (with_reducible refine Below.drew ?_) | (with_reducible refine below_drewN ?_ _) | (with_reducible refine Below.trans ?_ (Below.mono HBo (by (first | omega | (simp; done) | (simp; omega))))) | (with_reducible refine Below.trans ?_ (Below.mono hb30 (by (first | omega | (simp; done) | (simp; omega))))))))
  clear HBo hb30 hs30 c29_0_0 c29_0_1 c29_0_2 l29_0 c29_1_0 c29_1_1 c29_1_2 l29_1 n29_0 n29_1 z29 HB29
  go_wp2_with fail
  go_at_call 36
  refine (at_c 0 2 0 _).mono ?_
  rintro e w31 ⟨rfl, hb31⟩
  have HBo := HB30.out
  have hs31 := hb31.size
  try simp at hs31
  obtain ⟨c31_0_0, c31_0_1, c31_0_2, l31_0, c31_1_0, c31_1_1, c31_1_2, l31_1⟩ : w31.cell? ⟨w14.heap.size, 0, none⟩ = some (.int .i64 (-1)) ∧ w31.cell? ⟨w14.heap.size, 1, none⟩ = some (.int .i64 17) ∧ w31.cell? ⟨w14.heap.size, 2, none⟩ = some (.int .i64 16) ∧ w14.heap.size < w31.heap.size ∧ w31.cell? ⟨w17.heap.size, 0, none⟩ = some (.int .i64 0) ∧ w31.cell? ⟨w17.heap.size, 1, none⟩ = some (.int .i64 1) ∧ w31.cell? ⟨w17.heap.size, 2, none⟩ = some (.int .i64 0) ∧ w17.heap.size < w31.heap.size := by
    refine ⟨?_, ?_, ?_, ?_, ?_, ?_, ?_, ?_⟩
    all_goals (repeat' (first | (with_reducible assumption) | (with_reducible refine HeldP.c_below hb31 ?_ ?_) | (with_reducible refine HeldP.f_below hb31 ?_ ?_) | (with_reducible refine HeldP.c_drew ?_) | (with_reducible refine HeldP.c_drewN ?_) | (with_reducible refine HeldP.c_same (by omega) ?_) | (with_reducible refine HeldP.c_other ?_ ?_) | (with_reducible refine HeldP.c_new (by first | omega | (simp; done) | (simp; omega)) ?_) | (with_reducible refine HeldP.c_alloc ?_ ?_) | (with_reducible refine HeldP.e_drew ?_) | (with_reducible refine HeldP.e_drewN ?_) | (with_reducible refine HeldP.e_set ?_) | (with_reducible refine HeldP.e_new (by first | omega | (simp; done) | (simp; omega)) ⟨_, rfl⟩) | (with_reducible refine HeldP.e_alloc ?_ ?_) | (with_reducible refine HeldP.f_drew ?_) | (with_reducible refine HeldP.f_drewN ?_) | (with_reducible refine HeldP.f_set ?_) | (with_reducible refine HeldP.f_new (by first | omega | (simp; done) | (simp; omega))) | (with_reducible refine HeldP.f_alloc ?_ ?_) | (with_reducible refine HeldP.s_drew ?_) | (with_reducible refine HeldP.s_drewN ?_) | (with_reducible refine HeldP.s_set ?_) | (with_reducible refine HeldP.s_new (by first | omega | (simp; done) | (simp; omega))) | (with_reducible refine HeldP.s_alloc ?_) | (with_reducible exact ⟨_, by assumption⟩) | omega | (intro e; simp at e; done) | (intro e; simp at e; omega) | (exact rfl) | (simp; done) | (simp; omega)))
  have n31_0 : w14.heap.size ≠ w31.heap.size := (by omega)
  have n31_1 : w17.heap.size ≠ w31.heap.size := (by omega)
  have z31 : w.heap.size ≤ w31.heap.size := (by omega)
  have HB31 := Lib.hid (show Below w.heap.size w w31 by (repeat' (first | (with_reducible exact Below.refl _ _) | (with_reducible refine Below.setCell ?_ (by (first | omega | (simp; done) | (simp; omega))) _) | (with_reducible refine Below.alloc ?_ (by (first | omega | (simp; done) | (simp; omega))) _) | (with_reducible refine Below.drew ?_) | (with_reducible refine below_drewN ?_ _) | (with_reducible refine Below.trans ?_ (Below.mono HBo (by (first | omega | (simp; done) | (simp; omega))))) | (with_reducible refine Below.trans ?_ (Below.mono hb31 (by (first | omega | (simp; done) | (simp; omega))))))))
  clear HBo hb31 hs31 c30_0_0 c30_0_1 c30_0_2 l30_0 c30_1_0 c30_1_1 c30_1_2 l30_1 n30_0 n30_1 z30 HB30
  go_wp2_with fail
  go_at_call 28
  refine (cmp_c (x := 0) (y := 1) (z := 0) (u := 0) (v := 2) (t := 0) (n := -1) (by kernel_rfl) _).mono ?_
  rintro e w32 ⟨rfl, hb32⟩
  have HBo := HB31.out
  have hs32 := hb32.size
  try simp at hs32
  obtain ⟨c32_0_0, c32_0_1, c32_0_2, l32_0, c32_1_0, c32_1_1, c32_1_2, l32_1⟩ : w32.cell? ⟨w14.heap.size, 0, none⟩ = some (.int .i64 (-1)) ∧ w32.cell? ⟨w14.heap.size, 1, none⟩ = some (.int .i64 17) ∧ w32.cell? ⟨w14.heap.size, 2, none⟩ = some (.int .i64 16) ∧ w14.heap.size < w32.heap.size ∧ w32.cell? ⟨w17.heap.size, 0, none⟩ = some (.int .i64 0) ∧ w32.cell? ⟨w17.heap.size, 1, none⟩ = some (.int .i64 1) ∧ w32.cell? ⟨w17.heap.size, 2, none⟩ = some (.int .i64 0) ∧ w17.heap.size < w32.heap.size := by
    refine ⟨?_, ?_, ?_, ?_, ?_, ?_, ?_, ?_⟩
    all_goals (repeat' (first | (with_reducible assumption) | (with_reducible refine HeldP.c_below hb32 ?_ ?_) | (with_reducible refine HeldP.f_below hb32 ?_ ?_) | (with_reducible refine HeldP.c_drew ?_) | (with_reducible refine HeldP.c_drewN ?_) | (with_reducible refine HeldP.c_same (by omega) ?_) | (with_reducible refine HeldP.c_other ?_ ?_) | (with_reducible refine HeldP.c_new (by first | omega | (simp; done) | (simp; omega)) ?_) | (with_reducible refine HeldP.c_alloc ?_ ?_) | (with_reducible refine HeldP.e_drew ?_) | (with_reducible refine HeldP.e_drewN ?_) | (with_reducible refine HeldP.e_set ?_) | (with_reducible refine HeldP.e_new (by first | omega | (simp; done) | (simp; omega)) ⟨_, rfl⟩) | (with_reducible refine HeldP.e_alloc ?_ ?_) | (with_reducible refine HeldP.f_drew ?_) | (with_reducible refine HeldP.f_drewN ?_) | (with_reducible refine HeldP.f_set ?_) | (with_reducible refine HeldP.f_new (by first | omega | (simp; done) | (simp; omega))) | (with_reducible refine HeldP.f_alloc ?_ ?_) | (with_reducible refine HeldP.s_drew ?_) | (with_reducible refine HeldP.s_drewN ?_) | (with_reducible refine HeldP.s_set ?_) | (with_reducible refine HeldP.s_new (by first | omega | (simp; done) | (simp; omega))) | (with_reducible refine HeldP.s_alloc ?_) | (with_reducible exact ⟨_, by assumption⟩) | omega | (intro e; simp at e; done) | (intro e; simp at e; omega) | (exact rfl) | (simp; done) | (simp; omega)))
  have n32_0 : w14.heap.size ≠ w32.heap.size := (by omega)
  have n32_1 : w17.heap.size ≠ w32.heap.size := (by omega)
  have z32 : w.heap.size ≤ w32.heap.size := (by omega)
  have HB32 := Lib.hid (show Below w.heap.size w w32 by (repeat' (first | (with_reducible exact Below.refl _ _) | (with_reducible refine Below.setCell ?_ (by (first | omega | (simp; done) | (simp; omega))) _) | (with_reducible refine Below.alloc ?_ (by (first | omega | (simp; done) | (simp; omega))) _) | (with_reducible refine Below.drew ?_) | (with_reducible refine below_drewN ?_ _) | (with_reducible refine Below.trans ?_ (Below.mono HBo (by (first | omega | (simp; done) | (simp; omega))))) | (with_reducible refine Below.trans ?_ (Below.mono hb32 (by (first | omega | (simp; done) | (simp; omega))))))))
  clear HBo hb32 hs32 c31_0_0 c31_0_1 c31_0_2 l31_0 c31_1_0 c31_1_1 c31_1_2 l31_1 n31_0 n31_1 z31 HB31
  go_wp2_with fail
  go_at_call 36
  refine (at_c 0 0 0 _).mono ?_
  rintro e w33 ⟨rfl, hb33⟩
  have HBo := HB32.out
  have hs33 := hb33.size
  try simp at hs33
  obtain ⟨c33_0_0, c33_0_1, c33_0_2, l33_0, c33_1_0, c33_1_1, c33_1_2, l33_1⟩ : w33.cell? ⟨w14.heap.size, 0, none⟩ = some (.int .i64 (-1)) ∧ w33.cell? ⟨w14.heap.size, 1, none⟩ = some (.int .i64 17) ∧ w33.cell? ⟨w14.heap.size, 2, none⟩ = some (.int .i64 16) ∧ w14.heap.size < w33.heap.size ∧ w33.cell? ⟨w17.heap.size, 0, none⟩ = some (.int .i64 0) ∧ w33.cell? ⟨w17.heap.size, 1, none⟩ = some (.int .i64 1) ∧ w33.cell? ⟨w17.heap.size, 2, none⟩ = some (.int .i64 0) ∧ w17.heap.size < w33.heap.size := by
    refine ⟨?_, ?_, ?_, ?_, ?_, ?_, ?_, ?_⟩
    all_goals (repeat' (first | (with_reducible assumption) | (with_reducible refine HeldP.c_below hb33 ?_ ?_) | (with_reducible refine HeldP.f_below hb33 ?_ ?_) | (with_reducible refine HeldP.c_drew ?_) | (with_reducible refine HeldP.c_drewN ?_) | (with_reducible refine HeldP.c_same (by omega) ?_) | (with_reducible refine HeldP.c_other ?_ ?_) | (with_reducible refine HeldP.c_new (by first | omega | (simp; done) | (simp; omega)) ?_) | (with_reducible refine HeldP.c_alloc ?_ ?_) | (with_reducible refine HeldP.e_drew ?_) | (with_reducible refine HeldP.e_drewN ?_) | (with_reducible refine HeldP.e_set ?_) | (with_reducible refine HeldP.e_new (by first | omega | (simp; done) | (simp; omega)) ⟨_, rfl⟩) | (with_reducible refine HeldP.e_alloc ?_ ?_) | (with_reducible refine HeldP.f_drew ?_) | (with_reducible refine HeldP.f_drewN ?_) | (with_reducible refine HeldP.f_set ?_) | (with_reducible refine HeldP.f_new (by first | omega | (simp; done) | (simp; omega))) | (with_reducible refine HeldP.f_alloc ?_ ?_) | (with_reducible refine HeldP.s_drew ?_) | (with_reducible refine HeldP.s_drewN ?_) | (with_reducible refine HeldP.s_set ?_) | (with_reducible refine HeldP.s_new (by first | omega | (simp; done) | (simp; omega))) | (with_reducible refine HeldP.s_alloc ?_) | (with_reducible exact ⟨_, by assumption⟩) | omega | (intro e; simp at e; done) | (intro e; simp at e; omega) | (exact rfl) | (simp; done) | (simp; omega)))
  have n33_0 : w14.heap.size ≠ w33.heap.size := (by omega)
  have n33_1 : w17.heap.size ≠ w33.heap.size := (by omega)
  have z33 : w.heap.size ≤ w33.heap.size := (by omega)
  have HB33 := Lib.hid (show Below w.heap.size w w33 by (repeat' (first | (with_reducible exact Below.refl _ _) | (with_reducible refine Below.setCell ?_ (by (first | omega | (simp; done) | (simp; omega))) _) | (with_reducible refine Below.alloc ?_ (by (first | omega | (simp; done) | (simp; omega))) _) | (with_reducible refine Below.drew ?_) | (with_reducible refine below_drewN ?_ _) | (with_reducible refine Below.trans ?_ (Below.mono HBo (by (first | omega | (simp; done) | (simp; omega))))) | (with_reducible refine Below.trans ?_ (Below.mono hb33 (by (first | omega | (simp; done) | (simp; omega))))))))
  clear HBo hb33 hs33 c32_0_0 c32_0_1 c32_0_2 l32_0 c32_1_0 c32_1_1 c32_1_2 l32_1 n32_0 n32_1 z32 HB32
  go_wp2_with fail
  go_at_call 36
  refine (at_c 2 3 (-1) _).mono ?_
  rintro e w34 ⟨rfl, hb34⟩
  have HBo := HB33.out
  have hs34 := hb34.size
  try simp at hs34
  obtain ⟨c34_0_0, c34_0_1, c34_0_2, l34_0, c34_1_0, c34_1_1, c34_1_2, l34_1⟩ : w34.cell? ⟨w14.heap.size, 0, none⟩ = some (.int .i64 (-1)) ∧ w34.cell? ⟨w14.heap.size, 1, none⟩ = some (.int .i64 17) ∧ w34.cell? ⟨w14.heap.size, 2, none⟩ = some (.int .i64 16) ∧ w14.heap.size < w34.heap.size ∧ w34.cell? ⟨w17.heap.size, 0, none⟩ = some (.int .i64 0) ∧ w34.cell? ⟨w17.heap.size, 1, none⟩ = some (.int .i64 1) ∧ w34.cell? ⟨w17.heap.size, 2, none⟩ = some (.int .i64 0) ∧ w17.heap.size < w34.heap.size := by
    refine ⟨?_, ?_, ?_, ?_, ?_, ?_, ?_, ?_⟩
    all_goals (repeat' (first | (with_reducible assumption) | (with_reducible refine HeldP.c_below hb34 ?_ ?_) | (with_reducible refine HeldP.f_below hb34 ?_ ?_) | (with_reducible refine HeldP.c_drew ?_) | (with_reducible refine HeldP.c_drewN ?_) | (with_reducible refine HeldP.c_same (by omega) ?_) | (with_reducible refine HeldP.c_other ?_ ?_) | (with_reducible refine HeldP.c_new (by first | omega | (simp; done) | (simp; omega)) ?_) | (with_reducible refine HeldP.c_alloc ?_ ?_) | (with_reducible refine HeldP.e_drew ?_) | (with_reducible refine HeldP.e_drewN ?_) | (with_reducible refine HeldP.e_set ?_) | (with_reducible refine HeldP.e_new (by first | omega | (simp; done) | (simp; omega)) ⟨_, rfl⟩) | (with_reducible refine HeldP.e_alloc ?_ ?_) | (with_reducible refine HeldP.f_drew ?_) | (with_reducible refine HeldP.f_drewN ?_) | (with_reducible refine HeldP.f_set ?_) | (with_reducible refine HeldP.f_new (by first | omega | (simp; done) | (simp; omega))) | (with_reducible refine HeldP.f_alloc ?_ ?_) | (with_reducible refine HeldP.s_drew ?_) | (with_reducible refine HeldP.s_drewN ?_) | (with_reducible refine HeldP.s_set ?_) | (with_reducible refine HeldP.s_new (by first | omega | (simp; done) | (simp; omega))) | (with_reducible refine HeldP.s_alloc ?_) | (with_reducible exact ⟨_, by assumption⟩) | omega | (intro e; simp at e; done) | (intro e; simp at e; omega) | (exact rfl) | (simp; done) | (simp; omega)))
  have n34_0 : w14.heap.size ≠ w34.heap.size := (by omega)
  have n34_1 : w17.heap.size ≠ w34.heap.size := (by omega)
  have z34 : w.heap.size ≤ w34.heap.size := (by omega)
  have HB34 := Lib.hid (show Below w.heap.size w w34 by (repeat' (first | (with_reducible exact Below.refl _ _) | (with_reducible refine Below.setCell ?_ (by (first | omega | (simp; done) | (simp; omega))) _) | (with_reducible refine Below.alloc ?_ (by (first | omega | (simp; done) | (simp; omega))) _) | (with_reducible refine Below.drew ?_) | (with_reducible refine below_drewN ?_ _) | (with_reducible refine Below.trans ?_ (Below.mono HBo (by (first | omega | (simp; done) | (simp; omega))))) | (with_reducible refine Below.trans ?_ (Below.mono hb34 (by (first | omega | (simp; done) | (simp; omega))))))))
  clear HBo hb34 hs34 c33_0_0 c33_0_1 c33_0_2 l33_0 c33_1_0 c33_1_1 c33_1_2 l33_1 n33_0 n33_1 z33 HB33
  go_wp2_with fail
  go_at_call 26
  refine (far_c (x := 0) (y := 0) (z := 0) (u := 2) (v := 3) (t := -1) (n := 6) (r := true) (by kernel_rfl) _).mono ?_
  rintro e w35 ⟨rfl, hb35⟩
  have HBo := HB34.out
  have hs35 := hb35.size
  try simp at hs35
  obtain ⟨c35_0_0, c35_0_1, c35_0_2, l35_0, c35_1_0, c35_1_1, c35_1_2, l35_1⟩ : w35.cell? ⟨w14.heap.size, 0, none⟩ = some (.int .i64 (-1)) ∧ w35.cell? ⟨w14.heap.size, 1, none⟩ = some (.int .i64 17) ∧ w35.cell? ⟨w14.heap.size, 2, none⟩ = some (.int .i64 16) ∧ w14.heap.size < w35.heap.size ∧ w35.cell? ⟨w17.heap.size, 0, none⟩ = some (.int .i64 0) ∧ w35.cell? ⟨w17.heap.size, 1, none⟩ = some (.int .i64 1) ∧ w35.cell? ⟨w17.heap.size, 2, none⟩ = some (.int .i64 0) ∧ w17.heap.size < w35.heap.size := by
    refine ⟨?_, ?_, ?_, ?_, ?_, ?_, ?_, ?_⟩
    all_goals (repeat' (first | (with_reducible assumption) | (with_reducible refine HeldP.c_below hb35 ?_ ?_) | (with_reducible refine HeldP.f_below hb35 ?_ ?_) | (with_reducible refine HeldP.c_drew ?_) | (with_reducible refine HeldP.c_drewN ?_) | (with_reducible refine HeldP.c_same (by omega) ?_) | (with_reducible refine HeldP.c_other ?_ ?_) | (with_reducible refine HeldP.c_new (by first | omega | (simp; done) | (simp; omega)) ?_) | (with_reducible refine HeldP.c_alloc ?_ ?_) | (with_reducible refine HeldP.e_drew ?_) | (with_reducible refine HeldP.e_drewN ?_) | (with_reducible refine HeldP.e_set ?_) | (with_reducible refine HeldP.e_new (by first | omega | (simp; done) | (simp; omega)) ⟨_, rfl⟩) | (with_reducible refine HeldP.e_alloc ?_ ?_) | (with_reducible refine HeldP.f_drew ?_) | (with_reducible refine HeldP.f_drewN ?_) | (with_reducible refine HeldP.f_set ?_) | (with_reducible refine HeldP.f_new (by first | omega | (simp; done) | (simp; omega))) | (with_reducible refine HeldP.f_alloc ?_ ?_) | (with_reducible refine HeldP.s_drew ?_) | (with_reducible refine HeldP.s_drewN ?_) | (with_reducible refine HeldP.s_set ?_) | (with_reducible refine HeldP.s_new (by first | omega | (simp; done) | (simp; omega))) | (with_reducible refine HeldP.s_alloc ?_) | (with_reducible exact ⟨_, by assumption⟩) | omega | (intro e; simp at e; done) | (intro e; simp at e; omega) | (exact rfl) | (simp; done) | (simp; omega)))
  have n35_0 : w14.heap.size ≠ w35.heap.size := (by omega)
  have n35_1 : w17.heap.size ≠ w35.heap.size := (by omega)
  have z35 : w.heap.size ≤ w35.heap.size := (by omega)
  have HB35 := Lib.hid (show Below w.heap.size w w35 by (repeat' (first | (with_reducible exact Below.refl _ _) | (with_reducible refine Below.setCell ?_ (by (first | omega | (simp; done) | (simp; omega))) _) | (with_reducible refine Below.alloc ?_ (by (first | omega | (simp; done) | (simp; omega))) _) | (with_reducible refine Below.drew ?_) | (with_reducible refine below_drewN ?_ _) | (with_reducible refine Below.trans ?_ (Below.mono HBo (by (first | omega | (simp; done) | (simp; omega))))) | (with_reducible refine Below.trans ?_ (Below.mono hb35 (by (first | omega | (simp; done) | (simp; omega))))))))
  clear HBo hb35 hs35 c34_0_0 c34_0_1 c34_0_2 l34_0 c34_1_0 c34_1_1 c34_1_2 l34_1 n34_0 n34_1 z34 HB34
  go_wp2_with fail
  go_at_call 36
  refine (at_c 3 5 0 _).mono ?_
  rintro e w36 ⟨rfl, hb36⟩
  have HBo := HB35.out
  have hs36 := hb36.size
  try simp at hs36
  obtain ⟨c36_0_0, c36_0_1, c36_0_2, l36_0, c36_1_0, c36_1_1, c36_1_2, l36_1⟩ : w36.cell? ⟨w14.heap.size, 0, none⟩ = some (.int .i64 (-1)) ∧ w36.cell? ⟨w14.heap.size, 1, none⟩ = some (.int .i64 17) ∧ w36.cell? ⟨w14.heap.size, 2, none⟩ = some (.int .i64 16) ∧ w14.heap.size < w36.heap.size ∧ w36.cell? ⟨w17.heap.size, 0, none⟩ = some (.int .i64 0) ∧ w36.cell? ⟨w17.heap.size, 1, none⟩ = some (.int .i64 1) ∧ w36.cell? ⟨w17.heap.size, 2, none⟩ = some (.int .i64 0) ∧ w17.heap.size < w36.heap.size := by
    refine ⟨?_, ?_, ?_, ?_, ?_, ?_, ?_, ?_⟩
    all_goals (repeat' (first | (with_reducible assumption) | (with_reducible refine HeldP.c_below hb36 ?_ ?_) | (with_reducible refine HeldP.f_below hb36 ?_ ?_) | (with_reducible refine HeldP.c_drew ?_) | (with_reducible refine HeldP.c_drewN ?_) | (with_reducible refine HeldP.c_same (by omega) ?_) | (with_reducible refine HeldP.c_other ?_ ?_) | (with_reducible refine HeldP.c_new (by first | omega | (simp; done) | (simp; omega)) ?_) | (with_reducible refine HeldP.c_alloc ?_ ?_) | (with_reducible refine HeldP.e_drew ?_) | (with_reducible refine HeldP.e_drewN ?_) | (with_reducible refine HeldP.e_set ?_) | (with_reducible refine HeldP.e_new (by first | omega | (simp; done) | (simp; omega)) ⟨_, rfl⟩) | (with_reducible refine HeldP.e_alloc ?_ ?_) | (with_reducible refine HeldP.f_drew ?_) | (with_reducible refine HeldP.f_drewN ?_) | (with_reducible refine HeldP.f_set ?_) | (with_reducible refine HeldP.f_new (by first | omega | (simp; done) | (simp; omega))) | (with_reducible refine HeldP.f_alloc ?_ ?_) | (with_reducible refine HeldP.s_drew ?_) | (with_reducible refine HeldP.s_drewN ?_) | (with_reducible refine HeldP.s_set ?_) | (with_reducible refine HeldP.s_new (by first | omega | (simp; done) | (simp; omega))) | (with_reducible refine HeldP.s_alloc ?_) | (with_reducible exact ⟨_, by assumption⟩) | omega | (intro e; simp at e; done) | (intro e; simp at e; omega) | (exact rfl) | (simp; done) | (simp; omega)))
  have n36_0 : w14.heap.size ≠ w36.heap.size := (by omega)
  have n36_1 : w17.heap.size ≠ w36.heap.size := (by omega)
  have z36 : w.heap.size ≤ w36.heap.size := (by omega)
  have HB36 := Lib.hid (show Below w.heap.size w w36 by (repeat' (first | (with_reducible exact Below.refl _ _) | (with_reducible refine Below.setCell ?_ (by (first | omega | (simp; done) | (simp; omega))) _) | (with_reducible refine Below.alloc ?_ (by (first | omega | (simp; done) | (simp; omega))) _) | (with_reducible refine Below.drew ?_) | (with_reducible refine below_drewN ?_ _) | (with_reducible refine Below.trans ?_ (Below.mono HBo (by (first | omega | (simp; done) | (simp; omega))))) | (with_reducible refine Below.trans ?_ (Below.mono hb36 (by (first | omega | (simp; done) | (simp; omega))))))))
  clear HBo hb36 hs36 c35_0_0 c35_0_1 c35_0_2 l35_0 c35_1_0 c35_1_1 c35_1_2 l35_1 n35_0 n35_1 z35 HB35
  go_wp2_with fail
  go_at_call 36
  refine (at_c 1 5 1 _).mono ?_
  rintro e w37 ⟨rfl, hb37⟩
  have HBo := HB36.out
  have hs37 := hb37.size
  try simp at hs37
  obtain ⟨c37_0_0, c37_0_1, c37_0_2, l37_0, c37_1_0, c37_1_1, c37_1_2, l37_1⟩ : w37.cell? ⟨w14.heap.size, 0, none⟩ = some (.int .i64 (-1)) ∧ w37.cell? ⟨w14.heap.size, 1, none⟩ = some (.int .i64 17) ∧ w37.cell? ⟨w14.heap.size, 2, none⟩ = some (.int .i64 16) ∧ w14.heap.size < w37.heap.size ∧ w37.cell? ⟨w17.heap.size, 0, none⟩ = some (.int .i64 0) ∧ w37.cell? ⟨w17.heap.size, 1, none⟩ = some (.int .i64 1) ∧ w37.cell? ⟨w17.heap.size, 2, none⟩ = some (.int .i64 0) ∧ w17.heap.size < w37.heap.size := by
    refine ⟨?_, ?_, ?_, ?_, ?_, ?_, ?_, ?_⟩
    all_goals (repeat' (first | (with_reducible assumption) | (with_reducible refine HeldP.c_below hb37 ?_ ?_) | (with_reducible refine HeldP.f_below hb37 ?_ ?_) | (with_reducible refine HeldP.c_drew ?_) | (with_reducible refine HeldP.c_drewN ?_) | (with_reducible refine HeldP.c_same (by omega) ?_) | (with_reducible refine HeldP.c_other ?_ ?_) | (with_reducible refine HeldP.c_new (by first | omega | (simp; done) | (simp; omega)) ?_) | (with_reducible refine HeldP.c_alloc ?_ ?_) | (with_reducible refine HeldP.e_drew ?_) | (with_reducible refine HeldP.e_drewN ?_) | (with_reducible refine HeldP.e_set ?_) | (with_reducible refine HeldP.e_new (by first | omega | (simp; done) | (simp; omega)) ⟨_, rfl⟩) | (with_reducible refine HeldP.e_alloc ?_ ?_) | (with_reducible refine HeldP.f_drew ?_) | (with_reducible refine HeldP.f_drewN ?_) | (with_reducible refine HeldP.f_set ?_) | (with_reducible refine HeldP.f_new (by first | omega | (simp; done) | (simp; omega))) | (with_reducible refine HeldP.f_alloc ?_ ?_) | (with_reducible refine HeldP.s_drew ?_) | (with_reducible refine HeldP.s_drewN ?_) | (with_reducible refine HeldP.s_set ?_) | (with_reducible refine HeldP.s_new (by first | omega | (simp; done) | (simp; omega))) | (with_reducible refine HeldP.s_alloc ?_) | (with_reducible exact ⟨_, by assumption⟩) | omega | (intro e; simp at e; done) | (intro e; simp at e; omega) | (exact rfl) | (simp; done) | (simp; omega)))
  have n37_0 : w14.heap.size ≠ w37.heap.size := (by omega)
  have n37_1 : w17.heap.size ≠ w37.heap.size := (by omega)
  have z37 : w.heap.size ≤ w37.heap.size := (by omega)
  have HB37 := Lib.hid (show Below w.heap.size w w37 by (repeat' (first | (with_reducible exact Below.refl _ _) | (with_reducible refine Below.setCell ?_ (by (first | omega | (simp; done) | (simp; omega))) _) | (with_reducible refine Below.alloc ?_ (by (first | omega | (simp; done) | (simp; omega))) _) | (with_reducible refine Below.drew ?_) | (with_reducible refine below_drewN ?_ _) | (with_reducible refine Below.trans ?_ (Below.mono HBo (by (first | omega | (simp; done) | (simp; omega))))) | (with_reducible refine Below.trans ?_ (Below.mono hb37 (by (first | omega | (simp; done) | (simp; omega))))))))
  clear HBo hb37 hs37 c36_0_0 c36_0_1 c36_0_2 l36_0 c36_1_0 c36_1_1 c36_1_2 l36_1 n36_0 n36_1 z36 HB36
  go_wp2_with fail
  go_at_call 32
  refine (box_c (x := 3) (y := 5) (z := 0) (u := 1) (v := 5) (t := 1) (b := ⟨1, 5, 0, 3, 5, 1, 6, 0⟩) (by kernel_rfl) _).mono ?_
  rintro e w38 ⟨rfl, hb38⟩
  have HBo := HB37.out
  have hs38 := hb38.size
  try simp at hs38
  obtain ⟨c38_0_0, c38_0_1, c38_0_2, l38_0, c38_1_0, c38_1_1, c38_1_2, l38_1⟩ : w38.cell? ⟨w14.heap.size, 0, none⟩ = some (.int .i64 (-1)) ∧ w38.cell? ⟨w14.heap.size, 1, none⟩ = some (.int .i64 17) ∧ w38.cell? ⟨w14.heap.size, 2, none⟩ = some (.int .i64 16) ∧ w14.heap.size < w38.heap.size ∧ w38.cell? ⟨w17.heap.size, 0, none⟩ = some (.int .i64 0) ∧ w38.cell? ⟨w17.heap.size, 1, none⟩ = some (.int .i64 1) ∧ w38.cell? ⟨w17.heap.size, 2, none⟩ = some (.int .i64 0) ∧ w17.heap.size < w38.heap.size := by
    refine ⟨?_, ?_, ?_, ?_, ?_, ?_, ?_, ?_⟩
    all_goals (repeat' (first | (with_reducible assumption) | (with_reducible refine HeldP.c_below hb38 ?_ ?_) | (with_reducible refine HeldP.f_below hb38 ?_ ?_) | (with_reducible refine HeldP.c_drew ?_) | (with_reducible refine HeldP.c_drewN ?_) | (with_reducible refine HeldP.c_same (by omega) ?_) | (with_reducible refine HeldP.c_other ?_ ?_) | (with_reducible refine HeldP.c_new (by first | omega | (simp; done) | (simp; omega)) ?_) | (with_reducible refine HeldP.c_alloc ?_ ?_) | (with_reducible refine HeldP.e_drew ?_) | (with_reducible refine HeldP.e_drewN ?_) | (with_reducible refine HeldP.e_set ?_) | (with_reducible refine HeldP.e_new (by first | omega | (simp; done) | (simp; omega)) ⟨_, rfl⟩) | (with_reducible refine HeldP.e_alloc ?_ ?_) | (with_reducible refine HeldP.f_drew ?_) | (with_reducible refine HeldP.f_drewN ?_) | (with_reducible refine HeldP.f_set ?_) | (with_reducible refine HeldP.f_new (by first | omega | (simp; done) | (simp; omega))) | (with_reducible refine HeldP.f_alloc ?_ ?_) | (with_reducible refine HeldP.s_drew ?_) | (with_reducible refine HeldP.s_drewN ?_) | (with_reducible refine HeldP.s_set ?_) | (with_reducible refine HeldP.s_new (by first | omega | (simp; done) | (simp; omega))) | (with_reducible refine HeldP.s_alloc ?_) | (with_reducible exact ⟨_, by assumption⟩) | omega | (intro e; simp at e; done) | (intro e; simp at e; omega) | (exact rfl) | (simp; done) | (simp; omega)))
  have n38_0 : w14.heap.size ≠ w38.heap.size := (by omega)
  have n38_1 : w17.heap.size ≠ w38.heap.size := (by omega)
  have z38 : w.heap.size ≤ w38.heap.size := (by omega)
  have HB38 := Lib.hid (show Below w.heap.size w w38 by (repeat' (first | (with_reducible exact Below.refl _ _) | (with_reducible refine Below.setCell ?_ (by (first | omega | (simp; done) | (simp; omega))) _) | (with_reducible refine Below.alloc ?_ (by (first | omega | (simp; done) | (simp; omega))) _) | (with_reducible refine Below.drew ?_) | (with_reducible refine below_drewN ?_ _) | (with_reducible refine Below.trans ?_ (Below.mono HBo (by (first | omega | (simp; done) | (simp; omega))))) | (with_reducible refine Below.trans ?_ (Below.mono hb38 (by (first | omega | (simp; done) | (simp; omega))))))))
  clear HBo hb38 hs38 c37_0_0 c37_0_1 c37_0_2 l37_0 c37_1_0 c37_1_1 c37_1_2 l37_1 n37_0 n37_1 z37 HB37
  go_wp2_with fail
  go_at_call 36
  refine (at_c 0 0 0 _).mono ?_
  rintro e w39 ⟨rfl, hb39⟩
  have HBo := HB38.out
  have hs39 := hb39.size
  try simp at hs39
  obtain ⟨c39_0_0, c39_0_1, c39_0_2, l39_0, c39_1_0, c39_1_1, c39_1_2, l39_1, c39_2_0, c39_2_1, c39_2_2, l39_2, c39_3_0, c39_3_1, c39_3_2, l39_3⟩ : w39.cell? ⟨w14.heap.size, 0, none⟩ = some (.int .i64 (-1)) ∧ w39.cell? ⟨w14.heap.size, 1, none⟩ = some (.int .i64 17) ∧ w39.cell? ⟨w14.heap.size, 2, none⟩ = some (.int .i64 16) ∧ w14.heap.size < w39.heap.size ∧ w39.cell? ⟨w17.heap.size, 0, none⟩ = some (.int .i64 0) ∧ w39.cell? ⟨w17.heap.size, 1, none⟩ = some (.int .i64 1) ∧ w39.cell? ⟨w17.heap.size, 2, none⟩ = some (.int .i64 0) ∧ w17.heap.size < w39.heap.size ∧ w39.cell? ⟨w38.heap.size, 0, none⟩ = some (.int .i64 1) ∧ w39.cell? ⟨w38.heap.size, 1, none⟩ = some (.int .i64 5) ∧ w39.cell? ⟨w38.heap.size, 2, none⟩ = some (.int .i64 0) ∧ w38.heap.size < w39.heap.size ∧ w39.cell? ⟨w38.heap.size + 1, 0, none⟩ = some (.int .i64 3) ∧ w39.cell? ⟨w38.heap.size + 1, 1, none⟩ = some (.int .i64 5) ∧ w39.cell? ⟨w38.heap.size + 1, 2, none⟩ = some (.int .i64 1) ∧ w38.heap.size + 1 < w39.heap.size := by
    refine ⟨?_, ?_, ?_, ?_, ?_, ?_, ?_, ?_, ?_, ?_, ?_, ?_, ?_, ?_, ?_, ?_⟩
    all_goals (repeat' (first | (with_reducible assumption) | (with_reducible refine HeldP.c_below hb39 ?_ ?_) | (with_reducible refine HeldP.f_below hb39 ?_ ?_) | (with_reducible refine HeldP.c_drew ?_) | (with_reducible refine HeldP.c_drewN ?_) | (with_reducible refine HeldP.c_same (by omega) ?_) | (with_reducible refine HeldP.c_other ?_ ?_) | (with_reducible refine HeldP.c_new (by first | omega | (simp; done) | (simp; omega)) ?_) | (with_reducible refine HeldP.c_alloc ?_ ?_) | (with_reducible refine HeldP.e_drew ?_) | (with_reducible refine HeldP.e_drewN ?_) | (with_reducible refine HeldP.e_set ?_) | (with_reducible refine HeldP.e_new (by first | omega | (simp; done) | (simp; omega)) ⟨_, rfl⟩) | (with_reducible refine HeldP.e_alloc ?_ ?_) | (with_reducible refine HeldP.f_drew ?_) | (with_reducible refine HeldP.f_drewN ?_) | (with_reducible refine HeldP.f_set ?_) | (with_reducible refine HeldP.f_new (by first | omega | (simp; done) | (simp; omega))) | (with_reducible refine HeldP.f_alloc ?_ ?_) | (with_reducible refine HeldP.s_drew ?_) | (with_reducible refine HeldP.s_drewN ?_) | (with_reducible refine HeldP.s_set ?_) | (with_reducible refine HeldP.s_new (by first | omega | (simp; done) | (simp; omega))) | (with_reducible refine HeldP.s_alloc ?_) | (with_reducible exact ⟨_, by assumption⟩) | omega | (intro e; simp at e; done) | (intro e; simp at e; omega) | (exact rfl) | (simp; done) | (simp; omega)))
  have n39_0 : w14.heap.size ≠ w39.heap.size := (by omega)
  have n39_1 : w17.heap.size ≠ w39.heap.size := (by omega)
  have n39_2 : w38.heap.size ≠ w39.heap.size := (by omega)
  have n39_3 : w38.heap.size + 1 ≠ w39.heap.size := (by omega)
  have z39 : w.heap.size ≤ w39.heap.size := (by omega)
  have HB39 := Lib.hid (show Below w.heap.size w w39 by (repeat' (first | (with_reducible exact Below.refl _ _) | (with_reducible refine Below.setCell ?_ (by (first | omega | (simp; done) | (simp; omega))) _) | (with_reducible refine Below.alloc ?_ (by (first | omega | (simp; done) | (simp; omega))) _) | (with_reducible refine Below.drew ?_) | (with_reducible refine below_drewN ?_ _) | (with_reducible refine Below.trans ?_ (Below.mono HBo (by (first | omega | (simp; done) | (simp; omega))))) | (with_reducible refine Below.trans ?_ (Below.mono hb39 (by (first | omega | (simp; done) | (simp; omega))))))))
  clear HBo hb39 hs39 c38_0_0 c38_0_1 c38_0_2 l38_0 c38_1_0 c38_1_1 c38_1_2 l38_1 n38_0 n38_1 z38 HB38
  go_wp2_with fail
  go_at_call 36
  refine (at_c 16 0 0 _).mono ?_
  rintro e w40 ⟨rfl, hb40⟩
  have HBo := HB39.out
  have hs40 := hb40.size
  try simp at hs40
  obtain ⟨c40_0_0, c40_0_1, c40_0_2, l40_0, c40_1_0, c40_1_1, c40_1_2, l40_1, c40_2_0, c40_2_1, c40_2_2, l40_2, c40_3_0, c40_3_1, c40_3_2, l40_3⟩ : w40.cell? ⟨w14.heap.size, 0, none⟩ = some (.int .i64 (-1)) ∧ w40.cell? ⟨w14.heap.size, 1, none⟩ = some (.int .i64 17) ∧ w40.cell? ⟨w14.heap.size, 2, none⟩ = some (.int .i64 16) ∧ w14.heap.size < w40.heap.size ∧ w40.cell? ⟨w17.heap.size, 0, none⟩ = some (.int .i64 0) ∧ w40.cell? ⟨w17.heap.size, 1, none⟩ = some (.int .i64 1) ∧ w40.cell? ⟨w17.heap.size, 2, none⟩ = some (.int .i64 0) ∧ w17.heap.size < w40.heap.size ∧ w40.cell? ⟨w38.heap.size, 0, none⟩ = some (.int .i64 1) ∧ w40.cell? ⟨w38.heap.size, 1, none⟩ = some (.int .i64 5) ∧ w40.cell? ⟨w38.heap.size, 2, none⟩ = some (.int .i64 0) ∧ w38.heap.size < w40.heap.size ∧ w40.cell? ⟨w38.heap.size + 1, 0, none⟩ = some (.int .i64 3) ∧ w40.cell? ⟨w38.heap.size + 1, 1, none⟩ = some (.int .i64 5) ∧ w40.cell? ⟨w38.heap.size + 1, 2, none⟩ = some (.int .i64 1) ∧ w38.heap.size + 1 < w40.heap.size := by
    refine ⟨?_, ?_, ?_, ?_, ?_, ?_, ?_, ?_, ?_, ?_, ?_, ?_, ?_, ?_, ?_, ?_⟩
    all_goals (repeat' (first | (with_reducible assumption) | (with_reducible refine HeldP.c_below hb40 ?_ ?_) | (with_reducible refine HeldP.f_below hb40 ?_ ?_) | (with_reducible refine HeldP.c_drew ?_) | (with_reducible refine HeldP.c_drewN ?_) | (with_reducible refine HeldP.c_same (by omega) ?_) | (with_reducible refine HeldP.c_other ?_ ?_) | (with_reducible refine HeldP.c_new (by first | omega | (simp; done) | (simp; omega)) ?_) | (with_reducible refine HeldP.c_alloc ?_ ?_) | (with_reducible refine HeldP.e_drew ?_) | (with_reducible refine HeldP.e_drewN ?_) | (with_reducible refine HeldP.e_set ?_) | (with_reducible refine HeldP.e_new (by first | omega | (simp; done) | (simp; omega)) ⟨_, rfl⟩) | (with_reducible refine HeldP.e_alloc ?_ ?_) | (with_reducible refine HeldP.f_drew ?_) | (with_reducible refine HeldP.f_drewN ?_) | (with_reducible refine HeldP.f_set ?_) | (with_reducible refine HeldP.f_new (by first | omega | (simp; done) | (simp; omega))) | (with_reducible refine HeldP.f_alloc ?_ ?_) | (with_reducible refine HeldP.s_drew ?_) | (with_reducible refine HeldP.s_drewN ?_) | (with_reducible refine HeldP.s_set ?_) | (with_reducible refine HeldP.s_new (by first | omega | (simp; done) | (simp; omega))) | (with_reducible refine HeldP.s_alloc ?_) | (with_reducible exact ⟨_, by assumption⟩) | omega | (intro e; simp at e; done) | (intro e; simp at e; omega) | (exact rfl) | (simp; done) | (simp; omega)))
  have n40_0 : w14.heap.size ≠ w40.heap.size := (by omega)
  have n40_1 : w17.heap.size ≠ w40.heap.size := (by omega)
  have n40_2 : w38.heap.size ≠ w40.heap.size := (by omega)
  have n40_3 : w38.heap.size + 1 ≠ w40.heap.size := (by omega)
  have z40 : w.heap.size ≤ w40.heap.size := (by omega)
  have HB40 := Lib.hid (show Below w.heap.size w w40 by (repeat' (first | (with_reducible exact Below.refl _ _) | (with_reducible refine Below.setCell ?_ (by (first | omega | (simp; done) | (simp; omega))) _) | (with_reducible refine Below.alloc ?_ (by (first | omega | (simp; done) | (simp; omega))) _) | (with_reducible refine Below.drew ?_) | (with_reducible refine below_drewN ?_ _) | (with_reducible refine Below.trans ?_ (Below.mono HBo (by (first | omega | (simp; done) | (simp; omega))))) | (with_reducible refine Below.trans ?_ (Below.mono hb40 (by (first | omega | (simp; done) | (simp; omega))))))))
  clear HBo hb40 hs40 c39_0_0 c39_0_1 c39_0_2 l39_0 c39_1_0 c39_1_1 c39_1_2 l39_1 c39_2_0 c39_2_1 c39_2_2 l39_2 c39_3_0 c39_3_1 c39_3_2 l39_3 n39_0 n39_1 n39_2 n39_3 z39 HB39
  go_wp2_with fail
  go_at_call 32
  refine (box_c (x := 0) (y := 0) (z := 0) (u := 16) (v := 0) (t := 0) (b := ⟨0, 0, 0, 0, 0, 0, 0, 3⟩) (by kernel_rfl) _).mono ?_
  rintro e w41 ⟨rfl, hb41⟩
  have HBo := HB40.out
  have hs41 := hb41.size
  try simp at hs41
  obtain ⟨c41_0_0, c41_0_1, c41_0_2, l41_0, c41_1_0, c41_1_1, c41_1_2, l41_1, c41_2_0, c41_2_1, c41_2_2, l41_2, c41_3_0, c41_3_1, c41_3_2, l41_3⟩ : w41.cell? ⟨w14.heap.size, 0, none⟩ = some (.int .i64 (-1)) ∧ w41.cell? ⟨w14.heap.size, 1, none⟩ = some (.int .i64 17) ∧ w41.cell? ⟨w14.heap.size, 2, none⟩ = some (.int .i64 16) ∧ w14.heap.size < w41.heap.size ∧ w41.cell? ⟨w17.heap.size, 0, none⟩ = some (.int .i64 0) ∧ w41.cell? ⟨w17.heap.size, 1, none⟩ = some (.int .i64 1) ∧ w41.cell? ⟨w17.heap.size, 2, none⟩ = some (.int .i64 0) ∧ w17.heap.size < w41.heap.size ∧ w41.cell? ⟨w38.heap.size, 0, none⟩ = some (.int .i64 1) ∧ w41.cell? ⟨w38.heap.size, 1, none⟩ = some (.int .i64 5) ∧ w41.cell? ⟨w38.heap.size, 2, none⟩ = some (.int .i64 0) ∧ w38.heap.size < w41.heap.size ∧ w41.cell? ⟨w38.heap.size + 1, 0, none⟩ = some (.int .i64 3) ∧ w41.cell? ⟨w38.heap.size + 1, 1, none⟩ = some (.int .i64 5) ∧ w41.cell? ⟨w38.heap.size + 1, 2, none⟩ = some (.int .i64 1) ∧ w38.heap.size + 1 < w41.heap.size := by
    refine ⟨?_, ?_, ?_, ?_, ?_, ?_, ?_, ?_, ?_, ?_, ?_, ?_, ?_, ?_, ?_, ?_⟩
    all_goals (repeat' (first | (with_reducible assumption) | (with_reducible refine HeldP.c_below hb41 ?_ ?_) | (with_reducible refine HeldP.f_below hb41 ?_ ?_) | (with_reducible refine HeldP.c_drew ?_) | (with_reducible refine HeldP.c_drewN ?_) | (with_reducible refine HeldP.c_same (by omega) ?_) | (with_reducible refine HeldP.c_other ?_ ?_) | (with_reducible refine HeldP.c_new (by first | omega | (simp; done) | (simp; omega)) ?_) | (with_reducible refine HeldP.c_alloc ?_ ?_) | (with_reducible refine HeldP.e_drew ?_) | (with_reducible refine HeldP.e_drewN ?_) | (with_reducible refine HeldP.e_set ?_) | (with_reducible refine HeldP.e_new (by first | omega | (simp; done) | (simp; omega)) ⟨_, rfl⟩) | (with_reducible refine HeldP.e_alloc ?_ ?_) | (with_reducible refine HeldP.f_drew ?_) | (with_reducible refine HeldP.f_drewN ?_) | (with_reducible refine HeldP.f_set ?_) | (with_reducible refine HeldP.f_new (by first | omega | (simp; done) | (simp; omega))) | (with_reducible refine HeldP.f_alloc ?_ ?_) | (with_reducible refine HeldP.s_drew ?_) | (with_reducible refine HeldP.s_drewN ?_) | (with_reducible refine HeldP.s_set ?_) | (with_reducible refine HeldP.s_new (by first | omega | (simp; done) | (simp; omega))) | (with_reducible refine HeldP.s_alloc ?_) | (with_reducible exact ⟨_, by assumption⟩) | omega | (intro e; simp at e; done) | (intro e; simp at e; omega) | (exact rfl) | (simp; done) | (simp; omega)))
  have n41_0 : w14.heap.size ≠ w41.heap.size := (by omega)
  have n41_1 : w17.heap.size ≠ w41.heap.size := (by omega)
  have n41_2 : w38.heap.size ≠ w41.heap.size := (by omega)
  have n41_3 : w38.heap.size + 1 ≠ w41.heap.size := (by omega)
  have z41 : w.heap.size ≤ w41.heap.size := (by omega)
  have HB41 := Lib.hid (show Below w.heap.size w w41 by (repeat' (first | (with_reducible exact Below.refl _ _) | (with_reducible refine Below.setCell ?_ (by (first | omega | (simp; done) | (simp; omega))) _) | (with_reducible refine Below.alloc ?_ (by (first | omega | (simp; done) | (simp; omega))) _) | (with_reducible refine Below.drew ?_) | (with_reducible refine below_drewN ?_ _) | (with_reducible refine Below.trans ?_ (Below.mono HBo (by (first | omega | (simp; done) | (simp; omega))))) | (with_reducible refine Below.trans ?_ (Below.mono hb41 (by (first | omega | (simp; done) | (simp; omega))))))))
  clear HBo hb41 hs41 c40_0_0 c40_0_1 c40_0_2 l40_0 c40_1_0 c40_1_1 c40_1_2 l40_1 c40_2_0 c40_2_1 c40_2_2 l40_2 c40_3_0 c40_3_1 c40_3_2 l40_3 n40_0 n40_1 n40_2 n40_3 z40 HB40
  go_wp2_with fail
  go_at_call 36
  refine (at_c 0 0 0 _).mono ?_
  rintro e w42 ⟨rfl, hb42⟩
  have HBo := HB41.out
  have hs42 := hb42.size
  try simp at hs42
  obtain ⟨c42_0_0, c42_0_1, c42_0_2, l42_0, c42_1_0, c42_1_1, c42_1_2, l42_1, c42_2_0, c42_2_1, c42_2_2, l42_2, c42_3_0, c42_3_1, c42_3_2, l42_3⟩ : w42.cell? ⟨w14.heap.size, 0, none⟩ = some (.int .i64 (-1)) ∧ w42.cell? ⟨w14.heap.size, 1, none⟩ = some (.int .i64 17) ∧ w42.cell? ⟨w14.heap.size, 2, none⟩ = some (.int .i64 16) ∧ w14.heap.size < w42.heap.size ∧ w42.cell? ⟨w17.heap.size, 0, none⟩ = some (.int .i64 0) ∧ w42.cell? ⟨w17.heap.size, 1, none⟩ = some (.int .i64 1) ∧ w42.cell? ⟨w17.heap.size, 2, none⟩ = some (.int .i64 0) ∧ w17.heap.size < w42.heap.size ∧ w42.cell? ⟨w38.heap.size, 0, none⟩ = some (.int .i64 1) ∧ w42.cell? ⟨w38.heap.size, 1, none⟩ = some (.int .i64 5) ∧ w42.cell? ⟨w38.heap.size, 2, none⟩ = some (.int .i64 0) ∧ w38.heap.size < w42.heap.size ∧ w42.cell? ⟨w38.heap.size + 1, 0, none⟩ = some (.int .i64 3) ∧ w42.cell? ⟨w38.heap.size + 1, 1, none⟩ = some (.int .i64 5) ∧ w42.cell? ⟨w38.heap.size + 1, 2, none⟩ = some (.int .i64 1) ∧ w38.heap.size + 1 < w42.heap.size := by
    refine ⟨?_, ?_, ?_, ?_, ?_, ?_, ?_, ?_, ?_, ?_, ?_, ?_, ?_, ?_, ?_, ?_⟩
    all_goals (repeat' (first | (with_reducible assumption) | (with_reducible refine HeldP.c_below hb42 ?_ ?_) | (with_reducible refine HeldP.f_below hb42 ?_ ?_) | (with_reducible refine HeldP.c_drew ?_) | (with_reducible refine HeldP.c_drewN ?_) | (with_reducible refine HeldP.c_same (by omega) ?_) | (with_reducible refine HeldP.c_other ?_ ?_) | (with_reducible refine HeldP.c_new (by first | omega | (simp; done) | (simp; omega)) ?_) | (with_reducible refine HeldP.c_alloc ?_ ?_) | (with_reducible refine HeldP.e_drew ?_) | (with_reducible refine HeldP.e_drewN ?_) | (with_reducible refine HeldP.e_set ?_) | (with_reducible refine HeldP.e_new (by first | omega | (simp; done) | (simp; omega)) ⟨_, rfl⟩) | (with_reducible refine HeldP.e_alloc ?_ ?_) | (with_reducible refine HeldP.f_drew ?_) | (with_reducible refine HeldP.f_drewN ?_) | (with_reducible refine HeldP.f_set ?_) | (with_reducible refine HeldP.f_new (by first | omega | (simp; done) | (simp; omega))) | (with_reducible refine HeldP.f_alloc ?_ ?_) | (with_reducible refine HeldP.s_drew ?_) | (with_reducible refine HeldP.s_drewN ?_) | (with_reducible refine HeldP.s_set ?_) | (with_reducible refine HeldP.s_new (by first | omega | (simp; done) | (simp; omega))) | (with_reducible refine HeldP.s_alloc ?_) | (with_reducible exact ⟨_, by assumption⟩) | omega | (intro e; simp at e; done) | (intro e; simp at e; omega) | (exact rfl) | (simp; done) | (simp; omega)))
  have n42_0 : w14.heap.size ≠ w42.heap.size := (by omega)
  have n42_1 : w17.heap.size ≠ w42.heap.size := (by omega)
  have n42_2 : w38.heap.size ≠ w42.heap.size := (by omega)
  have n42_3 : w38.heap.size + 1 ≠ w42.heap.size := (by omega)
  have z42 : w.heap.size ≤ w42.heap.size := (by omega)
  have HB42 := Lib.hid (show Below w.heap.size w w42 by (repeat' (first | (with_reducible exact Below.refl _ _) | (with_reducible refine Below.setCell ?_ (by (first | omega | (simp; done) | (simp; omega))) _) | (with_reducible refine Below.alloc ?_ (by (first | omega | (simp; done) | (simp; omega))) _) | (with_reducible refine Below.drew ?_) | (with_reducible refine below_drewN ?_ _) | (with_reducible refine Below.trans ?_ (Below.mono HBo (by (first | omega | (simp; done) | (simp; omega))))) | (with_reducible refine Below.trans ?_ (Below.mono hb42 (by (first | omega | (simp; done) | (simp; omega))))))))
  clear HBo hb42 hs42 c41_0_0 c41_0_1 c41_0_2 l41_0 c41_1_0 c41_1_1 c41_1_2 l41_1 c41_2_0 c41_2_1 c41_2_2 l41_2 c41_3_0 c41_3_1 c41_3_2 l41_3 n41_0 n41_1 n41_2 n41_3 z41 HB41
  go_wp2_with fail
  go_at_call 36
  refine (at_c 7 8 7 _).mono ?_
  rintro e w43 ⟨rfl, hb43⟩
  have HBo := HB42.out
  have hs43 := hb43.size
  try simp at hs43
  obtain ⟨c43_0_0, c43_0_1, c43_0_2, l43_0, c43_1_0, c43_1_1, c43_1_2, l43_1, c43_2_0, c43_2_1, c43_2_2, l43_2, c43_3_0, c43_3_1, c43_3_2, l43_3⟩ : w43.cell? ⟨w14.heap.size, 0, none⟩ = some (.int .i64 (-1)) ∧ w43.cell? ⟨w14.heap.size, 1, none⟩ = some (.int .i64 17) ∧ w43.cell? ⟨w14.heap.size, 2, none⟩ = some (.int .i64 16) ∧ w14.heap.size < w43.heap.size ∧ w43.cell? ⟨w17.heap.size, 0, none⟩ = some (.int .i64 0) ∧ w43.cell? ⟨w17.heap.size, 1, none⟩ = some (.int .i64 1) ∧ w43.cell? ⟨w17.heap.size, 2, none⟩ = some (.int .i64 0) ∧ w17.heap.size < w43.heap.size ∧ w43.cell? ⟨w38.heap.size, 0, none⟩ = some (.int .i64 1) ∧ w43.cell? ⟨w38.heap.size, 1, none⟩ = some (.int .i64 5) ∧ w43.cell? ⟨w38.heap.size, 2, none⟩ = some (.int .i64 0) ∧ w38.heap.size < w43.heap.size ∧ w43.cell? ⟨w38.heap.size + 1, 0, none⟩ = some (.int .i64 3) ∧ w43.cell? ⟨w38.heap.size + 1, 1, none⟩ = some (.int .i64 5) ∧ w43.cell? ⟨w38.heap.size + 1, 2, none⟩ = some (.int .i64 1) ∧ w38.heap.size + 1 < w43.heap.size := by
    refine ⟨?_, ?_, ?_, ?_, ?_, ?_, ?_, ?_, ?_, ?_, ?_, ?_, ?_, ?_, ?_, ?_⟩
    all_goals (repeat' (first | (with_reducible assumption) | (with_reducible refine HeldP.c_below hb43 ?_ ?_) | (with_reducible refine HeldP.f_below hb43 ?_ ?_) | (with_reducible refine HeldP.c_drew ?_) | (with_reducible refine HeldP.c_drewN ?_) | (with_reducible refine HeldP.c_same (by omega) ?_) | (with_reducible refine HeldP.c_other ?_ ?_) | (with_reducible refine HeldP.c_new (by first | omega | (simp; done) | (simp; omega)) ?_) | (with_reducible refine HeldP.c_alloc ?_ ?_) | (with_reducible refine HeldP.e_drew ?_) | (with_reducible refine HeldP.e_drewN ?_) | (with_reducible refine HeldP.e_set ?_) | (with_reducible refine HeldP.e_new (by first | omega | (simp; done) | (simp; omega)) ⟨_, rfl⟩) | (with_reducible refine HeldP.e_alloc ?_ ?_) | (with_reducible refine HeldP.f_drew ?_) | (with_reducible refine HeldP.f_drewN ?_) | (with_reducible refine HeldP.f_set ?_) | (with_reducible refine HeldP.f_new (by first | omega | (simp; done) | (simp; omega))) | (with_reducible refine HeldP.f_alloc ?_ ?_) | (with_reducible refine HeldP.s_drew ?_) | (with_reducible refine HeldP.s_drewN ?_) | (with_reducible refine HeldP.s_set ?_) | (with_reducible refine HeldP.s_new (by first | omega | (simp; done) | (simp; omega))) | (with_reducible refine HeldP.s_alloc ?_) | (with_reducible exact ⟨_, by assumption⟩) | omega | (intro e; simp at e; done) | (intro e; simp at e; omega) | (exact rfl) | (simp; done) | (simp; omega)))
  have n43_0 : w14.heap.size ≠ w43.heap.size := (by omega)
  have n43_1 : w17.heap.size ≠ w43.heap.size := (by omega)
  have n43_2 : w38.heap.size ≠ w43.heap.size := (by omega)
  have n43_3 : w38.heap.size + 1 ≠ w43.heap.size := (by omega)
  have z43 : w.heap.size ≤ w43.heap.size := (by omega)
  have HB43 := Lib.hid (show Below w.heap.size w w43 by (repeat' (first | (with_reducible exact Below.refl _ _) | (with_reducible refine Below.setCell ?_ (by (first | omega | (simp; done) | (simp; omega))) _) | (with_reducible refine Below.alloc ?_ (by (first | omega | (simp; done) | (simp; omega))) _) | (with_reducible refine Below.drew ?_) | (with_reducible refine below_drewN ?_ _) | (with_reducible refine Below.trans ?_ (Below.mono HBo (by (first | omega | (simp; done) | (simp; omega))))) | (with_reducible refine Below.trans ?_ (Below.mono hb43 (by (first | omega | (simp; done) | (simp; omega))))))))
  clear HBo hb43 hs43 c42_0_0 c42_0_1 c42_0_2 l42_0 c42_1_0 c42_1_1 c42_1_2 l42_1 c42_2_0 c42_2_1 c42_2_2 l42_2 c42_3_0 c42_3_1 c42_3_2 l42_3 n42_0 n42_1 n42_2 n42_3 z42 HB42
  go_wp2_with fail
  go_at_call 32
  refine (box_c (x := 0) (y := 0) (z := 0) (u := 7) (v := 8) (t := 7) (b := ⟨0, 0, 0, 0, 0, 0, 0, 3⟩) (by kernel_rfl) _).mono ?_
  rintro e w44 ⟨rfl, hb44⟩
  have HBo := HB43.out
  have hs44 := hb44.size
  try simp at hs44
  obtain ⟨c44_0_0, c44_0_1, c44_0_2, l44_0, c44_1_0, c44_1_1, c44_1_2, l44_1, c44_2_0, c44_2_1, c44_2_2, l44_2, c44_3_0, c44_3_1, c44_3_2, l44_3⟩ : w44.cell? ⟨w14.heap.size, 0, none⟩ = some (.int .i64 (-1)) ∧ w44.cell? ⟨w14.heap.size, 1, none⟩ = some (.int .i64 17) ∧ w44.cell? ⟨w14.heap.size, 2, none⟩ = some (.int .i64 16) ∧ w14.heap.size < w44.heap.size ∧ w44.cell? ⟨w17.heap.size, 0, none⟩ = some (.int .i64 0) ∧ w44.cell? ⟨w17.heap.size, 1, none⟩ = some (.int .i64 1) ∧ w44.cell? ⟨w17.heap.size, 2, none⟩ = some (.int .i64 0) ∧ w17.heap.size < w44.heap.size ∧ w44.cell? ⟨w38.heap.size, 0, none⟩ = some (.int .i64 1) ∧ w44.cell? ⟨w38.heap.size, 1, none⟩ = some (.int .i64 5) ∧ w44.cell? ⟨w38.heap.size, 2, none⟩ = some (.int .i64 0) ∧ w38.heap.size < w44.heap.size ∧ w44.cell? ⟨w38.heap.size + 1, 0, none⟩ = some (.int .i64 3) ∧ w44.cell? ⟨w38.heap.size + 1, 1, none⟩ = some (.int .i64 5) ∧ w44.cell? ⟨w38.heap.size + 1, 2, none⟩ = some (.int .i64 1) ∧ w38.heap.size + 1 < w44.heap.size := by
    refine ⟨?_, ?_, ?_, ?_, ?_, ?_, ?_, ?_, ?_, ?_, ?_, ?_, ?_, ?_, ?_, ?_⟩
    all_goals (repeat' (first | (with_reducible assumption) | (with_reducible refine HeldP.c_below hb44 ?_ ?_) | (with_reducible refine HeldP.f_below hb44 ?_ ?_) | (with_reducible refine HeldP.c_drew ?_) | (with_reducible refine HeldP.c_drewN ?_) | (with_reducible refine HeldP.c_same (by omega) ?_) | (with_reducible refine HeldP.c_other ?_ ?_) | (with_reducible refine HeldP.c_new (by first | omega | (simp; done) | (simp; omega)) ?_) | (with_reducible refine HeldP.c_alloc ?_ ?_) | (with_reducible refine HeldP.e_drew ?_) | (with_reducible refine HeldP.e_drewN ?_) | (with_reducible refine HeldP.e_set ?_) | (with_reducible refine HeldP.e_new (by first | omega | (simp; done) | (simp; omega)) ⟨_, rfl⟩) | (with_reducible refine HeldP.e_alloc ?_ ?_) | (with_reducible refine HeldP.f_drew ?_) | (with_reducible refine HeldP.f_drewN ?_) | (with_reducible refine HeldP.f_set ?_) | (with_reducible refine HeldP.f_new (by first | omega | (simp; done) | (simp; omega))) | (with_reducible refine HeldP.f_alloc ?_ ?_) | (with_reducible refine HeldP.s_drew ?_) | (with_reducible refine HeldP.s_drewN ?_) | (with_reducible refine HeldP.s_set ?_) | (with_reducible refine HeldP.s_new (by first | omega | (simp; done) | (simp; omega))) | (with_reducible refine HeldP.s_alloc ?_) | (with_reducible exact ⟨_, by assumption⟩) | omega | (intro e; simp at e; done) | (intro e; simp at e; omega) | (exact rfl) | (simp; done) | (simp; omega)))
  have n44_0 : w14.heap.size ≠ w44.heap.size := (by omega)
  have n44_1 : w17.heap.size ≠ w44.heap.size := (by omega)
  have n44_2 : w38.heap.size ≠ w44.heap.size := (by omega)
  have n44_3 : w38.heap.size + 1 ≠ w44.heap.size := (by omega)
  have z44 : w.heap.size ≤ w44.heap.size := (by omega)
  have HB44 := Lib.hid (show Below w.heap.size w w44 by (repeat' (first | (with_reducible exact Below.refl _ _) | (with_reducible refine Below.setCell ?_ (by (first | omega | (simp; done) | (simp; omega))) _) | (with_reducible refine Below.alloc ?_ (by (first | omega | (simp; done) | (simp; omega))) _) | (with_reducible refine Below.drew ?_) | (with_reducible refine below_drewN ?_ _) | (with_reducible refine Below.trans ?_ (Below.mono HBo (by (first | omega | (simp; done) | (simp; omega))))) | (with_reducible refine Below.trans ?_ (Below.mono hb44 (by (first | omega | (simp; done) | (simp; omega))))))))
  clear HBo hb44 hs44 c43_0_0 c43_0_1 c43_0_2 l43_0 c43_1_0 c43_1_1 c43_1_2 l43_1 c43_2_0 c43_2_1 c43_2_2 l43_2 c43_3_0 c43_3_1 c43_3_2 l43_3 n43_0 n43_1 n43_2 n43_3 z43 HB43
  go_wp2_with fail
  go_at_call 36
  refine (at_c 0 64 0 _).mono ?_
  rintro e w45 ⟨rfl, hb45⟩
  have HBo := HB44.out
  have hs45 := hb45.size
  try simp at hs45
  obtain ⟨c45_0_0, c45_0_1, c45_0_2, l45_0, c45_1_0, c45_1_1, c45_1_2, l45_1, c45_2_0, c45_2_1, c45_2_2, l45_2, c45_3_0, c45_3_1, c45_3_2, l45_3⟩ : w45.cell? ⟨w14.heap.size, 0, none⟩ = some (.int .i64 (-1)) ∧ w45.cell? ⟨w14.heap.size, 1, none⟩ = some (.int .i64 17) ∧ w45.cell? ⟨w14.heap.size, 2, none⟩ = some (.int .i64 16) ∧ w14.heap.size < w45.heap.size ∧ w45.cell? ⟨w17.heap.size, 0, none⟩ = some (.int .i64 0) ∧ w45.cell? ⟨w17.heap.size, 1, none⟩ = some (.int .i64 1) ∧ w45.cell? ⟨w17.heap.size, 2, none⟩ = some (.int .i64 0) ∧ w17.heap.size < w45.heap.size ∧ w45.cell? ⟨w38.heap.size, 0, none⟩ = some (.int .i64 1) ∧ w45.cell? ⟨w38.heap.size, 1, none⟩ = some (.int .i64 5) ∧ w45.cell? ⟨w38.heap.size, 2, none⟩ = some (.int .i64 0) ∧ w38.heap.size < w45.heap.size ∧ w45.cell? ⟨w38.heap.size + 1, 0, none⟩ = some (.int .i64 3) ∧ w45.cell? ⟨w38.heap.size + 1, 1, none⟩ = some (.int .i64 5) ∧ w45.cell? ⟨w38.heap.size + 1, 2, none⟩ = some (.int .i64 1) ∧ w38.heap.size + 1 < w45.heap.size := by
    refine ⟨?_, ?_, ?_, ?_, ?_, ?_, ?_, ?_, ?_, ?_, ?_, ?_, ?_, ?_, ?_, ?_⟩
    all_goals (repeat' (first | (with_reducible assumption) | (with_reducible refine HeldP.c_below hb45 ?_ ?_) | (with_reducible refine HeldP.f_below hb45 ?_ ?_) | (with_reducible refine HeldP.c_drew ?_) | (with_reducible refine HeldP.c_drewN ?_) | (with_reducible refine HeldP.c_same (by omega) ?_) | (with_reducible refine HeldP.c_other ?_ ?_) | (with_reducible refine HeldP.c_new (by first | omega | (simp; done) | (simp; omega)) ?_) | (with_reducible refine HeldP.c_alloc ?_ ?_) | (with_reducible refine HeldP.e_drew ?_) | (with_reducible refine HeldP.e_drewN ?_) | (with_reducible refine HeldP.e_set ?_) | (with_reducible refine HeldP.e_new (by first | omega | (simp; done) | (simp; omega)) ⟨_, rfl⟩) | (with_reducible refine HeldP.e_alloc ?_ ?_) | (with_reducible refine HeldP.f_drew ?_) | (with_reducible refine HeldP.f_drewN ?_) | (with_reducible refine HeldP.f_set ?_) | (with_reducible refine HeldP.f_new (by first | omega | (simp; done) | (simp; omega))) | (with_reducible refine HeldP.f_alloc ?_ ?_) | (with_reducible refine HeldP.s_drew ?_) | (with_reducible refine HeldP.s_drewN ?_) | (with_reducible refine HeldP.s_set ?_) | (with_reducible refine HeldP.s_new (by first | omega | (simp; done) | (simp; omega))) | (with_reducible refine HeldP.s_alloc ?_) | (with_reducible exact ⟨_, by assumption⟩) | omega | (intro e; simp at e; done) | (intro e; simp at e; omega) | (exact rfl) | (simp; done) | (simp; omega)))
  have n45_0 : w14.heap.size ≠ w45.heap.size := (by omega)
  have n45_1 : w17.heap.size ≠ w45.heap.size := (by omega)
  have n45_2 : w38.heap.size ≠ w45.heap.size := (by omega)
  have n45_3 : w38.heap.size + 1 ≠ w45.heap.size := (by omega)
  have z45 : w.heap.size ≤ w45.heap.size := (by omega)
  have HB45 := Lib.hid (show Below w.heap.size w w45 by (repeat' (first | (with_reducible exact Below.refl _ _) | (with_reducible refine Below.setCell ?_ (by (first | omega | (simp; done) | (simp; omega))) _) | (with_reducible refine Below.alloc ?_ (by (first | omega | (simp; done) | (simp; omega))) _) | (with_reducible refine Below.drew ?_) | (with_reducible refine below_drewN ?_ _) | (with_reducible refine Below.trans ?_ (Below.mono HBo (by (first | omega | (simp; done) | (simp; omega))))) | (with_reducible refine Below.trans ?_ (Below.mono hb45 (by (first | omega | (simp; done) | (simp; omega))))))))
  clear HBo hb45 hs45 c44_0_0 c44_0_1 c44_0_2 l44_0 c44_1_0 c44_1_1 c44_1_2 l44_1 c44_2_0 c44_2_1 c44_2_2 l44_2 c44_3_0 c44_3_1 c44_3_2 l44_3 n44_0 n44_1 n44_2 n44_3 z44 HB44
  go_wp2_with fail
  go_at_call 36
  refine (at_c 0 0 0 _).mono ?_
  rintro e w46 ⟨rfl, hb46⟩
  have HBo := HB45.out
  have hs46 := hb46.size
  try simp at hs46
  obtain ⟨c46_0_0, c46_0_1, c46_0_2, l46_0, c46_1_0, c46_1_1, c46_1_2, l46_1, c46_2_0, c46_2_1, c46_2_2, l46_2, c46_3_0, c46_3_1, c46_3_2, l46_3⟩ : w46.cell? ⟨w14.heap.size, 0, none⟩ = some (.int .i64 (-1)) ∧ w46.cell? ⟨w14.heap.size, 1, none⟩ = some (.int .i64 17) ∧ w46.cell? ⟨w14.heap.size, 2, none⟩ = some (.int .i64 16) ∧ w14.heap.size < w46.heap.size ∧ w46.cell? ⟨w17.heap.size, 0, none⟩ = some (.int .i64 0) ∧ w46.cell? ⟨w17.heap.size, 1, none⟩ = some (.int .i64 1) ∧ w46.cell? ⟨w17.heap.size, 2, none⟩ = some (.int .i64 0) ∧ w17.heap.size < w46.heap.size ∧ w46.cell? ⟨w38.heap.size, 0, none⟩ = some (.int .i64 1) ∧ w46.cell? ⟨w38.heap.size, 1, none⟩ = some (.int .i64 5) ∧ w46.cell? ⟨w38.heap.size, 2, none⟩ = some (.int .i64 0) ∧ w38.heap.size < w46.heap.size ∧ w46.cell? ⟨w38.heap.size + 1, 0, none⟩ = some (.int .i64 3) ∧ w46.cell? ⟨w38.heap.size + 1, 1, none⟩ = some (.int .i64 5) ∧ w46.cell? ⟨w38.heap.size + 1, 2, none⟩ = some (.int .i64 1) ∧ w38.heap.size + 1 < w46.heap.size := by
    refine ⟨?_, ?_, ?_, ?_, ?_, ?_, ?_, ?_, ?_, ?_, ?_, ?_, ?_, ?_, ?_, ?_⟩
    all_goals (repeat' (first | (with_reducible assumption) | (with_reducible refine HeldP.c_below hb46 ?_ ?_) | (with_reducible refine HeldP.f_below hb46 ?_ ?_) | (with_reducible refine HeldP.c_drew ?_) | (with_reducible refine HeldP.c_drewN ?_) | (with_reducible refine HeldP.c_same (by omega) ?_) | (with_reducible refine HeldP.c_other ?_ ?_) | (with_reducible refine HeldP.c_new (by first | omega | (simp; done) | (simp; omega)) ?_) | (with_reducible refine HeldP.c_alloc ?_ ?_) | (with_reducible refine HeldP.e_drew ?_) | (with_reducible refine HeldP.e_drewN ?_) | (with_reducible refine HeldP.e_set ?_) | (with_reducible refine HeldP.e_new (by first | omega | (simp; done) | (simp; omega)) ⟨_, rfl⟩) | (with_reducible refine HeldP.e_alloc ?_ ?_) | (with_reducible refine HeldP.f_drew ?_) | (with_reducible refine HeldP.f_drewN ?_) | (with_reducible refine HeldP.f_set ?_) | (with_reducible refine HeldP.f_new (by first | omega | (simp; done) | (simp; omega))) | (with_reducible refine HeldP.f_alloc ?_ ?_) | (with_reducible refine HeldP.s_drew ?_) | (with_reducible refine HeldP.s_drewN ?_) | (with_reducible refine HeldP.s_set ?_) | (with_reducible refine HeldP.s_new (by first | omega | (simp; done) | (simp; omega))) | (with_reducible refine HeldP.s_alloc ?_) | (with_reducible exact ⟨_, by assumption⟩) | omega | (intro e; simp at e; done) | (intro e; simp at e; omega) | (exact rfl) | (simp; done) | (simp; omega)))
  have n46_0 : w14.heap.size ≠ w46.heap.size := (by omega)
  have n46_1 : w17.heap.size ≠ w46.heap.size := (by omega)
  have n46_2 : w38.heap.size ≠ w46.heap.size := (by omega)
  have n46_3 : w38.heap.size + 1 ≠ w46.heap.size := (by omega)
  have z46 : w.heap.size ≤ w46.heap.size := (by omega)
  have HB46 := Lib.hid (show Below w.heap.size w w46 by (repeat' (first | (with_reducible exact Below.refl _ _) | (with_reducible refine Below.setCell ?_ (by (first | omega | (simp; done) | (simp; omega))) _) | (with_reducible refine Below.alloc ?_ (by (first | omega | (simp; done) | (simp; omega))) _) | (with_reducible refine Below.drew ?_) | (with_reducible refine below_drewN ?_ _) | (with_reducible refine Below.trans ?_ (Below.mono HBo (by (first | omega | (simp; done) | (simp; omega))))) | (with_reducible refine Below.trans ?_ (Below.mono hb46 (by (first | omega | (simp; done) | (simp; omega))))))))
  clear HBo hb46 hs46 c45_0_0 c45_0_1 c45_0_2 l45_0 c45_1_0 c45_1_1 c45_1_2 l45_1 c45_2_0 c45_2_1 c45_2_2 l45_2 c45_3_0 c45_3_1 c45_3_2 l45_3 n45_0 n45_1 n45_2 n45_3 z45 HB45
  go_wp2_with fail
  go_at_call 32
  refine (box_c (x := 0) (y := 64) (z := 0) (u := 0) (v := 0) (t := 0) (b := ⟨0, 0, 0, 0, 0, 0, 0, 10⟩) (by kernel_rfl) _).mono ?_
  rintro e w47 ⟨rfl, hb47⟩
  have HBo := HB46.out
  have hs47 := hb47.size
  try simp at hs47
  obtain ⟨c47_0_0, c47_0_1, c47_0_2, l47_0, c47_1_0, c47_1_1, c47_1_2, l47_1, c47_2_0, c47_2_1, c47_2_2, l47_2, c47_3_0, c47_3_1, c47_3_2, l47_3⟩ : w47.cell? ⟨w14.heap.size, 0, none⟩ = some (.int .i64 (-1)) ∧ w47.cell? ⟨w14.heap.size, 1, none⟩ = some (.int .i64 17) ∧ w47.cell? ⟨w14.heap.size, 2, none⟩ = some (.int .i64 16) ∧ w14.heap.size < w47.heap.size ∧ w47.cell? ⟨w17.heap.size, 0, none⟩ = some (.int .i64 0) ∧ w47.cell? ⟨w17.heap.size, 1, none⟩ = some (.int .i64 1) ∧ w47.cell? ⟨w17.heap.size, 2, none⟩ = some (.int .i64 0) ∧ w17.heap.size < w47.heap.size ∧ w47.cell? ⟨w38.heap.size, 0, none⟩ = some (.int .i64 1) ∧ w47.cell? ⟨w38.heap.size, 1, none⟩ = some (.int .i64 5) ∧ w47.cell? ⟨w38.heap.size, 2, none⟩ = some (.int .i64 0) ∧ w38.heap.size < w47.heap.size ∧ w47.cell? ⟨w38.heap.size + 1, 0, none⟩ = some (.int .i64 3) ∧ w47.cell? ⟨w38.heap.size + 1, 1, none⟩ = some (.int .i64 5) ∧ w47.cell? ⟨w38.heap.size + 1, 2, none⟩ = some (.int .i64 1) ∧ w38.heap.size + 1 < w47.heap.size := by
    refine ⟨?_, ?_, ?_, ?_, ?_, ?_, ?_, ?_, ?_, ?_, ?_, ?_, ?_, ?_, ?_, ?_⟩
    all_goals (repeat' (first | (with_reducible assumption) | (with_reducible refine HeldP.c_below hb47 ?_ ?_) | (with_reducible refine HeldP.f_below hb47 ?_ ?_) | (with_reducible refine HeldP.c_drew ?_) | (with_reducible refine HeldP.c_drewN ?_) | (with_reducible refine HeldP.c_same (by omega) ?_) | (with_reducible refine HeldP.c_other ?_ ?_) | (with_reducible refine HeldP.c_new (by first | omega | (simp; done) | (simp; omega)) ?_) | (with_reducible refine HeldP.c_alloc ?_ ?_) | (with_reducible refine HeldP.e_drew ?_) | (with_reducible refine HeldP.e_drewN ?_) | (with_reducible refine HeldP.e_set ?_) | (with_reducible refine HeldP.e_new (by first | omega | (simp; done) | (simp; omega)) ⟨_, rfl⟩) | (with_reducible refine HeldP.e_alloc ?_ ?_) | (with_reducible refine HeldP.f_drew ?_) | (with_reducible refine HeldP.f_drewN ?_) | (with_reducible refine HeldP.f_set ?_) | (with_reducible refine HeldP.f_new (by first | omega | (simp; done) | (simp; omega))) | (with_reducible refine HeldP.f_alloc ?_ ?_) | (with_reducible refine HeldP.s_drew ?_) | (with_reducible refine HeldP.s_drewN ?_) | (with_reducible refine HeldP.s_set ?_) | (with_reducible refine HeldP.s_new (by first | omega | (simp; done) | (simp; omega))) | (with_reducible refine HeldP.s_alloc ?_) | (with_reducible exact ⟨_, by assumption⟩) | omega | (intro e; simp at e; done) | (intro e; simp at e; omega) | (exact rfl) | (simp; done) | (simp; omega)))
  have n47_0 : w14.heap.size ≠ w47.heap.size := (by omega)
  have n47_1 : w17.heap.size ≠ w47.heap.size := (by omega)
  have n47_2 : w38.heap.size ≠ w47.heap.size := (by omega)
  have n47_3 : w38.heap.size + 1 ≠ w47.heap.size := (by omega)
  have z47 : w.heap.size ≤ w47.heap.size := (by omega)
  have HB47 := Lib.hid (show Below w.heap.size w w47 by (repeat' (first | (with_reducible exact Below.refl _ _) | (with_reducible refine Below.setCell ?_ (by (first | omega | (simp; done) | (simp; omega))) _) | (with_reducible refine Below.alloc ?_ (by (first | omega | (simp; done) | (simp; omega))) _) | (with_reducible refine Below.drew ?_) | (with_reducible refine below_drewN ?_ _) | (with_reducible refine Below.trans ?_ (Below.mono HBo (by (first | omega | (simp; done) | (simp; omega))))) | (with_reducible refine Below.trans ?_ (Below.mono hb47 (by (first | omega | (simp; done) | (simp; omega))))))))
  clear HBo hb47 hs47 c46_0_0 c46_0_1 c46_0_2 l46_0 c46_1_0 c46_1_1 c46_1_2 l46_1 c46_2_0 c46_2_1 c46_2_2 l46_2 c46_3_0 c46_3_1 c46_3_2 l46_3 n46_0 n46_1 n46_2 n46_3 z46 HB46
  go_wp2_with fail
  go_at_call 36
  refine (at_c 0 0 0 _).mono ?_
  rintro e w48 ⟨rfl, hb48⟩
  have HBo := HB47.out
  have hs48 := hb48.size
  try simp at hs48
  obtain ⟨c48_0_0, c48_0_1, c48_0_2, l48_0, c48_1_0, c48_1_1, c48_1_2, l48_1, c48_2_0, c48_2_1, c48_2_2, l48_2, c48_3_0, c48_3_1, c48_3_2, l48_3⟩ : w48.cell? ⟨w14.heap.size, 0, none⟩ = some (.int .i64 (-1)) ∧ w48.cell? ⟨w14.heap.size, 1, none⟩ = some (.int .i64 17) ∧ w48.cell? ⟨w14.heap.size, 2, none⟩ = some (.int .i64 16) ∧ w14.heap.size < w48.heap.size ∧ w48.cell? ⟨w17.heap.size, 0, none⟩ = some (.int .i64 0) ∧ w48.cell? ⟨w17.heap.size, 1, none⟩ = some (.int .i64 1) ∧ w48.cell? ⟨w17.heap.size, 2, none⟩ = some (.int .i64 0) ∧ w17.heap.size < w48.heap.size ∧ w48.cell? ⟨w38.heap.size, 0, none⟩ = some (.int .i64 1) ∧ w48.cell? ⟨w38.heap.size, 1, none⟩ = some (.int .i64 5) ∧ w48.cell? ⟨w38.heap.size, 2, none⟩ = some (.int .i64 0) ∧ w38.heap.size < w48.heap.size ∧ w48.cell? ⟨w38.heap.size + 1, 0, none⟩ = some (.int .i64 3) ∧ w48.cell? ⟨w38.heap.size + 1, 1, none⟩ = some (.int .i64 5) ∧ w48.cell? ⟨w38.heap.size + 1, 2, none⟩ = some (.int .i64 1) ∧ w38.heap.size + 1 < w48.heap.size := by
    refine ⟨?_, ?_, ?_, ?_, ?_, ?_, ?_, ?_, ?_, ?_, ?_, ?_, ?_, ?_, ?_, ?_⟩
    all_goals (repeat' (first | (with_reducible assumption) | (with_reducible refine HeldP.c_below hb48 ?_ ?_) | (with_reducible refine HeldP.f_below hb48 ?_ ?_) | (with_reducible refine HeldP.c_drew ?_) | (with_reducible refine HeldP.c_drewN ?_) | (with_reducible refine HeldP.c_same (by omega) ?_) | (with_reducible refine HeldP.c_other ?_ ?_) | (with_reducible refine HeldP.c_new (by first | omega | (simp; done) | (simp; omega)) ?_) | (with_reducible refine HeldP.c_alloc ?_ ?_) | (with_reducible refine HeldP.e_drew ?_) | (with_reducible refine HeldP.e_drewN ?_) | (with_reducible refine HeldP.e_set ?_) | (with_reducible refine HeldP.e_new (by first | omega | (simp; done) | (simp; omega)) ⟨_, rfl⟩) | (with_reducible refine HeldP.e_alloc ?_ ?_) | (with_reducible refine HeldP.f_drew ?_) | (with_reducible refine HeldP.f_drewN ?_) | (with_reducible refine HeldP.f_set ?_) | (with_reducible refine HeldP.f_new (by first | omega | (simp; done) | (simp; omega))) | (with_reducible refine HeldP.f_alloc ?_ ?_) | (with_reducible refine HeldP.s_drew ?_) | (with_reducible refine HeldP.s_drewN ?_) | (with_reducible refine HeldP.s_set ?_) | (with_reducible refine HeldP.s_new (by first | omega | (simp; done) | (simp; omega))) | (with_reducible refine HeldP.s_alloc ?_) | (with_reducible exact ⟨_, by assumption⟩) | omega | (intro e; simp at e; done) | (intro e; simp at e; omega) | (exact rfl) | (simp; done) | (simp; omega)))
  have n48_0 : w14.heap.size ≠ w48.heap.size := (by omega)
  have n48_1 : w17.heap.size ≠ w48.heap.size := (by omega)
  have n48_2 : w38.heap.size ≠ w48.heap.size := (by omega)
  have n48_3 : w38.heap.size + 1 ≠ w48.heap.size := (by omega)
  have z48 : w.heap.size ≤ w48.heap.size := (by omega)
  have HB48 := Lib.hid (show Below w.heap.size w w48 by (repeat' (first | (with_reducible exact Below.refl _ _) | (with_reducible refine Below.setCell ?_ (by (first | omega | (simp; done) | (simp; omega))) _) | (with_reducible refine Below.alloc ?_ (by (first | omega | (simp; done) | (simp; omega))) _) | (with_reducible refine Below.drew ?_) | (with_reducible refine below_drewN ?_ _) | (with_reducible refine Below.trans ?_ (Below.mono HBo (by (first | omega | (simp; done) | (simp; omega))))) | (with_reducible refine Below.trans ?_ (Below.mono hb48 (by (first | omega | (simp; done) | (simp; omega))))))))
  clear HBo hb48 hs48 c47_0_0 c47_0_1 c47_0_2 l47_0 c47_1_0 c47_1_1 c47_1_2 l47_1 c47_2_0 c47_2_1 c47_2_2 l47_2 c47_3_0 c47_3_1 c47_3_2 l47_3 n47_0 n47_1 n47_2 n47_3 z47 HB47
  go_wp2_with fail
  go_at_call 36
  refine (at_c 15 15 1 _).mono ?_
  rintro e w49 ⟨rfl, hb49⟩
  have HBo := HB48.out
  have hs49 := hb49.size
  try simp at hs49
  obtain ⟨c49_0_0, c49_0_1, c49_0_2, l49_0, c49_1_0, c49_1_1, c49_1_2, l49_1, c49_2_0, c49_2_1, c49_2_2, l49_2, c49_3_0, c49_3_1, c49_3_2, l49_3⟩ : w49.cell? ⟨w14.heap.size, 0, none⟩ = some (.int .i64 (-1)) ∧ w49.cell? ⟨w14.heap.size, 1, none⟩ = some (.int .i64 17) ∧ w49.cell? ⟨w14.heap.size, 2, none⟩ = some (.int .i64 16) ∧ w14.heap.size < w49.heap.size ∧ w49.cell? ⟨w17.heap.size, 0, none⟩ = some (.int .i64 0) ∧ w49.cell? ⟨w17.heap.size, 1, none⟩ = some (.int .i64 1) ∧ w49.cell? ⟨w17.heap.size, 2, none⟩ = some (.int .i64 0) ∧ w17.heap.size < w49.heap.size ∧ w49.cell? ⟨w38.heap.size, 0, none⟩ = some (.int .i64 1) ∧ w49.cell? ⟨w38.heap.size, 1, none⟩ = some (.int .i64 5) ∧ w49.cell? ⟨w38.heap.size, 2, none⟩ = some (.int .i64 0) ∧ w38.heap.size < w49.heap.size ∧ w49.cell? ⟨w38.heap.size + 1, 0, none⟩ = some (.int .i64 3) ∧ w49.cell? ⟨w38.heap.size + 1, 1, none⟩ = some (.int .i64 5) ∧ w49.cell? ⟨w38.heap.size + 1, 2, none⟩ = some (.int .i64 1) ∧ w38.heap.size + 1 < w49.heap.size := by
    refine ⟨?_, ?_, ?_, ?_, ?_, ?_, ?_, ?_, ?_, ?_, ?_, ?_, ?_, ?_, ?_, ?_⟩
    all_goals (repeat' (first | (with_reducible assumption) | (with_reducible refine HeldP.c_below hb49 ?_ ?_) | (with_reducible refine HeldP.f_below hb49 ?_ ?_) | (with_reducible refine HeldP.c_drew ?_) | (with_reducible refine HeldP.c_drewN ?_) | (with_reducible refine HeldP.c_same (by omega) ?_) | (with_reducible refine HeldP.c_other ?_ ?_) | (with_reducible refine HeldP.c_new (by first | omega | (simp; done) | (simp; omega)) ?_) | (with_reducible refine HeldP.c_alloc ?_ ?_) | (with_reducible refine HeldP.e_drew ?_) | (with_reducible refine HeldP.e_drewN ?_) | (with_reducible refine HeldP.e_set ?_) | (with_reducible refine HeldP.e_new (by first | omega | (simp; done) | (simp; omega)) ⟨_, rfl⟩) | (with_reducible refine HeldP.e_alloc ?_ ?_) | (with_reducible refine HeldP.f_drew ?_) | (with_reducible refine HeldP.f_drewN ?_) | (with_reducible refine HeldP.f_set ?_) | (with_reducible refine HeldP.f_new (by first | omega | (simp; done) | (simp; omega))) | (with_reducible refine HeldP.f_alloc ?_ ?_) | (with_reducible refine HeldP.s_drew ?_) | (with_reducible refine HeldP.s_drewN ?_) | (with_reducible refine HeldP.s_set ?_) | (with_reducible refine HeldP.s_new (by first | omega | (simp; done) | (simp; omega))) | (with_reducible refine HeldP.s_alloc ?_) | (with_reducible exact ⟨_, by assumption⟩) | omega | (intro e; simp at e; done) | (intro e; simp at e; omega) | (exact rfl) | (simp; done) | (simp; omega)))
  have n49_0 : w14.heap.size ≠ w49.heap.size := (by omega)
  have n49_1 : w17.heap.size ≠ w49.heap.size := (by omega)
  have n49_2 : w38.heap.size ≠ w49.heap.size := (by omega)
  have n49_3 : w38.heap.size + 1 ≠ w49.heap.size := (by omega)
  have z49 : w.heap.size ≤ w49.heap.size := (by omega)
  have HB49 := Lib.hid (show Below w.heap.size w w49 by (repeat' (first | (with_reducible exact Below.refl _ _) | (with_reducible refine Below.setCell ?_ (by (first | omega | (simp; done) | (simp; omega))) _) | (with_reducible refine Below.alloc ?_ (by (first | omega | (simp; done) | (simp; omega))) _) | (with_reducible refine Below.drew ?_) | (with_reducible refine below_drewN ?_ _) | (with_reducible refine Below.trans ?_ (Below.mono HBo (by (first | omega | (simp; done) | (simp; omega))))) | (with_reducible refine Below.trans ?_ (Below.mono hb49 (by (first | omega | (simp; done) | (simp; omega))))))))
  clear HBo hb49 hs49 c48_0_0 c48_0_1 c48_0_2 l48_0 c48_1_0 c48_1_1 c48_1_2 l48_1 c48_2_0 c48_2_1 c48_2_2 l48_2 c48_3_0 c48_3_1 c48_3_2 l48_3 n48_0 n48_1 n48_2 n48_3 z48 HB48
  go_wp2_with fail
  go_at_call 32
  refine (box_c (x := 0) (y := 0) (z := 0) (u := 15) (v := 15) (t := 1) (b := ⟨0, 0, 0, 15, 15, 1, 512, 0⟩) (by kernel_rfl) _).mono ?_
  rintro e w50 ⟨rfl, hb50⟩
  have HBo := HB49.out
  have hs50 := hb50.size
  try simp at hs50
  obtain ⟨c50_0_0, c50_0_1, c50_0_2, l50_0, c50_1_0, c50_1_1, c50_1_2, l50_1, c50_2_0, c50_2_1, c50_2_2, l50_2, c50_3_0, c50_3_1, c50_3_2, l50_3⟩ : w50.cell? ⟨w14.heap.size, 0, none⟩ = some (.int .i64 (-1)) ∧ w50.cell? ⟨w14.heap.size, 1, none⟩ = some (.int .i64 17) ∧ w50.cell? ⟨w14.heap.size, 2, none⟩ = some (.int .i64 16) ∧ w14.heap.size < w50.heap.size ∧ w50.cell? ⟨w17.heap.size, 0, none⟩ = some (.int .i64 0) ∧ w50.cell? ⟨w17.heap.size, 1, none⟩ = some (.int .i64 1) ∧ w50.cell? ⟨w17.heap.size, 2, none⟩ = some (.int .i64 0) ∧ w17.heap.size < w50.heap.size ∧ w50.cell? ⟨w38.heap.size, 0, none⟩ = some (.int .i64 1) ∧ w50.cell? ⟨w38.heap.size, 1, none⟩ = some (.int .i64 5) ∧ w50.cell? ⟨w38.heap.size, 2, none⟩ = some (.int .i64 0) ∧ w38.heap.size < w50.heap.size ∧ w50.cell? ⟨w38.heap.size + 1, 0, none⟩ = some (.int .i64 3) ∧ w50.cell? ⟨w38.heap.size + 1, 1, none⟩ = some (.int .i64 5) ∧ w50.cell? ⟨w38.heap.size + 1, 2, none⟩ = some (.int .i64 1) ∧ w38.heap.size + 1 < w50.heap.size := by
    refine ⟨?_, ?_, ?_, ?_, ?_, ?_, ?_, ?_, ?_, ?_, ?_, ?_, ?_, ?_, ?_, ?_⟩
    all_goals (repeat' (first | (with_reducible assumption) | (with_reducible refine HeldP.c_below hb50 ?_ ?_) | (with_reducible refine HeldP.f_below hb50 ?_ ?_) | (with_reducible refine HeldP.c_drew ?_) | (with_reducible refine HeldP.c_drewN ?_) | (with_reducible refine HeldP.c_same (by omega) ?_) | (with_reducible refine HeldP.c_other ?_ ?_) | (with_reducible refine HeldP.c_new (by first | omega | (simp; done) | (simp; omega)) ?_) | (with_reducible refine HeldP.c_alloc ?_ ?_) | (with_reducible refine HeldP.e_drew ?_) | (with_reducible refine HeldP.e_drewN ?_) | (with_reducible refine HeldP.e_set ?_) | (with_reducible refine HeldP.e_new (by first | omega | (simp; done) | (simp; omega)) ⟨_, rfl⟩) | (with_reducible refine HeldP.e_alloc ?_ ?_) | (with_reducible refine HeldP.f_drew ?_) | (with_reducible refine HeldP.f_drewN ?_) | (with_reducible refine HeldP.f_set ?_) | (with_reducible refine HeldP.f_new (by first | omega | (simp; done) | (simp; omega))) | (with_reducible refine HeldP.f_alloc ?_ ?_) | (with_reducible refine HeldP.s_drew ?_) | (with_reducible refine HeldP.s_drewN ?_) | (with_reducible refine HeldP.s_set ?_) | (with_reducible refine HeldP.s_new (by first | omega | (simp; done) | (simp; omega))) | (with_reducible refine HeldP.s_alloc ?_) | (with_reducible exact ⟨_, by assumption⟩) | omega | (intro e; simp at e; done) | (intro e; simp at e; omega) | (exact rfl) | (simp; done) | (simp; omega)))
  have n50_0 : w14.heap.size ≠ w50.heap.size := (by omega)
  have n50_1 : w17.heap.size ≠ w50.heap.size := (by omega)
  have n50_2 : w38.heap.size ≠ w50.heap.size := (by omega)
  have n50_3 : w38.heap.size + 1 ≠ w50.heap.size := (by omega)
  have z50 : w.heap.size ≤ w50.heap.size := (by omega)
  have HB50 := Lib.hid (show Below w.heap.size w w50 by (repeat' (first | (with_reducible exact Below.refl _ _) | (with_reducible refine Below.setCell ?_ (by (first | omega | (simp; done) | (simp; omega))) _) | (with_reducible refine Below.alloc ?_ (by (first | omega | (simp; done) | (simp; omega))) _) | (with_reducible refine Below.drew ?_) | (with_reducible refine below_drewN ?_ _) | (with_reducible refine Below.trans ?_ (Below.mono HBo (by (first | omega | (simp; done) | (simp; omega))))) | (with_reducible refine Below.trans ?_ (Below.mono hb50 (by (first | omega | (simp; done) | (simp; omega))))))))
  clear HBo hb50 hs50 c49_0_0 c49_0_1 c49_0_2 l49_0 c49_1_0 c49_1_1 c49_1_2 l49_1 c49_2_0 c49_2_1 c49_2_2 l49_2 c49_3_0 c49_3_1 c49_3_2 l49_3 n49_0 n49_1 n49_2 n49_3 z49 HB49
  go_wp2_with fail
  have HBo := HB50.out
  have hS0 : HeldP.CellsB w ((w50.alloc (.cells #[.int .i64 0, .int .i64 0, .int .i64 0] 23)).alloc (.cells #[.int .i64 15, .int .i64 15, .int .i64 1] 23)) ([(w14.heap.size, 0, .int .i64 (-1)), (w14.heap.size, 1, .int .i64 17), (w14.heap.size, 2, .int .i64 16), (w17.heap.size, 0, .int .i64 0), (w17.heap.size, 1, .int .i64 1), (w17.heap.size, 2, .int .i64 0), (w38.heap.size, 0, .int .i64 1), (w38.heap.size, 1, .int .i64 5), (w38.heap.size, 2, .int .i64 0), (w38.heap.size + 1, 0, .int .i64 3), (w38.heap.size + 1, 1, .int .i64 5), (w38.heap.size + 1, 2, .int .i64 1)] : List (Nat × Nat × Value)) := by
    refine HeldP.CellsB.one (by first | assumption | (simp; done) | (simp [go_sem, *]; done)) (by first | omega | (simp; done) | (simp; omega)) ?_
    refine HeldP.CellsB.one (by first | assumption | (simp; done) | (simp [go_sem, *]; done)) (by first | omega | (simp; done) | (simp; omega)) ?_
    refine HeldP.CellsB.one (by first | assumption | (simp; done) | (simp [go_sem, *]; done)) (by first | omega | (simp; done) | (simp; omega)) ?_
    refine HeldP.CellsB.one (by first | assumption | (simp; done) | (simp [go_sem, *]; done)) (by first | omega | (simp; done) | (simp; omega)) ?_
    refine HeldP.CellsB.one (by first | assumption | (simp; done) | (simp [go_sem, *]; done)) (by first | omega | (simp; done) | (simp; omega)) ?_
    refine HeldP.CellsB.one (by first | assumption | (simp; done) | (simp [go_sem, *]; done)) (by first | omega | (simp; done) | (simp; omega)) ?_
    refine HeldP.CellsB.one (by first | assumption | (simp; done) | (simp [go_sem, *]; done)) (by first | omega | (simp; done) | (simp; omega)) ?_
    refine HeldP.CellsB.one (by first | assumption | (simp; done) | (simp [go_sem, *]; done)) (by first | omega | (simp; done) | (simp; omega)) ?_
    refine HeldP.CellsB.one (by first | assumption | (simp; done) | (simp [go_sem, *]; done)) (by first | omega | (simp; done) | (simp; omega)) ?_
    refine HeldP.CellsB.one (by first | assumption | (simp; done) | (simp [go_sem, *]; done)) (by first | omega | (simp; done) | (simp; omega)) ?_
    refine HeldP.CellsB.one (by first | assumption | (simp; done) | (simp [go_sem, *]; done)) (by first | omega | (simp; done) | (simp; omega)) ?_
    refine HeldP.CellsB.one (by first | assumption | (simp; done) | (simp [go_sem, *]; done)) (by first | omega | (simp; done) | (simp; omega)) ?_
    exact HeldP.CellsB.nil (by first | omega | (simp; done) | (simp; omega)) (by (repeat' (first | (with_reducible exact Below.refl _ _) | (with_reducible refine Below.setCell ?_ (by (first | omega | (simp; done) | (simp; omega))) _) | (with_reducible refine Below.alloc ?_ (by (first | omega | (simp; done) | (simp; omega))) _) | (with_reducible refine Below.drew ?_) | (with_reducible refine below_drewN ?_ _) | (with_reducible refine Below.trans ?_ (Below.mono HBo (by (first | omega | (simp; done) | (simp; omega))))))))
  clear HBo
  go_region_held3 (fun w' => (w'.cell? ⟨w14.heap.size, 0, none⟩ = some (.int .i64 (-1)) ∧ w14.heap.size < w'.heap.size) ∧ (w'.cell? ⟨w14.heap.size, 1, none⟩ = some (.int .i64 17) ∧ w14.heap.size < w'.heap.size) ∧ (w'.cell? ⟨w14.heap.size, 2, none⟩ = some (.int .i64 16) ∧ w14.heap.size < w'.heap.size) ∧ (w'.cell? ⟨w17.heap.size, 0, none⟩ = some (.int .i64 0) ∧ w17.heap.size < w'.heap.size) ∧ (w'.cell? ⟨w17.heap.size, 1, none⟩ = some (.int .i64 1) ∧ w17.heap.size < w'.heap.size) ∧ (w'.cell? ⟨w17.heap.size, 2, none⟩ = some (.int .i64 0) ∧ w17.heap.size < w'.heap.size) ∧ (w'.cell? ⟨w38.heap.size, 0, none⟩ = some (.int .i64 1) ∧ w38.heap.size < w'.heap.size) ∧ (w'.cell? ⟨w38.heap.size, 1, none⟩ = some (.int .i64 5) ∧ w38.heap.size < w'.heap.size) ∧ (w'.cell? ⟨w38.heap.size, 2, none⟩ = some (.int .i64 0) ∧ w38.heap.size < w'.heap.size) ∧ (w'.cell? ⟨w38.heap.size + 1, 0, none⟩ = some (.int .i64 3) ∧ w38.heap.size + 1 < w'.heap.size) ∧ (w'.cell? ⟨w38.heap.size + 1, 1, none⟩ = some (.int .i64 5) ∧ w38.heap.size + 1 < w'.heap.size) ∧ (w'.cell? ⟨w38.heap.size + 1, 2, none⟩ = some (.int .i64 1) ∧ w38.heap.size + 1 < w'.heap.size) ∧ w.heap.size ≤ w'.heap.size ∧ Below w.heap.size w w')
    (first | assumption | (exact hS0.drew) | (exact HeldP.CellsB.keep (l := [(w14.heap.size, 0, .int .i64 (-1)), (w14.heap.size, 1, .int .i64 17), (w14.heap.size, 2, .int .i64 16), (w17.heap.size, 0, .int .i64 0), (w17.heap.size, 1, .int .i64 1), (w17.heap.size, 2, .int .i64 0), (w38.heap.size, 0, .int .i64 1), (w38.heap.size, 1, .int .i64 5), (w38.heap.size, 2, .int .i64 0), (w38.heap.size + 1, 0, .int .i64 3), (w38.heap.size + 1, 1, .int .i64 5), (w38.heap.size + 1, 2, .int .i64 1)]) (by assumption) (by assumption)) | (exact HeldP.CellsB.drew (l := [(w14.heap.size, 0, .int .i64 (-1)), (w14.heap.size, 1, .int .i64 17), (w14.heap.size, 2, .int .i64 16), (w17.heap.size, 0, .int .i64 0), (w17.heap.size, 1, .int .i64 1), (w17.heap.size, 2, .int .i64 0), (w38.heap.size, 0, .int .i64 1), (w38.heap.size, 1, .int .i64 5), (w38.heap.size, 2, .int .i64 0), (w38.heap.size + 1, 0, .int .i64 3), (w38.heap.size + 1, 1, .int .i64 5), (w38.heap.size + 1, 2, .int .i64 1)]) (by assumption)))
    (first | (go_at_call 36; (with_reducible refine (at_c 1 5 0 _).mono ?_); rintro e w' ⟨rfl, hb⟩) | (go_at_call 36; (with_reducible refine (at_c 3 5 1 _).mono ?_); rintro e w' ⟨rfl, hb⟩) | (go_at_call 23; (with_reducible refine (works_c _).mono ?_); rintro e w' ⟨rfl, hb⟩))
  go_wp2
  go_ret
  refine ⟨rfl, ?_⟩
  exact HeldP.CellsB.below (l := [(w14.heap.size, 0, .int .i64 (-1)), (w14.heap.size, 1, .int .i64 17), (w14.heap.size, 2, .int .i64 16), (w17.heap.size, 0, .int .i64 0), (w17.heap.size, 1, .int .i64 1), (w17.heap.size, 2, .int .i64 0), (w38.heap.size, 0, .int .i64 1), (w38.heap.size, 1, .int .i64 5), (w38.heap.size, 2, .int .i64 0), (w38.heap.size + 1, 0, .int .i64 3), (w38.heap.size + 1, 1, .int .i64 5), (w38.heap.size + 1, 2, .int .i64 1)]) (by assumption)
end PlaceW
end Go.Proofs.Ytokkomglbddgcaa
