/-
  FallKnown: the chapter's examples.
-/
import Derived.Test.YtlcnhommlcdilaaDoorFallAwake
namespace Go.Proofs.YtlcnhommlcdilaaDoor
open Go.RowKit
set_option linter.unusedVariables false
set_option linter.unusedSimpArgs false
namespace FallW
open BlkP RowG FrS PushG CellsW NearW
open FallP hiding Cl
set_option maxRecDepth 100000 in
set_option maxHeartbeats 32000000 in
theorem law_known {w : World} (hT : KindW.Tab w) : Calls Tryd.prog 5 #[] w fun e w' => e = .returned (.bool true) ∧ Below w.heap.size w w' := by
  have HT := Lib.hid hT
  clear hT
  go_enter Tryd.func5, Tryd.ntmps5
  go_wp2_with fail
  refine (awake_c (HT.out.below (Below.refl w.heap.size w))).mono ?_
  rintro e w1 ⟨rfl, hb⟩
  have HB1 := Lib.hid (below_t (Below.refl w.heap.size w) hb)
  clear hb
  go_wp2_with fail
  refine (lfalls_c (k := 4) (b := 13) (HT.out.below HB1.out) (by decide)).mono ?_
  rintro e w2 ⟨rfl, hb⟩
  have HB2 := Lib.hid (below_t HB1.out hb)
  clear hb
  go_wp2_with fail
  refine (over_c (k := 2) (b := 0)).mono ?_
  rintro e w3 ⟨rfl, hb⟩
  have HB3 := Lib.hid (below_t HB2.out hb)
  clear hb
  go_wp2_with fail
  refine (Next_c (n := ovr 2 0) (HT.out.below HB3.out)).mono ?_
  rintro e w4 ⟨v, rfl, ho, hb⟩
  rw [show nextD (ovr 2 0) = [] from by decide] at ho
  obtain ⟨A, c, rfl, _, _, _⟩ := ho.form (n := 0) rfl
  have hfd := field_deed w4 A 0 c
  clear ho
  have HB4 := Lib.hid (below_t HB3.out hb)
  clear hb
  obtain ⟨g, hg⟩ : ∃ g, w4.heap.size = g := ⟨_, rfl⟩
  go_wp2_with fail
  refine calls_named (S := fun W => Below w.heap.size w W ∧ Blk W g TU (flat encU [4, 2])) ⟨by have zz := HB4.out.size; (repeat' (first | (with_reducible exact Below.refl _ _) | (with_reducible refine Below.setCell ?_ (by (first | omega | (simp; done) | (simp; omega))) _) | (with_reducible refine Below.alloc ?_ (by (first | omega | (simp; done) | (simp; omega))) _) | (with_reducible refine Below.drew ?_) | (with_reducible refine below_drewN ?_ _) | (with_reducible refine Below.trans ?_ (Below.mono HB4.out (by (first | omega | (simp; done) | (simp; omega))))))), by subst hg; (repeat' (first | (with_reducible refine BlkP.Blk.drew ?_) | (with_reducible refine BlkP.Blk.drewN ?_ _) | (with_reducible refine BlkP.Blk.setAt (us := ?_) (by first | omega | (simp; done) | (simp; omega)) rfl ?_ ?_) | (with_reducible refine BlkP.Blk.otherAt ?_ (by first | omega | (simp; done) | (simp; omega))) | (with_reducible refine BlkP.Blk.newA' (by first | omega | (simp; done) | (simp; omega)) rfl) | (with_reducible refine BlkP.Blk.alloc ?_ _) | (exact rfl)))⟩ ?_
  rintro w5 ⟨hb, hk⟩
  try rw [hg]
  have HB5 := Lib.hid hb
  have HK := Lib.hid (rdU (n := 2) hk rfl (by omega))
  clear hb hk hg
  refine (row_c (n := 2) HK.out rfl (by omega)).mono ?_
  rintro e w6 ⟨A1, c1, rfl, ho, hb⟩
  have HO := Lib.hid ho.rd
  clear ho
  have HB6 := Lib.hid (below_t HB5.out hb)
  clear hb
  clear HK
  go_wp2_with fail
  refine (Lands_c (n := 2) (m := 0) (HT.out.below HB6.out) HO.out rfl (by omega) (by decide)).mono ?_
  rintro e w7 ⟨rfl, hb⟩
  have HB7 := Lib.hid (below_t HB6.out hb)
  clear hb
  clear HO
  obtain ⟨g, hg⟩ : ∃ g, w7.heap.size = g := ⟨_, rfl⟩
  go_wp2_with fail
  refine calls_named (S := fun W => Below w.heap.size w W ∧ Blk W g TU (flat encU [2, 0])) ⟨by have zz := HB7.out.size; (repeat' (first | (with_reducible exact Below.refl _ _) | (with_reducible refine Below.setCell ?_ (by (first | omega | (simp; done) | (simp; omega))) _) | (with_reducible refine Below.alloc ?_ (by (first | omega | (simp; done) | (simp; omega))) _) | (with_reducible refine Below.drew ?_) | (with_reducible refine below_drewN ?_ _) | (with_reducible refine Below.trans ?_ (Below.mono HB7.out (by (first | omega | (simp; done) | (simp; omega))))))), by subst hg; (repeat' (first | (with_reducible refine BlkP.Blk.drew ?_) | (with_reducible refine BlkP.Blk.drewN ?_ _) | (with_reducible refine BlkP.Blk.setAt (us := ?_) (by first | omega | (simp; done) | (simp; omega)) rfl ?_ ?_) | (with_reducible refine BlkP.Blk.otherAt ?_ (by first | omega | (simp; done) | (simp; omega))) | (with_reducible refine BlkP.Blk.newA' (by first | omega | (simp; done) | (simp; omega)) rfl) | (with_reducible refine BlkP.Blk.alloc ?_ _) | (exact rfl)))⟩ ?_
  rintro w8 ⟨hb, hk⟩
  try rw [hg]
  have HB8 := Lib.hid hb
  have HK := Lib.hid (rdU (n := 2) hk rfl (by omega))
  clear hb hk hg
  refine (row_c (n := 2) HK.out rfl (by omega)).mono ?_
  rintro e w9 ⟨A1, c1, rfl, ho, hb⟩
  have HO := Lib.hid ho.rd
  clear ho
  have HB9 := Lib.hid (below_t HB8.out hb)
  clear hb
  clear HK
  go_wp2_with fail
  refine (Lands_c (n := 2) (m := 0) (HT.out.below HB9.out) HO.out rfl (by omega) (by decide)).mono ?_
  rintro e w10 ⟨rfl, hb⟩
  have HB10 := Lib.hid (below_t HB9.out hb)
  clear hb
  clear HO
  go_wp2_with fail
  refine (Lands_c (A := none) (n := 0) (c := 0) (m := 0) (l := []) (HT.out.below HB10.out) (Rd.nil _ _) rfl (by omega) rfl).mono ?_
  rintro e w11 ⟨rfl, hb⟩
  have HB11 := Lib.hid (below_t HB10.out hb)
  clear hb
  obtain ⟨g, hg⟩ : ∃ g, w11.heap.size = g := ⟨_, rfl⟩
  go_wp2_with fail
  refine calls_named (S := fun W => Below w.heap.size w W ∧ Blk W g TU (flat encU [2, 13])) ⟨by have zz := HB11.out.size; (repeat' (first | (with_reducible exact Below.refl _ _) | (with_reducible refine Below.setCell ?_ (by (first | omega | (simp; done) | (simp; omega))) _) | (with_reducible refine Below.alloc ?_ (by (first | omega | (simp; done) | (simp; omega))) _) | (with_reducible refine Below.drew ?_) | (with_reducible refine below_drewN ?_ _) | (with_reducible refine Below.trans ?_ (Below.mono HB11.out (by (first | omega | (simp; done) | (simp; omega))))))), by subst hg; (repeat' (first | (with_reducible refine BlkP.Blk.drew ?_) | (with_reducible refine BlkP.Blk.drewN ?_ _) | (with_reducible refine BlkP.Blk.setAt (us := ?_) (by first | omega | (simp; done) | (simp; omega)) rfl ?_ ?_) | (with_reducible refine BlkP.Blk.otherAt ?_ (by first | omega | (simp; done) | (simp; omega))) | (with_reducible refine BlkP.Blk.newA' (by first | omega | (simp; done) | (simp; omega)) rfl) | (with_reducible refine BlkP.Blk.alloc ?_ _) | (exact rfl)))⟩ ?_
  rintro w12 ⟨hb, hk⟩
  try rw [hg]
  have HB12 := Lib.hid hb
  have HK := Lib.hid (rdU (n := 2) hk rfl (by omega))
  clear hb hk hg
  refine (lpushes_c (n := 2) (m := 1) (e5 := 0) (ks := [2, 13]) (HT.out.below HB12.out) HK.out rfl (by omega) (by decide)).mono ?_
  rintro e w13 ⟨rfl, hb⟩
  have HB13 := Lib.hid (below_t HB12.out hb)
  clear hb
  clear HK
  obtain ⟨g, hg⟩ : ∃ g, w13.heap.size = g := ⟨_, rfl⟩
  go_wp2_with fail
  refine calls_named (S := fun W => Below w.heap.size w W ∧ Blk W g TU (flat encU [9])) ⟨by have zz := HB13.out.size; (repeat' (first | (with_reducible exact Below.refl _ _) | (with_reducible refine Below.setCell ?_ (by (first | omega | (simp; done) | (simp; omega))) _) | (with_reducible refine Below.alloc ?_ (by (first | omega | (simp; done) | (simp; omega))) _) | (with_reducible refine Below.drew ?_) | (with_reducible refine below_drewN ?_ _) | (with_reducible refine Below.trans ?_ (Below.mono HB13.out (by (first | omega | (simp; done) | (simp; omega))))))), by subst hg; (repeat' (first | (with_reducible refine BlkP.Blk.drew ?_) | (with_reducible refine BlkP.Blk.drewN ?_ _) | (with_reducible refine BlkP.Blk.setAt (us := ?_) (by first | omega | (simp; done) | (simp; omega)) rfl ?_ ?_) | (with_reducible refine BlkP.Blk.otherAt ?_ (by first | omega | (simp; done) | (simp; omega))) | (with_reducible refine BlkP.Blk.newA' (by first | omega | (simp; done) | (simp; omega)) rfl) | (with_reducible refine BlkP.Blk.alloc ?_ _) | (exact rfl)))⟩ ?_
  rintro w14 ⟨hb, hk⟩
  try rw [hg]
  have HB14 := Lib.hid hb
  have HK := Lib.hid (rdU (n := 1) hk rfl (by omega))
  clear hb hk hg
  refine (lpushes_c (n := 1) (m := 0) (e5 := 12) (ks := [9]) (HT.out.below HB14.out) HK.out rfl (by omega) (by decide)).mono ?_
  rintro e w15 ⟨rfl, hb⟩
  have HB15 := Lib.hid (below_t HB14.out hb)
  clear hb
  clear HK
  go_wp2_with fail
  refine (lpushes_c (A := none) (n := 0) (c := 0) (m := 0) (e5 := 5) (ks := []) (HT.out.below HB15.out) (Rd.nil _ _) rfl (by omega) (by decide)).mono ?_
  rintro e w16 ⟨rfl, hb⟩
  have HB16 := Lib.hid (below_t HB15.out hb)
  clear hb
  obtain ⟨g, hg⟩ : ∃ g, w16.heap.size = g := ⟨_, rfl⟩
  go_wp2_with fail
  refine calls_named (S := fun W => Below w.heap.size w W ∧ Blk W g TU (flat encU [1])) ⟨by have zz := HB16.out.size; (repeat' (first | (with_reducible exact Below.refl _ _) | (with_reducible refine Below.setCell ?_ (by (first | omega | (simp; done) | (simp; omega))) _) | (with_reducible refine Below.alloc ?_ (by (first | omega | (simp; done) | (simp; omega))) _) | (with_reducible refine Below.drew ?_) | (with_reducible refine below_drewN ?_ _) | (with_reducible refine Below.trans ?_ (Below.mono HB16.out (by (first | omega | (simp; done) | (simp; omega))))))), by subst hg; (repeat' (first | (with_reducible refine BlkP.Blk.drew ?_) | (with_reducible refine BlkP.Blk.drewN ?_ _) | (with_reducible refine BlkP.Blk.setAt (us := ?_) (by first | omega | (simp; done) | (simp; omega)) rfl ?_ ?_) | (with_reducible refine BlkP.Blk.otherAt ?_ (by first | omega | (simp; done) | (simp; omega))) | (with_reducible refine BlkP.Blk.newA' (by first | omega | (simp; done) | (simp; omega)) rfl) | (with_reducible refine BlkP.Blk.alloc ?_ _) | (exact rfl)))⟩ ?_
  rintro w17 ⟨hb, hk⟩
  try rw [hg]
  have HB17 := Lib.hid hb
  have HK := Lib.hid (rdU (n := 1) hk rfl (by omega))
  clear hb hk hg
  refine (lpushes_c (n := 1) (m := 0) (e5 := 5) (ks := [1]) (HT.out.below HB17.out) HK.out rfl (by omega) (by decide)).mono ?_
  rintro e w18 ⟨rfl, hb⟩
  have HB18 := Lib.hid (below_t HB17.out hb)
  clear hb
  clear HK
  obtain ⟨g, hg⟩ : ∃ g, w18.heap.size = g := ⟨_, rfl⟩
  go_wp2_with fail
  refine calls_named (S := fun W => Below w.heap.size w W ∧ Blk W g TU (flat encU [2, 2, 2, 2, 2, 2, 2, 2, 0])) ⟨by have zz := HB18.out.size; (repeat' (first | (with_reducible exact Below.refl _ _) | (with_reducible refine Below.setCell ?_ (by (first | omega | (simp; done) | (simp; omega))) _) | (with_reducible refine Below.alloc ?_ (by (first | omega | (simp; done) | (simp; omega))) _) | (with_reducible refine Below.drew ?_) | (with_reducible refine below_drewN ?_ _) | (with_reducible refine Below.trans ?_ (Below.mono HB18.out (by (first | omega | (simp; done) | (simp; omega))))))), by subst hg; (repeat' (first | (with_reducible refine BlkP.Blk.drew ?_) | (with_reducible refine BlkP.Blk.drewN ?_ _) | (with_reducible refine BlkP.Blk.setAt (us := ?_) (by first | omega | (simp; done) | (simp; omega)) rfl ?_ ?_) | (with_reducible refine BlkP.Blk.otherAt ?_ (by first | omega | (simp; done) | (simp; omega))) | (with_reducible refine BlkP.Blk.newA' (by first | omega | (simp; done) | (simp; omega)) rfl) | (with_reducible refine BlkP.Blk.alloc ?_ _) | (exact rfl)))⟩ ?_
  rintro w19 ⟨hb, hk⟩
  try rw [hg]
  have HB19 := Lib.hid hb
  have HK := Lib.hid (rdU (n := 9) hk rfl (by omega))
  clear hb hk hg
  refine (lpushes_c (n := 9) (m := 8) (e5 := 0) (ks := [2, 2, 2, 2, 2, 2, 2, 2, 0]) (HT.out.below HB19.out) HK.out rfl (by omega) (by decide)).mono ?_
  rintro e w20 ⟨rfl, hb⟩
  have HB20 := Lib.hid (below_t HB19.out hb)
  clear hb
  clear HK
  obtain ⟨g, hg⟩ : ∃ g, w20.heap.size = g := ⟨_, rfl⟩
  go_wp2_with fail
  refine calls_named (S := fun W => Below w.heap.size w W ∧ Blk W g TU (flat encU [2, 2, 2, 2, 2, 2, 2, 2, 2, 0])) ⟨by have zz := HB20.out.size; (repeat' (first | (with_reducible exact Below.refl _ _) | (with_reducible refine Below.setCell ?_ (by (first | omega | (simp; done) | (simp; omega))) _) | (with_reducible refine Below.alloc ?_ (by (first | omega | (simp; done) | (simp; omega))) _) | (with_reducible refine Below.drew ?_) | (with_reducible refine below_drewN ?_ _) | (with_reducible refine Below.trans ?_ (Below.mono HB20.out (by (first | omega | (simp; done) | (simp; omega))))))), by subst hg; (repeat' (first | (with_reducible refine BlkP.Blk.drew ?_) | (with_reducible refine BlkP.Blk.drewN ?_ _) | (with_reducible refine BlkP.Blk.setAt (us := ?_) (by first | omega | (simp; done) | (simp; omega)) rfl ?_ ?_) | (with_reducible refine BlkP.Blk.otherAt ?_ (by first | omega | (simp; done) | (simp; omega))) | (with_reducible refine BlkP.Blk.newA' (by first | omega | (simp; done) | (simp; omega)) rfl) | (with_reducible refine BlkP.Blk.alloc ?_ _) | (exact rfl)))⟩ ?_
  rintro w21 ⟨hb, hk⟩
  try rw [hg]
  have HB21 := Lib.hid hb
  have HK := Lib.hid (rdU (n := 10) hk rfl (by omega))
  clear hb hk hg
  refine (lpushes_c (n := 10) (m := 0) (e5 := 12) (ks := [2, 2, 2, 2, 2, 2, 2, 2, 2, 0]) (HT.out.below HB21.out) HK.out rfl (by omega) (by decide)).mono ?_
  rintro e w22 ⟨rfl, hb⟩
  have HB22 := Lib.hid (below_t HB21.out hb)
  clear hb
  clear HK
  obtain ⟨g, hg⟩ : ∃ g, w22.heap.size = g := ⟨_, rfl⟩
  go_wp2_with fail
  refine calls_named (S := fun W => Below w.heap.size w W ∧ Blk W g TU (flat encU [2, 10])) ⟨by have zz := HB22.out.size; (repeat' (first | (with_reducible exact Below.refl _ _) | (with_reducible refine Below.setCell ?_ (by (first | omega | (simp; done) | (simp; omega))) _) | (with_reducible refine Below.alloc ?_ (by (first | omega | (simp; done) | (simp; omega))) _) | (with_reducible refine Below.drew ?_) | (with_reducible refine below_drewN ?_ _) | (with_reducible refine Below.trans ?_ (Below.mono HB22.out (by (first | omega | (simp; done) | (simp; omega))))))), by subst hg; (repeat' (first | (with_reducible refine BlkP.Blk.drew ?_) | (with_reducible refine BlkP.Blk.drewN ?_ _) | (with_reducible refine BlkP.Blk.setAt (us := ?_) (by first | omega | (simp; done) | (simp; omega)) rfl ?_ ?_) | (with_reducible refine BlkP.Blk.otherAt ?_ (by first | omega | (simp; done) | (simp; omega))) | (with_reducible refine BlkP.Blk.newA' (by first | omega | (simp; done) | (simp; omega)) rfl) | (with_reducible refine BlkP.Blk.alloc ?_ _) | (exact rfl)))⟩ ?_
  rintro w23 ⟨hb, hk⟩
  try rw [hg]
  have HB23 := Lib.hid hb
  have HK := Lib.hid (rdU (n := 2) hk rfl (by omega))
  clear hb hk hg
  refine (lpushes_c (n := 2) (m := 0) (e5 := 12) (ks := [2, 10]) (HT.out.below HB23.out) HK.out rfl (by omega) (by decide)).mono ?_
  rintro e w24 ⟨rfl, hb⟩
  have HB24 := Lib.hid (below_t HB23.out hb)
  clear hb
  clear HK
  obtain ⟨g, hg⟩ : ∃ g, w24.heap.size = g := ⟨_, rfl⟩
  go_wp2_with fail
  refine calls_named (S := fun W => Below w.heap.size w W ∧ Blk W g TU (flat encU [2, 1, 0])) ⟨by have zz := HB24.out.size; (repeat' (first | (with_reducible exact Below.refl _ _) | (with_reducible refine Below.setCell ?_ (by (first | omega | (simp; done) | (simp; omega))) _) | (with_reducible refine Below.alloc ?_ (by (first | omega | (simp; done) | (simp; omega))) _) | (with_reducible refine Below.drew ?_) | (with_reducible refine below_drewN ?_ _) | (with_reducible refine Below.trans ?_ (Below.mono HB24.out (by (first | omega | (simp; done) | (simp; omega))))))), by subst hg; (repeat' (first | (with_reducible refine BlkP.Blk.drew ?_) | (with_reducible refine BlkP.Blk.drewN ?_ _) | (with_reducible refine BlkP.Blk.setAt (us := ?_) (by first | omega | (simp; done) | (simp; omega)) rfl ?_ ?_) | (with_reducible refine BlkP.Blk.otherAt ?_ (by first | omega | (simp; done) | (simp; omega))) | (with_reducible refine BlkP.Blk.newA' (by first | omega | (simp; done) | (simp; omega)) rfl) | (with_reducible refine BlkP.Blk.alloc ?_ _) | (exact rfl)))⟩ ?_
  rintro w25 ⟨hb, hk⟩
  try rw [hg]
  have HB25 := Lib.hid hb
  have HK := Lib.hid (rdU (n := 3) hk rfl (by omega))
  clear hb hk hg
  refine (lpushes_c (n := 3) (m := 0) (e5 := 12) (ks := [2, 1, 0]) (HT.out.below HB25.out) HK.out rfl (by omega) (by decide)).mono ?_
  rintro e w26 ⟨rfl, hb⟩
  have HB26 := Lib.hid (below_t HB25.out hb)
  clear hb
  clear HK
  go_wp2_with fail
  go_ret
  exact ⟨by first | rfl | simp, HB26.out⟩
end FallW
end Go.Proofs.YtlcnhommlcdilaaDoor
