/-
  FlowKnown: the chapter's examples.
-/
import Derived.Test.YtjdoglihebfamaaDoorFlowWorks
namespace Go.Proofs.YtjdoglihebfamaaDoor
open Go.RowKit
set_option linter.unusedVariables false
set_option linter.unusedSimpArgs false
namespace FlowW
open BlkP RowG FrS PushG FlowP
set_option maxRecDepth 100000 in
theorem wk_c {w : World} {l : Int} : Calls Tryd.prog 20 #[.int .u8 l] w fun e w' => e = .returned (.agg #[.int .u8 13, .int .u8 l]) ∧ Below w.heap.size w w' := by
  go_enter Tryd.func20, Tryd.ntmps20
  go_wp2_with fail
  refine bodyPost_ret (v := .agg #[.int .u8 13, .int .u8 l]) (by simp [results, Tryd.results20, go_sem]) rfl ?_
  exact ⟨rfl, by (repeat' (first | (with_reducible exact Below.refl _ _) | (with_reducible refine Below.setCell ?_ (by (first | omega | (simp; done) | (simp; omega))) _) | (with_reducible refine Below.alloc ?_ (by (first | omega | (simp; done) | (simp; omega))) _) | (with_reducible refine Below.drew ?_) | (with_reducible refine below_drewN ?_ _)))⟩
theorem Blk.cell_eq {w : World} {b : Nat} {T : TypeId} {vs : List Value} (h : Blk w b T vs) (i : Nat) : w.cell? ⟨b, i, none⟩ = vs[i]? := (cell_of_row w b i _ _ _ h).trans (by simp)
/-- A row of changes, as a block. -/
theorem own_blk {w : World} {B g n c : Nat} {l : List (Nat × Cl)} (h : RowG.Own encX TX w B (.slice (some ⟨g, 0, none⟩) n c) l) : ∃ us, Blk w g TX us ∧ ∀ i j x u, l[i]? = some x → (encX.f x)[j]? = some u → us[i * 3 + j]? = some u := by
  have hc := fun i j x u hx hu => h.cell (i := i) (j := j) (x := x) (u := u) hx hu
  unfold RowG.Own at h
  rcases h.2 with ⟨h0, _⟩ | ⟨g', cap, cur, h0, _, hgg, _⟩
  · cases h0
  · injection h0 with h0
    injection h0 with h0
    injection h0 with h0
    subst h0
    refine ⟨cur.toList, hgg, fun i j x u hx hu => ?_⟩
    rw [← Blk.cell_eq (show Blk w g TX cur.toList from hgg)]
    exact hc i j x u hx hu
set_option maxRecDepth 100000 in
set_option maxHeartbeats 64000000 in
theorem law_known {w : World} (hT : KindW.Tab w) : Calls Tryd.prog 10 #[] w fun e w' => e = .returned (.bool true) ∧ Below w.heap.size w w' := by
  have HT := Lib.hid hT
  clear hT
  go_enter Tryd.func10, Tryd.ntmps10
  go_wp2_with ((with_reducible refine at_storeN ?_); refine Classical.byContradiction (fun hG => ?_))
  refine hG ?_
  clear hG
  obtain ⟨b2, hb2⟩ : ∃ b, w.heap.size = b := ⟨_, rfl⟩
  have HB0 := Lib.hid (Below.refl w.heap.size w)
  refine list_named (S := fun W => Below w.heap.size w W ∧ Blk W b2 TC [.int .u8 2, .int .u8 0] ∧ Blk W (b2 + 1) TN (vals nz)) ⟨by (repeat' (first | (with_reducible exact Below.refl _ _) | (with_reducible refine Below.setCell ?_ (by (first | omega | (simp; done) | (simp; omega))) _) | (with_reducible refine Below.alloc ?_ (by (first | omega | (simp; done) | (simp; omega))) _) | (with_reducible refine Below.drew ?_) | (with_reducible refine below_drewN ?_ _))), by subst hb2; (repeat' (first | (with_reducible refine BlkP.Blk.drew ?_) | (with_reducible refine BlkP.Blk.drewN ?_ _) | (with_reducible refine BlkP.Blk.setAt (us := ?_) (by first | omega | (simp; done) | (simp; omega)) rfl ?_ ?_) | (with_reducible refine BlkP.Blk.otherAt ?_ (by first | omega | (simp; done) | (simp; omega))) | (with_reducible refine BlkP.Blk.newA' (by first | omega | (simp; done) | (simp; omega)) rfl) | (with_reducible refine BlkP.Blk.alloc ?_ _) | (exact rfl))), by subst hb2; (repeat' (first | (with_reducible refine BlkP.Blk.drew ?_) | (with_reducible refine BlkP.Blk.drewN ?_ _) | (with_reducible refine BlkP.Blk.setAt (us := ?_) (by first | omega | (simp; done) | (simp; omega)) rfl ?_ ?_) | (with_reducible refine BlkP.Blk.otherAt ?_ (by first | omega | (simp; done) | (simp; omega))) | (with_reducible refine BlkP.Blk.newA' (by first | omega | (simp; done) | (simp; omega)) rfl) | (with_reducible refine BlkP.Blk.alloc ?_ _) | (exact rfl)))⟩ ?_
  rintro w1 ⟨hbx, hs1, ho1⟩
  try rw [hb2]
  obtain ⟨b3, hb3⟩ : ∃ b, b2 + 1 = b := ⟨_, rfl⟩
  rw [hb3] at ho1
  try rw [hb3]
  have hl3 := ho1.lt
  have HW2 := Lib.hid (show w.heap.size ≤ b2 ∧ b2 < b3 from ⟨by omega, by omega⟩)
  refine wp_storeN rfl (.tmp 3) (.tmp 22) rfl rfl (n := nz) rfl ho1 rfl ?_
  intro w2 h2 hg2 hz2
  have HB2 := Lib.hid (show Below w.heap.size w w2 from hbx.grown hg2 (by have := hbx.size; omega) (fun q hq => by injection hq with hq; have := HW2.out; omega))
  have Hst2 := Lib.hid (hs1.grown hg2 (by have := HW2.out; simp; omega))
  have Hone2 := Lib.hid (show Blk w2 b3 TN [.int .u8 0, .int .u8 0, .int .u8 0, .int .u8 0, .int .u8 0, .int .u8 0, .int .u8 0, .int .u8 0, .int .u8 0, .int .u8 0, .int .u8 0, .int .u8 0, .int .u8 0, .int .u8 0, .int .u8 0, .int .u8 0, .int .u8 0, .int .u8 0, .int .u8 0, .int .u8 0, .int .u8 0, .int .u8 0, .int .u8 0, .int .u64 0] from h2)
  have hne23 : b2 ≠ b3 := by have := HW2.out; omega
  have hne32 : b3 ≠ b2 := by have := HW2.out; omega
  clear hbx hs1 ho1 h2 hg2 hz2 hl3 hb2 hb3
  go_wp2_with fail
  refine (wk_c (l := 3)).mono ?_
  rintro e w3 ⟨rfl, hbq⟩
  have HB3 := Lib.hid (below_t HB2.out hbq)
  have Hst3 := Lib.hid (Hst2.out.below hbq)
  have Hone3 := Lib.hid (Hone2.out.below hbq)
  clear hbq
  have m2 : w3.cell? ⟨b3, 2, none⟩ = some (.int .u8 0) := Hone3.out.cell rfl
  have f2 := Hone3.out.frozen 2
  have m3 : w3.cell? ⟨b3, 3, none⟩ = some (.int .u8 0) := Hone3.out.cell rfl
  have f3 := Hone3.out.frozen 3
  go_wp2_with ((with_reducible refine at_slot 28 ?_); refine Classical.byContradiction (fun hG => ?_))
  refine hG ?_
  clear hG
  refine list_named (S := fun W => Below w.heap.size w W ∧ Blk W b2 TC [.int .u8 2, .int .u8 0] ∧ Blk W b3 TN [.int .u8 0, .int .u8 0, .int .u8 13, .int .u8 3, .int .u8 0, .int .u8 0, .int .u8 0, .int .u8 0, .int .u8 0, .int .u8 0, .int .u8 0, .int .u8 0, .int .u8 0, .int .u8 0, .int .u8 0, .int .u8 0, .int .u8 0, .int .u8 0, .int .u8 0, .int .u8 0, .int .u8 0, .int .u8 0, .int .u8 0, .int .u64 0]) ⟨by
    have zz := HB3.out.size
    have qHW2 := HW2.out
    (repeat' (first | (with_reducible exact Below.refl _ _) | (with_reducible refine Below.setCell ?_ (by (first | omega | (simp; done) | (simp; omega))) _) | (with_reducible refine Below.alloc ?_ (by (first | omega | (simp; done) | (simp; omega))) _) | (with_reducible refine Below.drew ?_) | (with_reducible refine below_drewN ?_ _) | (with_reducible refine Below.trans ?_ (Below.mono HB3.out (by (first | omega | (simp; done) | (simp; omega))))))), by
    have qHW2 := HW2.out
    have zl := Hst3.out.lt
    (repeat' (first | (with_reducible exact Hst3.out) | (with_reducible refine BlkP.Blk.drew ?_) | (with_reducible refine BlkP.Blk.drewN ?_ _) | (with_reducible refine BlkP.Blk.setAt (us := ?_) (by first | omega | (simp; done) | (simp; omega)) rfl ?_ ?_) | (with_reducible refine BlkP.Blk.otherAt ?_ (by first | omega | (simp; done) | (simp; omega))) | (with_reducible refine BlkP.Blk.newA' (by first | omega | (simp; done) | (simp; omega)) rfl) | (with_reducible refine BlkP.Blk.alloc ?_ _) | (exact rfl))), by
    have qHW2 := HW2.out
    have zl := Hone3.out.lt
    (repeat' (first | (with_reducible exact Hone3.out) | (with_reducible refine BlkP.Blk.drew ?_) | (with_reducible refine BlkP.Blk.drewN ?_ _) | (with_reducible refine BlkP.Blk.setAt (us := ?_) (by first | omega | (simp; done) | (simp; omega)) rfl ?_ ?_) | (with_reducible refine BlkP.Blk.otherAt ?_ (by first | omega | (simp; done) | (simp; omega))) | (with_reducible refine BlkP.Blk.newA' (by first | omega | (simp; done) | (simp; omega)) rfl) | (with_reducible refine BlkP.Blk.alloc ?_ _) | (exact rfl)))⟩ ?_
  rintro w4 ⟨hbx, hxst, hxone⟩
  have HB4 := Lib.hid hbx
  have Hst4 := Lib.hid hxst
  have Hone4 := Lib.hid hxone
  clear hbx hxst hxone
  clear m2 m3 f2 f3
  obtain ⟨q5, hq5⟩ : ∃ q : Nr, q = (⟨(0, 0), fun i => [(13, 3), (0, 0), (0, 0), (0, 0), (0, 0), (0, 0)].getD i (0, 0), fun i => [(0, 0), (0, 0), (0, 0), (0, 0)].getD i (0, 0), 0, 0⟩ : Nr) := ⟨_, rfl⟩
  have HQ5 := Lib.hid (show want q5 = (0, false) from by
    subst hq5
    decide)
  have HV5 := Lib.hid (show vals q5 = [.int .u8 0, .int .u8 0, .int .u8 13, .int .u8 3, .int .u8 0, .int .u8 0, .int .u8 0, .int .u8 0, .int .u8 0, .int .u8 0, .int .u8 0, .int .u8 0, .int .u8 0, .int .u8 0, .int .u8 0, .int .u8 0, .int .u8 0, .int .u8 0, .int .u8 0, .int .u8 0, .int .u8 0, .int .u8 0, .int .u8 0, .int .u64 0] from by
    subst hq5
    rfl)
  clear hq5
  refine wp_loadN rfl (.tmp 3) rfl rfl (n := q5) (by rw [HV5.out]; exact Hone4.out) ?_
  go_wp2_with fail
  refine (Want_c (HT.out.below HB4.out)).mono ?_
  rintro e w5 ⟨rfl, hbq⟩
  rw [HQ5.out]
  have HB5 := Lib.hid (below_t HB4.out hbq)
  have Hst5 := Lib.hid (Hst4.out.below hbq)
  have Hone5 := Lib.hid (Hone4.out.below hbq)
  clear hbq
  have s0 : w5.cell? ⟨b2, 0, none⟩ = some (.int .u8 2) := Hst5.out.cell rfl
  have s1 : w5.cell? ⟨b2, 1, none⟩ = some (.int .u8 0) := Hst5.out.cell rfl
  have m14 : w5.cell? ⟨b3, 14, none⟩ = some (.int .u8 0) := Hone5.out.cell rfl
  have f14 := Hone5.out.frozen 14
  have m15 : w5.cell? ⟨b3, 15, none⟩ = some (.int .u8 0) := Hone5.out.cell rfl
  have f15 := Hone5.out.frozen 15
  go_wp2_with ((with_reducible refine at_slot 36 ?_); refine Classical.byContradiction (fun hG => ?_))
  refine hG ?_
  clear hG
  refine list_named (S := fun W => Below w.heap.size w W ∧ Blk W b2 TC [.int .u8 2, .int .u8 0] ∧ Blk W b3 TN [.int .u8 0, .int .u8 0, .int .u8 13, .int .u8 3, .int .u8 0, .int .u8 0, .int .u8 0, .int .u8 0, .int .u8 0, .int .u8 0, .int .u8 0, .int .u8 0, .int .u8 0, .int .u8 0, .int .u8 2, .int .u8 0, .int .u8 0, .int .u8 0, .int .u8 0, .int .u8 0, .int .u8 0, .int .u8 0, .int .u8 0, .int .u64 0]) ⟨by
    have zz := HB5.out.size
    have qHW2 := HW2.out
    (repeat' (first | (with_reducible exact Below.refl _ _) | (with_reducible refine Below.setCell ?_ (by (first | omega | (simp; done) | (simp; omega))) _) | (with_reducible refine Below.alloc ?_ (by (first | omega | (simp; done) | (simp; omega))) _) | (with_reducible refine Below.drew ?_) | (with_reducible refine below_drewN ?_ _) | (with_reducible refine Below.trans ?_ (Below.mono HB5.out (by (first | omega | (simp; done) | (simp; omega))))))), by
    have qHW2 := HW2.out
    have zl := Hst5.out.lt
    (repeat' (first | (with_reducible exact Hst5.out) | (with_reducible refine BlkP.Blk.drew ?_) | (with_reducible refine BlkP.Blk.drewN ?_ _) | (with_reducible refine BlkP.Blk.setAt (us := ?_) (by first | omega | (simp; done) | (simp; omega)) rfl ?_ ?_) | (with_reducible refine BlkP.Blk.otherAt ?_ (by first | omega | (simp; done) | (simp; omega))) | (with_reducible refine BlkP.Blk.newA' (by first | omega | (simp; done) | (simp; omega)) rfl) | (with_reducible refine BlkP.Blk.alloc ?_ _) | (exact rfl))), by
    have qHW2 := HW2.out
    have zl := Hone5.out.lt
    (repeat' (first | (with_reducible exact Hone5.out) | (with_reducible refine BlkP.Blk.drew ?_) | (with_reducible refine BlkP.Blk.drewN ?_ _) | (with_reducible refine BlkP.Blk.setAt (us := ?_) (by first | omega | (simp; done) | (simp; omega)) rfl ?_ ?_) | (with_reducible refine BlkP.Blk.otherAt ?_ (by first | omega | (simp; done) | (simp; omega))) | (with_reducible refine BlkP.Blk.newA' (by first | omega | (simp; done) | (simp; omega)) rfl) | (with_reducible refine BlkP.Blk.alloc ?_ _) | (exact rfl)))⟩ ?_
  rintro w6 ⟨hbx, hxst, hxone⟩
  have HB6 := Lib.hid hbx
  have Hst6 := Lib.hid hxst
  have Hone6 := Lib.hid hxone
  clear hbx hxst hxone
  clear m14 m15 f14 f15 s0 s1
  obtain ⟨q7, hq7⟩ : ∃ q : Nr, q = (⟨(0, 0), fun i => [(13, 3), (0, 0), (0, 0), (0, 0), (0, 0), (0, 0)].getD i (0, 0), fun i => [(2, 0), (0, 0), (0, 0), (0, 0)].getD i (0, 0), 0, 0⟩ : Nr) := ⟨_, rfl⟩
  have HQ7 := Lib.hid (show want q7 = (4, true) from by
    subst hq7
    decide)
  have HV7 := Lib.hid (show vals q7 = [.int .u8 0, .int .u8 0, .int .u8 13, .int .u8 3, .int .u8 0, .int .u8 0, .int .u8 0, .int .u8 0, .int .u8 0, .int .u8 0, .int .u8 0, .int .u8 0, .int .u8 0, .int .u8 0, .int .u8 2, .int .u8 0, .int .u8 0, .int .u8 0, .int .u8 0, .int .u8 0, .int .u8 0, .int .u8 0, .int .u8 0, .int .u64 0] from by
    subst hq7
    rfl)
  clear hq7
  refine wp_loadN rfl (.tmp 3) rfl rfl (n := q7) (by rw [HV7.out]; exact Hone6.out) ?_
  go_wp2_with fail
  refine (Want_c (HT.out.below HB6.out)).mono ?_
  rintro e w7 ⟨rfl, hbq⟩
  rw [HQ7.out]
  have HB7 := Lib.hid (below_t HB6.out hbq)
  have Hst7 := Lib.hid (Hst6.out.below hbq)
  have Hone7 := Lib.hid (Hone6.out.below hbq)
  clear hbq
  go_wp2_with fail
  refine (wk_c (l := 7)).mono ?_
  rintro e w8 ⟨rfl, hbq⟩
  have HB8 := Lib.hid (below_t HB7.out hbq)
  have Hst8 := Lib.hid (Hst7.out.below hbq)
  have Hone8 := Lib.hid (Hone7.out.below hbq)
  clear hbq
  have m2 : w8.cell? ⟨b3, 2, none⟩ = some (.int .u8 13) := Hone8.out.cell rfl
  have f2 := Hone8.out.frozen 2
  have m3 : w8.cell? ⟨b3, 3, none⟩ = some (.int .u8 3) := Hone8.out.cell rfl
  have f3 := Hone8.out.frozen 3
  go_wp2_with ((with_reducible refine at_slot 45 ?_); refine Classical.byContradiction (fun hG => ?_))
  refine hG ?_
  clear hG
  refine list_named (S := fun W => Below w.heap.size w W ∧ Blk W b2 TC [.int .u8 2, .int .u8 0] ∧ Blk W b3 TN [.int .u8 0, .int .u8 0, .int .u8 13, .int .u8 7, .int .u8 0, .int .u8 0, .int .u8 0, .int .u8 0, .int .u8 0, .int .u8 0, .int .u8 0, .int .u8 0, .int .u8 0, .int .u8 0, .int .u8 2, .int .u8 0, .int .u8 0, .int .u8 0, .int .u8 0, .int .u8 0, .int .u8 0, .int .u8 0, .int .u8 0, .int .u64 0]) ⟨by
    have zz := HB8.out.size
    have qHW2 := HW2.out
    (repeat' (first | (with_reducible exact Below.refl _ _) | (with_reducible refine Below.setCell ?_ (by (first | omega | (simp; done) | (simp; omega))) _) | (with_reducible refine Below.alloc ?_ (by (first | omega | (simp; done) | (simp; omega))) _) | (with_reducible refine Below.drew ?_) | (with_reducible refine below_drewN ?_ _) | (with_reducible refine Below.trans ?_ (Below.mono HB8.out (by (first | omega | (simp; done) | (simp; omega))))))), by
    have qHW2 := HW2.out
    have zl := Hst8.out.lt
    (repeat' (first | (with_reducible exact Hst8.out) | (with_reducible refine BlkP.Blk.drew ?_) | (with_reducible refine BlkP.Blk.drewN ?_ _) | (with_reducible refine BlkP.Blk.setAt (us := ?_) (by first | omega | (simp; done) | (simp; omega)) rfl ?_ ?_) | (with_reducible refine BlkP.Blk.otherAt ?_ (by first | omega | (simp; done) | (simp; omega))) | (with_reducible refine BlkP.Blk.newA' (by first | omega | (simp; done) | (simp; omega)) rfl) | (with_reducible refine BlkP.Blk.alloc ?_ _) | (exact rfl))), by
    have qHW2 := HW2.out
    have zl := Hone8.out.lt
    (repeat' (first | (with_reducible exact Hone8.out) | (with_reducible refine BlkP.Blk.drew ?_) | (with_reducible refine BlkP.Blk.drewN ?_ _) | (with_reducible refine BlkP.Blk.setAt (us := ?_) (by first | omega | (simp; done) | (simp; omega)) rfl ?_ ?_) | (with_reducible refine BlkP.Blk.otherAt ?_ (by first | omega | (simp; done) | (simp; omega))) | (with_reducible refine BlkP.Blk.newA' (by first | omega | (simp; done) | (simp; omega)) rfl) | (with_reducible refine BlkP.Blk.alloc ?_ _) | (exact rfl)))⟩ ?_
  rintro w9 ⟨hbx, hxst, hxone⟩
  have HB9 := Lib.hid hbx
  have Hst9 := Lib.hid hxst
  have Hone9 := Lib.hid hxone
  clear hbx hxst hxone
  clear m2 m3 f2 f3
  obtain ⟨q10, hq10⟩ : ∃ q : Nr, q = (⟨(0, 0), fun i => [(13, 7), (0, 0), (0, 0), (0, 0), (0, 0), (0, 0)].getD i (0, 0), fun i => [(2, 0), (0, 0), (0, 0), (0, 0)].getD i (0, 0), 0, 0⟩ : Nr) := ⟨_, rfl⟩
  have HQ10 := Lib.hid (show want q10 = (0, false) from by
    subst hq10
    decide)
  have HV10 := Lib.hid (show vals q10 = [.int .u8 0, .int .u8 0, .int .u8 13, .int .u8 7, .int .u8 0, .int .u8 0, .int .u8 0, .int .u8 0, .int .u8 0, .int .u8 0, .int .u8 0, .int .u8 0, .int .u8 0, .int .u8 0, .int .u8 2, .int .u8 0, .int .u8 0, .int .u8 0, .int .u8 0, .int .u8 0, .int .u8 0, .int .u8 0, .int .u8 0, .int .u64 0] from by
    subst hq10
    rfl)
  clear hq10
  refine wp_loadN rfl (.tmp 3) rfl rfl (n := q10) (by rw [HV10.out]; exact Hone9.out) ?_
  go_wp2_with fail
  refine (Want_c (HT.out.below HB9.out)).mono ?_
  rintro e w10 ⟨rfl, hbq⟩
  rw [HQ10.out]
  have HB10 := Lib.hid (below_t HB9.out hbq)
  have Hst10 := Lib.hid (Hst9.out.below hbq)
  have Hone10 := Lib.hid (Hone9.out.below hbq)
  clear hbq
  go_wp2_with fail
  refine (wk_c (l := 5)).mono ?_
  rintro e w11 ⟨rfl, hbq⟩
  have HB11 := Lib.hid (below_t HB10.out hbq)
  have Hst11 := Lib.hid (Hst10.out.below hbq)
  have Hone11 := Lib.hid (Hone10.out.below hbq)
  clear hbq
  have m10 : w11.cell? ⟨b3, 10, none⟩ = some (.int .u8 0) := Hone11.out.cell rfl
  have f10 := Hone11.out.frozen 10
  have m11 : w11.cell? ⟨b3, 11, none⟩ = some (.int .u8 0) := Hone11.out.cell rfl
  have f11 := Hone11.out.frozen 11
  go_wp2_with ((with_reducible refine at_slot 54 ?_); refine Classical.byContradiction (fun hG => ?_))
  refine hG ?_
  clear hG
  refine list_named (S := fun W => Below w.heap.size w W ∧ Blk W b2 TC [.int .u8 2, .int .u8 0] ∧ Blk W b3 TN [.int .u8 0, .int .u8 0, .int .u8 13, .int .u8 7, .int .u8 0, .int .u8 0, .int .u8 0, .int .u8 0, .int .u8 0, .int .u8 0, .int .u8 13, .int .u8 5, .int .u8 0, .int .u8 0, .int .u8 2, .int .u8 0, .int .u8 0, .int .u8 0, .int .u8 0, .int .u8 0, .int .u8 0, .int .u8 0, .int .u8 0, .int .u64 0]) ⟨by
    have zz := HB11.out.size
    have qHW2 := HW2.out
    (repeat' (first | (with_reducible exact Below.refl _ _) | (with_reducible refine Below.setCell ?_ (by (first | omega | (simp; done) | (simp; omega))) _) | (with_reducible refine Below.alloc ?_ (by (first | omega | (simp; done) | (simp; omega))) _) | (with_reducible refine Below.drew ?_) | (with_reducible refine below_drewN ?_ _) | (with_reducible refine Below.trans ?_ (Below.mono HB11.out (by (first | omega | (simp; done) | (simp; omega))))))), by
    have qHW2 := HW2.out
    have zl := Hst11.out.lt
    (repeat' (first | (with_reducible exact Hst11.out) | (with_reducible refine BlkP.Blk.drew ?_) | (with_reducible refine BlkP.Blk.drewN ?_ _) | (with_reducible refine BlkP.Blk.setAt (us := ?_) (by first | omega | (simp; done) | (simp; omega)) rfl ?_ ?_) | (with_reducible refine BlkP.Blk.otherAt ?_ (by first | omega | (simp; done) | (simp; omega))) | (with_reducible refine BlkP.Blk.newA' (by first | omega | (simp; done) | (simp; omega)) rfl) | (with_reducible refine BlkP.Blk.alloc ?_ _) | (exact rfl))), by
    have qHW2 := HW2.out
    have zl := Hone11.out.lt
    (repeat' (first | (with_reducible exact Hone11.out) | (with_reducible refine BlkP.Blk.drew ?_) | (with_reducible refine BlkP.Blk.drewN ?_ _) | (with_reducible refine BlkP.Blk.setAt (us := ?_) (by first | omega | (simp; done) | (simp; omega)) rfl ?_ ?_) | (with_reducible refine BlkP.Blk.otherAt ?_ (by first | omega | (simp; done) | (simp; omega))) | (with_reducible refine BlkP.Blk.newA' (by first | omega | (simp; done) | (simp; omega)) rfl) | (with_reducible refine BlkP.Blk.alloc ?_ _) | (exact rfl)))⟩ ?_
  rintro w12 ⟨hbx, hxst, hxone⟩
  have HB12 := Lib.hid hbx
  have Hst12 := Lib.hid hxst
  have Hone12 := Lib.hid hxone
  clear hbx hxst hxone
  clear m10 m11 f10 f11
  obtain ⟨q13, hq13⟩ : ∃ q : Nr, q = (⟨(0, 0), fun i => [(13, 7), (0, 0), (0, 0), (0, 0), (13, 5), (0, 0)].getD i (0, 0), fun i => [(2, 0), (0, 0), (0, 0), (0, 0)].getD i (0, 0), 0, 0⟩ : Nr) := ⟨_, rfl⟩
  have HQ13 := Lib.hid (show want q13 = (1, true) from by
    subst hq13
    decide)
  have HV13 := Lib.hid (show vals q13 = [.int .u8 0, .int .u8 0, .int .u8 13, .int .u8 7, .int .u8 0, .int .u8 0, .int .u8 0, .int .u8 0, .int .u8 0, .int .u8 0, .int .u8 13, .int .u8 5, .int .u8 0, .int .u8 0, .int .u8 2, .int .u8 0, .int .u8 0, .int .u8 0, .int .u8 0, .int .u8 0, .int .u8 0, .int .u8 0, .int .u8 0, .int .u64 0] from by
    subst hq13
    rfl)
  clear hq13
  refine wp_loadN rfl (.tmp 3) rfl rfl (n := q13) (by rw [HV13.out]; exact Hone12.out) ?_
  go_wp2_with fail
  refine (Want_c (HT.out.below HB12.out)).mono ?_
  rintro e w13 ⟨rfl, hbq⟩
  rw [HQ13.out]
  have HB13 := Lib.hid (below_t HB12.out hbq)
  have Hst13 := Lib.hid (Hst12.out.below hbq)
  have Hone13 := Lib.hid (Hone12.out.below hbq)
  clear hbq
  clear hne23 hne32
  go_wp2_with fail
  refine (wk_c (l := 0)).mono ?_
  rintro e w14 ⟨rfl, hbq⟩
  have HB14 := Lib.hid (below_t HB13.out hbq)
  have Hst14 := Lib.hid (Hst13.out.below hbq)
  clear hbq
  go_wp2_with ((with_reducible refine at_storeN ?_); refine Classical.byContradiction (fun hG => ?_))
  refine hG ?_
  clear hG
  obtain ⟨bs, hbs⟩ : ∃ b, w14.heap.size = b := ⟨_, rfl⟩
  have lst := Hst14.out.lt
  have zi := HB14.out.size
  have HNs := Lib.hid (show w.heap.size ≤ bs ∧ b2 < bs from ⟨by omega, by omega⟩)
  clear zi lst
  refine list_named (S := fun W => Below w.heap.size w W ∧ Blk W b2 TC [.int .u8 2, .int .u8 0] ∧ Blk W bs TN [.int .u8 0, .int .u8 0, .int .u8 0, .int .u8 0, .int .u8 0, .int .u8 0, .int .u8 0, .int .u8 0, .int .u8 0, .int .u8 0, .int .u8 0, .int .u8 0, .int .u8 0, .int .u8 0, .int .u8 0, .int .u8 0, .int .u8 0, .int .u8 0, .int .u8 0, .int .u8 0, .int .u8 0, .int .u8 0, .int .u8 0, .int .u64 0]) ⟨by
    have zz := HB14.out.size
    have qHW2 := HW2.out
    have qHNs := HNs.out
    (repeat' (first | (with_reducible exact Below.refl _ _) | (with_reducible refine Below.setCell ?_ (by (first | omega | (simp; done) | (simp; omega))) _) | (with_reducible refine Below.alloc ?_ (by (first | omega | (simp; done) | (simp; omega))) _) | (with_reducible refine Below.drew ?_) | (with_reducible refine below_drewN ?_ _) | (with_reducible refine Below.trans ?_ (Below.mono HB14.out (by (first | omega | (simp; done) | (simp; omega))))))), by
    have qHW2 := HW2.out
    have qHNs := HNs.out
    have zl := Hst14.out.lt
    (repeat' (first | (with_reducible exact Hst14.out) | (with_reducible refine BlkP.Blk.drew ?_) | (with_reducible refine BlkP.Blk.drewN ?_ _) | (with_reducible refine BlkP.Blk.setAt (us := ?_) (by first | omega | (simp; done) | (simp; omega)) rfl ?_ ?_) | (with_reducible refine BlkP.Blk.otherAt ?_ (by first | omega | (simp; done) | (simp; omega))) | (with_reducible refine BlkP.Blk.newA' (by first | omega | (simp; done) | (simp; omega)) rfl) | (with_reducible refine BlkP.Blk.alloc ?_ _) | (exact rfl))), by
    subst hbs
    (repeat' (first | (with_reducible refine BlkP.Blk.drew ?_) | (with_reducible refine BlkP.Blk.drewN ?_ _) | (with_reducible refine BlkP.Blk.setAt (us := ?_) (by first | omega | (simp; done) | (simp; omega)) rfl ?_ ?_) | (with_reducible refine BlkP.Blk.otherAt ?_ (by first | omega | (simp; done) | (simp; omega))) | (with_reducible refine BlkP.Blk.newA' (by first | omega | (simp; done) | (simp; omega)) rfl) | (with_reducible refine BlkP.Blk.alloc ?_ _) | (exact rfl)))⟩ ?_
  rintro w15 ⟨hbx, hxst, hxs⟩
  try rw [hbs]
  have HB15 := Lib.hid hbx
  have Hst15 := Lib.hid hxst
  have Hs15 := Lib.hid hxs
  clear hbx hxst hxs
  obtain ⟨q16, hq16⟩ : ∃ q : Nr, q = (⟨(13, 0), fun i => [(0, 0), (0, 0), (0, 0), (0, 0), (0, 0), (0, 0)].getD i (0, 0), fun i => [(0, 0), (0, 0), (0, 0), (0, 0)].getD i (0, 0), 0, 0⟩ : Nr) := ⟨_, rfl⟩
  have HV16 := Lib.hid (show vals q16 = [.int .u8 13, .int .u8 0, .int .u8 0, .int .u8 0, .int .u8 0, .int .u8 0, .int .u8 0, .int .u8 0, .int .u8 0, .int .u8 0, .int .u8 0, .int .u8 0, .int .u8 0, .int .u8 0, .int .u8 0, .int .u8 0, .int .u8 0, .int .u8 0, .int .u8 0, .int .u8 0, .int .u8 0, .int .u8 0, .int .u8 0, .int .u64 0] from by
    subst hq16
    rfl)
  refine wp_storeN rfl (.tmp 12) (.tmp 80) rfl rfl (n := q16) (by subst hq16; rfl) Hs15.out rfl ?_
  intro w16 hk hgk hzk
  clear hq16 hbs
  have qN := HNs.out
  have HB16 := Lib.hid (show Below w.heap.size w w16 from HB15.out.grown hgk (by have := HB15.out.size; omega) (fun q hq => by injection hq with hq; omega))
  have Hst16 := Lib.hid (Hst15.out.grown hgk (by simp; omega))
  have Hs16 := Lib.hid (show Blk w16 bs TN [.int .u8 13, .int .u8 0, .int .u8 0, .int .u8 0, .int .u8 0, .int .u8 0, .int .u8 0, .int .u8 0, .int .u8 0, .int .u8 0, .int .u8 0, .int .u8 0, .int .u8 0, .int .u8 0, .int .u8 0, .int .u8 0, .int .u8 0, .int .u8 0, .int .u8 0, .int .u8 0, .int .u8 0, .int .u8 0, .int .u8 0, .int .u64 0] from by
    rw [← HV16.out]
    exact hk)
  clear hk hgk hzk qN
  go_wp2_with ((with_reducible refine at_slot 81 ?_); refine Classical.byContradiction (fun hG => ?_))
  refine hG ?_
  clear hG
  obtain ⟨q17, hq17⟩ : ∃ q : Nr, q = (⟨(13, 0), fun i => [(0, 0), (0, 0), (0, 0), (0, 0), (0, 0), (0, 0)].getD i (0, 0), fun i => [(0, 0), (0, 0), (0, 0), (0, 0)].getD i (0, 0), 0, 0⟩ : Nr) := ⟨_, rfl⟩
  have HQ17 := Lib.hid (show deed q17 = [(6, (13, 1))] from by
    subst hq17
    decide)
  have HV17 := Lib.hid (show vals q17 = [.int .u8 13, .int .u8 0, .int .u8 0, .int .u8 0, .int .u8 0, .int .u8 0, .int .u8 0, .int .u8 0, .int .u8 0, .int .u8 0, .int .u8 0, .int .u8 0, .int .u8 0, .int .u8 0, .int .u8 0, .int .u8 0, .int .u8 0, .int .u8 0, .int .u8 0, .int .u8 0, .int .u8 0, .int .u8 0, .int .u8 0, .int .u64 0] from by
    subst hq17
    rfl)
  clear hq17
  refine wp_loadN rfl (.tmp 12) rfl rfl (n := q17) (by rw [HV17.out]; exact Hs16.out) ?_
  go_wp2_with fail
  refine (Next_c (HT.out.below HB16.out)).mono ?_
  rintro e w17 ⟨v, rfl, ho, hbq⟩
  rw [HQ17.out] at ho
  obtain ⟨A13, c13, rfl, _, _, hA⟩ := ho.form (n := 1) rfl
  obtain ⟨g13, rfl, hg1, hg2⟩ := hA (by omega)
  obtain ⟨us13, hr13, hu⟩ := own_blk ho
  have HU13 := Lib.hid (show us13[0]? = some (.int .i64 6) ∧ us13[1]? = some (.int .u8 13) ∧ us13[2]? = some (.int .u8 1) from ⟨hu 0 0 _ _ rfl rfl, hu 0 1 _ _ rfl rfl, hu 0 2 _ _ rfl rfl⟩)
  have lst := Hst16.out.lt
  have ls := Hs16.out.lt
  have zi := HB16.out.size
  have HNr13 := Lib.hid (show w.heap.size ≤ g13 ∧ b2 < g13 ∧ bs < g13 from ⟨by omega, by omega, by omega⟩)
  clear zi lst ls
  have HB17 := Lib.hid (below_t HB16.out hbq)
  have Hst17 := Lib.hid (Hst16.out.below hbq)
  have Hs17 := Lib.hid (Hs16.out.below hbq)
  clear hbq
  have Hr1317 := Lib.hid hr13
  clear ho hA hu hg1 hr13
  obtain ⟨b13, hb13⟩ : ∃ b, w17.heap.size = b := ⟨_, rfl⟩
  have lst := Hst17.out.lt
  have ls := Hs17.out.lt
  have lr13 := Hr1317.out.lt
  have zi := HB17.out.size
  have HNd13 := Lib.hid (show w.heap.size ≤ b13 ∧ b2 < b13 ∧ bs < b13 ∧ g13 < b13 from ⟨by omega, by omega, by omega, by omega⟩)
  clear zi lst ls lr13
  go_wp2_with fail
  refine calls_named (S := fun W => Below w.heap.size w W ∧ Blk W b2 TC [.int .u8 2, .int .u8 0] ∧ Blk W bs TN [.int .u8 13, .int .u8 0, .int .u8 0, .int .u8 0, .int .u8 0, .int .u8 0, .int .u8 0, .int .u8 0, .int .u8 0, .int .u8 0, .int .u8 0, .int .u8 0, .int .u8 0, .int .u8 0, .int .u8 0, .int .u8 0, .int .u8 0, .int .u8 0, .int .u8 0, .int .u8 0, .int .u8 0, .int .u8 0, .int .u8 0, .int .u64 0] ∧ Blk W g13 TX us13 ∧ Blk W b13 TD [.slice (some ⟨g13, 0, none⟩) 1 c13, .int .i64 0, .int .i64 0]) ⟨by
    have zz := HB17.out.size
    have qHW2 := HW2.out
    have qHNs := HNs.out
    have qHNr13 := HNr13.out
    have qHNd13 := HNd13.out
    (repeat' (first | (with_reducible exact Below.refl _ _) | (with_reducible refine Below.setCell ?_ (by (first | omega | (simp; done) | (simp; omega))) _) | (with_reducible refine Below.alloc ?_ (by (first | omega | (simp; done) | (simp; omega))) _) | (with_reducible refine Below.drew ?_) | (with_reducible refine below_drewN ?_ _) | (with_reducible refine Below.trans ?_ (Below.mono HB17.out (by (first | omega | (simp; done) | (simp; omega))))))), by
    have qHW2 := HW2.out
    have qHNs := HNs.out
    have qHNr13 := HNr13.out
    have qHNd13 := HNd13.out
    have zl := Hst17.out.lt
    (repeat' (first | (with_reducible exact Hst17.out) | (with_reducible refine BlkP.Blk.drew ?_) | (with_reducible refine BlkP.Blk.drewN ?_ _) | (with_reducible refine BlkP.Blk.setAt (us := ?_) (by first | omega | (simp; done) | (simp; omega)) rfl ?_ ?_) | (with_reducible refine BlkP.Blk.otherAt ?_ (by first | omega | (simp; done) | (simp; omega))) | (with_reducible refine BlkP.Blk.newA' (by first | omega | (simp; done) | (simp; omega)) rfl) | (with_reducible refine BlkP.Blk.alloc ?_ _) | (exact rfl))), by
    have qHW2 := HW2.out
    have qHNs := HNs.out
    have qHNr13 := HNr13.out
    have qHNd13 := HNd13.out
    have zl := Hs17.out.lt
    (repeat' (first | (with_reducible exact Hs17.out) | (with_reducible refine BlkP.Blk.drew ?_) | (with_reducible refine BlkP.Blk.drewN ?_ _) | (with_reducible refine BlkP.Blk.setAt (us := ?_) (by first | omega | (simp; done) | (simp; omega)) rfl ?_ ?_) | (with_reducible refine BlkP.Blk.otherAt ?_ (by first | omega | (simp; done) | (simp; omega))) | (with_reducible refine BlkP.Blk.newA' (by first | omega | (simp; done) | (simp; omega)) rfl) | (with_reducible refine BlkP.Blk.alloc ?_ _) | (exact rfl))), by
    have qHW2 := HW2.out
    have qHNs := HNs.out
    have qHNr13 := HNr13.out
    have qHNd13 := HNd13.out
    have zl := Hr1317.out.lt
    (repeat' (first | (with_reducible exact Hr1317.out) | (with_reducible refine BlkP.Blk.drew ?_) | (with_reducible refine BlkP.Blk.drewN ?_ _) | (with_reducible refine BlkP.Blk.setAt (us := ?_) (by first | omega | (simp; done) | (simp; omega)) rfl ?_ ?_) | (with_reducible refine BlkP.Blk.otherAt ?_ (by first | omega | (simp; done) | (simp; omega))) | (with_reducible refine BlkP.Blk.newA' (by first | omega | (simp; done) | (simp; omega)) rfl) | (with_reducible refine BlkP.Blk.alloc ?_ _) | (exact rfl))), by
    subst hb13
    (repeat' (first | (with_reducible refine BlkP.Blk.drew ?_) | (with_reducible refine BlkP.Blk.drewN ?_ _) | (with_reducible refine BlkP.Blk.setAt (us := ?_) (by first | omega | (simp; done) | (simp; omega)) rfl ?_ ?_) | (with_reducible refine BlkP.Blk.otherAt ?_ (by first | omega | (simp; done) | (simp; omega))) | (with_reducible refine BlkP.Blk.newA' (by first | omega | (simp; done) | (simp; omega)) rfl) | (with_reducible refine BlkP.Blk.alloc ?_ _) | (exact rfl)))⟩ ?_
  rintro w18 ⟨hbx, hxst, hxs, hxr13, hxd13⟩
  try rw [hb13]
  have HB18 := Lib.hid hbx
  have Hst18 := Lib.hid hxst
  have Hs18 := Lib.hid hxs
  have Hr1318 := Lib.hid hxr13
  have Hd1318 := Lib.hid hxd13
  clear hbx hxst hxs hxr13 hxd13
  clear hb13
  refine (wk_c (l := 1)).mono ?_
  rintro e w19 ⟨rfl, hbq⟩
  have HB19 := Lib.hid (below_t HB18.out hbq)
  have Hst19 := Lib.hid (Hst18.out.below hbq)
  have Hs19 := Lib.hid (Hs18.out.below hbq)
  have Hr1319 := Lib.hid (Hr1318.out.below hbq)
  have Hd1319 := Lib.hid (Hd1318.out.below hbq)
  clear hbq
  have m12 : w19.cell? ⟨bs, 12, none⟩ = some (.int .u8 0) := Hs19.out.cell rfl
  have f12 := Hs19.out.frozen 12
  have m13 : w19.cell? ⟨bs, 13, none⟩ = some (.int .u8 0) := Hs19.out.cell rfl
  have f13 := Hs19.out.frozen 13
  go_wp2_with ((with_reducible refine at_slot 87 ?_); refine Classical.byContradiction (fun hG => ?_))
  refine hG ?_
  clear hG
  refine list_named (S := fun W => Below w.heap.size w W ∧ Blk W b2 TC [.int .u8 2, .int .u8 0] ∧ Blk W bs TN [.int .u8 13, .int .u8 0, .int .u8 0, .int .u8 0, .int .u8 0, .int .u8 0, .int .u8 0, .int .u8 0, .int .u8 0, .int .u8 0, .int .u8 0, .int .u8 0, .int .u8 13, .int .u8 1, .int .u8 0, .int .u8 0, .int .u8 0, .int .u8 0, .int .u8 0, .int .u8 0, .int .u8 0, .int .u8 0, .int .u8 0, .int .u64 0] ∧ Blk W g13 TX us13 ∧ Blk W b13 TD [.slice (some ⟨g13, 0, none⟩) 1 c13, .int .i64 0, .int .i64 0]) ⟨by
    have zz := HB19.out.size
    have qHW2 := HW2.out
    have qHNs := HNs.out
    have qHNr13 := HNr13.out
    have qHNd13 := HNd13.out
    (repeat' (first | (with_reducible exact Below.refl _ _) | (with_reducible refine Below.setCell ?_ (by (first | omega | (simp; done) | (simp; omega))) _) | (with_reducible refine Below.alloc ?_ (by (first | omega | (simp; done) | (simp; omega))) _) | (with_reducible refine Below.drew ?_) | (with_reducible refine below_drewN ?_ _) | (with_reducible refine Below.trans ?_ (Below.mono HB19.out (by (first | omega | (simp; done) | (simp; omega))))))), by
    have qHW2 := HW2.out
    have qHNs := HNs.out
    have qHNr13 := HNr13.out
    have qHNd13 := HNd13.out
    have zl := Hst19.out.lt
    (repeat' (first | (with_reducible exact Hst19.out) | (with_reducible refine BlkP.Blk.drew ?_) | (with_reducible refine BlkP.Blk.drewN ?_ _) | (with_reducible refine BlkP.Blk.setAt (us := ?_) (by first | omega | (simp; done) | (simp; omega)) rfl ?_ ?_) | (with_reducible refine BlkP.Blk.otherAt ?_ (by first | omega | (simp; done) | (simp; omega))) | (with_reducible refine BlkP.Blk.newA' (by first | omega | (simp; done) | (simp; omega)) rfl) | (with_reducible refine BlkP.Blk.alloc ?_ _) | (exact rfl))), by
    have qHW2 := HW2.out
    have qHNs := HNs.out
    have qHNr13 := HNr13.out
    have qHNd13 := HNd13.out
    have zl := Hs19.out.lt
    (repeat' (first | (with_reducible exact Hs19.out) | (with_reducible refine BlkP.Blk.drew ?_) | (with_reducible refine BlkP.Blk.drewN ?_ _) | (with_reducible refine BlkP.Blk.setAt (us := ?_) (by first | omega | (simp; done) | (simp; omega)) rfl ?_ ?_) | (with_reducible refine BlkP.Blk.otherAt ?_ (by first | omega | (simp; done) | (simp; omega))) | (with_reducible refine BlkP.Blk.newA' (by first | omega | (simp; done) | (simp; omega)) rfl) | (with_reducible refine BlkP.Blk.alloc ?_ _) | (exact rfl))), by
    have qHW2 := HW2.out
    have qHNs := HNs.out
    have qHNr13 := HNr13.out
    have qHNd13 := HNd13.out
    have zl := Hr1319.out.lt
    (repeat' (first | (with_reducible exact Hr1319.out) | (with_reducible refine BlkP.Blk.drew ?_) | (with_reducible refine BlkP.Blk.drewN ?_ _) | (with_reducible refine BlkP.Blk.setAt (us := ?_) (by first | omega | (simp; done) | (simp; omega)) rfl ?_ ?_) | (with_reducible refine BlkP.Blk.otherAt ?_ (by first | omega | (simp; done) | (simp; omega))) | (with_reducible refine BlkP.Blk.newA' (by first | omega | (simp; done) | (simp; omega)) rfl) | (with_reducible refine BlkP.Blk.alloc ?_ _) | (exact rfl))), by
    have qHW2 := HW2.out
    have qHNs := HNs.out
    have qHNr13 := HNr13.out
    have qHNd13 := HNd13.out
    have zl := Hd1319.out.lt
    (repeat' (first | (with_reducible exact Hd1319.out) | (with_reducible refine BlkP.Blk.drew ?_) | (with_reducible refine BlkP.Blk.drewN ?_ _) | (with_reducible refine BlkP.Blk.setAt (us := ?_) (by first | omega | (simp; done) | (simp; omega)) rfl ?_ ?_) | (with_reducible refine BlkP.Blk.otherAt ?_ (by first | omega | (simp; done) | (simp; omega))) | (with_reducible refine BlkP.Blk.newA' (by first | omega | (simp; done) | (simp; omega)) rfl) | (with_reducible refine BlkP.Blk.alloc ?_ _) | (exact rfl)))⟩ ?_
  rintro w20 ⟨hbx, hxst, hxs, hxr13, hxd13⟩
  have HB20 := Lib.hid hbx
  have Hst20 := Lib.hid hxst
  have Hs20 := Lib.hid hxs
  have Hr1320 := Lib.hid hxr13
  have Hd1320 := Lib.hid hxd13
  clear hbx hxst hxs hxr13 hxd13
  clear m12 m13 f12 f13
  obtain ⟨q21, hq21⟩ : ∃ q : Nr, q = (⟨(13, 0), fun i => [(0, 0), (0, 0), (0, 0), (0, 0), (0, 0), (13, 1)].getD i (0, 0), fun i => [(0, 0), (0, 0), (0, 0), (0, 0)].getD i (0, 0), 0, 0⟩ : Nr) := ⟨_, rfl⟩
  have HQ21 := Lib.hid (show deed q21 = [] from by
    subst hq21
    decide)
  have HV21 := Lib.hid (show vals q21 = [.int .u8 13, .int .u8 0, .int .u8 0, .int .u8 0, .int .u8 0, .int .u8 0, .int .u8 0, .int .u8 0, .int .u8 0, .int .u8 0, .int .u8 0, .int .u8 0, .int .u8 13, .int .u8 1, .int .u8 0, .int .u8 0, .int .u8 0, .int .u8 0, .int .u8 0, .int .u8 0, .int .u8 0, .int .u8 0, .int .u8 0, .int .u64 0] from by
    subst hq21
    rfl)
  clear hq21
  refine wp_loadN rfl (.tmp 12) rfl rfl (n := q21) (by rw [HV21.out]; exact Hs20.out) ?_
  go_wp2_with fail
  refine (Next_c (HT.out.below HB20.out)).mono ?_
  rintro e w21 ⟨v, rfl, ho, hbq⟩
  rw [HQ21.out] at ho
  obtain ⟨A14, c14, rfl, _, _, hA⟩ := ho.form (n := 0) rfl
  have HB21 := Lib.hid (below_t HB20.out hbq)
  have Hst21 := Lib.hid (Hst20.out.below hbq)
  have Hs21 := Lib.hid (Hs20.out.below hbq)
  have Hr1321 := Lib.hid (Hr1320.out.below hbq)
  have Hd1321 := Lib.hid (Hd1320.out.below hbq)
  clear hbq
  clear ho hA
  obtain ⟨b14, hb14⟩ : ∃ b, w21.heap.size = b := ⟨_, rfl⟩
  have lst := Hst21.out.lt
  have ls := Hs21.out.lt
  have lr13 := Hr1321.out.lt
  have ld13 := Hd1321.out.lt
  have zi := HB21.out.size
  have HNd14 := Lib.hid (show w.heap.size ≤ b14 ∧ b2 < b14 ∧ bs < b14 ∧ g13 < b14 ∧ b13 < b14 from ⟨by omega, by omega, by omega, by omega, by omega⟩)
  clear zi lst ls lr13 ld13
  go_wp2_with ((with_reducible refine at_slot 89 ?_); refine Classical.byContradiction (fun hG => ?_))
  refine hG ?_
  clear hG
  refine list_named (S := fun W => Below w.heap.size w W ∧ Blk W b2 TC [.int .u8 2, .int .u8 0] ∧ Blk W bs TN [.int .u8 13, .int .u8 0, .int .u8 0, .int .u8 0, .int .u8 0, .int .u8 0, .int .u8 0, .int .u8 0, .int .u8 0, .int .u8 0, .int .u8 0, .int .u8 0, .int .u8 13, .int .u8 1, .int .u8 0, .int .u8 0, .int .u8 0, .int .u8 0, .int .u8 0, .int .u8 0, .int .u8 0, .int .u8 0, .int .u8 0, .int .u64 0] ∧ Blk W g13 TX us13 ∧ Blk W b13 TD [.slice (some ⟨g13, 0, none⟩) 1 c13, .int .i64 0, .int .i64 0] ∧ Blk W b14 TD [.slice A14 0 c14, .int .i64 0, .int .i64 0]) ⟨by
    have zz := HB21.out.size
    have qHW2 := HW2.out
    have qHNs := HNs.out
    have qHNr13 := HNr13.out
    have qHNd13 := HNd13.out
    have qHNd14 := HNd14.out
    (repeat' (first | (with_reducible exact Below.refl _ _) | (with_reducible refine Below.setCell ?_ (by (first | omega | (simp; done) | (simp; omega))) _) | (with_reducible refine Below.alloc ?_ (by (first | omega | (simp; done) | (simp; omega))) _) | (with_reducible refine Below.drew ?_) | (with_reducible refine below_drewN ?_ _) | (with_reducible refine Below.trans ?_ (Below.mono HB21.out (by (first | omega | (simp; done) | (simp; omega))))))), by
    have qHW2 := HW2.out
    have qHNs := HNs.out
    have qHNr13 := HNr13.out
    have qHNd13 := HNd13.out
    have qHNd14 := HNd14.out
    have zl := Hst21.out.lt
    (repeat' (first | (with_reducible exact Hst21.out) | (with_reducible refine BlkP.Blk.drew ?_) | (with_reducible refine BlkP.Blk.drewN ?_ _) | (with_reducible refine BlkP.Blk.setAt (us := ?_) (by first | omega | (simp; done) | (simp; omega)) rfl ?_ ?_) | (with_reducible refine BlkP.Blk.otherAt ?_ (by first | omega | (simp; done) | (simp; omega))) | (with_reducible refine BlkP.Blk.newA' (by first | omega | (simp; done) | (simp; omega)) rfl) | (with_reducible refine BlkP.Blk.alloc ?_ _) | (exact rfl))), by
    have qHW2 := HW2.out
    have qHNs := HNs.out
    have qHNr13 := HNr13.out
    have qHNd13 := HNd13.out
    have qHNd14 := HNd14.out
    have zl := Hs21.out.lt
    (repeat' (first | (with_reducible exact Hs21.out) | (with_reducible refine BlkP.Blk.drew ?_) | (with_reducible refine BlkP.Blk.drewN ?_ _) | (with_reducible refine BlkP.Blk.setAt (us := ?_) (by first | omega | (simp; done) | (simp; omega)) rfl ?_ ?_) | (with_reducible refine BlkP.Blk.otherAt ?_ (by first | omega | (simp; done) | (simp; omega))) | (with_reducible refine BlkP.Blk.newA' (by first | omega | (simp; done) | (simp; omega)) rfl) | (with_reducible refine BlkP.Blk.alloc ?_ _) | (exact rfl))), by
    have qHW2 := HW2.out
    have qHNs := HNs.out
    have qHNr13 := HNr13.out
    have qHNd13 := HNd13.out
    have qHNd14 := HNd14.out
    have zl := Hr1321.out.lt
    (repeat' (first | (with_reducible exact Hr1321.out) | (with_reducible refine BlkP.Blk.drew ?_) | (with_reducible refine BlkP.Blk.drewN ?_ _) | (with_reducible refine BlkP.Blk.setAt (us := ?_) (by first | omega | (simp; done) | (simp; omega)) rfl ?_ ?_) | (with_reducible refine BlkP.Blk.otherAt ?_ (by first | omega | (simp; done) | (simp; omega))) | (with_reducible refine BlkP.Blk.newA' (by first | omega | (simp; done) | (simp; omega)) rfl) | (with_reducible refine BlkP.Blk.alloc ?_ _) | (exact rfl))), by
    have qHW2 := HW2.out
    have qHNs := HNs.out
    have qHNr13 := HNr13.out
    have qHNd13 := HNd13.out
    have qHNd14 := HNd14.out
    have zl := Hd1321.out.lt
    (repeat' (first | (with_reducible exact Hd1321.out) | (with_reducible refine BlkP.Blk.drew ?_) | (with_reducible refine BlkP.Blk.drewN ?_ _) | (with_reducible refine BlkP.Blk.setAt (us := ?_) (by first | omega | (simp; done) | (simp; omega)) rfl ?_ ?_) | (with_reducible refine BlkP.Blk.otherAt ?_ (by first | omega | (simp; done) | (simp; omega))) | (with_reducible refine BlkP.Blk.newA' (by first | omega | (simp; done) | (simp; omega)) rfl) | (with_reducible refine BlkP.Blk.alloc ?_ _) | (exact rfl))), by
    subst hb14
    (repeat' (first | (with_reducible refine BlkP.Blk.drew ?_) | (with_reducible refine BlkP.Blk.drewN ?_ _) | (with_reducible refine BlkP.Blk.setAt (us := ?_) (by first | omega | (simp; done) | (simp; omega)) rfl ?_ ?_) | (with_reducible refine BlkP.Blk.otherAt ?_ (by first | omega | (simp; done) | (simp; omega))) | (with_reducible refine BlkP.Blk.newA' (by first | omega | (simp; done) | (simp; omega)) rfl) | (with_reducible refine BlkP.Blk.alloc ?_ _) | (exact rfl)))⟩ ?_
  rintro w22 ⟨hbx, hxst, hxs, hxr13, hxd13, hxd14⟩
  try rw [hb14]
  have HB22 := Lib.hid hbx
  have Hst22 := Lib.hid hxst
  have Hs22 := Lib.hid hxs
  have Hr1322 := Lib.hid hxr13
  have Hd1322 := Lib.hid hxd13
  have Hd1422 := Lib.hid hxd14
  clear hbx hxst hxs hxr13 hxd13 hxd14
  clear hb14
  have s0 : w22.cell? ⟨b2, 0, none⟩ = some (.int .u8 2) := Hst22.out.cell rfl
  have s1 : w22.cell? ⟨b2, 1, none⟩ = some (.int .u8 0) := Hst22.out.cell rfl
  have m12 : w22.cell? ⟨bs, 12, none⟩ = some (.int .u8 13) := Hs22.out.cell rfl
  have f12 := Hs22.out.frozen 12
  have m13 : w22.cell? ⟨bs, 13, none⟩ = some (.int .u8 1) := Hs22.out.cell rfl
  have f13 := Hs22.out.frozen 13
  go_wp2_with ((with_reducible refine at_slot 92 ?_); refine Classical.byContradiction (fun hG => ?_))
  refine hG ?_
  clear hG
  refine list_named (S := fun W => Below w.heap.size w W ∧ Blk W b2 TC [.int .u8 2, .int .u8 0] ∧ Blk W bs TN [.int .u8 13, .int .u8 0, .int .u8 0, .int .u8 0, .int .u8 0, .int .u8 0, .int .u8 0, .int .u8 0, .int .u8 0, .int .u8 0, .int .u8 0, .int .u8 0, .int .u8 2, .int .u8 0, .int .u8 0, .int .u8 0, .int .u8 0, .int .u8 0, .int .u8 0, .int .u8 0, .int .u8 0, .int .u8 0, .int .u8 0, .int .u64 0] ∧ Blk W g13 TX us13 ∧ Blk W b13 TD [.slice (some ⟨g13, 0, none⟩) 1 c13, .int .i64 0, .int .i64 0] ∧ Blk W b14 TD [.slice A14 0 c14, .int .i64 0, .int .i64 0]) ⟨by
    have zz := HB22.out.size
    have qHW2 := HW2.out
    have qHNs := HNs.out
    have qHNr13 := HNr13.out
    have qHNd13 := HNd13.out
    have qHNd14 := HNd14.out
    (repeat' (first | (with_reducible exact Below.refl _ _) | (with_reducible refine Below.setCell ?_ (by (first | omega | (simp; done) | (simp; omega))) _) | (with_reducible refine Below.alloc ?_ (by (first | omega | (simp; done) | (simp; omega))) _) | (with_reducible refine Below.drew ?_) | (with_reducible refine below_drewN ?_ _) | (with_reducible refine Below.trans ?_ (Below.mono HB22.out (by (first | omega | (simp; done) | (simp; omega))))))), by
    have qHW2 := HW2.out
    have qHNs := HNs.out
    have qHNr13 := HNr13.out
    have qHNd13 := HNd13.out
    have qHNd14 := HNd14.out
    have zl := Hst22.out.lt
    (repeat' (first | (with_reducible exact Hst22.out) | (with_reducible refine BlkP.Blk.drew ?_) | (with_reducible refine BlkP.Blk.drewN ?_ _) | (with_reducible refine BlkP.Blk.setAt (us := ?_) (by first | omega | (simp; done) | (simp; omega)) rfl ?_ ?_) | (with_reducible refine BlkP.Blk.otherAt ?_ (by first | omega | (simp; done) | (simp; omega))) | (with_reducible refine BlkP.Blk.newA' (by first | omega | (simp; done) | (simp; omega)) rfl) | (with_reducible refine BlkP.Blk.alloc ?_ _) | (exact rfl))), by
    have qHW2 := HW2.out
    have qHNs := HNs.out
    have qHNr13 := HNr13.out
    have qHNd13 := HNd13.out
    have qHNd14 := HNd14.out
    have zl := Hs22.out.lt
    (repeat' (first | (with_reducible exact Hs22.out) | (with_reducible refine BlkP.Blk.drew ?_) | (with_reducible refine BlkP.Blk.drewN ?_ _) | (with_reducible refine BlkP.Blk.setAt (us := ?_) (by first | omega | (simp; done) | (simp; omega)) rfl ?_ ?_) | (with_reducible refine BlkP.Blk.otherAt ?_ (by first | omega | (simp; done) | (simp; omega))) | (with_reducible refine BlkP.Blk.newA' (by first | omega | (simp; done) | (simp; omega)) rfl) | (with_reducible refine BlkP.Blk.alloc ?_ _) | (exact rfl))), by
    have qHW2 := HW2.out
    have qHNs := HNs.out
    have qHNr13 := HNr13.out
    have qHNd13 := HNd13.out
    have qHNd14 := HNd14.out
    have zl := Hr1322.out.lt
    (repeat' (first | (with_reducible exact Hr1322.out) | (with_reducible refine BlkP.Blk.drew ?_) | (with_reducible refine BlkP.Blk.drewN ?_ _) | (with_reducible refine BlkP.Blk.setAt (us := ?_) (by first | omega | (simp; done) | (simp; omega)) rfl ?_ ?_) | (with_reducible refine BlkP.Blk.otherAt ?_ (by first | omega | (simp; done) | (simp; omega))) | (with_reducible refine BlkP.Blk.newA' (by first | omega | (simp; done) | (simp; omega)) rfl) | (with_reducible refine BlkP.Blk.alloc ?_ _) | (exact rfl))), by
    have qHW2 := HW2.out
    have qHNs := HNs.out
    have qHNr13 := HNr13.out
    have qHNd13 := HNd13.out
    have qHNd14 := HNd14.out
    have zl := Hd1322.out.lt
    (repeat' (first | (with_reducible exact Hd1322.out) | (with_reducible refine BlkP.Blk.drew ?_) | (with_reducible refine BlkP.Blk.drewN ?_ _) | (with_reducible refine BlkP.Blk.setAt (us := ?_) (by first | omega | (simp; done) | (simp; omega)) rfl ?_ ?_) | (with_reducible refine BlkP.Blk.otherAt ?_ (by first | omega | (simp; done) | (simp; omega))) | (with_reducible refine BlkP.Blk.newA' (by first | omega | (simp; done) | (simp; omega)) rfl) | (with_reducible refine BlkP.Blk.alloc ?_ _) | (exact rfl))), by
    have qHW2 := HW2.out
    have qHNs := HNs.out
    have qHNr13 := HNr13.out
    have qHNd13 := HNd13.out
    have qHNd14 := HNd14.out
    have zl := Hd1422.out.lt
    (repeat' (first | (with_reducible exact Hd1422.out) | (with_reducible refine BlkP.Blk.drew ?_) | (with_reducible refine BlkP.Blk.drewN ?_ _) | (with_reducible refine BlkP.Blk.setAt (us := ?_) (by first | omega | (simp; done) | (simp; omega)) rfl ?_ ?_) | (with_reducible refine BlkP.Blk.otherAt ?_ (by first | omega | (simp; done) | (simp; omega))) | (with_reducible refine BlkP.Blk.newA' (by first | omega | (simp; done) | (simp; omega)) rfl) | (with_reducible refine BlkP.Blk.alloc ?_ _) | (exact rfl)))⟩ ?_
  rintro w23 ⟨hbx, hxst, hxs, hxr13, hxd13, hxd14⟩
  have HB23 := Lib.hid hbx
  have Hst23 := Lib.hid hxst
  have Hs23 := Lib.hid hxs
  have Hr1323 := Lib.hid hxr13
  have Hd1323 := Lib.hid hxd13
  have Hd1423 := Lib.hid hxd14
  clear hbx hxst hxs hxr13 hxd13 hxd14
  clear m12 m13 f12 f13 s0 s1
  obtain ⟨q24, hq24⟩ : ∃ q : Nr, q = (⟨(13, 0), fun i => [(0, 0), (0, 0), (0, 0), (0, 0), (0, 0), (2, 0)].getD i (0, 0), fun i => [(0, 0), (0, 0), (0, 0), (0, 0)].getD i (0, 0), 0, 0⟩ : Nr) := ⟨_, rfl⟩
  have HQ24 := Lib.hid (show deed q24 = [(1, (13, 1)), (2, (13, 1)), (3, (13, 1)), (4, (13, 1))] from by
    subst hq24
    decide)
  have HV24 := Lib.hid (show vals q24 = [.int .u8 13, .int .u8 0, .int .u8 0, .int .u8 0, .int .u8 0, .int .u8 0, .int .u8 0, .int .u8 0, .int .u8 0, .int .u8 0, .int .u8 0, .int .u8 0, .int .u8 2, .int .u8 0, .int .u8 0, .int .u8 0, .int .u8 0, .int .u8 0, .int .u8 0, .int .u8 0, .int .u8 0, .int .u8 0, .int .u8 0, .int .u64 0] from by
    subst hq24
    rfl)
  clear hq24
  refine wp_loadN rfl (.tmp 12) rfl rfl (n := q24) (by rw [HV24.out]; exact Hs23.out) ?_
  go_wp2_with fail
  refine (Next_c (HT.out.below HB23.out)).mono ?_
  rintro e w24 ⟨v, rfl, ho, hbq⟩
  rw [HQ24.out] at ho
  obtain ⟨A15, c15, rfl, _, _, hA⟩ := ho.form (n := 4) rfl
  obtain ⟨g15, rfl, hg1, hg2⟩ := hA (by omega)
  obtain ⟨us15, hr15, hu⟩ := own_blk ho
  have HU15 := Lib.hid (show us15[0]? = some (.int .i64 1) ∧ us15[1]? = some (.int .u8 13) ∧ us15[2]? = some (.int .u8 1) ∧ us15[3]? = some (.int .i64 2) ∧ us15[4]? = some (.int .u8 13) ∧ us15[5]? = some (.int .u8 1) ∧ us15[6]? = some (.int .i64 3) ∧ us15[7]? = some (.int .u8 13) ∧ us15[8]? = some (.int .u8 1) ∧ us15[9]? = some (.int .i64 4) ∧ us15[10]? = some (.int .u8 13) ∧ us15[11]? = some (.int .u8 1) from ⟨hu 0 0 _ _ rfl rfl, hu 0 1 _ _ rfl rfl, hu 0 2 _ _ rfl rfl, hu 1 0 _ _ rfl rfl, hu 1 1 _ _ rfl rfl, hu 1 2 _ _ rfl rfl, hu 2 0 _ _ rfl rfl, hu 2 1 _ _ rfl rfl, hu 2 2 _ _ rfl rfl, hu 3 0 _ _ rfl rfl, hu 3 1 _ _ rfl rfl, hu 3 2 _ _ rfl rfl⟩)
  have lst := Hst23.out.lt
  have ls := Hs23.out.lt
  have lr13 := Hr1323.out.lt
  have ld13 := Hd1323.out.lt
  have ld14 := Hd1423.out.lt
  have zi := HB23.out.size
  have HNr15 := Lib.hid (show w.heap.size ≤ g15 ∧ b2 < g15 ∧ bs < g15 ∧ g13 < g15 ∧ b13 < g15 ∧ b14 < g15 from ⟨by omega, by omega, by omega, by omega, by omega, by omega⟩)
  clear zi lst ls lr13 ld13 ld14
  have HB24 := Lib.hid (below_t HB23.out hbq)
  have Hst24 := Lib.hid (Hst23.out.below hbq)
  have Hs24 := Lib.hid (Hs23.out.below hbq)
  have Hr1324 := Lib.hid (Hr1323.out.below hbq)
  have Hd1324 := Lib.hid (Hd1323.out.below hbq)
  have Hd1424 := Lib.hid (Hd1423.out.below hbq)
  clear hbq
  have Hr1524 := Lib.hid hr15
  clear ho hA hu hg1 hr15
  obtain ⟨b15, hb15⟩ : ∃ b, w24.heap.size = b := ⟨_, rfl⟩
  have lst := Hst24.out.lt
  have ls := Hs24.out.lt
  have lr13 := Hr1324.out.lt
  have ld13 := Hd1324.out.lt
  have ld14 := Hd1424.out.lt
  have lr15 := Hr1524.out.lt
  have zi := HB24.out.size
  have HNd15 := Lib.hid (show w.heap.size ≤ b15 ∧ b2 < b15 ∧ bs < b15 ∧ g13 < b15 ∧ b13 < b15 ∧ b14 < b15 ∧ g15 < b15 from ⟨by omega, by omega, by omega, by omega, by omega, by omega, by omega⟩)
  clear zi lst ls lr13 ld13 ld14 lr15
  go_wp2_with fail
  refine HeldP.wp_named (S := fun W => Below w.heap.size w W ∧ Blk W b2 TC [.int .u8 2, .int .u8 0] ∧ Blk W bs TN [.int .u8 13, .int .u8 0, .int .u8 0, .int .u8 0, .int .u8 0, .int .u8 0, .int .u8 0, .int .u8 0, .int .u8 0, .int .u8 0, .int .u8 0, .int .u8 0, .int .u8 2, .int .u8 0, .int .u8 0, .int .u8 0, .int .u8 0, .int .u8 0, .int .u8 0, .int .u8 0, .int .u8 0, .int .u8 0, .int .u8 0, .int .u64 0] ∧ Blk W g13 TX us13 ∧ Blk W b13 TD [.slice (some ⟨g13, 0, none⟩) 1 c13, .int .i64 0, .int .i64 0] ∧ Blk W b14 TD [.slice A14 0 c14, .int .i64 0, .int .i64 0] ∧ Blk W g15 TX us15 ∧ Blk W b15 TD [.slice (some ⟨g15, 0, none⟩) 4 c15, .int .i64 0, .int .i64 0]) ⟨by
    have zz := HB24.out.size
    have qHW2 := HW2.out
    have qHNs := HNs.out
    have qHNr13 := HNr13.out
    have qHNd13 := HNd13.out
    have qHNd14 := HNd14.out
    have qHNr15 := HNr15.out
    have qHNd15 := HNd15.out
    (repeat' (first | (with_reducible exact Below.refl _ _) | (with_reducible refine Below.setCell ?_ (by (first | omega | (simp; done) | (simp; omega))) _) | (with_reducible refine Below.alloc ?_ (by (first | omega | (simp; done) | (simp; omega))) _) | (with_reducible refine Below.drew ?_) | (with_reducible refine below_drewN ?_ _) | (with_reducible refine Below.trans ?_ (Below.mono HB24.out (by (first | omega | (simp; done) | (simp; omega))))))), by
    have qHW2 := HW2.out
    have qHNs := HNs.out
    have qHNr13 := HNr13.out
    have qHNd13 := HNd13.out
    have qHNd14 := HNd14.out
    have qHNr15 := HNr15.out
    have qHNd15 := HNd15.out
    have zl := Hst24.out.lt
    (repeat' (first | (with_reducible exact Hst24.out) | (with_reducible refine BlkP.Blk.drew ?_) | (with_reducible refine BlkP.Blk.drewN ?_ _) | (with_reducible refine BlkP.Blk.setAt (us := ?_) (by first | omega | (simp; done) | (simp; omega)) rfl ?_ ?_) | (with_reducible refine BlkP.Blk.otherAt ?_ (by first | omega | (simp; done) | (simp; omega))) | (with_reducible refine BlkP.Blk.newA' (by first | omega | (simp; done) | (simp; omega)) rfl) | (with_reducible refine BlkP.Blk.alloc ?_ _) | (exact rfl))), by
    have qHW2 := HW2.out
    have qHNs := HNs.out
    have qHNr13 := HNr13.out
    have qHNd13 := HNd13.out
    have qHNd14 := HNd14.out
    have qHNr15 := HNr15.out
    have qHNd15 := HNd15.out
    have zl := Hs24.out.lt
    (repeat' (first | (with_reducible exact Hs24.out) | (with_reducible refine BlkP.Blk.drew ?_) | (with_reducible refine BlkP.Blk.drewN ?_ _) | (with_reducible refine BlkP.Blk.setAt (us := ?_) (by first | omega | (simp; done) | (simp; omega)) rfl ?_ ?_) | (with_reducible refine BlkP.Blk.otherAt ?_ (by first | omega | (simp; done) | (simp; omega))) | (with_reducible refine BlkP.Blk.newA' (by first | omega | (simp; done) | (simp; omega)) rfl) | (with_reducible refine BlkP.Blk.alloc ?_ _) | (exact rfl))), by
    have qHW2 := HW2.out
    have qHNs := HNs.out
    have qHNr13 := HNr13.out
    have qHNd13 := HNd13.out
    have qHNd14 := HNd14.out
    have qHNr15 := HNr15.out
    have qHNd15 := HNd15.out
    have zl := Hr1324.out.lt
    (repeat' (first | (with_reducible exact Hr1324.out) | (with_reducible refine BlkP.Blk.drew ?_) | (with_reducible refine BlkP.Blk.drewN ?_ _) | (with_reducible refine BlkP.Blk.setAt (us := ?_) (by first | omega | (simp; done) | (simp; omega)) rfl ?_ ?_) | (with_reducible refine BlkP.Blk.otherAt ?_ (by first | omega | (simp; done) | (simp; omega))) | (with_reducible refine BlkP.Blk.newA' (by first | omega | (simp; done) | (simp; omega)) rfl) | (with_reducible refine BlkP.Blk.alloc ?_ _) | (exact rfl))), by
    have qHW2 := HW2.out
    have qHNs := HNs.out
    have qHNr13 := HNr13.out
    have qHNd13 := HNd13.out
    have qHNd14 := HNd14.out
    have qHNr15 := HNr15.out
    have qHNd15 := HNd15.out
    have zl := Hd1324.out.lt
    (repeat' (first | (with_reducible exact Hd1324.out) | (with_reducible refine BlkP.Blk.drew ?_) | (with_reducible refine BlkP.Blk.drewN ?_ _) | (with_reducible refine BlkP.Blk.setAt (us := ?_) (by first | omega | (simp; done) | (simp; omega)) rfl ?_ ?_) | (with_reducible refine BlkP.Blk.otherAt ?_ (by first | omega | (simp; done) | (simp; omega))) | (with_reducible refine BlkP.Blk.newA' (by first | omega | (simp; done) | (simp; omega)) rfl) | (with_reducible refine BlkP.Blk.alloc ?_ _) | (exact rfl))), by
    have qHW2 := HW2.out
    have qHNs := HNs.out
    have qHNr13 := HNr13.out
    have qHNd13 := HNd13.out
    have qHNd14 := HNd14.out
    have qHNr15 := HNr15.out
    have qHNd15 := HNd15.out
    have zl := Hd1424.out.lt
    (repeat' (first | (with_reducible exact Hd1424.out) | (with_reducible refine BlkP.Blk.drew ?_) | (with_reducible refine BlkP.Blk.drewN ?_ _) | (with_reducible refine BlkP.Blk.setAt (us := ?_) (by first | omega | (simp; done) | (simp; omega)) rfl ?_ ?_) | (with_reducible refine BlkP.Blk.otherAt ?_ (by first | omega | (simp; done) | (simp; omega))) | (with_reducible refine BlkP.Blk.newA' (by first | omega | (simp; done) | (simp; omega)) rfl) | (with_reducible refine BlkP.Blk.alloc ?_ _) | (exact rfl))), by
    have qHW2 := HW2.out
    have qHNs := HNs.out
    have qHNr13 := HNr13.out
    have qHNd13 := HNd13.out
    have qHNd14 := HNd14.out
    have qHNr15 := HNr15.out
    have qHNd15 := HNd15.out
    have zl := Hr1524.out.lt
    (repeat' (first | (with_reducible exact Hr1524.out) | (with_reducible refine BlkP.Blk.drew ?_) | (with_reducible refine BlkP.Blk.drewN ?_ _) | (with_reducible refine BlkP.Blk.setAt (us := ?_) (by first | omega | (simp; done) | (simp; omega)) rfl ?_ ?_) | (with_reducible refine BlkP.Blk.otherAt ?_ (by first | omega | (simp; done) | (simp; omega))) | (with_reducible refine BlkP.Blk.newA' (by first | omega | (simp; done) | (simp; omega)) rfl) | (with_reducible refine BlkP.Blk.alloc ?_ _) | (exact rfl))), by
    subst hb15
    (repeat' (first | (with_reducible refine BlkP.Blk.drew ?_) | (with_reducible refine BlkP.Blk.drewN ?_ _) | (with_reducible refine BlkP.Blk.setAt (us := ?_) (by first | omega | (simp; done) | (simp; omega)) rfl ?_ ?_) | (with_reducible refine BlkP.Blk.otherAt ?_ (by first | omega | (simp; done) | (simp; omega))) | (with_reducible refine BlkP.Blk.newA' (by first | omega | (simp; done) | (simp; omega)) rfl) | (with_reducible refine BlkP.Blk.alloc ?_ _) | (exact rfl)))⟩ ?_
  rintro w25 ⟨hbx, hxst, hxs, hxr13, hxd13, hxd14, hxr15, hxd15⟩
  try rw [hb15]
  have HB25 := Lib.hid hbx
  have Hst25 := Lib.hid hxst
  have Hs25 := Lib.hid hxs
  have Hr1325 := Lib.hid hxr13
  have Hd1325 := Lib.hid hxd13
  have Hd1425 := Lib.hid hxd14
  have Hr1525 := Lib.hid hxr15
  have Hd1525 := Lib.hid hxd15
  clear hbx hxst hxs hxr13 hxd13 hxd14 hxr15 hxd15
  clear hb15
  have p13 : w25.cell? ⟨b13, 0, none⟩ = some (.slice (some ⟨g13, 0, none⟩) 1 c13) := Hd1325.out.cell rfl
  have lp13 := Hd1325.out.lt
  have lr13 := Hr1325.out.lt
  have r13_0 : w25.cell? ⟨g13, 0, none⟩ = some (.int .i64 6) := Hr1325.out.cell HU13.out.1
  have r13_1 : w25.cell? ⟨g13, 1, none⟩ = some (.int .u8 13) := Hr1325.out.cell HU13.out.2.1
  have r13_2 : w25.cell? ⟨g13, 2, none⟩ = some (.int .u8 1) := Hr1325.out.cell HU13.out.2.2
  have p14 : w25.cell? ⟨b14, 0, none⟩ = some (.slice A14 0 c14) := Hd1425.out.cell rfl
  have lp14 := Hd1425.out.lt
  have p15 : w25.cell? ⟨b15, 0, none⟩ = some (.slice (some ⟨g15, 0, none⟩) 4 c15) := Hd1525.out.cell rfl
  have lp15 := Hd1525.out.lt
  have lr15 := Hr1525.out.lt
  have r15_0 : w25.cell? ⟨g15, 0, none⟩ = some (.int .i64 1) := Hr1525.out.cell HU15.out.1
  have r15_1 : w25.cell? ⟨g15, 1, none⟩ = some (.int .u8 13) := Hr1525.out.cell HU15.out.2.1
  have r15_2 : w25.cell? ⟨g15, 2, none⟩ = some (.int .u8 1) := Hr1525.out.cell HU15.out.2.2.1
  have r15_3 : w25.cell? ⟨g15, 3, none⟩ = some (.int .i64 2) := Hr1525.out.cell HU15.out.2.2.2.1
  have r15_4 : w25.cell? ⟨g15, 4, none⟩ = some (.int .u8 13) := Hr1525.out.cell HU15.out.2.2.2.2.1
  have r15_5 : w25.cell? ⟨g15, 5, none⟩ = some (.int .u8 1) := Hr1525.out.cell HU15.out.2.2.2.2.2.1
  have r15_6 : w25.cell? ⟨g15, 6, none⟩ = some (.int .i64 3) := Hr1525.out.cell HU15.out.2.2.2.2.2.2.1
  have r15_7 : w25.cell? ⟨g15, 7, none⟩ = some (.int .u8 13) := Hr1525.out.cell HU15.out.2.2.2.2.2.2.2.1
  have r15_8 : w25.cell? ⟨g15, 8, none⟩ = some (.int .u8 1) := Hr1525.out.cell HU15.out.2.2.2.2.2.2.2.2.1
  have r15_9 : w25.cell? ⟨g15, 9, none⟩ = some (.int .i64 4) := Hr1525.out.cell HU15.out.2.2.2.2.2.2.2.2.2.1
  have r15_10 : w25.cell? ⟨g15, 10, none⟩ = some (.int .u8 13) := Hr1525.out.cell HU15.out.2.2.2.2.2.2.2.2.2.2.1
  have r15_11 : w25.cell? ⟨g15, 11, none⟩ = some (.int .u8 1) := Hr1525.out.cell HU15.out.2.2.2.2.2.2.2.2.2.2.2
  refine wp_region_noPanic ?_
  refine wp_region_held_drew (S := fun W => Below w25.heap.size w25 W) (by kernel_rfl) ((Below.refl _ w25).drew) (fun hHeld => ?_)
  refine wpAnyH_take (i := 0) (oi := ⟨some 94, _, _, _, _, _⟩) (v := .pointer (some ⟨b13, 0, none⟩)) rfl (by kernel_rfl) (by kernel_rfl) (by kernel_rfl) (fun _ _ _ h => h) (Or.inl ⟨by rfl, fun W hSW => by go_simp⟩) hHeld ?_
  simp only [Act.put, List.setIfInBounds_toArray, List.set_cons_zero, List.set_cons_succ]
  refine wpAnyH_take (i := 1) (oi := ⟨some 95, _, _, _, _, _⟩) (v := .slice (some ⟨g13, 0, none⟩) 1 c13) rfl (by kernel_rfl) (by kernel_rfl) (by kernel_rfl) (fun _ _ _ h => h) (Or.inl ⟨by rfl, fun W hSW => by have a0 := (hSW.cell (p := ⟨b13, 0, none⟩) lp13).trans p13; go_simp⟩) hHeld ?_
  simp only [Act.put, List.setIfInBounds_toArray, List.set_cons_zero, List.set_cons_succ]
  refine wpAnyH_take (i := 2) (oi := ⟨some 96, _, _, _, _, _⟩) (v := .int .i64 1) rfl (by kernel_rfl) (by kernel_rfl) (by kernel_rfl) (fun _ _ _ h => h) (Or.inl ⟨by rfl, fun W hSW => by go_simp⟩) hHeld ?_
  simp only [Act.put, List.setIfInBounds_toArray, List.set_cons_zero, List.set_cons_succ]
  refine wpAnyH_take (i := 3) (oi := ⟨some 97, _, _, _, _, _⟩) (v := .bool false) rfl (by kernel_rfl) (by kernel_rfl) (by kernel_rfl) (fun _ _ _ h => h) (Or.inl ⟨by rfl, fun W hSW => by go_simp⟩) hHeld ?_
  simp only [Act.put, List.setIfInBounds_toArray, List.set_cons_zero, List.set_cons_succ]
  refine wpAnyH_take (i := 4) (oi := ⟨some 98, _, _, _, _, _⟩) (v := .bool false) rfl (by kernel_rfl) (by kernel_rfl) (by kernel_rfl) (fun _ _ _ h => h) (Or.inl ⟨by rfl, fun W hSW => by go_simp⟩) hHeld ?_
  simp only [Act.put, List.setIfInBounds_toArray, List.set_cons_zero, List.set_cons_succ]
  refine wpAnyH_take (i := 5) (oi := ⟨some 99, _, _, _, _, _⟩) (v := .pointer (some ⟨b13, 0, none⟩)) rfl (by kernel_rfl) (by kernel_rfl) (by kernel_rfl) (fun _ _ _ h => h) (Or.inl ⟨by rfl, fun W hSW => by go_simp⟩) hHeld ?_
  simp only [Act.put, List.setIfInBounds_toArray, List.set_cons_zero, List.set_cons_succ]
  refine wpAnyH_take (i := 6) (oi := ⟨some 100, _, _, _, _, _⟩) (v := .slice (some ⟨g13, 0, none⟩) 1 c13) rfl (by kernel_rfl) (by kernel_rfl) (by kernel_rfl) (fun _ _ _ h => h) (Or.inl ⟨by rfl, fun W hSW => by have a0 := (hSW.cell (p := ⟨b13, 0, none⟩) lp13).trans p13; go_simp⟩) hHeld ?_
  simp only [Act.put, List.setIfInBounds_toArray, List.set_cons_zero, List.set_cons_succ]
  refine wpAnyH_take (i := 7) (oi := ⟨some 101, _, _, _, _, _⟩) (v := .pointer (some ⟨g13, 0, none⟩)) rfl (by kernel_rfl) (by kernel_rfl) (by kernel_rfl) (fun _ _ _ h => h) (Or.inl ⟨by rfl, fun W hSW => by go_simp⟩) hHeld ?_
  simp only [Act.put, List.setIfInBounds_toArray, List.set_cons_zero, List.set_cons_succ]
  refine wpAnyH_take (i := 8) (oi := ⟨some 102, _, _, _, _, _⟩) (v := .pointer (some ⟨g13, 0, none⟩)) rfl (by kernel_rfl) (by kernel_rfl) (by kernel_rfl) (fun _ _ _ h => h) (Or.inl ⟨by rfl, fun W hSW => by go_simp⟩) hHeld ?_
  simp only [Act.put, List.setIfInBounds_toArray, List.set_cons_zero, List.set_cons_succ]
  refine wpAnyH_take (i := 9) (oi := ⟨some 103, _, _, _, _, _⟩) (v := .int .i64 6) rfl (by kernel_rfl) (by kernel_rfl) (by kernel_rfl) (fun _ _ _ h => h) (Or.inl ⟨by rfl, fun W hSW => by have a0 := (hSW.cell (p := ⟨g13, 0, none⟩) lr13).trans r13_0; go_simp⟩) hHeld ?_
  simp only [Act.put, List.setIfInBounds_toArray, List.set_cons_zero, List.set_cons_succ]
  refine wpAnyH_take (i := 10) (oi := ⟨some 104, _, _, _, _, _⟩) (v := .bool false) rfl (by kernel_rfl) (by kernel_rfl) (by kernel_rfl) (fun _ _ _ h => h) (Or.inl ⟨by rfl, fun W hSW => by go_simp⟩) hHeld ?_
  simp only [Act.put, List.setIfInBounds_toArray, List.set_cons_zero, List.set_cons_succ]
  refine wpAnyH_take (i := 11) (oi := ⟨some 105, _, _, _, _, _⟩) (v := .bool false) rfl (by kernel_rfl) (by kernel_rfl) (by kernel_rfl) (fun _ _ _ h => h) (Or.inl ⟨by rfl, fun W hSW => by go_simp⟩) hHeld ?_
  simp only [Act.put, List.setIfInBounds_toArray, List.set_cons_zero, List.set_cons_succ]
  refine wpAnyH_take (i := 12) (oi := ⟨some 106, _, _, _, _, _⟩) (v := .bool false) rfl (by kernel_rfl) (by kernel_rfl) (by kernel_rfl) (fun _ _ _ h => h) (Or.inl ⟨by rfl, fun W hSW => by go_simp⟩) hHeld ?_
  simp only [Act.put, List.setIfInBounds_toArray, List.set_cons_zero, List.set_cons_succ]
  refine wpAnyH_take (i := 13) (oi := ⟨some 107, _, _, _, _, _⟩) (v := .pointer (some ⟨b14, 0, none⟩)) rfl (by kernel_rfl) (by kernel_rfl) (by kernel_rfl) (fun _ _ _ h => h) (Or.inl ⟨by rfl, fun W hSW => by go_simp⟩) hHeld ?_
  simp only [Act.put, List.setIfInBounds_toArray, List.set_cons_zero, List.set_cons_succ]
  refine wpAnyH_take (i := 14) (oi := ⟨some 108, _, _, _, _, _⟩) (v := .slice A14 0 c14) rfl (by kernel_rfl) (by kernel_rfl) (by kernel_rfl) (fun _ _ _ h => h) (Or.inl ⟨by rfl, fun W hSW => by have a0 := (hSW.cell (p := ⟨b14, 0, none⟩) lp14).trans p14; go_simp⟩) hHeld ?_
  simp only [Act.put, List.setIfInBounds_toArray, List.set_cons_zero, List.set_cons_succ]
  refine wpAnyH_take (i := 15) (oi := ⟨some 109, _, _, _, _, _⟩) (v := .int .i64 0) rfl (by kernel_rfl) (by kernel_rfl) (by kernel_rfl) (fun _ _ _ h => h) (Or.inl ⟨by rfl, fun W hSW => by go_simp⟩) hHeld ?_
  simp only [Act.put, List.setIfInBounds_toArray, List.set_cons_zero, List.set_cons_succ]
  refine wpAnyH_take (i := 16) (oi := ⟨some 110, _, _, _, _, _⟩) (v := .bool false) rfl (by kernel_rfl) (by kernel_rfl) (by kernel_rfl) (fun _ _ _ h => h) (Or.inl ⟨by rfl, fun W hSW => by go_simp⟩) hHeld ?_
  simp only [Act.put, List.setIfInBounds_toArray, List.set_cons_zero, List.set_cons_succ]
  refine wpAnyH_take (i := 17) (oi := ⟨some 111, _, _, _, _, _⟩) (v := .bool false) rfl (by kernel_rfl) (by kernel_rfl) (by kernel_rfl) (fun _ _ _ h => h) (Or.inl ⟨by rfl, fun W hSW => by go_simp⟩) hHeld ?_
  simp only [Act.put, List.setIfInBounds_toArray, List.set_cons_zero, List.set_cons_succ]
  refine wpAnyH_take (i := 18) (oi := ⟨some 112, _, _, _, _, _⟩) (v := .bool false) rfl (by kernel_rfl) (by kernel_rfl) (by kernel_rfl) (fun _ _ _ h => h) (Or.inl ⟨by rfl, fun W hSW => by go_simp⟩) hHeld ?_
  simp only [Act.put, List.setIfInBounds_toArray, List.set_cons_zero, List.set_cons_succ]
  refine wpAnyH_take (i := 19) (oi := ⟨some 113, _, _, _, _, _⟩) (v := .pointer (some ⟨b15, 0, none⟩)) rfl (by kernel_rfl) (by kernel_rfl) (by kernel_rfl) (fun _ _ _ h => h) (Or.inl ⟨by rfl, fun W hSW => by go_simp⟩) hHeld ?_
  simp only [Act.put, List.setIfInBounds_toArray, List.set_cons_zero, List.set_cons_succ]
  refine wpAnyH_take (i := 20) (oi := ⟨some 114, _, _, _, _, _⟩) (v := .slice (some ⟨g15, 0, none⟩) 4 c15) rfl (by kernel_rfl) (by kernel_rfl) (by kernel_rfl) (fun _ _ _ h => h) (Or.inl ⟨by rfl, fun W hSW => by have a0 := (hSW.cell (p := ⟨b15, 0, none⟩) lp15).trans p15; go_simp⟩) hHeld ?_
  simp only [Act.put, List.setIfInBounds_toArray, List.set_cons_zero, List.set_cons_succ]
  refine wpAnyH_take (i := 21) (oi := ⟨some 115, _, _, _, _, _⟩) (v := .int .i64 4) rfl (by kernel_rfl) (by kernel_rfl) (by kernel_rfl) (fun _ _ _ h => h) (Or.inl ⟨by rfl, fun W hSW => by go_simp⟩) hHeld ?_
  simp only [Act.put, List.setIfInBounds_toArray, List.set_cons_zero, List.set_cons_succ]
  refine wpAnyH_take (i := 22) (oi := ⟨some 116, _, _, _, _, _⟩) (v := .bool false) rfl (by kernel_rfl) (by kernel_rfl) (by kernel_rfl) (fun _ _ _ h => h) (Or.inl ⟨by rfl, fun W hSW => by go_simp⟩) hHeld ?_
  simp only [Act.put, List.setIfInBounds_toArray, List.set_cons_zero, List.set_cons_succ]
  refine wpAnyH_take (i := 23) (oi := ⟨some 117, _, _, _, _, _⟩) (v := .bool false) rfl (by kernel_rfl) (by kernel_rfl) (by kernel_rfl) (fun _ _ _ h => h) (Or.inl ⟨by rfl, fun W hSW => by go_simp⟩) hHeld ?_
  simp only [Act.put, List.setIfInBounds_toArray, List.set_cons_zero, List.set_cons_succ]
  refine wpAnyH_take (i := 24) (oi := ⟨some 118, _, _, _, _, _⟩) (v := .bool false) rfl (by kernel_rfl) (by kernel_rfl) (by kernel_rfl) (fun _ _ _ h => h) (Or.inl ⟨by rfl, fun W hSW => by go_simp⟩) hHeld ?_
  simp only [Act.put, List.setIfInBounds_toArray, List.set_cons_zero, List.set_cons_succ]
  refine wpAnyH_take (i := 25) (oi := ⟨some 119, _, _, _, _, _⟩) (v := .pointer (some ⟨b15, 0, none⟩)) rfl (by kernel_rfl) (by kernel_rfl) (by kernel_rfl) (fun _ _ _ h => h) (Or.inl ⟨by rfl, fun W hSW => by go_simp⟩) hHeld ?_
  simp only [Act.put, List.setIfInBounds_toArray, List.set_cons_zero, List.set_cons_succ]
  refine wpAnyH_take (i := 26) (oi := ⟨some 120, _, _, _, _, _⟩) (v := .slice (some ⟨g15, 0, none⟩) 4 c15) rfl (by kernel_rfl) (by kernel_rfl) (by kernel_rfl) (fun _ _ _ h => h) (Or.inl ⟨by rfl, fun W hSW => by have a0 := (hSW.cell (p := ⟨b15, 0, none⟩) lp15).trans p15; go_simp⟩) hHeld ?_
  simp only [Act.put, List.setIfInBounds_toArray, List.set_cons_zero, List.set_cons_succ]
  refine wpAnyH_take (i := 27) (oi := ⟨some 121, _, _, _, _, _⟩) (v := .pointer (some ⟨g15, 9, none⟩)) rfl (by kernel_rfl) (by kernel_rfl) (by kernel_rfl) (fun _ _ _ h => h) (Or.inl ⟨by rfl, fun W hSW => by go_simp⟩) hHeld ?_
  simp only [Act.put, List.setIfInBounds_toArray, List.set_cons_zero, List.set_cons_succ]
  refine wpAnyH_take (i := 28) (oi := ⟨some 122, _, _, _, _, _⟩) (v := .agg #[.int .i64 4, .int .u8 13, .int .u8 1]) rfl (by kernel_rfl) (by kernel_rfl) (by kernel_rfl) (fun _ _ _ h => h) (Or.inl ⟨by rfl, fun W hSW => by have a0 := (hSW.cell (p := ⟨g15, 9, none⟩) lr15).trans r15_9; have a1 := (hSW.cell (p := ⟨g15, 10, none⟩) lr15).trans r15_10; have a2 := (hSW.cell (p := ⟨g15, 11, none⟩) lr15).trans r15_11; go_simp⟩) hHeld ?_
  simp only [Act.put, List.setIfInBounds_toArray, List.set_cons_zero, List.set_cons_succ]
  refine wpAnyH_take (i := 29) (oi := ⟨some 123, _, _, _, _, _⟩) (v := .func (.func 20) #[] #[]) rfl (by kernel_rfl) (by kernel_rfl) (by kernel_rfl) (fun _ _ _ h => h) (Or.inl ⟨by rfl, fun W hSW => by go_simp⟩) hHeld ?_
  simp only [Act.put, List.setIfInBounds_toArray, List.set_cons_zero, List.set_cons_succ]
  refine wpAnyH_ready (rs := [30]) (by kernel_rfl) (by simp) ?_
  refine AllReadyH.cons (o := ⟨some 124, _, _, _, _, _⟩) rfl (fun K hK => ?_) AllReadyH.nil
  go_simp
  refine (wk_c (l := 1)).mono ?_
  rintro e w991 ⟨rfl, hb991⟩
  go_wp2_with fail
  refine hK.out _ _ (below_t hHeld hb991) (fun hHeld => ?_)
  clear hK K hb991
  refine wpAnyH_take (i := 31) (oi := ⟨some 125, _, _, _, _, _⟩) (v := .agg #[.int .i64 4, .int .u8 13, .int .u8 1]) rfl (by kernel_rfl) (by kernel_rfl) (by kernel_rfl) (fun _ _ _ h => h) (Or.inl ⟨by rfl, fun W hSW => by go_simp⟩) hHeld ?_
  simp only [Act.put, List.setIfInBounds_toArray, List.set_cons_zero, List.set_cons_succ]
  refine wpAnyH_take (i := 32) (oi := ⟨some 126, _, _, _, _, _⟩) (v := .bool false) rfl (by kernel_rfl) (by kernel_rfl) (by kernel_rfl) (fun _ _ _ h => h) (Or.inl ⟨by rfl, fun W hSW => by go_simp⟩) hHeld ?_
  simp only [Act.put, List.setIfInBounds_toArray, List.set_cons_zero, List.set_cons_succ]
  refine wpAnyH_take (i := 33) (oi := ⟨some 127, _, _, _, _, _⟩) (v := .bool false) rfl (by kernel_rfl) (by kernel_rfl) (by kernel_rfl) (fun _ _ _ h => h) (Or.inl ⟨by rfl, fun W hSW => by go_simp⟩) hHeld ?_
  simp only [Act.put, List.setIfInBounds_toArray, List.set_cons_zero, List.set_cons_succ]
  refine wpAnyH_done (by kernel_rfl) ?_ _
  refine NoPanic.normal ?_
  refine HeldP.then_named (S := fun W => Below w25.heap.size w25 W) hHeld ?_
  rintro w26 hbq
  clear p13 lp13 r13_0 r13_1 r13_2 lr13 p14 lp14 p15 lp15 r15_0 r15_1 r15_2 r15_3 r15_4 r15_5 r15_6 r15_7 r15_8 r15_9 r15_10 r15_11 lr15
  clear hHeld
  have HB26 := Lib.hid (below_t HB25.out hbq)
  have Hst26 := Lib.hid (Hst25.out.below hbq)
  clear hbq
  go_wp2_with fail
  refine (wk_c (l := 2)).mono ?_
  rintro e w27 ⟨rfl, hbq⟩
  have HB27 := Lib.hid (below_t HB26.out hbq)
  have Hst27 := Lib.hid (Hst26.out.below hbq)
  clear hbq
  go_wp2_with ((with_reducible refine at_storeN ?_); refine Classical.byContradiction (fun hG => ?_))
  refine hG ?_
  clear hG
  obtain ⟨bt, hbt⟩ : ∃ b, w27.heap.size = b := ⟨_, rfl⟩
  have lst := Hst27.out.lt
  have zi := HB27.out.size
  have HNt := Lib.hid (show w.heap.size ≤ bt ∧ b2 < bt from ⟨by omega, by omega⟩)
  clear zi lst
  refine list_named (S := fun W => Below w.heap.size w W ∧ Blk W b2 TC [.int .u8 2, .int .u8 0] ∧ Blk W bt TN [.int .u8 0, .int .u8 0, .int .u8 0, .int .u8 0, .int .u8 0, .int .u8 0, .int .u8 0, .int .u8 0, .int .u8 0, .int .u8 0, .int .u8 0, .int .u8 0, .int .u8 0, .int .u8 0, .int .u8 0, .int .u8 0, .int .u8 0, .int .u8 0, .int .u8 0, .int .u8 0, .int .u8 0, .int .u8 0, .int .u8 0, .int .u64 0]) ⟨by
    have zz := HB27.out.size
    have qHW2 := HW2.out
    have qHNt := HNt.out
    (repeat' (first | (with_reducible exact Below.refl _ _) | (with_reducible refine Below.setCell ?_ (by (first | omega | (simp; done) | (simp; omega))) _) | (with_reducible refine Below.alloc ?_ (by (first | omega | (simp; done) | (simp; omega))) _) | (with_reducible refine Below.drew ?_) | (with_reducible refine below_drewN ?_ _) | (with_reducible refine Below.trans ?_ (Below.mono HB27.out (by (first | omega | (simp; done) | (simp; omega))))))), by
    have qHW2 := HW2.out
    have qHNt := HNt.out
    have zl := Hst27.out.lt
    (repeat' (first | (with_reducible exact Hst27.out) | (with_reducible refine BlkP.Blk.drew ?_) | (with_reducible refine BlkP.Blk.drewN ?_ _) | (with_reducible refine BlkP.Blk.setAt (us := ?_) (by first | omega | (simp; done) | (simp; omega)) rfl ?_ ?_) | (with_reducible refine BlkP.Blk.otherAt ?_ (by first | omega | (simp; done) | (simp; omega))) | (with_reducible refine BlkP.Blk.newA' (by first | omega | (simp; done) | (simp; omega)) rfl) | (with_reducible refine BlkP.Blk.alloc ?_ _) | (exact rfl))), by
    subst hbt
    (repeat' (first | (with_reducible refine BlkP.Blk.drew ?_) | (with_reducible refine BlkP.Blk.drewN ?_ _) | (with_reducible refine BlkP.Blk.setAt (us := ?_) (by first | omega | (simp; done) | (simp; omega)) rfl ?_ ?_) | (with_reducible refine BlkP.Blk.otherAt ?_ (by first | omega | (simp; done) | (simp; omega))) | (with_reducible refine BlkP.Blk.newA' (by first | omega | (simp; done) | (simp; omega)) rfl) | (with_reducible refine BlkP.Blk.alloc ?_ _) | (exact rfl)))⟩ ?_
  rintro w28 ⟨hbx, hxst, hxt⟩
  try rw [hbt]
  have HB28 := Lib.hid hbx
  have Hst28 := Lib.hid hxst
  have Ht28 := Lib.hid hxt
  clear hbx hxst hxt
  obtain ⟨q29, hq29⟩ : ∃ q : Nr, q = (⟨(13, 2), fun i => [(0, 0), (0, 0), (0, 0), (0, 0), (0, 0), (0, 0)].getD i (0, 0), fun i => [(0, 0), (0, 0), (0, 0), (0, 0)].getD i (0, 0), 0, 0⟩ : Nr) := ⟨_, rfl⟩
  have HV29 := Lib.hid (show vals q29 = [.int .u8 13, .int .u8 2, .int .u8 0, .int .u8 0, .int .u8 0, .int .u8 0, .int .u8 0, .int .u8 0, .int .u8 0, .int .u8 0, .int .u8 0, .int .u8 0, .int .u8 0, .int .u8 0, .int .u8 0, .int .u8 0, .int .u8 0, .int .u8 0, .int .u8 0, .int .u8 0, .int .u8 0, .int .u8 0, .int .u8 0, .int .u64 0] from by
    subst hq29
    rfl)
  refine wp_storeN rfl (.tmp 16) (.tmp 130) rfl rfl (n := q29) (by subst hq29; rfl) Ht28.out rfl ?_
  intro w29 hk hgk hzk
  clear hq29 hbt
  have qN := HNt.out
  have HB29 := Lib.hid (show Below w.heap.size w w29 from HB28.out.grown hgk (by have := HB28.out.size; omega) (fun q hq => by injection hq with hq; omega))
  have Hst29 := Lib.hid (Hst28.out.grown hgk (by simp; omega))
  have Ht29 := Lib.hid (show Blk w29 bt TN [.int .u8 13, .int .u8 2, .int .u8 0, .int .u8 0, .int .u8 0, .int .u8 0, .int .u8 0, .int .u8 0, .int .u8 0, .int .u8 0, .int .u8 0, .int .u8 0, .int .u8 0, .int .u8 0, .int .u8 0, .int .u8 0, .int .u8 0, .int .u8 0, .int .u8 0, .int .u8 0, .int .u8 0, .int .u8 0, .int .u8 0, .int .u64 0] from by
    rw [← HV29.out]
    exact hk)
  clear hk hgk hzk qN
  go_wp2_with ((with_reducible refine at_slot 131 ?_); refine Classical.byContradiction (fun hG => ?_))
  refine hG ?_
  clear hG
  obtain ⟨q30, hq30⟩ : ∃ q : Nr, q = (⟨(13, 2), fun i => [(0, 0), (0, 0), (0, 0), (0, 0), (0, 0), (0, 0)].getD i (0, 0), fun i => [(0, 0), (0, 0), (0, 0), (0, 0)].getD i (0, 0), 0, 0⟩ : Nr) := ⟨_, rfl⟩
  have HQ30 := Lib.hid (show deed q30 = [(0, (0, 0))] from by
    subst hq30
    decide)
  have HV30 := Lib.hid (show vals q30 = [.int .u8 13, .int .u8 2, .int .u8 0, .int .u8 0, .int .u8 0, .int .u8 0, .int .u8 0, .int .u8 0, .int .u8 0, .int .u8 0, .int .u8 0, .int .u8 0, .int .u8 0, .int .u8 0, .int .u8 0, .int .u8 0, .int .u8 0, .int .u8 0, .int .u8 0, .int .u8 0, .int .u8 0, .int .u8 0, .int .u8 0, .int .u64 0] from by
    subst hq30
    rfl)
  clear hq30
  refine wp_loadN rfl (.tmp 16) rfl rfl (n := q30) (by rw [HV30.out]; exact Ht29.out) ?_
  go_wp2_with fail
  refine (Next_c (HT.out.below HB29.out)).mono ?_
  rintro e w30 ⟨v, rfl, ho, hbq⟩
  rw [HQ30.out] at ho
  obtain ⟨A17, c17, rfl, _, _, hA⟩ := ho.form (n := 1) rfl
  obtain ⟨g17, rfl, hg1, hg2⟩ := hA (by omega)
  obtain ⟨us17, hr17, hu⟩ := own_blk ho
  have HU17 := Lib.hid (show us17[0]? = some (.int .i64 0) ∧ us17[1]? = some (.int .u8 0) ∧ us17[2]? = some (.int .u8 0) from ⟨hu 0 0 _ _ rfl rfl, hu 0 1 _ _ rfl rfl, hu 0 2 _ _ rfl rfl⟩)
  have lst := Hst29.out.lt
  have lt := Ht29.out.lt
  have zi := HB29.out.size
  have HNr17 := Lib.hid (show w.heap.size ≤ g17 ∧ b2 < g17 ∧ bt < g17 from ⟨by omega, by omega, by omega⟩)
  clear zi lst lt
  have HB30 := Lib.hid (below_t HB29.out hbq)
  have Hst30 := Lib.hid (Hst29.out.below hbq)
  have Ht30 := Lib.hid (Ht29.out.below hbq)
  clear hbq
  have Hr1730 := Lib.hid hr17
  clear ho hA hu hg1 hr17
  obtain ⟨b17, hb17⟩ : ∃ b, w30.heap.size = b := ⟨_, rfl⟩
  have lst := Hst30.out.lt
  have lt := Ht30.out.lt
  have lr17 := Hr1730.out.lt
  have zi := HB30.out.size
  have HNd17 := Lib.hid (show w.heap.size ≤ b17 ∧ b2 < b17 ∧ bt < b17 ∧ g17 < b17 from ⟨by omega, by omega, by omega, by omega⟩)
  clear zi lst lt lr17
  go_wp2_with fail
  refine calls_named (S := fun W => Below w.heap.size w W ∧ Blk W b2 TC [.int .u8 2, .int .u8 0] ∧ Blk W bt TN [.int .u8 13, .int .u8 2, .int .u8 0, .int .u8 0, .int .u8 0, .int .u8 0, .int .u8 0, .int .u8 0, .int .u8 0, .int .u8 0, .int .u8 0, .int .u8 0, .int .u8 0, .int .u8 0, .int .u8 0, .int .u8 0, .int .u8 0, .int .u8 0, .int .u8 0, .int .u8 0, .int .u8 0, .int .u8 0, .int .u8 0, .int .u64 0] ∧ Blk W g17 TX us17 ∧ Blk W b17 TD [.slice (some ⟨g17, 0, none⟩) 1 c17, .int .i64 0, .int .i64 0]) ⟨by
    have zz := HB30.out.size
    have qHW2 := HW2.out
    have qHNt := HNt.out
    have qHNr17 := HNr17.out
    have qHNd17 := HNd17.out
    (repeat' (first | (with_reducible exact Below.refl _ _) | (with_reducible refine Below.setCell ?_ (by (first | omega | (simp; done) | (simp; omega))) _) | (with_reducible refine Below.alloc ?_ (by (first | omega | (simp; done) | (simp; omega))) _) | (with_reducible refine Below.drew ?_) | (with_reducible refine below_drewN ?_ _) | (with_reducible refine Below.trans ?_ (Below.mono HB30.out (by (first | omega | (simp; done) | (simp; omega))))))), by
    have qHW2 := HW2.out
    have qHNt := HNt.out
    have qHNr17 := HNr17.out
    have qHNd17 := HNd17.out
    have zl := Hst30.out.lt
    (repeat' (first | (with_reducible exact Hst30.out) | (with_reducible refine BlkP.Blk.drew ?_) | (with_reducible refine BlkP.Blk.drewN ?_ _) | (with_reducible refine BlkP.Blk.setAt (us := ?_) (by first | omega | (simp; done) | (simp; omega)) rfl ?_ ?_) | (with_reducible refine BlkP.Blk.otherAt ?_ (by first | omega | (simp; done) | (simp; omega))) | (with_reducible refine BlkP.Blk.newA' (by first | omega | (simp; done) | (simp; omega)) rfl) | (with_reducible refine BlkP.Blk.alloc ?_ _) | (exact rfl))), by
    have qHW2 := HW2.out
    have qHNt := HNt.out
    have qHNr17 := HNr17.out
    have qHNd17 := HNd17.out
    have zl := Ht30.out.lt
    (repeat' (first | (with_reducible exact Ht30.out) | (with_reducible refine BlkP.Blk.drew ?_) | (with_reducible refine BlkP.Blk.drewN ?_ _) | (with_reducible refine BlkP.Blk.setAt (us := ?_) (by first | omega | (simp; done) | (simp; omega)) rfl ?_ ?_) | (with_reducible refine BlkP.Blk.otherAt ?_ (by first | omega | (simp; done) | (simp; omega))) | (with_reducible refine BlkP.Blk.newA' (by first | omega | (simp; done) | (simp; omega)) rfl) | (with_reducible refine BlkP.Blk.alloc ?_ _) | (exact rfl))), by
    have qHW2 := HW2.out
    have qHNt := HNt.out
    have qHNr17 := HNr17.out
    have qHNd17 := HNd17.out
    have zl := Hr1730.out.lt
    (repeat' (first | (with_reducible exact Hr1730.out) | (with_reducible refine BlkP.Blk.drew ?_) | (with_reducible refine BlkP.Blk.drewN ?_ _) | (with_reducible refine BlkP.Blk.setAt (us := ?_) (by first | omega | (simp; done) | (simp; omega)) rfl ?_ ?_) | (with_reducible refine BlkP.Blk.otherAt ?_ (by first | omega | (simp; done) | (simp; omega))) | (with_reducible refine BlkP.Blk.newA' (by first | omega | (simp; done) | (simp; omega)) rfl) | (with_reducible refine BlkP.Blk.alloc ?_ _) | (exact rfl))), by
    subst hb17
    (repeat' (first | (with_reducible refine BlkP.Blk.drew ?_) | (with_reducible refine BlkP.Blk.drewN ?_ _) | (with_reducible refine BlkP.Blk.setAt (us := ?_) (by first | omega | (simp; done) | (simp; omega)) rfl ?_ ?_) | (with_reducible refine BlkP.Blk.otherAt ?_ (by first | omega | (simp; done) | (simp; omega))) | (with_reducible refine BlkP.Blk.newA' (by first | omega | (simp; done) | (simp; omega)) rfl) | (with_reducible refine BlkP.Blk.alloc ?_ _) | (exact rfl)))⟩ ?_
  rintro w31 ⟨hbx, hxst, hxt, hxr17, hxd17⟩
  try rw [hb17]
  have HB31 := Lib.hid hbx
  have Hst31 := Lib.hid hxst
  have Ht31 := Lib.hid hxt
  have Hr1731 := Lib.hid hxr17
  have Hd1731 := Lib.hid hxd17
  clear hbx hxst hxt hxr17 hxd17
  clear hb17
  refine (wk_c (l := 0)).mono ?_
  rintro e w32 ⟨rfl, hbq⟩
  have HB32 := Lib.hid (below_t HB31.out hbq)
  have Hst32 := Lib.hid (Hst31.out.below hbq)
  have Ht32 := Lib.hid (Ht31.out.below hbq)
  have Hr1732 := Lib.hid (Hr1731.out.below hbq)
  have Hd1732 := Lib.hid (Hd1731.out.below hbq)
  clear hbq
  have m4 : w32.cell? ⟨bt, 4, none⟩ = some (.int .u8 0) := Ht32.out.cell rfl
  have f4 := Ht32.out.frozen 4
  have m5 : w32.cell? ⟨bt, 5, none⟩ = some (.int .u8 0) := Ht32.out.cell rfl
  have f5 := Ht32.out.frozen 5
  go_wp2_with ((with_reducible refine at_slot 137 ?_); refine Classical.byContradiction (fun hG => ?_))
  refine hG ?_
  clear hG
  refine list_named (S := fun W => Below w.heap.size w W ∧ Blk W b2 TC [.int .u8 2, .int .u8 0] ∧ Blk W bt TN [.int .u8 13, .int .u8 2, .int .u8 0, .int .u8 0, .int .u8 13, .int .u8 0, .int .u8 0, .int .u8 0, .int .u8 0, .int .u8 0, .int .u8 0, .int .u8 0, .int .u8 0, .int .u8 0, .int .u8 0, .int .u8 0, .int .u8 0, .int .u8 0, .int .u8 0, .int .u8 0, .int .u8 0, .int .u8 0, .int .u8 0, .int .u64 0] ∧ Blk W g17 TX us17 ∧ Blk W b17 TD [.slice (some ⟨g17, 0, none⟩) 1 c17, .int .i64 0, .int .i64 0]) ⟨by
    have zz := HB32.out.size
    have qHW2 := HW2.out
    have qHNt := HNt.out
    have qHNr17 := HNr17.out
    have qHNd17 := HNd17.out
    (repeat' (first | (with_reducible exact Below.refl _ _) | (with_reducible refine Below.setCell ?_ (by (first | omega | (simp; done) | (simp; omega))) _) | (with_reducible refine Below.alloc ?_ (by (first | omega | (simp; done) | (simp; omega))) _) | (with_reducible refine Below.drew ?_) | (with_reducible refine below_drewN ?_ _) | (with_reducible refine Below.trans ?_ (Below.mono HB32.out (by (first | omega | (simp; done) | (simp; omega))))))), by
    have qHW2 := HW2.out
    have qHNt := HNt.out
    have qHNr17 := HNr17.out
    have qHNd17 := HNd17.out
    have zl := Hst32.out.lt
    (repeat' (first | (with_reducible exact Hst32.out) | (with_reducible refine BlkP.Blk.drew ?_) | (with_reducible refine BlkP.Blk.drewN ?_ _) | (with_reducible refine BlkP.Blk.setAt (us := ?_) (by first | omega | (simp; done) | (simp; omega)) rfl ?_ ?_) | (with_reducible refine BlkP.Blk.otherAt ?_ (by first | omega | (simp; done) | (simp; omega))) | (with_reducible refine BlkP.Blk.newA' (by first | omega | (simp; done) | (simp; omega)) rfl) | (with_reducible refine BlkP.Blk.alloc ?_ _) | (exact rfl))), by
    have qHW2 := HW2.out
    have qHNt := HNt.out
    have qHNr17 := HNr17.out
    have qHNd17 := HNd17.out
    have zl := Ht32.out.lt
    (repeat' (first | (with_reducible exact Ht32.out) | (with_reducible refine BlkP.Blk.drew ?_) | (with_reducible refine BlkP.Blk.drewN ?_ _) | (with_reducible refine BlkP.Blk.setAt (us := ?_) (by first | omega | (simp; done) | (simp; omega)) rfl ?_ ?_) | (with_reducible refine BlkP.Blk.otherAt ?_ (by first | omega | (simp; done) | (simp; omega))) | (with_reducible refine BlkP.Blk.newA' (by first | omega | (simp; done) | (simp; omega)) rfl) | (with_reducible refine BlkP.Blk.alloc ?_ _) | (exact rfl))), by
    have qHW2 := HW2.out
    have qHNt := HNt.out
    have qHNr17 := HNr17.out
    have qHNd17 := HNd17.out
    have zl := Hr1732.out.lt
    (repeat' (first | (with_reducible exact Hr1732.out) | (with_reducible refine BlkP.Blk.drew ?_) | (with_reducible refine BlkP.Blk.drewN ?_ _) | (with_reducible refine BlkP.Blk.setAt (us := ?_) (by first | omega | (simp; done) | (simp; omega)) rfl ?_ ?_) | (with_reducible refine BlkP.Blk.otherAt ?_ (by first | omega | (simp; done) | (simp; omega))) | (with_reducible refine BlkP.Blk.newA' (by first | omega | (simp; done) | (simp; omega)) rfl) | (with_reducible refine BlkP.Blk.alloc ?_ _) | (exact rfl))), by
    have qHW2 := HW2.out
    have qHNt := HNt.out
    have qHNr17 := HNr17.out
    have qHNd17 := HNd17.out
    have zl := Hd1732.out.lt
    (repeat' (first | (with_reducible exact Hd1732.out) | (with_reducible refine BlkP.Blk.drew ?_) | (with_reducible refine BlkP.Blk.drewN ?_ _) | (with_reducible refine BlkP.Blk.setAt (us := ?_) (by first | omega | (simp; done) | (simp; omega)) rfl ?_ ?_) | (with_reducible refine BlkP.Blk.otherAt ?_ (by first | omega | (simp; done) | (simp; omega))) | (with_reducible refine BlkP.Blk.newA' (by first | omega | (simp; done) | (simp; omega)) rfl) | (with_reducible refine BlkP.Blk.alloc ?_ _) | (exact rfl)))⟩ ?_
  rintro w33 ⟨hbx, hxst, hxt, hxr17, hxd17⟩
  have HB33 := Lib.hid hbx
  have Hst33 := Lib.hid hxst
  have Ht33 := Lib.hid hxt
  have Hr1733 := Lib.hid hxr17
  have Hd1733 := Lib.hid hxd17
  clear hbx hxst hxt hxr17 hxd17
  clear m4 m5 f4 f5
  have s0 : w33.cell? ⟨b2, 0, none⟩ = some (.int .u8 2) := Hst33.out.cell rfl
  have s1 : w33.cell? ⟨b2, 1, none⟩ = some (.int .u8 0) := Hst33.out.cell rfl
  have m12 : w33.cell? ⟨bt, 12, none⟩ = some (.int .u8 0) := Ht33.out.cell rfl
  have f12 := Ht33.out.frozen 12
  have m13 : w33.cell? ⟨bt, 13, none⟩ = some (.int .u8 0) := Ht33.out.cell rfl
  have f13 := Ht33.out.frozen 13
  go_wp2_with ((with_reducible refine at_slot 140 ?_); refine Classical.byContradiction (fun hG => ?_))
  refine hG ?_
  clear hG
  refine list_named (S := fun W => Below w.heap.size w W ∧ Blk W b2 TC [.int .u8 2, .int .u8 0] ∧ Blk W bt TN [.int .u8 13, .int .u8 2, .int .u8 0, .int .u8 0, .int .u8 13, .int .u8 0, .int .u8 0, .int .u8 0, .int .u8 0, .int .u8 0, .int .u8 0, .int .u8 0, .int .u8 2, .int .u8 0, .int .u8 0, .int .u8 0, .int .u8 0, .int .u8 0, .int .u8 0, .int .u8 0, .int .u8 0, .int .u8 0, .int .u8 0, .int .u64 0] ∧ Blk W g17 TX us17 ∧ Blk W b17 TD [.slice (some ⟨g17, 0, none⟩) 1 c17, .int .i64 0, .int .i64 0]) ⟨by
    have zz := HB33.out.size
    have qHW2 := HW2.out
    have qHNt := HNt.out
    have qHNr17 := HNr17.out
    have qHNd17 := HNd17.out
    (repeat' (first | (with_reducible exact Below.refl _ _) | (with_reducible refine Below.setCell ?_ (by (first | omega | (simp; done) | (simp; omega))) _) | (with_reducible refine Below.alloc ?_ (by (first | omega | (simp; done) | (simp; omega))) _) | (with_reducible refine Below.drew ?_) | (with_reducible refine below_drewN ?_ _) | (with_reducible refine Below.trans ?_ (Below.mono HB33.out (by (first | omega | (simp; done) | (simp; omega))))))), by
    have qHW2 := HW2.out
    have qHNt := HNt.out
    have qHNr17 := HNr17.out
    have qHNd17 := HNd17.out
    have zl := Hst33.out.lt
    (repeat' (first | (with_reducible exact Hst33.out) | (with_reducible refine BlkP.Blk.drew ?_) | (with_reducible refine BlkP.Blk.drewN ?_ _) | (with_reducible refine BlkP.Blk.setAt (us := ?_) (by first | omega | (simp; done) | (simp; omega)) rfl ?_ ?_) | (with_reducible refine BlkP.Blk.otherAt ?_ (by first | omega | (simp; done) | (simp; omega))) | (with_reducible refine BlkP.Blk.newA' (by first | omega | (simp; done) | (simp; omega)) rfl) | (with_reducible refine BlkP.Blk.alloc ?_ _) | (exact rfl))), by
    have qHW2 := HW2.out
    have qHNt := HNt.out
    have qHNr17 := HNr17.out
    have qHNd17 := HNd17.out
    have zl := Ht33.out.lt
    (repeat' (first | (with_reducible exact Ht33.out) | (with_reducible refine BlkP.Blk.drew ?_) | (with_reducible refine BlkP.Blk.drewN ?_ _) | (with_reducible refine BlkP.Blk.setAt (us := ?_) (by first | omega | (simp; done) | (simp; omega)) rfl ?_ ?_) | (with_reducible refine BlkP.Blk.otherAt ?_ (by first | omega | (simp; done) | (simp; omega))) | (with_reducible refine BlkP.Blk.newA' (by first | omega | (simp; done) | (simp; omega)) rfl) | (with_reducible refine BlkP.Blk.alloc ?_ _) | (exact rfl))), by
    have qHW2 := HW2.out
    have qHNt := HNt.out
    have qHNr17 := HNr17.out
    have qHNd17 := HNd17.out
    have zl := Hr1733.out.lt
    (repeat' (first | (with_reducible exact Hr1733.out) | (with_reducible refine BlkP.Blk.drew ?_) | (with_reducible refine BlkP.Blk.drewN ?_ _) | (with_reducible refine BlkP.Blk.setAt (us := ?_) (by first | omega | (simp; done) | (simp; omega)) rfl ?_ ?_) | (with_reducible refine BlkP.Blk.otherAt ?_ (by first | omega | (simp; done) | (simp; omega))) | (with_reducible refine BlkP.Blk.newA' (by first | omega | (simp; done) | (simp; omega)) rfl) | (with_reducible refine BlkP.Blk.alloc ?_ _) | (exact rfl))), by
    have qHW2 := HW2.out
    have qHNt := HNt.out
    have qHNr17 := HNr17.out
    have qHNd17 := HNd17.out
    have zl := Hd1733.out.lt
    (repeat' (first | (with_reducible exact Hd1733.out) | (with_reducible refine BlkP.Blk.drew ?_) | (with_reducible refine BlkP.Blk.drewN ?_ _) | (with_reducible refine BlkP.Blk.setAt (us := ?_) (by first | omega | (simp; done) | (simp; omega)) rfl ?_ ?_) | (with_reducible refine BlkP.Blk.otherAt ?_ (by first | omega | (simp; done) | (simp; omega))) | (with_reducible refine BlkP.Blk.newA' (by first | omega | (simp; done) | (simp; omega)) rfl) | (with_reducible refine BlkP.Blk.alloc ?_ _) | (exact rfl)))⟩ ?_
  rintro w34 ⟨hbx, hxst, hxt, hxr17, hxd17⟩
  have HB34 := Lib.hid hbx
  have Hst34 := Lib.hid hxst
  have Ht34 := Lib.hid hxt
  have Hr1734 := Lib.hid hxr17
  have Hd1734 := Lib.hid hxd17
  clear hbx hxst hxt hxr17 hxd17
  clear m12 m13 f12 f13 s0 s1
  have s0 : w34.cell? ⟨b2, 0, none⟩ = some (.int .u8 2) := Hst34.out.cell rfl
  have s1 : w34.cell? ⟨b2, 1, none⟩ = some (.int .u8 0) := Hst34.out.cell rfl
  have m16 : w34.cell? ⟨bt, 16, none⟩ = some (.int .u8 0) := Ht34.out.cell rfl
  have f16 := Ht34.out.frozen 16
  have m17 : w34.cell? ⟨bt, 17, none⟩ = some (.int .u8 0) := Ht34.out.cell rfl
  have f17 := Ht34.out.frozen 17
  go_wp2_with ((with_reducible refine at_slot 143 ?_); refine Classical.byContradiction (fun hG => ?_))
  refine hG ?_
  clear hG
  refine list_named (S := fun W => Below w.heap.size w W ∧ Blk W b2 TC [.int .u8 2, .int .u8 0] ∧ Blk W bt TN [.int .u8 13, .int .u8 2, .int .u8 0, .int .u8 0, .int .u8 13, .int .u8 0, .int .u8 0, .int .u8 0, .int .u8 0, .int .u8 0, .int .u8 0, .int .u8 0, .int .u8 2, .int .u8 0, .int .u8 0, .int .u8 0, .int .u8 2, .int .u8 0, .int .u8 0, .int .u8 0, .int .u8 0, .int .u8 0, .int .u8 0, .int .u64 0] ∧ Blk W g17 TX us17 ∧ Blk W b17 TD [.slice (some ⟨g17, 0, none⟩) 1 c17, .int .i64 0, .int .i64 0]) ⟨by
    have zz := HB34.out.size
    have qHW2 := HW2.out
    have qHNt := HNt.out
    have qHNr17 := HNr17.out
    have qHNd17 := HNd17.out
    (repeat' (first | (with_reducible exact Below.refl _ _) | (with_reducible refine Below.setCell ?_ (by (first | omega | (simp; done) | (simp; omega))) _) | (with_reducible refine Below.alloc ?_ (by (first | omega | (simp; done) | (simp; omega))) _) | (with_reducible refine Below.drew ?_) | (with_reducible refine below_drewN ?_ _) | (with_reducible refine Below.trans ?_ (Below.mono HB34.out (by (first | omega | (simp; done) | (simp; omega))))))), by
    have qHW2 := HW2.out
    have qHNt := HNt.out
    have qHNr17 := HNr17.out
    have qHNd17 := HNd17.out
    have zl := Hst34.out.lt
    (repeat' (first | (with_reducible exact Hst34.out) | (with_reducible refine BlkP.Blk.drew ?_) | (with_reducible refine BlkP.Blk.drewN ?_ _) | (with_reducible refine BlkP.Blk.setAt (us := ?_) (by first | omega | (simp; done) | (simp; omega)) rfl ?_ ?_) | (with_reducible refine BlkP.Blk.otherAt ?_ (by first | omega | (simp; done) | (simp; omega))) | (with_reducible refine BlkP.Blk.newA' (by first | omega | (simp; done) | (simp; omega)) rfl) | (with_reducible refine BlkP.Blk.alloc ?_ _) | (exact rfl))), by
    have qHW2 := HW2.out
    have qHNt := HNt.out
    have qHNr17 := HNr17.out
    have qHNd17 := HNd17.out
    have zl := Ht34.out.lt
    (repeat' (first | (with_reducible exact Ht34.out) | (with_reducible refine BlkP.Blk.drew ?_) | (with_reducible refine BlkP.Blk.drewN ?_ _) | (with_reducible refine BlkP.Blk.setAt (us := ?_) (by first | omega | (simp; done) | (simp; omega)) rfl ?_ ?_) | (with_reducible refine BlkP.Blk.otherAt ?_ (by first | omega | (simp; done) | (simp; omega))) | (with_reducible refine BlkP.Blk.newA' (by first | omega | (simp; done) | (simp; omega)) rfl) | (with_reducible refine BlkP.Blk.alloc ?_ _) | (exact rfl))), by
    have qHW2 := HW2.out
    have qHNt := HNt.out
    have qHNr17 := HNr17.out
    have qHNd17 := HNd17.out
    have zl := Hr1734.out.lt
    (repeat' (first | (with_reducible exact Hr1734.out) | (with_reducible refine BlkP.Blk.drew ?_) | (with_reducible refine BlkP.Blk.drewN ?_ _) | (with_reducible refine BlkP.Blk.setAt (us := ?_) (by first | omega | (simp; done) | (simp; omega)) rfl ?_ ?_) | (with_reducible refine BlkP.Blk.otherAt ?_ (by first | omega | (simp; done) | (simp; omega))) | (with_reducible refine BlkP.Blk.newA' (by first | omega | (simp; done) | (simp; omega)) rfl) | (with_reducible refine BlkP.Blk.alloc ?_ _) | (exact rfl))), by
    have qHW2 := HW2.out
    have qHNt := HNt.out
    have qHNr17 := HNr17.out
    have qHNd17 := HNd17.out
    have zl := Hd1734.out.lt
    (repeat' (first | (with_reducible exact Hd1734.out) | (with_reducible refine BlkP.Blk.drew ?_) | (with_reducible refine BlkP.Blk.drewN ?_ _) | (with_reducible refine BlkP.Blk.setAt (us := ?_) (by first | omega | (simp; done) | (simp; omega)) rfl ?_ ?_) | (with_reducible refine BlkP.Blk.otherAt ?_ (by first | omega | (simp; done) | (simp; omega))) | (with_reducible refine BlkP.Blk.newA' (by first | omega | (simp; done) | (simp; omega)) rfl) | (with_reducible refine BlkP.Blk.alloc ?_ _) | (exact rfl)))⟩ ?_
  rintro w35 ⟨hbx, hxst, hxt, hxr17, hxd17⟩
  have HB35 := Lib.hid hbx
  have Hst35 := Lib.hid hxst
  have Ht35 := Lib.hid hxt
  have Hr1735 := Lib.hid hxr17
  have Hd1735 := Lib.hid hxd17
  clear hbx hxst hxt hxr17 hxd17
  clear m16 m17 f16 f17 s0 s1
  obtain ⟨q36, hq36⟩ : ∃ q : Nr, q = (⟨(13, 2), fun i => [(0, 0), (13, 0), (0, 0), (0, 0), (0, 0), (2, 0)].getD i (0, 0), fun i => [(0, 0), (2, 0), (0, 0), (0, 0)].getD i (0, 0), 0, 0⟩ : Nr) := ⟨_, rfl⟩
  have HQ36 := Lib.hid (show deed q36 = [(0, (13, 1))] from by
    subst hq36
    decide)
  have HV36 := Lib.hid (show vals q36 = [.int .u8 13, .int .u8 2, .int .u8 0, .int .u8 0, .int .u8 13, .int .u8 0, .int .u8 0, .int .u8 0, .int .u8 0, .int .u8 0, .int .u8 0, .int .u8 0, .int .u8 2, .int .u8 0, .int .u8 0, .int .u8 0, .int .u8 2, .int .u8 0, .int .u8 0, .int .u8 0, .int .u8 0, .int .u8 0, .int .u8 0, .int .u64 0] from by
    subst hq36
    rfl)
  clear hq36
  refine wp_loadN rfl (.tmp 16) rfl rfl (n := q36) (by rw [HV36.out]; exact Ht35.out) ?_
  go_wp2_with fail
  refine (Next_c (HT.out.below HB35.out)).mono ?_
  rintro e w36 ⟨v, rfl, ho, hbq⟩
  rw [HQ36.out] at ho
  obtain ⟨A18, c18, rfl, _, _, hA⟩ := ho.form (n := 1) rfl
  obtain ⟨g18, rfl, hg1, hg2⟩ := hA (by omega)
  obtain ⟨us18, hr18, hu⟩ := own_blk ho
  have HU18 := Lib.hid (show us18[0]? = some (.int .i64 0) ∧ us18[1]? = some (.int .u8 13) ∧ us18[2]? = some (.int .u8 1) from ⟨hu 0 0 _ _ rfl rfl, hu 0 1 _ _ rfl rfl, hu 0 2 _ _ rfl rfl⟩)
  have lst := Hst35.out.lt
  have lt := Ht35.out.lt
  have lr17 := Hr1735.out.lt
  have ld17 := Hd1735.out.lt
  have zi := HB35.out.size
  have HNr18 := Lib.hid (show w.heap.size ≤ g18 ∧ b2 < g18 ∧ bt < g18 ∧ g17 < g18 ∧ b17 < g18 from ⟨by omega, by omega, by omega, by omega, by omega⟩)
  clear zi lst lt lr17 ld17
  have HB36 := Lib.hid (below_t HB35.out hbq)
  have Hst36 := Lib.hid (Hst35.out.below hbq)
  have Ht36 := Lib.hid (Ht35.out.below hbq)
  have Hr1736 := Lib.hid (Hr1735.out.below hbq)
  have Hd1736 := Lib.hid (Hd1735.out.below hbq)
  clear hbq
  have Hr1836 := Lib.hid hr18
  clear ho hA hu hg1 hr18
  obtain ⟨b18, hb18⟩ : ∃ b, w36.heap.size = b := ⟨_, rfl⟩
  have lst := Hst36.out.lt
  have lr17 := Hr1736.out.lt
  have ld17 := Hd1736.out.lt
  have lr18 := Hr1836.out.lt
  have zi := HB36.out.size
  have HNd18 := Lib.hid (show w.heap.size ≤ b18 ∧ b2 < b18 ∧ g17 < b18 ∧ b17 < b18 ∧ g18 < b18 from ⟨by omega, by omega, by omega, by omega, by omega⟩)
  clear zi lst lr17 ld17 lr18
  go_wp2_with fail
  refine calls_named (S := fun W => Below w.heap.size w W ∧ Blk W b2 TC [.int .u8 2, .int .u8 0] ∧ Blk W g17 TX us17 ∧ Blk W b17 TD [.slice (some ⟨g17, 0, none⟩) 1 c17, .int .i64 0, .int .i64 0] ∧ Blk W g18 TX us18 ∧ Blk W b18 TD [.slice (some ⟨g18, 0, none⟩) 1 c18, .int .i64 0, .int .i64 0]) ⟨by
    have zz := HB36.out.size
    have qHW2 := HW2.out
    have qHNt := HNt.out
    have qHNr17 := HNr17.out
    have qHNd17 := HNd17.out
    have qHNr18 := HNr18.out
    have qHNd18 := HNd18.out
    (repeat' (first | (with_reducible exact Below.refl _ _) | (with_reducible refine Below.setCell ?_ (by (first | omega | (simp; done) | (simp; omega))) _) | (with_reducible refine Below.alloc ?_ (by (first | omega | (simp; done) | (simp; omega))) _) | (with_reducible refine Below.drew ?_) | (with_reducible refine below_drewN ?_ _) | (with_reducible refine Below.trans ?_ (Below.mono HB36.out (by (first | omega | (simp; done) | (simp; omega))))))), by
    have qHW2 := HW2.out
    have qHNt := HNt.out
    have qHNr17 := HNr17.out
    have qHNd17 := HNd17.out
    have qHNr18 := HNr18.out
    have qHNd18 := HNd18.out
    have zl := Hst36.out.lt
    (repeat' (first | (with_reducible exact Hst36.out) | (with_reducible refine BlkP.Blk.drew ?_) | (with_reducible refine BlkP.Blk.drewN ?_ _) | (with_reducible refine BlkP.Blk.setAt (us := ?_) (by first | omega | (simp; done) | (simp; omega)) rfl ?_ ?_) | (with_reducible refine BlkP.Blk.otherAt ?_ (by first | omega | (simp; done) | (simp; omega))) | (with_reducible refine BlkP.Blk.newA' (by first | omega | (simp; done) | (simp; omega)) rfl) | (with_reducible refine BlkP.Blk.alloc ?_ _) | (exact rfl))), by
    have qHW2 := HW2.out
    have qHNt := HNt.out
    have qHNr17 := HNr17.out
    have qHNd17 := HNd17.out
    have qHNr18 := HNr18.out
    have qHNd18 := HNd18.out
    have zl := Hr1736.out.lt
    (repeat' (first | (with_reducible exact Hr1736.out) | (with_reducible refine BlkP.Blk.drew ?_) | (with_reducible refine BlkP.Blk.drewN ?_ _) | (with_reducible refine BlkP.Blk.setAt (us := ?_) (by first | omega | (simp; done) | (simp; omega)) rfl ?_ ?_) | (with_reducible refine BlkP.Blk.otherAt ?_ (by first | omega | (simp; done) | (simp; omega))) | (with_reducible refine BlkP.Blk.newA' (by first | omega | (simp; done) | (simp; omega)) rfl) | (with_reducible refine BlkP.Blk.alloc ?_ _) | (exact rfl))), by
    have qHW2 := HW2.out
    have qHNt := HNt.out
    have qHNr17 := HNr17.out
    have qHNd17 := HNd17.out
    have qHNr18 := HNr18.out
    have qHNd18 := HNd18.out
    have zl := Hd1736.out.lt
    (repeat' (first | (with_reducible exact Hd1736.out) | (with_reducible refine BlkP.Blk.drew ?_) | (with_reducible refine BlkP.Blk.drewN ?_ _) | (with_reducible refine BlkP.Blk.setAt (us := ?_) (by first | omega | (simp; done) | (simp; omega)) rfl ?_ ?_) | (with_reducible refine BlkP.Blk.otherAt ?_ (by first | omega | (simp; done) | (simp; omega))) | (with_reducible refine BlkP.Blk.newA' (by first | omega | (simp; done) | (simp; omega)) rfl) | (with_reducible refine BlkP.Blk.alloc ?_ _) | (exact rfl))), by
    have qHW2 := HW2.out
    have qHNt := HNt.out
    have qHNr17 := HNr17.out
    have qHNd17 := HNd17.out
    have qHNr18 := HNr18.out
    have qHNd18 := HNd18.out
    have zl := Hr1836.out.lt
    (repeat' (first | (with_reducible exact Hr1836.out) | (with_reducible refine BlkP.Blk.drew ?_) | (with_reducible refine BlkP.Blk.drewN ?_ _) | (with_reducible refine BlkP.Blk.setAt (us := ?_) (by first | omega | (simp; done) | (simp; omega)) rfl ?_ ?_) | (with_reducible refine BlkP.Blk.otherAt ?_ (by first | omega | (simp; done) | (simp; omega))) | (with_reducible refine BlkP.Blk.newA' (by first | omega | (simp; done) | (simp; omega)) rfl) | (with_reducible refine BlkP.Blk.alloc ?_ _) | (exact rfl))), by
    subst hb18
    (repeat' (first | (with_reducible refine BlkP.Blk.drew ?_) | (with_reducible refine BlkP.Blk.drewN ?_ _) | (with_reducible refine BlkP.Blk.setAt (us := ?_) (by first | omega | (simp; done) | (simp; omega)) rfl ?_ ?_) | (with_reducible refine BlkP.Blk.otherAt ?_ (by first | omega | (simp; done) | (simp; omega))) | (with_reducible refine BlkP.Blk.newA' (by first | omega | (simp; done) | (simp; omega)) rfl) | (with_reducible refine BlkP.Blk.alloc ?_ _) | (exact rfl)))⟩ ?_
  rintro w37 ⟨hbx, hxst, hxr17, hxd17, hxr18, hxd18⟩
  try rw [hb18]
  have HB37 := Lib.hid hbx
  have Hst37 := Lib.hid hxst
  have Hr1737 := Lib.hid hxr17
  have Hd1737 := Lib.hid hxd17
  have Hr1837 := Lib.hid hxr18
  have Hd1837 := Lib.hid hxd18
  clear hbx hxst hxr17 hxd17 hxr18 hxd18
  clear hb18
  refine (wk_c (l := 1)).mono ?_
  rintro e w38 ⟨rfl, hbq⟩
  have HB38 := Lib.hid (below_t HB37.out hbq)
  have Hst38 := Lib.hid (Hst37.out.below hbq)
  have Hr1738 := Lib.hid (Hr1737.out.below hbq)
  have Hd1738 := Lib.hid (Hd1737.out.below hbq)
  have Hr1838 := Lib.hid (Hr1837.out.below hbq)
  have Hd1838 := Lib.hid (Hd1837.out.below hbq)
  clear hbq
  go_wp2_with ((with_reducible refine at_storeN ?_); refine Classical.byContradiction (fun hG => ?_))
  refine hG ?_
  clear hG
  obtain ⟨bu, hbu⟩ : ∃ b, w38.heap.size = b := ⟨_, rfl⟩
  have lst := Hst38.out.lt
  have lr17 := Hr1738.out.lt
  have ld17 := Hd1738.out.lt
  have lr18 := Hr1838.out.lt
  have ld18 := Hd1838.out.lt
  have zi := HB38.out.size
  have HNu := Lib.hid (show w.heap.size ≤ bu ∧ b2 < bu ∧ g17 < bu ∧ b17 < bu ∧ g18 < bu ∧ b18 < bu from ⟨by omega, by omega, by omega, by omega, by omega, by omega⟩)
  clear zi lst lr17 ld17 lr18 ld18
  refine list_named (S := fun W => Below w.heap.size w W ∧ Blk W b2 TC [.int .u8 2, .int .u8 0] ∧ Blk W g17 TX us17 ∧ Blk W b17 TD [.slice (some ⟨g17, 0, none⟩) 1 c17, .int .i64 0, .int .i64 0] ∧ Blk W g18 TX us18 ∧ Blk W b18 TD [.slice (some ⟨g18, 0, none⟩) 1 c18, .int .i64 0, .int .i64 0] ∧ Blk W bu TN [.int .u8 0, .int .u8 0, .int .u8 0, .int .u8 0, .int .u8 0, .int .u8 0, .int .u8 0, .int .u8 0, .int .u8 0, .int .u8 0, .int .u8 0, .int .u8 0, .int .u8 0, .int .u8 0, .int .u8 0, .int .u8 0, .int .u8 0, .int .u8 0, .int .u8 0, .int .u8 0, .int .u8 0, .int .u8 0, .int .u8 0, .int .u64 0]) ⟨by
    have zz := HB38.out.size
    have qHW2 := HW2.out
    have qHNt := HNt.out
    have qHNr17 := HNr17.out
    have qHNd17 := HNd17.out
    have qHNr18 := HNr18.out
    have qHNd18 := HNd18.out
    have qHNu := HNu.out
    (repeat' (first | (with_reducible exact Below.refl _ _) | (with_reducible refine Below.setCell ?_ (by (first | omega | (simp; done) | (simp; omega))) _) | (with_reducible refine Below.alloc ?_ (by (first | omega | (simp; done) | (simp; omega))) _) | (with_reducible refine Below.drew ?_) | (with_reducible refine below_drewN ?_ _) | (with_reducible refine Below.trans ?_ (Below.mono HB38.out (by (first | omega | (simp; done) | (simp; omega))))))), by
    have qHW2 := HW2.out
    have qHNt := HNt.out
    have qHNr17 := HNr17.out
    have qHNd17 := HNd17.out
    have qHNr18 := HNr18.out
    have qHNd18 := HNd18.out
    have qHNu := HNu.out
    have zl := Hst38.out.lt
    (repeat' (first | (with_reducible exact Hst38.out) | (with_reducible refine BlkP.Blk.drew ?_) | (with_reducible refine BlkP.Blk.drewN ?_ _) | (with_reducible refine BlkP.Blk.setAt (us := ?_) (by first | omega | (simp; done) | (simp; omega)) rfl ?_ ?_) | (with_reducible refine BlkP.Blk.otherAt ?_ (by first | omega | (simp; done) | (simp; omega))) | (with_reducible refine BlkP.Blk.newA' (by first | omega | (simp; done) | (simp; omega)) rfl) | (with_reducible refine BlkP.Blk.alloc ?_ _) | (exact rfl))), by
    have qHW2 := HW2.out
    have qHNt := HNt.out
    have qHNr17 := HNr17.out
    have qHNd17 := HNd17.out
    have qHNr18 := HNr18.out
    have qHNd18 := HNd18.out
    have qHNu := HNu.out
    have zl := Hr1738.out.lt
    (repeat' (first | (with_reducible exact Hr1738.out) | (with_reducible refine BlkP.Blk.drew ?_) | (with_reducible refine BlkP.Blk.drewN ?_ _) | (with_reducible refine BlkP.Blk.setAt (us := ?_) (by first | omega | (simp; done) | (simp; omega)) rfl ?_ ?_) | (with_reducible refine BlkP.Blk.otherAt ?_ (by first | omega | (simp; done) | (simp; omega))) | (with_reducible refine BlkP.Blk.newA' (by first | omega | (simp; done) | (simp; omega)) rfl) | (with_reducible refine BlkP.Blk.alloc ?_ _) | (exact rfl))), by
    have qHW2 := HW2.out
    have qHNt := HNt.out
    have qHNr17 := HNr17.out
    have qHNd17 := HNd17.out
    have qHNr18 := HNr18.out
    have qHNd18 := HNd18.out
    have qHNu := HNu.out
    have zl := Hd1738.out.lt
    (repeat' (first | (with_reducible exact Hd1738.out) | (with_reducible refine BlkP.Blk.drew ?_) | (with_reducible refine BlkP.Blk.drewN ?_ _) | (with_reducible refine BlkP.Blk.setAt (us := ?_) (by first | omega | (simp; done) | (simp; omega)) rfl ?_ ?_) | (with_reducible refine BlkP.Blk.otherAt ?_ (by first | omega | (simp; done) | (simp; omega))) | (with_reducible refine BlkP.Blk.newA' (by first | omega | (simp; done) | (simp; omega)) rfl) | (with_reducible refine BlkP.Blk.alloc ?_ _) | (exact rfl))), by
    have qHW2 := HW2.out
    have qHNt := HNt.out
    have qHNr17 := HNr17.out
    have qHNd17 := HNd17.out
    have qHNr18 := HNr18.out
    have qHNd18 := HNd18.out
    have qHNu := HNu.out
    have zl := Hr1838.out.lt
    (repeat' (first | (with_reducible exact Hr1838.out) | (with_reducible refine BlkP.Blk.drew ?_) | (with_reducible refine BlkP.Blk.drewN ?_ _) | (with_reducible refine BlkP.Blk.setAt (us := ?_) (by first | omega | (simp; done) | (simp; omega)) rfl ?_ ?_) | (with_reducible refine BlkP.Blk.otherAt ?_ (by first | omega | (simp; done) | (simp; omega))) | (with_reducible refine BlkP.Blk.newA' (by first | omega | (simp; done) | (simp; omega)) rfl) | (with_reducible refine BlkP.Blk.alloc ?_ _) | (exact rfl))), by
    have qHW2 := HW2.out
    have qHNt := HNt.out
    have qHNr17 := HNr17.out
    have qHNd17 := HNd17.out
    have qHNr18 := HNr18.out
    have qHNd18 := HNd18.out
    have qHNu := HNu.out
    have zl := Hd1838.out.lt
    (repeat' (first | (with_reducible exact Hd1838.out) | (with_reducible refine BlkP.Blk.drew ?_) | (with_reducible refine BlkP.Blk.drewN ?_ _) | (with_reducible refine BlkP.Blk.setAt (us := ?_) (by first | omega | (simp; done) | (simp; omega)) rfl ?_ ?_) | (with_reducible refine BlkP.Blk.otherAt ?_ (by first | omega | (simp; done) | (simp; omega))) | (with_reducible refine BlkP.Blk.newA' (by first | omega | (simp; done) | (simp; omega)) rfl) | (with_reducible refine BlkP.Blk.alloc ?_ _) | (exact rfl))), by
    subst hbu
    (repeat' (first | (with_reducible refine BlkP.Blk.drew ?_) | (with_reducible refine BlkP.Blk.drewN ?_ _) | (with_reducible refine BlkP.Blk.setAt (us := ?_) (by first | omega | (simp; done) | (simp; omega)) rfl ?_ ?_) | (with_reducible refine BlkP.Blk.otherAt ?_ (by first | omega | (simp; done) | (simp; omega))) | (with_reducible refine BlkP.Blk.newA' (by first | omega | (simp; done) | (simp; omega)) rfl) | (with_reducible refine BlkP.Blk.alloc ?_ _) | (exact rfl)))⟩ ?_
  rintro w39 ⟨hbx, hxst, hxr17, hxd17, hxr18, hxd18, hxu⟩
  try rw [hbu]
  have HB39 := Lib.hid hbx
  have Hst39 := Lib.hid hxst
  have Hr1739 := Lib.hid hxr17
  have Hd1739 := Lib.hid hxd17
  have Hr1839 := Lib.hid hxr18
  have Hd1839 := Lib.hid hxd18
  have Hu39 := Lib.hid hxu
  clear hbx hxst hxr17 hxd17 hxr18 hxd18 hxu
  obtain ⟨q40, hq40⟩ : ∃ q : Nr, q = (⟨(13, 1), fun i => [(0, 0), (0, 0), (0, 0), (0, 0), (0, 0), (0, 0)].getD i (0, 0), fun i => [(0, 0), (0, 0), (0, 0), (0, 0)].getD i (0, 0), 0, 0⟩ : Nr) := ⟨_, rfl⟩
  have HV40 := Lib.hid (show vals q40 = [.int .u8 13, .int .u8 1, .int .u8 0, .int .u8 0, .int .u8 0, .int .u8 0, .int .u8 0, .int .u8 0, .int .u8 0, .int .u8 0, .int .u8 0, .int .u8 0, .int .u8 0, .int .u8 0, .int .u8 0, .int .u8 0, .int .u8 0, .int .u8 0, .int .u8 0, .int .u8 0, .int .u8 0, .int .u8 0, .int .u8 0, .int .u64 0] from by
    subst hq40
    rfl)
  refine wp_storeN rfl (.tmp 19) (.tmp 147) rfl rfl (n := q40) (by subst hq40; rfl) Hu39.out rfl ?_
  intro w40 hk hgk hzk
  clear hq40 hbu
  have qN := HNu.out
  have HB40 := Lib.hid (show Below w.heap.size w w40 from HB39.out.grown hgk (by have := HB39.out.size; omega) (fun q hq => by injection hq with hq; omega))
  have Hst40 := Lib.hid (Hst39.out.grown hgk (by simp; omega))
  have Hr1740 := Lib.hid (Hr1739.out.grown hgk (by simp; omega))
  have Hd1740 := Lib.hid (Hd1739.out.grown hgk (by simp; omega))
  have Hr1840 := Lib.hid (Hr1839.out.grown hgk (by simp; omega))
  have Hd1840 := Lib.hid (Hd1839.out.grown hgk (by simp; omega))
  have Hu40 := Lib.hid (show Blk w40 bu TN [.int .u8 13, .int .u8 1, .int .u8 0, .int .u8 0, .int .u8 0, .int .u8 0, .int .u8 0, .int .u8 0, .int .u8 0, .int .u8 0, .int .u8 0, .int .u8 0, .int .u8 0, .int .u8 0, .int .u8 0, .int .u8 0, .int .u8 0, .int .u8 0, .int .u8 0, .int .u8 0, .int .u8 0, .int .u8 0, .int .u8 0, .int .u64 0] from by
    rw [← HV40.out]
    exact hk)
  clear hk hgk hzk qN
  go_wp2_with fail
  refine (wk_c (l := 0)).mono ?_
  rintro e w41 ⟨rfl, hbq⟩
  have HB41 := Lib.hid (below_t HB40.out hbq)
  have Hst41 := Lib.hid (Hst40.out.below hbq)
  have Hr1741 := Lib.hid (Hr1740.out.below hbq)
  have Hd1741 := Lib.hid (Hd1740.out.below hbq)
  have Hr1841 := Lib.hid (Hr1840.out.below hbq)
  have Hd1841 := Lib.hid (Hd1840.out.below hbq)
  have Hu41 := Lib.hid (Hu40.out.below hbq)
  clear hbq
  have m10 : w41.cell? ⟨bu, 10, none⟩ = some (.int .u8 0) := Hu41.out.cell rfl
  have f10 := Hu41.out.frozen 10
  have m11 : w41.cell? ⟨bu, 11, none⟩ = some (.int .u8 0) := Hu41.out.cell rfl
  have f11 := Hu41.out.frozen 11
  go_wp2_with ((with_reducible refine at_slot 152 ?_); refine Classical.byContradiction (fun hG => ?_))
  refine hG ?_
  clear hG
  refine list_named (S := fun W => Below w.heap.size w W ∧ Blk W b2 TC [.int .u8 2, .int .u8 0] ∧ Blk W g17 TX us17 ∧ Blk W b17 TD [.slice (some ⟨g17, 0, none⟩) 1 c17, .int .i64 0, .int .i64 0] ∧ Blk W g18 TX us18 ∧ Blk W b18 TD [.slice (some ⟨g18, 0, none⟩) 1 c18, .int .i64 0, .int .i64 0] ∧ Blk W bu TN [.int .u8 13, .int .u8 1, .int .u8 0, .int .u8 0, .int .u8 0, .int .u8 0, .int .u8 0, .int .u8 0, .int .u8 0, .int .u8 0, .int .u8 13, .int .u8 0, .int .u8 0, .int .u8 0, .int .u8 0, .int .u8 0, .int .u8 0, .int .u8 0, .int .u8 0, .int .u8 0, .int .u8 0, .int .u8 0, .int .u8 0, .int .u64 0]) ⟨by
    have zz := HB41.out.size
    have qHW2 := HW2.out
    have qHNt := HNt.out
    have qHNr17 := HNr17.out
    have qHNd17 := HNd17.out
    have qHNr18 := HNr18.out
    have qHNd18 := HNd18.out
    have qHNu := HNu.out
    (repeat' (first | (with_reducible exact Below.refl _ _) | (with_reducible refine Below.setCell ?_ (by (first | omega | (simp; done) | (simp; omega))) _) | (with_reducible refine Below.alloc ?_ (by (first | omega | (simp; done) | (simp; omega))) _) | (with_reducible refine Below.drew ?_) | (with_reducible refine below_drewN ?_ _) | (with_reducible refine Below.trans ?_ (Below.mono HB41.out (by (first | omega | (simp; done) | (simp; omega))))))), by
    have qHW2 := HW2.out
    have qHNt := HNt.out
    have qHNr17 := HNr17.out
    have qHNd17 := HNd17.out
    have qHNr18 := HNr18.out
    have qHNd18 := HNd18.out
    have qHNu := HNu.out
    have zl := Hst41.out.lt
    (repeat' (first | (with_reducible exact Hst41.out) | (with_reducible refine BlkP.Blk.drew ?_) | (with_reducible refine BlkP.Blk.drewN ?_ _) | (with_reducible refine BlkP.Blk.setAt (us := ?_) (by first | omega | (simp; done) | (simp; omega)) rfl ?_ ?_) | (with_reducible refine BlkP.Blk.otherAt ?_ (by first | omega | (simp; done) | (simp; omega))) | (with_reducible refine BlkP.Blk.newA' (by first | omega | (simp; done) | (simp; omega)) rfl) | (with_reducible refine BlkP.Blk.alloc ?_ _) | (exact rfl))), by
    have qHW2 := HW2.out
    have qHNt := HNt.out
    have qHNr17 := HNr17.out
    have qHNd17 := HNd17.out
    have qHNr18 := HNr18.out
    have qHNd18 := HNd18.out
    have qHNu := HNu.out
    have zl := Hr1741.out.lt
    (repeat' (first | (with_reducible exact Hr1741.out) | (with_reducible refine BlkP.Blk.drew ?_) | (with_reducible refine BlkP.Blk.drewN ?_ _) | (with_reducible refine BlkP.Blk.setAt (us := ?_) (by first | omega | (simp; done) | (simp; omega)) rfl ?_ ?_) | (with_reducible refine BlkP.Blk.otherAt ?_ (by first | omega | (simp; done) | (simp; omega))) | (with_reducible refine BlkP.Blk.newA' (by first | omega | (simp; done) | (simp; omega)) rfl) | (with_reducible refine BlkP.Blk.alloc ?_ _) | (exact rfl))), by
    have qHW2 := HW2.out
    have qHNt := HNt.out
    have qHNr17 := HNr17.out
    have qHNd17 := HNd17.out
    have qHNr18 := HNr18.out
    have qHNd18 := HNd18.out
    have qHNu := HNu.out
    have zl := Hd1741.out.lt
    (repeat' (first | (with_reducible exact Hd1741.out) | (with_reducible refine BlkP.Blk.drew ?_) | (with_reducible refine BlkP.Blk.drewN ?_ _) | (with_reducible refine BlkP.Blk.setAt (us := ?_) (by first | omega | (simp; done) | (simp; omega)) rfl ?_ ?_) | (with_reducible refine BlkP.Blk.otherAt ?_ (by first | omega | (simp; done) | (simp; omega))) | (with_reducible refine BlkP.Blk.newA' (by first | omega | (simp; done) | (simp; omega)) rfl) | (with_reducible refine BlkP.Blk.alloc ?_ _) | (exact rfl))), by
    have qHW2 := HW2.out
    have qHNt := HNt.out
    have qHNr17 := HNr17.out
    have qHNd17 := HNd17.out
    have qHNr18 := HNr18.out
    have qHNd18 := HNd18.out
    have qHNu := HNu.out
    have zl := Hr1841.out.lt
    (repeat' (first | (with_reducible exact Hr1841.out) | (with_reducible refine BlkP.Blk.drew ?_) | (with_reducible refine BlkP.Blk.drewN ?_ _) | (with_reducible refine BlkP.Blk.setAt (us := ?_) (by first | omega | (simp; done) | (simp; omega)) rfl ?_ ?_) | (with_reducible refine BlkP.Blk.otherAt ?_ (by first | omega | (simp; done) | (simp; omega))) | (with_reducible refine BlkP.Blk.newA' (by first | omega | (simp; done) | (simp; omega)) rfl) | (with_reducible refine BlkP.Blk.alloc ?_ _) | (exact rfl))), by
    have qHW2 := HW2.out
    have qHNt := HNt.out
    have qHNr17 := HNr17.out
    have qHNd17 := HNd17.out
    have qHNr18 := HNr18.out
    have qHNd18 := HNd18.out
    have qHNu := HNu.out
    have zl := Hd1841.out.lt
    (repeat' (first | (with_reducible exact Hd1841.out) | (with_reducible refine BlkP.Blk.drew ?_) | (with_reducible refine BlkP.Blk.drewN ?_ _) | (with_reducible refine BlkP.Blk.setAt (us := ?_) (by first | omega | (simp; done) | (simp; omega)) rfl ?_ ?_) | (with_reducible refine BlkP.Blk.otherAt ?_ (by first | omega | (simp; done) | (simp; omega))) | (with_reducible refine BlkP.Blk.newA' (by first | omega | (simp; done) | (simp; omega)) rfl) | (with_reducible refine BlkP.Blk.alloc ?_ _) | (exact rfl))), by
    have qHW2 := HW2.out
    have qHNt := HNt.out
    have qHNr17 := HNr17.out
    have qHNd17 := HNd17.out
    have qHNr18 := HNr18.out
    have qHNd18 := HNd18.out
    have qHNu := HNu.out
    have zl := Hu41.out.lt
    (repeat' (first | (with_reducible exact Hu41.out) | (with_reducible refine BlkP.Blk.drew ?_) | (with_reducible refine BlkP.Blk.drewN ?_ _) | (with_reducible refine BlkP.Blk.setAt (us := ?_) (by first | omega | (simp; done) | (simp; omega)) rfl ?_ ?_) | (with_reducible refine BlkP.Blk.otherAt ?_ (by first | omega | (simp; done) | (simp; omega))) | (with_reducible refine BlkP.Blk.newA' (by first | omega | (simp; done) | (simp; omega)) rfl) | (with_reducible refine BlkP.Blk.alloc ?_ _) | (exact rfl)))⟩ ?_
  rintro w42 ⟨hbx, hxst, hxr17, hxd17, hxr18, hxd18, hxu⟩
  have HB42 := Lib.hid hbx
  have Hst42 := Lib.hid hxst
  have Hr1742 := Lib.hid hxr17
  have Hd1742 := Lib.hid hxd17
  have Hr1842 := Lib.hid hxr18
  have Hd1842 := Lib.hid hxd18
  have Hu42 := Lib.hid hxu
  clear hbx hxst hxr17 hxd17 hxr18 hxd18 hxu
  clear m10 m11 f10 f11
  have s0 : w42.cell? ⟨b2, 0, none⟩ = some (.int .u8 2) := Hst42.out.cell rfl
  have s1 : w42.cell? ⟨b2, 1, none⟩ = some (.int .u8 0) := Hst42.out.cell rfl
  have m12 : w42.cell? ⟨bu, 12, none⟩ = some (.int .u8 0) := Hu42.out.cell rfl
  have f12 := Hu42.out.frozen 12
  have m13 : w42.cell? ⟨bu, 13, none⟩ = some (.int .u8 0) := Hu42.out.cell rfl
  have f13 := Hu42.out.frozen 13
  go_wp2_with ((with_reducible refine at_slot 155 ?_); refine Classical.byContradiction (fun hG => ?_))
  refine hG ?_
  clear hG
  refine list_named (S := fun W => Below w.heap.size w W ∧ Blk W b2 TC [.int .u8 2, .int .u8 0] ∧ Blk W g17 TX us17 ∧ Blk W b17 TD [.slice (some ⟨g17, 0, none⟩) 1 c17, .int .i64 0, .int .i64 0] ∧ Blk W g18 TX us18 ∧ Blk W b18 TD [.slice (some ⟨g18, 0, none⟩) 1 c18, .int .i64 0, .int .i64 0] ∧ Blk W bu TN [.int .u8 13, .int .u8 1, .int .u8 0, .int .u8 0, .int .u8 0, .int .u8 0, .int .u8 0, .int .u8 0, .int .u8 0, .int .u8 0, .int .u8 13, .int .u8 0, .int .u8 2, .int .u8 0, .int .u8 0, .int .u8 0, .int .u8 0, .int .u8 0, .int .u8 0, .int .u8 0, .int .u8 0, .int .u8 0, .int .u8 0, .int .u64 0]) ⟨by
    have zz := HB42.out.size
    have qHW2 := HW2.out
    have qHNt := HNt.out
    have qHNr17 := HNr17.out
    have qHNd17 := HNd17.out
    have qHNr18 := HNr18.out
    have qHNd18 := HNd18.out
    have qHNu := HNu.out
    (repeat' (first | (with_reducible exact Below.refl _ _) | (with_reducible refine Below.setCell ?_ (by (first | omega | (simp; done) | (simp; omega))) _) | (with_reducible refine Below.alloc ?_ (by (first | omega | (simp; done) | (simp; omega))) _) | (with_reducible refine Below.drew ?_) | (with_reducible refine below_drewN ?_ _) | (with_reducible refine Below.trans ?_ (Below.mono HB42.out (by (first | omega | (simp; done) | (simp; omega))))))), by
    have qHW2 := HW2.out
    have qHNt := HNt.out
    have qHNr17 := HNr17.out
    have qHNd17 := HNd17.out
    have qHNr18 := HNr18.out
    have qHNd18 := HNd18.out
    have qHNu := HNu.out
    have zl := Hst42.out.lt
    (repeat' (first | (with_reducible exact Hst42.out) | (with_reducible refine BlkP.Blk.drew ?_) | (with_reducible refine BlkP.Blk.drewN ?_ _) | (with_reducible refine BlkP.Blk.setAt (us := ?_) (by first | omega | (simp; done) | (simp; omega)) rfl ?_ ?_) | (with_reducible refine BlkP.Blk.otherAt ?_ (by first | omega | (simp; done) | (simp; omega))) | (with_reducible refine BlkP.Blk.newA' (by first | omega | (simp; done) | (simp; omega)) rfl) | (with_reducible refine BlkP.Blk.alloc ?_ _) | (exact rfl))), by
    have qHW2 := HW2.out
    have qHNt := HNt.out
    have qHNr17 := HNr17.out
    have qHNd17 := HNd17.out
    have qHNr18 := HNr18.out
    have qHNd18 := HNd18.out
    have qHNu := HNu.out
    have zl := Hr1742.out.lt
    (repeat' (first | (with_reducible exact Hr1742.out) | (with_reducible refine BlkP.Blk.drew ?_) | (with_reducible refine BlkP.Blk.drewN ?_ _) | (with_reducible refine BlkP.Blk.setAt (us := ?_) (by first | omega | (simp; done) | (simp; omega)) rfl ?_ ?_) | (with_reducible refine BlkP.Blk.otherAt ?_ (by first | omega | (simp; done) | (simp; omega))) | (with_reducible refine BlkP.Blk.newA' (by first | omega | (simp; done) | (simp; omega)) rfl) | (with_reducible refine BlkP.Blk.alloc ?_ _) | (exact rfl))), by
    have qHW2 := HW2.out
    have qHNt := HNt.out
    have qHNr17 := HNr17.out
    have qHNd17 := HNd17.out
    have qHNr18 := HNr18.out
    have qHNd18 := HNd18.out
    have qHNu := HNu.out
    have zl := Hd1742.out.lt
    (repeat' (first | (with_reducible exact Hd1742.out) | (with_reducible refine BlkP.Blk.drew ?_) | (with_reducible refine BlkP.Blk.drewN ?_ _) | (with_reducible refine BlkP.Blk.setAt (us := ?_) (by first | omega | (simp; done) | (simp; omega)) rfl ?_ ?_) | (with_reducible refine BlkP.Blk.otherAt ?_ (by first | omega | (simp; done) | (simp; omega))) | (with_reducible refine BlkP.Blk.newA' (by first | omega | (simp; done) | (simp; omega)) rfl) | (with_reducible refine BlkP.Blk.alloc ?_ _) | (exact rfl))), by
    have qHW2 := HW2.out
    have qHNt := HNt.out
    have qHNr17 := HNr17.out
    have qHNd17 := HNd17.out
    have qHNr18 := HNr18.out
    have qHNd18 := HNd18.out
    have qHNu := HNu.out
    have zl := Hr1842.out.lt
    (repeat' (first | (with_reducible exact Hr1842.out) | (with_reducible refine BlkP.Blk.drew ?_) | (with_reducible refine BlkP.Blk.drewN ?_ _) | (with_reducible refine BlkP.Blk.setAt (us := ?_) (by first | omega | (simp; done) | (simp; omega)) rfl ?_ ?_) | (with_reducible refine BlkP.Blk.otherAt ?_ (by first | omega | (simp; done) | (simp; omega))) | (with_reducible refine BlkP.Blk.newA' (by first | omega | (simp; done) | (simp; omega)) rfl) | (with_reducible refine BlkP.Blk.alloc ?_ _) | (exact rfl))), by
    have qHW2 := HW2.out
    have qHNt := HNt.out
    have qHNr17 := HNr17.out
    have qHNd17 := HNd17.out
    have qHNr18 := HNr18.out
    have qHNd18 := HNd18.out
    have qHNu := HNu.out
    have zl := Hd1842.out.lt
    (repeat' (first | (with_reducible exact Hd1842.out) | (with_reducible refine BlkP.Blk.drew ?_) | (with_reducible refine BlkP.Blk.drewN ?_ _) | (with_reducible refine BlkP.Blk.setAt (us := ?_) (by first | omega | (simp; done) | (simp; omega)) rfl ?_ ?_) | (with_reducible refine BlkP.Blk.otherAt ?_ (by first | omega | (simp; done) | (simp; omega))) | (with_reducible refine BlkP.Blk.newA' (by first | omega | (simp; done) | (simp; omega)) rfl) | (with_reducible refine BlkP.Blk.alloc ?_ _) | (exact rfl))), by
    have qHW2 := HW2.out
    have qHNt := HNt.out
    have qHNr17 := HNr17.out
    have qHNd17 := HNd17.out
    have qHNr18 := HNr18.out
    have qHNd18 := HNd18.out
    have qHNu := HNu.out
    have zl := Hu42.out.lt
    (repeat' (first | (with_reducible exact Hu42.out) | (with_reducible refine BlkP.Blk.drew ?_) | (with_reducible refine BlkP.Blk.drewN ?_ _) | (with_reducible refine BlkP.Blk.setAt (us := ?_) (by first | omega | (simp; done) | (simp; omega)) rfl ?_ ?_) | (with_reducible refine BlkP.Blk.otherAt ?_ (by first | omega | (simp; done) | (simp; omega))) | (with_reducible refine BlkP.Blk.newA' (by first | omega | (simp; done) | (simp; omega)) rfl) | (with_reducible refine BlkP.Blk.alloc ?_ _) | (exact rfl)))⟩ ?_
  rintro w43 ⟨hbx, hxst, hxr17, hxd17, hxr18, hxd18, hxu⟩
  have HB43 := Lib.hid hbx
  have Hst43 := Lib.hid hxst
  have Hr1743 := Lib.hid hxr17
  have Hd1743 := Lib.hid hxd17
  have Hr1843 := Lib.hid hxr18
  have Hd1843 := Lib.hid hxd18
  have Hu43 := Lib.hid hxu
  clear hbx hxst hxr17 hxd17 hxr18 hxd18 hxu
  clear m12 m13 f12 f13 s0 s1
  have s0 : w43.cell? ⟨b2, 0, none⟩ = some (.int .u8 2) := Hst43.out.cell rfl
  have s1 : w43.cell? ⟨b2, 1, none⟩ = some (.int .u8 0) := Hst43.out.cell rfl
  have m2 : w43.cell? ⟨bu, 2, none⟩ = some (.int .u8 0) := Hu43.out.cell rfl
  have f2 := Hu43.out.frozen 2
  have m3 : w43.cell? ⟨bu, 3, none⟩ = some (.int .u8 0) := Hu43.out.cell rfl
  have f3 := Hu43.out.frozen 3
  have m6 : w43.cell? ⟨bu, 6, none⟩ = some (.int .u8 0) := Hu43.out.cell rfl
  have f6 := Hu43.out.frozen 6
  have m7 : w43.cell? ⟨bu, 7, none⟩ = some (.int .u8 0) := Hu43.out.cell rfl
  have f7 := Hu43.out.frozen 7
  go_wp2_with ((with_reducible refine at_slot 161 ?_); refine Classical.byContradiction (fun hG => ?_))
  refine hG ?_
  clear hG
  refine list_named (S := fun W => Below w.heap.size w W ∧ Blk W b2 TC [.int .u8 2, .int .u8 0] ∧ Blk W g17 TX us17 ∧ Blk W b17 TD [.slice (some ⟨g17, 0, none⟩) 1 c17, .int .i64 0, .int .i64 0] ∧ Blk W g18 TX us18 ∧ Blk W b18 TD [.slice (some ⟨g18, 0, none⟩) 1 c18, .int .i64 0, .int .i64 0] ∧ Blk W bu TN [.int .u8 13, .int .u8 1, .int .u8 2, .int .u8 0, .int .u8 0, .int .u8 0, .int .u8 11, .int .u8 9, .int .u8 0, .int .u8 0, .int .u8 13, .int .u8 0, .int .u8 2, .int .u8 0, .int .u8 0, .int .u8 0, .int .u8 0, .int .u8 0, .int .u8 0, .int .u8 0, .int .u8 0, .int .u8 0, .int .u8 0, .int .u64 0]) ⟨by
    have zz := HB43.out.size
    have qHW2 := HW2.out
    have qHNt := HNt.out
    have qHNr17 := HNr17.out
    have qHNd17 := HNd17.out
    have qHNr18 := HNr18.out
    have qHNd18 := HNd18.out
    have qHNu := HNu.out
    (repeat' (first | (with_reducible exact Below.refl _ _) | (with_reducible refine Below.setCell ?_ (by (first | omega | (simp; done) | (simp; omega))) _) | (with_reducible refine Below.alloc ?_ (by (first | omega | (simp; done) | (simp; omega))) _) | (with_reducible refine Below.drew ?_) | (with_reducible refine below_drewN ?_ _) | (with_reducible refine Below.trans ?_ (Below.mono HB43.out (by (first | omega | (simp; done) | (simp; omega))))))), by
    have qHW2 := HW2.out
    have qHNt := HNt.out
    have qHNr17 := HNr17.out
    have qHNd17 := HNd17.out
    have qHNr18 := HNr18.out
    have qHNd18 := HNd18.out
    have qHNu := HNu.out
    have zl := Hst43.out.lt
    (repeat' (first | (with_reducible exact Hst43.out) | (with_reducible refine BlkP.Blk.drew ?_) | (with_reducible refine BlkP.Blk.drewN ?_ _) | (with_reducible refine BlkP.Blk.setAt (us := ?_) (by first | omega | (simp; done) | (simp; omega)) rfl ?_ ?_) | (with_reducible refine BlkP.Blk.otherAt ?_ (by first | omega | (simp; done) | (simp; omega))) | (with_reducible refine BlkP.Blk.newA' (by first | omega | (simp; done) | (simp; omega)) rfl) | (with_reducible refine BlkP.Blk.alloc ?_ _) | (exact rfl))), by
    have qHW2 := HW2.out
    have qHNt := HNt.out
    have qHNr17 := HNr17.out
    have qHNd17 := HNd17.out
    have qHNr18 := HNr18.out
    have qHNd18 := HNd18.out
    have qHNu := HNu.out
    have zl := Hr1743.out.lt
    (repeat' (first | (with_reducible exact Hr1743.out) | (with_reducible refine BlkP.Blk.drew ?_) | (with_reducible refine BlkP.Blk.drewN ?_ _) | (with_reducible refine BlkP.Blk.setAt (us := ?_) (by first | omega | (simp; done) | (simp; omega)) rfl ?_ ?_) | (with_reducible refine BlkP.Blk.otherAt ?_ (by first | omega | (simp; done) | (simp; omega))) | (with_reducible refine BlkP.Blk.newA' (by first | omega | (simp; done) | (simp; omega)) rfl) | (with_reducible refine BlkP.Blk.alloc ?_ _) | (exact rfl))), by
    have qHW2 := HW2.out
    have qHNt := HNt.out
    have qHNr17 := HNr17.out
    have qHNd17 := HNd17.out
    have qHNr18 := HNr18.out
    have qHNd18 := HNd18.out
    have qHNu := HNu.out
    have zl := Hd1743.out.lt
    (repeat' (first | (with_reducible exact Hd1743.out) | (with_reducible refine BlkP.Blk.drew ?_) | (with_reducible refine BlkP.Blk.drewN ?_ _) | (with_reducible refine BlkP.Blk.setAt (us := ?_) (by first | omega | (simp; done) | (simp; omega)) rfl ?_ ?_) | (with_reducible refine BlkP.Blk.otherAt ?_ (by first | omega | (simp; done) | (simp; omega))) | (with_reducible refine BlkP.Blk.newA' (by first | omega | (simp; done) | (simp; omega)) rfl) | (with_reducible refine BlkP.Blk.alloc ?_ _) | (exact rfl))), by
    have qHW2 := HW2.out
    have qHNt := HNt.out
    have qHNr17 := HNr17.out
    have qHNd17 := HNd17.out
    have qHNr18 := HNr18.out
    have qHNd18 := HNd18.out
    have qHNu := HNu.out
    have zl := Hr1843.out.lt
    (repeat' (first | (with_reducible exact Hr1843.out) | (with_reducible refine BlkP.Blk.drew ?_) | (with_reducible refine BlkP.Blk.drewN ?_ _) | (with_reducible refine BlkP.Blk.setAt (us := ?_) (by first | omega | (simp; done) | (simp; omega)) rfl ?_ ?_) | (with_reducible refine BlkP.Blk.otherAt ?_ (by first | omega | (simp; done) | (simp; omega))) | (with_reducible refine BlkP.Blk.newA' (by first | omega | (simp; done) | (simp; omega)) rfl) | (with_reducible refine BlkP.Blk.alloc ?_ _) | (exact rfl))), by
    have qHW2 := HW2.out
    have qHNt := HNt.out
    have qHNr17 := HNr17.out
    have qHNd17 := HNd17.out
    have qHNr18 := HNr18.out
    have qHNd18 := HNd18.out
    have qHNu := HNu.out
    have zl := Hd1843.out.lt
    (repeat' (first | (with_reducible exact Hd1843.out) | (with_reducible refine BlkP.Blk.drew ?_) | (with_reducible refine BlkP.Blk.drewN ?_ _) | (with_reducible refine BlkP.Blk.setAt (us := ?_) (by first | omega | (simp; done) | (simp; omega)) rfl ?_ ?_) | (with_reducible refine BlkP.Blk.otherAt ?_ (by first | omega | (simp; done) | (simp; omega))) | (with_reducible refine BlkP.Blk.newA' (by first | omega | (simp; done) | (simp; omega)) rfl) | (with_reducible refine BlkP.Blk.alloc ?_ _) | (exact rfl))), by
    have qHW2 := HW2.out
    have qHNt := HNt.out
    have qHNr17 := HNr17.out
    have qHNd17 := HNd17.out
    have qHNr18 := HNr18.out
    have qHNd18 := HNd18.out
    have qHNu := HNu.out
    have zl := Hu43.out.lt
    (repeat' (first | (with_reducible exact Hu43.out) | (with_reducible refine BlkP.Blk.drew ?_) | (with_reducible refine BlkP.Blk.drewN ?_ _) | (with_reducible refine BlkP.Blk.setAt (us := ?_) (by first | omega | (simp; done) | (simp; omega)) rfl ?_ ?_) | (with_reducible refine BlkP.Blk.otherAt ?_ (by first | omega | (simp; done) | (simp; omega))) | (with_reducible refine BlkP.Blk.newA' (by first | omega | (simp; done) | (simp; omega)) rfl) | (with_reducible refine BlkP.Blk.alloc ?_ _) | (exact rfl)))⟩ ?_
  rintro w44 ⟨hbx, hxst, hxr17, hxd17, hxr18, hxd18, hxu⟩
  have HB44 := Lib.hid hbx
  have Hst44 := Lib.hid hxst
  have Hr1744 := Lib.hid hxr17
  have Hd1744 := Lib.hid hxd17
  have Hr1844 := Lib.hid hxr18
  have Hd1844 := Lib.hid hxd18
  have Hu44 := Lib.hid hxu
  clear hbx hxst hxr17 hxd17 hxr18 hxd18 hxu
  clear m2 m3 f2 f3 s0 s1
  clear m6 m7 f6 f7
  obtain ⟨q45, hq45⟩ : ∃ q : Nr, q = (⟨(13, 1), fun i => [(2, 0), (0, 0), (11, 9), (0, 0), (13, 0), (2, 0)].getD i (0, 0), fun i => [(0, 0), (0, 0), (0, 0), (0, 0)].getD i (0, 0), 0, 0⟩ : Nr) := ⟨_, rfl⟩
  have HQ45 := Lib.hid (show deed q45 = [(2, (13, 2)), (3, (13, 2)), (4, (13, 2))] from by
    subst hq45
    decide)
  have HV45 := Lib.hid (show vals q45 = [.int .u8 13, .int .u8 1, .int .u8 2, .int .u8 0, .int .u8 0, .int .u8 0, .int .u8 11, .int .u8 9, .int .u8 0, .int .u8 0, .int .u8 13, .int .u8 0, .int .u8 2, .int .u8 0, .int .u8 0, .int .u8 0, .int .u8 0, .int .u8 0, .int .u8 0, .int .u8 0, .int .u8 0, .int .u8 0, .int .u8 0, .int .u64 0] from by
    subst hq45
    rfl)
  clear hq45
  refine wp_loadN rfl (.tmp 19) rfl rfl (n := q45) (by rw [HV45.out]; exact Hu44.out) ?_
  go_wp2_with fail
  refine (Next_c (HT.out.below HB44.out)).mono ?_
  rintro e w45 ⟨v, rfl, ho, hbq⟩
  rw [HQ45.out] at ho
  obtain ⟨A20, c20, rfl, _, _, hA⟩ := ho.form (n := 3) rfl
  obtain ⟨g20, rfl, hg1, hg2⟩ := hA (by omega)
  obtain ⟨us20, hr20, hu⟩ := own_blk ho
  have HU20 := Lib.hid (show us20[0]? = some (.int .i64 2) ∧ us20[1]? = some (.int .u8 13) ∧ us20[2]? = some (.int .u8 2) ∧ us20[3]? = some (.int .i64 3) ∧ us20[4]? = some (.int .u8 13) ∧ us20[5]? = some (.int .u8 2) ∧ us20[6]? = some (.int .i64 4) ∧ us20[7]? = some (.int .u8 13) ∧ us20[8]? = some (.int .u8 2) from ⟨hu 0 0 _ _ rfl rfl, hu 0 1 _ _ rfl rfl, hu 0 2 _ _ rfl rfl, hu 1 0 _ _ rfl rfl, hu 1 1 _ _ rfl rfl, hu 1 2 _ _ rfl rfl, hu 2 0 _ _ rfl rfl, hu 2 1 _ _ rfl rfl, hu 2 2 _ _ rfl rfl⟩)
  have lst := Hst44.out.lt
  have lr17 := Hr1744.out.lt
  have ld17 := Hd1744.out.lt
  have lr18 := Hr1844.out.lt
  have ld18 := Hd1844.out.lt
  have lu := Hu44.out.lt
  have zi := HB44.out.size
  have HNr20 := Lib.hid (show w.heap.size ≤ g20 ∧ b2 < g20 ∧ g17 < g20 ∧ b17 < g20 ∧ g18 < g20 ∧ b18 < g20 ∧ bu < g20 from ⟨by omega, by omega, by omega, by omega, by omega, by omega, by omega⟩)
  clear zi lst lr17 ld17 lr18 ld18 lu
  have HB45 := Lib.hid (below_t HB44.out hbq)
  have Hst45 := Lib.hid (Hst44.out.below hbq)
  have Hr1745 := Lib.hid (Hr1744.out.below hbq)
  have Hd1745 := Lib.hid (Hd1744.out.below hbq)
  have Hr1845 := Lib.hid (Hr1844.out.below hbq)
  have Hd1845 := Lib.hid (Hd1844.out.below hbq)
  have Hu45 := Lib.hid (Hu44.out.below hbq)
  clear hbq
  have Hr2045 := Lib.hid hr20
  clear ho hA hu hg1 hr20
  obtain ⟨b20, hb20⟩ : ∃ b, w45.heap.size = b := ⟨_, rfl⟩
  have lr17 := Hr1745.out.lt
  have ld17 := Hd1745.out.lt
  have lr18 := Hr1845.out.lt
  have ld18 := Hd1845.out.lt
  have lr20 := Hr2045.out.lt
  have zi := HB45.out.size
  have HNd20 := Lib.hid (show w.heap.size ≤ b20 ∧ g17 < b20 ∧ b17 < b20 ∧ g18 < b20 ∧ b18 < b20 ∧ g20 < b20 from ⟨by omega, by omega, by omega, by omega, by omega, by omega⟩)
  clear zi lr17 ld17 lr18 ld18 lr20
  go_wp2_with fail
  refine HeldP.wp_named (S := fun W => Below w.heap.size w W ∧ Blk W g17 TX us17 ∧ Blk W b17 TD [.slice (some ⟨g17, 0, none⟩) 1 c17, .int .i64 0, .int .i64 0] ∧ Blk W g18 TX us18 ∧ Blk W b18 TD [.slice (some ⟨g18, 0, none⟩) 1 c18, .int .i64 0, .int .i64 0] ∧ Blk W g20 TX us20 ∧ Blk W b20 TD [.slice (some ⟨g20, 0, none⟩) 3 c20, .int .i64 0, .int .i64 0]) ⟨by
    have zz := HB45.out.size
    have qHW2 := HW2.out
    have qHNt := HNt.out
    have qHNr17 := HNr17.out
    have qHNd17 := HNd17.out
    have qHNr18 := HNr18.out
    have qHNd18 := HNd18.out
    have qHNu := HNu.out
    have qHNr20 := HNr20.out
    have qHNd20 := HNd20.out
    (repeat' (first | (with_reducible exact Below.refl _ _) | (with_reducible refine Below.setCell ?_ (by (first | omega | (simp; done) | (simp; omega))) _) | (with_reducible refine Below.alloc ?_ (by (first | omega | (simp; done) | (simp; omega))) _) | (with_reducible refine Below.drew ?_) | (with_reducible refine below_drewN ?_ _) | (with_reducible refine Below.trans ?_ (Below.mono HB45.out (by (first | omega | (simp; done) | (simp; omega))))))), by
    have qHW2 := HW2.out
    have qHNt := HNt.out
    have qHNr17 := HNr17.out
    have qHNd17 := HNd17.out
    have qHNr18 := HNr18.out
    have qHNd18 := HNd18.out
    have qHNu := HNu.out
    have qHNr20 := HNr20.out
    have qHNd20 := HNd20.out
    have zl := Hr1745.out.lt
    (repeat' (first | (with_reducible exact Hr1745.out) | (with_reducible refine BlkP.Blk.drew ?_) | (with_reducible refine BlkP.Blk.drewN ?_ _) | (with_reducible refine BlkP.Blk.setAt (us := ?_) (by first | omega | (simp; done) | (simp; omega)) rfl ?_ ?_) | (with_reducible refine BlkP.Blk.otherAt ?_ (by first | omega | (simp; done) | (simp; omega))) | (with_reducible refine BlkP.Blk.newA' (by first | omega | (simp; done) | (simp; omega)) rfl) | (with_reducible refine BlkP.Blk.alloc ?_ _) | (exact rfl))), by
    have qHW2 := HW2.out
    have qHNt := HNt.out
    have qHNr17 := HNr17.out
    have qHNd17 := HNd17.out
    have qHNr18 := HNr18.out
    have qHNd18 := HNd18.out
    have qHNu := HNu.out
    have qHNr20 := HNr20.out
    have qHNd20 := HNd20.out
    have zl := Hd1745.out.lt
    (repeat' (first | (with_reducible exact Hd1745.out) | (with_reducible refine BlkP.Blk.drew ?_) | (with_reducible refine BlkP.Blk.drewN ?_ _) | (with_reducible refine BlkP.Blk.setAt (us := ?_) (by first | omega | (simp; done) | (simp; omega)) rfl ?_ ?_) | (with_reducible refine BlkP.Blk.otherAt ?_ (by first | omega | (simp; done) | (simp; omega))) | (with_reducible refine BlkP.Blk.newA' (by first | omega | (simp; done) | (simp; omega)) rfl) | (with_reducible refine BlkP.Blk.alloc ?_ _) | (exact rfl))), by
    have qHW2 := HW2.out
    have qHNt := HNt.out
    have qHNr17 := HNr17.out
    have qHNd17 := HNd17.out
    have qHNr18 := HNr18.out
    have qHNd18 := HNd18.out
    have qHNu := HNu.out
    have qHNr20 := HNr20.out
    have qHNd20 := HNd20.out
    have zl := Hr1845.out.lt
    (repeat' (first | (with_reducible exact Hr1845.out) | (with_reducible refine BlkP.Blk.drew ?_) | (with_reducible refine BlkP.Blk.drewN ?_ _) | (with_reducible refine BlkP.Blk.setAt (us := ?_) (by first | omega | (simp; done) | (simp; omega)) rfl ?_ ?_) | (with_reducible refine BlkP.Blk.otherAt ?_ (by first | omega | (simp; done) | (simp; omega))) | (with_reducible refine BlkP.Blk.newA' (by first | omega | (simp; done) | (simp; omega)) rfl) | (with_reducible refine BlkP.Blk.alloc ?_ _) | (exact rfl))), by
    have qHW2 := HW2.out
    have qHNt := HNt.out
    have qHNr17 := HNr17.out
    have qHNd17 := HNd17.out
    have qHNr18 := HNr18.out
    have qHNd18 := HNd18.out
    have qHNu := HNu.out
    have qHNr20 := HNr20.out
    have qHNd20 := HNd20.out
    have zl := Hd1845.out.lt
    (repeat' (first | (with_reducible exact Hd1845.out) | (with_reducible refine BlkP.Blk.drew ?_) | (with_reducible refine BlkP.Blk.drewN ?_ _) | (with_reducible refine BlkP.Blk.setAt (us := ?_) (by first | omega | (simp; done) | (simp; omega)) rfl ?_ ?_) | (with_reducible refine BlkP.Blk.otherAt ?_ (by first | omega | (simp; done) | (simp; omega))) | (with_reducible refine BlkP.Blk.newA' (by first | omega | (simp; done) | (simp; omega)) rfl) | (with_reducible refine BlkP.Blk.alloc ?_ _) | (exact rfl))), by
    have qHW2 := HW2.out
    have qHNt := HNt.out
    have qHNr17 := HNr17.out
    have qHNd17 := HNd17.out
    have qHNr18 := HNr18.out
    have qHNd18 := HNd18.out
    have qHNu := HNu.out
    have qHNr20 := HNr20.out
    have qHNd20 := HNd20.out
    have zl := Hr2045.out.lt
    (repeat' (first | (with_reducible exact Hr2045.out) | (with_reducible refine BlkP.Blk.drew ?_) | (with_reducible refine BlkP.Blk.drewN ?_ _) | (with_reducible refine BlkP.Blk.setAt (us := ?_) (by first | omega | (simp; done) | (simp; omega)) rfl ?_ ?_) | (with_reducible refine BlkP.Blk.otherAt ?_ (by first | omega | (simp; done) | (simp; omega))) | (with_reducible refine BlkP.Blk.newA' (by first | omega | (simp; done) | (simp; omega)) rfl) | (with_reducible refine BlkP.Blk.alloc ?_ _) | (exact rfl))), by
    subst hb20
    (repeat' (first | (with_reducible refine BlkP.Blk.drew ?_) | (with_reducible refine BlkP.Blk.drewN ?_ _) | (with_reducible refine BlkP.Blk.setAt (us := ?_) (by first | omega | (simp; done) | (simp; omega)) rfl ?_ ?_) | (with_reducible refine BlkP.Blk.otherAt ?_ (by first | omega | (simp; done) | (simp; omega))) | (with_reducible refine BlkP.Blk.newA' (by first | omega | (simp; done) | (simp; omega)) rfl) | (with_reducible refine BlkP.Blk.alloc ?_ _) | (exact rfl)))⟩ ?_
  rintro w46 ⟨hbx, hxr17, hxd17, hxr18, hxd18, hxr20, hxd20⟩
  try rw [hb20]
  have HB46 := Lib.hid hbx
  have Hr1746 := Lib.hid hxr17
  have Hd1746 := Lib.hid hxd17
  have Hr1846 := Lib.hid hxr18
  have Hd1846 := Lib.hid hxd18
  have Hr2046 := Lib.hid hxr20
  have Hd2046 := Lib.hid hxd20
  clear hbx hxr17 hxd17 hxr18 hxd18 hxr20 hxd20
  clear hb20
  have p17 : w46.cell? ⟨b17, 0, none⟩ = some (.slice (some ⟨g17, 0, none⟩) 1 c17) := Hd1746.out.cell rfl
  have lp17 := Hd1746.out.lt
  have lr17 := Hr1746.out.lt
  have r17_0 : w46.cell? ⟨g17, 0, none⟩ = some (.int .i64 0) := Hr1746.out.cell HU17.out.1
  have r17_1 : w46.cell? ⟨g17, 1, none⟩ = some (.int .u8 0) := Hr1746.out.cell HU17.out.2.1
  have r17_2 : w46.cell? ⟨g17, 2, none⟩ = some (.int .u8 0) := Hr1746.out.cell HU17.out.2.2
  have p18 : w46.cell? ⟨b18, 0, none⟩ = some (.slice (some ⟨g18, 0, none⟩) 1 c18) := Hd1846.out.cell rfl
  have lp18 := Hd1846.out.lt
  have lr18 := Hr1846.out.lt
  have r18_0 : w46.cell? ⟨g18, 0, none⟩ = some (.int .i64 0) := Hr1846.out.cell HU18.out.1
  have r18_1 : w46.cell? ⟨g18, 1, none⟩ = some (.int .u8 13) := Hr1846.out.cell HU18.out.2.1
  have r18_2 : w46.cell? ⟨g18, 2, none⟩ = some (.int .u8 1) := Hr1846.out.cell HU18.out.2.2
  have p20 : w46.cell? ⟨b20, 0, none⟩ = some (.slice (some ⟨g20, 0, none⟩) 3 c20) := Hd2046.out.cell rfl
  have lp20 := Hd2046.out.lt
  have lr20 := Hr2046.out.lt
  have r20_0 : w46.cell? ⟨g20, 0, none⟩ = some (.int .i64 2) := Hr2046.out.cell HU20.out.1
  have r20_1 : w46.cell? ⟨g20, 1, none⟩ = some (.int .u8 13) := Hr2046.out.cell HU20.out.2.1
  have r20_2 : w46.cell? ⟨g20, 2, none⟩ = some (.int .u8 2) := Hr2046.out.cell HU20.out.2.2.1
  have r20_3 : w46.cell? ⟨g20, 3, none⟩ = some (.int .i64 3) := Hr2046.out.cell HU20.out.2.2.2.1
  have r20_4 : w46.cell? ⟨g20, 4, none⟩ = some (.int .u8 13) := Hr2046.out.cell HU20.out.2.2.2.2.1
  have r20_5 : w46.cell? ⟨g20, 5, none⟩ = some (.int .u8 2) := Hr2046.out.cell HU20.out.2.2.2.2.2.1
  have r20_6 : w46.cell? ⟨g20, 6, none⟩ = some (.int .i64 4) := Hr2046.out.cell HU20.out.2.2.2.2.2.2.1
  have r20_7 : w46.cell? ⟨g20, 7, none⟩ = some (.int .u8 13) := Hr2046.out.cell HU20.out.2.2.2.2.2.2.2.1
  have r20_8 : w46.cell? ⟨g20, 8, none⟩ = some (.int .u8 2) := Hr2046.out.cell HU20.out.2.2.2.2.2.2.2.2
  refine wp_region_noPanic ?_
  refine wp_region_held_drew (S := fun W => Below w46.heap.size w46 W) (by kernel_rfl) ((Below.refl _ w46).drew) (fun hHeld => ?_)
  refine wpAnyH_take (i := 0) (oi := ⟨some 163, _, _, _, _, _⟩) (v := .pointer (some ⟨b17, 0, none⟩)) rfl (by kernel_rfl) (by kernel_rfl) (by kernel_rfl) (fun _ _ _ h => h) (Or.inl ⟨by rfl, fun W hSW => by go_simp⟩) hHeld ?_
  simp only [Act.put, List.setIfInBounds_toArray, List.set_cons_zero, List.set_cons_succ]
  refine wpAnyH_take (i := 1) (oi := ⟨some 164, _, _, _, _, _⟩) (v := .slice (some ⟨g17, 0, none⟩) 1 c17) rfl (by kernel_rfl) (by kernel_rfl) (by kernel_rfl) (fun _ _ _ h => h) (Or.inl ⟨by rfl, fun W hSW => by have a0 := (hSW.cell (p := ⟨b17, 0, none⟩) lp17).trans p17; go_simp⟩) hHeld ?_
  simp only [Act.put, List.setIfInBounds_toArray, List.set_cons_zero, List.set_cons_succ]
  refine wpAnyH_take (i := 2) (oi := ⟨some 165, _, _, _, _, _⟩) (v := .int .i64 1) rfl (by kernel_rfl) (by kernel_rfl) (by kernel_rfl) (fun _ _ _ h => h) (Or.inl ⟨by rfl, fun W hSW => by go_simp⟩) hHeld ?_
  simp only [Act.put, List.setIfInBounds_toArray, List.set_cons_zero, List.set_cons_succ]
  refine wpAnyH_take (i := 3) (oi := ⟨some 166, _, _, _, _, _⟩) (v := .bool true) rfl (by kernel_rfl) (by kernel_rfl) (by kernel_rfl) (fun _ _ _ h => h) (Or.inl ⟨by rfl, fun W hSW => by go_simp⟩) hHeld ?_
  simp only [Act.put, List.setIfInBounds_toArray, List.set_cons_zero, List.set_cons_succ]
  refine wpAnyH_take (i := 4) (oi := ⟨some 167, _, _, _, _, _⟩) (v := .bool true) rfl (by kernel_rfl) (by kernel_rfl) (by kernel_rfl) (fun _ _ _ h => h) (Or.inl ⟨by rfl, fun W hSW => by go_simp⟩) hHeld ?_
  simp only [Act.put, List.setIfInBounds_toArray, List.set_cons_zero, List.set_cons_succ]
  refine wpAnyH_take (i := 5) (oi := ⟨some 168, _, _, _, _, _⟩) (v := .pointer (some ⟨b17, 0, none⟩)) rfl (by kernel_rfl) (by kernel_rfl) (by kernel_rfl) (fun _ _ _ h => h) (Or.inl ⟨by rfl, fun W hSW => by go_simp⟩) hHeld ?_
  simp only [Act.put, List.setIfInBounds_toArray, List.set_cons_zero, List.set_cons_succ]
  refine wpAnyH_take (i := 6) (oi := ⟨some 169, _, _, _, _, _⟩) (v := .slice (some ⟨g17, 0, none⟩) 1 c17) rfl (by kernel_rfl) (by kernel_rfl) (by kernel_rfl) (fun _ _ _ h => h) (Or.inl ⟨by rfl, fun W hSW => by have a0 := (hSW.cell (p := ⟨b17, 0, none⟩) lp17).trans p17; go_simp⟩) hHeld ?_
  simp only [Act.put, List.setIfInBounds_toArray, List.set_cons_zero, List.set_cons_succ]
  refine wpAnyH_take (i := 7) (oi := ⟨some 170, _, _, _, _, _⟩) (v := .pointer (some ⟨g17, 0, none⟩)) rfl (by kernel_rfl) (by kernel_rfl) (by kernel_rfl) (fun _ _ _ h => h) (Or.inl ⟨by rfl, fun W hSW => by go_simp⟩) hHeld ?_
  simp only [Act.put, List.setIfInBounds_toArray, List.set_cons_zero, List.set_cons_succ]
  refine wpAnyH_take (i := 8) (oi := ⟨some 171, _, _, _, _, _⟩) (v := .agg #[.int .i64 0, .int .u8 0, .int .u8 0]) rfl (by kernel_rfl) (by kernel_rfl) (by kernel_rfl) (fun _ _ _ h => h) (Or.inl ⟨by rfl, fun W hSW => by have a0 := (hSW.cell (p := ⟨g17, 0, none⟩) lr17).trans r17_0; have a1 := (hSW.cell (p := ⟨g17, 1, none⟩) lr17).trans r17_1; have a2 := (hSW.cell (p := ⟨g17, 2, none⟩) lr17).trans r17_2; go_simp⟩) hHeld ?_
  simp only [Act.put, List.setIfInBounds_toArray, List.set_cons_zero, List.set_cons_succ]
  refine wpAnyH_take (i := 9) (oi := ⟨some 172, _, _, _, _, _⟩) (v := .agg #[.int .i64 0, .int .u8 0, .int .u8 0]) rfl (by kernel_rfl) (by kernel_rfl) (by kernel_rfl) (fun _ _ _ h => h) (Or.inl ⟨by rfl, fun W hSW => by go_simp⟩) hHeld ?_
  simp only [Act.put, List.setIfInBounds_toArray, List.set_cons_zero, List.set_cons_succ]
  refine wpAnyH_take (i := 10) (oi := ⟨some 173, _, _, _, _, _⟩) (v := .bool true) rfl (by kernel_rfl) (by kernel_rfl) (by kernel_rfl) (fun _ _ _ h => h) (Or.inl ⟨by rfl, fun W hSW => by go_simp⟩) hHeld ?_
  simp only [Act.put, List.setIfInBounds_toArray, List.set_cons_zero, List.set_cons_succ]
  refine wpAnyH_take (i := 11) (oi := ⟨some 174, _, _, _, _, _⟩) (v := .bool true) rfl (by kernel_rfl) (by kernel_rfl) (by kernel_rfl) (fun _ _ _ h => h) (Or.inl ⟨by rfl, fun W hSW => by go_simp⟩) hHeld ?_
  simp only [Act.put, List.setIfInBounds_toArray, List.set_cons_zero, List.set_cons_succ]
  refine wpAnyH_take (i := 12) (oi := ⟨some 175, _, _, _, _, _⟩) (v := .bool true) rfl (by kernel_rfl) (by kernel_rfl) (by kernel_rfl) (fun _ _ _ h => h) (Or.inl ⟨by rfl, fun W hSW => by go_simp⟩) hHeld ?_
  simp only [Act.put, List.setIfInBounds_toArray, List.set_cons_zero, List.set_cons_succ]
  refine wpAnyH_take (i := 13) (oi := ⟨some 176, _, _, _, _, _⟩) (v := .pointer (some ⟨b18, 0, none⟩)) rfl (by kernel_rfl) (by kernel_rfl) (by kernel_rfl) (fun _ _ _ h => h) (Or.inl ⟨by rfl, fun W hSW => by go_simp⟩) hHeld ?_
  simp only [Act.put, List.setIfInBounds_toArray, List.set_cons_zero, List.set_cons_succ]
  refine wpAnyH_take (i := 14) (oi := ⟨some 177, _, _, _, _, _⟩) (v := .slice (some ⟨g18, 0, none⟩) 1 c18) rfl (by kernel_rfl) (by kernel_rfl) (by kernel_rfl) (fun _ _ _ h => h) (Or.inl ⟨by rfl, fun W hSW => by have a0 := (hSW.cell (p := ⟨b18, 0, none⟩) lp18).trans p18; go_simp⟩) hHeld ?_
  simp only [Act.put, List.setIfInBounds_toArray, List.set_cons_zero, List.set_cons_succ]
  refine wpAnyH_take (i := 15) (oi := ⟨some 178, _, _, _, _, _⟩) (v := .int .i64 1) rfl (by kernel_rfl) (by kernel_rfl) (by kernel_rfl) (fun _ _ _ h => h) (Or.inl ⟨by rfl, fun W hSW => by go_simp⟩) hHeld ?_
  simp only [Act.put, List.setIfInBounds_toArray, List.set_cons_zero, List.set_cons_succ]
  refine wpAnyH_take (i := 16) (oi := ⟨some 179, _, _, _, _, _⟩) (v := .bool true) rfl (by kernel_rfl) (by kernel_rfl) (by kernel_rfl) (fun _ _ _ h => h) (Or.inl ⟨by rfl, fun W hSW => by go_simp⟩) hHeld ?_
  simp only [Act.put, List.setIfInBounds_toArray, List.set_cons_zero, List.set_cons_succ]
  refine wpAnyH_take (i := 17) (oi := ⟨some 180, _, _, _, _, _⟩) (v := .bool true) rfl (by kernel_rfl) (by kernel_rfl) (by kernel_rfl) (fun _ _ _ h => h) (Or.inl ⟨by rfl, fun W hSW => by go_simp⟩) hHeld ?_
  simp only [Act.put, List.setIfInBounds_toArray, List.set_cons_zero, List.set_cons_succ]
  refine wpAnyH_take (i := 18) (oi := ⟨some 181, _, _, _, _, _⟩) (v := .bool true) rfl (by kernel_rfl) (by kernel_rfl) (by kernel_rfl) (fun _ _ _ h => h) (Or.inl ⟨by rfl, fun W hSW => by go_simp⟩) hHeld ?_
  simp only [Act.put, List.setIfInBounds_toArray, List.set_cons_zero, List.set_cons_succ]
  refine wpAnyH_take (i := 19) (oi := ⟨some 182, _, _, _, _, _⟩) (v := .pointer (some ⟨b18, 0, none⟩)) rfl (by kernel_rfl) (by kernel_rfl) (by kernel_rfl) (fun _ _ _ h => h) (Or.inl ⟨by rfl, fun W hSW => by go_simp⟩) hHeld ?_
  simp only [Act.put, List.setIfInBounds_toArray, List.set_cons_zero, List.set_cons_succ]
  refine wpAnyH_take (i := 20) (oi := ⟨some 183, _, _, _, _, _⟩) (v := .slice (some ⟨g18, 0, none⟩) 1 c18) rfl (by kernel_rfl) (by kernel_rfl) (by kernel_rfl) (fun _ _ _ h => h) (Or.inl ⟨by rfl, fun W hSW => by have a0 := (hSW.cell (p := ⟨b18, 0, none⟩) lp18).trans p18; go_simp⟩) hHeld ?_
  simp only [Act.put, List.setIfInBounds_toArray, List.set_cons_zero, List.set_cons_succ]
  refine wpAnyH_take (i := 21) (oi := ⟨some 184, _, _, _, _, _⟩) (v := .pointer (some ⟨g18, 0, none⟩)) rfl (by kernel_rfl) (by kernel_rfl) (by kernel_rfl) (fun _ _ _ h => h) (Or.inl ⟨by rfl, fun W hSW => by go_simp⟩) hHeld ?_
  simp only [Act.put, List.setIfInBounds_toArray, List.set_cons_zero, List.set_cons_succ]
  refine wpAnyH_take (i := 22) (oi := ⟨some 185, _, _, _, _, _⟩) (v := .agg #[.int .i64 0, .int .u8 13, .int .u8 1]) rfl (by kernel_rfl) (by kernel_rfl) (by kernel_rfl) (fun _ _ _ h => h) (Or.inl ⟨by rfl, fun W hSW => by have a0 := (hSW.cell (p := ⟨g18, 0, none⟩) lr18).trans r18_0; have a1 := (hSW.cell (p := ⟨g18, 1, none⟩) lr18).trans r18_1; have a2 := (hSW.cell (p := ⟨g18, 2, none⟩) lr18).trans r18_2; go_simp⟩) hHeld ?_
  simp only [Act.put, List.setIfInBounds_toArray, List.set_cons_zero, List.set_cons_succ]
  refine wpAnyH_take (i := 23) (oi := ⟨some 186, _, _, _, _, _⟩) (v := .func (.func 20) #[] #[]) rfl (by kernel_rfl) (by kernel_rfl) (by kernel_rfl) (fun _ _ _ h => h) (Or.inl ⟨by rfl, fun W hSW => by go_simp⟩) hHeld ?_
  simp only [Act.put, List.setIfInBounds_toArray, List.set_cons_zero, List.set_cons_succ]
  refine wpAnyH_ready (rs := [24]) (by kernel_rfl) (by simp) ?_
  refine AllReadyH.cons (o := ⟨some 187, _, _, _, _, _⟩) rfl (fun K hK => ?_) AllReadyH.nil
  go_simp
  refine (wk_c (l := 1)).mono ?_
  rintro e w992 ⟨rfl, hb992⟩
  go_wp2_with fail
  refine hK.out _ _ (below_t hHeld hb992) (fun hHeld => ?_)
  clear hK K hb992
  refine wpAnyH_take (i := 25) (oi := ⟨some 188, _, _, _, _, _⟩) (v := .agg #[.int .i64 0, .int .u8 13, .int .u8 1]) rfl (by kernel_rfl) (by kernel_rfl) (by kernel_rfl) (fun _ _ _ h => h) (Or.inl ⟨by rfl, fun W hSW => by go_simp⟩) hHeld ?_
  simp only [Act.put, List.setIfInBounds_toArray, List.set_cons_zero, List.set_cons_succ]
  refine wpAnyH_take (i := 26) (oi := ⟨some 189, _, _, _, _, _⟩) (v := .bool true) rfl (by kernel_rfl) (by kernel_rfl) (by kernel_rfl) (fun _ _ _ h => h) (Or.inl ⟨by rfl, fun W hSW => by go_simp⟩) hHeld ?_
  simp only [Act.put, List.setIfInBounds_toArray, List.set_cons_zero, List.set_cons_succ]
  refine wpAnyH_take (i := 27) (oi := ⟨some 190, _, _, _, _, _⟩) (v := .bool true) rfl (by kernel_rfl) (by kernel_rfl) (by kernel_rfl) (fun _ _ _ h => h) (Or.inl ⟨by rfl, fun W hSW => by go_simp⟩) hHeld ?_
  simp only [Act.put, List.setIfInBounds_toArray, List.set_cons_zero, List.set_cons_succ]
  refine wpAnyH_take (i := 28) (oi := ⟨some 191, _, _, _, _, _⟩) (v := .bool true) rfl (by kernel_rfl) (by kernel_rfl) (by kernel_rfl) (fun _ _ _ h => h) (Or.inl ⟨by rfl, fun W hSW => by go_simp⟩) hHeld ?_
  simp only [Act.put, List.setIfInBounds_toArray, List.set_cons_zero, List.set_cons_succ]
  refine wpAnyH_take (i := 29) (oi := ⟨some 192, _, _, _, _, _⟩) (v := .pointer (some ⟨b20, 0, none⟩)) rfl (by kernel_rfl) (by kernel_rfl) (by kernel_rfl) (fun _ _ _ h => h) (Or.inl ⟨by rfl, fun W hSW => by go_simp⟩) hHeld ?_
  simp only [Act.put, List.setIfInBounds_toArray, List.set_cons_zero, List.set_cons_succ]
  refine wpAnyH_take (i := 30) (oi := ⟨some 193, _, _, _, _, _⟩) (v := .slice (some ⟨g20, 0, none⟩) 3 c20) rfl (by kernel_rfl) (by kernel_rfl) (by kernel_rfl) (fun _ _ _ h => h) (Or.inl ⟨by rfl, fun W hSW => by have a0 := (hSW.cell (p := ⟨b20, 0, none⟩) lp20).trans p20; go_simp⟩) hHeld ?_
  simp only [Act.put, List.setIfInBounds_toArray, List.set_cons_zero, List.set_cons_succ]
  refine wpAnyH_take (i := 31) (oi := ⟨some 194, _, _, _, _, _⟩) (v := .int .i64 3) rfl (by kernel_rfl) (by kernel_rfl) (by kernel_rfl) (fun _ _ _ h => h) (Or.inl ⟨by rfl, fun W hSW => by go_simp⟩) hHeld ?_
  simp only [Act.put, List.setIfInBounds_toArray, List.set_cons_zero, List.set_cons_succ]
  refine wpAnyH_take (i := 32) (oi := ⟨some 195, _, _, _, _, _⟩) (v := .bool true) rfl (by kernel_rfl) (by kernel_rfl) (by kernel_rfl) (fun _ _ _ h => h) (Or.inl ⟨by rfl, fun W hSW => by go_simp⟩) hHeld ?_
  simp only [Act.put, List.setIfInBounds_toArray, List.set_cons_zero, List.set_cons_succ]
  refine wpAnyH_take (i := 33) (oi := ⟨some 196, _, _, _, _, _⟩) (v := .bool true) rfl (by kernel_rfl) (by kernel_rfl) (by kernel_rfl) (fun _ _ _ h => h) (Or.inl ⟨by rfl, fun W hSW => by go_simp⟩) hHeld ?_
  simp only [Act.put, List.setIfInBounds_toArray, List.set_cons_zero, List.set_cons_succ]
  refine wpAnyH_take (i := 34) (oi := ⟨some 197, _, _, _, _, _⟩) (v := .bool true) rfl (by kernel_rfl) (by kernel_rfl) (by kernel_rfl) (fun _ _ _ h => h) (Or.inl ⟨by rfl, fun W hSW => by go_simp⟩) hHeld ?_
  simp only [Act.put, List.setIfInBounds_toArray, List.set_cons_zero, List.set_cons_succ]
  refine wpAnyH_take (i := 35) (oi := ⟨some 198, _, _, _, _, _⟩) (v := .pointer (some ⟨b20, 0, none⟩)) rfl (by kernel_rfl) (by kernel_rfl) (by kernel_rfl) (fun _ _ _ h => h) (Or.inl ⟨by rfl, fun W hSW => by go_simp⟩) hHeld ?_
  simp only [Act.put, List.setIfInBounds_toArray, List.set_cons_zero, List.set_cons_succ]
  refine wpAnyH_take (i := 36) (oi := ⟨some 199, _, _, _, _, _⟩) (v := .slice (some ⟨g20, 0, none⟩) 3 c20) rfl (by kernel_rfl) (by kernel_rfl) (by kernel_rfl) (fun _ _ _ h => h) (Or.inl ⟨by rfl, fun W hSW => by have a0 := (hSW.cell (p := ⟨b20, 0, none⟩) lp20).trans p20; go_simp⟩) hHeld ?_
  simp only [Act.put, List.setIfInBounds_toArray, List.set_cons_zero, List.set_cons_succ]
  refine wpAnyH_take (i := 37) (oi := ⟨some 200, _, _, _, _, _⟩) (v := .pointer (some ⟨g20, 0, none⟩)) rfl (by kernel_rfl) (by kernel_rfl) (by kernel_rfl) (fun _ _ _ h => h) (Or.inl ⟨by rfl, fun W hSW => by go_simp⟩) hHeld ?_
  simp only [Act.put, List.setIfInBounds_toArray, List.set_cons_zero, List.set_cons_succ]
  refine wpAnyH_take (i := 38) (oi := ⟨some 201, _, _, _, _, _⟩) (v := .agg #[.int .i64 2, .int .u8 13, .int .u8 2]) rfl (by kernel_rfl) (by kernel_rfl) (by kernel_rfl) (fun _ _ _ h => h) (Or.inl ⟨by rfl, fun W hSW => by have a0 := (hSW.cell (p := ⟨g20, 0, none⟩) lr20).trans r20_0; have a1 := (hSW.cell (p := ⟨g20, 1, none⟩) lr20).trans r20_1; have a2 := (hSW.cell (p := ⟨g20, 2, none⟩) lr20).trans r20_2; go_simp⟩) hHeld ?_
  simp only [Act.put, List.setIfInBounds_toArray, List.set_cons_zero, List.set_cons_succ]
  refine wpAnyH_take (i := 39) (oi := ⟨some 202, _, _, _, _, _⟩) (v := .func (.func 20) #[] #[]) rfl (by kernel_rfl) (by kernel_rfl) (by kernel_rfl) (fun _ _ _ h => h) (Or.inl ⟨by rfl, fun W hSW => by go_simp⟩) hHeld ?_
  simp only [Act.put, List.setIfInBounds_toArray, List.set_cons_zero, List.set_cons_succ]
  refine wpAnyH_ready (rs := [40]) (by kernel_rfl) (by simp) ?_
  refine AllReadyH.cons (o := ⟨some 203, _, _, _, _, _⟩) rfl (fun K hK => ?_) AllReadyH.nil
  go_simp
  refine (wk_c (l := 2)).mono ?_
  rintro e w993 ⟨rfl, hb993⟩
  go_wp2_with fail
  refine hK.out _ _ (below_t hHeld hb993) (fun hHeld => ?_)
  clear hK K hb993
  refine wpAnyH_take (i := 41) (oi := ⟨some 204, _, _, _, _, _⟩) (v := .agg #[.int .i64 2, .int .u8 13, .int .u8 2]) rfl (by kernel_rfl) (by kernel_rfl) (by kernel_rfl) (fun _ _ _ h => h) (Or.inl ⟨by rfl, fun W hSW => by go_simp⟩) hHeld ?_
  simp only [Act.put, List.setIfInBounds_toArray, List.set_cons_zero, List.set_cons_succ]
  refine wpAnyH_take (i := 42) (oi := ⟨some 205, _, _, _, _, _⟩) (v := .bool true) rfl (by kernel_rfl) (by kernel_rfl) (by kernel_rfl) (fun _ _ _ h => h) (Or.inl ⟨by rfl, fun W hSW => by go_simp⟩) hHeld ?_
  simp only [Act.put, List.setIfInBounds_toArray, List.set_cons_zero, List.set_cons_succ]
  refine wpAnyH_take (i := 43) (oi := ⟨some 206, _, _, _, _, _⟩) (v := .bool true) rfl (by kernel_rfl) (by kernel_rfl) (by kernel_rfl) (fun _ _ _ h => h) (Or.inl ⟨by rfl, fun W hSW => by go_simp⟩) hHeld ?_
  simp only [Act.put, List.setIfInBounds_toArray, List.set_cons_zero, List.set_cons_succ]
  refine wpAnyH_take (i := 44) (oi := ⟨some 207, _, _, _, _, _⟩) (v := .bool true) rfl (by kernel_rfl) (by kernel_rfl) (by kernel_rfl) (fun _ _ _ h => h) (Or.inl ⟨by rfl, fun W hSW => by go_simp⟩) hHeld ?_
  simp only [Act.put, List.setIfInBounds_toArray, List.set_cons_zero, List.set_cons_succ]
  refine wpAnyH_take (i := 45) (oi := ⟨some 208, _, _, _, _, _⟩) (v := .pointer (some ⟨b20, 0, none⟩)) rfl (by kernel_rfl) (by kernel_rfl) (by kernel_rfl) (fun _ _ _ h => h) (Or.inl ⟨by rfl, fun W hSW => by go_simp⟩) hHeld ?_
  simp only [Act.put, List.setIfInBounds_toArray, List.set_cons_zero, List.set_cons_succ]
  refine wpAnyH_take (i := 46) (oi := ⟨some 209, _, _, _, _, _⟩) (v := .slice (some ⟨g20, 0, none⟩) 3 c20) rfl (by kernel_rfl) (by kernel_rfl) (by kernel_rfl) (fun _ _ _ h => h) (Or.inl ⟨by rfl, fun W hSW => by have a0 := (hSW.cell (p := ⟨b20, 0, none⟩) lp20).trans p20; go_simp⟩) hHeld ?_
  simp only [Act.put, List.setIfInBounds_toArray, List.set_cons_zero, List.set_cons_succ]
  refine wpAnyH_take (i := 47) (oi := ⟨some 210, _, _, _, _, _⟩) (v := .pointer (some ⟨g20, 3, none⟩)) rfl (by kernel_rfl) (by kernel_rfl) (by kernel_rfl) (fun _ _ _ h => h) (Or.inl ⟨by rfl, fun W hSW => by go_simp⟩) hHeld ?_
  simp only [Act.put, List.setIfInBounds_toArray, List.set_cons_zero, List.set_cons_succ]
  refine wpAnyH_take (i := 48) (oi := ⟨some 211, _, _, _, _, _⟩) (v := .pointer (some ⟨g20, 3, none⟩)) rfl (by kernel_rfl) (by kernel_rfl) (by kernel_rfl) (fun _ _ _ h => h) (Or.inl ⟨by rfl, fun W hSW => by go_simp⟩) hHeld ?_
  simp only [Act.put, List.setIfInBounds_toArray, List.set_cons_zero, List.set_cons_succ]
  refine wpAnyH_take (i := 49) (oi := ⟨some 212, _, _, _, _, _⟩) (v := .int .i64 3) rfl (by kernel_rfl) (by kernel_rfl) (by kernel_rfl) (fun _ _ _ h => h) (Or.inl ⟨by rfl, fun W hSW => by have a0 := (hSW.cell (p := ⟨g20, 3, none⟩) lr20).trans r20_3; go_simp⟩) hHeld ?_
  simp only [Act.put, List.setIfInBounds_toArray, List.set_cons_zero, List.set_cons_succ]
  refine wpAnyH_take (i := 50) (oi := ⟨some 213, _, _, _, _, _⟩) (v := .bool true) rfl (by kernel_rfl) (by kernel_rfl) (by kernel_rfl) (fun _ _ _ h => h) (Or.inl ⟨by rfl, fun W hSW => by go_simp⟩) hHeld ?_
  simp only [Act.put, List.setIfInBounds_toArray, List.set_cons_zero, List.set_cons_succ]
  refine wpAnyH_take (i := 51) (oi := ⟨some 214, _, _, _, _, _⟩) (v := .bool true) rfl (by kernel_rfl) (by kernel_rfl) (by kernel_rfl) (fun _ _ _ h => h) (Or.inl ⟨by rfl, fun W hSW => by go_simp⟩) hHeld ?_
  simp only [Act.put, List.setIfInBounds_toArray, List.set_cons_zero, List.set_cons_succ]
  refine wpAnyH_take (i := 52) (oi := ⟨some 215, _, _, _, _, _⟩) (v := .bool true) rfl (by kernel_rfl) (by kernel_rfl) (by kernel_rfl) (fun _ _ _ h => h) (Or.inl ⟨by rfl, fun W hSW => by go_simp⟩) hHeld ?_
  simp only [Act.put, List.setIfInBounds_toArray, List.set_cons_zero, List.set_cons_succ]
  refine wpAnyH_take (i := 53) (oi := ⟨some 216, _, _, _, _, _⟩) (v := .pointer (some ⟨b20, 0, none⟩)) rfl (by kernel_rfl) (by kernel_rfl) (by kernel_rfl) (fun _ _ _ h => h) (Or.inl ⟨by rfl, fun W hSW => by go_simp⟩) hHeld ?_
  simp only [Act.put, List.setIfInBounds_toArray, List.set_cons_zero, List.set_cons_succ]
  refine wpAnyH_take (i := 54) (oi := ⟨some 217, _, _, _, _, _⟩) (v := .slice (some ⟨g20, 0, none⟩) 3 c20) rfl (by kernel_rfl) (by kernel_rfl) (by kernel_rfl) (fun _ _ _ h => h) (Or.inl ⟨by rfl, fun W hSW => by have a0 := (hSW.cell (p := ⟨b20, 0, none⟩) lp20).trans p20; go_simp⟩) hHeld ?_
  simp only [Act.put, List.setIfInBounds_toArray, List.set_cons_zero, List.set_cons_succ]
  refine wpAnyH_take (i := 55) (oi := ⟨some 218, _, _, _, _, _⟩) (v := .pointer (some ⟨g20, 6, none⟩)) rfl (by kernel_rfl) (by kernel_rfl) (by kernel_rfl) (fun _ _ _ h => h) (Or.inl ⟨by rfl, fun W hSW => by go_simp⟩) hHeld ?_
  simp only [Act.put, List.setIfInBounds_toArray, List.set_cons_zero, List.set_cons_succ]
  refine wpAnyH_take (i := 56) (oi := ⟨some 219, _, _, _, _, _⟩) (v := .pointer (some ⟨g20, 6, none⟩)) rfl (by kernel_rfl) (by kernel_rfl) (by kernel_rfl) (fun _ _ _ h => h) (Or.inl ⟨by rfl, fun W hSW => by go_simp⟩) hHeld ?_
  simp only [Act.put, List.setIfInBounds_toArray, List.set_cons_zero, List.set_cons_succ]
  refine wpAnyH_take (i := 57) (oi := ⟨some 220, _, _, _, _, _⟩) (v := .int .i64 4) rfl (by kernel_rfl) (by kernel_rfl) (by kernel_rfl) (fun _ _ _ h => h) (Or.inl ⟨by rfl, fun W hSW => by have a0 := (hSW.cell (p := ⟨g20, 6, none⟩) lr20).trans r20_6; go_simp⟩) hHeld ?_
  simp only [Act.put, List.setIfInBounds_toArray, List.set_cons_zero, List.set_cons_succ]
  refine wpAnyH_take (i := 58) (oi := ⟨some 221, _, _, _, _, _⟩) (v := .bool true) rfl (by kernel_rfl) (by kernel_rfl) (by kernel_rfl) (fun _ _ _ h => h) (Or.inl ⟨by rfl, fun W hSW => by go_simp⟩) hHeld ?_
  simp only [Act.put, List.setIfInBounds_toArray, List.set_cons_zero, List.set_cons_succ]
  refine wpAnyH_take (i := 59) (oi := ⟨some 222, _, _, _, _, _⟩) (v := .bool true) rfl (by kernel_rfl) (by kernel_rfl) (by kernel_rfl) (fun _ _ _ h => h) (Or.inl ⟨by rfl, fun W hSW => by go_simp⟩) hHeld ?_
  simp only [Act.put, List.setIfInBounds_toArray, List.set_cons_zero, List.set_cons_succ]
  refine wpAnyH_take (i := 60) (oi := ⟨some 223, _, _, _, _, _⟩) (v := .bool true) rfl (by kernel_rfl) (by kernel_rfl) (by kernel_rfl) (fun _ _ _ h => h) (Or.inl ⟨by rfl, fun W hSW => by go_simp⟩) hHeld ?_
  simp only [Act.put, List.setIfInBounds_toArray, List.set_cons_zero, List.set_cons_succ]
  refine wpAnyH_ready (rs := [61]) (by kernel_rfl) (by simp) ?_
  refine AllReadyH.cons (o := ⟨some 224, _, _, _, _, _⟩) rfl (fun K hK => ?_) AllReadyH.nil
  go_simp
  refine (works_c (HT.out.below (below_t HB46.out hHeld))).mono ?_
  rintro e w994 ⟨rfl, hb994⟩
  go_wp2_with fail
  refine hK.out _ _ (below_t hHeld hb994) (fun hHeld => ?_)
  clear hK K hb994
  refine wpAnyH_take (i := 62) (oi := ⟨some 225, _, _, _, _, _⟩) (v := .bool true) rfl (by kernel_rfl) (by kernel_rfl) (by kernel_rfl) (fun _ _ _ h => h) (Or.inl ⟨by rfl, fun W hSW => by go_simp⟩) hHeld ?_
  simp only [Act.put, List.setIfInBounds_toArray, List.set_cons_zero, List.set_cons_succ]
  refine wpAnyH_take (i := 63) (oi := ⟨some 0, _, _, _, _, _⟩) (v := .bool true) rfl (by kernel_rfl) (by kernel_rfl) (by kernel_rfl) (fun _ _ _ h => h) (Or.inl ⟨by rfl, fun W hSW => by go_simp⟩) hHeld ?_
  simp only [Act.put, List.setIfInBounds_toArray, List.set_cons_zero, List.set_cons_succ]
  refine wpAnyH_done (by kernel_rfl) ?_ _
  refine NoPanic.normal ?_
  refine HeldP.then_named (S := fun W => Below w46.heap.size w46 W) hHeld ?_
  rintro w47 hbq
  clear p17 lp17 r17_0 r17_1 r17_2 lr17 p18 lp18 r18_0 r18_1 r18_2 lr18 p20 lp20 r20_0 r20_1 r20_2 r20_3 r20_4 r20_5 r20_6 r20_7 r20_8 lr20
  clear hHeld
  have HBZ := Lib.hid (below_t HB46.out hbq)
  clear hbq
  go_wp2_with fail
  go_ret
  exact ⟨rfl, HBZ.out⟩
end FlowW
end Go.Proofs.YtjdoglihebfamaaDoor
