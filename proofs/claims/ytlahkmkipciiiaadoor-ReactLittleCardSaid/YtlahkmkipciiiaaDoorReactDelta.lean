/-
  By how many more are movable behind a deed.
-/
import Derived.Test.YtlahkmkipciiiaaDoorReactMem
namespace Go.Proofs.YtlahkmkipciiiaaDoor
open Go.RowKit
set_option linter.unusedVariables false
set_option linter.unusedSimpArgs false
namespace ReactW
open BlkP RowG FrS PushG CellsW NearW BurnP BurnW ReactP DeedW

theorem yieldN {w : World} {a : Act} {o : Oper} {p : Nat} {n : Nr} {x : Operand} (ho : o.op = .load TN x) (hx : a.eval x = .pointer (some ⟨p, 0, none⟩)) (hk : Blk w p TN (vals n)) : (execOp a.eval o).run Tryd.prog w = .ok (.value (nv n)) w := by
  unfold execOp
  simp only [ho, hx, Instr.loadAt, Instr.sureAddr, Sem.run_bind, Sem.run_pure, Result.andThen_ok, run_loadN hk]
  rfl
theorem wrJ {x : Int} (h1 : -1000 ≤ x) (h2 : x ≤ 1000) : IntKind.i64.wrap x = x := BitsP.wrapI_small (by omega) (by omega)
theorem cnt_le7 (n : Nr) : 0 ≤ cnt n ∧ cnt n ≤ 7 := by
  have h := sum_le n.sd 6
  rw [sum_six] at h
  have a := one_le n.s
  unfold cnt
  omega
set_option maxRecDepth 100000 in
set_option maxHeartbeats 16000000 in
theorem Delta_c {w : World} {n : Nr} {A : Option Addr} {k c : Nat} {ag dl x : Int} {L : List (Int × Cl)} (hT : KindW.Tab w) (hR : Rd encZ w (.slice A k c) L) (hk : L.length = k) (hb : k ≤ 140737488355328) (hx : delta n L = x) :
    Calls Tryd.prog 16 #[nv n, .agg #[.slice A k c, .int .i64 ag, .int .i64 dl]] w fun e w' => e = .returned (.int .i64 x) ∧ Below w.heap.size w w' := by
  have HT := Lib.hid hT
  have HR := Lib.hid hR
  have HK := Lib.hid hk
  have HX := Lib.hid hx
  obtain ⟨xb, hxb⟩ : ∃ q, cnt (behind n L) = q := ⟨_, rfl⟩
  obtain ⟨xn, hxn⟩ : ∃ q, cnt n = q := ⟨_, rfl⟩
  have HXB := Lib.hid hxb
  have HXN := Lib.hid hxn
  have hb1' : 0 ≤ xb ∧ xb ≤ 7 := hxb ▸ cnt_le7 _
  have hn1' : 0 ≤ xn ∧ xn ≤ 7 := hxn ▸ cnt_le7 _
  obtain ⟨hb0, hb7⟩ := hb1'
  obtain ⟨hn0, hn7⟩ := hn1'
  have HE := Lib.hid (show xb - xn = x by rw [← hx, ← hxb, ← hxn]; rfl)
  obtain ⟨s, hs⟩ : ∃ s, w.heap.size = s := ⟨_, rfl⟩
  have HS := Lib.hid hs
  clear hT hR hk hx hxb hxn
  go_enter Tryd.func16, Tryd.ntmps16
  go_wp2_with ((with_reducible refine at_slot 2 ?_); refine Classical.byContradiction (fun hG => ?_))
  refine hG ?_
  clear hG
  refine wp_boxN rfl (.tmp 0) rfl rfl ?_
  intro w1 h1 hb1 hz1
  rw [hs] at h1 hz1
  try rw [hs]
  have HB1 := Lib.hid hb1
  have H1 := Lib.hid h1
  clear h1 hb1
  go_wp2_with fail
  refine HeldP.wp_named (S := fun W => Below w.heap.size w W ∧ Blk W s TN (vals n) ∧ Blk W (s + 1) TD [.slice A k c, .int .i64 ag, .int .i64 dl]) ⟨by have zz := HB1.out.size; (repeat' (first | (with_reducible exact Below.refl _ _) | (with_reducible refine Below.setCell ?_ (by (first | omega | (simp; done) | (simp; omega))) _) | (with_reducible refine Below.alloc ?_ (by (first | omega | (simp; done) | (simp; omega))) _) | (with_reducible refine Below.drew ?_) | (with_reducible refine below_drewN ?_ _) | (with_reducible refine Below.trans ?_ (Below.mono HB1.out (by (first | omega | (simp; done) | (simp; omega))))))), by (repeat' (first | (with_reducible exact H1.out) | (with_reducible refine BlkP.Blk.drew ?_) | (with_reducible refine BlkP.Blk.drewN ?_ _) | (with_reducible refine BlkP.Blk.setAt (us := ?_) (by first | omega | (simp; done) | (simp; omega)) rfl ?_ ?_) | (with_reducible refine BlkP.Blk.otherAt ?_ (by first | omega | (simp; done) | (simp; omega))) | (with_reducible refine BlkP.Blk.newA' (by first | omega | (simp; done) | (simp; omega)) rfl) | (with_reducible refine BlkP.Blk.alloc ?_ _) | (exact rfl))), by (repeat' (first | (with_reducible refine BlkP.Blk.drew ?_) | (with_reducible refine BlkP.Blk.drewN ?_ _) | (with_reducible refine BlkP.Blk.setAt (us := ?_) (by first | omega | (simp; done) | (simp; omega)) rfl ?_ ?_) | (with_reducible refine BlkP.Blk.otherAt ?_ (by first | omega | (simp; done) | (simp; omega))) | (with_reducible refine BlkP.Blk.newA' (by first | omega | (simp; done) | (simp; omega)) rfl) | (with_reducible refine BlkP.Blk.alloc ?_ _) | (exact rfl)))⟩ ?_
  rintro w5 ⟨hb5, h5, hd5⟩
  try rw [hz1]
  have HB5 := Lib.hid hb5
  have H5 := Lib.hid h5
  have d0 := hd5.cell (i := 0) rfl
  have d1 := hd5.cell (i := 1) rfl
  have d2 := hd5.cell (i := 2) rfl
  have ld := hd5.lt
  clear hb5 h5 hd5 hz1 hs
  refine wp_region_noPanic ?_
  refine wp_region_held_drew (S := fun W => Below w5.heap.size w5 W) (by kernel_rfl) ((Below.refl _ w5).drew) (fun hHeld => ?_)
  refine wpAnyH_take (i := 0) (oi := ⟨some 5, _, _, _, _, _⟩) (v := nv n) rfl (by kernel_rfl) (by kernel_rfl) (by kernel_rfl) (fun _ _ _ h => h) (Or.inl ⟨by rfl, fun W hSW => yieldN rfl rfl (H5.out.below hSW)⟩) hHeld ?_
  simp only [Act.put, List.setIfInBounds_toArray, List.set_cons_zero, List.set_cons_succ]
  refine wpAnyH_take (i := 1) (oi := ⟨some 6, _, _, _, _, _⟩) (v := .agg #[.slice A k c, .int .i64 ag, .int .i64 dl]) rfl (by kernel_rfl) (by kernel_rfl) (by kernel_rfl) (fun _ _ _ h => h) (Or.inl ⟨by rfl, fun W hSW => by have a0 := (hSW.cell (p := ⟨s + 1, 0, none⟩) ld).trans d0; have a1 := (hSW.cell (p := ⟨s + 1, 1, none⟩) ld).trans d1; have a2 := (hSW.cell (p := ⟨s + 1, 2, none⟩) ld).trans d2; go_simp⟩) hHeld ?_
  simp only [Act.put, List.setIfInBounds_toArray, List.set_cons_zero, List.set_cons_succ]
  refine wpAnyH_take (i := 4) (oi := ⟨some 9, _, _, _, _, _⟩) (v := nv n) rfl (by kernel_rfl) (by kernel_rfl) (by kernel_rfl) (fun _ _ _ h => h) (Or.inl ⟨by rfl, fun W hSW => yieldN rfl rfl (H5.out.below hSW)⟩) hHeld ?_
  simp only [Act.put, List.setIfInBounds_toArray, List.set_cons_zero, List.set_cons_succ]
  refine wpAnyH_ready (rs := [2]) (by kernel_rfl) (by simp) ?_
  refine AllReadyH.cons (o := ⟨some 7, _, _, _, _, _⟩) rfl (fun K hK => ?_) AllReadyH.nil
  go_simp
  refine (Behind_c (HR.out.below (below_t HB5.out hHeld)) HK.out hb).mono ?_
  rintro e w6 ⟨rfl, hb6⟩
  go_wp2_with fail
  refine hK.out _ _ (below_t hHeld hb6) (fun hHeld => ?_)
  clear hK K hb6
  refine wpAnyH_ready (rs := [3]) (by kernel_rfl) (by simp) ?_
  refine AllReadyH.cons (o := ⟨some 8, _, _, _, _, _⟩) rfl (fun K hK => ?_) AllReadyH.nil
  go_simp
  refine (movbs_c (HT.out.below (below_t HB5.out hHeld)) HXB.out).mono ?_
  rintro e w7 ⟨rfl, hb7⟩
  go_wp2_with fail
  refine hK.out _ _ (below_t hHeld hb7) (fun hHeld => ?_)
  clear hK K hb7
  refine wpAnyH_ready (rs := [5]) (by kernel_rfl) (by simp) ?_
  refine AllReadyH.cons (o := ⟨some 10, _, _, _, _, _⟩) rfl (fun K hK => ?_) AllReadyH.nil
  go_simp
  refine (movbs_c (HT.out.below (below_t HB5.out hHeld)) HXN.out).mono ?_
  rintro e w8 ⟨rfl, hb8⟩
  go_wp2_with fail
  refine hK.out _ _ (below_t hHeld hb8) (fun hHeld => ?_)
  clear hK K hb8
  refine wpAnyH_take (i := 6) (oi := ⟨some 11, _, _, _, _, _⟩) (v := .int .i64 (xb - xn)) rfl (by kernel_rfl) (by kernel_rfl) (by kernel_rfl) (fun _ _ _ h => h) (Or.inl ⟨by rfl, fun W hSW => by go_simp; try exact wrJ (by omega) (by omega)⟩) hHeld ?_
  simp only [Act.put, List.setIfInBounds_toArray, List.set_cons_zero, List.set_cons_succ]
  refine wpAnyH_take (i := 7) (oi := ⟨some 4, _, _, _, _, _⟩) (v := .int .i64 (xb - xn)) rfl (by kernel_rfl) (by kernel_rfl) (by kernel_rfl) (fun _ _ _ h => h) (Or.inl ⟨by rfl, fun W hSW => by go_simp⟩) hHeld ?_
  simp only [Act.put, List.setIfInBounds_toArray, List.set_cons_zero, List.set_cons_succ]
  refine wpAnyH_done (by kernel_rfl) ?_ _
  refine NoPanic.normal ?_
  refine HeldP.then_named (S := fun W => Below w5.heap.size w5 W) hHeld ?_
  rintro w9 hb9
  have HB9 := Lib.hid (below_t HB5.out hb9)
  clear hHeld hb9 d0 d1 d2 ld
  go_wp2_with fail
  go_ret
  exact ⟨congrArg (fun t => Ending.returned (.int .i64 t)) HE.out, HB9.out⟩
/-- By how many more are movable of the cell and the first j sides. -/
def dTo (n m : Nr) : Nat → Int
  | 0 => one m.s - one n.s
  | j + 1 => dTo n m j + one (m.sd j) - one (n.sd j)
theorem dTo_le (n m : Nr) : ∀ j : Nat, -((j : Int) + 1) ≤ dTo n m j ∧ dTo n m j ≤ (j : Int) + 1
  | 0 => by
    have a := one_le m.s
    have b := one_le n.s
    simp only [dTo]
    omega
  | j + 1 => by
    have h := dTo_le n m j
    have a := one_le (m.sd j)
    have b := one_le (n.sd j)
    simp only [dTo]
    omega
theorem dTo_six (n m : Nr) : dTo n m 6 = cnt m - cnt n := by
  simp only [dTo, cnt, cnt6]
  omega
set_option maxRecDepth 100000 in
set_option maxHeartbeats 16000000 in
theorem rDelta_c {w : World} {n : Nr} {A : Option Addr} {k c : Nat} {ag dl x : Int} {L : List (Int × Cl)} (hR : Rd encZ w (.slice A k c) L) (hk : L.length = k) (hb : k ≤ 140737488355328) (hx : delta n L = x) :
    Calls Tryd.prog 17 #[nv n, .agg #[.slice A k c, .int .i64 ag, .int .i64 dl]] w fun e w' => e = .returned (.int .i64 x) ∧ Below w.heap.size w w' := by
  have HR := Lib.hid hR
  have HK := Lib.hid hk
  have HX := Lib.hid hx
  obtain ⟨m, hm⟩ : ∃ m, behind n L = m := ⟨_, rfl⟩
  have HM := Lib.hid hm
  obtain ⟨⟨k0, l0⟩, hs0⟩ : ∃ c, n.s = c := ⟨_, rfl⟩
  have HS0 := Lib.hid hs0
  obtain ⟨⟨k1, l1⟩, hs1⟩ : ∃ c, m.s = c := ⟨_, rfl⟩
  have HS1 := Lib.hid hs1
  obtain ⟨o0, ho0⟩ : ∃ c, one (k0, l0) = c := ⟨_, rfl⟩
  obtain ⟨o1, ho1⟩ : ∃ c, one (k1, l1) = c := ⟨_, rfl⟩
  have HO0 := Lib.hid ho0
  have HO1 := Lib.hid ho1
  obtain ⟨p1, p2⟩ : 0 ≤ o0 ∧ o0 ≤ 1 := ho0 ▸ one_le _
  obtain ⟨p3, p4⟩ : 0 ≤ o1 ∧ o1 ≤ 1 := ho1 ▸ one_le _
  obtain ⟨s, hs⟩ : ∃ s, w.heap.size = s := ⟨_, rfl⟩
  have HS := Lib.hid hs
  clear hR hk hx hm hs0 hs1 ho0 ho1
  go_enter Tryd.func17, Tryd.ntmps17
  go_wp2_with ((with_reducible refine at_slot 2 ?_); refine Classical.byContradiction (fun hG => ?_))
  refine hG ?_
  clear hG
  refine wp_boxN rfl (.tmp 0) rfl rfl ?_
  intro w1 h1 hb1 hz1
  rw [hs] at h1 hz1
  try rw [hs]
  have HB1 := Lib.hid hb1
  have H1 := Lib.hid h1
  clear h1 hb1
  go_wp2_with ((with_reducible refine at_slot 8 ?_); refine Classical.byContradiction (fun hG => ?_))
  refine hG ?_
  clear hG
  refine list_named (S := fun W => Below w.heap.size w W ∧ Blk W s TN (vals n) ∧ Blk W (s + 1) TD [.slice A k c, .int .i64 ag, .int .i64 dl]) ⟨by have zz := HB1.out.size; (repeat' (first | (with_reducible exact Below.refl _ _) | (with_reducible refine Below.setCell ?_ (by (first | omega | (simp; done) | (simp; omega))) _) | (with_reducible refine Below.alloc ?_ (by (first | omega | (simp; done) | (simp; omega))) _) | (with_reducible refine Below.drew ?_) | (with_reducible refine below_drewN ?_ _) | (with_reducible refine Below.trans ?_ (Below.mono HB1.out (by (first | omega | (simp; done) | (simp; omega))))))), by (repeat' (first | (with_reducible exact H1.out) | (with_reducible refine BlkP.Blk.drew ?_) | (with_reducible refine BlkP.Blk.drewN ?_ _) | (with_reducible refine BlkP.Blk.setAt (us := ?_) (by first | omega | (simp; done) | (simp; omega)) rfl ?_ ?_) | (with_reducible refine BlkP.Blk.otherAt ?_ (by first | omega | (simp; done) | (simp; omega))) | (with_reducible refine BlkP.Blk.newA' (by first | omega | (simp; done) | (simp; omega)) rfl) | (with_reducible refine BlkP.Blk.alloc ?_ _) | (exact rfl))), by (repeat' (first | (with_reducible refine BlkP.Blk.drew ?_) | (with_reducible refine BlkP.Blk.drewN ?_ _) | (with_reducible refine BlkP.Blk.setAt (us := ?_) (by first | omega | (simp; done) | (simp; omega)) rfl ?_ ?_) | (with_reducible refine BlkP.Blk.otherAt ?_ (by first | omega | (simp; done) | (simp; omega))) | (with_reducible refine BlkP.Blk.newA' (by first | omega | (simp; done) | (simp; omega)) rfl) | (with_reducible refine BlkP.Blk.alloc ?_ _) | (exact rfl)))⟩ ?_
  rintro w2 ⟨hb2, h2, hd2⟩
  try rw [hz1]
  have HB2 := Lib.hid hb2
  have H2 := Lib.hid h2
  have d0 := hd2.cell (i := 0) rfl
  have d1 := hd2.cell (i := 1) rfl
  have d2 := hd2.cell (i := 2) rfl
  have ld := hd2.lt
  clear hb2 h2 hd2 hz1 hs
  refine wp_loadN rfl (.tmp 2) rfl rfl (n := n) H2.out ?_
  go_wp2_with fail
  refine (rBehind_c (HR.out.below HB2.out) HK.out hb).mono ?_
  rw [HM.out]
  rintro e w3 ⟨rfl, hb3⟩
  have HB3 := Lib.hid (below_t HB2.out hb3)
  have H3 := Lib.hid (H2.out.below hb3)
  obtain ⟨b, hbb⟩ : ∃ b, w3.heap.size = b := ⟨_, rfl⟩
  clear hb3 d0 d1 d2 ld
  go_wp2_with ((with_reducible refine at_storeN ?_); refine Classical.byContradiction (fun hG => ?_))
  refine hG ?_
  clear hG
  refine list_named (S := fun W => Below w.heap.size w W ∧ Blk W s TN (vals n) ∧ Blk W b TN (vals nz)) ⟨by have := HB3.out.size; (repeat' (first | (with_reducible exact Below.refl _ _) | (with_reducible refine Below.setCell ?_ (by (first | omega | (simp; done) | (simp; omega))) _) | (with_reducible refine Below.alloc ?_ (by (first | omega | (simp; done) | (simp; omega))) _) | (with_reducible refine Below.drew ?_) | (with_reducible refine below_drewN ?_ _) | (with_reducible refine Below.trans ?_ (Below.mono HB3.out (by (first | omega | (simp; done) | (simp; omega))))))), by (repeat' (first | (with_reducible exact H3.out) | (with_reducible refine BlkP.Blk.drew ?_) | (with_reducible refine BlkP.Blk.drewN ?_ _) | (with_reducible refine BlkP.Blk.setAt (us := ?_) (by first | omega | (simp; done) | (simp; omega)) rfl ?_ ?_) | (with_reducible refine BlkP.Blk.otherAt ?_ (by first | omega | (simp; done) | (simp; omega))) | (with_reducible refine BlkP.Blk.newA' (by first | omega | (simp; done) | (simp; omega)) rfl) | (with_reducible refine BlkP.Blk.alloc ?_ _) | (exact rfl))), by subst hbb; (repeat' (first | (with_reducible refine BlkP.Blk.drew ?_) | (with_reducible refine BlkP.Blk.drewN ?_ _) | (with_reducible refine BlkP.Blk.setAt (us := ?_) (by first | omega | (simp; done) | (simp; omega)) rfl ?_ ?_) | (with_reducible refine BlkP.Blk.otherAt ?_ (by first | omega | (simp; done) | (simp; omega))) | (with_reducible refine BlkP.Blk.newA' (by first | omega | (simp; done) | (simp; omega)) rfl) | (with_reducible refine BlkP.Blk.alloc ?_ _) | (exact rfl)))⟩ ?_
  rintro w4 ⟨hb4, h4, hn4⟩
  try rw [hbb]
  have hsb : s < b ∧ w.heap.size ≤ b := ⟨by have := H3.out.lt; omega, by have := HB3.out.size; omega⟩
  refine wp_storeN rfl (.tmp 5) (.tmp 10) rfl rfl (n := m) rfl hn4 rfl ?_
  intro w5 hm5 hg5 hz5
  have HB5 := Lib.hid (show Below w.heap.size w w5 from hb4.grown hg5 hb4.size (fun q hq => by injection hq with hq; omega))
  have H5 := Lib.hid (h4.grown hg5 (fun q => by injection q with q; omega))
  have HM5 := Lib.hid hm5
  have ls := H5.out.lt
  have lm := HM5.out.lt
  have c0 := H5.out.cell (i := 0) (g_kind n)
  have c1 := H5.out.cell (i := 1) (g_lev n)
  have e0 := hm5.cell (i := 0) (g_kind m)
  have e1 := hm5.cell (i := 1) (g_lev m)
  rw [HS0.out] at c0 c1
  rw [HS1.out] at e0 e1
  simp only at c0 c1 e0 e1
  clear hb4 h4 hn4 hm5 hg5 hz5 hbb
  go_wp2_with fail
  refine wp_region_noPanic ?_
  refine wp_region_held_drew (S := fun W => Below w5.heap.size w5 W) (by kernel_rfl) ((Below.refl _ w5).drew) (fun hHeld => ?_)
  refine wpAnyH_take (i := 0) (oi := ⟨some 11, _, _, _, _, _⟩) (v := .pointer (some ⟨b, 0, none⟩)) rfl (by kernel_rfl) (by kernel_rfl) (by kernel_rfl) (fun _ _ _ h => h) (Or.inl ⟨by rfl, fun W hSW => by go_simp⟩) hHeld ?_
  simp only [Act.put, List.setIfInBounds_toArray, List.set_cons_zero, List.set_cons_succ]
  refine wpAnyH_take (i := 1) (oi := ⟨some 12, _, _, _, _, _⟩) (v := .agg #[.int .u8 (k1 : Int), .int .u8 (l1 : Int)]) rfl (by kernel_rfl) (by kernel_rfl) (by kernel_rfl) (fun _ _ _ h => h) (Or.inl ⟨by rfl, fun W hSW => by have a0 := (hSW.cell (p := ⟨b, 0, none⟩) lm).trans e0; have a1 := (hSW.cell (p := ⟨b, 1, none⟩) lm).trans e1; go_simp⟩) hHeld ?_
  simp only [Act.put, List.setIfInBounds_toArray, List.set_cons_zero, List.set_cons_succ]
  refine wpAnyH_take (i := 3) (oi := ⟨some 14, _, _, _, _, _⟩) (v := .pointer (some ⟨s, 0, none⟩)) rfl (by kernel_rfl) (by kernel_rfl) (by kernel_rfl) (fun _ _ _ h => h) (Or.inl ⟨by rfl, fun W hSW => by go_simp⟩) hHeld ?_
  simp only [Act.put, List.setIfInBounds_toArray, List.set_cons_zero, List.set_cons_succ]
  refine wpAnyH_take (i := 4) (oi := ⟨some 15, _, _, _, _, _⟩) (v := .agg #[.int .u8 (k0 : Int), .int .u8 (l0 : Int)]) rfl (by kernel_rfl) (by kernel_rfl) (by kernel_rfl) (fun _ _ _ h => h) (Or.inl ⟨by rfl, fun W hSW => by have a0 := (hSW.cell (p := ⟨s, 0, none⟩) ls).trans c0; have a1 := (hSW.cell (p := ⟨s, 1, none⟩) ls).trans c1; go_simp⟩) hHeld ?_
  simp only [Act.put, List.setIfInBounds_toArray, List.set_cons_zero, List.set_cons_succ]
  refine wpAnyH_ready (rs := [2]) (by kernel_rfl) (by simp) ?_
  refine AllReadyH.cons (o := ⟨some 13, _, _, _, _, _⟩) rfl (fun K hK => ?_) AllReadyH.nil
  go_simp
  refine (rone_c HO1.out).mono ?_
  rintro e w6 ⟨rfl, hb6⟩
  go_wp2_with fail
  refine hK.out _ _ (below_t hHeld hb6) (fun hHeld => ?_)
  clear hK K hb6
  refine wpAnyH_ready (rs := [5]) (by kernel_rfl) (by simp) ?_
  refine AllReadyH.cons (o := ⟨some 16, _, _, _, _, _⟩) rfl (fun K hK => ?_) AllReadyH.nil
  go_simp
  refine (rone_c HO0.out).mono ?_
  rintro e w7 ⟨rfl, hb7⟩
  go_wp2_with fail
  refine hK.out _ _ (below_t hHeld hb7) (fun hHeld => ?_)
  clear hK K hb7
  refine wpAnyH_take (i := 6) (oi := ⟨some 17, _, _, _, _, _⟩) (v := .int .i64 (o1 - o0)) rfl (by kernel_rfl) (by kernel_rfl) (by kernel_rfl) (fun _ _ _ h => h) (Or.inl ⟨by rfl, fun W hSW => by go_simp; try exact wrJ (by omega) (by omega)⟩) hHeld ?_
  simp only [Act.put, List.setIfInBounds_toArray, List.set_cons_zero, List.set_cons_succ]
  refine wpAnyH_take (i := 7) (oi := ⟨some 6, _, _, _, _, _⟩) (v := .int .i64 (o1 - o0)) rfl (by kernel_rfl) (by kernel_rfl) (by kernel_rfl) (fun _ _ _ h => h) (Or.inl ⟨by rfl, fun W hSW => by go_simp⟩) hHeld ?_
  simp only [Act.put, List.setIfInBounds_toArray, List.set_cons_zero, List.set_cons_succ]
  refine wpAnyH_done (by kernel_rfl) ?_ _
  refine NoPanic.normal ?_
  refine HeldP.then_named (S := fun W => Below w5.heap.size w5 W) hHeld ?_
  rintro w6 hb6
  have HB6 := Lib.hid (below_t HB5.out hb6)
  have H6 := Lib.hid (H5.out.below hb6)
  have HM6 := Lib.hid (HM5.out.below hb6)
  have HD0 := Lib.hid (show dTo n m 0 = o1 - o0 from by simp only [dTo]; rw [HS0.out, HS1.out, HO0.out, HO1.out])
  clear hHeld hb6 c0 c1 e0 e1 ls lm
  go_wp2_with fail
  go_loopw [6, 7] (fun v6 v7 wr => ∃ j : Nat, v7 = .int .i64 (j : Nat) ∧ v6 = .int .i64 (dTo n m j) ∧ j ≤ 6 ∧ Below w6.heap.size w6 wr) (fun _ v _ => 6 - (intOf v).toNat)
  case atStart => exact ⟨0, rfl, by rw [HD0.out], by omega, Below.refl _ _⟩
  case round =>
    obtain ⟨j, rfl, rfl, hj, hbr⟩ := hrel
    have HBR := Lib.hid hbr
    have HB9 := Lib.hid (below_t HB6.out hbr)
    have h9 := H6.out.below hbr
    have hm9 := HM6.out.below hbr
    obtain ⟨q, hq⟩ : ∃ q, dTo n m j = q := ⟨_, rfl⟩
    have HQ := Lib.hid hq
    have hq1 : -8 ≤ q := by rw [← hq]; have := (dTo_le n m j).1; omega
    have hq2 : q ≤ 8 := by rw [← hq]; have := (dTo_le n m j).2; omega
    rw [hq]
    by_cases hjl : j < 6
    · have hjI : (j : Int) < 6 := by omega
      have hjD : decide (j < 6) = true := decide_eq_true hjl
      have hjT : decide ((j : Int) < 6) = true := decide_eq_true hjI
      have HWR := Lib.hid (show wrap64 ((j : Int) + 1) = ((j + 1 : Nat) : Int) by rw [wr64 (by omega) (by omega)]; omega)
      obtain ⟨⟨k2, l2⟩, hk2⟩ : ∃ c, n.sd j = c := ⟨_, rfl⟩
      obtain ⟨⟨k3, l3⟩, hk3⟩ : ∃ c, m.sd j = c := ⟨_, rfl⟩
      obtain ⟨o2, ho2⟩ : ∃ c, one (k2, l2) = c := ⟨_, rfl⟩
      obtain ⟨o3, ho3⟩ : ∃ c, one (k3, l3) = c := ⟨_, rfl⟩
      have HO2 := Lib.hid ho2
      have HO3 := Lib.hid ho3
      obtain ⟨p5, p6⟩ : 0 ≤ o2 ∧ o2 ≤ 1 := ho2 ▸ one_le _
      obtain ⟨p7, p8⟩ : 0 ≤ o3 ∧ o3 ≤ 1 := ho3 ▸ one_le _
      have HSUM := Lib.hid (show dTo n m (j + 1) = q + o3 - o2 from by simp only [dTo]; rw [hq, hk2, hk3, ho2, ho3])
      have c0 := h9.cell (g_sk n hjl)
      have c1 := h9.cell (g_sl n hjl)
      have e0 := hm9.cell (g_sk m hjl)
      have e1 := hm9.cell (g_sl m hjl)
      rw [hk2] at c0 c1
      rw [hk3] at e0 e1
      simp only at c0 c1 e0 e1
      have ls := h9.lt
      have lm := hm9.lt
      clear hbr hq hk2 hk3 ho2 ho3 h9 hm9
      go_wp2_with fail
      refine wp_region_noPanic ?_
      refine wp_region_held_drew (S := fun W => Below wr.heap.size wr W) (by kernel_rfl) ((Below.refl _ wr).drew) (fun hHeld => ?_)
      refine wpAnyH_take (i := 0) (oi := ⟨some 22, _, _, _, _, _⟩) (v := .int .i64 q) rfl (by kernel_rfl) (by kernel_rfl) (by kernel_rfl) (fun _ _ _ h => h) (Or.inl ⟨by rfl, fun W hSW => by go_simp⟩) hHeld ?_
      simp only [Act.put, List.setIfInBounds_toArray, List.set_cons_zero, List.set_cons_succ]
      refine wpAnyH_take (i := 1) (oi := ⟨some 23, _, _, _, _, _⟩) (v := .int .i64 (j : Int)) rfl (by kernel_rfl) (by kernel_rfl) (by kernel_rfl) (fun _ _ _ h => h) (Or.inl ⟨by rfl, fun W hSW => by go_simp⟩) hHeld ?_
      simp only [Act.put, List.setIfInBounds_toArray, List.set_cons_zero, List.set_cons_succ]
      refine wpAnyH_take (i := 2) (oi := ⟨some 24, _, _, _, _, _⟩) (v := .pointer (some ⟨b, 2, none⟩)) rfl (by kernel_rfl) (by kernel_rfl) (by kernel_rfl) (fun _ _ _ h => h) (Or.inl ⟨by rfl, fun W hSW => by go_simp⟩) hHeld ?_
      simp only [Act.put, List.setIfInBounds_toArray, List.set_cons_zero, List.set_cons_succ]
      refine wpAnyH_take (i := 3) (oi := ⟨some 25, _, _, _, _, _⟩) (v := .pointer (some ⟨b, 2 + j * 2, none⟩)) rfl (by kernel_rfl) (by kernel_rfl) (by kernel_rfl) (fun _ _ _ h => h) (Or.inl ⟨by rfl, fun W hSW => by go_simp⟩) hHeld ?_
      simp only [Act.put, List.setIfInBounds_toArray, List.set_cons_zero, List.set_cons_succ]
      refine wpAnyH_take (i := 4) (oi := ⟨some 26, _, _, _, _, _⟩) (v := .agg #[.int .u8 (k3 : Int), .int .u8 (l3 : Int)]) rfl (by kernel_rfl) (by kernel_rfl) (by kernel_rfl) (fun _ _ _ h => h) (Or.inl ⟨by rfl, fun W hSW => by have a0 := (hSW.cell (p := ⟨b, 2 + j * 2, none⟩) lm).trans e0; have a1 := (hSW.cell (p := ⟨b, 2 + j * 2 + 1, none⟩) lm).trans e1; go_simp⟩) hHeld ?_
      simp only [Act.put, List.setIfInBounds_toArray, List.set_cons_zero, List.set_cons_succ]
      refine wpAnyH_take (i := 7) (oi := ⟨some 29, _, _, _, _, _⟩) (v := .int .i64 (j : Int)) rfl (by kernel_rfl) (by kernel_rfl) (by kernel_rfl) (fun _ _ _ h => h) (Or.inl ⟨by rfl, fun W hSW => by go_simp⟩) hHeld ?_
      simp only [Act.put, List.setIfInBounds_toArray, List.set_cons_zero, List.set_cons_succ]
      refine wpAnyH_take (i := 8) (oi := ⟨some 30, _, _, _, _, _⟩) (v := .pointer (some ⟨s, 2, none⟩)) rfl (by kernel_rfl) (by kernel_rfl) (by kernel_rfl) (fun _ _ _ h => h) (Or.inl ⟨by rfl, fun W hSW => by go_simp⟩) hHeld ?_
      simp only [Act.put, List.setIfInBounds_toArray, List.set_cons_zero, List.set_cons_succ]
      refine wpAnyH_take (i := 9) (oi := ⟨some 31, _, _, _, _, _⟩) (v := .pointer (some ⟨s, 2 + j * 2, none⟩)) rfl (by kernel_rfl) (by kernel_rfl) (by kernel_rfl) (fun _ _ _ h => h) (Or.inl ⟨by rfl, fun W hSW => by go_simp⟩) hHeld ?_
      simp only [Act.put, List.setIfInBounds_toArray, List.set_cons_zero, List.set_cons_succ]
      refine wpAnyH_take (i := 10) (oi := ⟨some 32, _, _, _, _, _⟩) (v := .agg #[.int .u8 (k2 : Int), .int .u8 (l2 : Int)]) rfl (by kernel_rfl) (by kernel_rfl) (by kernel_rfl) (fun _ _ _ h => h) (Or.inl ⟨by rfl, fun W hSW => by have a0 := (hSW.cell (p := ⟨s, 2 + j * 2, none⟩) ls).trans c0; have a1 := (hSW.cell (p := ⟨s, 2 + j * 2 + 1, none⟩) ls).trans c1; go_simp⟩) hHeld ?_
      simp only [Act.put, List.setIfInBounds_toArray, List.set_cons_zero, List.set_cons_succ]
      refine wpAnyH_ready (rs := [5]) (by kernel_rfl) (by simp) ?_
      refine AllReadyH.cons (o := ⟨some 27, _, _, _, _, _⟩) rfl (fun K hK => ?_) AllReadyH.nil
      go_simp
      refine (rone_c HO3.out).mono ?_
      rintro e w7 ⟨rfl, hb7⟩
      go_wp2_with fail
      refine hK.out _ _ (below_t hHeld hb7) (fun hHeld => ?_)
      clear hK K hb7
      refine wpAnyH_take (i := 6) (oi := ⟨some 28, _, _, _, _, _⟩) (v := .int .i64 (q + o3)) rfl (by kernel_rfl) (by kernel_rfl) (by kernel_rfl) (fun _ _ _ h => h) (Or.inl ⟨by rfl, fun W hSW => by go_simp; try exact wrJ (by omega) (by omega)⟩) hHeld ?_
      simp only [Act.put, List.setIfInBounds_toArray, List.set_cons_zero, List.set_cons_succ]
      refine wpAnyH_ready (rs := [11]) (by kernel_rfl) (by simp) ?_
      refine AllReadyH.cons (o := ⟨some 33, _, _, _, _, _⟩) rfl (fun K hK => ?_) AllReadyH.nil
      go_simp
      refine (rone_c HO2.out).mono ?_
      rintro e w8 ⟨rfl, hb8⟩
      go_wp2_with fail
      refine hK.out _ _ (below_t hHeld hb8) (fun hHeld => ?_)
      clear hK K hb8
      refine wpAnyH_take (i := 12) (oi := ⟨some 34, _, _, _, _, _⟩) (v := .int .i64 (q + o3 - o2)) rfl (by kernel_rfl) (by kernel_rfl) (by kernel_rfl) (fun _ _ _ h => h) (Or.inl ⟨by rfl, fun W hSW => by go_simp; try exact wrJ (by omega) (by omega)⟩) hHeld ?_
      simp only [Act.put, List.setIfInBounds_toArray, List.set_cons_zero, List.set_cons_succ]
      refine wpAnyH_take (i := 13) (oi := ⟨some 6, _, _, _, _, _⟩) (v := .int .i64 (q + o3 - o2)) rfl (by kernel_rfl) (by kernel_rfl) (by kernel_rfl) (fun _ _ _ h => h) (Or.inl ⟨by rfl, fun W hSW => by go_simp⟩) hHeld ?_
      simp only [Act.put, List.setIfInBounds_toArray, List.set_cons_zero, List.set_cons_succ]
      refine wpAnyH_done (by kernel_rfl) ?_ _
      refine NoPanic.normal ?_
      have HB7 := Lib.hid (below_t HBR.out hHeld)
      clear hHeld c0 c1 e0 e1 ls lm
      go_wp2_with fail
      go_roundw
      case rel => exact ⟨j + 1, by first | rfl | rw [HWR.out] | (congr 1; omega), by rw [HSUM.out], by omega, HB7.out⟩
      case measure =>
        simp only [intOf]
        omega
    · have hjI : ¬ (j : Int) < 6 := by omega
      obtain rfl : j = 6 := by omega
      have HE := Lib.hid (show q = x from by rw [← HX.out, ← hq, dTo_six, ← HM.out]; rfl)
      clear hbr hq h9 hm9 hjl
      go_wp2_with fail
      go_ret
      exact ⟨congrArg (fun t => Ending.returned (.int .i64 t)) HE.out, HB9.out⟩
end ReactW
end Go.Proofs.YtlahkmkipciiiaaDoor


/-
  What is near, held against itself, whole; four cells that came in, as a block, loaded and stored (general).
-/
namespace Go.Proofs.YtlahkmkipciiiaaDoor
open Go.RowKit
set_option linter.unusedVariables false
set_option linter.unusedSimpArgs false
set_option maxRecDepth 100000
namespace ReactW
open BlkP RowG FrS PushG CellsW NearW BurnP BurnW ReactP DeedW
abbrev TU4 : TypeId := 25
abbrev T64 : TypeId := 26
theorem sizeU4 : (Tryd.prog.info? TU4).map (·.size) = some 8 := by kernel_rfl
theorem underU4 : Tryd.prog.underlying TU4 = some (.array 4 TC) := Tryd.underlying25
theorem under64 : Tryd.prog.underlying T64 = some (.int .u64) := Tryd.underlying26
theorem underNear : Tryd.prog.underlying TN = some (.struct (Tryd.prog.fieldsOf TN)) := by kernel_rfl
theorem stoodN : Tryd.prog.stoodInHeld TN = false := by kernel_rfl
theorem guardN : Tryd.prog.eqGuardType Tryd.prog.depth TN = false := by kernel_rfl
theorem fieldsN : (Tryd.prog.fieldsOf TN).toList.map (fun f => (f.name != "_", f.type, f.offset)) = [(true, TC, 0), (true, FlowW.TS6, 2), (true, TU4, 14), (true, FlowW.T8, 22), (true, T64, 23)] := by kernel_rfl
/-- A part of several cells. -/
theorem run_partA {T : TypeId} {k : Nat} (hs : (Tryd.prog.info? T).map (·.size) = some k) (hu : (match Tryd.prog.underlying T with | some (.struct _) => true | some (.array _ _) => true | _ => false) = true) (w : World) (xs : Array Value) (off : Nat) : (part T xs off).run Tryd.prog w = .ok (.agg (xs.extract off (off + k))) w := by
  cases hq : Tryd.prog.info? T with
  | none => simp [hq] at hs
  | some i =>
    have hs2 : i.size = k := by simpa [hq] using hs
    cases hqu : Tryd.prog.underlying T with
    | none => simp [hqu] at hu
    | some d =>
      have hagg : (isAgg T).run Tryd.prog w = .ok true w := by
        unfold isAgg
        rw [Sem.run_bind, run_underlying hqu w]
        cases d <;> simp_all
      simp only [part, Sem.run_bind, hagg, Result.andThen_ok]
      simp [sizeOf, typeInfo, hq, hs2]
theorem run_partI {T : TypeId} {k : IntKind} (hu : Tryd.prog.underlying T = some (.int k)) (w : World) {xs : Array Value} {off : Nat} {v : Value} (hv : xs[off]? = some v) : (part T xs off).run Tryd.prog w = .ok v w := by
  have hagg : (isAgg T).run Tryd.prog w = .ok false w := by
    unfold isAgg
    rw [Sem.run_bind, run_underlying hu w]
    simp
  simp [part, Sem.run_bind, hagg, hv]
def four (f : Nat → Cl) : List Cl := [f 0, f 1, f 2, f 3]
theorem ext_s (n : Nr) : (vals n).toArray.extract 0 (0 + 2) = #[.int .u8 (n.s.1 : Int), .int .u8 (n.s.2 : Int)] := by rfl
theorem ext_sd (n : Nr) : (vals n).toArray.extract 2 (2 + 12) = FlowW.arrC (six n.sd) := by rfl
theorem ext_un (n : Nr) : (vals n).toArray.extract 14 (14 + 8) = FlowW.arrC (four n.un) := by rfl
theorem get_lt (n : Nr) : (vals n).toArray[22]? = some (.int .u8 (n.lt : Int)) := by rfl
theorem get_dr (n : Nr) : (vals n).toArray[23]? = some (.int .u64 n.dr) := by rfl
theorem run_eqA (w : World) (d : Nat) {T : TypeId} {N : Nat} (hu : Tryd.prog.underlying T = some (.array N TC)) {C : List Cl} (hC : C.length = N) : (Op.equalIn (d + 3) T (.agg (FlowW.arrC C)) (.agg (FlowW.arrC C))).run Tryd.prog w = .ok true w := by
  cases hq : Tryd.prog.info? TC with
  | none => have hs := FlowW.sizeCell; simp [hq] at hs
  | some i =>
    rw [run_equalIn_array (P := Tryd.prog) w (d + 2) (FlowW.arrC C) (FlowW.arrC C) hu hq, FlowW.cellsCell, FlowW.run_eqItems (N := N) FlowW.sizeCell FlowW.underCell (fun w a b => FlowW.run_eqCell w d a b) w hC hC _ (fun i hi => by simpa using hi), FlowW.all_eq hC hC]
    simp
theorem run_eqN (w : World) (d : Nat) (n : Nr) : (Op.equalIn (d + 9) TN (nv n) (nv n)).run Tryd.prog w = .ok true w := by
  have h := run_equalIn_agg (P := Tryd.prog) w (d + 8) TN (vals n).toArray (vals n).toArray underNear stoodN
  unfold nv
  rw [h]
  have hf := fieldsN
  generalize (Tryd.prog.fieldsOf TN).toList = fs at hf ⊢
  have hl : fs.length = 5 := by simpa using congrArg List.length hf
  match fs, hl with
  | [f0, f1, f2, f3, f4], _ =>
    simp only [List.map_cons, List.map_nil, List.cons.injEq, Prod.mk.injEq, and_true] at hf
    obtain ⟨⟨n0, t0, o0⟩, ⟨n1, t1, o1⟩, ⟨n2, t2, o2⟩, ⟨n3, t3, o3⟩, n4, t4, o4⟩ := hf
    have m0 : f0.name ≠ "_" := by simpa using n0
    have m1 : f1.name ≠ "_" := by simpa using n1
    have m2 : f2.name ≠ "_" := by simpa using n2
    have m3 : f3.name ≠ "_" := by simpa using n3
    have m4 : f4.name ≠ "_" := by simpa using n4
    have p0 := run_partA FlowW.sizeCell (by kernel_rfl) w (vals n).toArray 0
    have p1 := run_partA FlowW.sizeS6 (by kernel_rfl) w (vals n).toArray 2
    have p2 := run_partA sizeU4 (by kernel_rfl) w (vals n).toArray 14
    have p3 := run_partI FlowW.under8 w (get_lt n)
    have p4 := run_partI under64 w (get_dr n)
    rw [ext_s] at p0
    rw [ext_sd] at p1
    rw [ext_un] at p2
    have q0 : (Op.equalIn (d + 8) TC (.agg #[.int .u8 (n.s.1 : Int), .int .u8 (n.s.2 : Int)]) (.agg #[.int .u8 (n.s.1 : Int), .int .u8 (n.s.2 : Int)])).run Tryd.prog w = .ok true w := by
      have := FlowW.run_eqCell w (d + 6) n.s n.s
      simpa [FlowW.cvl] using this
    have q1 := run_eqA w (d + 5) FlowW.underS6 (C := six n.sd) rfl
    have q2 := run_eqA w (d + 5) underU4 (C := four n.un) rfl
    have q3 : (Op.equalIn (d + 8) FlowW.T8 (.int .u8 (n.lt : Int)) (.int .u8 (n.lt : Int))).run Tryd.prog w = .ok true w := by
      rw [run_equalIn_int (P := Tryd.prog) w (d + 7) FlowW.T8 .u8 .u8 _ _ FlowW.under8]
      simp
    have q4 : (Op.equalIn (d + 8) T64 (.int .u64 n.dr) (.int .u64 n.dr)).run Tryd.prog w = .ok true w := by
      rw [run_equalIn_int (P := Tryd.prog) w (d + 7) T64 .u64 .u64 _ _ under64]
      simp
    simp only [Op.eqFields, m0, m1, m2, m3, m4, t0, o0, t1, o1, t2, o2, t3, o3, t4, o4, ne_eq, not_false_eq_true, if_true, Sem.run_bind, p0, p1, p2, p3, p4, q0, q1, q2, q3, q4, Result.andThen_ok, Bool.not_true, Bool.false_eq_true, if_false, Sem.run_pure]
/-- The comparison's own value. -/
theorem yieldEqN {w : World} {a : Act} {o : Oper} {n : Nr} {x y : Operand} {t : TypeId} (ho : o.op = .binOp .eql TN x y t) (hx : a.eval x = nv n) (hy : a.eval y = nv n) : (execOp a.eval o).run Tryd.prog w = .ok (.value (.bool true)) w := by
  have h1 := run_eql_struct (P := Tryd.prog) w TN (vals n).toArray (vals n).toArray
  have h0 := run_eqN w 9991 n
  unfold nv at h0
  rw [h0] at h1
  have h2 := run_eqGuard_agg (P := Tryd.prog) w .eql TN x y (vals n).toArray (vals n).toArray guardN
  unfold execOp
  simp only [ho, hx, hy, nv, Sem.run_bind, Sem.run_pure, h2, h1, Result.andThen_ok]
end ReactW
end Go.Proofs.YtlahkmkipciiiaaDoor


/-
  Two deeds held against each other: the reference's Same, the law's same, of any changes.
-/
namespace Go.Proofs.YtlahkmkipciiiaaDoor
open Go.RowKit
set_option linter.unusedVariables false
set_option linter.unusedSimpArgs false
namespace ReactW
open BlkP RowG FrS PushG CellsW NearW BurnP BurnW ReactP DeedW

theorem flat_zl (l : List (Nat × Cl)) : flat encZ (zl l) = flat encX l := by
  induction l with
  | nil => rfl
  | cons x r ih =>
    have h : flat encZ (zl (x :: r)) = encZ.f ((x.1 : Int), x.2) ++ flat encZ (zl r) := rfl
    rw [h, ih]
    rfl
/-- A row of changes, told by whole numbers. -/
theorem rd_z {w : World} {v : Value} {l : List (Nat × Cl)} (h : Rd encX w v l) : Rd encZ w v (zl l) := by
  obtain ⟨A, c, he, h1, h2, h3⟩ := h
  have hl : (zl l).length = l.length := by simp [zl]
  refine ⟨A, c, by rw [he, hl], by rw [hl]; exact h1, h2, fun hne => ?_⟩
  have hne2 : l ≠ [] := fun q => hne (by rw [q]; rfl)
  obtain ⟨b, o, hA, hb, hc⟩ := h3 hne2
  refine ⟨b, o, hA, hb, fun i x hx j u hu => ?_⟩
  unfold zl at hx
  rw [List.getElem?_map] at hx
  cases hq : l[i]? with
  | none =>
    rw [hq] at hx
    cases hx
  | some y =>
    rw [hq] at hx
    obtain rfl : ((y.1 : Int), y.2) = x := by injection hx
    exact hc i y hq j u hu
theorem zl_len (l : List (Nat × Cl)) : (zl l).length = l.length := by simp [zl]
set_option maxRecDepth 100000 in
set_option maxHeartbeats 16000000 in
theorem rsameZ_c {w : World} {A1 A2 : Option Addr} {n c1 c2 : Nat} {l : List (Int × Cl)} {ag dl : Int} (h1 : Rd encZ w (.slice A1 n c1) l) (h2 : Rd encZ w (.slice A2 n c2) l) (hn : l.length = n) (h4 : n ≤ 140737488355328) :
    Calls Tryd.prog 10 #[.agg #[.slice A1 n c1, .int .i64 ag, .int .i64 dl], .agg #[.slice A2 n c2, .int .i64 ag, .int .i64 dl]] w fun e w' => e = .returned (.bool true) ∧ Below w.heap.size w w' := by
  have HR1 := Lib.hid h1
  have HR2 := Lib.hid h2
  have HN := Lib.hid hn
  have H4 := Lib.hid h4
  clear h1 h2 hn h4
  go_enter Tryd.func10, Tryd.ntmps10
  go_wp2_with fail
  obtain ⟨s, hs⟩ : ∃ s, w.heap.size = s := ⟨_, rfl⟩
  refine HeldP.wp_named (S := fun W => Below w.heap.size w W ∧ Blk W s TD [.slice A1 n c1, .int .i64 ag, .int .i64 dl] ∧ Blk W (s + 1) TD [.slice A2 n c2, .int .i64 ag, .int .i64 dl]) ⟨by (repeat' (first | (with_reducible exact Below.refl _ _) | (with_reducible refine Below.setCell ?_ (by (first | omega | (simp; done) | (simp; omega))) _) | (with_reducible refine Below.alloc ?_ (by (first | omega | (simp; done) | (simp; omega))) _) | (with_reducible refine Below.drew ?_) | (with_reducible refine below_drewN ?_ _))), by subst hs; (repeat' (first | (with_reducible refine BlkP.Blk.drew ?_) | (with_reducible refine BlkP.Blk.drewN ?_ _) | (with_reducible refine BlkP.Blk.setAt (us := ?_) (by first | omega | (simp; done) | (simp; omega)) rfl ?_ ?_) | (with_reducible refine BlkP.Blk.otherAt ?_ (by first | omega | (simp; done) | (simp; omega))) | (with_reducible refine BlkP.Blk.newA' (by first | omega | (simp; done) | (simp; omega)) rfl) | (with_reducible refine BlkP.Blk.alloc ?_ _) | (exact rfl))), by subst hs; (repeat' (first | (with_reducible refine BlkP.Blk.drew ?_) | (with_reducible refine BlkP.Blk.drewN ?_ _) | (with_reducible refine BlkP.Blk.setAt (us := ?_) (by first | omega | (simp; done) | (simp; omega)) rfl ?_ ?_) | (with_reducible refine BlkP.Blk.otherAt ?_ (by first | omega | (simp; done) | (simp; omega))) | (with_reducible refine BlkP.Blk.newA' (by first | omega | (simp; done) | (simp; omega)) rfl) | (with_reducible refine BlkP.Blk.alloc ?_ _) | (exact rfl)))⟩ ?_
  rintro w1 ⟨hb1, hx1, hy1⟩
  have HB1 := Lib.hid hb1
  have HX1 := Lib.hid hx1
  have HY1 := Lib.hid hy1
  have HS := Lib.hid hs
  rw [hs]
  clear hb1 hx1 hy1 hs
  go_loopw [5] (fun v5 wr => ∃ j : Nat, v5 = .int .i64 (j : Nat) ∧ j ≤ n ∧ Below w1.heap.size w1 wr) (fun v _ => n - (intOf v).toNat)
  case atStart => exact ⟨0, rfl, by omega, Below.refl _ _⟩
  case round =>
    obtain ⟨j, rfl, hj, hbr⟩ := hrel
    have HBR := Lib.hid hbr
    have HX := Lib.hid (HX1.out.below hbr)
    have HY := Lib.hid (HY1.out.below hbr)
    have x0 := HX.out.cell (i := 0) rfl
    have y0 := HY.out.cell (i := 0) rfl
    have lx := HX.out.lt
    have ly := HY.out.lt
    by_cases hjl : j < n
    · have hjI : (j : Int) < (n : Int) := by omega
      have hj1 : (j : Int) < 140737488355328 := by have := H4.out; omega
      have hj2 : j < 140737488355328 := by have := H4.out; omega
      have HWR := Lib.hid (show wrap64 ((j : Int) + 1) = ((j + 1 : Nat) : Int) by rw [wr64 (by omega) (by have := H4.out; omega)]; omega)
      obtain ⟨⟨d, k, m⟩, hl⟩ : ∃ x, l[j]? = some x := ⟨_, List.getElem?_eq_getElem (by rw [HN.out]; exact hjl)⟩
      obtain ⟨b1, o1, hA1, hlt1, hc1⟩ := (HR1.out.below (below_t HB1.out hbr)).at hl
      obtain ⟨b2, o2, hA2, hlt2, hc2⟩ := (HR2.out.below (below_t HB1.out hbr)).at hl
      subst hA1
      subst hA2
      have p0 : wr.cell? ⟨b1, o1 + j * 3, none⟩ = some (.int .i64 d) := hc1 0 _ rfl
      have p1 : wr.cell? ⟨b1, o1 + j * 3 + 1, none⟩ = some (.int .u8 (k : Int)) := hc1 1 _ rfl
      have p2 : wr.cell? ⟨b1, o1 + j * 3 + 2, none⟩ = some (.int .u8 (m : Int)) := hc1 2 _ rfl
      have q0 : wr.cell? ⟨b2, o2 + j * 3, none⟩ = some (.int .i64 d) := hc2 0 _ rfl
      have q1 : wr.cell? ⟨b2, o2 + j * 3 + 1, none⟩ = some (.int .u8 (k : Int)) := hc2 1 _ rfl
      have q2 : wr.cell? ⟨b2, o2 + j * 3 + 2, none⟩ = some (.int .u8 (m : Int)) := hc2 2 _ rfl
      clear hc1 hc2 hbr hl
      go_wp2_with fail
      refine wp_region_noPanic ?_
      refine wp_region_held_drew (S := fun W => Below wr.heap.size wr W) (by kernel_rfl) ((Below.refl _ wr).drew) (fun hHeld => ?_)
      refine wpAnyH_take (i := 0) (oi := ⟨some 34, _, _, _, _, _⟩) (v := .pointer (some ⟨s, 0, none⟩)) rfl (by kernel_rfl) (by kernel_rfl) (by kernel_rfl) (fun _ _ _ h => h) (Or.inl ⟨by rfl, fun W hSW => by go_simp⟩) hHeld ?_
      simp only [Act.put, List.setIfInBounds_toArray, List.set_cons_zero, List.set_cons_succ]
      refine wpAnyH_take (i := 1) (oi := ⟨some 35, _, _, _, _, _⟩) (v := .slice (some ⟨b1, o1, none⟩) n c1) rfl (by kernel_rfl) (by kernel_rfl) (by kernel_rfl) (fun _ _ _ h => h) (Or.inl ⟨by rfl, fun W hSW => by have a0 := (hSW.cell (p := ⟨s, 0, none⟩) lx).trans x0; go_simp⟩) hHeld ?_
      simp only [Act.put, List.setIfInBounds_toArray, List.set_cons_zero, List.set_cons_succ]
      refine wpAnyH_take (i := 2) (oi := ⟨some 36, _, _, _, _, _⟩) (v := .int .i64 (j : Int)) rfl (by kernel_rfl) (by kernel_rfl) (by kernel_rfl) (fun _ _ _ h => h) (Or.inl ⟨by rfl, fun W hSW => by go_simp⟩) hHeld ?_
      simp only [Act.put, List.setIfInBounds_toArray, List.set_cons_zero, List.set_cons_succ]
      refine wpAnyH_take (i := 3) (oi := ⟨some 37, _, _, _, _, _⟩) (v := .pointer (some ⟨b1, o1 + j * 3, none⟩)) rfl (by kernel_rfl) (by kernel_rfl) (by kernel_rfl) (fun _ _ _ h => h) (Or.inl ⟨by rfl, fun W hSW => by go_simp⟩) hHeld ?_
      simp only [Act.put, List.setIfInBounds_toArray, List.set_cons_zero, List.set_cons_succ]
      refine wpAnyH_take (i := 4) (oi := ⟨some 38, _, _, _, _, _⟩) (v := .agg #[.int .i64 d, .int .u8 (k : Int), .int .u8 (m : Int)]) rfl (by kernel_rfl) (by kernel_rfl) (by kernel_rfl) (fun _ _ _ h => h) (Or.inl ⟨by rfl, fun W hSW => by have a0 := (hSW.cell (p := ⟨b1, o1 + j * 3, none⟩) hlt1).trans p0; have a1 := (hSW.cell (p := ⟨b1, o1 + j * 3 + 1, none⟩) hlt1).trans p1; have a2 := (hSW.cell (p := ⟨b1, o1 + j * 3 + 2, none⟩) hlt1).trans p2; go_simp⟩) hHeld ?_
      simp only [Act.put, List.setIfInBounds_toArray, List.set_cons_zero, List.set_cons_succ]
      refine wpAnyH_take (i := 5) (oi := ⟨some 39, _, _, _, _, _⟩) (v := .pointer (some ⟨s + 1, 0, none⟩)) rfl (by kernel_rfl) (by kernel_rfl) (by kernel_rfl) (fun _ _ _ h => h) (Or.inl ⟨by rfl, fun W hSW => by go_simp⟩) hHeld ?_
      simp only [Act.put, List.setIfInBounds_toArray, List.set_cons_zero, List.set_cons_succ]
      refine wpAnyH_take (i := 6) (oi := ⟨some 40, _, _, _, _, _⟩) (v := .slice (some ⟨b2, o2, none⟩) n c2) rfl (by kernel_rfl) (by kernel_rfl) (by kernel_rfl) (fun _ _ _ h => h) (Or.inl ⟨by rfl, fun W hSW => by have a0 := (hSW.cell (p := ⟨s + 1, 0, none⟩) ly).trans y0; go_simp⟩) hHeld ?_
      simp only [Act.put, List.setIfInBounds_toArray, List.set_cons_zero, List.set_cons_succ]
      refine wpAnyH_take (i := 7) (oi := ⟨some 41, _, _, _, _, _⟩) (v := .int .i64 (j : Int)) rfl (by kernel_rfl) (by kernel_rfl) (by kernel_rfl) (fun _ _ _ h => h) (Or.inl ⟨by rfl, fun W hSW => by go_simp⟩) hHeld ?_
      simp only [Act.put, List.setIfInBounds_toArray, List.set_cons_zero, List.set_cons_succ]
      refine wpAnyH_take (i := 8) (oi := ⟨some 42, _, _, _, _, _⟩) (v := .pointer (some ⟨b2, o2 + j * 3, none⟩)) rfl (by kernel_rfl) (by kernel_rfl) (by kernel_rfl) (fun _ _ _ h => h) (Or.inl ⟨by rfl, fun W hSW => by go_simp⟩) hHeld ?_
      simp only [Act.put, List.setIfInBounds_toArray, List.set_cons_zero, List.set_cons_succ]
      refine wpAnyH_take (i := 9) (oi := ⟨some 43, _, _, _, _, _⟩) (v := .agg #[.int .i64 d, .int .u8 (k : Int), .int .u8 (m : Int)]) rfl (by kernel_rfl) (by kernel_rfl) (by kernel_rfl) (fun _ _ _ h => h) (Or.inl ⟨by rfl, fun W hSW => by have a0 := (hSW.cell (p := ⟨b2, o2 + j * 3, none⟩) hlt2).trans q0; have a1 := (hSW.cell (p := ⟨b2, o2 + j * 3 + 1, none⟩) hlt2).trans q1; have a2 := (hSW.cell (p := ⟨b2, o2 + j * 3 + 2, none⟩) hlt2).trans q2; go_simp⟩) hHeld ?_
      simp only [Act.put, List.setIfInBounds_toArray, List.set_cons_zero, List.set_cons_succ]
      refine wpAnyH_take (i := 10) (oi := ⟨some 44, _, _, _, _, _⟩) (v := .bool false) rfl (by kernel_rfl) (by kernel_rfl) (by kernel_rfl) (fun _ _ _ h => h) (Or.inl ⟨by rfl, fun W hSW => by go_simp⟩) hHeld ?_
      simp only [Act.put, List.setIfInBounds_toArray, List.set_cons_zero, List.set_cons_succ]
      refine wpAnyH_done (by kernel_rfl) ?_ _
      refine NoPanic.normal ?_
      refine HeldP.then_named (S := fun W => Below wr.heap.size wr W) hHeld ?_
      rintro X0 hx0
      have HX0 := Lib.hid (below_t HBR.out hx0)
      clear hHeld hx0 x0 y0 lx ly p0 p1 p2 q0 q1 q2
      go_wp2_with fail
      go_roundw
      case rel => exact ⟨j + 1, by first | rfl | rw [HWR.out] | (congr 1; omega), by omega, HX0.out⟩
      case measure =>
        simp only [intOf]
        omega
    · have hjI : ¬ (j : Int) < (n : Int) := by omega
      clear hbr
      go_wp2_with fail
      go_ret
      exact ⟨rfl, below_t HB1.out HBR.out⟩
set_option maxRecDepth 100000 in
set_option maxHeartbeats 16000000 in
theorem lsameZ_c {w : World} {A1 A2 : Option Addr} {n c1 c2 : Nat} {l : List (Int × Cl)} {ag dl : Int} (h1 : Rd encZ w (.slice A1 n c1) l) (h2 : Rd encZ w (.slice A2 n c2) l) (hn : l.length = n) (h4 : n ≤ 140737488355328) :
    Calls Tryd.prog 19 #[.agg #[.slice A1 n c1, .int .i64 ag, .int .i64 dl], .agg #[.slice A2 n c2, .int .i64 ag, .int .i64 dl]] w fun e w' => e = .returned (.bool true) ∧ Below w.heap.size w w' := by
  have HR1 := Lib.hid h1
  have HR2 := Lib.hid h2
  have HN := Lib.hid hn
  have H4 := Lib.hid h4
  clear h1 h2 hn h4
  go_enter Tryd.func19, Tryd.ntmps19
  go_wp2_with fail
  obtain ⟨s, hs⟩ : ∃ s, w.heap.size = s := ⟨_, rfl⟩
  refine HeldP.wp_named (S := fun W => Below w.heap.size w W ∧ Blk W s TD [.slice A1 n c1, .int .i64 ag, .int .i64 dl] ∧ Blk W (s + 1) TD [.slice A2 n c2, .int .i64 ag, .int .i64 dl]) ⟨by (repeat' (first | (with_reducible exact Below.refl _ _) | (with_reducible refine Below.setCell ?_ (by (first | omega | (simp; done) | (simp; omega))) _) | (with_reducible refine Below.alloc ?_ (by (first | omega | (simp; done) | (simp; omega))) _) | (with_reducible refine Below.drew ?_) | (with_reducible refine below_drewN ?_ _))), by subst hs; (repeat' (first | (with_reducible refine BlkP.Blk.drew ?_) | (with_reducible refine BlkP.Blk.drewN ?_ _) | (with_reducible refine BlkP.Blk.setAt (us := ?_) (by first | omega | (simp; done) | (simp; omega)) rfl ?_ ?_) | (with_reducible refine BlkP.Blk.otherAt ?_ (by first | omega | (simp; done) | (simp; omega))) | (with_reducible refine BlkP.Blk.newA' (by first | omega | (simp; done) | (simp; omega)) rfl) | (with_reducible refine BlkP.Blk.alloc ?_ _) | (exact rfl))), by subst hs; (repeat' (first | (with_reducible refine BlkP.Blk.drew ?_) | (with_reducible refine BlkP.Blk.drewN ?_ _) | (with_reducible refine BlkP.Blk.setAt (us := ?_) (by first | omega | (simp; done) | (simp; omega)) rfl ?_ ?_) | (with_reducible refine BlkP.Blk.otherAt ?_ (by first | omega | (simp; done) | (simp; omega))) | (with_reducible refine BlkP.Blk.newA' (by first | omega | (simp; done) | (simp; omega)) rfl) | (with_reducible refine BlkP.Blk.alloc ?_ _) | (exact rfl)))⟩ ?_
  rintro w1 ⟨hb1, hx1, hy1⟩
  have HB1 := Lib.hid hb1
  have HX1 := Lib.hid hx1
  have HY1 := Lib.hid hy1
  have HS := Lib.hid hs
  rw [hs]
  clear hb1 hx1 hy1 hs
  go_loopw [5] (fun v5 wr => ∃ j : Nat, v5 = .int .i64 (j : Nat) ∧ j ≤ n ∧ Below w1.heap.size w1 wr) (fun v _ => n - (intOf v).toNat)
  case atStart => exact ⟨0, rfl, by omega, Below.refl _ _⟩
  case round =>
    obtain ⟨j, rfl, hj, hbr⟩ := hrel
    have HBR := Lib.hid hbr
    have HX := Lib.hid (HX1.out.below hbr)
    have HY := Lib.hid (HY1.out.below hbr)
    have x0 := HX.out.cell (i := 0) rfl
    have y0 := HY.out.cell (i := 0) rfl
    have lx := HX.out.lt
    have ly := HY.out.lt
    by_cases hjl : j < n
    · have hjI : (j : Int) < (n : Int) := by omega
      have hj1 : (j : Int) < 140737488355328 := by have := H4.out; omega
      have hj2 : j < 140737488355328 := by have := H4.out; omega
      have HWR := Lib.hid (show wrap64 ((j : Int) + 1) = ((j + 1 : Nat) : Int) by rw [wr64 (by omega) (by have := H4.out; omega)]; omega)
      obtain ⟨⟨d, k, m⟩, hl⟩ : ∃ x, l[j]? = some x := ⟨_, List.getElem?_eq_getElem (by rw [HN.out]; exact hjl)⟩
      obtain ⟨b1, o1, hA1, hlt1, hc1⟩ := (HR1.out.below (below_t HB1.out hbr)).at hl
      obtain ⟨b2, o2, hA2, hlt2, hc2⟩ := (HR2.out.below (below_t HB1.out hbr)).at hl
      subst hA1
      subst hA2
      have p0 : wr.cell? ⟨b1, o1 + j * 3, none⟩ = some (.int .i64 d) := hc1 0 _ rfl
      have p1 : wr.cell? ⟨b1, o1 + j * 3 + 1, none⟩ = some (.int .u8 (k : Int)) := hc1 1 _ rfl
      have p2 : wr.cell? ⟨b1, o1 + j * 3 + 2, none⟩ = some (.int .u8 (m : Int)) := hc1 2 _ rfl
      have q0 : wr.cell? ⟨b2, o2 + j * 3, none⟩ = some (.int .i64 d) := hc2 0 _ rfl
      have q1 : wr.cell? ⟨b2, o2 + j * 3 + 1, none⟩ = some (.int .u8 (k : Int)) := hc2 1 _ rfl
      have q2 : wr.cell? ⟨b2, o2 + j * 3 + 2, none⟩ = some (.int .u8 (m : Int)) := hc2 2 _ rfl
      clear hc1 hc2 hbr hl
      go_wp2_with fail
      refine wp_region_noPanic ?_
      refine wp_region_held_drew (S := fun W => Below wr.heap.size wr W) (by kernel_rfl) ((Below.refl _ wr).drew) (fun hHeld => ?_)
      refine wpAnyH_take (i := 0) (oi := ⟨some 34, _, _, _, _, _⟩) (v := .pointer (some ⟨s, 0, none⟩)) rfl (by kernel_rfl) (by kernel_rfl) (by kernel_rfl) (fun _ _ _ h => h) (Or.inl ⟨by rfl, fun W hSW => by go_simp⟩) hHeld ?_
      simp only [Act.put, List.setIfInBounds_toArray, List.set_cons_zero, List.set_cons_succ]
      refine wpAnyH_take (i := 1) (oi := ⟨some 35, _, _, _, _, _⟩) (v := .slice (some ⟨b1, o1, none⟩) n c1) rfl (by kernel_rfl) (by kernel_rfl) (by kernel_rfl) (fun _ _ _ h => h) (Or.inl ⟨by rfl, fun W hSW => by have a0 := (hSW.cell (p := ⟨s, 0, none⟩) lx).trans x0; go_simp⟩) hHeld ?_
      simp only [Act.put, List.setIfInBounds_toArray, List.set_cons_zero, List.set_cons_succ]
      refine wpAnyH_take (i := 2) (oi := ⟨some 36, _, _, _, _, _⟩) (v := .int .i64 (j : Int)) rfl (by kernel_rfl) (by kernel_rfl) (by kernel_rfl) (fun _ _ _ h => h) (Or.inl ⟨by rfl, fun W hSW => by go_simp⟩) hHeld ?_
      simp only [Act.put, List.setIfInBounds_toArray, List.set_cons_zero, List.set_cons_succ]
      refine wpAnyH_take (i := 3) (oi := ⟨some 37, _, _, _, _, _⟩) (v := .pointer (some ⟨b1, o1 + j * 3, none⟩)) rfl (by kernel_rfl) (by kernel_rfl) (by kernel_rfl) (fun _ _ _ h => h) (Or.inl ⟨by rfl, fun W hSW => by go_simp⟩) hHeld ?_
      simp only [Act.put, List.setIfInBounds_toArray, List.set_cons_zero, List.set_cons_succ]
      refine wpAnyH_take (i := 4) (oi := ⟨some 38, _, _, _, _, _⟩) (v := .agg #[.int .i64 d, .int .u8 (k : Int), .int .u8 (m : Int)]) rfl (by kernel_rfl) (by kernel_rfl) (by kernel_rfl) (fun _ _ _ h => h) (Or.inl ⟨by rfl, fun W hSW => by have a0 := (hSW.cell (p := ⟨b1, o1 + j * 3, none⟩) hlt1).trans p0; have a1 := (hSW.cell (p := ⟨b1, o1 + j * 3 + 1, none⟩) hlt1).trans p1; have a2 := (hSW.cell (p := ⟨b1, o1 + j * 3 + 2, none⟩) hlt1).trans p2; go_simp⟩) hHeld ?_
      simp only [Act.put, List.setIfInBounds_toArray, List.set_cons_zero, List.set_cons_succ]
      refine wpAnyH_take (i := 5) (oi := ⟨some 39, _, _, _, _, _⟩) (v := .pointer (some ⟨s + 1, 0, none⟩)) rfl (by kernel_rfl) (by kernel_rfl) (by kernel_rfl) (fun _ _ _ h => h) (Or.inl ⟨by rfl, fun W hSW => by go_simp⟩) hHeld ?_
      simp only [Act.put, List.setIfInBounds_toArray, List.set_cons_zero, List.set_cons_succ]
      refine wpAnyH_take (i := 6) (oi := ⟨some 40, _, _, _, _, _⟩) (v := .slice (some ⟨b2, o2, none⟩) n c2) rfl (by kernel_rfl) (by kernel_rfl) (by kernel_rfl) (fun _ _ _ h => h) (Or.inl ⟨by rfl, fun W hSW => by have a0 := (hSW.cell (p := ⟨s + 1, 0, none⟩) ly).trans y0; go_simp⟩) hHeld ?_
      simp only [Act.put, List.setIfInBounds_toArray, List.set_cons_zero, List.set_cons_succ]
      refine wpAnyH_take (i := 7) (oi := ⟨some 41, _, _, _, _, _⟩) (v := .int .i64 (j : Int)) rfl (by kernel_rfl) (by kernel_rfl) (by kernel_rfl) (fun _ _ _ h => h) (Or.inl ⟨by rfl, fun W hSW => by go_simp⟩) hHeld ?_
      simp only [Act.put, List.setIfInBounds_toArray, List.set_cons_zero, List.set_cons_succ]
      refine wpAnyH_take (i := 8) (oi := ⟨some 42, _, _, _, _, _⟩) (v := .pointer (some ⟨b2, o2 + j * 3, none⟩)) rfl (by kernel_rfl) (by kernel_rfl) (by kernel_rfl) (fun _ _ _ h => h) (Or.inl ⟨by rfl, fun W hSW => by go_simp⟩) hHeld ?_
      simp only [Act.put, List.setIfInBounds_toArray, List.set_cons_zero, List.set_cons_succ]
      refine wpAnyH_take (i := 9) (oi := ⟨some 43, _, _, _, _, _⟩) (v := .agg #[.int .i64 d, .int .u8 (k : Int), .int .u8 (m : Int)]) rfl (by kernel_rfl) (by kernel_rfl) (by kernel_rfl) (fun _ _ _ h => h) (Or.inl ⟨by rfl, fun W hSW => by have a0 := (hSW.cell (p := ⟨b2, o2 + j * 3, none⟩) hlt2).trans q0; have a1 := (hSW.cell (p := ⟨b2, o2 + j * 3 + 1, none⟩) hlt2).trans q1; have a2 := (hSW.cell (p := ⟨b2, o2 + j * 3 + 2, none⟩) hlt2).trans q2; go_simp⟩) hHeld ?_
      simp only [Act.put, List.setIfInBounds_toArray, List.set_cons_zero, List.set_cons_succ]
      refine wpAnyH_take (i := 10) (oi := ⟨some 44, _, _, _, _, _⟩) (v := .bool false) rfl (by kernel_rfl) (by kernel_rfl) (by kernel_rfl) (fun _ _ _ h => h) (Or.inl ⟨by rfl, fun W hSW => by go_simp⟩) hHeld ?_
      simp only [Act.put, List.setIfInBounds_toArray, List.set_cons_zero, List.set_cons_succ]
      refine wpAnyH_done (by kernel_rfl) ?_ _
      refine NoPanic.normal ?_
      refine HeldP.then_named (S := fun W => Below wr.heap.size wr W) hHeld ?_
      rintro X0 hx0
      have HX0 := Lib.hid (below_t HBR.out hx0)
      clear hHeld hx0 x0 y0 lx ly p0 p1 p2 q0 q1 q2
      go_wp2_with fail
      go_roundw
      case rel => exact ⟨j + 1, by first | rfl | rw [HWR.out] | (congr 1; omega), by omega, HX0.out⟩
      case measure =>
        simp only [intOf]
        omega
    · have hjI : ¬ (j : Int) < (n : Int) := by omega
      clear hbr
      go_wp2_with fail
      go_ret
      exact ⟨rfl, below_t HB1.out HBR.out⟩
end ReactW
end Go.Proofs.YtlahkmkipciiiaaDoor
